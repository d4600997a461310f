/-
  What the claimed theorem reaches, part Q42.
-/
import Derived.Test.YtklnhinjmlglcaaGreatDoorQ16
import Derived.Test.YtklnhinjmlglcaaGreatDoorQ14
import Derived.Test.YtklnhinjmlglcaaGreatDoorQ00
import Derived.Test.YtklnhinjmlglcaaGreatDoorQ41
import Derived.Test.YtklnhinjmlglcaaGreatDoorQ25
import Derived.Deep.RegionHeld3
namespace Go.Proofs.YtklnhinjmlglcaaGreatDoor
open Go.RowKit
set_option maxRecDepth 100000
set_option maxHeartbeats 8000000
def FitV (l:List Sp) (most:Nat) (e:Ending):Prop:=∃b,e=.returned (.bool b)/\(b=true->l.length<=most/\∀x ∈ l,x.ru.length<=30)
theorem fit_any (v:Value) (l:List Sp) (most:Nat) (w:World) (h:SpsI w v l) :
  Calls Tryz.prog 5 #[v,most] w fun e w'=>FitV l most e/\w'=w:=by
 obtain⟨p,cap,rfl,hmx,hl⟩:=h
 unfold maxLen at hmx
 have hm1:(l.length:Int)<=9223372036854775807:=by omega
 clear hmx
 have HL:Hid (∀(i:Nat) x,l[i]? = some x->SpOk w x/\∃b o,p=some ⟨b,o,none⟩/\∀(j:Nat) u,(spC x)[j]? = some u->w.cell? ⟨b,o+i * 10+j,none⟩=some u):=hl
 clear hl
 go_enter Tryz.func5,Tryz.ntmps5
 go_wp2_with fail
 go_loop [5] (fun t=>∃i:Nat,i<=l.length/\t=.int .i64 i/\∀(j:Nat) x,j < i->l[j]? = some x->x.ru.length<=30) (fun t=>l.length - (intOf t).toNat)
 case atStart=>exact⟨0,by omega,rfl,fun j x hj _=>by omega⟩
 case round =>
  obtain⟨i,hi,rfl,hall⟩:=hrel
  have HA:Hid (∀(j:Nat) x,j < i->l[j]? = some x->x.ru.length<=30):=hall
  clear hall
  by_cases hlt:i < l.length
  ·have i0:(0:Int)<=(i:Int):=by omega
   have i1:(i:Int) < (l.length:Int):=by omega
   obtain⟨x,hx⟩:∃x,l[i]? = some x:=⟨l[i],List.getElem?_eq_getElem hlt⟩
   obtain⟨ok,b,o,rfl,hc⟩:=HL.out i x hx
   obtain⟨rp,rc,hrv,_⟩:=ok.ru.open
   have c9:w.cell? (b,o+i * 10+9)=some (.slice rp x.ru.length rc):=hc 9 _ (by rw[<- hrv];rfl)
   have HX:Hid (l[i]? = some x):=hx
   clear ok hc hrv hx
   have i2:(i:Int)+1<=9223372036854775807:=by omega
   by_cases h30:(30:Int) < (x.ru.length:Int)
   ·go_wp2_with fail
    go_ret
    exact⟨⟨false,rfl,fun e=>by cases e⟩,rfl⟩
   ·go_wp2_with fail
    exact⟨⟨i+1,by omega,by go_num,fun j y hj hy=>by
     by_cases e:j=i
     ·subst e;rw[HX.out]at hy;cases hy;omega
     ·exact HA j y (by omega) hy⟩,by simp[intOf];omega⟩
  ·obtain rfl:i=l.length:=by omega
   go_wp2_with fail
   go_ret
   refine⟨⟨_,rfl,fun e=>⟨?_,fun x hx=>?_⟩⟩,rfl⟩
   ·have:=of_decide_eq_true e;omega
   ·obtain⟨j,hj⟩:=List.getElem?_of_mem hx
    exact HA j x (List.getElem?_eq_some_iff.1 hj).1 hj
theorem PI.mono {q q':Nat} {W:Wo} (h:PI q W) (hq:q<=q'):PI q' W:=⟨h.i.mono (by omega),h.l⟩
theorem PI.born {l:List Rl} (hr:RulesOk l):PI 0 (Wo.born l):=⟨In.born hr,Lv.born hr⟩
theorem ChkV.belowW {s:Nat->Addr} {w w':World} {l:List Rl} {v:Value} (h:ChkV s w l v) (hb:Below w w w'):ChkV s w' l v:=by
 rcases h with h | h | ⟨h1,i,g,h2,h3,h4,h5⟩
 ·exact .inl h
 ·exact .inr (.inl h)
 ·exact .inr (.inr ⟨h1,i,g,h2,h3,tk hb h4,tk hb h5⟩)
theorem steps_law (v0:Value) (rl:List Rl) (v1:Value) (l:List Sp) (s:Nat->Addr) (w:World) (S:Sents w s) (R:Sl w v0 rl) (L:SpsI w v1 l) :
  Calls Tryz.prog 3 #[v0,v1] w fun e w'=>e=.returned (.bool true)/\Below w w w':=by
 obtain⟨rp,rc,rfl,rul⟩:=R.open
 obtain⟨p,cap,rfl,hmx,hl⟩:=L
 have HS:Hid (Sents w s):=S
 have HR:Hid (Sl w (.slice rp rl.length rc) rl/\Rul w rp rl):=⟨R,rul⟩
 have HL:Hid (SpsI w (.slice p l.length cap) l):=⟨p,cap,rfl,hmx,hl⟩
 clear S R hl hmx rul
 go_enter Tryz.func3,Tryz.ntmps3
 go_wp2_with fail
 refine(born_any HS.mm).mono ?_
 rintro e w2 ⟨rfl,b2⟩
 have B2:Hid (Below w w w2):=b2
 clear b2
 by_cases h30:(30:Int) < (rl.length:Int)
 ·go_wp2_with fail
  go_ret
  exact⟨rfl,B2⟩
 ·go_wp2_with fail
  have HF:=fit_any (.slice p l.length cap) l 150 w2 (HL.below B2)
  refine HF.mono ?_
  clear HF
  rintro e w3 ⟨⟨b,rfl,hb⟩,rfl⟩
  cases b
  ·go_wp2_with fail
   go_ret
   exact⟨rfl,B2⟩
  ·have h30d:decide ((30:Int) < (rl.length:Int))=false:=decide_eq_false (by omega)
   simp only[h30d]
   have HRL:Hid (rl.length<=1000):=by show rl.length<=1000;omega
   clear h30d h30
   have HFIT:Hid (l.length<=150/\∀x ∈ l,x.ru.length<=30):=hb rfl
   clear hb
   go_wp2_with fail
   refine(own_at _ rl w3 (HR.1.below B2) HRL).mono ?_
   rintro e w4 ⟨⟨v4,rfl,s4,a4⟩,b4⟩
   have B4:Hid (Below w w w4):=t2 B2 b4
   have S4:Hid (Sents w4 s):=HS.below B4
   have R4:Hid (Sl w4 v4 rl/\∀a n c,v4=.slice (some a) n c->a.block < w4.heap.size):=⟨s4,fun a n c e=>(a4 a n c e).2⟩
   clear s4 a4 b4
   go_wp2_with fail
   refine(new_wdT S4.mm v4 rl R4.1 R4.2 HRL).mono ?_
   rintro e w5 hcase
   rcases hcase with⟨hok,K,rfl,wd,hyk,low⟩ | ⟨hno,⟨v',rfl,hch⟩,hb5⟩
   rotate_left
   ·have HNO:Hid (¬RulesOk rl/\ChkV s w5 rl v'/\Below w w w5):=⟨hno,hch,t2 B4 hb5⟩
    clear hb5 hch hno
    go_wp2_with fail
    refine(rfault_any rp rl rc w5 (HR.2.below HNO.2.2) HRL).mono ?_
    rintro e w6 ⟨rfl,b6⟩
    obtain⟨f1,hf1⟩:∃f1,(faultOf rl).1=f1:=⟨_,rfl⟩
    obtain⟨f2,hf2⟩:∃f2,(faultOf rl).2=f2:=⟨_,rfl⟩
    have f0:(0:Int) < f1:=by rw[<- hf1,fault_no HNO.1];omega
    have A6:Hid (∀u,Below w6 w6 u->Calls Tryz.prog 9 #[v',.agg #[f1,f2]] u fun e w'=>e=.returned (.bool true)/\Below u u w'):=fun u hu=>by
     have h:=faulted3_chk (l:=rl) (v:=v') s u (HS.below (t2 (t2 HNO.2.2 b6) hu)) (ChkV.belowW HNO.2.1 (t2 b6 hu))
     rw[hf1,hf2]at h
     exact h
    rw[hf1,hf2]
    have B6:Hid (Below w w w6):=t2 HNO.2.2 b6
    clear b6 hf1 hf2
    go_wp2_with fail
    have B7:Hid (Below w6 w6 (w6.alloc (.cells #[f1,f2] 33))):=aB _ _
    refine(A6 _ B7).mono ?_
    rintro e w8 ⟨rfl,b8⟩
    have B8:Hid (Below w w w8):=t2 (t2 B6 B7) b8
    clear b8
    go_wp2_with fail
    go_ret
    exact⟨rfl,B8⟩
   ·have W5:Hid (Wd w4 w5 K (Wo.born rl) 0/\(∀i,i < 2->∃b,K.yk i=some b)/\RulesOk rl):=⟨wd,hyk,hok⟩
    clear wd hyk low hok
    go_wp2_with fail
    refine(rfault_any rp rl rc w5 (HR.2.below (t2 B4 W5.1.bl)) HRL).mono ?_
    rintro e w6 ⟨rfl,b6⟩
    rw[fault_ok W5.2.2]
    have B6:Hid (Below w5 w5 w6):=b6
    clear b6
    go_wp2_with fail
    have B7:Hid (Below w5 w5 (w6.alloc (.cells #[.int .i64 0,(faultOf rl).2] 33))):=t2 B6 (aB _ _)
    generalize w6.alloc (.cells #[.int .i64 0,(faultOf rl).2] 33)=w7 at *
    refine(dnew_any (w0:=w4) (t2 W5.1.bl B7) rp rc rl ⟨HR.2.below B4,HRL⟩ (fun i hi=>YI.zero.newOk (by omega) hi W5.2.2)).mono ?_
    rintro e w8 ⟨D,rfl,rd,lo,b8⟩
    have W8:Hid (W2 w4 w8 K.wb D.wb (Wo.born rl) (Wo.born rl) 0 []):=W2.born W5.1 W5.2.1 B7 rd lo b8
    have P8:Hid (PI 0 (Wo.born rl)):=PI.born W5.2.2
    clear rd lo b8 W5 B7 B6
    generalize K.wb=wb at *
    generalize D.wb=db at *
    go_wp2_with fail
    go_loopw [10] (fun t wr=>∃j:Nat,j<=l.length/\t=.int .i64 j/\∃W,W2 w4 wr wb db W W (2 * j) []/\PI (2 * j) W) (fun t _=>l.length - (intOf t).toNat)
    case atStart=>exact⟨0,by omega,rfl,_,W8,P8⟩
    case round =>
     obtain⟨j,hj,rfl,W,hw,hp⟩:=hrel
     have WR:Hid (W2 w4 wr wb db W W (2 * j) []/\PI (2 * j) W):=⟨hw,hp⟩
     clear hw hp
     have hlen:=HFIT.1
     by_cases hlt:j < l.length
     ·have i0:(0:Int)<=(j:Int):=by omega
      have i1:(j:Int) < (l.length:Int):=by omega
      obtain⟨x,hx⟩:∃x,l[j]? = some x:=⟨_,List.getElem?_eq_getElem hlt⟩
      obtain⟨p',cap',e',_,hall⟩:=HL.out
      cases e'
      obtain⟨ok,b,o,rfl,hc⟩:=hall j x hx
      obtain⟨xp,xc,hrv,xrul⟩:=ok.ru.open
      have BW:Below w w wr:=t2 B4 WR.1.bl
      have c0:wr.cell? (b,o+j * 10)=some (.string x.kd):=tk BW (hc 0 _ rfl)
      have c1:wr.cell? (b,o+j * 10+1)=x.s:=tk BW (hc 1 _ rfl)
      have c2:wr.cell? (b,o+j * 10+2)=x.n:=tk BW (hc 2 _ rfl)
      have c3:wr.cell? (b,o+j * 10+3)=x.p.pr:=tk BW (hc 3 _ rfl)
      have c4:wr.cell? (b,o+j * 10+4)=x.p.a1:=tk BW (hc 4 _ rfl)
      have c5:wr.cell? (b,o+j * 10+5)=x.p.p1:=tk BW (hc 5 _ rfl)
      have c6:wr.cell? (b,o+j * 10+6)=x.p.a2:=tk BW (hc 6 _ rfl)
      have c7:wr.cell? (b,o+j * 10+7)=x.p.p2:=tk BW (hc 7 _ rfl)
      have c8:wr.cell? (b,o+j * 10+8)=x.p.fl:=tk BW (hc 8 _ rfl)
      have c9:wr.cell? (b,o+j * 10+9)=some (.slice xp x.ru.length xc):=tk BW (hc 9 _ (by rw[<- hrv];rfl))
      have HST:=step_any S4 WR.1 WR.2 (by omega) x ⟨ok.below B4,xp,xc,hrv,xrul.below B4⟩ (HFIT.2 x (List.mem_of_getElem? hx))
      rw[hrv]at HST
      have ST:Hid (Calls Tryz.prog 11 #[.pointer (some (wb,0)),.pointer (some (db,0)),.agg #[.string x.kd,x.s,x.n,x.p.pr,x.p.a1,x.p.p1,x.p.a2,x.p.p2,x.p.fl,.slice xp x.ru.length xc]] wr fun e w'=>e=.returned (.bool true)/\StpV w4 w' wb db W (2 * j) []):=HST
      clear HST ok hc hrv xrul hx BW hall
      go_wp2_with fail
      refine ST.mono ?_
      rintro e wa ⟨rfl,W',w2',st⟩
      have WA:Hid (W2 w4 wa wb db W' W' (2 * (j+1)) []/\PI (2 * (j+1)) W'):=⟨w2',(WR.2.stp (by omega) WR.1.ro st).mono (by omega)⟩
      clear w2' st c0 c1 c2 c3 c4 c5 c6 c7 c8 c9 ST
      by_cases hm:(j:Int) % 10=0
      ·have hm1:((j:Int) % 10==0)=true:=beq_iff_eq.2 hm
       go_wp2_with fail
       refine(WA.1.asworld S4).mono ?_
       rintro e wc ⟨rfl,k⟩
       have WC:Hid (W2 w4 wc wb db W' W' (2 * (j+1)) []):=k
       clear k
       go_wp2_with fail
       go_roundw
       case rel=>exact⟨j+1,by omega,by go_num,W',WC,WA.2⟩
       case measure=>simp[intOf];omega
      ·have hm1:((j:Int) % 10==0)=false:=beq_eq_false_iff_ne.2 hm
       go_wp2_with fail
       go_roundw
       case rel=>exact⟨j+1,by omega,by go_num,W',WA⟩
       case measure=>simp[intOf];omega
     ·have i1:¬(j:Int) < (l.length:Int):=by omega
      go_wp2_with fail
      refine(WR.1.asworld S4).mono ?_
      rintro e wc ⟨rfl,k⟩
      have WC:Hid (W2 w4 wc wb db W W (2 * j) []):=k
      clear k
      go_wp2_with fail
      go_ret
      exact⟨rfl,t2 B4 WC.bl⟩
end Go.Proofs.YtklnhinjmlglcaaGreatDoor
