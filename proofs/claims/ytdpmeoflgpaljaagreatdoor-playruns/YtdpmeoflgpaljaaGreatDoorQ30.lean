/-
  What the claimed theorem reaches, part Q30.
-/
import Derived.Test.YtdpmeoflgpaljaaGreatDoorQ28
import Derived.Test.YtdpmeoflgpaljaaGreatDoorQ21
import Derived.Test.YtdpmeoflgpaljaaGreatDoorQ06
import Derived.Deep.QuietTactic
import Derived.BigQuiet
import Derived.Test.YtdpmeoflgpaljaaGreatDoorQ00
import Derived.Test.YtdpmeoflgpaljaaGreatDoorQ14
import Derived.Test.YtdpmeoflgpaljaaGreatDoorQ04
import Derived.Laws.BytesArg
import Derived.Laws.BitsAllLaws
import Derived.Laws.BitsLemmas
import Derived.Test.YtdpmeoflgpaljaaGreatDoorQ27
namespace Go.Proofs.YtdpmeoflgpaljaaGreatDoor
open Go.RowKit
set_option maxRecDepth 100000
set_option maxHeartbeats 8000000
section
variable {w w':World} {b m g cap:Nat} {life:Int} {T:Tb}
structure RMir (w:World) (m g cap:Nat) (life:Int) (T:Tb):Prop where
 c0:w.cell? (m,0)=life
 c1:w.cell? (m,1)=some (.slice (some (g,0)) 32 cap)
 f0:w.frozen? (m,0)=false
 f1:w.frozen? (m,1)=false
 sl:Sl10 w g T
 ne:m≠g
theorem TcAt.chg2 {o:Nat} {x:Tc} (h:TcAt w b o x) (hb:Chg2 m g w w') (h1:b≠m) (h2:b≠g):TcAt w' b o x :=
 ⟨hb.keeps h1 h2 h.c0,hb.keeps h1 h2 h.c1,hb.keeps h1 h2 h.c2,hb.keeps h1 h2 h.c3,hb.keeps h1 h2 h.c4,hb.keeps h1 h2 h.c5,hb.keeps h1 h2 h.c6,hb.keeps h1 h2 h.c7,hb.keeps h1 h2 h.c8,hb.keeps h1 h2 h.c9⟩
theorem Mir.chg2 (h:Mir w b life T) (k:Chg2 m g w w') (h1:b≠m) (h2:b≠g):Mir w' b life T:=by
 unfold Mir;rw[k.block b h.lt h1 h2];exact h
theorem RMir.below (h:RMir w m g cap life T) (hb:Below w w w'):RMir w' m g cap life T :=
 ⟨tk hb h.c0,tk hb h.c1,(frozen_of_block (hb.block m (tlt h.c0))).trans h.f0,(frozen_of_block (hb.block m (tlt h.c0))).trans h.f1,h.sl.below hb,h.ne⟩
theorem RMir.chg (h:RMir w m g cap life T) (hb:Chg b w w') (hm:m≠b) (hg:g≠b):RMir w' m g cap life T :=
 ⟨hb.keeps hm h.c0,hb.keeps hm h.c1,(frozen_of_block (hb.block m (tlt h.c0) hm)).trans h.f0,(frozen_of_block (hb.block m (tlt h.c0) hm)).trans h.f1,h.sl.chg hb hg,h.ne⟩
theorem RMir.on {U:Tb} (h:RMir w m g cap life T) (hb:Chg g w w') (hs:Sl10 w' g U):RMir w' m g cap life U :=
 ⟨hb.keeps h.ne h.c0,hb.keeps h.ne h.c1,(frozen_of_block (hb.block m (tlt h.c0) h.ne)).trans h.f0,(frozen_of_block (hb.block m (tlt h.c0) h.ne)).trans h.f1,hs,h.ne⟩
theorem put_all2 (d c:Ce):(((((((((d.put c.ve 1).put c.pr 2).put c.ia 3).put c.ip 4).put c.fa 5).put c.fp 6).put c.po 7).put c.st 8).put c.un 9)=c:=by
 cases c
 rfl
theorem slm_put10 (h:Sl10 w b T) (k:Nat) (c:Ce) (hk:k < 32):Sl10 ((((((((((w.setCell (b,k * 10) k).setCell (b,k * 10+1) c.ve).setCell (b,k * 10+2) c.pr).setCell (b,k * 10+3) c.ia).setCell (b,k * 10+4) c.ip).setCell (b,k * 10+5) c.fa).setCell (b,k * 10+6) c.fp).setCell (b,k * 10+7) c.po).setCell (b,k * 10+8) c.st).setCell (b,k * 10+9) c.un) b (upd T k c):=by
 have h:=h.slot (i:=k) hk
 have h:=h.put (i:=k) (k:=1) c.ve hk (by omega) (by omega)
 have h:=h.put (i:=k) (k:=2) c.pr hk (by omega) (by omega)
 have h:=h.put (i:=k) (k:=3) c.ia hk (by omega) (by omega)
 have h:=h.put (i:=k) (k:=4) c.ip hk (by omega) (by omega)
 have h:=h.put (i:=k) (k:=5) c.fa hk (by omega) (by omega)
 have h:=h.put (i:=k) (k:=6) c.fp hk (by omega) (by omega)
 have h:=h.put (i:=k) (k:=7) c.po hk (by omega) (by omega)
 have h:=h.put (i:=k) (k:=8) c.st hk (by omega) (by omega)
 have h:=h.put (i:=k) (k:=9) c.un hk (by omega) (by omega)
 simp only[upd_same,upd_upd,put_all2]at h
 exact h
theorem sl_chg10 (w:World) (b k:Nat) (c:Ce):Chg b w ((((((((((w.setCell (b,k * 10) k).setCell (b,k * 10+1) c.ve).setCell (b,k * 10+2) c.pr).setCell (b,k * 10+3) c.ia).setCell (b,k * 10+4) c.ip).setCell (b,k * 10+5) c.fa).setCell (b,k * 10+6) c.fp).setCell (b,k * 10+7) c.po).setCell (b,k * 10+8) c.st).setCell (b,k * 10+9) c.un) :=
 (((((((((Chg.set b _ w _).trans (Chg.set b _ _ _)).trans (Chg.set b _ _ _)).trans (Chg.set b _ _ _)).trans (Chg.set b _ _ _)).trans (Chg.set b _ _ _)).trans (Chg.set b _ _ _)).trans (Chg.set b _ _ _)).trans (Chg.set b _ _ _)).trans (Chg.set b _ _ _)
theorem cS {a:Addr} {u v:Value} (h:w.cell? a=some u):(w.setCell a v).cell? a=some v:=World.cell?_setCell_same' w a v (by rw[h];rfl)
theorem cO {a b:Addr} {v:Value} (h:a≠b):(w.setCell a v).cell? b=w.cell? b:=by
 apply World.cell?_setCell_other
 exact h
def RTold (w w':World) (m g:Nat) (life:Int) (T:Tb):Prop:=(∃g' cap',RMir w' m g' cap' life T/\(g'=g\/w.heap.size<=g'))/\Chg2 m g w w'
theorem rtell_any (m g cap:Nat) (life old:Int) (T:Tb) (l:List Tc) (p:Option Addr) (cp:Nat) (w:World) (M:RMir w m g cap old T) (R:TcR w p l) (hp:l≠[]->∀b o,p=some ⟨b,o,none⟩->b≠m/\b≠g) (hl:l.length<=100000) :
  Calls Tryz.prog 132 #[.pointer (some (m,0)),life,.slice p l.length cp] w fun e w'=>e=.returned (.int .i64 (tellE old life l:Nat))/\RTold w w' m g (tellLife old life l) (tellT old life T l):=by
 have HM:Hid (RMir w m g cap old T):=M
 have HR:Hid (TcR w p l):=R
 have HP:Hid (l≠[]->∀b o,p=some ⟨b,o,none⟩->b≠m/\b≠g):=hp
 clear M R hp
 have HBAD:Hid ((life < 1\/8 < l.length\/(l.any fun x=>!okS x)=true)->tellE old life l=2/\RTold w w m g (tellLife old life l) (tellT old life T l)):=fun h=>by
  have hE:tellE old life l=2:=by unfold tellE;rw[if_pos h]
  refine⟨hE,?_⟩
  unfold tellLife tellT
  rw[hE]
  exact⟨⟨g,cap,HM,.inl rfl⟩,Chg2.refl _ _ _⟩
 have HOLD:Hid (¬(life < 1\/8 < l.length\/(l.any fun x=>!okS x)=true)->life < old->tellE old life l=10/\RTold w w m g (tellLife old life l) (tellT old life T l)):=fun h h4=>by
  have hE:tellE old life l=10:=by unfold tellE;rw[if_neg h,if_pos h4]
  refine⟨hE,?_⟩
  unfold tellLife tellT
  rw[hE]
  exact⟨⟨g,cap,HM,.inl rfl⟩,Chg2.refl _ _ _⟩
 have HOK:Hid (¬(life < 1\/8 < l.length\/(l.any fun x=>!okS x)=true)->¬life < old->tellE old life l=0/\tellLife old life l=life/\tellT old life T l=takeL (if old < life then newT else T) l):=fun h h4=>by
  have hE:tellE old life l=0:=by unfold tellE;rw[if_neg h,if_neg h4]
  unfold tellLife tellT
  rw[hE]
  exact⟨rfl,rfl,rfl⟩
 obtain⟨E,hE⟩:∃E,E=tellE old life l:=⟨_,rfl⟩
 obtain⟨LF,hLF⟩:∃E,E=tellLife old life l:=⟨_,rfl⟩
 obtain⟨TT,hTT⟩:∃E,E=tellT old life T l:=⟨_,rfl⟩
 rw[<- hE,<- hLF,<- hTT]at HBAD HOLD HOK ⊢
 clear hE hLF hTT
 go_enter Tryz.func132,Tryz.ntmps132
 by_cases h1:life < 1
 ·obtain⟨hE,hT⟩:=HBAD.out (.inl h1)
  have HE:Hid (E=2):=hE
  have HT:Hid (RTold w w m g LF TT):=hT
  clear hE hT
  go_wp2_with fail
  go_ret
  exact⟨by rw[HE.out];rfl,HT⟩
 by_cases h2:8 < l.length
 ·have h2':(8:Int) < (l.length:Int):=by omega
  obtain⟨hE,hT⟩:=HBAD.out (.inr (.inl h2))
  have HE:Hid (E=2):=hE
  have HT:Hid (RTold w w m g LF TT):=hT
  clear hE hT
  go_wp2_with fail
  go_ret
  exact⟨by rw[HE.out];rfl,HT⟩
 have h2':¬(8:Int) < (l.length:Int):=by omega
 have H1:Hid (¬life < 1):=h1
 have H2:Hid (¬8 < l.length):=h2
 go_wp2_with fail
 go_loopw [7] (fun t wr=>∃j:Nat,j<=l.length/\t=.int .i64 j/\((l.take j).any fun x=>!okS x)=false/\wr=w) (fun t _=>l.length - (intOf t).toNat)
 case atStart=>exact⟨0,Nat.zero_le _,rfl,rfl,rfl⟩
 case round =>
  obtain⟨j,hj,rfl,hno,rfl⟩:=hrel
  have HN:Hid (((l.take j).any fun x=>!okS x)=false):=hno
  clear hno
  by_cases hlt:j < l.length
  ·have hr:l[j]? = some l[j]:=List.getElem?_eq_getElem hlt
   obtain⟨y,hy⟩:∃y,y=l[j]:=⟨_,rfl⟩
   rw[<- hy]at hr
   have HY:Hid (l[j]? = some y):=hr
   clear hy
   obtain⟨b,o,rfl,hc⟩:=HR.out j y hr
   have c0:=hc.c0
   have j0:(0:Int)<=(j:Int):=by omega
   have j1:(j:Int) < (l.length:Int):=by omega
   clear hr hc
   by_cases hbad:y.sl < 0\/32<=y.sl
   ·have HT0:Hid ((l.any fun x=>!okS x)=true):=by
     show _=_
     rw[List.any_eq_true]
     refine⟨y,List.mem_of_getElem? HY,?_⟩
     cases hd:okS y
     ·rfl
     ·have:=okS_iff.1 hd;omega
    obtain⟨hE,hT⟩:=HBAD.out (.inr (.inr HT0))
    have HE:Hid (E=2):=hE
    have HT:Hid (RTold wr wr m g LF TT):=hT
    clear hE hT HT0
    by_cases hneg:y.sl < 0
    ·clear hbad
     go_wp2_with fail
     go_ret
     exact⟨by rw[HE.out];rfl,HT⟩
    ·have hge:32<=y.sl:=by omega
     clear hbad
     go_wp2_with fail
     go_ret
     exact⟨by rw[HE.out];rfl,HT⟩
   ·have n1:¬y.sl < 0:=by omega
    have n2:¬32<=y.sl:=by omega
    have HT:Hid (((l.take (j+1)).any fun x=>!okS x)=false):=by
     show _=_
     have hd:okS y=true:=okS_iff.2 ⟨by omega,by omega⟩
     rw[List.take_add_one,HY.out,List.any_append,HN.out]
     simp only[Option.toList_some,List.any_cons,List.any_nil,hd,Bool.or_false,Bool.not_true]
    clear hbad
    go_wp2_with fail
    go_roundw
    case rel=>exact⟨j+1,by omega,by go_num,HT,by first | rfl | trivial⟩
    case measure=>simp[intOf];omega
  ·obtain rfl:j=l.length:=by omega
   rw[List.take_length]at HN
   have hdi:¬((l.length:Int) < (l.length:Int)):=by omega
   have HG:Hid (¬(life < 1\/8 < l.length\/(l.any fun x=>!okS x)=true)):=by
    show ¬_
    rintro(h | h | h)
    ·have:=H1.out;omega
    ·have:=H2.out;omega
    ·rw[HN.out]at h;cases h
   have m0:=HM.c0
   by_cases h4:life < old
   ·obtain⟨hE,hT⟩:=HOLD.out HG h4
    have HE:Hid (E=10):=hE
    have HT:Hid (RTold wr wr m g LF TT):=hT
    clear hE hT
    go_wp2_with fail
    go_ret
    exact⟨by rw[HE.out];rfl,HT⟩
   ·obtain⟨hE,hL,hT⟩:=HOK.out HG (by omega)
    obtain⟨U,hU⟩:∃U,U=if old < life then newT else T:=⟨_,rfl⟩
    rw[<- hU]at hT
    have HE:Hid (E=0):=hE
    have HLF:Hid (LF=life):=hL
    have HTT:Hid (TT=takeL U l):=hT
    have HU:Hid (U=if old < life then newT else T):=hU
    clear hE hL hT hU HOK HOLD HBAD
    go_upto_if 47 with fail
    go_cut [48,49,50,51,52,53,54,55] (fun _ _ _ _ _ _ _ _ wx=>∃g1 cap1,RMir wx m g1 cap1 life U/\(g1=g\/wr.heap.size<=g1)/\Chg2 m g wr wx)
    case first =>
     by_cases h5:old < life
     ·have HNW:Hid (U=newT):=by show _=_;rw[HU.out,if_pos h5]
      have f0:=HM.f0
      go_wp2_with fail
      have C1:Hid (Chg m wr (wr.setCell (m,0) life)):=Chg.set m 0 _ _
      have D0:Hid ((wr.setCell (m,0) life).cell? (m,0)=life):=cS m0
      have D1:Hid ((wr.setCell (m,0) life).cell? (m,1)=some (.slice (some (g,0)) 32 cap)):=by
       show _=_
       rw[cO (by simp)];exact HM.c1
      have F0:Hid ((wr.setCell (m,0) life).frozen? (m,0)=false):=by show _=_;rw[World.frozen?_setCell];exact HM.f0
      have F1:Hid ((wr.setCell (m,0) life).frozen? (m,1)=false):=by show _=_;rw[World.frozen?_setCell];exact HM.f1
      generalize wr.setCell (m,0) life=w1 at *
      refine(empty_any _).mono ?_
      rintro e w2 ⟨⟨ge,ce,rfl,hge,hs⟩,hb2⟩
      have S2:Hid (Sl10 w2 ge newT):=hs
      have GE:Hid (w1.heap.size<=ge):=hge
      have B2:Hid (Below w1 w1 w2):=hb2
      have HML:Hid (m < w1.heap.size):=tlt D0
      have e1:=tk hb2 D1
      have E0:Hid (w2.cell? (m,0)=life):=tk hb2 D0
      have e2:w2.frozen? (m,1)=false:=(frozen_of_block (hb2.block m HML)).trans F1
      have E3:Hid (w2.frozen? (m,0)=false):=(frozen_of_block (hb2.block m HML)).trans F0
      have E1:Hid (w2.cell? (m,1)=some (.slice (some (g,0)) 32 cap)):=e1
      have E2:Hid (w2.frozen? (m,1)=false):=e2
      clear hs hge hb2
      go_wp2_with fail
      go_meet
      case rel =>
       have hne:m≠ge:=fun e=>by have:=HML.out;have:=GE.out;omega
       refine⟨ge,ce,⟨?_,cS E1,?_,?_,?_,hne⟩,.inr (Nat.le_trans C1.size GE),?_⟩
       ·rw[cO (by simp)];exact E0
       ·rw[World.frozen?_setCell];exact E3
       ·rw[World.frozen?_setCell];exact E2
       ·rw[HNW.out];exact S2.chg (Chg.set m 1 _ _) hne.symm
       ·exact(((Chg2.refl m g _).on C1 (.inl rfl)).then B2).on (Chg.set m 1 _ _) (.inl rfl)
     ·have HNW:Hid (U=T):=by show _=_;rw[HU.out,if_neg h5]
      have HLE:Hid (old=life):=by show _=_;omega
      go_wp2_with fail
      go_meet
      case rel =>
       refine⟨g,cap,?_,.inl rfl,Chg2.refl _ _ _⟩
       rw[HNW.out,<- HLE.out]
       exact HM
    case rest =>
     obtain⟨g1,cap1,hm1,hg1,hc1⟩:=hcut
     have M2:Hid (RMir wc m g1 cap1 life U):=hm1
     have G2:Hid (g1=g\/wr.heap.size<=g1):=hg1
     have C2:Hid (Chg2 m g wr wc):=hc1
     clear hm1 hg1 hc1 m0
     obtain⟨w0,rfl⟩:∃w0,w0=wr:=⟨_,rfl⟩
     go_wp2_with fail
     go_loopw [8] (fun t wi=>∃j:Nat,j<=l.length/\t=.int .i64 j/\RMir wi m g1 cap1 life (takeL U (l.take j))/\Chg2 m g w0 wi) (fun t _=>l.length - (intOf t).toNat)
     case atStart=>exact⟨0,Nat.zero_le _,rfl,M2,C2⟩
     case round =>
      obtain⟨j,hj,rfl,hm3,hc3⟩:=hrel
      have M3:Hid (RMir wr m g1 cap1 life (takeL U (l.take j))):=hm3
      have C3:Hid (Chg2 m g w0 wr):=hc3
      clear hm3 hc3
      by_cases hlt:j < l.length
      ·have hr:l[j]? = some l[j]:=List.getElem?_eq_getElem hlt
       obtain⟨y,hy⟩:∃y,y=l[j]:=⟨_,rfl⟩
       rw[<- hy]at hr
       have hok:okS y=true:=by
        have h:=List.any_eq_false.1 HN y (List.mem_of_getElem? hr)
        cases hd:okS y
        ·rw[hd]at h;simp at h
        ·rfl
       have hsl:=okS_iff.1 hok
       obtain⟨b,o,hpe,hc⟩:=HR.out j y hr
       subst hpe
       have hne:l≠[]:=fun e=>by rw[e]at hlt;simp at hlt
       have hc:=hc.chg2 C3 (HP hne b o rfl).1 (HP hne b o rfl).2
       clear hne
       have HY:Hid (takeL U (l.take (j+1))=takeT (takeL U (l.take j)) y):=takeL_take U l j y hr
       clear hy hr hok
       obtain⟨sl,c⟩:=y
       simp only at hsl
       obtain⟨k,rfl⟩:∃k:Nat,sl=k:=⟨sl.toNat,by omega⟩
       have hk:k < 32:=by omega
       have k0:(0:Int)<=(k:Int):=by omega
       have k1:(k:Int) < 32:=by omega
       have j0:(0:Int)<=(j:Int):=by omega
       have j1:(j:Int) < (l.length:Int):=by omega
       clear hsl
       obtain⟨TJ,hTJ⟩:∃TJ,TJ=takeL U (l.take j):=⟨_,rfl⟩
       rw[<- hTJ]at HY M3
       clear hTJ
       have HC:Hid (TcAt wr b (o+j * 10) ⟨k,c⟩):=hc
       clear hc
       obtain⟨x,hx⟩:∃x,x=(TJ k).ve:=⟨_,rfl⟩
       have HX:Hid (x=(TJ k).ve):=hx
       have m1:wr.cell? (g1,k * 10+1)=x:=by rw[hx];exact M3.sl.at' hk (by omega)
       have m2:=M3.c1
       have c0:wr.cell? (b,o+j * 10)=k:=HC.c0
       have c1:wr.cell? (b,o+j * 10+1)=c.ve:=HC.c1
       clear hx
       by_cases hv:x < c.ve
       ·have HT:Hid (takeL U (l.take (j+1))=upd TJ k c):=by
         show _=_
         rw[HY.out]
         unfold takeT
         simp only[Int.toNat_natCast]
         rw[if_pos (by rw[<- HX.out];exact hv)]
        go_wp2_with fail
        go_quiet (fail)
        have M4:Hid (RMir (wr.drewN nq) m g1 cap1 life TJ):=M3.below ⟨rfl,rfl,rfl,Nat.le_refl _,fun _ _=>rfl⟩
        have C4:Hid (Chg2 m g w0 (wr.drewN nq)):=C3.then ⟨rfl,rfl,rfl,Nat.le_refl _,fun _ _=>rfl⟩
        have HC4:Hid (TcAt (wr.drewN nq) b (o+j * 10) ⟨k,c⟩):=HC.below ⟨rfl,rfl,rfl,Nat.le_refl _,fun _ _=>rfl⟩
        generalize wr.drewN nq=w4 at *
        clear m1 m2 c0 c1 M3 C3 HC
        have m2:=M4.c1
        have c0:w4.cell? (b,o+j * 10)=k:=HC4.c0
        obtain⟨_,c1,c2,c3,c4,c5,c6,c7,c8,c9⟩:=HC4.out
        have g0:=M4.sl.at' (k:=0) hk (by omega)
        have q1:=M4.sl.at' (k:=1) hk (by omega)
        have q2:=M4.sl.at' (k:=2) hk (by omega)
        have q3:=M4.sl.at' (k:=3) hk (by omega)
        have q4:=M4.sl.at' (k:=4) hk (by omega)
        have q5:=M4.sl.at' (k:=5) hk (by omega)
        have q6:=M4.sl.at' (k:=6) hk (by omega)
        have q7:=M4.sl.at' (k:=7) hk (by omega)
        have q8:=M4.sl.at' (k:=8) hk (by omega)
        have q9:=M4.sl.at' (k:=9) hk (by omega)
        simp only[Nat.add_zero]at g0
        simp only at c1 c2 c3 c4 c5 c6 c7 c8 c9
        have fz:=M4.sl.fr
        go_wp2_with fail
        go_region
        have M5:Hid (RMir ((((((((((w4.setCell (g1,k * 10) k).setCell (g1,k * 10+1) c.ve).setCell (g1,k * 10+2) c.pr).setCell (g1,k * 10+3) c.ia).setCell (g1,k * 10+4) c.ip).setCell (g1,k * 10+5) c.fa).setCell (g1,k * 10+6) c.fp).setCell (g1,k * 10+7) c.po).setCell (g1,k * 10+8) c.st).setCell (g1,k * 10+9) c.un).drew m g1 cap1 life (takeL U (l.take (j+1)))):=by
         show RMir _ _ _ _ _ _
         rw[HT.out]
         exact(M4.on (sl_chg10 w4 g1 k c) (slm_put10 M4.sl k c hk)).below (Below.refl _ _).drew
        have C5:Hid (Chg2 m g w0 ((((((((((w4.setCell (g1,k * 10) k).setCell (g1,k * 10+1) c.ve).setCell (g1,k * 10+2) c.pr).setCell (g1,k * 10+3) c.ia).setCell (g1,k * 10+4) c.ip).setCell (g1,k * 10+5) c.fa).setCell (g1,k * 10+6) c.fp).setCell (g1,k * 10+7) c.po).setCell (g1,k * 10+8) c.st).setCell (g1,k * 10+9) c.un).drew):=(C4.on (sl_chg10 w4 g1 k c) (.inr G2)).then (Below.refl _ _).drew
        generalize ((((((((((w4.setCell (g1,k * 10) k).setCell (g1,k * 10+1) c.ve).setCell (g1,k * 10+2) c.pr).setCell (g1,k * 10+3) c.ia).setCell (g1,k * 10+4) c.ip).setCell (g1,k * 10+5) c.fa).setCell (g1,k * 10+6) c.fp).setCell (g1,k * 10+7) c.po).setCell (g1,k * 10+8) c.st).setCell (g1,k * 10+9) c.un).drew=w5 at *
        clear c0 c1 c2 c3 c4 c5 c6 c7 c8 c9 g0 q1 q2 q3 q4 q5 q6 q7 q8 q9 fz m2
        go_wp2_with fail
        go_roundw
        case rel=>exact⟨j+1,by omega,by go_num,M5,C5⟩
        case measure=>simp[intOf];omega
       ·have HT:Hid (takeL U (l.take (j+1))=TJ):=by
         show _=_
         rw[HY.out]
         unfold takeT
         simp only[Int.toNat_natCast]
         rw[if_neg (by rw[<- HX.out];exact hv)]
        go_wp2_with fail
        go_quiet (fail)
        have M4:Hid (RMir (wr.drewN nq) m g1 cap1 life (takeL U (l.take (j+1)))):=by
         show RMir _ _ _ _ _ _
         rw[HT.out]
         exact M3.below ⟨rfl,rfl,rfl,Nat.le_refl _,fun _ _=>rfl⟩
        have C4:Hid (Chg2 m g w0 (wr.drewN nq)):=C3.then ⟨rfl,rfl,rfl,Nat.le_refl _,fun _ _=>rfl⟩
        generalize wr.drewN nq=w4 at *
        go_wp2_with fail
        go_roundw
        case rel=>exact⟨j+1,by omega,by go_num,M4,C4⟩
        case measure=>simp[intOf];omega
      ·obtain rfl:j=l.length:=by omega
       have hdi':¬((l.length:Int) < (l.length:Int)):=by omega
       go_wp2_with fail
       go_ret
       refine⟨by rw[HE.out];rfl,⟨g1,cap1,?_,G2⟩,C3⟩
       have h:=M3.out
       rw[List.take_length]at h
       rw[HLF.out,HTT.out]
       exact h
end
section
variable {i n:Int} {w:World} {b:Nat}
def Ro.rtick (q:Ro):Ro:=if q.ac then q else ⟨q.nd,q.ep,q.si+1,false⟩
def Ro.rrings (q:Ro):Bool:=if q.ac then false else decide (9 < q.si+1)
def Ro.rhear (q:Ro) (n:Int):Ro:=if isEpR n then (if q.ep < n then ⟨q.nd,n,0,false⟩ else if q.ac=false/\n=q.ep then ⟨q.nd,q.ep,0,false⟩ else q) else q
def Ro.rfalls (q:Ro) (n:Int):Bool:=if isEpR n then (if q.ep < n then q.ac else false) else false
structure Sam (r q:Ro) (i:Int):Prop where
 k:r.Ok
 nd:q.nd=r.nd
 ep:q.ep=r.ep
 ac:q.ac=r.ac
 s0:0<=q.si
 s1:q.si<=i
 si:r.ac=false->r.si=if q.si<=9 then q.si else 10
theorem Sam.new {nd ep:Int} (h:nd=0\/nd=1) (h0:0<=ep) (h1:ep<=1073741824):Sam (Ro.new nd ep) ⟨nd,ep,0,false⟩ 0:=⟨.new h h0 h1,rfl,rfl,rfl,Int.le_refl _,Int.le_refl _,fun _=>rfl⟩
theorem Sam.mono {r q:Ro} {j:Int} (h:Sam r q i) (hij:i<=j):Sam r q j:=⟨h.k,h.nd,h.ep,h.ac,h.s0,by have:=h.s1;omega,h.si⟩
theorem Sam.tick {r q:Ro} (h:Sam r q i):Sam r.tick q.rtick (i+1)/\q.rrings=r.rings:=by
 have hk:=h.k.tick
 obtain⟨k,hnd,hep,hac,s0,s1,hsi⟩:=h
 obtain⟨nd,ep,si,ac⟩:=r
 obtain⟨nd',ep',si',ac'⟩:=q
 simp only at hnd hep hac s0 s1 hsi
 subst hnd hep hac
 cases ac'
 ·have hsi:=hsi rfl
  have e:(if si<=9 then si+1 else si)=if si'+1<=9 then si'+1 else 10:=by
   rw[hsi]
   by_cases h9:si'<=9
   ·rw[if_pos h9,if_pos h9]
    by_cases h8:si'+1<=9
    ·rw[if_pos h8]
    ·rw[if_neg h8];omega
   ·rw[if_neg h9,if_neg (by omega),if_neg (by omega)]
  refine⟨⟨hk,rfl,rfl,rfl,by show 0<=si'+1;omega,by show si'+1<=i+1;omega,fun _=>e⟩,?_⟩
  show decide (9 < si'+1)=decide (9 < (if si<=9 then si+1 else si))
  rw[e]
  by_cases h8:si'+1<=9
  ·rw[if_pos h8]
  ·rw[if_neg h8]
   exact(decide_eq_true (by omega)).trans (decide_eq_true (by omega)).symm
 ·exact⟨⟨hk,rfl,rfl,rfl,s0,by show si'<=i+1;omega,fun h=>by cases h⟩,rfl⟩
theorem Sam.nx {r q:Ro} (h:Sam r q i):q.nx=r.nx:=by unfold Ro.nx;rw[h.nd,h.ep]
theorem Sam.clE {r q:Ro} (h:Sam r q i) (n:Int):q.clE n=r.clE n:=by unfold Ro.clE;rw[h.ac,h.nx]
theorem Sam.claim {r q:Ro} (h:Sam r q i) (n:Int):Sam (r.claim n) (q.claim n) i:=by
 have hk:=h.k.claim n
 have e:=h.clE n
 revert hk
 unfold Ro.claim
 rw[e]
 intro hk
 by_cases hc:r.clE n=0
 ·rw[if_pos hc]at hk
  rw[if_pos hc,if_pos hc]
  exact⟨hk,h.nd,rfl,rfl,h.s0,h.s1,fun h=>by cases h⟩
 ·rw[if_neg hc,if_neg hc]
  exact h
theorem Ro.hear_no {r:Ro} (h:isEpR n=false\/n < r.ep):r.hear n=r/\r.falls n=false:=by
 have hh:r.heard n=false:=by
  unfold Ro.heard
  rcases h with h | h
  ·rw[h];rfl
  ·rw[decide_eq_true h];simp
 unfold Ro.hear Ro.falls
 rw[hh]
 exact⟨rfl,rfl⟩
theorem Ro.hear_gt {r:Ro} (h:isEpR n=true) (hl:r.ep < n):r.hear n=⟨r.nd,n,0,false⟩/\r.falls n=r.ac:=by
 have hh:r.heard n=true:=by
  unfold Ro.heard
  rw[h,decide_eq_false (by omega)];rfl
 unfold Ro.hear Ro.falls
 rw[hh,decide_eq_true hl]
 simp
theorem Ro.hear_eq {r:Ro} (h:isEpR r.ep=true):r.hear r.ep=⟨r.nd,r.ep,0,r.ac⟩/\r.falls r.ep=false:=by
 have hh:r.heard r.ep=true:=by
  unfold Ro.heard
  rw[h,decide_eq_false (by omega)];rfl
 unfold Ro.hear Ro.falls
 rw[hh,decide_eq_false (by omega)]
 simp
theorem Ro.rhear_no {r:Ro} (h:isEpR n=false\/n < r.ep):r.rhear n=r/\r.rfalls n=false:=by
 unfold Ro.rhear Ro.rfalls
 cases hp:isEpR n
 ·exact⟨rfl,rfl⟩
 ·have h:n < r.ep:=h.resolve_left (by rw[hp];simp)
  rw[if_pos rfl,if_neg (by omega),if_neg (by omega),if_pos rfl,if_neg (by omega)]
  exact⟨rfl,rfl⟩
theorem Ro.rhear_gt {r:Ro} (h:isEpR n=true) (hl:r.ep < n):r.rhear n=⟨r.nd,n,0,false⟩/\r.rfalls n=r.ac:=by
 unfold Ro.rhear Ro.rfalls
 rw[h,if_pos rfl,if_pos hl,if_pos rfl,if_pos hl]
 exact⟨rfl,rfl⟩
theorem Ro.rhear_eq {r:Ro} (h:isEpR r.ep=true):r.rhear r.ep=(if r.ac=false then ⟨r.nd,r.ep,0,false⟩ else r)/\r.rfalls r.ep=false:=by
 unfold Ro.rhear Ro.rfalls
 have hx:¬r.ep < r.ep:=by omega
 rw[h,if_pos rfl,if_neg hx,if_pos rfl,if_neg hx]
 refine⟨?_,rfl⟩
 by_cases ha:r.ac=false
 ·rw[if_pos ⟨ha,rfl⟩,if_pos ha]
 ·rw[if_neg (fun x=>ha x.1),if_neg ha]
theorem Sam.hear {r q:Ro} (h:Sam r q i) (n:Int):Sam (r.hear n) (q.rhear n) i/\q.rfalls n=r.falls n:=by
 have hk:=h.k.hear n
 have hi:0<=i:=by have:=h.s0;have:=h.s1;omega
 have hep:=h.ep
 by_cases hno:isEpR n=false\/n < r.ep
 ·rw[(Ro.hear_no hno).1,(Ro.hear_no hno).2,(Ro.rhear_no (hep ▸ hno)).1,(Ro.rhear_no (hep ▸ hno)).2]
  exact⟨h,rfl⟩
 ·have hp:isEpR n=true:=by
   cases hp:isEpR n
   ·exact absurd (Or.inl hp) hno
   ·rfl
  have hl:¬n < r.ep:=fun x=>hno (Or.inr x)
  by_cases hg:r.ep < n
  ·rw[(Ro.hear_gt hp hg).1]at hk
   rw[(Ro.hear_gt hp hg).1,(Ro.hear_gt hp hg).2,(Ro.rhear_gt hp (hep ▸ hg)).1,(Ro.rhear_gt hp (hep ▸ hg)).2]
   exact⟨⟨hk,h.nd,rfl,rfl,Int.le_refl _,hi,fun _=>rfl⟩,h.ac⟩
  ·obtain rfl:n=r.ep:=by omega
   have e1:=Ro.hear_eq hp
   have e2:=Ro.rhear_eq (r:=q) (by rw[hep];exact hp)
   rw[hep]at e2
   rw[e1.1]at hk
   rw[e1.1,e1.2,e2.1,e2.2]
   refine⟨?_,rfl⟩
   by_cases ha:q.ac=false
   ·rw[if_pos ha]
    exact⟨hk,h.nd,rfl,by rw[<- h.ac];exact ha.symm,Int.le_refl _,hi,fun _=>rfl⟩
   ·rw[if_neg ha]
    exact⟨hk,h.nd,h.ep,h.ac,h.s0,h.s1,fun hf=>absurd (h.ac.trans hf) ha⟩
def RRol (w:World) (b:Nat) (r:Ro):Prop:=w.heap[b]? = some (.cells #[r.nd,r.ep,r.si,.bool r.ac] 131 (0,0))
theorem RRol.lt {r:Ro} (h:RRol w b r):b < w.heap.size:=by
 rcases Nat.lt_or_ge b w with h1 | h1
 ·exact h1
 ·rw[RRol,Array.getElem?_eq_none h1]at h;cases h
theorem RRol.below {w':World} {r:Ro} (h:RRol w b r) (hb:Below w w w'):RRol w' b r:=by unfold RRol;rw[hb.block b h.lt];exact h
theorem RRol.chg {w':World} {d:Nat} {r:Ro} (h:RRol w b r) (hb:Chg d w w') (hn:b≠d):RRol w' b r:=by unfold RRol;rw[hb.block b h.lt hn];exact h
theorem RRol.c0 {r:Ro} (h:RRol w b r):w.cell? (b,0)=r.nd:=(cell_of_row w b _ _ _ _ h).trans rfl
theorem RRol.c1 {r:Ro} (h:RRol w b r):w.cell? (b,1)=r.ep:=(cell_of_row w b _ _ _ _ h).trans rfl
theorem RRol.c2 {r:Ro} (h:RRol w b r):w.cell? (b,2)=r.si:=(cell_of_row w b _ _ _ _ h).trans rfl
theorem RRol.c3 {r:Ro} (h:RRol w b r):w.cell? (b,3)=some (.bool r.ac):=(cell_of_row w b _ _ _ _ h).trans rfl
theorem RRol.fr {r:Ro} (h:RRol w b r) (i:Nat):w.frozen? (b,i)=false:=frozen_of_row w b i _ _ h
theorem RRol.ep {r:Ro} (h:RRol w b r) (x:Int):RRol (w.setCell (b,1) x) b ⟨r.nd,x,r.si,r.ac⟩:=by unfold RRol;rw[heap_setCell_same w b _ _ _ _ h];rfl
theorem RRol.si {r:Ro} (h:RRol w b r) (x:Int):RRol (w.setCell (b,2) x) b ⟨r.nd,r.ep,x,r.ac⟩:=by unfold RRol;rw[heap_setCell_same w b _ _ _ _ h];rfl
theorem RRol.ac {r:Ro} (h:RRol w b r) (x:Bool):RRol (w.setCell (b,3) (.bool x)) b ⟨r.nd,r.ep,r.si,x⟩:=by unfold RRol;rw[heap_setCell_same w b _ _ _ _ h];rfl
theorem rtick_any (b:Nat) (q:Ro) (w:World) (R:RRol w b q) (h0:0<=q.si) (h1:q.si<=1000000):Calls Tryz.prog 125 #[.pointer (some (b,0))] w fun e w'=>e=.returned (.bool q.rrings)/\RRol w' b q.rtick/\Chg b w w':=by
 obtain⟨nd,ep,si,ac⟩:=q
 have HR:Hid (RRol w b ⟨nd,ep,si,ac⟩):=R
 have c2:w.cell? (b,2)=si:=R.c2
 have c3:w.cell? (b,3)=some (.bool ac):=R.c3
 have f2:=R.fr 2
 have k0:0<=si:=h0
 have k1:si<=1000000:=h1
 clear R h0 h1
 cases ac
 ·have hw:IntKind.i64.wrap (si+1)=si+1:=by rw[IntKind.wrap_i64];omega
  have hc:=World.cell?_setCell_same w (b,2) (.int .i64 (si+1)) c2
  go_enter Tryz.func125,Tryz.ntmps125
  go_wp2_with fail
  go_ret
  exact⟨rfl,HR.si _,Chg.set _ _ _ _⟩
 ·go_enter Tryz.func125,Tryz.ntmps125
  go_wp2_with fail
  go_ret
  exact⟨rfl,HR,Chg.refl _ _⟩
theorem rrnext_any (b:Nat) (q:Ro) (w:World) (R:RRol w b q) (hn:q.nd=0\/q.nd=1) (h0:0<=q.ep) (h1:q.ep<=1073741824) :
  Calls Tryz.prog 126 #[.pointer (some (b,0))] w fun e w'=>e=.returned (.tuple #[q.nxV,.int .i64 (q.nxE:Int)])/\w'=w:=by
 obtain⟨nd,ep,si,ac⟩:=q
 have g0:w.cell? (b,0)=nd:=R.c0
 have g1:w.cell? (b,1)=ep:=R.c1
 have k0:0<=ep:=h0
 have k1:ep<=1073741824:=h1
 have kn:nd=0\/nd=1:=hn
 clear R h0 h1 hn
 have hw:IntKind.i64.wrap (ep+1)=ep+1:=by rw[IntKind.wrap_i64];omega
 have HX:Hid ((⟨nd,ep,si,ac⟩:Ro).nx=if (ep+1) % 2=nd then ep+1 else ep+2):=(rfl:(⟨nd,ep,si,ac⟩:Ro).nx=if (ep+1) % 2=nd then ep+1 else ep+2)
 have HV:Hid ((⟨nd,ep,si,ac⟩:Ro).nxV=(if 1073741824 < (⟨nd,ep,si,ac⟩:Ro).nx then 0 else (⟨nd,ep,si,ac⟩:Ro).nx)/\(⟨nd,ep,si,ac⟩:Ro).nxE=(if 1073741824 < (⟨nd,ep,si,ac⟩:Ro).nx then 2 else 0)):=⟨rfl,rfl⟩
 generalize (⟨nd,ep,si,ac⟩:Ro).nx=x at *
 generalize (⟨nd,ep,si,ac⟩:Ro).nxV=xv at *
 generalize (⟨nd,ep,si,ac⟩:Ro).nxE=xe at *
 go_enter Tryz.func126,Tryz.ntmps126
 go_wp2_with fail
 go_loopw [4] (fun t wr=>wr=w/\(t=.int .i64 (ep+1)\/(t=.int .i64 (ep+2)/\(ep+1) % 2≠nd))) (fun t _=>(ep+2).toNat - (intOf t).toNat)
 case atStart=>exact⟨rfl,Or.inl rfl⟩
 case round =>
  obtain⟨rfl,ht⟩:=hrel
  have fin:∀y:Int,x=y->Hid ((1073741824 < y->xv=0/\xe=2)/\(¬1073741824 < y->xv=y/\xe=0)):=fun y hy=>by
   show _/\_
   have:=HV.out
   rw[hy]at this
   constructor
   ·intro h;rw[if_pos h,if_pos h]at this;exact this
   ·intro h;rw[if_neg h,if_neg h]at this;exact this
  by_cases hp:(ep+1) % 2=nd
  ·have ht:=ht.resolve_right (fun h=>h.2 hp)
   subst ht
   have HF:=fin (ep+1) (by rw[HX.out,if_pos hp])
   clear fin HV HX
   have hm:=tmod2 (n:=ep+1) (by omega)
   have hne:((ep+1) % 2==nd)=true:=beq_iff_eq.2 hp
   by_cases h2:1073741824 < ep+1
   ·obtain⟨rfl,rfl⟩:=HF.1 h2
    go_wp2_with fail
    go_ret2
    exact⟨rfl,rfl⟩
   ·obtain⟨rfl,rfl⟩:=HF.2 h2
    go_wp2_with fail
    go_ret2
    exact⟨rfl,rfl⟩
  ·have HF:=fin (ep+2) (by rw[HX.out,if_neg hp])
   clear fin HV HX
   rcases ht with rfl | ⟨rfl,_⟩
   ·have hm:=tmod2 (n:=ep+1) (by omega)
    have hne:((ep+1) % 2==nd)=false:=beq_eq_false_iff_ne.2 hp
    have hw2:IntKind.i64.wrap (ep+1+1)=ep+2:=by rw[IntKind.wrap_i64];omega
    go_wp2_with fail
    exact⟨⟨by trivial,Or.inr ⟨rfl,hp⟩⟩,by simp[intOf];omega⟩
   ·have hm:=tmod2 (n:=ep+2) (by omega)
    have hne:((ep+2) % 2==nd)=true:=beq_iff_eq.2 (by omega)
    by_cases h2:1073741824 < ep+2
    ·obtain⟨rfl,rfl⟩:=HF.1 h2
     go_wp2_with fail
     go_ret2
     exact⟨rfl,rfl⟩
    ·obtain⟨rfl,rfl⟩:=HF.2 h2
     go_wp2_with fail
     go_ret2
     exact⟨rfl,rfl⟩
end
section
variable {w0 w w':World} {b m:Nat} {r q:Ro}
theorem rclaim_any (b:Nat) (q:Ro) (n:Int) (w:World) (R:RRol w b q) (hn:q.nd=0\/q.nd=1) (h0:0<=q.ep) (h1:q.ep<=1073741824) :
  Calls Tryz.prog 127 #[.pointer (some (b,0)),n] w fun e w'=>e=.returned (.int .i64 (q.clE n:Int))/\RRol w' b (q.claim n)/\Chg b w w':=by
 have HR:Hid (RRol w b q):=R
 have HN:Hid ((q.nd=0\/q.nd=1)/\0<=q.ep/\q.ep<=1073741824):=⟨hn,h0,h1⟩
 have c1:=R.c1
 have c3:=R.c3
 have f1:=R.fr 1
 have f3:=R.fr 3
 clear R hn h0 h1
 cases ha:q.ac
 ·rw[ha]at c3
  by_cases h2:1073741824 < q.nx
  ·have HE:Hid (q.clE n=2):=by show _=_;unfold Ro.clE;rw[ha,if_neg (by simp),if_pos h2]
   have HQ:Hid (q.claim n=q):=by show _=_;unfold Ro.claim;rw[HE.out];rfl
   have HV:Hid (q.nxV=0/\q.nxE=2):=by show _/\_;unfold Ro.nxV Ro.nxE;rw[if_pos h2,if_pos h2];exact⟨rfl,rfl⟩
   clear ha h2
   go_enter Tryz.func127,Tryz.ntmps127
   go_wp2_with fail
   refine(rrnext_any b q _ HR HN.1 HN.2.1 HN.2.2).mono ?_
   rintro e w2 ⟨rfl,rfl⟩
   rw[HV.1,HV.2]
   go_wp2_with fail
   go_ret
   exact⟨by rw[HE.out];rfl,by rw[HQ.out];exact HR,Chg.refl _ _⟩
  ·have HV:Hid (q.nxV=q.nx/\q.nxE=0):=by show _/\_;unfold Ro.nxV Ro.nxE;rw[if_neg h2,if_neg h2];exact⟨rfl,rfl⟩
   by_cases hn:n=q.nx
   ·have HE:Hid (q.clE n=0):=by show _=_;unfold Ro.clE;rw[ha,if_neg (by simp),if_neg h2,if_pos hn]
    have HQ:Hid (q.claim n=⟨q.nd,n,q.si,true⟩):=by show _=_;unfold Ro.claim;rw[HE.out];rfl
    have HX:Hid (q.nx=n):=hn.symm
    clear ha h2 hn
    go_enter Tryz.func127,Tryz.ntmps127
    go_wp2_with fail
    refine(rrnext_any b q _ HR HN.1 HN.2.1 HN.2.2).mono ?_
    rintro e w2 ⟨rfl,rfl⟩
    rw[HV.1,HV.2,HX.out]
    go_wp2_with fail
    go_ret
    exact⟨by rw[HE.out];rfl,by rw[HQ.out];exact(HR.ac true).ep n,(Chg.set _ _ _ _).trans (Chg.set _ _ _ _)⟩
   ·have HE:Hid (q.clE n=3):=by show _=_;unfold Ro.clE;rw[ha,if_neg (by simp),if_neg h2,if_neg hn]
    have HQ:Hid (q.claim n=q):=by show _=_;unfold Ro.claim;rw[HE.out];rfl
    clear ha h2
    generalize hx:q.nx=x at *
    have HX:Hid (q.nx=x):=hx
    clear hx
    have hn':¬x=n:=fun h=>hn h.symm
    go_enter Tryz.func127,Tryz.ntmps127
    go_wp2_with fail
    refine(rrnext_any b q _ HR HN.1 HN.2.1 HN.2.2).mono ?_
    rintro e w2 ⟨rfl,rfl⟩
    rw[HV.1,HV.2]
    go_wp2_with fail
    go_ret
    exact⟨by rw[HE.out];rfl,by rw[HQ.out];exact HR,Chg.refl _ _⟩
 ·rw[ha]at c3
  have HE:Hid (q.clE n=11):=by show _=_;unfold Ro.clE;rw[ha,if_pos rfl]
  have HQ:Hid (q.claim n=q):=by show _=_;unfold Ro.claim;rw[HE.out];rfl
  clear ha
  go_enter Tryz.func127,Tryz.ntmps127
  go_wp2_with fail
  go_ret
  exact⟨by rw[HE.out];rfl,by rw[HQ.out];exact HR,Chg.refl _ _⟩
theorem rhear_any (b:Nat) (q:Ro) (n:Int) (w:World) (R:RRol w b q) :
  Calls Tryz.prog 133 #[.pointer (some (b,0)),n] w fun e w'=>e=.returned (.bool (q.rfalls n))/\RRol w' b (q.rhear n)/\Chg b w w':=by
 have HR:Hid (RRol w b q):=R
 have c1:=R.c1
 have c2:=R.c2
 have c3:=R.c3
 have f1:=R.fr 1
 have f2:=R.fr 2
 have f3:=R.fr 3
 clear R
 have HNO:Hid ((isEpR n=false\/n < q.ep)->q.rhear n=q/\q.rfalls n=false):=fun h=>Ro.rhear_no h
 have HIS:Hid (0<=n/\n<=1073741824->isEpR n=true):=fun h=>isEpR_iff.2 h
 by_cases hn:n < 0
 ·have HH:=HNO.out (Or.inl (by unfold isEpR;rw[decide_eq_false (by omega)];rfl))
  have HQ:Hid (q.rhear n=q/\q.rfalls n=false):=HH
  clear HH HNO HIS
  go_enter Tryz.func133,Tryz.ntmps133
  go_wp2_with fail
  go_ret
  exact⟨by rw[HQ.2];rfl,by rw[HQ.1];exact HR,Chg.refl _ _⟩
 ·by_cases hm:1073741824 < n
  ·have HH:=HNO.out (Or.inl (by unfold isEpR;rw[decide_eq_false (show ¬n<=1073741824 by omega)];simp))
   have HQ:Hid (q.rhear n=q/\q.rfalls n=false):=HH
   clear HH HNO HIS
   go_enter Tryz.func133,Tryz.ntmps133
   go_wp2_with fail
   go_ret
   exact⟨by rw[HQ.2];rfl,by rw[HQ.1];exact HR,Chg.refl _ _⟩
  ·have hp:=HIS.out (by omega)
   by_cases hl:n < q.ep
   ·have HQ:Hid (q.rhear n=q/\q.rfalls n=false):=HNO.out (Or.inr hl)
    clear HNO HIS hp
    have hne:(n==q.ep)=false:=beq_eq_false_iff_ne.2 (by omega)
    have hg:¬q.ep < n:=by omega
    cases ha:q.ac
    all_goals
     rw[ha]at c3
     clear ha
     go_enter Tryz.func133,Tryz.ntmps133
     go_wp2_with fail
     go_ret
     exact⟨by rw[HQ.2];rfl,by rw[HQ.1];exact HR,Chg.refl _ _⟩
   ·by_cases hg:q.ep < n
    ·have HQ:Hid (q.rhear n=⟨q.nd,n,0,false⟩/\q.rfalls n=q.ac):=Ro.rhear_gt hp hg
     clear HNO HIS hp
     have d1:=World.cell?_setCell_same w (b,1) n c1
     have d3:=World.cell?_setCell_same (w.setCell (b,1) n) (b,3) (.bool false) ((World.cell?_setCell_other _ _ _ _ (by simp)).trans c3)
     go_enter Tryz.func133,Tryz.ntmps133
     go_wp2_with fail
     go_ret
     exact⟨by rw[HQ.2];rfl,by rw[HQ.1];exact((HR.ep n).ac false).si 0,((Chg.set _ _ _ _).trans (Chg.set _ _ _ _)).trans (Chg.set _ _ _ _)⟩
    ·obtain rfl:n=q.ep:=by omega
     have HQ:Hid (q.rhear q.ep=(if q.ac=false then ⟨q.nd,q.ep,0,false⟩ else q)/\q.rfalls q.ep=false):=Ro.rhear_eq hp
     clear HNO HIS hp
     generalize hx:q.ep=x at *
     have HX:Hid (q.ep=x):=hx
     clear hx
     cases ha:q.ac
     ·rw[ha]at c3
      have HA:Hid (q.ac=false):=ha
      clear ha
      go_enter Tryz.func133,Tryz.ntmps133
      go_wp2_with fail
      go_ret
      refine⟨by rw[HQ.2];rfl,?_,Chg.set _ _ _ _⟩
      rw[HQ.1,if_pos HA.out]
      have:=HR.si 0
      rw[HX.out,HA.out]at this
      exact this
     ·rw[ha]at c3
      have HA:Hid (¬q.ac=false):=by show ¬_;rw[ha];simp
      clear ha
      go_enter Tryz.func133,Tryz.ntmps133
      go_wp2_with fail
      go_ret
      exact⟨by rw[HQ.2];rfl,by rw[HQ.1,if_neg HA.out];exact HR,Chg.refl _ _⟩
structure Two (w0 w:World) (b m:Nat) (r q:Ro):Prop where
 y:Rol w b r
 z:RRol w m q
 ne:b≠m
 hb:w0.heap.size<=b
 hm:w0.heap.size<=m
 bl:Below w0 w0 w
theorem Two.below (h:Two w0 w b m r q) (k:Below w w w'):Two w0 w' b m r q:=⟨h.y.below k,h.z.below k,h.ne,h.hb,h.hm,t2 h.bl k⟩
theorem Two.one {r':Ro} (h:Two w0 w b m r q) (a:Rol w' b r') (k:Chg b w w'):Two w0 w' b m r' q:=⟨a,h.z.chg k (fun e=>h.ne e.symm),h.ne,h.hb,h.hm,Chg.below h.bl k h.hb⟩
theorem Two.two {q':Ro} (h:Two w0 w b m r q) (a:RRol w' m q') (k:Chg m w w'):Two w0 w' b m r q':=⟨h.y.chg k h.ne,a,h.ne,h.hb,h.hm,Chg.below h.bl k h.hm⟩
end
theorem byte_any (n:Int) (h0:0<=n) (h1:n<=255) (w:World):Calls Tryz.prog 101 #[n] w fun e w'=>e=.returned (.string ⟨#[UInt8.ofNat n.toNat]⟩)/\Below w w w':=by
 have hcv:=run_convert_bytes_arg (P := Tryz.prog) (w.alloc (.cells #[.int .u8 (n % 256)] 5)) 121 5 Tryz.underlying121 Tryz.underlying5 w.heap.size 0 1 1 [n % 256] rfl (fun i hi=>by
  obtain rfl:i=0:=by omega
  simp) 9 Tryz.underlying9
 have hst:strOfNums [n % 256]=⟨#[UInt8.ofNat n.toNat]⟩:=by
  rw[Int.emod_eq_of_lt h0 (by omega)];rfl
 rw[hst]at hcv
 clear hst h0 h1
 go_enter Tryz.func101,Tryz.ntmps101
 go_wp2_with fail
 go_ret
 exact⟨rfl,(Below.refl _ _).alloc (Nat.le_refl _) _⟩
def wideL (n:Int):Nat->List UInt8
 | 0=>[]
 | k+1=>wideL (n / 256) k++[UInt8.ofNat (n % 256).toNat]
theorem wideL_snoc:∀(k:Nat) (n:Int),wideL n (k+1)=UInt8.ofNat (n / 256 ^ k % 256).toNat::wideL n k
 | 0,n=>by simp[wideL]
 | k+1,n=>by
  rw[wideL,wideL_snoc k (n / 256),wideL]
  simp only[List.cons_append]
  rw[Int.ediv_ediv_of_nonneg (by omega),show(256:Int) * 256 ^ k=256 ^ (k+1) from by rw[Int.pow_succ,Int.mul_comm]]
theorem wideL_len:∀(k:Nat) (n:Int),(wideL n k).length=k
 | 0,_=>rfl
 | k+1,n=>by simp[wideL,wideL_len k]
theorem wide_any (n:Int) (h0:0<=n) (h1:n < 4294967296) (m:Nat) (hm:m<=8) (w:World):Calls Tryz.prog 151 #[n,m] w fun e w'=>e=.returned (.string ⟨(wideL n m).toArray⟩)/\Below w w w':=by
 go_enter Tryz.func151,Tryz.ntmps151
 go_wp2_with fail
 go_loopw [0,5,6] (fun a o t wr=>∃k:Nat,k<=m/\t=.int .i64 k/\a=.int .i64 (n / 256 ^ k)/\o=.string ⟨(wideL n k).toArray⟩/\Below w w wr) (fun _ _ t _=>m - (intOf t).toNat)
 case atStart=>exact⟨0,by omega,rfl,by simp,rfl,Below.refl _ _⟩
 case round =>
  obtain⟨k,hk,rfl,rfl,rfl,hb⟩:=hrel
  have HB:Hid (Below w w wr):=hb
  have hl:=wideL_len k n
  have hs:=wideL_snoc k n
  have HS:Hid (wideL n (k+1)=UInt8.ofNat (n / 256 ^ k % 256).toNat::wideL n k):=hs
  have hq:0<=n / 256 ^ k:=Int.ediv_nonneg h0 (by exact Int.le_of_lt (Int.pow_pos (by omega)))
  have hq2:n / 256 ^ k < 4294967296:=Int.lt_of_le_of_lt (Int.ediv_le_self _ h0) h1
  have hd:n / 256 ^ k / 256=n / 256 ^ (k+1):=by rw[Int.ediv_ediv_of_nonneg (by exact Int.le_of_lt (Int.pow_pos (by omega))),Int.pow_succ]
  have HD:Hid (n / 256 ^ k / 256=n / 256 ^ (k+1)):=hd
  clear hb hs hd
  generalize n / 256 ^ k=q at *
  generalize hLL:wideL n k=L at *
  have HLL:Hid (wideL n k=L):=hLL
  clear hLL
  have hl2:L.length<=8:=by omega
  clear hl
  by_cases hlt:k < m
  ·go_wp2_with fail
   refine(byte_any _ (by omega) (by omega) _).mono ?_
   rintro e w1 ⟨rfl,hb1⟩
   have HB1:Hid (Below w w w1):=t2 HB hb1
   clear hb1
   go_wp2_with fail
   go_roundw
   case rel=>exact⟨k+1,by omega,by go_num,by rw[<- HD.out],congrArg Value.string (by rw[HS.out];apply ByteArray.ext;simp[ByteArray.data_append]),HB1⟩
   case measure=>simp[intOf];omega
  ·obtain rfl:k=m:=by omega
   have HL:Hid (wideL n k=L):=HLL.out
   go_wp2_with fail
   go_ret
   refine⟨?_,HB⟩
   rw[HL.out]
   rfl
def stB (L:List UInt8):ByteArray:=⟨L.toArray⟩
theorem stB_append (L M:List UInt8):stB L++stB M=stB (L++M):=by apply ByteArray.ext;simp[stB,ByteArray.data_append]
theorem byte_mod (n:Nat):UInt8.ofNat (n % 256)=UInt8.ofNat n:=by
 apply UInt8.toNat_inj.1
 rw[byte_of,byte_of]
 omega
theorem wide_w4 (n:Nat):wideL n 4=w4 n:=by
 rw[wideL_snoc,wideL_snoc,wideL_snoc,wideL_snoc]
 have e:∀m:Nat,UInt8.ofNat ((m:Int) % 256).toNat=UInt8.ofNat m:=fun m=>by
  rw[show((m:Int) % 256).toNat=m % 256 from by omega,byte_mod]
 have e3:((n:Int) / 256 ^ 3)=((n / 16777216:Nat):Int):=by omega
 have e2:((n:Int) / 256 ^ 2)=((n / 65536:Nat):Int):=by omega
 have e1:((n:Int) / 256 ^ 1)=((n / 256:Nat):Int):=by omega
 have e0:((n:Int) / 256 ^ 0)=((n:Nat):Int):=by omega
 rw[e3,e2,e1,e0,e,e,e,e]
 rfl
theorem wide4_any (n:Nat) (h:n < 4294967296) (w:World):Calls Tryz.prog 151 #[n,.int .i64 4] w fun e w'=>e=.returned (.string (stB (w4 n)))/\Below w w w':=by
 have:=wide_any n (by omega) (by omega) 4 (by omega) w
 rw[wide_w4]at this
 exact this
theorem value_any (L:List UInt8) (h:L.length=4) (w:World):Calls Tryz.prog 99 #[.string (stB L)] w fun e w'=>e=.returned (.int .i64 (beN L 0 4))/\w'=w:=by
 have hs:(stB L).size=4:=h
 have HX:Hid (∀k:Nat,(hk:k < L.length)->beN L 0 (k+1)=256 * beN L 0 k+(L[k]'hk).toNat):=fun k hk=>by
  rw[beN,Nat.zero_add,List.getD_eq_getElem?_getD,List.getElem?_eq_getElem hk]
  rfl
 have HI:Hid (∀k:Nat,(hk:k < L.length)->(h2:k < (stB L).size)->(stB L)[k]'h2=L[k]'hk):=fun k hk h2=>rfl
 generalize stB L=S at *
 go_enter Tryz.func99,Tryz.ntmps99
 go_wp2_with fail
 go_loop [3,4] (fun r i=>∃k:Nat,k<=4/\i=.int .i64 k/\r=.int .i64 (beN L 0 k)) (fun _ i=>4 - (intOf i).toNat)
 case atStart=>exact⟨0,by omega,rfl,rfl⟩
 case round =>
  obtain⟨k,hk,rfl,rfl⟩:=hrel
  by_cases hlt:k < 4
  ·have hS:(k:Int) < (S.size:Int):=by omega
   have hS2:k < S.size:=by omega
   have HN:=HX.out k (by omega)
   have HNI:Hid (beN L 0 (k+1)=256 * beN L 0 k+(L[k]'(by omega)).toNat):=HN
   have HK:Hid (S[k]'hS2=L[k]'(by omega)):=HI.out k (by omega) hS2
   have hv:=(S[k]'hS2).toNat_lt
   have hr:=beN_lt L 0 k
   have hr2:beN L 0 k < 16777216:=by
    have:256 ^ k<=256 ^ 3:=Nat.pow_le_pow_right (by decide) (by omega)
    have e:(256:Nat) ^ 3=16777216:=by decide
    omega
   clear HN hr
   generalize beN L 0 k=r at *
   go_wp2_with fail
   refine⟨⟨k+1,by omega,by go_num,?_⟩,by simp[intOf];omega⟩
   rw[HNI.out,<- HK.out]
   go_num
  ·have HK:Hid (k=4):=(show k=4 by omega)
   generalize hr:beN L 0 k=r at *
   have HR:Hid (r=beN L 0 4):=by rw[<- HK.out];exact hr.symm
   have hS:¬(k:Int) < (S.size:Int):=by omega
   clear hr
   go_wp2_with fail
   go_ret
   exact⟨by rw[<- HR.out];rfl,rfl⟩
def rbit (v k c:Nat):Nat:=if (c ^^^ (v / 2 ^ k)) % 2=1 then (c / 2) ^^^ 3988292384 else c / 2
def rbits (v c:Nat):Nat->Nat
 | 0=>c
 | k+1=>rbit v k (rbits v c k)
theorem rbits_eq (v c:Nat):∀k,rbits v c k ^^^ (v / 2 ^ k)=crcBits k (c ^^^ v)
 | 0=>by simp[rbits,crcBits]
 | k+1=>by
  have ih:=rbits_eq v c k
  have hd:v / 2 ^ (k+1)=v / 2 ^ k / 2:=by rw[Nat.pow_succ,Nat.div_div_eq_div_mul]
  unfold crcBits rbits rbit crcBit
  rw[<- ih,hd]
  generalize rbits v c k=a
  generalize v / 2 ^ k=q
  have hx:(a ^^^ q) / 2=a / 2 ^^^ q / 2:=by
   have e:∀x:Nat,x / 2=x >>> 1:=fun x=>(Nat.shiftRight_eq_div_pow x 1).symm
   rw[e,e,e,Nat.shiftRight_xor_distrib]
  split
  ·rw[hx]
   rw[Nat.xor_assoc,Nat.xor_assoc,Nat.xor_comm (q / 2)]
  ·rw[hx]
theorem rbits_byte (v:UInt8) (c:Nat):rbits v.toNat c 8=crcByte c v:=by
 have h:=rbits_eq v.toNat c 8
 have hv:=v.toNat_lt
 rw[Nat.div_eq_of_lt (by omega),Nat.xor_zero]at h
 exact h
theorem rbit_lt {v k c:Nat} (h:c < 4294967296):rbit v k c < 4294967296:=by
 unfold rbit
 split
 ·exact Nat.xor_lt_two_pow (n:=32) (by omega) (by omega)
 ·omega
theorem rbits_lt {v c:Nat} (h:c < 4294967296):∀k,rbits v c k < 4294967296
 | 0=>h
 | k+1=>rbit_lt (rbits_lt h k)
theorem i64_xor (a b:Nat) (ha:a < 4294967296) (hb:b < 4294967296):bits .xor .i64 (a:Int) (b:Int)=((a ^^^ b:Nat):Int):=by
 have hx:a ^^^ b < 2 ^ 32:=Nat.xor_lt_two_pow (by omega) (by omega)
 have o:∀n:Nat,n < 4294967296->(BitVec.ofInt 64 (n:Int)).toNat=n:=fun n hn=>by
  rw[BitVec.ofInt_natCast,BitVec.toNat_ofNat];exact Nat.mod_eq_of_lt (by omega)
 show IntKind.i64.wrap ((BitVec.ofInt 64 (a:Int) ^^^ BitVec.ofInt 64 (b:Int)).toNat:Int)=_
 rw[BitVec.toNat_xor,o a ha,o b hb,IntKind.wrap_i64]
 omega
theorem rcrc_any (L:List UInt8) (h:L.length=12) (w:World):Calls Tryz.prog 152 #[.string (stB L)] w fun e w'=>e=.returned (.int .i64 (crc L))/\w'=w:=by
 have hs:(stB L).size=12:=h
 have HI:Hid (∀k:Nat,(hk:k < L.length)->(h2:k < (stB L).size)->(stB L)[k]'h2=L[k]'hk):=fun k hk h2=>rfl
 generalize stB L=S at *
 go_enter Tryz.func152,Tryz.ntmps152
 go_wp2_with fail
 go_loop [3,4] (fun r i=>∃k:Nat,k<=12/\i=.int .i64 k/\r=.int .i64 (crcR (L.take k))) (fun _ i=>12 - (intOf i).toNat)
 case atStart=>exact⟨0,by omega,rfl,rfl⟩
 case round =>
  obtain⟨k,hk,rfl,rfl⟩:=hrel
  by_cases hlt:k < 12
  ·have hS:(k:Int) < (S.size:Int):=by omega
   have hS2:k < S.size:=by omega
   have HK:Hid (S[k]'hS2=L[k]'(by omega)):=HI.out k (by omega) hS2
   have hr:=crcR_lt (L.take k)
   have HS:Hid (crcR (L.take (k+1))=crcByte (crcR (L.take k)) (S[k]'hS2)):=by
    show _=_
    rw[HK.out,List.take_succ_eq_append_getElem (by omega),crcR_snoc]
   generalize crcR (L.take k)=r at *
   obtain⟨v,hve⟩:∃v,S[k]'hS2=v:=⟨_,rfl⟩
   have hv:=v.toNat_lt
   rw[hve]at HS
   go_wp2_with fail
   go_loop [3,5] (fun r' i=>∃j:Nat,j<=8/\i=.int .i64 j/\r'=.int .i64 (rbits v.toNat r j)) (fun _ i=>8 - (intOf i).toNat)
   case atStart=>exact⟨0,by omega,rfl,rfl⟩
   case round =>
    obtain⟨j,hj,rfl,rfl⟩:=hrel
    have hq:=rbits_lt (v:=v.toNat) hr j
    have HN0:Hid (rbits v.toNat r (j+1)=rbit v.toNat j (rbits v.toNat r j)):=rfl
    have HE:Hid (rbits v.toNat r j=rbits v.toNat r j):=rfl
    by_cases hlj:j < 8
    ·generalize rbits v.toNat r j=z at *
     obtain⟨d,hd⟩:∃d,d=v.toNat / 2 ^ j:=⟨_,rfl⟩
     have hdl:d < 256:=by rw[hd];exact Nat.lt_of_le_of_lt (Nat.div_le_self _ _) (by omega)
     obtain⟨q,hqd⟩:∃q,q=z ^^^ d:=⟨_,rfl⟩
     have hx:bits .xor .i64 (z:Int) (d:Int)=(q:Int):=by rw[hqd];exact i64_xor z d hq (by omega)
     have HN:Hid (rbits v.toNat r (j+1)=if q % 2=1 then (z / 2) ^^^ 3988292384 else z / 2):=by rw[HN0.out,hqd,hd];exact rfl
     have HP:Hid (bits .xor .i64 ((z:Int) / 2) 3988292384=(((z / 2) ^^^ 3988292384:Nat):Int)):=by
      have:=i64_xor (z / 2) 3988292384 (by omega) (by omega)
      rw[Int.natCast_ediv]at this
      exact this
     have HD:Hid (d=v.toNat / 2 ^ j):=hd
     clear hd hqd HN0 HE
     have hjj:j=0\/j=1\/j=2\/j=3\/j=4\/j=5\/j=6\/j=7:=by omega
     rcases hjj with rfl | rfl | rfl | rfl | rfl | rfl | rfl | rfl
     ·have hdv:d=v.toNat:=by rw[HD.out];omega
      have hsh:(v.toNat:Int)=(d:Int):=by rw[hdv]
      clear hdv
      clear hlj hj
      rcases Nat.mod_two_eq_zero_or_one q with h2 | h2
      ·have h3:((q:Int) % 2)=0:=by omega
       go_wp2_with fail
       refine⟨⟨1,by omega,rfl,?_⟩,by simp[intOf]⟩
       rw[HN.out,if_neg (by omega),Int.natCast_ediv]
       rfl
      ·have h3:((q:Int) % 2)=1:=by omega
       go_wp2_with fail
       refine⟨⟨1,by omega,rfl,?_⟩,by simp[intOf]⟩
       rw[HN.out,if_pos h2]
       exact congrArg (Value.int .i64) HP
     ·have hsh:((v.toNat:Int) / 2)=(d:Int):=by rw[HD.out];omega
      clear hlj hj
      rcases Nat.mod_two_eq_zero_or_one q with h2 | h2
      ·have h3:((q:Int) % 2)=0:=by omega
       go_wp2_with fail
       refine⟨⟨2,by omega,rfl,?_⟩,by simp[intOf]⟩
       rw[HN.out,if_neg (by omega),Int.natCast_ediv]
       rfl
      ·have h3:((q:Int) % 2)=1:=by omega
       go_wp2_with fail
       refine⟨⟨2,by omega,rfl,?_⟩,by simp[intOf]⟩
       rw[HN.out,if_pos h2]
       exact congrArg (Value.int .i64) HP
     ·have hsh:((v.toNat:Int) / 4)=(d:Int):=by rw[HD.out];omega
      clear hlj hj
      rcases Nat.mod_two_eq_zero_or_one q with h2 | h2
      ·have h3:((q:Int) % 2)=0:=by omega
       go_wp2_with fail
       refine⟨⟨3,by omega,rfl,?_⟩,by simp[intOf]⟩
       rw[HN.out,if_neg (by omega),Int.natCast_ediv]
       rfl
      ·have h3:((q:Int) % 2)=1:=by omega
       go_wp2_with fail
       refine⟨⟨3,by omega,rfl,?_⟩,by simp[intOf]⟩
       rw[HN.out,if_pos h2]
       exact congrArg (Value.int .i64) HP
     ·have hsh:((v.toNat:Int) / 8)=(d:Int):=by rw[HD.out];omega
      clear hlj hj
      rcases Nat.mod_two_eq_zero_or_one q with h2 | h2
      ·have h3:((q:Int) % 2)=0:=by omega
       go_wp2_with fail
       refine⟨⟨4,by omega,rfl,?_⟩,by simp[intOf]⟩
       rw[HN.out,if_neg (by omega),Int.natCast_ediv]
       rfl
      ·have h3:((q:Int) % 2)=1:=by omega
       go_wp2_with fail
       refine⟨⟨4,by omega,rfl,?_⟩,by simp[intOf]⟩
       rw[HN.out,if_pos h2]
       exact congrArg (Value.int .i64) HP
     ·have hsh:((v.toNat:Int) / 16)=(d:Int):=by rw[HD.out];omega
      clear hlj hj
      rcases Nat.mod_two_eq_zero_or_one q with h2 | h2
      ·have h3:((q:Int) % 2)=0:=by omega
       go_wp2_with fail
       refine⟨⟨5,by omega,rfl,?_⟩,by simp[intOf]⟩
       rw[HN.out,if_neg (by omega),Int.natCast_ediv]
       rfl
      ·have h3:((q:Int) % 2)=1:=by omega
       go_wp2_with fail
       refine⟨⟨5,by omega,rfl,?_⟩,by simp[intOf]⟩
       rw[HN.out,if_pos h2]
       exact congrArg (Value.int .i64) HP
     ·have hsh:((v.toNat:Int) / 32)=(d:Int):=by rw[HD.out];omega
      clear hlj hj
      rcases Nat.mod_two_eq_zero_or_one q with h2 | h2
      ·have h3:((q:Int) % 2)=0:=by omega
       go_wp2_with fail
       refine⟨⟨6,by omega,rfl,?_⟩,by simp[intOf]⟩
       rw[HN.out,if_neg (by omega),Int.natCast_ediv]
       rfl
      ·have h3:((q:Int) % 2)=1:=by omega
       go_wp2_with fail
       refine⟨⟨6,by omega,rfl,?_⟩,by simp[intOf]⟩
       rw[HN.out,if_pos h2]
       exact congrArg (Value.int .i64) HP
     ·have hsh:((v.toNat:Int) / 64)=(d:Int):=by rw[HD.out];omega
      clear hlj hj
      rcases Nat.mod_two_eq_zero_or_one q with h2 | h2
      ·have h3:((q:Int) % 2)=0:=by omega
       go_wp2_with fail
       refine⟨⟨7,by omega,rfl,?_⟩,by simp[intOf]⟩
       rw[HN.out,if_neg (by omega),Int.natCast_ediv]
       rfl
      ·have h3:((q:Int) % 2)=1:=by omega
       go_wp2_with fail
       refine⟨⟨7,by omega,rfl,?_⟩,by simp[intOf]⟩
       rw[HN.out,if_pos h2]
       exact congrArg (Value.int .i64) HP
     ·have hsh:((v.toNat:Int) / 128)=(d:Int):=by rw[HD.out];omega
      clear hlj hj
      rcases Nat.mod_two_eq_zero_or_one q with h2 | h2
      ·have h3:((q:Int) % 2)=0:=by omega
       go_wp2_with fail
       refine⟨⟨8,by omega,rfl,?_⟩,by simp[intOf]⟩
       rw[HN.out,if_neg (by omega),Int.natCast_ediv]
       rfl
      ·have h3:((q:Int) % 2)=1:=by omega
       go_wp2_with fail
       refine⟨⟨8,by omega,rfl,?_⟩,by simp[intOf]⟩
       rw[HN.out,if_pos h2]
       exact congrArg (Value.int .i64) HP
    ·have HJ:Hid (j=8):=(show j=8 by omega)
     have HZ:Hid (rbits v.toNat r j=crcByte r v):=by
      show _=_
      rw[HJ.out];exact rbits_byte v r
     generalize rbits v.toNat r j=z at *
     go_wp2_with fail
     refine⟨⟨k+1,by omega,by go_num,?_⟩,by simp[intOf];omega⟩
     rw[HS.out,HZ.out]
  ·have HL:Hid (L.take k=L):=List.take_of_length_le (by omega)
   rw[HL.out]
   have hr:=crcR_lt L
   have HC:Hid (crc L=4294967295 ^^^ crcR L):=rfl
   have hS:¬(k:Int) < (S.size:Int):=by omega
   generalize crcR L=r at *
   have hxm:bits .xor .i64 (r:Int) 4294967295=((4294967295 ^^^ r:Nat):Int):=by
    rw[Nat.xor_comm];exact i64_xor r 4294967295 hr (by omega)
   go_wp2_with fail
   go_ret
   exact⟨by rw[HC.out];rfl,rfl⟩
section
variable {w w':World} {n:Nat} {s:By} {lv:Int}
theorem rbody_any (x:Nm) (h1:x.n < 4294967296) (h2:x.e < 4294967296) (h3:x.l < 4294967296) (w:World) :
  Calls Tryz.prog 100 #[x.n,x.e,x.l] w fun e w'=>e=.returned (.string (stB (img x)))/\Below w w w':=by
 have z1:(stB (w4 x.n)).size=4:=rfl
 have z2:(stB (w4 x.e)).size=4:=rfl
 have z3:(stB (w4 x.l)).size=4:=rfl
 have z4:(stB (w4 (crc (body x)))).size=4:=rfl
 have zb:(stB (body x)).size=12:=rfl
 have hb:stB (w4 x.n)++stB (w4 x.e)++stB (w4 x.l)=stB (body x):=by rw[stB_append,stB_append];rfl
 have HB:Hid (stB (body x)++stB (w4 (crc (body x)))=stB (img x)):=by show _=_;rw[stB_append];rfl
 have W1:Hid (∀w,Calls Tryz.prog 151 #[x.n,.int .i64 4] w fun e w'=>e=.returned (.string (stB (w4 x.n)))/\Below w w w'):=fun w=>wide4_any x.n h1 w
 have W2:Hid (∀w,Calls Tryz.prog 151 #[x.e,.int .i64 4] w fun e w'=>e=.returned (.string (stB (w4 x.e)))/\Below w w w'):=fun w=>wide4_any x.e h2 w
 have W3:Hid (∀w,Calls Tryz.prog 151 #[x.l,.int .i64 4] w fun e w'=>e=.returned (.string (stB (w4 x.l)))/\Below w w w'):=fun w=>wide4_any x.l h3 w
 have WC:Hid (∀w,Calls Tryz.prog 152 #[.string (stB (body x))] w fun e w'=>e=.returned (.int .i64 (crc (body x)))/\w'=w):=fun w=>rcrc_any (body x) (body_len x) w
 have W4:Hid (∀w,Calls Tryz.prog 151 #[.int .i64 (crc (body x)),.int .i64 4] w fun e w'=>e=.returned (.string (stB (w4 (crc (body x)))))/\Below w w w'):=fun w=>wide4_any _ (crc_lt _) w
 have hs1:(stB (w4 x.n)++stB (w4 x.e)).size=8:=by rw[stB_append];rfl
 have hs2:(stB (w4 x.n)++stB (w4 x.e)++stB (w4 x.l)).size=12:=by rw[hb];rfl
 generalize stB (w4 x.n)=a at *
 generalize stB (w4 x.e)=b at *
 generalize stB (w4 x.l)=c at *
 generalize stB (w4 (crc (body x)))=d at *
 go_enter Tryz.func100,Tryz.ntmps100
 go_wp2_with fail
 refine(W1 _).mono ?_
 rintro e w1 ⟨rfl,hb1⟩
 have B1:Hid (Below w w w1):=hb1
 clear hb1
 go_wp2_with fail
 refine(W2 _).mono ?_
 rintro e w2 ⟨rfl,hb2⟩
 have B2:Hid (Below w w w2):=t2 B1 hb2
 clear hb2
 go_wp2_with fail
 refine(W3 _).mono ?_
 rintro e w3 ⟨rfl,hb3⟩
 have B3:Hid (Below w w w3):=t2 B2 hb3
 clear hb3
 go_wp2_with fail
 refine(WC _).mono ?_
 rintro e w4' ⟨rfl,hw4⟩
 obtain rfl:=hw4.symm
 go_wp2_with fail
 refine(W4 _).mono ?_
 rintro e w5 ⟨rfl,hb5⟩
 have B5:Hid (Below w w w5):=t2 B3 hb5
 clear hb5
 go_wp2_with fail
 go_ret
 exact⟨by rw[<- HB.out];rfl,B5⟩
def RBy (w:World) (n:Nat) (s:By) (lv:Int):Prop:=w.heap[n]? = some (.cells #[.string (stB s.B),.bool (!s.on),lv,.bool s.cut] 123 (0,0))
theorem RBy.lt (h:RBy w n s lv):n < w.heap.size:=by
 rcases Nat.lt_or_ge n w with h1 | h1
 ·exact h1
 ·rw[RBy,Array.getElem?_eq_none h1]at h;cases h
theorem RBy.below (h:RBy w n s lv) (hb:Below w w w'):RBy w' n s lv:=by unfold RBy;rw[hb.block n h.lt];exact h
theorem RBy.chg {b:Nat} (h:RBy w n s lv) (hb:Chg b w w') (hn:n≠b):RBy w' n s lv:=by unfold RBy;rw[hb.block n h.lt hn];exact h
theorem RBy.chg2 {b c:Nat} (h:RBy w n s lv) (hb:Chg2 b c w w') (h1:n≠b) (h2:n≠c):RBy w' n s lv:=by unfold RBy;rw[hb.block n h.lt h1 h2];exact h
theorem RBy.c0 (h:RBy w n s lv):w.cell? (n,0)=some (.string (stB s.B)):=(cell_of_row w n _ _ _ _ h).trans rfl
theorem RBy.c1 (h:RBy w n s lv):w.cell? (n,1)=some (.bool (!s.on)):=(cell_of_row w n _ _ _ _ h).trans rfl
theorem RBy.c2 (h:RBy w n s lv):w.cell? (n,2)=lv:=(cell_of_row w n _ _ _ _ h).trans rfl
theorem RBy.c3 (h:RBy w n s lv):w.cell? (n,3)=some (.bool s.cut):=(cell_of_row w n _ _ _ _ h).trans rfl
theorem RBy.fr (h:RBy w n s lv) (i:Nat):w.frozen? (n,i)=false:=frozen_of_row w n i _ _ h
theorem RBy.s0 (h:RBy w n s lv) (L:List UInt8):RBy (w.setCell (n,0) (.string (stB L))) n ⟨L,s.on,s.cut,s.left⟩ lv:=by unfold RBy;rw[heap_setCell_same w n _ _ _ _ h];rfl
theorem RBy.s1 (h:RBy w n s lv) (o:Bool):RBy (w.setCell (n,1) (.bool (!o))) n ⟨s.B,o,s.cut,s.left⟩ lv:=by unfold RBy;rw[heap_setCell_same w n _ _ _ _ h];rfl
theorem RBy.s2 (h:RBy w n s lv) (m:Int):RBy (w.setCell (n,2) m) n s m:=by unfold RBy;rw[heap_setCell_same w n _ _ _ _ h];rfl
theorem RBy.s3 (h:RBy w n s lv) (c:Bool):RBy (w.setCell (n,3) (.bool c)) n ⟨s.B,s.on,c,s.left⟩ lv:=by unfold RBy;rw[heap_setCell_same w n _ _ _ _ h];rfl
theorem RBy.as {t:By} (h:RBy w n s lv) (h1:s.B=t.B) (h2:s.on=t.on) (h3:s.cut=t.cut):RBy w n t lv:=by unfold RBy at *;rw[<- h1,<- h2,<- h3];exact h
def cutL (s:By) (m lv:Int):Int:=if cutE s m=0 then m else lv
theorem rcut_any (n:Nat) (s:By) (lv m:Int) (w:World) (S:RBy w n s lv):Calls Tryz.prog 117 #[.pointer (some (n,0)),m] w fun e w'=>e=.returned (.int .i64 ((cutE s m:Nat):Int))/\RBy w' n (s.setCut m) (cutL s m lv)/\Chg n w w':=by
 have HS:Hid (RBy w n s lv):=S
 have c1:=S.c1
 have c2:=S.c2
 have c3:=S.c3
 have f:=fun i=>S.fr i
 clear S
 by_cases hn:m < 0
 ·have HE:Hid (cutE s m=2):=by unfold cutE;rw[if_pos hn];exact rfl
  have HU:Hid (s.setCut m=s):=by unfold By.setCut;rw[HE.out];exact rfl
  have HV:Hid (cutL s m lv=lv):=by unfold cutL;rw[HE.out];exact rfl
  go_enter Tryz.func117,Tryz.ntmps117
  go_wp2_with fail
  go_ret
  exact⟨by rw[HE.out];rfl,by rw[HU.out,HV.out];exact HS,Chg.refl _ _⟩
 ·cases ho:s.on
  ·have HE:Hid (cutE s m=7):=by unfold cutE;rw[if_neg hn,ho];exact rfl
   have HU:Hid (s.setCut m=s):=by unfold By.setCut;rw[HE.out];exact rfl
   have HV:Hid (cutL s m lv=lv):=by unfold cutL;rw[HE.out];exact rfl
   rw[ho]at c1
   go_enter Tryz.func117,Tryz.ntmps117
   go_wp2_with fail
   go_ret
   exact⟨by rw[HE.out];rfl,by rw[HU.out,HV.out];exact HS,Chg.refl _ _⟩
  ·have HE:Hid (cutE s m=0):=by unfold cutE;rw[if_neg hn,ho];exact rfl
   have HU:Hid (s.setCut m=⟨s.B,s.on,true,m.toNat⟩):=by unfold By.setCut;rw[HE.out];exact rfl
   rw[ho]at c1
   go_enter Tryz.func117,Tryz.ntmps117
   go_wp2_with fail
   go_ret
   refine⟨by rw[HE.out];rfl,?_,(Chg.set _ _ _ _).trans (Chg.set _ _ _ _)⟩
   have HV:Hid (cutL s m lv=m):=by unfold cutL;rw[HE.out];exact rfl
   rw[HU.out,HV.out]
   exact((HS.s3 true).s2 m).as rfl rfl rfl
end
end Go.Proofs.YtdpmeoflgpaljaaGreatDoor
