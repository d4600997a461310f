/-
  What the claimed theorem reaches, part Q36.
-/
import Derived.Test.YtdpmeoflgpaljaaGreatDoorQ35
import Derived.Test.YtdpmeoflgpaljaaGreatDoorQ00
import Derived.Test.YtdpmeoflgpaljaaGreatDoorQ32
import Derived.Test.YtdpmeoflgpaljaaGreatDoorQ22
import Derived.Deep.DeepCutAuto
import Derived.Deep.CutRange
import Derived.Deep.RegionWith
import Derived.Test.YtdpmeoflgpaljaaGreatDoorQ10
namespace Go.Proofs.YtdpmeoflgpaljaaGreatDoor
open Go.RowKit
set_option maxRecDepth 100000
set_option maxHeartbeats 8000000
theorem ropen_any (n:Nat) (s:By) (lv:Int) (w:World) (R:RBy w n s lv) (hB:s.B.length=64) :
  Calls Tryz.prog 61 #[.pointer (some (n,0))] w fun e w'=>(e=.returned (.pointer (some (w.heap.size,0)))/\RCe w' w n (newest s.B) false)/\Below w w w':=by
 have HR:Hid (RBy w n s lv):=R
 have HL:Hid (s.B.length=64):=hB
 clear R hB
 go_enter Tryz.func61,Tryz.ntmps61
 go_wp2_with fail
 obtain⟨w1,hw1⟩:∃w1,w1=w.alloc (.cells #[.pointer (some (n,0)),.int .i64 0,.int .i64 0,.int .i64 0,.bool false] 128):=⟨_,rfl⟩
 have C1:Hid (RCe w1 w n ⟨0,0,0⟩ false):=by rw[hw1];exact heap_alloc_new w _
 have B1:Hid (Below w w w1):=by rw[hw1];exact aB _ _
 rw[<- hw1]
 clear hw1
 obtain⟨Z,hZ⟩:∃Z,Z=w.heap.size:=⟨_,rfl⟩
 have HZ:Hid (Z=w.heap.size):=hZ
 rw[<- hZ]at C1 ⊢
 clear hZ
 go_loopw [4] (fun t wr=>∃k:Nat,k<=2/\t=.int .i64 k/\RCe wr Z n (newestK s.B k) false/\Below Z w wr) (fun t _=>2 - (intOf t).toNat)
 case atStart=>exact⟨0,by omega,rfl,C1,by rw[HZ.out];exact B1⟩
 case round =>
  obtain⟨k,hk,rfl,hc,hb⟩:=hrel
  have CR:Hid (RCe wr Z n (newestK s.B k) false):=hc
  have BR:Hid (Below Z w wr):=hb
  clear hc hb
  by_cases hlt:k < 2
  ·have RR:Hid (RBy wr n s lv):=HR.below (by rw[<- HZ.out];exact BR)
   have b0:=RR.c0
   have zS:(stB s.B).size=64:=HL.out
   obtain⟨p,hp⟩:∃p,p=20 * k:=⟨_,rfl⟩
   have HT:Hid ((stB s.B).extract p (p+17)=stB (slotT s.B k)):=by
    show _=_
    rw[ext_stB,hp]
    unfold slotT
    rw[show 20 * k+17 - 20 * k=17 from by omega]
   have hpv:(20:Int) * (k:Int)=(p:Int):=by omega
   have p1:(p:Int)<=20:=by omega
   have p2:(p:Int)+17<=64:=by omega
   have p3:(p:Int)<=(p:Int)+17:=by omega
   have p4:((p:Int)+17).toNat=p+17:=by omega
   have p5:(0:Int)<=(p:Int)+17:=by omega
   have zT:(stB (slotT s.B k)).size=17:=slotT_len HL k hlt
   have HV0:Hid (∀u,Calls Tryz.prog 99 #[.string ((stB (slotT s.B k)).extract 0 4)] u fun e w'=>e=.returned (.int .i64 (slotN s.B k).n)/\w'=u):=fun u=>by
    rw[ext_stB,nm_T HL.out k hlt]
    have:=value_any ((slotT s.B k).drop 0 |>.take (4 - 0)) (by simp[slotT_len HL.out k hlt]) u
    rw[show 4 - 0=4 from rfl,beN_piece]at this
    exact this
   have HV1:Hid (∀u,Calls Tryz.prog 99 #[.string ((stB (slotT s.B k)).extract 4 8)] u fun e w'=>e=.returned (.int .i64 (slotN s.B k).e)/\w'=u):=fun u=>by
    rw[ext_stB,nm_T HL.out k hlt]
    have:=value_any ((slotT s.B k).drop 4 |>.take (8 - 4)) (by simp[slotT_len HL.out k hlt]) u
    rw[show 8 - 4=4 from rfl,beN_piece]at this
    exact this
   have HV2:Hid (∀u,Calls Tryz.prog 99 #[.string ((stB (slotT s.B k)).extract 8 12)] u fun e w'=>e=.returned (.int .i64 (slotN s.B k).l)/\w'=u):=fun u=>by
    rw[ext_stB,nm_T HL.out k hlt]
    have:=value_any ((slotT s.B k).drop 8 |>.take (12 - 8)) (by simp[slotT_len HL.out k hlt]) u
    rw[show 12 - 8=4 from rfl,beN_piece]at this
    exact this
   have hxl:=slotN_lt s.B k
   have BO:Hid (∀u,Calls Tryz.prog 100 #[(slotN s.B k).n,(slotN s.B k).e,(slotN s.B k).l] u fun e w'=>e=.returned (.string (stB (img (slotN s.B k))))/\Below u u w'):=fun u=>rbody_any (slotN s.B k) hxl.1 hxl.2.1 hxl.2.2 u
   have HH:Hid (isHeld s.B k=((stB (img (slotN s.B k))++stB [165]).toList==(stB (slotT s.B k)).toList && decide (1<=(slotN s.B k).n) && (slotN s.B k).n % 2==k)):=by
    show _=_
    rw[stB_append];exact held_T HL k hlt
   have HN:Hid (newestK s.B (k+1)=if isHeld s.B k=true/\¬(slotN s.B k).n < (newestK s.B k).n then slotN s.B k else newestK s.B k):=next_T k hlt
   have zI:(stB (img (slotN s.B k))).size=16:=rfl
   generalize stB (slotT s.B k)=T at *
   generalize stB (img (slotN s.B k))=I at *
   generalize stB s.B=S at *
   generalize slotN s.B k=x at *
   generalize newestK s.B k=y at *
   generalize isHeld s.B k=held at *
   have c1:=CR.c1
   have c2:=CR.c2
   have c3:=CR.c3
   have cf:=fun i=>CR.fr i
   clear hp hxl
   go_wp2_with fail
   rw[HT.out]
   refine(HV0 _).mono ?_
   rintro e w' ⟨rfl,hw'⟩
   obtain rfl:=hw'.symm
   clear HT b0 zS
   by_cases hgo:x.n < 1\/x.n % 2≠k\/x.n < y.n
   ·have HNY:Hid (newestK s.B (k+1)=y):=by
     show _=_
     rw[HN.out,if_neg]
     rintro⟨h1,h2⟩
     rw[HH.out]at h1
     simp at h1
     omega
    have hcs:(x.n:Int) < 1\/(¬(x.n:Int) < 1/\((x.n:Int) % 2 != (k:Int))=true)\/(¬(x.n:Int) < 1/\((x.n:Int) % 2 != (k:Int))=false/\(x.n:Int) < (y.n:Int)):=by
     by_cases a:(x.n:Int) < 1
     ·exact .inl a
     ·by_cases c:(x.n:Int) % 2=(k:Int)
      ·exact .inr (.inr ⟨a,by simp[c],by omega⟩)
      ·exact .inr (.inl ⟨a,by simp[c]⟩)
    clear hgo
    rcases hcs with g1 | ⟨g1,g2⟩ | ⟨g1,g2,g3⟩
    all_goals
     go_wp2_with fail
     exact⟨⟨k+1,by omega,by go_num,by rw[HNY.out];exact CR,BR⟩,by simp[intOf];omega⟩
   ·have g1:¬(x.n:Int) < 1:=by omega
    have g2:((x.n:Int) % 2 != (k:Int))=false:=by
     have:(x.n:Int) % 2=(k:Int):=by omega
     simp[this]
    have g3:¬(x.n:Int) < (y.n:Int):=by omega
    have HN2:Hid (newestK s.B (k+1)=if ((I++stB [165]).toList==T.toList)=true then x else y):=by
     show _=_
     rw[HN.out,HH.out]
     have e1:decide (1<=x.n)=true:=decide_eq_true (by omega)
     have e2:(x.n % 2==k)=true:=beq_iff_eq.2 (by omega)
     have e3:¬x.n < y.n:=by omega
     rw[e1,e2,Bool.and_true,Bool.and_true]
     by_cases hd:((I++stB [165]).toList==T.toList)=true
     ·rw[if_pos ⟨hd,e3⟩,if_pos hd]
     ·rw[if_neg (fun h=>hd h.1),if_neg hd]
    clear hgo
    have z165:(stB [165]).size=1:=rfl
    have BY:Hid (∀u,Calls Tryz.prog 101 #[.int .i64 165] u fun e w'=>e=.returned (.string (stB [165]))/\Below u u w'):=byte165
    generalize stB [165]=V at *
    have hz:¬9223372036854775807 < I.size+V.size:=by omega
    generalize hD:((I++V).toList==T.toList)=D at *
    have hS:Below wr wr wr.drew:=(Below.refl _ _).drew
    go_wp2_with fail
    go_region_held3 (fun w'=>Below wr wr w') (first | assumption | exact t2 (by assumption) (by assumption))
     (first
      | (go_at_call_of 99 (Value.string (T.extract 4 8));refine(HV1 _).mono ?_;rintro e v1 ⟨rfl,hv⟩;obtain rfl:=hv.symm)
      | (go_at_call_of 99 (Value.string (T.extract 8 12));refine(HV2 _).mono ?_;rintro e v2 ⟨rfl,hv⟩;obtain rfl:=hv.symm)
      | (go_at_call 100;refine(BO _).mono ?_;rintro e v3 ⟨rfl,hb3⟩;have hb3':=t2 hS hb3)
      | (go_at_call 101;refine(BY _).mono ?_;rintro e v4 ⟨rfl,hb4⟩;have hb4':=t2 hb3' hb4))
    have B4:Hid (Below wr wr v4):=hb4'
    have C4:Hid (RCe v4 Z n y false):=CR.below B4
    have X4:Hid (Below Z w v4):=BR.trans (B4.mono (by have:=CR.lt;omega))
    clear hb3 hb3' hb4 hb4' hS c1 c2 c3 cf
    have c1:=C4.c1
    have c2:=C4.c2
    have c3:=C4.c3
    have cf:=fun i=>C4.fr i
    cases D
    ·have HNY:Hid (newestK s.B (k+1)=y):=HN2.out
     go_wp2_with fail
     exact⟨⟨k+1,by omega,by go_num,by rw[HNY.out];exact C4,X4⟩,by simp[intOf];omega⟩
    ·have HNY:Hid (newestK s.B (k+1)=x):=HN2.out
     go_wp2_with (first
      | (go_at_call_of 99 (Value.string (T.extract 4 8));refine(HV1 _).mono ?_;rintro e v1 ⟨rfl,hv⟩;obtain rfl:=hv.symm)
      | (go_at_call_of 99 (Value.string (T.extract 8 12));refine(HV2 _).mono ?_;rintro e v2 ⟨rfl,hv⟩;obtain rfl:=hv.symm))
     refine⟨⟨k+1,by omega,by go_num,?_,?_⟩,by simp[intOf];omega⟩
     ·rw[HNY.out];exact C4.put x
     ·exact((X4.setCell (Nat.le_refl _) _).setCell (Nat.le_refl _) _).setCell (Nat.le_refl _) _
  ·have HK:Hid (k=2):=(show k=2 by omega)
   go_wp2_with fail
   go_ret
   refine⟨⟨by rw[<- HZ.out];rfl,?_⟩,by rw[<- HZ.out];exact BR⟩
   rw[<- HZ.out]
   have:=CR.out
   rw[HK.out]at this
   exact this
theorem putE_new {s:By} (hB:s.B.length=64) (h:(putE false s (newest s.B).e ((newest s.B).l+1)).1=0):(newest (putE false s (newest s.B).e ((newest s.B).l+1)).2.1.B).e=(newest s.B).e/\(newest (putE false s (newest s.B).e ((newest s.B).l+1)).2.1.B).l=(newest s.B).l+1/\(newest s.B).e<=1073741824:=by
 have hlt:=newest_lt s.B
 revert h
 unfold putE
 by_cases h2:badEp ((newest s.B).e:Int) (((newest s.B).l:Int)+1)=true
 ·rw[if_neg (by simp),if_pos h2];intro h;cases h
 rw[if_neg (by simp),if_neg h2]
 by_cases h3:oldEp s ((newest s.B).e:Int) (((newest s.B).l:Int)+1)=true
 ·rw[if_pos h3];intro h;cases h
 rw[if_neg h3]
 by_cases h4:(newest s.B).n=4294967295
 ·rw[if_pos h4];intro h;cases h
 rw[if_neg h4]
 have hb:isEp ((newest s.B).e:Int)=true/\isEp (((newest s.B).l:Int)+1)=true:=by
  unfold badEp at h2
  constructor
  ·cases he:isEp ((newest s.B).e:Int)
   ·rw[he]at h2;simp at h2
   ·rfl
  ·cases he:isEp (((newest s.B).l:Int)+1)
   ·rw[he]at h2;simp at h2
   ·rfl
 have he:((newest s.B).e:Int)<=1073741824/\((newest s.B).l:Int)+1<=1073741824:=by
  obtain⟨h5,h6⟩:=hb
  unfold isEp at h5 h6
  simp at h5 h6
  omega
 have hp:=put_pair (s:=s) (x:=nextNm s (newest s.B).e ((newest s.B).l+1)) hB rfl (by show(newest s.B).n+1 < _;omega) (by show((newest s.B).e:Int).toNat < _;omega) (by show(((newest s.B).l:Int)+1).toNat < _;omega)
 by_cases h5:(putS s (nextNm s (newest s.B).e ((newest s.B).l+1))).2=true
 ·rw[if_pos h5]
  intro _
  show(newest (putS s (nextNm s (newest s.B).e ((newest s.B).l+1))).1.B).e=_/\(newest (putS s (nextNm s (newest s.B).e ((newest s.B).l+1))).1.B).l=_/\_
  rw[(hp.1 h5).1]
  refine⟨?_,?_,by omega⟩
  ·show((newest s.B).e:Int).toNat=_;omega
  ·show(((newest s.B).l:Int)+1).toNat=_;omega
 ·rw[if_neg h5];intro h;cases h
def NewR (wc wx:World) (id ce:Nat) (ep:Int) (sv:Value) (v:Value):Prop:=∃nd ro tb tg tc mi mg mc,v=.pointer (some ⟨nd,0,none⟩) /\
 wx.heap[nd]? = some (.cells #[id,.int .i64 0,.pointer (some (ce,0)),.pointer (some (ro,0)),.pointer (some (tb,0)),.pointer none,.pointer (some (mi,0)),sv] 140 (0,0)) /\
 RRol wx ro ⟨id,ep,0,false⟩/\RTab wx tb tg tc (2000+id * 24) newT/\RMir wx mi mg mc 0 newT/\Below wc wc wx /\
 (wc.heap.size<=nd/\wc.heap.size<=ro/\wc.heap.size<=tb/\wc.heap.size<=tg/\wc.heap.size<=mi/\wc.heap.size<=mg)/\[nd,ro,tb,tg,mi,mg].Nodup
theorem NewR.mk {wc wx:World} {id ce:Nat} {ep:Int} {sv:Value} {nd ro tb tg tc mi mg mc:Nat}
  (h1:wx.heap[nd]? = some (.cells #[id,.int .i64 0,.pointer (some (ce,0)),.pointer (some (ro,0)),.pointer (some (tb,0)),.pointer none,.pointer (some (mi,0)),sv] 140 (0,0)))
  (h2:RRol wx ro ⟨id,ep,0,false⟩) (h3:RTab wx tb tg tc (2000+id * 24) newT) (h4:RMir wx mi mg mc 0 newT) (h5:Below wc wc wx)
  (h6:wc.heap.size<=nd/\wc.heap.size<=ro/\wc.heap.size<=tb/\wc.heap.size<=tg/\wc.heap.size<=mi/\wc.heap.size<=mg)
  (h7:(nd≠ro/\nd≠tb/\nd≠tg/\nd≠mi/\nd≠mg)/\(ro≠tb/\ro≠tg/\ro≠mi/\ro≠mg)/\(tb≠mi/\tb≠mg)/\(tg≠mi/\tg≠mg)):NewR wc wx id ce ep sv (.pointer (some (nd,0))) :=
 ⟨nd,ro,tb,tg,tc,mi,mg,mc,rfl,h1,h2,h3,h4,h5,h6,by
  have a:=h3.ne
  have b:=h4.ne
  simp only[List.nodup_cons,List.mem_cons,List.not_mem_nil,or_false,not_or,not_false_eq_true,List.nodup_nil,and_true]
  omega⟩
theorem RMir.new {w:World} {g cap:Nat} (h:Sl10 w g newT):RMir (w.alloc (.cells #[.int .i64 0,.slice (some (g,0)) 32 cap] 137)) w g cap 0 newT :=
 ⟨nw _ _ _ _,nw _ _ _ _,frozen_of_row _ _ _ _ _ (heap_alloc_new _ _),frozen_of_row _ _ _ _ _ (heap_alloc_new _ _),h.below (aB _ _),by have:=h.lt;omega⟩
theorem RRol.new (w:World) (id:Nat) (ep:Int):RRol (w.alloc (.cells #[id,ep,.int .i64 0,.bool false] 131)) w ⟨id,ep,0,false⟩:=heap_alloc_new _ _
theorem rnewnode_any {w0 w:World} (id:Nat) (hid:id < 2) (yb:Nat) (y:By) (lo:Int) (p:Option Addr) (cap:Nat) (l:List Rl) (hy:∃lv,RBy w yb y lv/\(y.cut=true->lv=y.left)/\lo<=lv/\lv<=9223372036854775807) (hlo : -900000000<=lo) (hB:y.B.length=64) (hb0:w0.heap.size<=yb) (bl:Below w0 w0 w) (R:Rul w p l) (hl:l.length<=1000) (hp:l≠[]->∀a,p=some a->a.block < w0.heap.size) :
  Calls Tryz.prog 27 #[id,.pointer (some (yb,0)),.slice p l.length cap] w fun e w'=>((∃n,n≠0/\n=(putE false y (newest y.B).e ((newest y.B).l+1)).1/\e=.returned (.tuple #[.pointer none,.int .i64 (n:Nat)]))\/((putE false y (newest y.B).e ((newest y.B).l+1)).1=0/\∃r,e=.returned (.tuple #[.pointer (some ⟨r.nd,0,none⟩),.int .i64 0])/\r.yb=yb/\(∀g ∈ r.all,g=yb\/w.heap.size<=g)/\RNd w0 w' r (No.new id y l) ⟨id,(newest y.B).e,0,false⟩ (lo - 20) 0 0))/\ChgL [yb] w w':=by
 obtain⟨lv,hy1,hy2,hy3,hy4⟩:=hy
 have HY:Hid (RBy w yb y lv):=hy1
 have HL:Hid ((y.cut=true->lv=y.left)/\lo<=lv/\lv<=9223372036854775807 /\ -900000000<=lo/\y.B.length=64):=⟨hy2,hy3,hy4,hlo,hB⟩
 have HB0:Hid (w0.heap.size<=yb):=hb0
 have HBL:Hid (Below w0 w0 w):=bl
 have HR:Hid (Rul w p l):=R
 have HP:Hid (l.length<=1000/\(l≠[]->∀a,p=some a->a.block < w0.heap.size)):=⟨hl,hp⟩
 clear hy1 hy2 hy3 hy4 hlo hB hb0 bl R hl hp
 obtain⟨PE,hPE⟩:∃PE,putE false y (newest y.B).e ((newest y.B).l+1)=PE:=⟨_,rfl⟩
 have HPE:Hid (putE false y (newest y.B).e ((newest y.B).l+1)=PE):=hPE
 simp only[hPE]
 clear hPE
 go_enter Tryz.func27,Tryz.ntmps27
 go_wp2_with fail
 refine(ropen_any yb y lv w HY HL.2.2.2.2).mono ?_
 rintro e w1 ⟨⟨rfl,c1⟩,hb1⟩
 have LY:Hid (yb < w.heap.size):=HY.lt
 have HCE:Hid (w.heap.size<=w.heap.size):=Nat.le_refl _
 have B1:Hid (Below w w w1):=hb1
 have Y1:Hid (RBy w1 yb y lv):=HY.below hb1
 generalize hce:w.heap.size=ce at c1 HCE ⊢
 have C1:Hid (RCe w1 ce yb (newest y.B) false):=c1
 have HCW:Hid (w.heap.size=ce):=hce
 clear c1 hb1 hce
 have e2:w1.cell? (ce,2)=(newest y.B).e:=(cell_of_row w1 ce _ _ _ _ C1).trans rfl
 have e3:w1.cell? (ce,3)=(newest y.B).l:=(cell_of_row w1 ce _ _ _ _ C1).trans rfl
 have hwr:IntKind.i64.wrap (((newest y.B).l:Int)+1)=((newest y.B).l:Int)+1:=by have:=(newest_lt y.B).2.2;rw[IntKind.wrap_i64];omega
 go_wp2_with fail
 go_cut [9] (fun t wx=>t=.int .i64 ((PE.1:Nat):Int)/\RS w1 wx yb ce PE.2.1 (newest PE.2.1.B) PE.2.2 (lo - 20))
 case first =>
  have R1:Hid (RS w1 w1.drew yb ce y (newest y.B) false lo):=⟨⟨lv,(Y1.below (Below.refl _ _).drew),HL.1,HL.2.1,HL.2.2.1⟩,(C1.below (Below.refl _ _).drew),by have:=LY.out;have:=HCW.out;omega,HL.2.2.2.2,Chg2.of (Below.refl _ _).drew⟩
  go_region_with (go_at_call 62;refine(rput_any R1 rfl (newest y.B).e ((newest y.B).l+1) HL.2.2.2.1).mono ?_;rintro e w2 ⟨rfl,n2⟩;rw[HPE.out]at n2;rw[HPE.out];have N2:Hid (RS w1 w2 yb ce PE.2.1 (newest PE.2.1.B) PE.2.2 (lo - 20)):=n2;clear n2)
  all_goals (go_wp2_with fail)
  all_goals go_meet
  all_goals exact⟨rfl,N2⟩
 case rest =>
  obtain⟨rfl,hr2⟩:=hcut
  have R2:Hid (RS w1 wc yb ce PE.2.1 (newest PE.2.1.B) PE.2.2 (lo - 20)):=hr2
  have K2:Hid (ChgL [yb] w wc):=(ChgL.of (l:=[yb,ce]) B1 |>.trans ⟨hr2.x.os,hr2.x.tape,hr2.x.output,hr2.x.size,fun k hk hn=>hr2.x.block k hk (fun e=>hn (by simp[e])) (fun e=>hn (by simp[e]))⟩).mono (fun q hq=>by simp at hq;rcases hq with rfl | rfl;exact Or.inl (by simp);exact Or.inr (by rw[HCW.out];exact Nat.le_refl _))
  clear hr2 e2 e3 hwr C1 Y1
  by_cases hz:PE.1=0
  rotate_left
  ·have hgt:(0:Int) < ((PE.1:Nat):Int):=by omega
   have HZ:Hid (PE.1≠0):=hz
   clear hz
   obtain⟨n,hn⟩:∃n,PE.1=n:=⟨_,rfl⟩
   have HNE:Hid (n=PE.1):=hn.symm
   rw[hn]at hgt HZ ⊢
   clear hn
   go_wp2_with fail
   go_ret2
   exact⟨Or.inl ⟨n,HZ,HNE,rfl⟩,K2⟩
  ·rw[hz]
   have HZ:Hid (PE.1=0):=hz
   clear hz
   go_wp2_with fail
   have HEP:=putE_new (s:=y) HL.2.2.2.2 (by rw[HPE.out];exact HZ)
   rw[HPE.out]at HEP
   have HEQ:Hid ((newest PE.2.1.B).e=(newest y.B).e/\(newest PE.2.1.B).l=(newest y.B).l+1/\(newest y.B).e<=1073741824):=HEP
   clear HEP
   obtain⟨ep,hep⟩:∃ep:Int,((newest PE.2.1.B).e:Int)=ep:=⟨_,rfl⟩
   have HEE:Hid (((newest PE.2.1.B).e:Int)=ep):=hep
   have hS:wc.drew.cell? (ce,2)=ep:=by rw[<- hep];exact(cell_of_row wc ce _ _ _ _ R2.c).trans rfl
   clear hep
   obtain⟨wb,rfl⟩:∃wb,wb=wc:=⟨_,rfl⟩
   go_cut [10] (fun t wx=>NewR wb wx id ce ep (.slice p l.length cap) t)
   case first =>
    go_region_held3 (fun w'=>w'.cell? (ce,2)=ep)
     (first | exact hS | assumption | exact tk (aB _ _) (by assumption))
     (first
      | (go_at_call 63;refine(newR_any id _ hid).mono ?_;rintro e w3 ⟨⟨tb,tg,tc,rfl,h31,h32,t3⟩,b3⟩;have s3:w3.cell? (ce,2)=ep:=tk b3 (by assumption))
      | (go_at_call 64;refine(empty_any _).mono ?_;rintro e w4 ⟨⟨mg,mc,rfl,h41,t4⟩,b4⟩;have s4:w4.cell? (ce,2)=ep:=tk b4 (by assumption)))
    all_goals
     have l1:=tlt t3.c0
     have l2:=t3.sl.lt
     have l3:=t4.lt
     have l4:=b3.size
     have l5:=b4.size
     simp only[World.drew,World.size_alloc]at l1 l2 l3 l4 l5 h31 h32 h41
    ·have t3':=t3.below b4
     have hro:=(((RRol.new wb id ep).below (Below.refl _ _).drew).below b3).below b4
     have k1:=aB w4 (.cells #[.int .i64 0,.slice (some (mg,0)) 32 mc] 137)
     have k2:=aB (w4.alloc (.cells #[.int .i64 0,.slice (some (mg,0)) 32 mc] 137)) (.cells #[id,.int .i64 0,.pointer (some (ce,0)),.pointer (some (wb.heap.size,0)),.pointer (some (tb,0)),.pointer none,.pointer (some (w4.heap.size,0)),.slice p l.length cap] 140)
     have hnd:=heap_alloc_new (w4.alloc (.cells #[.int .i64 0,.slice (some (mg,0)) 32 mc] 137)) (.cells #[id,.int .i64 0,.pointer (some (ce,0)),.pointer (some (wb.heap.size,0)),.pointer (some (tb,0)),.pointer none,.pointer (some (w4.heap.size,0)),.slice p l.length cap] 140)
     simp only[World.size_alloc]at hnd
     have hw4:Below wb wb w4:=t2 (t2 (t2 (aB _ _) (Below.refl _ _).drew) b3) b4
     clear b3 b4 t3 hS s3 s4
     go_wp2_with fail
     go_meet
     case rel=>exact NewR.mk hnd ((hro.below k1).below k2) ((t3'.below k1).below k2) ((RMir.new t4).below k2) (t2 (t2 hw4 k1) k2) (by omega) (by omega)
    ·have t3':=(t3.below (aB _ _)).below b4
     have hro:=(RRol.new w3 id ep).below b4
     have k1:=aB w4 (.cells #[.int .i64 0,.slice (some (mg,0)) 32 mc] 137)
     have k2:=aB (w4.alloc (.cells #[.int .i64 0,.slice (some (mg,0)) 32 mc] 137)) (.cells #[id,.int .i64 0,.pointer (some (ce,0)),.pointer (some (w3.heap.size,0)),.pointer (some (tb,0)),.pointer none,.pointer (some (w4.heap.size,0)),.slice p l.length cap] 140)
     have hnd:=heap_alloc_new (w4.alloc (.cells #[.int .i64 0,.slice (some (mg,0)) 32 mc] 137)) (.cells #[id,.int .i64 0,.pointer (some (ce,0)),.pointer (some (w3.heap.size,0)),.pointer (some (tb,0)),.pointer none,.pointer (some (w4.heap.size,0)),.slice p l.length cap] 140)
     simp only[World.size_alloc]at hnd
     have hw4:Below wb wb w4:=t2 (t2 (t2 (Below.refl _ _).drew b3) (aB _ _)) b4
     clear b3 b4 t3 hS s3 s4
     go_wp2_with fail
     go_meet
     case rel=>exact NewR.mk hnd ((hro.below k1).below k2) ((t3'.below k1).below k2) ((RMir.new t4).below k2) (t2 (t2 hw4 k1) k2) (by omega) (by omega)
    ·have t3':=t3.below b4
     have k0:=aB w4 (.cells #[id,ep,.int .i64 0,.bool false] 131)
     have k1:=aB (w4.alloc (.cells #[id,ep,.int .i64 0,.bool false] 131)) (.cells #[.int .i64 0,.slice (some (mg,0)) 32 mc] 137)
     have k2:=aB ((w4.alloc (.cells #[id,ep,.int .i64 0,.bool false] 131)).alloc (.cells #[.int .i64 0,.slice (some (mg,0)) 32 mc] 137)) (.cells #[id,.int .i64 0,.pointer (some (ce,0)),.pointer (some (w4.heap.size,0)),.pointer (some (tb,0)),.pointer none,.pointer (some (w4.heap.size+1,0)),.slice p l.length cap] 140)
     have hro:=RRol.new w4 id ep
     have hmi:=RMir.new (cap:=mc) (t4.below k0)
     have hnd:=heap_alloc_new ((w4.alloc (.cells #[id,ep,.int .i64 0,.bool false] 131)).alloc (.cells #[.int .i64 0,.slice (some (mg,0)) 32 mc] 137)) (.cells #[id,.int .i64 0,.pointer (some (ce,0)),.pointer (some (w4.heap.size,0)),.pointer (some (tb,0)),.pointer none,.pointer (some (w4.heap.size+1,0)),.slice p l.length cap] 140)
     simp only[World.size_alloc]at hnd hmi
     have hw4:Below wb wb w4:=t2 (t2 (Below.refl _ _).drew b3) b4
     clear b3 b4 t3 hS s3 s4
     go_wp2_with fail
     go_meet
     case rel=>exact NewR.mk hnd ((hro.below k1).below k2) (((t3'.below k0).below k1).below k2) (hmi.below k2) (t2 (t2 (t2 hw4 k0) k1) k2) (by omega) (by omega)
    ·have t3':=t3.below b4
     have k0:=aB w4 (.cells #[.int .i64 0,.slice (some (mg,0)) 32 mc] 137)
     have k1:=aB (w4.alloc (.cells #[.int .i64 0,.slice (some (mg,0)) 32 mc] 137)) (.cells #[id,ep,.int .i64 0,.bool false] 131)
     have k2:=aB ((w4.alloc (.cells #[.int .i64 0,.slice (some (mg,0)) 32 mc] 137)).alloc (.cells #[id,ep,.int .i64 0,.bool false] 131)) (.cells #[id,.int .i64 0,.pointer (some (ce,0)),.pointer (some (w4.heap.size+1,0)),.pointer (some (tb,0)),.pointer none,.pointer (some (w4.heap.size,0)),.slice p l.length cap] 140)
     have hro:=RRol.new (w4.alloc (.cells #[.int .i64 0,.slice (some (mg,0)) 32 mc] 137)) id ep
     have hmi:=RMir.new (cap:=mc) t4
     have hnd:=heap_alloc_new ((w4.alloc (.cells #[.int .i64 0,.slice (some (mg,0)) 32 mc] 137)).alloc (.cells #[id,ep,.int .i64 0,.bool false] 131)) (.cells #[id,.int .i64 0,.pointer (some (ce,0)),.pointer (some (w4.heap.size+1,0)),.pointer (some (tb,0)),.pointer none,.pointer (some (w4.heap.size,0)),.slice p l.length cap] 140)
     simp only[World.size_alloc]at hnd hro
     have hw4:Below wb wb w4:=t2 (t2 (Below.refl _ _).drew b3) b4
     clear b3 b4 t3 hS s3 s4
     go_wp2_with fail
     go_meet
     case rel=>exact NewR.mk hnd (hro.below k2) (((t3'.below k0).below k1).below k2) ((hmi.below k1).below k2) (t2 (t2 (t2 hw4 k0) k1) k2) (by omega) (by omega)
   case rest =>
    have HN:Hid (NewR wb wc id ce ep (.slice p l.length cap) u10):=hcut
    clear hcut hS
    obtain⟨nd,ro,tb,tg,tc,mi,mg,mc,rfl,hnd,hro,htb,hmi,hbx,hge,hds⟩:=HN.out
    have T3:Hid (RTab wc tb tg tc (2000+(id:Int) * 24) newT):=htb
    have c4:wc.cell? (nd,4)=some (.pointer (some (tb,0))):=(cell_of_row _ _ _ _ _ _ hnd).trans rfl
    have c5:wc.cell? (nd,5)=some (.pointer none):=(cell_of_row _ _ _ _ _ _ hnd).trans rfl
    have f5:wc.frozen? (nd,5)=false:=frozen_of_row _ _ _ _ _ hnd
    have G3:Hid (_/\_/\_/\_/\_/\_):=⟨hnd,hro,hmi,hbx,hge,hds⟩
    clear hnd hro htb hmi hbx hge hds HN
    go_wp2_with fail
    refine(rnew_any tb wc).mono ?_
    rintro e w6 ⟨⟨te,th,rfl,hte,hth,ht6⟩,hb6⟩
    have T6:Hid (RTel w6 te tb th (fun _=>0) 0/\wc.heap.size<=te/\wc.heap.size<=th/\te < w6.heap.size/\th < w6.heap.size):=⟨ht6,hte,hth,tlt ht6.c0,ht6.a.lt⟩
    have B6:Hid (Below wc wc w6):=hb6
    have c5':=tk hb6 c5
    have f5':w6.frozen? (nd,5)=false:=(frozen_of_block (hb6.block nd (tlt c4))).trans f5
    clear hte hth ht6 hb6 c5 f5 c4
    go_wp2_with fail
    go_ret2
    obtain⟨g1,g2,g4,g5,g6,g7⟩:=G3.out
    have n1:=tlt T3.c0
    have n2:=T3.sl.lt
    have n3:=g2.lt
    have n4:=tlt g4.c0
    have n5:=g4.sl.lt
    have n6:nd < wc.heap.size:=tlt ((cell_of_row wc nd 0 _ _ _ g1).trans rfl:wc.cell? (nd,0)=id)
    have n7:=R2.c.lt
    obtain⟨lv',y1,y2⟩:=R2.r
    have n8:=y1.lt
    have n9:=R2.ne
    have n10:=K2.size
    have n11:=HBL.size
    have n12:=HB0.out
    have n13:=HCW.out
    have n14:=T6.out
    have n15:=T6.1.ne
    have n16:=T3.ne
    have n17:=g4.ne
    have n18:=B6.size
    have n19:=g5.size
    simp only at n1 n4
    have hdd:(nd≠ro/\nd≠tb/\nd≠tg/\nd≠mi/\nd≠mg)/\(ro≠tb/\ro≠tg/\ro≠mi/\ro≠mg)/\(tb≠mi/\tb≠mg)/\(tg≠mi/\tg≠mg):=by
     simp only[List.nodup_cons,List.mem_cons,List.not_mem_nil,or_false,not_or,not_false_eq_true,List.nodup_nil,and_true]at g7
     omega
    have cS:Chg nd w6 (w6.setCell (nd,5) (.pointer (some (te,0)))):=Chg.set _ _ _ _
    have h6:=(B6.block nd n6).trans g1
    have hW:(w6.setCell (nd,5) (.pointer (some (te,0)))).heap[nd]? = some (.cells #[id,.int .i64 0,.pointer (some (ce,0)),.pointer (some (ro,0)),.pointer (some (tb,0)),.pointer (some (te,0)),.pointer (some (mi,0)),.slice p l.length cap] 140 (0,0)):=by
     rw[heap_setCell_same w6 nd _ _ _ _ h6]
     rfl
    have hBW:Below wb wb (w6.setCell (nd,5) (.pointer (some (te,0)))):=Chg.below (t2 g5 B6) cS (by omega)
    have KW:ChgL [yb] w (w6.setCell (nd,5) (.pointer (some (te,0)))):=K2.then hBW
    have RW:=R2.below hBW
    have hro:=(g2.below B6).chg cS (by omega)
    have htb:=(T3.below B6).chg cS (by omega) (by omega)
    have hmi:=(g4.below B6).keptB (cS.block mi (by omega) (by omega)) (cS.block mg (by omega) (by omega))
    have hte:=T6.1.keptB (cS.block te (by omega) (by omega)) (cS.block th (by omega) (by omega))
    generalize w6.setCell (nd,5) (.pointer (some (te,0)))=W at *
    have hy:(No.new id y l).y=PE.2.1:=by show(putE false y (newest y.B).e ((newest y.B).l+1)).2.1=_;rw[HPE.out]
    have hoff:PE.2.2=false:=by rw[<- HPE.out];exact putE_off (by rw[HPE.out];exact HZ)
    have hep:ep=((newest y.B).e:Int):=by rw[<- HEE.out,HEQ.1]
    refine⟨Or.inr ⟨HZ,⟨nd,ce,yb,ro,tb,tg,te,th,mi,mg,tc,mc,p,cap⟩,rfl,rfl,fun g hg=>by simp only[RBk.all,List.mem_cons,List.not_mem_nil,or_false]at hg;omega,?_⟩,KW⟩
    exact {
     nd:=⟨(cell_of_row W nd _ _ _ _ hW).trans rfl,(cell_of_row W nd _ _ _ _ hW).trans rfl,(cell_of_row W nd _ _ _ _ hW).trans rfl,(cell_of_row W nd _ _ _ _ hW).trans rfl,(cell_of_row W nd _ _ _ _ hW).trans rfl,(cell_of_row W nd _ _ _ _ hW).trans rfl,(cell_of_row W nd _ _ _ _ hW).trans rfl,(cell_of_row W nd _ _ _ _ hW).trans rfl,fun j _=>frozen_of_row _ _ _ _ _ hW⟩
     ro:=by rw[<- hep];exact hro
     sm:=Sam.new (by omega) (by omega) (by have:=HEQ.2.2;omega)
     yb:=by rw[hy];exact RW.r
     ce:=by rw[hy,show(No.new id y l).off=PE.2.2 from hoff.symm];exact RW.c
     lf:=by rw[hy,HEQ.2.1];show((newest y.B).l:Int)+1=_;omega
     len:=by rw[hy];exact RW.len
     tb:=htb
     vs:=Vers.new
     te:=hte
     cu:=by show 0 < 32;omega
     mi:=hmi
     ru:=HR.kept (fun hne a ha=>by
      have:=HP.2 hne a ha
      exact KW.block _ (by omega) (by simp;omega))
     rl:=HP.1
     rb:=HP.2
     ds:=by
      simp only[RBk.all,List.nodup_cons,List.mem_cons,List.not_mem_nil,or_false,not_or,not_false_eq_true,List.nodup_nil,and_true]
      omega
     g0:=fun g hg=>by simp only[RBk.all,List.mem_cons,List.not_mem_nil,or_false]at hg;omega
     id:=by show(id:Int)=0\/(id:Int)=1;omega
     bl:=ChgL.below HBL KW (fun g hg=>by simp at hg;omega)}
section
variable {w0 w:World} {r:RBk} {x:No} {q:Ro} {lo i:Int} {m:Nat}
theorem RNd.fresh {u u':World} {y:No} {q':Ro} {lo' i':Int} {m' Q:Nat} (H:RNd w0 w r x q lo i m) (h:RNd w0 u r y q' lo' i' m') (c:ChgL r.all w u) (g:Chg Q u u') (hr:w.heap.size<=Q):RNd w0 u' r y q' lo' i' m'/\ChgL r.all w u':=by
 have g':ChgL [Q] u u':=ChgL.one g (by simp)
 refine⟨h.kept g' (fun b hb hm=>?_) (fun b hb=>?_),?_⟩
 ·have:=H.blk b hb;rw[List.mem_singleton.1 hm]at this;omega
 ·rw[List.mem_singleton.1 hb];have:=H.bl.size;omega
 ·have h1:ChgL (r.all++[Q]) w u:=c.mono (fun b hb=>Or.inl (List.mem_append_left _ hb))
  have h2:ChgL (r.all++[Q]) u u':=g'.mono (fun b hb=>Or.inl (List.mem_append_right _ hb))
  exact(h1.trans h2).mono (fun b hb=>by rcases List.mem_append.1 hb with p | p;exact Or.inl p;rw[List.mem_singleton.1 p];exact Or.inr hr)
theorem rpass_rn (h:RNd w0 w r x q lo i m) (hm:m<=1000000000) (h0:0<=x.now) (h1:x.now<=1000000000) (j:Nat) (hj:j < 32) (fl:Int) (ou:Bool) :
  Calls Tryz.prog 162 #[.pointer (some (r.nd,0)),j,fl,.bool ou] w fun e w'=>e=.returned (flowV (x.T j))/\RNd w0 w' r (x.stp j fl ou) q lo i (m+1)/\ChgL r.all w w':=by
 have HN:Hid (RNd w0 w r x q lo i m):=h
 have HW:Hid (0<=x.now/\x.now<=1000000000/\m<=1000000000):=⟨h0,h1,hm⟩
 have HJ:Hid (j < 32):=hj
 obtain⟨c,hc⟩:∃c,x.T j=c:=⟨_,rfl⟩
 have HCC:Hid (x.T j=c):=hc
 have b4:=h.nd.b4
 have l1:=h.tb.c1
 have z2:=h.tb.sl.at' (i:=j) (k:=2) hj (by omega)
 have z3:=h.tb.sl.at' (i:=j) (k:=3) hj (by omega)
 have z4:=h.tb.sl.at' (i:=j) (k:=4) hj (by omega)
 have z5:=h.tb.sl.at' (i:=j) (k:=5) hj (by omega)
 have z6:=h.tb.sl.at' (i:=j) (k:=6) hj (by omega)
 have z7:=h.tb.sl.at' (i:=j) (k:=7) hj (by omega)
 have z8:=h.tb.sl.at' (i:=j) (k:=8) hj (by omega)
 have z9:=h.tb.sl.at' (i:=j) (k:=9) hj (by omega)
 rw[hc]at z2 z3 z4 z5 z6 z7 z8 z9
 simp only[Ce.get]at z2 z3 z4 z5 z6 z7 z8 z9
 have HG:Hid (nxtG (x.T j).pr fl=nxtG c.pr fl/\x.nst j fl ou=nxtS c.pr c.st fl ou):=by rw[hc];exact⟨rfl,by unfold No.nst;rw[hc]⟩
 have k0:=h.blk _ r.m_nd
 have k1:=h.blk _ r.m_tb
 have k2:=h.blk _ r.m_tg
 have i0:(0:Int)<=(j:Int):=by omega
 have i1:(j:Int) < 32:=by omega
 clear h h0 h1 hm hj hc
 go_enter Tryz.func162,Tryz.ntmps162
 go_wp2_with fail
 have Z3:Hid (FlZ ((w.alloc (.cells #[.int .i64 0,.int .i64 0,.int .i64 0,.int .i64 0,.int .i64 0,.int .i64 0,.int .i64 0,.int .i64 0] 110)).alloc (.cells #[c.pr,c.ia,c.ip,c.fa,c.fp,c.po,c.st,c.un] 110)) w noC):=(FlZ.zero w).below (aB _ _)
 have Y3:Hid (FlZ ((w.alloc (.cells #[.int .i64 0,.int .i64 0,.int .i64 0,.int .i64 0,.int .i64 0,.int .i64 0,.int .i64 0,.int .i64 0] 110)).alloc (.cells #[c.pr,c.ia,c.ip,c.fa,c.fp,c.po,c.st,c.un] 110)) (w.heap.size+1) c):=by
  have:=FlZ.new (w.alloc (.cells #[.int .i64 0,.int .i64 0,.int .i64 0,.int .i64 0,.int .i64 0,.int .i64 0,.int .i64 0,.int .i64 0] 110)) c
  show FlZ _ _ _
  simpa using this
 have B3:Hid (Below w w ((w.alloc (.cells #[.int .i64 0,.int .i64 0,.int .i64 0,.int .i64 0,.int .i64 0,.int .i64 0,.int .i64 0,.int .i64 0] 110)).alloc (.cells #[c.pr,c.ia,c.ip,c.fa,c.fp,c.po,c.st,c.un] 110))):=t2 (aB _ _) (aB _ _)
 generalize ((w.alloc (.cells #[.int .i64 0,.int .i64 0,.int .i64 0,.int .i64 0,.int .i64 0,.int .i64 0,.int .i64 0,.int .i64 0] 110)).alloc (.cells #[c.pr,c.ia,c.ip,c.fa,c.fp,c.po,c.st,c.un] 110))=w3 at *
 clear b4 l1 z2 z3 z4 z5 z6 z7 z8 z9 k0 k1 k2
 have N3:Hid (RNd w0 w3 r x q lo i m):=HN.below B3
 refine(nextOf_any c.pr c.st fl ou w3).mono ?_
 rintro e w4 ⟨rfl,hw⟩
 obtain rfl:=hw.symm
 clear hw
 obtain⟨st',hst'⟩:∃st',nxtS c.pr c.st fl ou=st':=⟨_,rfl⟩
 have HGS:Hid (x.nst j fl ou=st'):=HG.2.trans hst'
 have HNQ:Hid (¬(w.heap.size+1) ∈ r.all):=fun hm=>by have:=HN.blk _ hm;omega
 have HNW:Hid (¬w.heap.size ∈ r.all):=fun hm=>by have:=HN.blk _ hm;omega
 rw[hst']
 clear hst'
 cases hg:nxtG c.pr fl
 ·have HX:Hid (x.stp j fl ou={x with T:=setT x.T j st' (x.now+stay c.pr st')}):=by show _=_;unfold No.stp;rw[HG.1,hg,HGS.out,HCC.out];rfl
  clear hg
  go_wp2_with fail
  have HTU:Hid (∀u,Calls Tryz.prog 129 #[c.pr,st'] u fun e w'=>e=.returned (.int .i64 (stay c.pr st'))/\w'=u):=fun u=>timeOf_any c.pr st' u
  have hsl:=stay_le c.pr st'
  have hwr:IntKind.i64.wrap (x.now+stay c.pr st')=x.now+stay c.pr st':=by
   have:=HW.out
   rw[IntKind.wrap_i64];omega
  have HTS:Hid (∀u un,RNd w0 u r x q lo i m->Calls Tryz.prog 193 #[.pointer (some (r.tb,0)),j,st',.int .i64 un] u fun e w'=>(∃v,e=.returned v)/\RNd w0 w' r {x with T:=setT x.T j st' un} q lo i (m+1)/\ChgL r.all u w'):=fun u un hu=>rset_rn hu HW.2.2 j st' un
  have hS:w3.drew.cell? (r.nd,4)=some (.pointer (some (r.tb,0)))/\w3.drew.cell? (r.nd,1)=x.now/\w3.drew.cell? (w.heap.size+1,0)=c.pr:=⟨N3.nd.b4,N3.nd.b1,Y3.b.c0⟩
  have D3:Hid (RNd w0 w3.drew r x q lo i m):=N3.below (Below.refl _ _).drew
  go_region_held3 (fun w'=>w'.cell? (r.nd,4)=some (.pointer (some (r.tb,0)))/\w'.cell? (r.nd,1)=x.now/\w'.cell? (w.heap.size+1,0)=c.pr)
   (first | assumption | exact⟨N6.nd.b4,N6.nd.b1,K6.keeps HNQ hS.2.2⟩)
   (first
    | (go_at_call 129;refine(HTU _).mono ?_;rintro e w5 ⟨rfl,rfl⟩)
    | (go_at_call 193;refine(HTS _ _ D3).mono ?_;rintro e w6 ⟨⟨v6,rfl⟩,n6,k6⟩;have N6:Hid (RNd w0 w6 r {x with T:=setT x.T j st' (x.now+stay c.pr st')} q lo i (m+1)):=n6;have K6:Hid (ChgL r.all w3.drew w6):=k6;clear n6 k6))
  have Z6:Hid (FlZ w6 w noC):=(Z3.below (Below.refl _ _).drew).chgL K6 HNW
  have Y6:Hid (FlZ w6 (w.heap.size+1) c):=(Y3.below (Below.refl _ _).drew).chgL K6 HNQ
  have X6:Hid (ChgL r.all w w6):=(ChgL.of (t2 B3 (Below.refl _ _).drew)).trans K6
  clear hS K6 hwr hsl D3
  obtain⟨w7,hst,hz7,hc7⟩:=flz_store Z6 c
  obtain⟨n7,k7⟩:=HN.fresh N6 X6 hc7 (Nat.le_refl _)
  have N7:Hid (RNd w0 w7 r {x with T:=setT x.T j st' (x.now+stay c.pr st')} q lo i (m+1)):=n7
  have K7:Hid (ChgL r.all w w7):=k7
  have Z7:Hid (FlZ w7 w c):=hz7
  have y:=Y6.b
  have y0:=y.c0
  have y1:=y.c1
  have y2:=y.c2
  have y3:=y.c3
  have y4:=y.c4
  have y5:=y.c5
  have y6:=y.c6
  have y7:=y.c7
  clear n7 k7 hz7 hc7 y
  go_wp2_with (refine wpList_store_eq rfl 110 _ _ rfl _ _ _ rfl rfl hst ?_)
  clear hst y0 y1 y2 y3 y4 y5 y6 y7
  have qz:=Z7.b
  go_wp2_with fail
  exact bodyPost_ret (v:=flowV c) (by simp[results,Tryz.results162,go_sem,qz.c0,qz.c1,qz.c2,qz.c3,qz.c4,qz.c5,qz.c6,qz.c7,flowV]) rfl ⟨by rw[HCC.out],by rw[HX.out];exact N7,K7⟩
 ·have HX:Hid (x.stp j fl ou={x with T:=dropT x.T j}):=by show _=_;unfold No.stp;rw[HG.1,hg];rfl
  clear hg
  have b4:=N3.nd.b4
  go_wp2_with fail
  refine(rdrop_rn N3 HW.2.2 j).mono ?_
  rintro e w6 ⟨⟨v6,rfl⟩,n6,k6⟩
  have N6:Hid (RNd w0 w6 r {x with T:=dropT x.T j} q lo i (m+1)):=n6
  have Z6:Hid (FlZ w6 w noC):=Z3.chgL k6 HNW
  have Y6:Hid (FlZ w6 (w.heap.size+1) c):=Y3.chgL k6 HNQ
  have X6:Hid (ChgL r.all w w6):=(ChgL.of B3.out).trans k6
  clear n6 k6 b4
  obtain⟨w7,hst,hz7,hc7⟩:=flz_store Z6 c
  obtain⟨n7,k7⟩:=HN.fresh N6 X6 hc7 (Nat.le_refl _)
  have N7:Hid (RNd w0 w7 r {x with T:=dropT x.T j} q lo i (m+1)):=n7
  have K7:Hid (ChgL r.all w w7):=k7
  have Z7:Hid (FlZ w7 w c):=hz7
  have y:=Y6.b
  have y0:=y.c0
  have y1:=y.c1
  have y2:=y.c2
  have y3:=y.c3
  have y4:=y.c4
  have y5:=y.c5
  have y6:=y.c6
  have y7:=y.c7
  clear n7 k7 hz7 hc7 y
  go_wp2_with (refine wpList_store_eq rfl 110 _ _ rfl _ _ _ rfl rfl hst ?_)
  clear hst y0 y1 y2 y3 y4 y5 y6 y7
  have qz:=Z7.b
  go_wp2_with fail
  exact bodyPost_ret (v:=flowV c) (by simp[results,Tryz.results162,go_sem,qz.c0,qz.c1,qz.c2,qz.c3,qz.c4,qz.c5,qz.c6,qz.c7,flowV]) rfl ⟨by rw[HCC.out],by rw[HX.out];exact N7,K7⟩
end
theorem isEnd_ok (a p:Int) (w:World) (h:okEnd a p):Calls Tryz.prog 191 #[.agg #[a,p]] w fun e w'=>e=.returned (.bool true)/\Below w w w':=by
 obtain⟨g1,g2,g3,g4⟩:=h
 go_enter Tryz.func191,Tryz.ntmps191
 go_wp2_with fail
 go_ret
 exact⟨rfl,(Below.refl _ _).alloc (Nat.le_refl _) _⟩
theorem isEnd_bad (a p:Int) (w:World) (h:badEnd a p):Calls Tryz.prog 191 #[.agg #[a,p]] w fun e w'=>e=.returned (.bool false)/\Below w w w':=by
 by_cases g1:0<=a
 ·by_cases g2:a<=1048576
  ·by_cases g3:1<=p
   ·have g4:decide (p<=65535)=false:=by rcases h with h | h | h | h <;> simp <;> omega
    clear h
    go_enter Tryz.func191,Tryz.ntmps191
    go_wp2_with fail
    go_ret
    exact⟨rfl,(Below.refl _ _).alloc (Nat.le_refl _) _⟩
   ·clear h
    go_enter Tryz.func191,Tryz.ntmps191
    go_wp2_with fail
    go_ret
    exact⟨rfl,(Below.refl _ _).alloc (Nat.le_refl _) _⟩
  ·clear h
   go_enter Tryz.func191,Tryz.ntmps191
   go_wp2_with fail
   go_ret
   exact⟨rfl,(Below.refl _ _).alloc (Nat.le_refl _) _⟩
 ·clear h
  go_enter Tryz.func191,Tryz.ntmps191
  go_wp2_with fail
  go_ret
  exact⟨rfl,(Below.refl _ _).alloc (Nat.le_refl _) _⟩
theorem isEnd_any (a p:Int) (b:Bool) (hb:endB a p=b) (w:World):Calls Tryz.prog 191 #[.agg #[a,p]] w fun e w'=>e=.returned (.bool b)/\Below w w w':=by
 cases b
 ·exact isEnd_bad a p w (endB_bad.1 hb)
 ·exact isEnd_ok a p w (endB_ok.1 hb)
theorem perr_core (b1 b2:Bool) (pr a1 p1 a2 p2 fl:Int) (w:World) (hs:endB a1 p1=b1) (hd:endB a2 p2=b2) (r:Int)
  (hr:((pr != 1)=true/\(pr != 2)=true/\r=2)\/((pr=1\/pr=2)/\b1=false/\r=2)\/((pr=1\/pr=2)/\b1=true/\b2=false/\r=2)\/((pr=1\/pr=2)/\b1=true/\b2=true/\(fl < 0\/15 < fl)/\r=2) \/
   (pr=1/\b1=true/\b2=true/\0 < fl/\fl<=15/\r=3)\/(pr=1/\b1=true/\b2=true/\fl=0/\r=0)\/(pr=2/\b1=true/\b2=true/\0<=fl/\fl<=15/\r=0)) :
  Calls Tryz.prog 160 #[pkt pr a1 p1 a2 p2 fl] w fun e w'=>e=.returned r/\Below w w w':=by
 have HS:Hid (endB a1 p1=b1):=hs
 have HD:Hid (endB a2 p2=b2):=hd
 clear hs hd
 rcases hr with⟨g1,g2,rfl⟩ | ⟨rfl | rfl,rfl,rfl⟩ | ⟨rfl | rfl,rfl,rfl,rfl⟩ | ⟨rfl | rfl,rfl,rfl,g | g,rfl⟩ | ⟨rfl,rfl,rfl,g1,g2,rfl⟩ | ⟨rfl,rfl,rfl,rfl,rfl⟩ | ⟨rfl,rfl,rfl,g1,g2,rfl⟩
 all_goals
  go_enter Tryz.func160,Tryz.ntmps160
  go_wp2_with fail
  refine(isEnd_any _ _ _ HS _).mono ?_
  rintro e w1 ⟨rfl,hb⟩
  obtain⟨c0,c1,c2,c3,c4,c5⟩:=box6 hb
  have HB:Hid (Below w w w1):=((Below.refl _ _).alloc (Nat.le_refl _) _).trans (hb.mono (by simp))
  have HB1:Hid (w.heap.size < w1.heap.size):=by have:=hb.size;simp at this;exact this
  clear hb
  go_wp2_with fail
  refine(isEnd_any _ _ _ HD _).mono ?_
  rintro e w2 ⟨rfl,hb2⟩
  have d0:=Below.keeps hb2 c0
  have d5:=Below.keeps hb2 c5
  have HB2:Hid (Below w w w2):=HB.trans (hb2.mono HB.size)
  clear hb2 c0 c1 c2 c3 c4 c5
  go_wp2_with fail
  all_goals (go_ret;exact⟨rfl,HB2⟩)
theorem perr_any (pr a1 p1 a2 p2 fl:Int) (w:World) :
  Calls Tryz.prog 160 #[pkt pr a1 p1 a2 p2 fl] w fun e w'=>e=.returned (.int .i64 (pkErr pr a1 p1 a2 p2 fl))/\Below w w w':=by
 refine perr_core (endB a1 p1) (endB a2 p2) pr a1 p1 a2 p2 fl w rfl rfl _ ?_
 unfold pkErr
 simp only[bne_iff_ne]
 cases h1:endB a1 p1 <;> cases h2:endB a2 p2 <;> simp
 all_goals first | omega | (split <;> (try split) <;> omega)
end Go.Proofs.YtdpmeoflgpaljaaGreatDoor
