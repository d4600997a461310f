/-
  What the claimed theorem reaches, part Q16.
-/
import Derived.Test.YtabndgfdbdjdgaaGreatDoorQ15
import Derived.Test.YtabndgfdbdjdgaaGreatDoorQ00
import Derived.Test.YtabndgfdbdjdgaaGreatDoorQ13
import Derived.Test.YtabndgfdbdjdgaaGreatDoorQ06
import Derived.Deep.DeepCutAuto
import Derived.Deep.CutRange
import Derived.Deep.CutBlock
import Derived.BigQuiet
import Derived.Test.YtabndgfdbdjdgaaGreatDoorQ09
import Derived.OwnWalk
import Derived.Laws.AppendOwnNone
import Derived.Test.YtabndgfdbdjdgaaGreatDoorQ07
import Derived.Lib.SliceRun
namespace Go.Proofs.YtabndgfdbdjdgaaGreatDoor
open Go.RowKit
set_option maxRecDepth 100000
set_option maxHeartbeats 8000000
def noP:Pk:=⟨0,0,0,0,0,0⟩
theorem PkZ.zero (w:World):PkZ (w.alloc (.cells #[.int .i64 0,.int .i64 0,.int .i64 0,.int .i64 0,.int .i64 0,.int .i64 0] 41)) w noP:=heap_alloc_new w _
theorem pkz_store {w:World} {Q:Nat} {c:Pk} (h:PkZ w Q c) (d:Pk) :
  ∃w',(Instr.storeAt 41 (.pointer (some (Q,0))) (.agg #[d.pr,d.a1,d.p1,d.a2,d.p2,d.fl])).run Tryz.prog w=.ok () w'/\PkZ w' Q d/\Chg Q w w':=by
 have hs:(sizeOf 41).run Tryz.prog w=.ok 6 w:=by kernel_rfl
 have hst:=run_storeCells_at Tryz.prog Q 0 41 [d.pr,d.a1,d.p1,d.a2,d.p2,d.fl] 0 _ w h (by simp) (fun u hu=>by
  simp only[List.mem_cons,List.not_mem_nil,or_false]at hu
  rcases hu with rfl | rfl | rfl | rfl | rfl | rfl <;> rfl)
 refine⟨w.setRow Q #[d.pr,d.a1,d.p1,d.a2,d.p2,d.fl],?_,setRow_heap w Q _ _ _ _ h,chg_row _ _ _⟩
 simp only[Instr.storeAt,Instr.sureAddr,Sem.run_bind,Sem.run_pure,Result.andThen_ok,storeVar,hs,Value.cells]
 simp at hst ⊢
 exact hst
theorem set0_chg6 (w:World) (Q:Nat):Chg Q w ((((((w.setCell (Q,0) (.int .i64 0)).setCell (Q,1) (.int .i64 0)).setCell (Q,2) (.int .i64 0)).setCell (Q,3) (.int .i64 0)).setCell (Q,4) (.int .i64 0)).setCell (Q,5) (.int .i64 0)) :=
 (((((Chg.set _ _ _ _).trans (Chg.set _ _ _ _)).trans (Chg.set _ _ _ _)).trans (Chg.set _ _ _ _)).trans (Chg.set _ _ _ _)).trans (Chg.set _ _ _ _)
theorem set_chg2 (w:World) (P a b:Nat) (u v:Value):Chg P w ((w.setCell (P,a) u).setCell (P,b) v):=(Chg.set _ _ _ _).trans (Chg.set _ _ _ _)
def No.inE (x:No) (p:Pk):Nat:=if x.chk p=0 then x.ouE p else x.chk p
def No.inP (x:No) (p:Pk):Pk:=if x.inE p=0 then ⟨p.pr,1,(x.ouF p).po,p.a2,p.p2,p.fl⟩ else noP
def No.ins (x:No) (p:Pk):No:=if x.chk p=0 then x.ou p else x
theorem chk_err {x:No} {p:Pk} (h:x.chk p=0):p.err=0:=by
 unfold No.chk at h
 by_cases e:p.err=0
 ·exact e
 ·rw[if_neg e]at h;exact absurd h e
theorem ou_ru (x:No) (p:Pk):(x.ou p).ru=x.ru:=by
 unfold No.ou
 split
 ·unfold No.stp;split <;> rfl
 ·unfold No.bg;split <;> rfl
theorem inside_nd {w0 w:World} {k:Bk} {x:No} {m n:Nat} {s:Nat->Addr} (S:SeM w0 s) (h:Nd w0 w k x m n) (hm:m<=1000000000) (h0:0<=x.now) (h1:x.now<=1000000000) (hr:RulesOk x.ru) (p:Pk) (hpp:In6 p.pr) :
  Calls Tryz.prog 116 #[.pointer (some (k.nd,0)),p.v] w fun e w'=>e=.returned (.tuple #[(x.inP p).v,terr s (x.inE p)])/\Nd w0 w' k (x.ins p) (m+1) n/\ChgL k.all w w':=by
 have HR:Hid (RulesOk x.ru):=hr
 clear hr
 have HS:Hid (SeM w0 s):=S
 have HN:Hid (Nd w0 w k x m n):=h
 have HW:Hid (0<=x.now/\x.now<=1000000000/\m<=1000000000):=⟨h0,h1,hm⟩
 have HPP:Hid (In6 p.pr):=hpp
 clear S h h0 h1 hm hpp
 go_enter Tryz.func116,Tryz.ntmps116
 go_wp2_with fail
 have B0:=aB w (.cells #[p.pr,p.a1,p.p1,p.a2,p.p2,p.fl] 41)
 have P1:Hid (PkZ ((w.alloc (.cells #[p.pr,p.a1,p.p1,p.a2,p.p2,p.fl] 41)).alloc (.cells #[.int .i64 0,.int .i64 0,.int .i64 0,.int .i64 0,.int .i64 0,.int .i64 0] 41)) w p):=(PkZ.new w p).below (aB _ _)
 have B1:Hid (Below w w ((w.alloc (.cells #[p.pr,p.a1,p.p1,p.a2,p.p2,p.fl] 41)).alloc (.cells #[.int .i64 0,.int .i64 0,.int .i64 0,.int .i64 0,.int .i64 0,.int .i64 0] 41))):=t2 B0 (aB _ _)
 have Z1:Hid (PkZ ((w.alloc (.cells #[p.pr,p.a1,p.p1,p.a2,p.p2,p.fl] 41)).alloc (.cells #[.int .i64 0,.int .i64 0,.int .i64 0,.int .i64 0,.int .i64 0,.int .i64 0] 41)) (w.heap.size+1) noP):=by
  have:=PkZ.zero (w.alloc (.cells #[p.pr,p.a1,p.p1,p.a2,p.p2,p.fl] 41))
  show PkZ _ _ _
  simpa using this
 clear B0
 generalize (w.alloc (.cells #[p.pr,p.a1,p.p1,p.a2,p.p2,p.fl] 41)).alloc (.cells #[.int .i64 0,.int .i64 0,.int .i64 0,.int .i64 0,.int .i64 0,.int .i64 0] 41)=w1 at *
 have N1:Hid (Nd w0 w1 k x m n):=HN.below B1
 have LW:Hid (w.heap.size<=w.heap.size):=Nat.le_refl _
 have LQ:Hid (w.heap.size<=w.heap.size+1):=Nat.le_succ _
 generalize hPe:w.heap.size=P at P1 Z1 LW LQ ⊢
 generalize hQe:P+1=Q at Z1 LQ ⊢
 have HNQ:Hid (¬Q ∈ k.all):=fun hm=>by have:=HN.lt _ hm;omega
 have HNP:Hid (¬P ∈ k.all):=fun hm=>by have:=HN.lt _ hm;omega
 refine(check_nd HS N1 p).mono ?_
 rintro e w2 ⟨rfl,hb2⟩
 have B2:Hid (Below w w w2):=t2 B1 hb2
 have N2:Hid (Nd w0 w2 k x m n):=HN.below B2
 have P2:Hid (PkZ w2 P p):=P1.below hb2
 have Z2:Hid (PkZ w2 Q noP):=Z1.below hb2
 have S2:Hid (SeM w2 s):=HS.below N2.bl
 clear hb2 B1 N1 P1 Z1
 by_cases hc:x.chk p=0
 ·have HP:Hid (p.err=0):=chk_err hc
  have HE:Hid (x.inE p=x.ouE p):=by show _=_;unfold No.inE;rw[if_pos hc]
  have HX:Hid (x.ins p=x.ou p):=by show _=_;unfold No.ins;rw[if_pos hc]
  have HRU:Hid ((x.ou p).ru=x.ru):=ou_ru x p
  obtain⟨r0,r1,r2,r3,r4,r5⟩:=P2.b
  rw[hc]
  clear hc
  simp only[terr]
  go_wp2_with fail
  clear r0 r1 r2 r3 r4 r5
  refine(outward_nd HS N2 HW.2.2 HW.1 HW.2.1 HR p HP HPP).mono ?_
  rintro e w3 ⟨rfl,n3,k3⟩
  obtain⟨c,hcc⟩:∃c,x.ouF p=c:=⟨_,rfl⟩
  have HC:Hid (x.ouF p=c):=hcc
  rw[hcc]
  clear hcc
  have n4:=n3.below (aB w3 (.cells #[c.pr,c.ia,c.ip,c.fa,c.fp,c.po,c.st,c.un] 185))
  have N4:Hid (Nd w0 (w3.alloc (.cells #[c.pr,c.ia,c.ip,c.fa,c.fp,c.po,c.st,c.un] 185)) k (x.ou p) (m+1) n):=n4
  have X4:Hid (ChgL k.all w (w3.alloc (.cells #[c.pr,c.ia,c.ip,c.fa,c.fp,c.po,c.st,c.un] 185))):=((ChgL.of B2.out).trans k3).then (aB _ _)
  have P4:Hid (PkZ (w3.alloc (.cells #[c.pr,c.ia,c.ip,c.fa,c.fp,c.po,c.st,c.un] 185)) P p):=(P2.chgL k3 HNP).below (aB _ _)
  have Z4:Hid (PkZ (w3.alloc (.cells #[c.pr,c.ia,c.ip,c.fa,c.fp,c.po,c.st,c.un] 185)) Q noP):=(Z2.chgL k3 HNQ).below (aB _ _)
  have F4:Hid (FlZ (w3.alloc (.cells #[c.pr,c.ia,c.ip,c.fa,c.fp,c.po,c.st,c.un] 185)) w3 c):=FlZ.new w3 c
  simp only[flowV]
  clear n3 n4 k3
  by_cases he:x.ouE p=0
  ·have HIE:Hid (x.inE p=0):=by show _=_;rw[HE.out,he]
   have HIP:Hid (x.inP p=⟨p.pr,1,c.po,p.a2,p.p2,p.fl⟩):=by show _=_;unfold No.inP;rw[if_pos HIE.out,HC.out]
   rw[he]
   clear he
   simp only[terr]
   go_upto_region 7 with fail
   generalize w3.alloc (.cells #[c.pr,c.ia,c.ip,c.fa,c.fp,c.po,c.st,c.un] 185)=w4 at *
   generalize w3.heap.size=G at *
   have g5:=F4.b.c5
   obtain⟨r0,r1,r2,r3,r4,r5⟩:=P4.b
   have pf:=P4.fr
   have hcg:=set_chg2 w4 P 1 2 (.int .i64 1) c.po
   have Z5:Hid (PkZ ((w4.setCell (P,1) (.int .i64 1)).setCell (P,2) c.po) Q noP):=Z4.chgL (ChgL.one (l:=[P]) hcg (by simp)) (by simp;omega)
   obtain⟨n5,k5⟩:=HN.fresh N4 HRU X4 hcg (by omega)
   obtain⟨w9,hst,hz9,hc9⟩:=pkz_store Z5 ⟨p.pr,1,c.po,p.a2,p.p2,p.fl⟩
   simp only at hst
   obtain⟨n9,k9⟩:=HN.fresh n5 HRU k5 hc9 (by omega)
   have N9:Hid (Nd w0 w9 k (x.ou p) (m+1) n):=n9
   have K9:Hid (ChgL k.all w w9):=k9
   have Z9:Hid (PkZ w9 Q ⟨p.pr,1,c.po,p.a2,p.p2,p.fl⟩):=hz9
   clear n9 k9 hz9 hc9 n5 k5 hcg
   go_wp2_with (refine wpList_store_eq rfl 41 _ _ rfl _ _ _ rfl rfl hst ?_)
   clear hst g5 r0 r1 r2 r3 r4 r5 pf
   have q:=Z9.b
   go_wp2_with fail
   exact bodyPost_ret (v:=.tuple #[Pk.v ⟨p.pr,1,c.po,p.a2,p.p2,p.fl⟩,.nilIface]) (by simp[results,Tryz.results116,go_sem,q.c0,q.c1,q.c2,q.c3,q.c4,q.c5,Pk.v]) rfl ⟨by rw[HIP.out,HIE.out];rfl,by rw[HX.out];exact N9,K9⟩
  ·obtain⟨e1,he1⟩:∃e1,x.ouE p=e1+1:=⟨x.ouE p - 1,by omega⟩
   have HIE:Hid (x.inE p=e1+1):=by show _=_;rw[HE.out,he1]
   have HIP:Hid (x.inP p=noP):=by show _=_;unfold No.inP;rw[if_neg (by rw[HIE.out];omega)]
   rw[he1]
   clear he he1
   simp only[terr]
   generalize hw4:w3.alloc (.cells #[c.pr,c.ia,c.ip,c.fa,c.fp,c.po,c.st,c.un] 185)=w4 at N4 X4 P4 Z4 F4
   obtain⟨w9,hst0,hz9,hc9⟩:=pkz_store Z4 noP
   have hst:(Instr.storeAt 41 (.pointer (some (Q,0))) (.agg #[.int .i64 0,.int .i64 0,.int .i64 0,.int .i64 0,.int .i64 0,.int .i64 0])).run Tryz.prog w4=.ok () w9:=hst0
   obtain⟨n9,k9⟩:=HN.fresh N4 HRU X4 hc9 (by omega)
   have N9:Hid (Nd w0 w9 k (x.ou p) (m+1) n):=n9
   have K9:Hid (ChgL k.all w w9):=k9
   have Z9:Hid (PkZ w9 Q noP):=hz9
   clear n9 k9 hz9 hc9 hst0
   subst hw4
   go_wp2_with (refine wpList_store_eq rfl 41 _ _ rfl _ _ _ rfl rfl hst ?_)
   clear hst
   have q:=Z9.b
   go_wp2_with fail
   exact bodyPost_ret (v:=.tuple #[Pk.v noP,.iface 312 (.pointer (some (s e1)))]) (by simp[results,Tryz.results116,go_sem,q.c0,q.c1,q.c2,q.c3,q.c4,q.c5,Pk.v]) rfl ⟨by rw[HIP.out,HIE.out];rfl,by rw[HX.out];exact N9,K9⟩
 ·obtain⟨e1,he1⟩:∃e1,x.chk p=e1+1:=⟨x.chk p - 1,by omega⟩
  have HIE:Hid (x.inE p=e1+1):=by show _=_;unfold No.inE;rw[if_neg hc,he1]
  have HIP:Hid (x.inP p=noP):=by show _=_;unfold No.inP;rw[if_neg (by rw[HIE.out];omega)]
  have HX:Hid (x.ins p=x):=by show _=_;unfold No.ins;rw[if_neg hc]
  have HRU:Hid (x.ru=x.ru):=rfl
  rw[he1]
  clear hc he1
  simp only[terr]
  obtain⟨w9,hst0,hz9,hc9⟩:=pkz_store Z2 noP
  have hst:(Instr.storeAt 41 (.pointer (some (Q,0))) (.agg #[.int .i64 0,.int .i64 0,.int .i64 0,.int .i64 0,.int .i64 0,.int .i64 0])).run Tryz.prog w2=.ok () w9:=hst0
  obtain⟨n9,k9⟩:=HN.fresh N2 HRU (ChgL.of B2.out) hc9 (by omega)
  have N9:Hid (Nd w0 w9 k x m n):=n9
  have K9:Hid (ChgL k.all w w9):=k9
  have Z9:Hid (PkZ w9 Q noP):=hz9
  clear n9 k9 hz9 hc9 hst0
  go_wp2_with (refine wpList_store_eq rfl 41 _ _ rfl _ _ _ rfl rfl hst ?_)
  clear hst
  have q:=Z9.b
  go_wp2_with fail
  exact bodyPost_ret (v:=.tuple #[Pk.v noP,.iface 312 (.pointer (some (s e1)))]) (by simp[results,Tryz.results116,go_sem,q.c0,q.c1,q.c2,q.c3,q.c4,q.c5,Pk.v]) rfl ⟨by rw[HIP.out,HIE.out];rfl,by rw[HX.out];exact N9.more (by omega),K9⟩
def No.bck (x:No) (p:Pk):Option Nat:=fst x.T (backQ p.pr p.p2 p.a1 p.p1)
def No.otE (x:No) (p:Pk):Nat:=if x.chk p=0 then (if p.a2=1 then (match x.bck p with | some _=>0 | none=>4) else 3) else x.chk p
def No.otJ (x:No) (p:Pk):Option Nat:=if x.chk p=0 then (if p.a2=1 then x.bck p else none) else none
def No.otP (x:No) (p:Pk):Pk:=match x.otJ p with | some j=>⟨p.pr,p.a1,p.p1,(x.T j).ia,(x.T j).ip,p.fl⟩ | none=>noP
def No.ots (x:No) (p:Pk):No:=match x.otJ p with | some j=>x.stp j p.fl false | none=>x
theorem stp_ru (x:No) (j:Nat) (fl:Int) (ou:Bool):(x.stp j fl ou).ru=x.ru:=by unfold No.stp;split <;> rfl
theorem outside_nd {w0 w:World} {k:Bk} {x:No} {m n:Nat} {s:Nat->Addr} (S:SeM w0 s) (h:Nd w0 w k x m n) (hm:m<=1000000000) (h0:0<=x.now) (h1:x.now<=1000000000) (p:Pk) :
  Calls Tryz.prog 117 #[.pointer (some (k.nd,0)),p.v] w fun e w'=>e=.returned (.tuple #[(x.otP p).v,terr s (x.otE p)])/\Nd w0 w' k (x.ots p) (m+1) n/\ChgL k.all w w':=by
 have HS:Hid (SeM w0 s):=S
 have HN:Hid (Nd w0 w k x m n):=h
 have HW:Hid (0<=x.now/\x.now<=1000000000/\m<=1000000000):=⟨h0,h1,hm⟩
 clear S h h0 h1 hm
 go_enter Tryz.func117,Tryz.ntmps117
 go_wp2_with fail
 have B0:=aB w (.cells #[p.pr,p.a1,p.p1,p.a2,p.p2,p.fl] 41)
 have P1:Hid (PkZ ((w.alloc (.cells #[p.pr,p.a1,p.p1,p.a2,p.p2,p.fl] 41)).alloc (.cells #[.int .i64 0,.int .i64 0,.int .i64 0,.int .i64 0,.int .i64 0,.int .i64 0] 41)) w p):=(PkZ.new w p).below (aB _ _)
 have B1:Hid (Below w w ((w.alloc (.cells #[p.pr,p.a1,p.p1,p.a2,p.p2,p.fl] 41)).alloc (.cells #[.int .i64 0,.int .i64 0,.int .i64 0,.int .i64 0,.int .i64 0,.int .i64 0] 41))):=t2 B0 (aB _ _)
 have Z1:Hid (PkZ ((w.alloc (.cells #[p.pr,p.a1,p.p1,p.a2,p.p2,p.fl] 41)).alloc (.cells #[.int .i64 0,.int .i64 0,.int .i64 0,.int .i64 0,.int .i64 0,.int .i64 0] 41)) (w.heap.size+1) noP):=by
  have:=PkZ.zero (w.alloc (.cells #[p.pr,p.a1,p.p1,p.a2,p.p2,p.fl] 41))
  show PkZ _ _ _
  simpa using this
 clear B0
 generalize (w.alloc (.cells #[p.pr,p.a1,p.p1,p.a2,p.p2,p.fl] 41)).alloc (.cells #[.int .i64 0,.int .i64 0,.int .i64 0,.int .i64 0,.int .i64 0,.int .i64 0] 41)=w1 at *
 have N1:Hid (Nd w0 w1 k x m n):=HN.below B1
 have LW:Hid (w.heap.size<=w.heap.size):=Nat.le_refl _
 have LQ:Hid (w.heap.size<=w.heap.size+1):=Nat.le_succ _
 generalize hPe:w.heap.size=P at P1 Z1 LW LQ ⊢
 generalize hQe:P+1=Q at Z1 LQ ⊢
 have HNQ:Hid (¬Q ∈ k.all):=fun hm=>by have:=HN.lt _ hm;omega
 have HNP:Hid (¬P ∈ k.all):=fun hm=>by have:=HN.lt _ hm;omega
 refine(check_nd HS N1 p).mono ?_
 rintro e w2 ⟨rfl,hb2⟩
 have B2:Hid (Below w w w2):=t2 B1 hb2
 have N2:Hid (Nd w0 w2 k x m n):=HN.below B2
 have P2:Hid (PkZ w2 P p):=P1.below hb2
 have Z2:Hid (PkZ w2 Q noP):=Z1.below hb2
 have S2:Hid (SeM w2 s):=HS.below N2.bl
 clear hb2 B1 N1 P1 Z1
 by_cases hc:x.chk p=0
 ·have HCK:Hid (x.chk p=0):=hc
  rw[hc]
  clear hc
  simp only[terr]
  by_cases ha:p.a2=1
  ·have HA2:Hid (p.a2=1):=ha
   obtain⟨r0,r1,r2,r3,r4,r5⟩:=P2.b
   rw[ha]at r3
   clear ha
   go_upto_region 6 with fail
   clear r0 r1 r2 r3 r4 r5
   go_wp2_with fail
   obtain⟨o,ho⟩:∃o,x.bck p=o:=⟨_,rfl⟩
   have HO:Hid (x.bck p=o):=ho
   have HFD:Hid (∀u,Nd w0 u k x m n->Calls Tryz.prog 151 #[.pointer (some (k.tb,0)),p.pr,p.p2,.agg #[p.a1,p.p1]] u fun e w'=>e=.returned (.tuple #[.int .i64 ((o.getD 0:Nat):Int),.bool o.isSome])/\Below u u w'):=fun u hu=>by
    have:=back_any k.tb x.low x.T p.pr p.p2 p.a1 p.p1 u hu.tb
    rw[show fst x.T (backQ p.pr p.p2 p.a1 p.p1)=o from ho]at this
    exact this
   clear ho
   obtain⟨q0,q1,q2,_,q4,_⟩:=(P2.below (Below.refl _ _).drew).b
   have hS:w2.drew.cell? (k.nd,6)=some (.pointer (some (k.te,0)))/\w2.drew.cell? (k.te,0)=some (.pointer (some (k.tb,0)))/\w2.drew.cell? (P,0)=p.pr/\w2.drew.cell? (P,1)=p.a1/\w2.drew.cell? (P,2)=p.p1/\w2.drew.cell? (P,4)=p.p2:=⟨N2.c6,N2.t0,q0,q1,q2,q4⟩
   clear q0 q1 q2 q4
   go_region_held3 (fun w'=>w'.cell? (k.nd,6)=some (.pointer (some (k.te,0)))/\w'.cell? (k.te,0)=some (.pointer (some (k.tb,0)))/\w'.cell? (P,0)=p.pr/\w'.cell? (P,1)=p.a1/\w'.cell? (P,2)=p.p1/\w'.cell? (P,4)=p.p2)
    (first | assumption | exact⟨tk hb3 hS.1,tk hb3 hS.2.1,tk hb3 hS.2.2.1,tk hb3 hS.2.2.2.1,tk hb3 hS.2.2.2.2.1,tk hb3 hS.2.2.2.2.2⟩)
    (first | (go_at_call 151;refine(HFD _ N2.drew).mono ?_;rintro e w3 ⟨rfl,hb3⟩))
   have B3:Hid (Below w w w3):=t2 (t2 B2 (Below.refl _ _).drew) hb3
   have N3:Hid (Nd w0 w3 k x m n):=HN.below B3
   have P3:Hid (PkZ w3 P p):=(P2.below (Below.refl _ _).drew).below hb3
   have Z3:Hid (PkZ w3 Q noP):=(Z2.below (Below.refl _ _).drew).below hb3
   have S3:Hid (SeM w3 s):=HS.below N3.bl
   clear hS hb3 B2 N2 P2 Z2 S2 HFD
   cases o with
   | some j =>
    have HLT:Hid (j < 32):=fst_lt HO
    have HJ:Hid (x.otJ p=some j):=by show _=_;unfold No.otJ;rw[if_pos HCK.out,if_pos HA2.out,HO.out]
    have HE:Hid (x.otE p=0):=by show _=_;unfold No.otE;rw[if_pos HCK.out,if_pos HA2.out,HO.out]
    have HX:Hid (x.ots p=x.stp j p.fl false):=by show _=_;unfold No.ots;rw[HJ.out]
    have HRU:Hid ((x.stp j p.fl false).ru=x.ru):=stp_ru _ _ _ _
    simp only[Option.isSome_some,Option.getD_some]
    have r5:=P3.b.c5
    go_wp2_with fail
    clear r5
    refine(step_nd HS N3 HW.2.2 HW.1 HW.2.1 j HLT p.fl false).mono ?_
    rintro e w4 ⟨rfl,n4,k4⟩
    obtain⟨c,hcc⟩:∃c,x.T j=c:=⟨_,rfl⟩
    have HPP:Hid (x.otP p=⟨p.pr,p.a1,p.p1,c.ia,c.ip,p.fl⟩):=by show _=_;unfold No.otP;rw[HJ.out];simp only[hcc]
    rw[hcc]
    clear hcc
    simp only[flowV]
    have N4:Hid (Nd w0 w4 k (x.stp j p.fl false) (m+1) n):=n4
    have X4:Hid (ChgL k.all w w4):=(ChgL.of B3.out).trans k4
    have P4:Hid (PkZ w4 P p):=P3.chgL k4 HNP
    have Z4:Hid (PkZ w4 Q noP):=Z3.chgL k4 HNQ
    clear n4 k4 N3 P3 Z3 B3
    obtain⟨r0,r1,r2,r3,r4,r5⟩:=P4.b
    have pf:=P4.fr
    have hfd:(Instr.field 185 (.agg #[c.pr,c.ia,c.ip,c.fa,c.fp,c.po,c.st,c.un]) 1).run Tryz.prog w4=.ok (.agg #[c.ia,c.ip]) w4:=by kernel_rfl
    have hcg:=set_chg2 w4 P 3 4 c.ia c.ip
    have Z5:Hid (PkZ ((w4.setCell (P,3) c.ia).setCell (P,4) c.ip) Q noP):=Z4.chgL (ChgL.one (l:=[P]) hcg (by simp)) (by simp;omega)
    obtain⟨n5,k5⟩:=HN.fresh N4 HRU X4 hcg (by omega)
    obtain⟨w9,hst,hz9,hc9⟩:=pkz_store Z5 ⟨p.pr,p.a1,p.p1,c.ia,c.ip,p.fl⟩
    simp only at hst
    obtain⟨n9,k9⟩:=HN.fresh n5 HRU k5 hc9 (by omega)
    have N9:Hid (Nd w0 w9 k (x.stp j p.fl false) (m+1) n):=n9
    have K9:Hid (ChgL k.all w w9):=k9
    have Z9:Hid (PkZ w9 Q ⟨p.pr,p.a1,p.p1,c.ia,c.ip,p.fl⟩):=hz9
    clear n9 k9 hz9 hc9 n5 k5 hcg
    go_wp2_with (refine wpList_store_eq rfl 41 _ _ rfl _ _ _ rfl rfl hst ?_)
    clear hst r0 r1 r2 r3 r4 r5 pf
    have q:=Z9.b
    go_wp2_with fail
    exact bodyPost_ret (v:=.tuple #[Pk.v ⟨p.pr,p.a1,p.p1,c.ia,c.ip,p.fl⟩,.nilIface]) (by simp[results,Tryz.results117,go_sem,q.c0,q.c1,q.c2,q.c3,q.c4,q.c5,Pk.v]) rfl ⟨by rw[HPP.out,HE.out];rfl,by rw[HX.out];exact N9,K9⟩
   | none =>
    have HJ:Hid (x.otJ p=none):=by show _=_;unfold No.otJ;rw[if_pos HCK.out,if_pos HA2.out,HO.out]
    have HE:Hid (x.otE p=4):=by show _=_;unfold No.otE;rw[if_pos HCK.out,if_pos HA2.out,HO.out]
    have HX:Hid (x.ots p=x):=by show _=_;unfold No.ots;rw[HJ.out]
    have HPP:Hid (x.otP p=noP):=by show _=_;unfold No.otP;rw[HJ.out]
    simp only[Option.isSome_none,Option.getD_none]
    have s3:=S3.c3
    have hGQ : 3≠Q:=by have hg : 3 < w0.heap.size:=tlt HS.c3;have:=HN.bl.size;omega
    obtain⟨z0,z1,z2,z3,z4,z5⟩:=Z3.b
    have zf:=Z3.fr
    simp only[noP]at z0 z1 z2 z3 z4 z5
    go_wp2_with fail
    go_region
    all_goals go_wp2_with fail
    all_goals
     refine bodyPost_ret (v:=.tuple #[Pk.v noP,.iface 312 (.pointer (some (s 3)))]) (by simp[results,Tryz.results117,go_sem,z0,z1,z2,z3,z4,z5,Pk.v,noP]) rfl ?_
     rw[HPP.out,HE.out,HX.out]
     have hcc:∀W,Chg Q w3 W->Nd w0 W k x m n/\ChgL k.all w W:=fun W hc=>HN.fresh N3 rfl (ChgL.of B3.out) hc (by omega)
     refine⟨rfl,(fun q=>⟨q.1.more (by omega),q.2⟩) (hcc _ ?_)⟩
     exact(set0_chg6 w3 Q).then (Below.refl _ _).drew
  ·have HJ:Hid (x.otJ p=none):=by show _=_;unfold No.otJ;rw[if_pos HCK.out,if_neg ha]
   have HE:Hid (x.otE p=3):=by show _=_;unfold No.otE;rw[if_pos HCK.out,if_neg ha]
   have HX:Hid (x.ots p=x):=by show _=_;unfold No.ots;rw[HJ.out]
   have HPP:Hid (x.otP p=noP):=by show _=_;unfold No.otP;rw[HJ.out]
   have s2:=S2.c2
   have r3:=P2.b.c3
   have hGQ : 2≠Q:=by have hg : 2 < w0.heap.size:=tlt HS.c2;have:=HN.bl.size;omega
   obtain⟨z0,z1,z2,z3,z4,z5⟩:=Z2.b
   have zf:=Z2.fr
   simp only[noP]at z0 z1 z2 z3 z4 z5
   go_wp2_with fail
   go_region
   all_goals go_wp2_with fail
   all_goals
    refine bodyPost_ret (v:=.tuple #[Pk.v noP,.iface 312 (.pointer (some (s 2)))]) (by simp[results,Tryz.results117,go_sem,z0,z1,z2,z3,z4,z5,Pk.v,noP]) rfl ?_
    rw[HPP.out,HE.out,HX.out]
    have hcc:∀W,Chg Q w2 W->Nd w0 W k x m n/\ChgL k.all w W:=fun W hc=>HN.fresh N2 rfl (ChgL.of B2.out) hc (by omega)
    refine⟨rfl,(fun q=>⟨q.1.more (by omega),q.2⟩) (hcc _ ?_)⟩
    exact(set0_chg6 w2 Q).then (Below.refl _ _).drew
 ·obtain⟨e1,he1⟩:∃e1,x.chk p=e1+1:=⟨x.chk p - 1,by omega⟩
  have HE:Hid (x.otE p=e1+1):=by show _=_;unfold No.otE;rw[if_neg hc,he1]
  have HJ:Hid (x.otJ p=none):=by show _=_;unfold No.otJ;rw[if_neg hc]
  have HX:Hid (x.ots p=x):=by show _=_;unfold No.ots;rw[HJ.out]
  have HPP:Hid (x.otP p=noP):=by show _=_;unfold No.otP;rw[HJ.out]
  rw[he1]
  clear hc he1
  simp only[terr]
  obtain⟨w9,hst0,hz9,hc9⟩:=pkz_store Z2 noP
  have hst:(Instr.storeAt 41 (.pointer (some (Q,0))) (.agg #[.int .i64 0,.int .i64 0,.int .i64 0,.int .i64 0,.int .i64 0,.int .i64 0])).run Tryz.prog w2=.ok () w9:=hst0
  obtain⟨n9,k9⟩:=HN.fresh N2 rfl (ChgL.of B2.out) hc9 (by omega)
  have N9:Hid (Nd w0 w9 k x m n):=n9
  have K9:Hid (ChgL k.all w w9):=k9
  have Z9:Hid (PkZ w9 Q noP):=hz9
  clear n9 k9 hz9 hc9 hst0
  go_wp2_with (refine wpList_store_eq rfl 41 _ _ rfl _ _ _ rfl rfl hst ?_)
  clear hst
  have q:=Z9.b
  go_wp2_with fail
  exact bodyPost_ret (v:=.tuple #[Pk.v noP,.iface 312 (.pointer (some (s e1)))]) (by simp[results,Tryz.results117,go_sem,q.c0,q.c1,q.c2,q.c3,q.c4,q.c5,Pk.v]) rfl ⟨by rw[HPP.out,HE.out];rfl,by rw[HX.out];exact N9.more (by omega),K9⟩
theorem hear_any (b:Nat) (r:Ro) (n:Int) (w:World) (R:Rol w b r) :
  Calls Tryz.prog 180 #[.pointer (some (b,0)),n] w fun e w'=>e=.returned (.bool (r.falls n))/\Rol w' b (r.hear n)/\Chg b w w':=by
 obtain⟨nd,ep,si,ac⟩:=r
 have HR:Hid (Rol w b ⟨nd,ep,si,ac⟩):=R
 have g1:w.cell? (b,1)=ep:=R.c1
 have g2:w.cell? (b,2)=si:=R.c2
 have g3:w.cell? (b,3)=some (.bool ac):=R.c3
 have f1:=R.fr 1
 have f2:=R.fr 2
 have f3:=R.fr 3
 clear R
 cases hp:isEpR n
 ·have HP:Hid (isEpR n=false):=hp
  have HH:Hid ((⟨nd,ep,si,ac⟩:Ro).heard n=false):=by show _=_;unfold Ro.heard;rw[hp];rfl
  have HF:Hid ((⟨nd,ep,si,ac⟩:Ro).falls n=false):=by show _=_;unfold Ro.falls;rw[HH.out];rfl
  have HQ:Hid ((⟨nd,ep,si,ac⟩:Ro).hear n=⟨nd,ep,si,ac⟩):=by show _=_;unfold Ro.hear;rw[HH.out];rfl
  clear hp
  go_enter Tryz.func180,Tryz.ntmps180
  go_wp2_with fail
  refine(isEpochR_any n w).mono ?_
  rintro e w1 ⟨rfl,rfl⟩
  rw[HP.out]
  go_wp2_with fail
  go_ret
  exact⟨by rw[HF.out];rfl,by rw[HQ.out];exact HR,Chg.refl _ _⟩
 ·have HP:Hid (isEpR n=true):=hp
  by_cases hl:n < ep
  ·have HH:Hid ((⟨nd,ep,si,ac⟩:Ro).heard n=false):=by show _=_;unfold Ro.heard;rw[hp];simp[hl]
   have HF:Hid ((⟨nd,ep,si,ac⟩:Ro).falls n=false):=by show _=_;unfold Ro.falls;rw[HH.out];rfl
   have HQ:Hid ((⟨nd,ep,si,ac⟩:Ro).hear n=⟨nd,ep,si,ac⟩):=by show _=_;unfold Ro.hear;rw[HH.out];rfl
   clear hp
   go_enter Tryz.func180,Tryz.ntmps180
   go_wp2_with fail
   refine(isEpochR_any n w).mono ?_
   rintro e w1 ⟨rfl,rfl⟩
   rw[HP.out]
   go_wp2_with fail
   go_ret
   exact⟨by rw[HF.out];rfl,by rw[HQ.out];exact HR,Chg.refl _ _⟩
  ·have HH:Hid ((⟨nd,ep,si,ac⟩:Ro).heard n=true):=by show _=_;unfold Ro.heard;rw[hp];simp[hl]
   have HF:Hid ((⟨nd,ep,si,ac⟩:Ro).falls n=(ac && decide (ep < n))):=by show _=_;unfold Ro.falls;rw[HH.out];rfl
   have HQ:Hid ((⟨nd,ep,si,ac⟩:Ro).hear n=⟨nd,n,0,ac && !decide (ep < n)⟩):=by show _=_;unfold Ro.hear;rw[HH.out];rfl
   clear hp
   cases ac
   ·go_enter Tryz.func180,Tryz.ntmps180
    go_wp2_with fail
    refine(isEpochR_any n w).mono ?_
    rintro e w1 ⟨rfl,rfl⟩
    rw[HP.out]
    go_wp2_with fail
    go_ret
    exact⟨by rw[HF.out];rfl,by rw[HQ.out];exact((HR.ac false).ep n).si 0,((Chg.set _ _ _ _).trans (Chg.set _ _ _ _)).trans (Chg.set _ _ _ _)⟩
   ·by_cases hg:ep < n
    ·rw[decide_eq_true hg]at HF HQ
     go_enter Tryz.func180,Tryz.ntmps180
     go_wp2_with fail
     refine(isEpochR_any n w).mono ?_
     rintro e w1 ⟨rfl,rfl⟩
     rw[HP.out]
     go_wp2_with fail
     go_ret
     exact⟨by rw[HF.out];rfl,by rw[HQ.out];exact((HR.ac false).ep n).si 0,((Chg.set _ _ _ _).trans (Chg.set _ _ _ _)).trans (Chg.set _ _ _ _)⟩
    ·rw[decide_eq_false hg]at HF HQ
     have hd:decide (ep < n)=false:=decide_eq_false hg
     clear hg
     go_enter Tryz.func180,Tryz.ntmps180
     go_wp2_with fail
     refine(isEpochR_any n w).mono ?_
     rintro e w1 ⟨rfl,rfl⟩
     rw[HP.out]
     go_wp2_with fail
     go_ret
     exact⟨by rw[HF.out];rfl,by rw[HQ.out];exact((HR.ac true).ep n).si 0,((Chg.set _ _ _ _).trans (Chg.set _ _ _ _)).trans (Chg.set _ _ _ _)⟩
theorem mslot_any (k:Int) (w:World):Calls Tryz.prog 216 #[k] w fun e w'=>e=.returned (.bool (decide (0<=k) && decide (k < 32)))/\w'=w:=by
 go_enter Tryz.func216,Tryz.ntmps216
 go_wp2_with fail
 all_goals go_ret
 all_goals refine⟨?_,rfl⟩
 all_goals first | (simp_all;done) | (simp_all;omega)
abbrev badFn:Value:=.func (.func 215) #[] #[]
theorem bad_any (x:Tc) (w:World):Calls Tryz.prog 215 #[tcV x] w fun e w'=>e=.returned (.bool (!okS x))/\Below w w w':=by
 unfold tcV
 have HO:Hid (okS x=(decide (0<=x.sl) && decide (x.sl < 32))):=rfl
 go_enter Tryz.func215,Tryz.ntmps215
 go_wp2_with fail
 refine(mslot_any x.sl _).mono ?_
 rintro e w1 ⟨rfl,rfl⟩
 rw[<- HO.out]
 go_wp2_with fail
 go_ret
 exact⟨rfl,aB _ _⟩
theorem mindex_any (p:Option Addr) (cap:Nat) (l:List Tc) (w:World) (R:TcR w p l) (hl:l.length<=100000) :
  Calls Tryz.prog 242 #[.slice p l.length cap,badFn] w fun e w'=>(∃k:Int,e=.returned k/\decide (k ≥ 0)=l.any fun x=>!okS x)/\Below w w w':=by
 have HR:Hid (TcR w p l):=R
 clear R
 go_enter Tryz.func242,Tryz.ntmps242
 go_wp2_with fail
 go_loopw [8] (fun t wr=>∃j:Nat,j<=l.length/\t=.int .i64 j/\((l.take j).any fun x=>!okS x)=false/\Below w w wr) (fun t _=>l.length - (intOf t).toNat)
 case atStart=>exact⟨0,Nat.zero_le _,rfl,rfl,Below.refl _ _⟩
 case round =>
  obtain⟨j,hj,rfl,hno,hbr⟩:=hrel
  have HN:Hid (((l.take j).any fun x=>!okS x)=false):=hno
  have HB:Hid (Below w w wr):=hbr
  clear hno hbr
  by_cases hlt:j < l.length
  ·have hr:l[j]? = some l[j]:=List.getElem?_eq_getElem hlt
   obtain⟨y,hy⟩:∃y,y=l[j]:=⟨_,rfl⟩
   rw[<- hy]at hr
   have HY:Hid (l[j]? = some y):=hr
   clear hy
   obtain⟨g,o,rfl,hc⟩:=HR.out j y hr
   have hc:=hc.below HB
   have c0:=hc.c0
   have c1:=hc.c1
   have c2:=hc.c2
   have c3:=hc.c3
   have c4:=hc.c4
   have c5:=hc.c5
   have c6:=hc.c6
   have c7:=hc.c7
   have c8:=hc.c8
   have c9:=hc.c9
   clear hr hc
   go_wp2_with fail
   refine(bad_any y _).mono ?_
   rintro e w2 ⟨rfl,hb2⟩
   have HB2:Hid (Below w w w2):=t2 HB hb2
   clear hb2 c0 c1 c2 c3 c4 c5 c6 c7 c8 c9
   rcases hd:okS y with _ | _
   ·have HT:Hid ((l.any fun x=>!okS x)=true):=by
     show _=_
     rw[List.any_eq_true]
     exact⟨y,List.mem_of_getElem? HY,by rw[hd];rfl⟩
    clear hd
    go_wp2_with fail
    go_ret
    exact⟨⟨_,rfl,by rw[HT.out,decide_eq_true_iff];omega⟩,HB2⟩
   ·have HT:Hid (((l.take (j+1)).any fun x=>!okS x)=false):=by
     show _=_
     rw[List.take_add_one,HY.out,List.any_append,HN.out]
     simp only[Option.toList_some,List.any_cons,List.any_nil,hd,Bool.or_false,Bool.not_true]
    clear hd
    go_wp2_with fail
    go_roundw
    case rel=>exact⟨j+1,by omega,by go_num,HT,HB2⟩
    case measure=>simp[intOf];omega
  ·obtain rfl:j=l.length:=by omega
   rw[List.take_length]at HN
   go_wp2_with fail
   go_ret
   exact⟨⟨_,rfl,by rw[HN.out];rfl⟩,HB⟩
theorem mcontains_any (p:Option Addr) (cap:Nat) (l:List Tc) (w:World) (R:TcR w p l) (hl:l.length<=100000) :
  Calls Tryz.prog 214 #[.slice p l.length cap,badFn] w fun e w'=>e=.returned (.bool (l.any fun x=>!okS x))/\Below w w w':=by
 have HR:Hid (TcR w p l):=R
 clear R
 go_enter Tryz.func214,Tryz.ntmps214
 go_wp2_with fail
 refine(mindex_any p cap l _ HR hl).mono ?_
 rintro e w2 ⟨⟨k,rfl,hk⟩,hb2⟩
 have HB2:Hid (Below w w w2):=hb2
 have HK:Hid (decide (k ≥ 0)=l.any fun x=>!okS x):=hk
 clear hb2 hk
 go_wp2_with fail
 all_goals go_ret
 all_goals refine⟨?_,HB2⟩
 all_goals rw[<- HK.out]
 all_goals rfl
theorem put_all (d c:Ce):(((((((((d.put c.ve 1).put c.pr 2).put c.ia 3).put c.ip 4).put c.fa 5).put c.fp 6).put c.po 7).put c.st 8).put c.un 9)=c:=by
 cases c
 rfl
theorem mir_put10 {w:World} {b:Nat} {life:Int} {T:Tb} (h:Mir w b life T) (k:Nat) (c:Ce) (hk:k < 32):Mir ((((((((((w.setCell (b,1+k * 10) k).setCell (b,1+k * 10+1) c.ve).setCell (b,1+k * 10+2) c.pr).setCell (b,1+k * 10+3) c.ia).setCell (b,1+k * 10+4) c.ip).setCell (b,1+k * 10+5) c.fa).setCell (b,1+k * 10+6) c.fp).setCell (b,1+k * 10+7) c.po).setCell (b,1+k * 10+8) c.st).setCell (b,1+k * 10+9) c.un) b life (upd T k c):=by
 have h:=h.putSlot (i:=k) hk
 have h:=h.put (i:=k) (k:=1) c.ve hk (by omega) (by omega)
 have h:=h.put (i:=k) (k:=2) c.pr hk (by omega) (by omega)
 have h:=h.put (i:=k) (k:=3) c.ia hk (by omega) (by omega)
 have h:=h.put (i:=k) (k:=4) c.ip hk (by omega) (by omega)
 have h:=h.put (i:=k) (k:=5) c.fa hk (by omega) (by omega)
 have h:=h.put (i:=k) (k:=6) c.fp hk (by omega) (by omega)
 have h:=h.put (i:=k) (k:=7) c.po hk (by omega) (by omega)
 have h:=h.put (i:=k) (k:=8) c.st hk (by omega) (by omega)
 have h:=h.put (i:=k) (k:=9) c.un hk (by omega) (by omega)
 simp only[upd_same,upd_upd,put_all]at h
 exact h
theorem mchg_put10 (w:World) (b k:Nat) (c:Ce):Chg b w ((((((((((w.setCell (b,1+k * 10) k).setCell (b,1+k * 10+1) c.ve).setCell (b,1+k * 10+2) c.pr).setCell (b,1+k * 10+3) c.ia).setCell (b,1+k * 10+4) c.ip).setCell (b,1+k * 10+5) c.fa).setCell (b,1+k * 10+6) c.fp).setCell (b,1+k * 10+7) c.po).setCell (b,1+k * 10+8) c.st).setCell (b,1+k * 10+9) c.un) :=
 (((((((((Chg.set b _ w _).trans (Chg.set b _ _ _)).trans (Chg.set b _ _ _)).trans (Chg.set b _ _ _)).trans (Chg.set b _ _ _)).trans (Chg.set b _ _ _)).trans (Chg.set b _ _ _)).trans (Chg.set b _ _ _)).trans (Chg.set b _ _ _)).trans (Chg.set b _ _ _)
theorem take_nat (b:Nat) (life:Int) (T:Tb) (k:Nat) (c:Ce) (w:World) (M:Mir w b life T) (hk:k < 32) :
  Calls Tryz.prog 217 #[.pointer (some (b,0)),.agg #[k,c.ve,c.pr,c.ia,c.ip,c.fa,c.fp,c.po,c.st,c.un]] w fun e w'=>e=.returned (.tuple #[])/\Mir w' b life (if (T k).ve < c.ve then upd T k c else T)/\Chg b w w':=by
 obtain⟨x,hx⟩:∃x,x=(T k).ve:=⟨_,rfl⟩
 have HM:Hid (Mir w b life T):=M
 have HXE:Hid (x=(T k).ve):=hx
 have hi0:(0:Int)<=(k:Int):=by omega
 have hi1:(k:Int) < 32:=by omega
 rw[<- hx]
 clear M hx
 have M0:Hid (Mir (w.alloc (.cells #[k,c.ve,c.pr,c.ia,c.ip,c.fa,c.fp,c.po,c.st,c.un] 187)) b life T):=HM.below (aB _ _)
 have C0:Hid (Chg b w (w.alloc (.cells #[k,c.ve,c.pr,c.ia,c.ip,c.fa,c.fp,c.po,c.st,c.un] 187))):=Chg.of (aB _ _)
 have HX:Hid (TcAt (w.alloc (.cells #[k,c.ve,c.pr,c.ia,c.ip,c.fa,c.fp,c.po,c.st,c.un] 187)) w 0 ⟨k,c⟩):=tcAt_new w ⟨k,c⟩ _
 have HN:Hid (w.heap.size≠b):=fun e=>by have:=HM.lt;omega
 by_cases hlt:x < c.ve
 ·rw[if_pos hlt]
  go_enter Tryz.func217,Tryz.ntmps217
  go_wp2_with fail
  generalize w.alloc (.cells #[k,c.ve,c.pr,c.ia,c.ip,c.fa,c.fp,c.po,c.st,c.un] 187)=w0 at *
  obtain⟨Z,hZ⟩:∃Z,Z=w.heap.size:=⟨_,rfl⟩
  rw[<- hZ]at HX HN ⊢
  clear hZ HM
  have m1:w0.cell? (b,1+k * 10+1)=x:=by rw[HXE.out];exact M0.at' hk (by omega)
  have a0:=HX.c0
  have a1:=HX.c1
  simp only[Nat.zero_add]at a1
  go_wp2_with fail
  go_region
  have M1:Hid (Mir w0.drew b life T):=M0.below (Below.refl _ _).drew
  have C1:Hid (Chg b w w0.drew):=C0.then (Below.refl _ _).drew
  have HX1:Hid (TcAt w0.drew Z 0 ⟨k,c⟩):=HX.below (Below.refl _ _).drew
  generalize w0.drew=w1 at *
  clear a0 a1 m1 M0 C0 HX
  have a0:=HX1.c0
  have a1:=HX1.c1
  have a2:=HX1.c2
  have a3:=HX1.c3
  have a4:=HX1.c4
  have a5:=HX1.c5
  have a6:=HX1.c6
  have a7:=HX1.c7
  have a8:=HX1.c8
  have a9:=HX1.c9
  have g0:=M1.at' (k:=0) hk (by omega)
  have g1:=M1.at' (k:=1) hk (by omega)
  have g2:=M1.at' (k:=2) hk (by omega)
  have g3:=M1.at' (k:=3) hk (by omega)
  have g4:=M1.at' (k:=4) hk (by omega)
  have g5:=M1.at' (k:=5) hk (by omega)
  have g6:=M1.at' (k:=6) hk (by omega)
  have g7:=M1.at' (k:=7) hk (by omega)
  have g8:=M1.at' (k:=8) hk (by omega)
  have g9:=M1.at' (k:=9) hk (by omega)
  simp only[Nat.zero_add,Nat.add_zero]at a1 a2 a3 a4 a5 a6 a7 a8 a9 g0
  have fz:=M1.fr
  go_wp2_with fail
  go_region
  go_end0
  exact⟨rfl,(mir_put10 M1 k c hk).below (Below.refl _ _).drew,(C1.trans (mchg_put10 _ _ _ _)).then (Below.refl _ _).drew⟩
 ·rw[if_neg hlt]
  go_enter Tryz.func217,Tryz.ntmps217
  go_wp2_with fail
  generalize w.alloc (.cells #[k,c.ve,c.pr,c.ia,c.ip,c.fa,c.fp,c.po,c.st,c.un] 187)=w0 at *
  obtain⟨Z,hZ⟩:∃Z,Z=w.heap.size:=⟨_,rfl⟩
  rw[<- hZ]at HX HN ⊢
  clear hZ HM
  have m1:w0.cell? (b,1+k * 10+1)=x:=by rw[HXE.out];exact M0.at' hk (by omega)
  have a0:=HX.c0
  have a1:=HX.c1
  simp only[Nat.zero_add]at a1
  go_wp2_with fail
  go_region
  go_wp2_with fail
  go_end0
  exact⟨rfl,M0.below (Below.refl _ _).drew,C0.then (Below.refl _ _).drew⟩
theorem take_any (b:Nat) (life:Int) (T:Tb) (x:Tc) (w:World) (M:Mir w b life T) (hx:okS x=true) :
  Calls Tryz.prog 217 #[.pointer (some (b,0)),.agg #[x.sl,x.c.ve,x.c.pr,x.c.ia,x.c.ip,x.c.fa,x.c.fp,x.c.po,x.c.st,x.c.un]] w fun e w'=>e=.returned (.tuple #[])/\Mir w' b life (takeT T x)/\Chg b w w':=by
 obtain⟨sl,c⟩:=x
 have h:=okS_iff.1 hx
 simp only at h
 obtain⟨k,rfl⟩:∃k:Nat,sl=k:=⟨sl.toNat,by omega⟩
 exact take_nat b life T k c w M (by omega)
structure Se2 (w:World) (s:Nat->Addr):Prop where
 c1:w.cell? (0,0)=some (.iface 312 (.pointer (some (s 1))))
 c9:w.cell? (9,0)=some (.iface 312 (.pointer (some (s 9))))
theorem Se2.below {w w':World} {s:Nat->Addr} (S:Se2 w s) (hb:Below w w w'):Se2 w' s:=⟨tk hb S.c1,tk hb S.c9⟩
theorem Se2.chg {w w':World} {s:Nat->Addr} {b:Nat} (S:Se2 w s) (hb:Chg b w w') (h1 : 0≠b) (h2 : 9≠b):Se2 w' s:=⟨hb.keeps h1 S.c1,hb.keeps h2 S.c9⟩
theorem takeL_take (T:Tb) (l:List Tc) (j:Nat) (x:Tc) (h:l[j]? = some x):takeL T (l.take (j+1))=takeT (takeL T (l.take j)) x:=by
 unfold takeL
 rw[List.take_add_one,h]
 simp
theorem tell_bad (b:Nat) (life:Int) (l:List Tc) (p:Option Addr) (cap:Nat) (s:Nat->Addr) (w:World) (S:Se2 w s) (R:TcR w p l) (hl:l.length<=100000)
  (hE:life < 1\/8 < l.length\/(l.any fun x=>!okS x)=true) :
  Calls Tryz.prog 179 #[.pointer (some (b,0)),life,.slice p l.length cap] w fun e w'=>e=.returned (terr s 2)/\Below w w w':=by
 have HR:Hid (TcR w p l):=R
 have HE:Hid (life < 1\/8 < l.length\/(l.any fun x=>!okS x)=true):=hE
 have HS:Hid (Se2 w s):=S
 have s1:=S.c1
 clear R S hE
 go_enter Tryz.func179,Tryz.ntmps179
 by_cases h1:life < 1
 ·go_wp2_with fail
  go_ret
  exact⟨rfl,Below.refl _ _⟩
 by_cases h2:8 < l.length
 ·have h2':(8:Int) < (l.length:Int):=by omega
  go_wp2_with fail
  go_ret
  exact⟨rfl,Below.refl _ _⟩
 have h2':¬(8:Int) < (l.length:Int):=by omega
 go_wp2_with fail
 refine(mcontains_any p cap l _ HR hl).mono ?_
 have h3:(l.any fun x=>!okS x)=true:=by
  rcases HE.out with h | h | h
  ·omega
  ·omega
  ·exact h
 rw[h3]
 rintro e w1 ⟨rfl,hb1⟩
 have B1:Hid (Below w w w1):=hb1
 have s1:=(HS.below hb1).c1
 clear hb1 h3
 go_wp2_with fail
 go_ret
 exact⟨rfl,B1⟩
theorem tell_old (b:Nat) (life old:Int) (T:Tb) (l:List Tc) (p:Option Addr) (cap:Nat) (s:Nat->Addr) (w:World) (S:Se2 w s) (M:Mir w b old T) (R:TcR w p l)
  (h1:¬life < 1) (h2:¬8 < l.length) (h3:(l.any fun x=>!okS x)=false) (h4:life < old) :
  Calls Tryz.prog 179 #[.pointer (some (b,0)),life,.slice p l.length cap] w fun e w'=>e=.returned (terr s 10)/\Below w w w':=by
 have HR:Hid (TcR w p l):=R
 have HS:Hid (Se2 w s):=S
 have HM:Hid (Mir w b old T):=M
 have H3:Hid ((l.any fun x=>!okS x)=false):=h3
 have hl:l.length<=100000:=by omega
 clear R S M h3
 have h2':¬(8:Int) < (l.length:Int):=by omega
 go_enter Tryz.func179,Tryz.ntmps179
 go_wp2_with fail
 refine(mcontains_any p cap l _ HR hl).mono ?_
 rw[H3.out]
 rintro e w1 ⟨rfl,hb1⟩
 have B1:Hid (Below w w w1):=hb1
 have s9:=(HS.below hb1).c9
 have m0:=(HM.below hb1).life
 clear hb1
 go_wp2_with fail
 go_ret
 exact⟨rfl,B1⟩
theorem tell_ok (b:Nat) (life old:Int) (T:Tb) (l:List Tc) (p:Option Addr) (cap:Nat) (w:World) (M:Mir w b old T) (R:TcR w p l) (hp:∀g o,p=some ⟨g,o,none⟩->g≠b)
  (h1:¬life < 1) (h2:¬8 < l.length) (h3:(l.any fun x=>!okS x)=false) (h4:¬life < old) :
  Calls Tryz.prog 179 #[.pointer (some ⟨b,0,none⟩),.int .i64 life,.slice p l.length cap] w fun e w'=>e=.returned .nilIface/\Mir w' b life (takeL (if old < life then newT else T) l)/\Chg b w w':=by
 have HR:Hid (TcR w p l):=R
 have HM:Hid (Mir w b old T):=M
 have H3:Hid ((l.any fun x=>!okS x)=false):=h3
 have HP:Hid (∀g o,p=some ⟨g,o,none⟩->g≠b):=hp
 have hl:l.length<=100000:=by omega
 clear R M h3 hp
 obtain⟨U,hU⟩:∃U,U=if old < life then newT else T:=⟨_,rfl⟩
 have HU:Hid (U=if old < life then newT else T):=hU
 rw[<- hU]
 clear hU
 have h2':¬(8:Int) < (l.length:Int):=by omega
 go_enter Tryz.func179,Tryz.ntmps179
 go_wp2_with fail
 refine(mcontains_any p cap l _ HR.out hl).mono ?_
 rw[H3.out]
 rintro e w1 ⟨rfl,hb1⟩
 have B1:Hid (Below w.heap.size w w1):=hb1
 have M1:Hid (Mir w1 b old T):=HM.out.below hb1
 have m0:=M1.out.life
 clear hb1
 go_upto_if 33 with fail
 go_cut [34,35,36,37,38,39,40,41] (fun _ _ _ _ _ _ _ _ wx=>Mir wx b life U/\Chg b w wx)
 case first =>
  by_cases h5:old < life
  ·have HN:Hid (U=newT):=by show _=_;rw[HU.out,if_pos h5]
   go_wp2_with fail
   refine(blank_any _).mono ?_
   rintro e w2 ⟨rfl,hb2⟩
   have M2:Hid (Mir w2 b old T):=M1.out.below hb2
   have B2:Hid (Below w.heap.size w w2):=t2 B1.out hb2
   clear hb2 m0
   have m0:=M2.out.life
   have fz:=M2.out.fr 0
   have hst:=mir_store (w:=w2.setCell ⟨b,0,none⟩ (.int .i64 life)) (b:=b) (life:=life) newT (M2.out.putLife life) (tabArr_low _ _) (tabArr_size _ _)
   go_wp2_with (refine wpList_store_at rfl 232 _ _ rfl _ _ _ rfl rfl hst ?_)
   go_meet
   case rel =>
    refine⟨?_,(((Chg.of B2.out).trans (Chg.set b 0 _ _)).trans (chg_setRow _ _ _))⟩
    rw[HN.out]
    exact setRow_mir newT (M2.out.putLife life)
  ·have HN:Hid (U=T):=by show _=_;rw[HU.out,if_neg h5]
   have HL:Hid (old=life):=by show _=_;omega
   go_wp2_with fail
   go_meet
   case rel =>
    refine⟨?_,Chg.of B1.out⟩
    rw[HN.out,<- HL.out]
    exact M1.out
 case rest =>
  obtain⟨hm,hc⟩:=hcut
  have M2:Hid (Mir wc b life U):=hm
  have C2:Hid (Chg b w wc):=hc
  clear hm hc m0
  go_wp2_with fail
  go_loopw [8,44] (fun _ t wr=>∃j:Nat,j<=l.length/\t=.int .i64 j/\Mir wr b life (takeL U (l.take j))/\Chg b w wr) (fun _ t _=>l.length - (intOf t).toNat)
  case atStart=>exact⟨0,Nat.zero_le _,rfl,M2.out,C2.out⟩
  case round =>
   obtain⟨j,hj,rfl,hm,hc⟩:=hrel
   have M3:Hid (Mir wr b life (takeL U (l.take j))):=hm
   have C3:Hid (Chg b w wr):=hc
   clear hm hc
   by_cases hlt:j < l.length
   ·have hr:l[j]? = some l[j]:=List.getElem?_eq_getElem hlt
    obtain⟨y,hy⟩:∃y,y=l[j]:=⟨_,rfl⟩
    rw[<- hy]at hr
    have HY:Hid (l[j]? = some y):=hr
    have HK:Hid (okS y=true):=by
     show _=_
     have h:=List.any_eq_false.1 H3.out y (List.mem_of_getElem? hr)
     cases hd:okS y
     ·rw[hd]at h;simp at h
     ·rfl
    clear hy
    obtain⟨g,o,rfl,hc⟩:=HR.out j y hr
    have hc:=hc.chg C3.out (HP.out g o rfl)
    have c0:=hc.c0
    have c1:=hc.c1
    have c2:=hc.c2
    have c3:=hc.c3
    have c4:=hc.c4
    have c5:=hc.c5
    have c6:=hc.c6
    have c7:=hc.c7
    have c8:=hc.c8
    have c9:=hc.c9
    clear hr hc
    go_wp2_with fail
    refine(take_any b life _ y _ (M3.out.below (aB _ _)) HK.out).mono ?_
    rintro e w4 ⟨rfl,hm4,hc4⟩
    have M4:Hid (Mir w4 b life (takeL U (l.take (j+1)))):=by
     show Mir _ _ _ _
     rw[takeL_take U l j y HY.out]
     exact hm4
    have C4:Hid (Chg b w w4):=(C3.out.then (aB _ _)).trans hc4
    clear hm4 hc4 c0 c1 c2 c3 c4 c5 c6 c7 c8 c9
    go_wp2_with fail
    go_roundw
    case rel=>exact⟨j+1,by omega,by go_num,M4.out,C4.out⟩
    case measure=>simp[intOf];omega
   ·obtain rfl:j=l.length:=by omega
    go_wp2_with fail
    go_ret
    refine⟨rfl,?_,C3.out⟩
    have:=M3.out
    rw[List.take_length]at this
    exact this
theorem tell_any (b:Nat) (life old:Int) (T:Tb) (l:List Tc) (p:Option Addr) (cap:Nat) (s:Nat->Addr) (w:World) (S:Se2 w s) (M:Mir w b old T) (R:TcR w p l) (hp:∀g o,p=some ⟨g,o,none⟩->g≠b) (hl:l.length<=100000) :
  Calls Tryz.prog 179 #[.pointer (some (b,0)),life,.slice p l.length cap] w fun e w'=>e=.returned (terr s (tellE old life l))/\Mir w' b (tellLife old life l) (tellT old life T l)/\Chg b w w':=by
 by_cases h1:life < 1\/8 < l.length\/(l.any fun x=>!okS x)=true
 ·have hE:tellE old life l=2:=by unfold tellE;rw[if_pos h1]
  refine(tell_bad b life l p cap s w S R hl h1).mono ?_
  rintro e w' ⟨rfl,hb⟩
  unfold tellLife tellT
  rw[hE]
  exact⟨rfl,M.below hb,Chg.of hb⟩
 ·have a1:¬life < 1:=fun h=>h1 (.inl h)
  have a2:¬8 < l.length:=fun h=>h1 (.inr (.inl h))
  have a3:(l.any fun x=>!okS x)=false:=by
   cases h:l.any fun x=>!okS x
   ·rfl
   ·exact(h1 (.inr (.inr h))).elim
  by_cases h4:life < old
  ·have hE:tellE old life l=10:=by unfold tellE;rw[if_neg h1,if_pos h4]
   refine(tell_old b life old T l p cap s w S M R a1 a2 a3 h4).mono ?_
   rintro e w' ⟨rfl,hb⟩
   unfold tellLife tellT
   rw[hE]
   exact⟨rfl,M.below hb,Chg.of hb⟩
  ·have hE:tellE old life l=0:=by unfold tellE;rw[if_neg h1,if_neg h4]
   refine(tell_ok b life old T l p cap w M R hp a1 a2 a3 h4).mono ?_
   rintro e w' ⟨rfl,hm,hc⟩
   unfold tellLife tellT
   rw[hE]
   exact⟨rfl,hm,hc⟩
section
variable {w w0:World} {s:Nat->Addr} {k:Bk} {m n Q:Nat} {cv:Value}
structure Nf where
 fr:Int
 li:Int
 ep:Int
 cl:Bool
 cs:List Tc
def OkT (l:List Tc):Prop:=∀x ∈ l,In6 x.c.pr/\In6 x.c.st
theorem WfT.take {T:Tb} (h:WfT T) {x:Tc} (hx:In6 x.c.pr/\In6 x.c.st):WfT (takeT T x):=by
 unfold takeT
 split
 ·exact h.upd _ _ hx.1 hx.2
 ·exact h
theorem WfT.takes:∀(l:List Tc) {T:Tb},WfT T->OkT l->WfT (takeL T l)
 | [],_,h,_=>h
 | x::l,_,h,hl=>WfT.takes l (h.take (hl x (by simp))) (fun y hy=>hl y (by simp[hy]))
theorem WfT.tell {T:Tb} (h:WfT T) (old life:Int) {l:List Tc} (hl:OkT l):WfT (tellT old life T l):=by
 unfold tellT
 split
 ·split
  ·exact WfT.takes l WfT.new hl
  ·exact WfT.takes l h hl
 ·exact h
def No.heE (x:No) (t:Nf):Nat:=if t.fr=1 - x.id/\0<=t.ep/\t.ep<=1073741824 then (if t.cl then 3 else tellE x.ml t.li t.cs) else 2
def No.hrd (x:No) (t:Nf):No:=if x.heE t=0 then {x with ml:=tellLife x.ml t.li t.cs,mt:=tellT x.ml t.li x.mt t.cs,ro:=x.ro.hear t.ep} else x
theorem SeM.s2 (S:SeM w s):Se2 w s:=⟨S.c1,S.c9⟩
theorem mtell_nd {x:No} (S:SeM w0 s) (h:Nd w0 w k x m n) (li:Int) (l:List Tc) (p:Option Addr) (cap:Nat) (R:TcR w p l) (hp:∀g o,p=some ⟨g,o,none⟩->g≠k.mi) (hl:l.length<=100000) (ho:OkT l) :
  Calls Tryz.prog 179 #[.pointer (some (k.mi,0)),li,.slice p l.length cap] w fun e w'=>e=.returned (terr s (tellE x.ml li l))/\Nd w0 w' k {x with ml:=tellLife x.ml li l,mt:=tellT x.ml li x.mt l} m n/\ChgL k.all w w':=by
 refine(tell_any k.mi li x.ml x.mt l p cap s w (S.below h.bl).s2 h.mi R hp hl).mono ?_
 rintro e w' ⟨rfl,t,c⟩
 exact⟨rfl,h.onMi t (h.wm.tell _ _ ho) c,ChgL.one c k.m_mi⟩
theorem rhear_nd {x:No} (h:Nd w0 w k x m n) (e:Int) :
  Calls Tryz.prog 180 #[.pointer (some (k.ro,0)),e] w fun r w'=>(∃v,r=.returned v)/\Nd w0 w' k {x with ro:=x.ro.hear e} m n/\ChgL k.all w w':=by
 refine(hear_any k.ro x.ro e w h.ro).mono ?_
 rintro r w' ⟨rfl,t,c⟩
 exact⟨⟨_,rfl⟩,h.onRo t (h.rk.hear _) c,ChgL.one c k.m_ro⟩
def NfZ (w:World) (Q:Nat) (t:Nf) (cv:Value):Prop:=w.heap[Q]? = some (.cells #[t.fr,t.li,t.ep,.bool t.cl,cv] 175 (0,0))
theorem NfZ.lt {t:Nf} (h:NfZ w Q t cv):Q < w.heap.size:=by
 rcases Nat.lt_or_ge Q w with a | a
 ·exact a
 ·unfold NfZ at h;rw[Array.getElem?_eq_none a]at h;cases h
theorem NfZ.below {w':World} {t:Nf} (h:NfZ w Q t cv) (hb:Below w w w'):NfZ w' Q t cv:=by unfold NfZ;rw[hb.block Q h.lt];exact h
theorem NfZ.chgL {w':World} {t:Nf} {l:List Nat} (h:NfZ w Q t cv) (hb:ChgL l w w') (hn:¬Q ∈ l):NfZ w' Q t cv:=by unfold NfZ;rw[hb.block Q h.lt hn];exact h
theorem NfZ.c {t:Nf} (h:NfZ w Q t cv) (i:Nat):w.cell? (Q,i)=(#[t.fr,t.li,t.ep,.bool t.cl,cv]:Array Value)[i]? := cell_of_row w _ _ _ _ _ h
theorem NfZ.new (w:World) (t:Nf) (cv:Value):NfZ (w.alloc (.cells #[t.fr,t.li,t.ep,.bool t.cl,cv] 175)) w t cv:=heap_alloc_new w _
structure NfB (w:World) (Q:Nat) (t:Nf) (cv:Value):Prop where
 c0:w.cell? (Q,0)=t.fr
 c1:w.cell? (Q,1)=t.li
 c2:w.cell? (Q,2)=t.ep
 c3:w.cell? (Q,3)=some (.bool t.cl)
 c4:w.cell? (Q,4)=some cv
theorem NfZ.b {t:Nf} (h:NfZ w Q t cv):NfB w Q t cv:=⟨h.c 0,h.c 1,h.c 2,h.c 3,h.c 4⟩
theorem hear_nd {x:No} (S:SeM w0 s) (h:Nd w0 w k x m n) (t:Nf) (p:Option Addr) (cap:Nat) (R:TcR w p t.cs) (hp:∀g o,p=some ⟨g,o,none⟩->g≠k.mi) (hl:t.cs.length<=100000) (ho:OkT t.cs) :
  Calls Tryz.prog 146 #[.pointer (some (k.nd,0)),.agg #[t.fr,t.li,t.ep,.bool t.cl,.slice p t.cs.length cap]] w fun e w'=>e=.returned (terr s (x.heE t))/\Nd w0 w' k (x.hrd t) m n/\ChgL k.all w w':=by
 have HS:Hid (SeM w0 s):=S
 have HN:Hid (Nd w0 w k x m n):=h
 have HR:Hid (TcR w p t.cs):=R
 have HP:Hid ((∀g o,p=some ⟨g,o,none⟩->g≠k.mi)/\t.cs.length<=100000/\OkT t.cs):=⟨hp,hl,ho⟩
 have hid:=h.id
 have hw:IntKind.i64.wrap (1 - x.id)=1 - x.id:=by rw[IntKind.wrap_i64];omega
 clear S h R hp hl ho hid
 go_enter Tryz.func146,Tryz.ntmps146
 go_upto_region 1 with fail
 have B1:Hid (Below w w (w.alloc (.cells #[t.fr,t.li,t.ep,.bool t.cl,.slice p t.cs.length cap] 175))):=aB _ _
 have Z1:Hid (NfZ (w.alloc (.cells #[t.fr,t.li,t.ep,.bool t.cl,.slice p t.cs.length cap] 175)) w t (.slice p t.cs.length cap)):=NfZ.new w t _
 generalize w.alloc (.cells #[t.fr,t.li,t.ep,.bool t.cl,.slice p t.cs.length cap] 175)=w1 at *
 have LQ:Hid (w.heap.size<=w.heap.size):=Nat.le_refl _
 generalize hQe:w.heap.size=Q at Z1 LQ ⊢
 have HNQ:Hid (¬Q ∈ k.all):=fun hm=>by have:=HN.lt _ hm;omega
 have N1:Hid (Nd w0 w1 k x m n):=HN.below B1
 have S1:Hid (SeM w1 s):=HS.below N1.bl
 clear hQe LQ
 obtain⟨z0,z1,z2,z3,z4⟩:=Z1.b
 have n1:=N1.c1
 by_cases h0:t.fr=1 - x.id/\0<=t.ep/\t.ep<=1073741824
 ·obtain⟨e0,e1,e2⟩:=h0
  have HB:Hid (t.fr=1 - x.id/\0<=t.ep/\t.ep<=1073741824):=⟨e0,e1,e2⟩
  have b0:(t.fr != 1 - x.id)=false:=by rw[e0];simp
  have b1:¬t.ep < 0:=by omega
  have b2:¬1073741824 < t.ep:=by omega
  clear e0 e1 e2
  go_quiet (fail)
  have D2:Hid (Below w1 w1 (w1.drewN nq)):=⟨rfl,rfl,rfl,Nat.le_refl _,fun _ _=>rfl⟩
  generalize w1.drewN nq=w2 at *
  have B2:Hid (Below w w w2):=t2 B1 D2
  have Z2:Hid (NfZ w2 Q t (.slice p t.cs.length cap)):=Z1.below D2
  have N2:Hid (Nd w0 w2 k x m n):=HN.below B2
  have S2:Hid (SeM w2 s):=HS.below N2.bl
  have R2:Hid (TcR w2 p t.cs):=HR.below B2
  clear z0 z1 z2 z3 z4 n1 D2 B1 Z1 N1 S1 b0 b1 b2 hw
  obtain⟨z0,z1,z2,z3,z4⟩:=Z2.b
  cases hcl:t.cl
  ·have HE:Hid (x.heE t=tellE x.ml t.li t.cs):=by show _=_;unfold No.heE;rw[if_pos HB.out,hcl];rfl
   rw[hcl]at z3
   clear hcl
   have n7:=N2.c7
   go_upto_region 5 with fail
   go_wp2_with fail
   have HTL:Hid (∀u,Below w2 w2 u->Calls Tryz.prog 179 #[.pointer (some (k.mi,0)),t.li,.slice p t.cs.length cap] u fun e w'=>e=.returned (terr s (tellE x.ml t.li t.cs))/\Nd w0 w' k {x with ml:=tellLife x.ml t.li t.cs,mt:=tellT x.ml t.li x.mt t.cs} m n/\ChgL k.all u w'):=fun u hu=>mtell_nd HS (N2.below hu) t.li t.cs p cap (R2.below hu) HP.1 HP.2.1 HP.2.2
   have hS:w2.drew.cell? (k.nd,7)=some (.pointer (some (k.mi,0)))/\w2.drew.cell? (Q,1)=t.li/\w2.drew.cell? (Q,4)=some (.slice p t.cs.length cap):=⟨n7,z1,z4⟩
   clear z0 z1 z2 z3 z4 n7
   go_region_held3 (fun w'=>w'.cell? (k.nd,7)=some (.pointer (some (k.mi,0)))/\w'.cell? (Q,1)=t.li/\w'.cell? (Q,4)=some (.slice p t.cs.length cap))
    (first | assumption | exact⟨N3.c7,K3.keeps HNQ hS.2.1,K3.keeps HNQ hS.2.2⟩)
    (first | (go_at_call 179;refine(HTL _ (Below.refl _ _).drew).mono ?_;rintro e w3 ⟨rfl,n3,k3⟩;have N3:Hid (Nd w0 w3 k {x with ml:=tellLife x.ml t.li t.cs,mt:=tellT x.ml t.li x.mt t.cs} m n):=n3;have K3:Hid (ChgL k.all w2.drew w3):=k3;clear n3 k3))
   have Z3:Hid (NfZ w3 Q t (.slice p t.cs.length cap)):=(Z2.below (Below.refl _ _).drew).chgL K3 HNQ
   have X3:Hid (ChgL k.all w w3):=(ChgL.of (t2 B2 (Below.refl _ _).drew)).trans K3
   clear hS K3 Z2 N2 S2 B2 R2 HTL
   by_cases hz:tellE x.ml t.li t.cs=0
   ·have HE0:Hid (x.heE t=0):=by show _=_;rw[HE.out,hz]
    have HX:Hid (x.hrd t={x with ml:=tellLife x.ml t.li t.cs,mt:=tellT x.ml t.li x.mt t.cs,ro:=x.ro.hear t.ep}):=by show _=_;unfold No.hrd;rw[if_pos HE0.out]
    rw[hz]
    clear hz
    simp only[terr]
    go_upto_region 8 with fail
    go_wp2_with fail
    have HRH:Hid (∀u,Below w3 w3 u->Calls Tryz.prog 180 #[.pointer (some (k.ro,0)),t.ep] u fun r w'=>(∃v,r=.returned v)/\Nd w0 w' k {x with ml:=tellLife x.ml t.li t.cs,mt:=tellT x.ml t.li x.mt t.cs,ro:=x.ro.hear t.ep} m n/\ChgL k.all u w'):=fun u hu=>rhear_nd (N3.below hu) t.ep
    have hS:w3.drew.cell? (k.nd,0)=some (.pointer (some (k.ro,0)))/\w3.drew.cell? (Q,2)=t.ep:=⟨N3.c0,Z3.b.c2⟩
    go_region_held3 (fun w'=>w'.cell? (k.nd,0)=some (.pointer (some (k.ro,0)))/\w'.cell? (Q,2)=t.ep)
     (first | assumption | exact⟨N4.c0,K4.keeps HNQ hS.2⟩)
     (first | (go_at_call 180;refine(HRH _ (Below.refl _ _).drew).mono ?_;rintro e w4 ⟨⟨v4,rfl⟩,n4,k4⟩;have N4:Hid (Nd w0 w4 k {x with ml:=tellLife x.ml t.li t.cs,mt:=tellT x.ml t.li x.mt t.cs,ro:=x.ro.hear t.ep} m n):=n4;have K4:Hid (ChgL k.all w3.drew w4):=k4;clear n4 k4))
    have X4:Hid (ChgL k.all w w4):=(X3.trans (ChgL.of (Below.refl _ _).drew)).trans K4
    clear hS K4 X3 HRH
    go_wp2_with fail
    go_ret
    exact⟨by rw[HE0.out];rfl,by rw[HX.out];exact N4,X4⟩
   ·obtain⟨e1,he1⟩:∃e1,tellE x.ml t.li t.cs=e1+1:=⟨tellE x.ml t.li t.cs - 1,by omega⟩
    have HX:Hid (x.hrd t={x with ml:=tellLife x.ml t.li t.cs,mt:=tellT x.ml t.li x.mt t.cs}):=by
     show _=_
     unfold No.hrd tellLife tellT
     rw[if_neg (by rw[HE.out];exact hz),if_neg hz,if_neg hz]
    rw[he1]at HE ⊢
    clear hz he1
    simp only[terr]
    go_wp2_with fail
    go_ret
    exact⟨by rw[HE.out];rfl,by rw[HX.out];exact N3,X3⟩
  ·have HE:Hid (x.heE t=3):=by show _=_;unfold No.heE;rw[if_pos HB.out,hcl];rfl
   have HX:Hid (x.hrd t=x):=by show _=_;unfold No.hrd;rw[if_neg (by rw[HE.out];decide)]
   rw[hcl]at z3
   clear hcl
   have s2:=S2.c2
   go_wp2_with fail
   go_ret
   exact⟨by rw[HE.out];rfl,by rw[HX.out];exact N2,ChgL.of B2.out⟩
 ·have HE:Hid (x.heE t=2):=by show _=_;unfold No.heE;rw[if_neg h0]
  have HX:Hid (x.hrd t=x):=by show _=_;unfold No.hrd;rw[if_neg (by rw[HE.out];decide)]
  have s1:=S1.c1
  have F1:Hid (∀q,Nd w0 (w1.drewN q) k x m n/\ChgL k.all w (w1.drewN q)):=fun q=>⟨N1.below ⟨rfl,rfl,rfl,Nat.le_refl _,fun _ _=>rfl⟩,ChgL.of (t2 B1 ⟨rfl,rfl,rfl,Nat.le_refl _,fun _ _=>rfl⟩)⟩
  by_cases e0:t.fr=1 - x.id
  ·have b0:(t.fr != 1 - x.id)=false:=by rw[e0];simp
   have HQ:Hid (t.ep < 0\/1073741824 < t.ep):=(by omega:t.ep < 0\/1073741824 < t.ep)
   clear e0 h0
   by_cases b1:t.ep < 0
   ·go_quiet (fail)
    go_wp2_with fail
    go_ret
    exact⟨by rw[HE.out];rfl,by rw[HX.out];exact(F1 _).1,(F1 _).2⟩
   ·have b2:1073741824 < t.ep:=by have:=HQ.out;omega
    go_quiet (fail)
    go_wp2_with fail
    go_ret
    exact⟨by rw[HE.out];rfl,by rw[HX.out];exact(F1 _).1,(F1 _).2⟩
  ·have b0:(t.fr != 1 - x.id)=true:=by simp[e0]
   clear e0 h0
   go_quiet (fail)
   go_wp2_with fail
   go_ret
   exact⟨by rw[HE.out];rfl,by rw[HX.out];exact(F1 _).1,(F1 _).2⟩
end
section
variable {w:World} {l:List Rl} {v:Value}
def rlC (r:Rl):List Value:=[.bool r.al,.bool r.ou,r.pr,r.lo,r.tp]
def cellsL (l:List Rl):List Value:=l.flatMap rlC
theorem cellsL_cons (r:Rl) (l:List Rl):cellsL (r::l)=.bool r.al::.bool r.ou::.int .i64 r.pr::.int .i64 r.lo::.int .i64 r.tp::cellsL l:=rfl
theorem cellsL_len:∀l:List Rl,(cellsL l).length=l.length * 5
 | []=>rfl
 | r::l=>by rw[cellsL_cons];simp only[List.length_cons,cellsL_len l];omega
theorem cellsL_append (a b:List Rl):cellsL (a++b)=cellsL a++cellsL b:=by simp[cellsL]
theorem cellsL_get:∀(l:List Rl) (i k:Nat),k < 5->(cellsL l)[i * 5+k]? = (l[i]?).bind fun r=>(rlC r)[k]?
 | [],i,k,_=>by simp[cellsL]
 | r::l,0,k,h=>by
  rw[cellsL_cons]
  match k,h with
  | 0,_ | 1,_ | 2,_ | 3,_ | 4,_=>rfl
 | r::l,i+1,k,h=>by
  have e:(i+1) * 5+k=(i * 5+k)+1+1+1+1+1:=by omega
  rw[cellsL_cons,e,List.getElem?_cons_succ,List.getElem?_cons_succ,List.getElem?_cons_succ,List.getElem?_cons_succ,List.getElem?_cons_succ,List.getElem?_cons_succ]
  exact cellsL_get l i k h
theorem cellsL_one (l:List Rl) (u:Value) (h:u ∈ cellsL l):u.oneCell'=true:=by
 obtain⟨r,_,hr⟩:=List.mem_flatMap.1 h
 simp only[rlC,List.mem_cons,List.not_mem_nil,or_false]at hr
 rcases hr with rfl | rfl | rfl | rfl | rfl <;> rfl
theorem addr_add (b o j:Nat):Addr.add (b,o) j=(b,o+j):=by
 unfold Addr.add
 by_cases h:j=0
 ·subst h;rfl
 ·rw[if_neg h]
theorem Rul.at {ad:Addr} (R:Rul w (some ad) l) (j:Nat) (u:Value) (h:(cellsL l)[j]? = some u):w.cell? (ad.add j)=some u:=by
 have e:j=j / 5 * 5+j % 5:=by omega
 have hk:j % 5 < 5:=Nat.mod_lt _ (by omega)
 rw[e,cellsL_get l _ _ hk]at h
 obtain⟨r,hr,hu⟩:=Option.bind_eq_some_iff.1 h
 obtain⟨b,o,e1,h0,h1,h2,h3,h4⟩:=R _ _ hr
 obtain rfl:=Option.some.inj e1
 rw[addr_add]
 generalize hi:j / 5=i at *
 generalize hm:j % 5=k at *
 subst e
 match k,hk with
 | 0,_=>exact(show w.cell? (b,o+i * 5)=some u from h0.trans hu)
 | 1,_=>rw[<- Nat.add_assoc];exact h1.trans hu
 | 2,_=>rw[<- Nat.add_assoc];exact h2.trans hu
 | 3,_=>rw[<- Nat.add_assoc];exact h3.trans hu
 | 4,_=>rw[<- Nat.add_assoc];exact h4.trans hu
def Sl (w:World) (v:Value) (l:List Rl):Prop:=(v=.slice none 0 0/\l=[])\/∃a cap,v=.slice (some a) l.length cap/\l.length<=cap/\cap<=maxLen/\Rul w (some a) l
theorem Sl.open (h:Sl w v l):∃p cap,v=.slice p l.length cap/\Rul w p l:=by
 rcases h with⟨rfl,rfl⟩ | ⟨a,cap,h1,_,_,h2⟩
 ·exact⟨none,0,rfl,fun i r h=>by simp at h⟩
 ·exact⟨_,_,h1,h2⟩
theorem Sl.room {p:Option Addr} {n cap:Nat} (h:Sl w (.slice p n cap) l):l.length<=cap/\cap<=maxLen:=by
 rcases h with⟨h1,rfl⟩ | ⟨a,cap',h1,h2,h3,_⟩
 ·obtain⟨_,_,rfl⟩:=Value.slice.inj h1
  exact⟨Nat.le_refl _,Nat.zero_le _⟩
 ·obtain⟨_,_,rfl⟩:=Value.slice.inj h1
  exact⟨h2,h3⟩
theorem Sl.keep {w':World} (h:Sl w v l) (hk:∀a v,w.cell? a=some v->w'.cell? a=some v):Sl w' v l:=by
 rcases h with h | ⟨a,cap,h1,m1,m2,h2⟩
 ·exact .inl h
 ·exact .inr ⟨a,cap,h1,m1,m2,h2.keep hk⟩
theorem Sl.below {w':World} (h:Sl w v l) (hb:Below w w w'):Sl w' v l:=h.keep fun _ _ hc=>Below.keeps hb hc
theorem Sl.of_own {base:Nat} {n:Nat} (h:w.ownsRow base 55 5 v n (cellsL l)):Sl w v l/\n=l.length:=by
 obtain⟨hlen,h⟩:=h
 rw[cellsL_len]at hlen
 have hn:n=l.length:=by omega
 subst hn
 refine⟨?_,rfl⟩
 rcases h with⟨h1,h2⟩ | ⟨g,cap,cur,h1,h2,h3,h4,h5,h6,h7⟩
 ·exact .inl ⟨h1,List.length_eq_zero_iff.1 h2⟩
 ·refine .inr ⟨_,cap,h1,h4,h5,fun i r hr=>⟨g,0,rfl,?_⟩⟩
  have key:∀k u,k < 5->(rlC r)[k]? = some u->w.cell? ⟨g,0+i * 5+k,none⟩=some u:=fun k u hk hu=>by
   have h8:(cellsL l)[i * 5+k]? = some u:=by rw[cellsL_get l i k hk,hr];exact hu
   rw[<- h7,List.getElem?_take]at h8
   split at h8
   ·have h9:cur[i * 5+k]? = some u:=by simpa using h8
    simp[World.cell?,h3,h9]
   ·cases h8
  exact⟨key 0 _ (by omega) rfl,key 1 _ (by omega) rfl,key 2 _ (by omega) rfl,key 3 _ (by omega) rfl,key 4 _ (by omega) rfl⟩
theorem Tryz.infoRl:(Tryz.prog.info? 55).map (fun i=>(i.zero,i.size,i.bytes))=some (some (.agg #[.bool false,.bool false,.int .i64 0,.int .i64 0,.int .i64 0]),5,32):=by kernel_rfl
end
def newArr (low:Int) (n:Nat):Array Value:=((List.range 321).map fun j=>if j=0 then .int .i64 low else .int .i64 (if (j - 1) % 10=0/\(j - 1) / 10 < n then (((j - 1) / 10:Nat):Int) else 0)).toArray
theorem newArr_size (low:Int) (n:Nat):(newArr low n).size=321:=by simp[newArr]
theorem newArr_at (low:Int) (n j:Nat) (h:j < 321):(newArr low n)[j]? = some (if j=0 then .int .i64 low else .int .i64 (if (j - 1) % 10=0/\(j - 1) / 10 < n then (((j - 1) / 10:Nat):Int) else 0)):=by
 simp only[newArr,List.getElem?_toArray,List.getElem?_map,List.getElem?_range h,Option.map_some]
theorem zero_eq : Tryz.zeroCells234=Array.replicate 321 (.int .i64 0):=by kernel_rfl
theorem newArr_zero (low:Int) : Tryz.zeroCells234.setIfInBounds 0 low=newArr low 0:=by
 rw[zero_eq]
 apply Array.ext_getElem?
 intro j
 rw[Array.getElem?_setIfInBounds,Array.size_replicate]
 by_cases hj:j < 321
 ·rw[newArr_at low 0 j hj]
  by_cases h0:j=0
  ·subst h0;rfl
  ·rw[if_neg (by omega),if_neg h0,if_neg (by omega),Array.getElem?_replicate,if_pos hj]
 ·rw[if_neg (by omega),Array.getElem?_eq_none (by rw[Array.size_replicate];omega),Array.getElem?_eq_none (by rw[newArr_size];omega)]
theorem newArr_next (low:Int) (n:Nat) (hn:n < 32):(newArr low n).setIfInBounds (1+n * 10) n=newArr low (n+1):=by
 apply Array.ext_getElem?
 intro j
 rw[Array.getElem?_setIfInBounds,newArr_size]
 by_cases hj:j < 321
 ·rw[newArr_at low n j hj,newArr_at low (n+1) j hj]
  by_cases he:1+n * 10=j
  ·subst he
   rw[if_pos rfl,if_pos (by omega),if_neg (by omega),if_pos (by omega)]
   congr 3
   omega
  ·rw[if_neg he]
   by_cases h0:j=0
   ·rw[if_pos h0,if_pos h0]
   ·rw[if_neg h0,if_neg h0]
    by_cases hc:(j - 1) % 10=0/\(j - 1) / 10 < n
    ·rw[if_pos hc,if_pos (by omega)]
    ·rw[if_neg hc,if_neg (by omega)]
 ·rw[if_neg (by omega),Array.getElem?_eq_none (by rw[newArr_size];omega),Array.getElem?_eq_none (by rw[newArr_size];omega)]
theorem newArr_all (low:Int):newArr low 32=tabArr low newT:=by
 apply Array.ext_getElem?
 intro j
 by_cases hj:j < 321
 ·rw[newArr_at low 32 j hj]
  by_cases h0:j=0
  ·subst h0;rw[tabArr_low];rfl
  ·have a:=tabArr_at low newT ((j - 1) / 10) ((j - 1) % 10) (by omega) (by omega)
   rw[show 1+(j - 1) / 10 * 10+(j - 1) % 10=j from by omega]at a
   rw[a,if_neg h0]
   congr 2
   have hl:(j - 1) % 10=0\/(j - 1) % 10=1\/(j - 1) % 10=2\/(j - 1) % 10=3\/(j - 1) % 10=4\/(j - 1) % 10=5\/(j - 1) % 10=6\/(j - 1) % 10=7\/(j - 1) % 10=8\/(j - 1) % 10=9:=by omega
   rcases hl with e | e | e | e | e | e | e | e | e | e <;> rw[e]
   ·rw[if_pos ⟨rfl,by omega⟩];rfl
   all_goals (rw[if_neg (by omega)];rfl)
 ·rw[Array.getElem?_eq_none (by rw[newArr_size];omega),Array.getElem?_eq_none (by rw[tabArr_size];omega)]
def NewB (w:World) (b:Nat) (low:Int) (n:Nat):Prop:=w.heap[b]? = some (.cells (newArr low n) 234 (0,0))
theorem new_0 (w:World) :
  Calls Tryz.prog 167 #[.int .i64 0] w fun e w'=>∃b,e=.returned (.tuple #[.pointer (some ⟨b,0,none⟩),.nilIface])/\Tab w' b 2000 newT/\w.heap.size<=b/\Below w w w':=by
 go_enter Tryz.func167,Tryz.ntmps167
 go_wp2_with fail
 have N0:Hid (NewB (w.alloc (.cells (Tryz.zeroCells234.setIfInBounds 0 (.int .i64 2000)) 234)) w 2000 0):=by
  show NewB _ _ _ _
  unfold NewB
  rw[heap_alloc_new,newArr_zero]
 have B0:Hid (Below w w (w.alloc (.cells (Tryz.zeroCells234.setIfInBounds 0 (.int .i64 2000)) 234))):=(Below.refl _ _).alloc (Nat.le_refl _) _
 generalize w.alloc (.cells (Tryz.zeroCells234.setIfInBounds 0 (.int .i64 2000)) 234)=w0 at *
 generalize Tryz.zeroCells234.setIfInBounds 0 (.int .i64 2000)=zz at *
 obtain⟨Z,hZ⟩:∃Z,Z=w.heap.size:=⟨_,rfl⟩
 have HZ:Hid (Z=w.heap.size):=hZ
 rw[<- hZ]at N0 ⊢
 clear hZ
 go_loopw [18] (fun t wr=>∃j:Nat,j<=32/\t=.int .i64 j/\NewB wr Z 2000 j/\Below w w wr) (fun t _=>32 - (intOf t).toNat)
 case atStart=>exact⟨0,by omega,rfl,N0,B0⟩
 case round =>
  obtain⟨j,hj,rfl,hnb,hbr⟩:=hrel
  have HN:Hid (NewB wr Z 2000 j):=hnb
  have HB:Hid (Below w w wr):=hbr
  clear hnb hbr
  by_cases hlt:j < 32
  ·have hc:∃v,wr.cell? (Z,1+j * 10)=some v:=⟨_,(cell_of_row wr Z _ _ _ _ HN).trans (newArr_at _ _ _ (by omega))⟩
   obtain⟨v,hc⟩:=hc
   have hz:=frozen_of_row wr Z (1+j * 10) _ _ HN
   have i0:(0:Int)<=(j:Int):=by omega
   have i1:(j:Int) < 32:=by omega
   go_wp2_with fail
   go_roundw
   case rel =>
    refine⟨j+1,by omega,by go_num,?_,HB.setCell (by have:=HZ.out;simp only;omega) _⟩
    unfold NewB
    rw[heap_setCell_same wr Z _ _ _ _ HN.out,newArr_next _ _ hlt]
   case measure=>simp[intOf];omega
  ·obtain rfl:j=32:=by omega
   go_wp2_with fail
   go_ret2
   refine⟨Z,rfl,?_,by have:=HZ.out;omega,HB⟩
   have h:=HN.out
   unfold NewB at h
   rw[newArr_all]at h
   exact h
theorem new_1 (w:World) :
  Calls Tryz.prog 167 #[.int .i64 1] w fun e w'=>∃b,e=.returned (.tuple #[.pointer (some ⟨b,0,none⟩),.nilIface])/\Tab w' b 2024 newT/\w.heap.size<=b/\Below w w w':=by
 go_enter Tryz.func167,Tryz.ntmps167
 go_wp2_with fail
 have N0:Hid (NewB (w.alloc (.cells (Tryz.zeroCells234.setIfInBounds 0 (.int .i64 2024)) 234)) w 2024 0):=by
  show NewB _ _ _ _
  unfold NewB
  rw[heap_alloc_new,newArr_zero]
 have B0:Hid (Below w w (w.alloc (.cells (Tryz.zeroCells234.setIfInBounds 0 (.int .i64 2024)) 234))):=(Below.refl _ _).alloc (Nat.le_refl _) _
 generalize w.alloc (.cells (Tryz.zeroCells234.setIfInBounds 0 (.int .i64 2024)) 234)=w0 at *
 generalize Tryz.zeroCells234.setIfInBounds 0 (.int .i64 2024)=zz at *
 obtain⟨Z,hZ⟩:∃Z,Z=w.heap.size:=⟨_,rfl⟩
 have HZ:Hid (Z=w.heap.size):=hZ
 rw[<- hZ]at N0 ⊢
 clear hZ
 go_loopw [18] (fun t wr=>∃j:Nat,j<=32/\t=.int .i64 j/\NewB wr Z 2024 j/\Below w w wr) (fun t _=>32 - (intOf t).toNat)
 case atStart=>exact⟨0,by omega,rfl,N0,B0⟩
 case round =>
  obtain⟨j,hj,rfl,hnb,hbr⟩:=hrel
  have HN:Hid (NewB wr Z 2024 j):=hnb
  have HB:Hid (Below w w wr):=hbr
  clear hnb hbr
  by_cases hlt:j < 32
  ·have hc:∃v,wr.cell? (Z,1+j * 10)=some v:=⟨_,(cell_of_row wr Z _ _ _ _ HN).trans (newArr_at _ _ _ (by omega))⟩
   obtain⟨v,hc⟩:=hc
   have hz:=frozen_of_row wr Z (1+j * 10) _ _ HN
   have i0:(0:Int)<=(j:Int):=by omega
   have i1:(j:Int) < 32:=by omega
   go_wp2_with fail
   go_roundw
   case rel =>
    refine⟨j+1,by omega,by go_num,?_,HB.setCell (by have:=HZ.out;simp only;omega) _⟩
    unfold NewB
    rw[heap_setCell_same wr Z _ _ _ _ HN.out,newArr_next _ _ hlt]
   case measure=>simp[intOf];omega
  ·obtain rfl:j=32:=by omega
   go_wp2_with fail
   go_ret2
   refine⟨Z,rfl,?_,by have:=HZ.out;omega,HB⟩
   have h:=HN.out
   unfold NewB at h
   rw[newArr_all]at h
   exact h
theorem new_ok (node:Nat) (w:World) (h:node < 2) :
  Calls Tryz.prog 167 #[node] w fun e w'=>∃b,e=.returned (.tuple #[.pointer (some ⟨b,0,none⟩),.nilIface])/\Tab w' b (2000+node * 24) newT/\w.heap.size<=b/\Below w w w':=by
 have hn:node=0\/node=1:=by omega
 rcases hn with rfl | rfl
 ·exact new_0 w
 ·exact new_1 w
theorem sl_of_own {w:World} {base n:Nat} {v:Value} {l:List Rl} (h:w.ownsRow base 55 5 v n (cellsL l)):∃p c,v=.slice p l.length c/\Sl w (.slice p l.length c) l/\(∀a,p=some a->base<=a.block/\a.block < w.heap.size):=by
 obtain⟨hs,hn⟩:=Sl.of_own h
 obtain⟨p,c,e,_⟩:=hs.open
 refine⟨p,c,e,e ▸ hs,fun a ea=>?_⟩
 subst ea
 rcases h.2 with q | ⟨g,cap,cur,q1,q2,q3,_⟩
 ·rw[e]at q;cases q.1
 ·rw[e]at q1
  cases q1
  refine⟨q2,?_⟩
  rcases Nat.lt_or_ge g w with a | a
  ·exact a
  ·rw[Array.getElem?_eq_none a]at q3;cases q3
theorem clone_sl (v:Value) (l:List Rl) (w:World) (R:Sl w v l) (hl:l.length<=1000) :
  Calls Tryz.prog 97 #[v] w fun e w'=>(∃p cap,e=.returned (.slice p l.length cap)/\Sl w' (.slice p l.length cap) l/\(∀a,p=some a->w.heap.size<=a.block/\a.block < w'.heap.size))/\Below w w w':=by
 rcases R with⟨rfl,rfl⟩ | ⟨a,cap,rfl,h1,h2,h3⟩
 ·have he:=Lib.run_eql_slice_nil (P := Tryz.prog) w 28 55 none 0 0 0 0 Tryz.underlying28
  go_enter Tryz.func97,Tryz.ntmps97
  go_wp2_with fail
  go_ret
  exact⟨⟨none,0,rfl,Or.inl ⟨rfl,rfl⟩,fun a e=>by cases e⟩,Below.refl _ _⟩
 ·obtain⟨i0,hi,hz0,hz1,hz2⟩:=info_parts Tryz.infoRl
  have HR:Hid (Rul w (some a) l):=h3
  have he:=Lib.run_eql_slice_nil (P := Tryz.prog) w 28 55 (some a) l.length cap 0 0 Tryz.underlying28
  clear h3
  go_enter Tryz.func97,Tryz.ntmps97
  go_wp2_with (at_builtin;refine wpList_append_own _ rfl _ _ 28 rfl w 55 i0 _ 5 32 Tryz.underlying28 hi hz0 hz1 hz2 rfl (by decide) (.slice (some ⟨w.heap.size,0,none⟩) 0 0) 0 [] rfl ?g0 a l.length cap (cellsL l) rfl (cellsL_len l) ?g1 (cellsL_one l) (by unfold maxLen;omega) (by omega) ?g2 ?_)
  case g0=>exact⟨rfl,.inr ⟨w.heap.size,0,#[],rfl,Nat.le_refl _,heap_alloc_new w _,Nat.le_refl _,by unfold maxLen;omega,rfl,rfl⟩⟩
  case g1=>exact(HR.keep (fun a v hc=>tk (aB _ _) hc)).at
  case g2=>simp
  intro v' w1 hown hgrow _
  have HO:Hid (∃p c,v'=.slice p l.length c/\Sl w1 (.slice p l.length c) l/\(∀a,p=some a->w.heap.size<=a.block/\a.block < w1.heap.size)):=sl_of_own (by simpa using hown)
  have HG:Hid (Below w w w1):=((Below.refl _ _).alloc (Nat.le_refl _) _).grown hgrow (by simp) (fun j hj=>by simp[Value.ownBlock]at hj;omega)
  clear hown hgrow
  obtain⟨p,c,rfl,_⟩:=HO.out
  go_wp2_with fail
  go_ret
  obtain⟨p',c',e,q⟩:=HO.out
  cases e
  exact⟨⟨p,c,rfl,q⟩,HG⟩
theorem clone_any (v:Value) (l:List Rl) (w:World) (R:Sl w v l) (hl:l.length<=1000) :
  Calls Tryz.prog 97 #[v] w fun e w'=>(∃p cap,e=.returned (.slice p l.length cap)/\Rul w' p l/\(l≠[]->∀a,p=some a->w.heap.size<=a.block))/\Below w w w' :=
 (clone_sl v l w R hl).mono fun _ _ ⟨⟨p,c,h1,h2,h3⟩,h4⟩=>⟨⟨p,c,h1,by obtain⟨p',c',e,q⟩:=h2.open;cases e;exact q,fun _ a e=>(h3 a e).1⟩,h4⟩
end Go.Proofs.YtabndgfdbdjdgaaGreatDoor
