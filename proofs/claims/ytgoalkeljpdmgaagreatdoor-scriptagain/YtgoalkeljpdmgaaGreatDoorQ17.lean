/-
  What the claimed theorem reaches, part Q17.
-/
import Derived.Test.YtgoalkeljpdmgaaGreatDoorQ16
import Derived.Test.YtgoalkeljpdmgaaGreatDoorQ00
import Derived.Test.YtgoalkeljpdmgaaGreatDoorQ14
import Derived.Test.YtgoalkeljpdmgaaGreatDoorQ07
namespace Go.Proofs.YtgoalkeljpdmgaaGreatDoor
open Go.RowKit
set_option maxRecDepth 100000
set_option maxHeartbeats 8000000
section
variable {w:World} {Q:Nat} {p:Pk} {pr:Int} {s:Nat->Addr}
def PkZ (w:World) (Q:Nat) (p:Pk):Prop:=w.heap[Q]? = some (.cells #[p.pr,p.a1,p.p1,p.a2,p.p2,p.fl] 33 (0,0))
theorem PkZ.lt (h:PkZ w Q p):Q < w.heap.size:=by
 rcases Nat.lt_or_ge Q w with a | a
 ·exact a
 ·unfold PkZ at h;rw[Array.getElem?_eq_none a]at h;cases h
theorem PkZ.below {w':World} (h:PkZ w Q p) (hb:Below w w w'):PkZ w' Q p:=by unfold PkZ;rw[hb.block Q h.lt];exact h
theorem PkZ.chgL {w':World} {l:List Nat} (h:PkZ w Q p) (hb:ChgL l w w') (hn:¬Q ∈ l):PkZ w' Q p:=by unfold PkZ;rw[hb.block Q h.lt hn];exact h
theorem PkZ.c (h:PkZ w Q p) (i:Nat):w.cell? (Q,i)=(#[p.pr,p.a1,p.p1,p.a2,p.p2,p.fl]:Array Value)[i]? := cell_of_row w _ _ _ _ _ h
theorem PkZ.fr (h:PkZ w Q p) (i:Nat):w.frozen? (Q,i)=false:=frozen_of_row w _ i _ _ h
structure PkB6 (w:World) (Q:Nat) (p:Pk):Prop where
 c0:w.cell? (Q,0)=p.pr
 c1:w.cell? (Q,1)=p.a1
 c2:w.cell? (Q,2)=p.p1
 c3:w.cell? (Q,3)=p.a2
 c4:w.cell? (Q,4)=p.p2
 c5:w.cell? (Q,5)=p.fl
theorem PkZ.b (h:PkZ w Q p):PkB6 w Q p:=⟨h.c 0,h.c 1,h.c 2,h.c 3,h.c 4,h.c 5⟩
theorem PkZ.new (w:World) (p:Pk):PkZ (w.alloc (.cells #[p.pr,p.a1,p.p1,p.a2,p.p2,p.fl] 33)) w p:=heap_alloc_new w _
def No.addR (x:No) (p:Pk):Nat×Nat×Tb:=addT x.T x.low p.pr p.a1 p.p1 p.a2 p.p2 (bgnS p.pr p.fl) (x.now+stay p.pr (bgnS p.pr p.fl))
def No.bgE (x:No) (p:Pk):Nat:=if adm x.ru p.pr true p.p2 then (if bgnE p.pr p.fl=0 then (x.addR p).2.1 else bgnE p.pr p.fl) else 8
def No.bg (x:No) (p:Pk):No:=if x.bgE p=0 then {x with T:=(x.addR p).2.2} else x
def No.bgF (x:No) (p:Pk):Ce:=if x.bgE p=0 then (x.addR p).2.2 (x.addR p).1 else noC
theorem bgn_in {fl:Int} :In6 (bgnS pr fl):=by unfold bgnS;repeat' split;all_goals exact In6.small (by omega) (by omega)
theorem addT_keeps {T:Tb} {low ia ip fa fp st un:Int} (h:(addT T low pr ia ip fa fp st un).2.1≠0):(addT T low pr ia ip fa fp st un).2.2=T:=by
 revert h
 unfold addT
 repeat' split
 all_goals simp
theorem addT_lt {T:Tb} {low ia ip fa fp st un:Int} (h:(addT T low pr ia ip fa fp st un).2.1=0):(addT T low pr ia ip fa fp st un).1 < 32:=by
 revert h
 unfold addT
 repeat' split
 all_goals simp
 all_goals exact fst_lt (by assumption)
theorem tadd_nd {w0:World} {k:Bk} {x:No} {m n:Nat} (S:SeM w0 s) (h:Nd w0 w k x m n) (hm:m<=1000000000) (p:Pk) (hp:In6 p.pr) :
  Calls Tryz.prog 214 #[.pointer (some (k.tb,0)),p.pr,.agg #[p.a1,p.p1],.agg #[p.a2,p.p2],.int .i64 (bgnS p.pr p.fl),.int .i64 (x.now+stay p.pr (bgnS p.pr p.fl))] w fun e w'=>e=.returned (.tuple #[.int .i64 ((x.addR p).1:Nat),terr s (x.addR p).2.1])/\Nd w0 w' k {x with T:=(x.addR p).2.2} (m+1) n/\ChgL k.all w w':=by
 have hid:=h.id
 have hlow:0<=x.low/\x.low<=100000:=by unfold No.low;omega
 refine(add_an2 k.tb x.low x.T p.pr p.a1 p.p1 p.a2 p.p2 (bgnS p.pr p.fl) (x.now+stay p.pr (bgnS p.pr p.fl)) m s w (S.below h.bl).n.s45 h.tb hlow.1 hlow.2 h.vs hm).mono ?_
 rintro e w' ⟨rfl,t,q⟩
 exact⟨rfl,h.onTb t (h.vs.add _ _ _ _ _ _ _ _) (h.wt.add _ _ _ _ _ _ _ _ hp bgn_in) q,ChgL.one q k.m_tb⟩
theorem adm_v {l:List Rl} {v:Value} {b:Bool} (h:RulesOk l) (hp:p.err=0) (a:AdmV s w l p.pr p.a1 p.p1 p.a2 p.p2 p.fl true v b):v=.nilIface/\b=adm l p.pr true p.p2:=by
 rcases a with⟨q,_⟩ | ⟨_,⟨e,q,_⟩,_⟩ | ⟨_,_,q1,q2⟩
 ·exact absurd h q
 ·unfold Pk.err at hp;rw[q]at hp;cases hp
 ·exact⟨q1,q2⟩
theorem set0_chg (w:World) (Q:Nat):Chg Q w ((((((((w.setCell (Q,0) (.int .i64 0)).setCell (Q,1) (.int .i64 0)).setCell (Q,2) (.int .i64 0)).setCell (Q,3) (.int .i64 0)).setCell (Q,4) (.int .i64 0)).setCell (Q,5) (.int .i64 0)).setCell (Q,6) (.int .i64 0)).setCell (Q,7) (.int .i64 0)) :=
 (((((((Chg.set _ _ _ _).trans (Chg.set _ _ _ _)).trans (Chg.set _ _ _ _)).trans (Chg.set _ _ _ _)).trans (Chg.set _ _ _ _)).trans (Chg.set _ _ _ _)).trans (Chg.set _ _ _ _)).trans (Chg.set _ _ _ _)
theorem begin_nd {w0:World} {k:Bk} {x:No} {m n:Nat} (S:SeM w0 s) (h:Nd w0 w k x m n) (hm:m<=1000000000) (h0:0<=x.now) (h1:x.now<=1000000000) (hr:RulesOk x.ru) (p:Pk) (hp:p.err=0) (hpp:In6 p.pr) :
  Calls Tryz.prog 173 #[.pointer (some (k.nd,0)),p.v] w fun e w'=>e=.returned (.tuple #[flowV (x.bgF p),terr s (x.bgE p)])/\Nd w0 w' k (x.bg p) (m+1) n/\ChgL k.all w w':=by
 have HS:Hid (SeM w0 s):=S
 have HN:Hid (Nd w0 w k x m n):=h
 have HW:Hid (0<=x.now/\x.now<=1000000000/\m<=1000000000):=⟨h0,h1,hm⟩
 have HR:Hid (RulesOk x.ru):=hr
 have HP:Hid (p.err=0):=hp
 have HPP:Hid (In6 p.pr):=hpp
 clear S h h0 h1 hm hr hp hpp
 go_enter Tryz.func173,Tryz.ntmps173
 go_upto_region 1 with fail
 go_wp2_with fail
 have B0:=aB w (.cells #[p.pr,p.a1,p.p1,p.a2,p.p2,p.fl] 33)
 have P1:Hid (PkZ ((w.alloc (.cells #[p.pr,p.a1,p.p1,p.a2,p.p2,p.fl] 33)).alloc (.cells #[.int .i64 0,.int .i64 0,.int .i64 0,.int .i64 0,.int .i64 0,.int .i64 0,.int .i64 0,.int .i64 0] 157)) w p):=(PkZ.new w p).below (aB _ _)
 have B1:Hid (Below w w ((w.alloc (.cells #[p.pr,p.a1,p.p1,p.a2,p.p2,p.fl] 33)).alloc (.cells #[.int .i64 0,.int .i64 0,.int .i64 0,.int .i64 0,.int .i64 0,.int .i64 0,.int .i64 0,.int .i64 0] 157))):=t2 B0 (aB _ _)
 have Z1:Hid (FlZ ((w.alloc (.cells #[p.pr,p.a1,p.p1,p.a2,p.p2,p.fl] 33)).alloc (.cells #[.int .i64 0,.int .i64 0,.int .i64 0,.int .i64 0,.int .i64 0,.int .i64 0,.int .i64 0,.int .i64 0] 157)) (w.heap.size+1) noC):=by
  have:=FlZ.zero (w.alloc (.cells #[p.pr,p.a1,p.p1,p.a2,p.p2,p.fl] 33))
  show FlZ _ _ _
  simpa using this
 clear B0
 generalize (w.alloc (.cells #[p.pr,p.a1,p.p1,p.a2,p.p2,p.fl] 33)).alloc (.cells #[.int .i64 0,.int .i64 0,.int .i64 0,.int .i64 0,.int .i64 0,.int .i64 0,.int .i64 0,.int .i64 0] 157)=w1 at *
 have N1:Hid (Nd w0 w1 k x m n):=HN.below B1
 have LW:Hid (w.heap.size<=w.heap.size):=Nat.le_refl _
 have LQ:Hid (w.heap.size<=w.heap.size+1):=Nat.le_succ _
 generalize hPe:w.heap.size=P at P1 Z1 LW LQ ⊢
 generalize hQe:P+1=Q at Z1 LQ ⊢
 have S1:Hid (∀u,Below w1 w1 u->SeM u s):=fun u hu=>(HS.below N1.bl).below hu
 have HNQ:Hid (¬Q ∈ k.all):=fun hm=>by have:=HN.lt _ hm;omega
 have HNP:Hid (¬P ∈ k.all):=fun hm=>by have:=HN.lt _ hm;omega
 have HAD:Hid (∀u,Nd w0 u k x m n->Calls Tryz.prog 212 #[.slice k.rp x.ru.length k.rc,pkt p.pr p.a1 p.p1 p.a2 p.p2 p.fl,.bool true] u fun e w'=>e=.returned (.tuple #[.bool (adm x.ru p.pr true p.p2),.nilIface])/\Below u u w'):=fun u hu=>by
  refine(admits_any k.rp x.ru k.rc p.pr p.a1 p.p1 p.a2 p.p2 p.fl true s u (HS.below hu.bl).n.sn hu.ru (by have:=HR.1;omega)).mono ?_
  rintro e w' ⟨⟨v,b,rfl,a⟩,hb⟩
  obtain⟨rfl,rfl⟩:=adm_v HR HP a
  exact⟨rfl,hb⟩
 have hS:w1.drew.cell? (k.nd,4)=some (.slice k.rp x.ru.length k.rc)/\PkB6 w1.drew P p:=⟨N1.c4,(P1.below (Below.refl _ _).drew).b⟩
 obtain⟨g4,q0,q1,q2,q3,q4,q5⟩:=hS
 have hS:w1.drew.cell? (k.nd,4)=some (.slice k.rp x.ru.length k.rc)/\w1.drew.cell? (P,0)=p.pr/\w1.drew.cell? (P,1)=p.a1/\w1.drew.cell? (P,2)=p.p1/\w1.drew.cell? (P,3)=p.a2/\w1.drew.cell? (P,4)=p.p2/\w1.drew.cell? (P,5)=p.fl:=⟨g4,q0,q1,q2,q3,q4,q5⟩
 clear g4 q0 q1 q2 q3 q4 q5
 obtain⟨ad,had⟩:∃ad,adm x.ru p.pr true p.p2=ad:=⟨_,rfl⟩
 have HADE:Hid (adm x.ru p.pr true p.p2=ad):=had
 rw[had]at HAD
 clear had
 go_region_held3 (fun w'=>w'.cell? (k.nd,4)=some (.slice k.rp x.ru.length k.rc)/\w'.cell? (P,0)=p.pr/\w'.cell? (P,1)=p.a1/\w'.cell? (P,2)=p.p1/\w'.cell? (P,3)=p.a2/\w'.cell? (P,4)=p.p2/\w'.cell? (P,5)=p.fl)
  (first | assumption | exact⟨tk hb2 hS.1,tk hb2 hS.2.1,tk hb2 hS.2.2.1,tk hb2 hS.2.2.2.1,tk hb2 hS.2.2.2.2.1,tk hb2 hS.2.2.2.2.2.1,tk hb2 hS.2.2.2.2.2.2⟩)
  (first | (go_at_call 212;refine(HAD _ N1.drew).mono ?_;rintro e w2 ⟨rfl,hb2⟩))
 have B2:Hid (Below w w w2):=t2 (t2 B1 (Below.refl _ _).drew) hb2
 have N2:Hid (Nd w0 w2 k x m n):=HN.below B2
 have P2:Hid (PkZ w2 P p):=(P1.below (Below.refl _ _).drew).below hb2
 have Z2:Hid (FlZ w2 Q noC):=(Z1.below (Below.refl _ _).drew).below hb2
 have S2:Hid (SeM w2 s):=HS.below N2.bl
 clear hS hb2 B1 N1 P1 Z1 S1 HAD
 cases ad
 ·have HE:Hid (x.bgE p=8):=by show _=_;unfold No.bgE;rw[HADE.out];rfl
  have HB:Hid (x.bg p=x):=by show _=_;unfold No.bg;rw[HE.out];rfl
  have HF:Hid (x.bgF p=noC):=by show _=_;unfold No.bgF;rw[HE.out];rfl
  have s7:=S2.c7
  have hGQ : 16≠Q:=by have hg : 16 < w0.heap.size:=tlt HS.c7;have:=HN.bl.size;omega
  have z:=Z2.b
  have z0:=z.c0
  have z1:=z.c1
  have z2:=z.c2
  have z3:=z.c3
  have z4:=z.c4
  have z5:=z.c5
  have z6:=z.c6
  have z7:=z.c7
  have zf:=Z2.fr
  simp only[noC]at z0 z1 z2 z3 z4 z5 z6 z7
  clear z
  go_wp2_with fail
  go_region
  all_goals go_wp2_with fail
  all_goals
   refine bodyPost_ret (v:=.tuple #[flowV noC,.iface 298 (.pointer (some (s 7)))]) (by simp[results,Tryz.results173,go_sem,z0,z1,z2,z3,z4,z5,z6,z7,flowV,noC]) rfl ?_
   rw[HF.out,HE.out,HB.out]
   have hcc:∀W,Chg Q w2 W->Nd w0 W k x m n/\ChgL k.all w W:=fun W hc=>HN.fresh N2 rfl (ChgL.of B2.out) hc (by omega)
   refine⟨rfl,(fun q=>⟨q.1.more (by omega),q.2⟩) (hcc _ ?_)⟩
   exact(set0_chg w2 Q).then (Below.refl _ _).drew
 ·have HA:Hid (x.bgE p=if bgnE p.pr p.fl=0 then (x.addR p).2.1 else bgnE p.pr p.fl):=by show _=_;unfold No.bgE;rw[HADE.out];rfl
  have p0:=P2.b.c0
  have p5:=P2.b.c5
  go_wp2_with fail
  clear p0 p5
  refine(begin_any p.pr p.fl s w2 ⟨S2.c1,S2.c8⟩).mono ?_
  rintro e w3 ⟨rfl,hb3⟩
  have B3:Hid (Below w w w3):=t2 B2 hb3
  have N3:Hid (Nd w0 w3 k x m n):=HN.below B3
  have P3:Hid (PkZ w3 P p):=P2.below hb3
  have Z3:Hid (FlZ w3 Q noC):=Z2.below hb3
  clear hb3 B2 N2 P2 Z2 S2
  by_cases hz:bgnE p.pr p.fl=0
  ·rw[if_pos hz]at HA
   rw[hz]
   clear hz
   simp only[bgnV]
   have HTU:Hid (∀u,Nd w0 u k x m n->Calls Tryz.prog 181 #[.pointer (some (k.nd,0)),p.pr,.int .i64 (bgnS p.pr p.fl)] u fun e w'=>e=.returned (.int .i64 (x.now+stay p.pr (bgnS p.pr p.fl)))/\Below u u w'):=fun u hu=>until_nd hu p.pr _ HPP bgn_in HW.1 HW.2.1
   have HTA:Hid (∀u,Nd w0 u k x m n->Calls Tryz.prog 214 #[.pointer (some (k.tb,0)),p.pr,.agg #[p.a1,p.p1],.agg #[p.a2,p.p2],.int .i64 (bgnS p.pr p.fl),.int .i64 (x.now+stay p.pr (bgnS p.pr p.fl))] u fun e w'=>e=.returned (.tuple #[.int .i64 ((x.addR p).1:Nat),terr s (x.addR p).2.1])/\Nd w0 w' k {x with T:=(x.addR p).2.2} (m+1) n/\ChgL k.all u w'):=fun u hu=>tadd_nd HS hu HW.2.2 p HPP
   generalize bgnS p.pr p.fl=bs at HTU HTA ⊢
   generalize x.now+stay p.pr bs=un at HTU HTA ⊢
   go_upto_region 7 with fail
   go_wp2_with fail
   obtain⟨q0,q1,q2,q3,q4,_⟩:=(P3.below (Below.refl _ _).drew).b
   have hS:w3.drew.cell? (k.nd,6)=some (.pointer (some (k.te,0)))/\w3.drew.cell? (k.te,0)=some (.pointer (some (k.tb,0)))/\w3.drew.cell? (P,0)=p.pr/\w3.drew.cell? (P,1)=p.a1/\w3.drew.cell? (P,2)=p.p1/\w3.drew.cell? (P,3)=p.a2/\w3.drew.cell? (P,4)=p.p2:=⟨N3.c6,N3.t0,q0,q1,q2,q3,q4⟩
   clear q0 q1 q2 q3 q4
   go_region_held3 (fun w'=>w'.cell? (k.nd,6)=some (.pointer (some (k.te,0)))/\w'.cell? (k.te,0)=some (.pointer (some (k.tb,0)))/\w'.cell? (P,0)=p.pr/\w'.cell? (P,1)=p.a1/\w'.cell? (P,2)=p.p1/\w'.cell? (P,3)=p.a2/\w'.cell? (P,4)=p.p2)
    (first | assumption | exact⟨tk hb5 hS.1,tk hb5 hS.2.1,tk hb5 hS.2.2.1,tk hb5 hS.2.2.2.1,tk hb5 hS.2.2.2.2.1,tk hb5 hS.2.2.2.2.2.1,tk hb5 hS.2.2.2.2.2.2⟩ | exact⟨N6.c6,N6.t0,K6.keeps HNP (tk hb5 hS.2.2.1),K6.keeps HNP (tk hb5 hS.2.2.2.1),K6.keeps HNP (tk hb5 hS.2.2.2.2.1),K6.keeps HNP (tk hb5 hS.2.2.2.2.2.1),K6.keeps HNP (tk hb5 hS.2.2.2.2.2.2)⟩)
    (first
     | (go_at_call 181;refine(HTU _ N3.drew).mono ?_;rintro e w5 ⟨rfl,hb5⟩)
     | (go_at_call 214;refine(HTA _ (N3.drew.below hb5)).mono ?_;rintro e w6 ⟨rfl,n6,k6⟩;have N6:Hid (Nd w0 w6 k {x with T:=(x.addR p).2.2} (m+1) n):=n6;have K6:Hid (ChgL k.all w5 w6):=k6;clear n6 k6))
   have Z6:Hid (FlZ w6 Q noC):=((Z3.below (Below.refl _ _).drew).below hb5).chgL K6 HNQ
   have X6:Hid (ChgL k.all w w6):=(ChgL.of (t2 (t2 B3 (Below.refl _ _).drew) hb5)).trans K6
   clear hS hb5 K6 B3 N3 P3 Z3 HTU HTA
   by_cases hae:(x.addR p).2.1=0
   ·have HE:Hid (x.bgE p=0):=by show _=_;rw[HA.out,hae]
    have HB:Hid (x.bg p={x with T:=(x.addR p).2.2}):=by show _=_;unfold No.bg;rw[HE.out];rfl
    have HF:Hid (x.bgF p=(x.addR p).2.2 (x.addR p).1):=by show _=_;unfold No.bgF;rw[HE.out];rfl
    have HLT:Hid ((x.addR p).1 < 32):=addT_lt hae
    rw[hae]
    simp only[terr]
    go_wp2_with fail
    refine(flow_nd N6 (x.addR p).1 HLT).mono ?_
    rintro e w7 ⟨rfl,hb7⟩
    have N7:Hid (Nd w0 w7 k {x with T:=(x.addR p).2.2} (m+1) n):=N6.below hb7
    have X7:Hid (ChgL k.all w w7):=X6.then hb7
    have Z7:Hid (FlZ w7 Q noC):=Z6.below hb7
    clear hb7 N6 X6 Z6 hae
    obtain⟨c,hc⟩:∃c,(x.addR p).2.2 (x.addR p).1=c:=⟨_,rfl⟩
    rw[show({x with T:=(x.addR p).2.2}:No).T (x.addR p).1=c from hc]
    rw[hc]at HF
    clear hc
    obtain⟨w9,hst,hz9,hc9⟩:=flz_store Z7 c
    obtain⟨n9,k9⟩:=HN.fresh N7 rfl X7 hc9 (by omega)
    have N9:Hid (Nd w0 w9 k {x with T:=(x.addR p).2.2} (m+1) n):=n9
    have K9:Hid (ChgL k.all w w9):=k9
    have Z9:Hid (FlZ w9 Q c):=hz9
    clear n9 k9 hz9 hc9
    simp only[flowV]
    go_wp2_with (refine wpList_store_eq rfl 157 _ _ rfl _ _ _ rfl rfl hst ?_)
    clear hst
    have q:=Z9.b
    go_wp2_with fail
    exact bodyPost_ret (v:=.tuple #[flowV c,.nilIface]) (by simp[results,Tryz.results173,go_sem,q.c0,q.c1,q.c2,q.c3,q.c4,q.c5,q.c6,q.c7,flowV]) rfl ⟨by rw[HF.out,HE.out];rfl,by rw[HB.out];exact N9,K9⟩
   ·have HE:Hid (x.bgE p=(x.addR p).2.1):=HA.out
    have HB:Hid (x.bg p=x):=by show _=_;unfold No.bg;rw[if_neg (by rw[HE.out];exact hae)]
    have HF:Hid (x.bgF p=noC):=by show _=_;unfold No.bgF;rw[if_neg (by rw[HE.out];exact hae)]
    have HTT:Hid ((x.addR p).2.2=x.T):=addT_keeps hae
    obtain⟨e1,he1⟩:∃e1,(x.addR p).2.1=e1+1:=⟨(x.addR p).2.1 - 1,by omega⟩
    rw[he1]at HE ⊢
    clear hae he1
    simp only[terr]
    obtain⟨w9,hst0,hz9,hc9⟩:=flz_store Z6 noC
    have hst:(Instr.storeAt 157 (.pointer (some (Q,0))) (.agg #[.int .i64 0,.int .i64 0,.int .i64 0,.int .i64 0,.int .i64 0,.int .i64 0,.int .i64 0,.int .i64 0])).run Tryz.prog w6=.ok () w9:=hst0
    obtain⟨n9,k9⟩:=HN.fresh N6 rfl X6 hc9 (by omega)
    have N9:Hid (Nd w0 w9 k x (m+1) n):=by rw[HTT.out]at n9;exact n9
    have K9:Hid (ChgL k.all w w9):=k9
    have Z9:Hid (FlZ w9 Q noC):=hz9
    clear n9 k9 hz9 hc9 hst0
    go_wp2_with (refine wpList_store_eq rfl 157 _ _ rfl _ _ _ rfl rfl hst ?_)
    clear hst
    have q:=Z9.b
    go_wp2_with fail
    exact bodyPost_ret (v:=.tuple #[flowV noC,.iface 298 (.pointer (some (s e1)))]) (by simp[results,Tryz.results173,go_sem,q.c0,q.c1,q.c2,q.c3,q.c4,q.c5,q.c6,q.c7,flowV]) rfl ⟨by rw[HF.out,HE.out];rfl,by rw[HB.out];exact N9,K9⟩
  ·rw[if_neg hz]at HA
   have HB:Hid (x.bg p=x):=by show _=_;unfold No.bg;rw[if_neg (by rw[HA.out];exact hz)]
   have HF:Hid (x.bgF p=noC):=by show _=_;unfold No.bgF;rw[if_neg (by rw[HA.out];exact hz)]
   obtain⟨e1,he1⟩:∃e1,bgnE p.pr p.fl=e1+1:=⟨bgnE p.pr p.fl - 1,by omega⟩
   have HE:Hid (x.bgE p=e1+1):=by show _=_;rw[HA.out,he1]
   rw[he1]
   clear hz he1 HA
   simp only[bgnV]
   obtain⟨w9,hst0,hz9,hc9⟩:=flz_store Z3 noC
   have hst:(Instr.storeAt 157 (.pointer (some (Q,0))) (.agg #[.int .i64 0,.int .i64 0,.int .i64 0,.int .i64 0,.int .i64 0,.int .i64 0,.int .i64 0,.int .i64 0])).run Tryz.prog w3=.ok () w9:=hst0
   obtain⟨n9,k9⟩:=HN.fresh N3 rfl (ChgL.of B3.out) hc9 (by omega)
   have N9:Hid (Nd w0 w9 k x m n):=n9
   have K9:Hid (ChgL k.all w w9):=k9
   have Z9:Hid (FlZ w9 Q noC):=hz9
   clear n9 k9 hz9 hc9 hst0
   go_wp2_with (refine wpList_store_eq rfl 157 _ _ rfl _ _ _ rfl rfl hst ?_)
   clear hst
   have q:=Z9.b
   go_wp2_with fail
   exact bodyPost_ret (v:=.tuple #[flowV noC,.iface 298 (.pointer (some (s e1)))]) (by simp[results,Tryz.results173,go_sem,q.c0,q.c1,q.c2,q.c3,q.c4,q.c5,q.c6,q.c7,flowV]) rfl ⟨by rw[HF.out,HE.out];rfl,by rw[HB.out];exact N9.more (by omega),K9⟩
end
def No.fnd (x:No) (p:Pk):Option Nat:=fst x.T (findQ p.pr p.a1 p.p1 p.a2 p.p2)
def No.ouF (x:No) (p:Pk):Ce:=match x.fnd p with | some j=>x.T j | none=>x.bgF p
def No.ouE (x:No) (p:Pk):Nat:=match x.fnd p with | some _=>0 | none=>x.bgE p
def No.ou (x:No) (p:Pk):No:=match x.fnd p with | some j=>x.stp j p.fl true | none=>x.bg p
theorem outward_nd {w0 w:World} {k:Bk} {x:No} {m n:Nat} {s:Nat->Addr} (S:SeM w0 s) (h:Nd w0 w k x m n) (hm:m<=1000000000) (h0:0<=x.now) (h1:x.now<=1000000000) (hr:RulesOk x.ru) (p:Pk) (hp:p.err=0) (hpp:In6 p.pr) :
  Calls Tryz.prog 136 #[.pointer (some (k.nd,0)),p.v] w fun e w'=>e=.returned (.tuple #[flowV (x.ouF p),terr s (x.ouE p)])/\Nd w0 w' k (x.ou p) (m+1) n/\ChgL k.all w w':=by
 have HS:Hid (SeM w0 s):=S
 have HN:Hid (Nd w0 w k x m n):=h
 have HW:Hid (0<=x.now/\x.now<=1000000000/\m<=1000000000):=⟨h0,h1,hm⟩
 have HR:Hid (RulesOk x.ru):=hr
 have HP:Hid (p.err=0):=hp
 have HPP:Hid (In6 p.pr):=hpp
 clear S h h0 h1 hm hr hp hpp
 go_enter Tryz.func136,Tryz.ntmps136
 go_upto_region 1 with fail
 go_wp2_with fail
 have B0:=aB w (.cells #[p.pr,p.a1,p.p1,p.a2,p.p2,p.fl] 33)
 have P1:Hid (PkZ ((w.alloc (.cells #[p.pr,p.a1,p.p1,p.a2,p.p2,p.fl] 33)).alloc (.cells #[.int .i64 0,.int .i64 0,.int .i64 0,.int .i64 0,.int .i64 0,.int .i64 0,.int .i64 0,.int .i64 0] 157)) w p):=(PkZ.new w p).below (aB _ _)
 have B1:Hid (Below w w ((w.alloc (.cells #[p.pr,p.a1,p.p1,p.a2,p.p2,p.fl] 33)).alloc (.cells #[.int .i64 0,.int .i64 0,.int .i64 0,.int .i64 0,.int .i64 0,.int .i64 0,.int .i64 0,.int .i64 0] 157))):=t2 B0 (aB _ _)
 have Z1:Hid (FlZ ((w.alloc (.cells #[p.pr,p.a1,p.p1,p.a2,p.p2,p.fl] 33)).alloc (.cells #[.int .i64 0,.int .i64 0,.int .i64 0,.int .i64 0,.int .i64 0,.int .i64 0,.int .i64 0,.int .i64 0] 157)) (w.heap.size+1) noC):=by
  have:=FlZ.zero (w.alloc (.cells #[p.pr,p.a1,p.p1,p.a2,p.p2,p.fl] 33))
  show FlZ _ _ _
  simpa using this
 clear B0
 generalize (w.alloc (.cells #[p.pr,p.a1,p.p1,p.a2,p.p2,p.fl] 33)).alloc (.cells #[.int .i64 0,.int .i64 0,.int .i64 0,.int .i64 0,.int .i64 0,.int .i64 0,.int .i64 0,.int .i64 0] 157)=w1 at *
 have N1:Hid (Nd w0 w1 k x m n):=HN.below B1
 have LW:Hid (w.heap.size<=w.heap.size):=Nat.le_refl _
 have LQ:Hid (w.heap.size<=w.heap.size+1):=Nat.le_succ _
 generalize hPe:w.heap.size=P at P1 Z1 LW LQ ⊢
 generalize hQe:P+1=Q at Z1 LQ ⊢
 obtain⟨o,ho⟩:∃o,x.fnd p=o:=⟨_,rfl⟩
 have HO:Hid (x.fnd p=o):=ho
 have HFD:Hid (∀u,Nd w0 u k x m n->Calls Tryz.prog 172 #[.pointer (some (k.tb,0)),p.pr,.agg #[p.a1,p.p1],.agg #[p.a2,p.p2]] u fun e w'=>e=.returned (.tuple #[.int .i64 ((o.getD 0:Nat):Int),.bool o.isSome])/\Below u u w'):=fun u hu=>by
  have:=find_any k.tb x.low x.T p.pr p.a1 p.p1 p.a2 p.p2 u hu.tb
  rw[show fst x.T (findQ p.pr p.a1 p.p1 p.a2 p.p2)=o from ho]at this
  exact this
 clear ho
 obtain⟨q0,q1,q2,q3,q4,_⟩:=(P1.below (Below.refl _ _).drew).b
 have hS:w1.drew.cell? (k.nd,6)=some (.pointer (some (k.te,0)))/\w1.drew.cell? (k.te,0)=some (.pointer (some (k.tb,0)))/\w1.drew.cell? (P,0)=p.pr/\w1.drew.cell? (P,1)=p.a1/\w1.drew.cell? (P,2)=p.p1/\w1.drew.cell? (P,3)=p.a2/\w1.drew.cell? (P,4)=p.p2:=⟨N1.c6,N1.t0,q0,q1,q2,q3,q4⟩
 clear q0 q1 q2 q3 q4
 go_region_held3 (fun w'=>w'.cell? (k.nd,6)=some (.pointer (some (k.te,0)))/\w'.cell? (k.te,0)=some (.pointer (some (k.tb,0)))/\w'.cell? (P,0)=p.pr/\w'.cell? (P,1)=p.a1/\w'.cell? (P,2)=p.p1/\w'.cell? (P,3)=p.a2/\w'.cell? (P,4)=p.p2)
  (first | assumption | exact⟨tk hb2 hS.1,tk hb2 hS.2.1,tk hb2 hS.2.2.1,tk hb2 hS.2.2.2.1,tk hb2 hS.2.2.2.2.1,tk hb2 hS.2.2.2.2.2.1,tk hb2 hS.2.2.2.2.2.2⟩)
  (first | (go_at_call 172;refine(HFD _ N1.drew).mono ?_;rintro e w2 ⟨rfl,hb2⟩))
 have B2:Hid (Below w w w2):=t2 (t2 B1 (Below.refl _ _).drew) hb2
 have N2:Hid (Nd w0 w2 k x m n):=HN.below B2
 have P2:Hid (PkZ w2 P p):=(P1.below (Below.refl _ _).drew).below hb2
 have Z2:Hid (FlZ w2 Q noC):=(Z1.below (Below.refl _ _).drew).below hb2
 have HNQ:Hid (¬Q ∈ k.all):=fun hm=>by have:=HN.lt _ hm;omega
 clear hS hb2 B1 N1 P1 Z1 HFD
 obtain⟨r0,r1,r2,r3,r4,r5⟩:=P2.b
 cases o with
 | some j =>
  have HLT:Hid (j < 32):=fst_lt HO
  have HF:Hid (x.ouF p=x.T j/\x.ouE p=0/\x.ou p=x.stp j p.fl true):=by unfold No.ouF No.ouE No.ou;rw[HO.out];exact⟨rfl,rfl,rfl⟩
  simp only[Option.isSome_some,Option.getD_some]
  go_wp2_with fail
  clear r0 r1 r2 r3 r4 r5
  refine(step_nd HS N2 HW.2.2 HW.1 HW.2.1 j HLT p.fl true).mono ?_
  rintro e w7 ⟨rfl,n7,k7⟩
  have N7:Hid (Nd w0 w7 k (x.stp j p.fl true) (m+1) n):=n7
  have X7:Hid (ChgL k.all w w7):=(ChgL.of B2.out).trans k7
  have Z7:Hid (FlZ w7 Q noC):=Z2.chgL k7 HNQ
  have HRU:Hid ((x.stp j p.fl true).ru=x.ru):=by show _=_;unfold No.stp;split <;> rfl
  clear n7 k7
  obtain⟨c,hc⟩:∃c,x.T j=c:=⟨_,rfl⟩
  rw[hc]
  rw[hc]at HF
  clear hc
  obtain⟨w9,hst,hz9,hc9⟩:=flz_store Z7 c
  obtain⟨n9,k9⟩:=HN.fresh N7 HRU X7 hc9 (by omega)
  have N9:Hid (Nd w0 w9 k (x.stp j p.fl true) (m+1) n):=n9
  have K9:Hid (ChgL k.all w w9):=k9
  have Z9:Hid (FlZ w9 Q c):=hz9
  clear n9 k9 hz9 hc9
  simp only[flowV]
  go_wp2_with (refine wpList_store_eq rfl 157 _ _ rfl _ _ _ rfl rfl hst ?_)
  clear hst
  have q:=Z9.b
  go_wp2_with fail
  exact bodyPost_ret (v:=.tuple #[flowV c,.nilIface]) (by simp[results,Tryz.results136,go_sem,q.c0,q.c1,q.c2,q.c3,q.c4,q.c5,q.c6,q.c7,flowV]) rfl ⟨by rw[HF.1,HF.2.1];rfl,by rw[HF.2.2];exact N9,K9⟩
 | none =>
  have HF:Hid (x.ouF p=x.bgF p/\x.ouE p=x.bgE p/\x.ou p=x.bg p):=by unfold No.ouF No.ouE No.ou;rw[HO.out];exact⟨rfl,rfl,rfl⟩
  simp only[Option.isSome_none,Option.getD_none]
  go_wp2_with fail
  clear r0 r1 r2 r3 r4 r5
  refine(begin_nd HS N2 HW.2.2 HW.1 HW.2.1 HR p HP HPP).mono ?_
  rintro e w7 ⟨rfl,n7,k7⟩
  have N7:Hid (Nd w0 w7 k (x.bg p) (m+1) n):=n7
  have X7:Hid (ChgL k.all w w7):=(ChgL.of B2.out).trans k7
  have Z7:Hid (FlZ w7 Q noC):=Z2.chgL k7 HNQ
  have HRU:Hid ((x.bg p).ru=x.ru):=by show _=_;unfold No.bg;split <;> rfl
  clear n7 k7
  obtain⟨c,hc⟩:∃c,x.bgF p=c:=⟨_,rfl⟩
  obtain⟨ev,hev⟩:∃ev,terr s (x.bgE p)=ev:=⟨_,rfl⟩
  have HEV:Hid (terr s (x.ouE p)=ev):=by show _=_;rw[HF.2.1];exact hev
  rw[hc,hev]
  rw[hc]at HF
  clear hc hev
  obtain⟨w9,hst,hz9,hc9⟩:=flz_store Z7 c
  obtain⟨n9,k9⟩:=HN.fresh N7 HRU X7 hc9 (by omega)
  have N9:Hid (Nd w0 w9 k (x.bg p) (m+1) n):=n9
  have K9:Hid (ChgL k.all w w9):=k9
  have Z9:Hid (FlZ w9 Q c):=hz9
  clear n9 k9 hz9 hc9
  simp only[flowV]
  go_wp2_with (refine wpList_store_eq rfl 157 _ _ rfl _ _ _ rfl rfl hst ?_)
  clear hst
  have q:=Z9.b
  go_wp2_with fail
  exact bodyPost_ret (v:=.tuple #[flowV c,ev]) (by simp[results,Tryz.results136,go_sem,q.c0,q.c1,q.c2,q.c3,q.c4,q.c5,q.c6,q.c7,flowV]) rfl ⟨by rw[HF.1,HEV.out],by rw[HF.2.2];exact N9,K9⟩
def noP:Pk:=⟨0,0,0,0,0,0⟩
theorem PkZ.zero (w:World):PkZ (w.alloc (.cells #[.int .i64 0,.int .i64 0,.int .i64 0,.int .i64 0,.int .i64 0,.int .i64 0] 33)) w noP:=heap_alloc_new w _
theorem pkz_store {w:World} {Q:Nat} {c:Pk} (h:PkZ w Q c) (d:Pk) :
  ∃w',(Instr.storeAt 33 (.pointer (some (Q,0))) (.agg #[d.pr,d.a1,d.p1,d.a2,d.p2,d.fl])).run Tryz.prog w=.ok () w'/\PkZ w' Q d/\Chg Q w w':=by
 have hs:(sizeOf 33).run Tryz.prog w=.ok 6 w:=by kernel_rfl
 have hst:=run_storeCells_at Tryz.prog Q 0 33 [d.pr,d.a1,d.p1,d.a2,d.p2,d.fl] 0 _ w h (by simp) (fun u hu=>by
  simp only[List.mem_cons,List.not_mem_nil,or_false]at hu
  rcases hu with rfl | rfl | rfl | rfl | rfl | rfl <;> rfl)
 refine⟨w.setRow Q #[d.pr,d.a1,d.p1,d.a2,d.p2,d.fl],?_,setRow_heap w Q _ _ _ _ h,chg_row _ _ _⟩
 simp only[Instr.storeAt,Instr.sureAddr,Sem.run_bind,Sem.run_pure,Result.andThen_ok,storeVar,hs,Value.cells]
 simp at hst ⊢
 exact hst
theorem set0_chg6 (w:World) (Q:Nat):Chg Q w ((((((w.setCell (Q,0) (.int .i64 0)).setCell (Q,1) (.int .i64 0)).setCell (Q,2) (.int .i64 0)).setCell (Q,3) (.int .i64 0)).setCell (Q,4) (.int .i64 0)).setCell (Q,5) (.int .i64 0)) :=
 (((((Chg.set _ _ _ _).trans (Chg.set _ _ _ _)).trans (Chg.set _ _ _ _)).trans (Chg.set _ _ _ _)).trans (Chg.set _ _ _ _)).trans (Chg.set _ _ _ _)
theorem set_chg2 (w:World) (P a b:Nat) (u v:Value):Chg P w ((w.setCell (P,a) u).setCell (P,b) v):=(Chg.set _ _ _ _).trans (Chg.set _ _ _ _)
def No.inE (x:No) (p:Pk):Nat:=if x.chk p=0 then x.ouE p else x.chk p
def No.inP (x:No) (p:Pk):Pk:=if x.inE p=0 then ⟨p.pr,1,(x.ouF p).po,p.a2,p.p2,p.fl⟩ else noP
def No.ins (x:No) (p:Pk):No:=if x.chk p=0 then x.ou p else x
theorem chk_err {x:No} {p:Pk} (h:x.chk p=0):p.err=0:=by
 unfold No.chk at h
 by_cases e:p.err=0
 ·exact e
 ·rw[if_neg e]at h;exact absurd h e
theorem ou_ru (x:No) (p:Pk):(x.ou p).ru=x.ru:=by
 unfold No.ou
 split
 ·unfold No.stp;split <;> rfl
 ·unfold No.bg;split <;> rfl
theorem inside_nd {w0 w:World} {k:Bk} {x:No} {m n:Nat} {s:Nat->Addr} (S:SeM w0 s) (h:Nd w0 w k x m n) (hm:m<=1000000000) (h0:0<=x.now) (h1:x.now<=1000000000) (hr:RulesOk x.ru) (p:Pk) (hpp:In6 p.pr) :
  Calls Tryz.prog 99 #[.pointer (some (k.nd,0)),p.v] w fun e w'=>e=.returned (.tuple #[(x.inP p).v,terr s (x.inE p)])/\Nd w0 w' k (x.ins p) (m+1) n/\ChgL k.all w w':=by
 have HR:Hid (RulesOk x.ru):=hr
 clear hr
 have HS:Hid (SeM w0 s):=S
 have HN:Hid (Nd w0 w k x m n):=h
 have HW:Hid (0<=x.now/\x.now<=1000000000/\m<=1000000000):=⟨h0,h1,hm⟩
 have HPP:Hid (In6 p.pr):=hpp
 clear S h h0 h1 hm hpp
 go_enter Tryz.func99,Tryz.ntmps99
 go_wp2_with fail
 have B0:=aB w (.cells #[p.pr,p.a1,p.p1,p.a2,p.p2,p.fl] 33)
 have P1:Hid (PkZ ((w.alloc (.cells #[p.pr,p.a1,p.p1,p.a2,p.p2,p.fl] 33)).alloc (.cells #[.int .i64 0,.int .i64 0,.int .i64 0,.int .i64 0,.int .i64 0,.int .i64 0] 33)) w p):=(PkZ.new w p).below (aB _ _)
 have B1:Hid (Below w w ((w.alloc (.cells #[p.pr,p.a1,p.p1,p.a2,p.p2,p.fl] 33)).alloc (.cells #[.int .i64 0,.int .i64 0,.int .i64 0,.int .i64 0,.int .i64 0,.int .i64 0] 33))):=t2 B0 (aB _ _)
 have Z1:Hid (PkZ ((w.alloc (.cells #[p.pr,p.a1,p.p1,p.a2,p.p2,p.fl] 33)).alloc (.cells #[.int .i64 0,.int .i64 0,.int .i64 0,.int .i64 0,.int .i64 0,.int .i64 0] 33)) (w.heap.size+1) noP):=by
  have:=PkZ.zero (w.alloc (.cells #[p.pr,p.a1,p.p1,p.a2,p.p2,p.fl] 33))
  show PkZ _ _ _
  simpa using this
 clear B0
 generalize (w.alloc (.cells #[p.pr,p.a1,p.p1,p.a2,p.p2,p.fl] 33)).alloc (.cells #[.int .i64 0,.int .i64 0,.int .i64 0,.int .i64 0,.int .i64 0,.int .i64 0] 33)=w1 at *
 have N1:Hid (Nd w0 w1 k x m n):=HN.below B1
 have LW:Hid (w.heap.size<=w.heap.size):=Nat.le_refl _
 have LQ:Hid (w.heap.size<=w.heap.size+1):=Nat.le_succ _
 generalize hPe:w.heap.size=P at P1 Z1 LW LQ ⊢
 generalize hQe:P+1=Q at Z1 LQ ⊢
 have HNQ:Hid (¬Q ∈ k.all):=fun hm=>by have:=HN.lt _ hm;omega
 have HNP:Hid (¬P ∈ k.all):=fun hm=>by have:=HN.lt _ hm;omega
 refine(check_nd HS N1 p).mono ?_
 rintro e w2 ⟨rfl,hb2⟩
 have B2:Hid (Below w w w2):=t2 B1 hb2
 have N2:Hid (Nd w0 w2 k x m n):=HN.below B2
 have P2:Hid (PkZ w2 P p):=P1.below hb2
 have Z2:Hid (PkZ w2 Q noP):=Z1.below hb2
 have S2:Hid (SeM w2 s):=HS.below N2.bl
 clear hb2 B1 N1 P1 Z1
 by_cases hc:x.chk p=0
 ·have HP:Hid (p.err=0):=chk_err hc
  have HE:Hid (x.inE p=x.ouE p):=by show _=_;unfold No.inE;rw[if_pos hc]
  have HX:Hid (x.ins p=x.ou p):=by show _=_;unfold No.ins;rw[if_pos hc]
  have HRU:Hid ((x.ou p).ru=x.ru):=ou_ru x p
  obtain⟨r0,r1,r2,r3,r4,r5⟩:=P2.b
  rw[hc]
  clear hc
  simp only[terr]
  go_wp2_with fail
  clear r0 r1 r2 r3 r4 r5
  refine(outward_nd HS N2 HW.2.2 HW.1 HW.2.1 HR p HP HPP).mono ?_
  rintro e w3 ⟨rfl,n3,k3⟩
  obtain⟨c,hcc⟩:∃c,x.ouF p=c:=⟨_,rfl⟩
  have HC:Hid (x.ouF p=c):=hcc
  rw[hcc]
  clear hcc
  have n4:=n3.below (aB w3 (.cells #[c.pr,c.ia,c.ip,c.fa,c.fp,c.po,c.st,c.un] 157))
  have N4:Hid (Nd w0 (w3.alloc (.cells #[c.pr,c.ia,c.ip,c.fa,c.fp,c.po,c.st,c.un] 157)) k (x.ou p) (m+1) n):=n4
  have X4:Hid (ChgL k.all w (w3.alloc (.cells #[c.pr,c.ia,c.ip,c.fa,c.fp,c.po,c.st,c.un] 157))):=((ChgL.of B2.out).trans k3).then (aB _ _)
  have P4:Hid (PkZ (w3.alloc (.cells #[c.pr,c.ia,c.ip,c.fa,c.fp,c.po,c.st,c.un] 157)) P p):=(P2.chgL k3 HNP).below (aB _ _)
  have Z4:Hid (PkZ (w3.alloc (.cells #[c.pr,c.ia,c.ip,c.fa,c.fp,c.po,c.st,c.un] 157)) Q noP):=(Z2.chgL k3 HNQ).below (aB _ _)
  have F4:Hid (FlZ (w3.alloc (.cells #[c.pr,c.ia,c.ip,c.fa,c.fp,c.po,c.st,c.un] 157)) w3 c):=FlZ.new w3 c
  simp only[flowV]
  clear n3 n4 k3
  by_cases he:x.ouE p=0
  ·have HIE:Hid (x.inE p=0):=by show _=_;rw[HE.out,he]
   have HIP:Hid (x.inP p=⟨p.pr,1,c.po,p.a2,p.p2,p.fl⟩):=by show _=_;unfold No.inP;rw[if_pos HIE.out,HC.out]
   rw[he]
   clear he
   simp only[terr]
   go_upto_region 7 with fail
   generalize w3.alloc (.cells #[c.pr,c.ia,c.ip,c.fa,c.fp,c.po,c.st,c.un] 157)=w4 at *
   generalize w3.heap.size=G at *
   have g5:=F4.b.c5
   obtain⟨r0,r1,r2,r3,r4,r5⟩:=P4.b
   have pf:=P4.fr
   have hcg:=set_chg2 w4 P 1 2 (.int .i64 1) c.po
   have Z5:Hid (PkZ ((w4.setCell (P,1) (.int .i64 1)).setCell (P,2) c.po) Q noP):=Z4.chgL (ChgL.one (l:=[P]) hcg (by simp)) (by simp;omega)
   obtain⟨n5,k5⟩:=HN.fresh N4 HRU X4 hcg (by omega)
   obtain⟨w9,hst,hz9,hc9⟩:=pkz_store Z5 ⟨p.pr,1,c.po,p.a2,p.p2,p.fl⟩
   simp only at hst
   obtain⟨n9,k9⟩:=HN.fresh n5 HRU k5 hc9 (by omega)
   have N9:Hid (Nd w0 w9 k (x.ou p) (m+1) n):=n9
   have K9:Hid (ChgL k.all w w9):=k9
   have Z9:Hid (PkZ w9 Q ⟨p.pr,1,c.po,p.a2,p.p2,p.fl⟩):=hz9
   clear n9 k9 hz9 hc9 n5 k5 hcg
   go_wp2_with (refine wpList_store_eq rfl 33 _ _ rfl _ _ _ rfl rfl hst ?_)
   clear hst g5 r0 r1 r2 r3 r4 r5 pf
   have q:=Z9.b
   go_wp2_with fail
   exact bodyPost_ret (v:=.tuple #[Pk.v ⟨p.pr,1,c.po,p.a2,p.p2,p.fl⟩,.nilIface]) (by simp[results,Tryz.results99,go_sem,q.c0,q.c1,q.c2,q.c3,q.c4,q.c5,Pk.v]) rfl ⟨by rw[HIP.out,HIE.out];rfl,by rw[HX.out];exact N9,K9⟩
  ·obtain⟨e1,he1⟩:∃e1,x.ouE p=e1+1:=⟨x.ouE p - 1,by omega⟩
   have HIE:Hid (x.inE p=e1+1):=by show _=_;rw[HE.out,he1]
   have HIP:Hid (x.inP p=noP):=by show _=_;unfold No.inP;rw[if_neg (by rw[HIE.out];omega)]
   rw[he1]
   clear he he1
   simp only[terr]
   generalize hw4:w3.alloc (.cells #[c.pr,c.ia,c.ip,c.fa,c.fp,c.po,c.st,c.un] 157)=w4 at N4 X4 P4 Z4 F4
   obtain⟨w9,hst0,hz9,hc9⟩:=pkz_store Z4 noP
   have hst:(Instr.storeAt 33 (.pointer (some (Q,0))) (.agg #[.int .i64 0,.int .i64 0,.int .i64 0,.int .i64 0,.int .i64 0,.int .i64 0])).run Tryz.prog w4=.ok () w9:=hst0
   obtain⟨n9,k9⟩:=HN.fresh N4 HRU X4 hc9 (by omega)
   have N9:Hid (Nd w0 w9 k (x.ou p) (m+1) n):=n9
   have K9:Hid (ChgL k.all w w9):=k9
   have Z9:Hid (PkZ w9 Q noP):=hz9
   clear n9 k9 hz9 hc9 hst0
   subst hw4
   go_wp2_with (refine wpList_store_eq rfl 33 _ _ rfl _ _ _ rfl rfl hst ?_)
   clear hst
   have q:=Z9.b
   go_wp2_with fail
   exact bodyPost_ret (v:=.tuple #[Pk.v noP,.iface 298 (.pointer (some (s e1)))]) (by simp[results,Tryz.results99,go_sem,q.c0,q.c1,q.c2,q.c3,q.c4,q.c5,Pk.v]) rfl ⟨by rw[HIP.out,HIE.out];rfl,by rw[HX.out];exact N9,K9⟩
 ·obtain⟨e1,he1⟩:∃e1,x.chk p=e1+1:=⟨x.chk p - 1,by omega⟩
  have HIE:Hid (x.inE p=e1+1):=by show _=_;unfold No.inE;rw[if_neg hc,he1]
  have HIP:Hid (x.inP p=noP):=by show _=_;unfold No.inP;rw[if_neg (by rw[HIE.out];omega)]
  have HX:Hid (x.ins p=x):=by show _=_;unfold No.ins;rw[if_neg hc]
  have HRU:Hid (x.ru=x.ru):=rfl
  rw[he1]
  clear hc he1
  simp only[terr]
  obtain⟨w9,hst0,hz9,hc9⟩:=pkz_store Z2 noP
  have hst:(Instr.storeAt 33 (.pointer (some (Q,0))) (.agg #[.int .i64 0,.int .i64 0,.int .i64 0,.int .i64 0,.int .i64 0,.int .i64 0])).run Tryz.prog w2=.ok () w9:=hst0
  obtain⟨n9,k9⟩:=HN.fresh N2 HRU (ChgL.of B2.out) hc9 (by omega)
  have N9:Hid (Nd w0 w9 k x m n):=n9
  have K9:Hid (ChgL k.all w w9):=k9
  have Z9:Hid (PkZ w9 Q noP):=hz9
  clear n9 k9 hz9 hc9 hst0
  go_wp2_with (refine wpList_store_eq rfl 33 _ _ rfl _ _ _ rfl rfl hst ?_)
  clear hst
  have q:=Z9.b
  go_wp2_with fail
  exact bodyPost_ret (v:=.tuple #[Pk.v noP,.iface 298 (.pointer (some (s e1)))]) (by simp[results,Tryz.results99,go_sem,q.c0,q.c1,q.c2,q.c3,q.c4,q.c5,Pk.v]) rfl ⟨by rw[HIP.out,HIE.out];rfl,by rw[HX.out];exact N9.more (by omega),K9⟩
def No.bck (x:No) (p:Pk):Option Nat:=fst x.T (backQ p.pr p.p2 p.a1 p.p1)
def No.otE (x:No) (p:Pk):Nat:=if x.chk p=0 then (if p.a2=1 then (match x.bck p with | some _=>0 | none=>4) else 3) else x.chk p
def No.otJ (x:No) (p:Pk):Option Nat:=if x.chk p=0 then (if p.a2=1 then x.bck p else none) else none
def No.otP (x:No) (p:Pk):Pk:=match x.otJ p with | some j=>⟨p.pr,p.a1,p.p1,(x.T j).ia,(x.T j).ip,p.fl⟩ | none=>noP
def No.ots (x:No) (p:Pk):No:=match x.otJ p with | some j=>x.stp j p.fl false | none=>x
theorem stp_ru (x:No) (j:Nat) (fl:Int) (ou:Bool):(x.stp j fl ou).ru=x.ru:=by unfold No.stp;split <;> rfl
theorem outside_nd {w0 w:World} {k:Bk} {x:No} {m n:Nat} {s:Nat->Addr} (S:SeM w0 s) (h:Nd w0 w k x m n) (hm:m<=1000000000) (h0:0<=x.now) (h1:x.now<=1000000000) (p:Pk) :
  Calls Tryz.prog 100 #[.pointer (some (k.nd,0)),p.v] w fun e w'=>e=.returned (.tuple #[(x.otP p).v,terr s (x.otE p)])/\Nd w0 w' k (x.ots p) (m+1) n/\ChgL k.all w w':=by
 have HS:Hid (SeM w0 s):=S
 have HN:Hid (Nd w0 w k x m n):=h
 have HW:Hid (0<=x.now/\x.now<=1000000000/\m<=1000000000):=⟨h0,h1,hm⟩
 clear S h h0 h1 hm
 go_enter Tryz.func100,Tryz.ntmps100
 go_wp2_with fail
 have B0:=aB w (.cells #[p.pr,p.a1,p.p1,p.a2,p.p2,p.fl] 33)
 have P1:Hid (PkZ ((w.alloc (.cells #[p.pr,p.a1,p.p1,p.a2,p.p2,p.fl] 33)).alloc (.cells #[.int .i64 0,.int .i64 0,.int .i64 0,.int .i64 0,.int .i64 0,.int .i64 0] 33)) w p):=(PkZ.new w p).below (aB _ _)
 have B1:Hid (Below w w ((w.alloc (.cells #[p.pr,p.a1,p.p1,p.a2,p.p2,p.fl] 33)).alloc (.cells #[.int .i64 0,.int .i64 0,.int .i64 0,.int .i64 0,.int .i64 0,.int .i64 0] 33))):=t2 B0 (aB _ _)
 have Z1:Hid (PkZ ((w.alloc (.cells #[p.pr,p.a1,p.p1,p.a2,p.p2,p.fl] 33)).alloc (.cells #[.int .i64 0,.int .i64 0,.int .i64 0,.int .i64 0,.int .i64 0,.int .i64 0] 33)) (w.heap.size+1) noP):=by
  have:=PkZ.zero (w.alloc (.cells #[p.pr,p.a1,p.p1,p.a2,p.p2,p.fl] 33))
  show PkZ _ _ _
  simpa using this
 clear B0
 generalize (w.alloc (.cells #[p.pr,p.a1,p.p1,p.a2,p.p2,p.fl] 33)).alloc (.cells #[.int .i64 0,.int .i64 0,.int .i64 0,.int .i64 0,.int .i64 0,.int .i64 0] 33)=w1 at *
 have N1:Hid (Nd w0 w1 k x m n):=HN.below B1
 have LW:Hid (w.heap.size<=w.heap.size):=Nat.le_refl _
 have LQ:Hid (w.heap.size<=w.heap.size+1):=Nat.le_succ _
 generalize hPe:w.heap.size=P at P1 Z1 LW LQ ⊢
 generalize hQe:P+1=Q at Z1 LQ ⊢
 have HNQ:Hid (¬Q ∈ k.all):=fun hm=>by have:=HN.lt _ hm;omega
 have HNP:Hid (¬P ∈ k.all):=fun hm=>by have:=HN.lt _ hm;omega
 refine(check_nd HS N1 p).mono ?_
 rintro e w2 ⟨rfl,hb2⟩
 have B2:Hid (Below w w w2):=t2 B1 hb2
 have N2:Hid (Nd w0 w2 k x m n):=HN.below B2
 have P2:Hid (PkZ w2 P p):=P1.below hb2
 have Z2:Hid (PkZ w2 Q noP):=Z1.below hb2
 have S2:Hid (SeM w2 s):=HS.below N2.bl
 clear hb2 B1 N1 P1 Z1
 by_cases hc:x.chk p=0
 ·have HCK:Hid (x.chk p=0):=hc
  rw[hc]
  clear hc
  simp only[terr]
  by_cases ha:p.a2=1
  ·have HA2:Hid (p.a2=1):=ha
   obtain⟨r0,r1,r2,r3,r4,r5⟩:=P2.b
   rw[ha]at r3
   clear ha
   go_upto_region 6 with fail
   clear r0 r1 r2 r3 r4 r5
   go_wp2_with fail
   obtain⟨o,ho⟩:∃o,x.bck p=o:=⟨_,rfl⟩
   have HO:Hid (x.bck p=o):=ho
   have HFD:Hid (∀u,Nd w0 u k x m n->Calls Tryz.prog 137 #[.pointer (some (k.tb,0)),p.pr,p.p2,.agg #[p.a1,p.p1]] u fun e w'=>e=.returned (.tuple #[.int .i64 ((o.getD 0:Nat):Int),.bool o.isSome])/\Below u u w'):=fun u hu=>by
    have:=back_any k.tb x.low x.T p.pr p.p2 p.a1 p.p1 u hu.tb
    rw[show fst x.T (backQ p.pr p.p2 p.a1 p.p1)=o from ho]at this
    exact this
   clear ho
   obtain⟨q0,q1,q2,_,q4,_⟩:=(P2.below (Below.refl _ _).drew).b
   have hS:w2.drew.cell? (k.nd,6)=some (.pointer (some (k.te,0)))/\w2.drew.cell? (k.te,0)=some (.pointer (some (k.tb,0)))/\w2.drew.cell? (P,0)=p.pr/\w2.drew.cell? (P,1)=p.a1/\w2.drew.cell? (P,2)=p.p1/\w2.drew.cell? (P,4)=p.p2:=⟨N2.c6,N2.t0,q0,q1,q2,q4⟩
   clear q0 q1 q2 q4
   go_region_held3 (fun w'=>w'.cell? (k.nd,6)=some (.pointer (some (k.te,0)))/\w'.cell? (k.te,0)=some (.pointer (some (k.tb,0)))/\w'.cell? (P,0)=p.pr/\w'.cell? (P,1)=p.a1/\w'.cell? (P,2)=p.p1/\w'.cell? (P,4)=p.p2)
    (first | assumption | exact⟨tk hb3 hS.1,tk hb3 hS.2.1,tk hb3 hS.2.2.1,tk hb3 hS.2.2.2.1,tk hb3 hS.2.2.2.2.1,tk hb3 hS.2.2.2.2.2⟩)
    (first | (go_at_call 137;refine(HFD _ N2.drew).mono ?_;rintro e w3 ⟨rfl,hb3⟩))
   have B3:Hid (Below w w w3):=t2 (t2 B2 (Below.refl _ _).drew) hb3
   have N3:Hid (Nd w0 w3 k x m n):=HN.below B3
   have P3:Hid (PkZ w3 P p):=(P2.below (Below.refl _ _).drew).below hb3
   have Z3:Hid (PkZ w3 Q noP):=(Z2.below (Below.refl _ _).drew).below hb3
   have S3:Hid (SeM w3 s):=HS.below N3.bl
   clear hS hb3 B2 N2 P2 Z2 S2 HFD
   cases o with
   | some j =>
    have HLT:Hid (j < 32):=fst_lt HO
    have HJ:Hid (x.otJ p=some j):=by show _=_;unfold No.otJ;rw[if_pos HCK.out,if_pos HA2.out,HO.out]
    have HE:Hid (x.otE p=0):=by show _=_;unfold No.otE;rw[if_pos HCK.out,if_pos HA2.out,HO.out]
    have HX:Hid (x.ots p=x.stp j p.fl false):=by show _=_;unfold No.ots;rw[HJ.out]
    have HRU:Hid ((x.stp j p.fl false).ru=x.ru):=stp_ru _ _ _ _
    simp only[Option.isSome_some,Option.getD_some]
    have r5:=P3.b.c5
    go_wp2_with fail
    clear r5
    refine(step_nd HS N3 HW.2.2 HW.1 HW.2.1 j HLT p.fl false).mono ?_
    rintro e w4 ⟨rfl,n4,k4⟩
    obtain⟨c,hcc⟩:∃c,x.T j=c:=⟨_,rfl⟩
    have HPP:Hid (x.otP p=⟨p.pr,p.a1,p.p1,c.ia,c.ip,p.fl⟩):=by show _=_;unfold No.otP;rw[HJ.out];simp only[hcc]
    rw[hcc]
    clear hcc
    simp only[flowV]
    have N4:Hid (Nd w0 w4 k (x.stp j p.fl false) (m+1) n):=n4
    have X4:Hid (ChgL k.all w w4):=(ChgL.of B3.out).trans k4
    have P4:Hid (PkZ w4 P p):=P3.chgL k4 HNP
    have Z4:Hid (PkZ w4 Q noP):=Z3.chgL k4 HNQ
    clear n4 k4 N3 P3 Z3 B3
    obtain⟨r0,r1,r2,r3,r4,r5⟩:=P4.b
    have pf:=P4.fr
    have hfd:(Instr.field 157 (.agg #[c.pr,c.ia,c.ip,c.fa,c.fp,c.po,c.st,c.un]) 1).run Tryz.prog w4=.ok (.agg #[c.ia,c.ip]) w4:=by kernel_rfl
    have hcg:=set_chg2 w4 P 3 4 c.ia c.ip
    have Z5:Hid (PkZ ((w4.setCell (P,3) c.ia).setCell (P,4) c.ip) Q noP):=Z4.chgL (ChgL.one (l:=[P]) hcg (by simp)) (by simp;omega)
    obtain⟨n5,k5⟩:=HN.fresh N4 HRU X4 hcg (by omega)
    obtain⟨w9,hst,hz9,hc9⟩:=pkz_store Z5 ⟨p.pr,p.a1,p.p1,c.ia,c.ip,p.fl⟩
    simp only at hst
    obtain⟨n9,k9⟩:=HN.fresh n5 HRU k5 hc9 (by omega)
    have N9:Hid (Nd w0 w9 k (x.stp j p.fl false) (m+1) n):=n9
    have K9:Hid (ChgL k.all w w9):=k9
    have Z9:Hid (PkZ w9 Q ⟨p.pr,p.a1,p.p1,c.ia,c.ip,p.fl⟩):=hz9
    clear n9 k9 hz9 hc9 n5 k5 hcg
    go_wp2_with (refine wpList_store_eq rfl 33 _ _ rfl _ _ _ rfl rfl hst ?_)
    clear hst r0 r1 r2 r3 r4 r5 pf
    have q:=Z9.b
    go_wp2_with fail
    exact bodyPost_ret (v:=.tuple #[Pk.v ⟨p.pr,p.a1,p.p1,c.ia,c.ip,p.fl⟩,.nilIface]) (by simp[results,Tryz.results100,go_sem,q.c0,q.c1,q.c2,q.c3,q.c4,q.c5,Pk.v]) rfl ⟨by rw[HPP.out,HE.out];rfl,by rw[HX.out];exact N9,K9⟩
   | none =>
    have HJ:Hid (x.otJ p=none):=by show _=_;unfold No.otJ;rw[if_pos HCK.out,if_pos HA2.out,HO.out]
    have HE:Hid (x.otE p=4):=by show _=_;unfold No.otE;rw[if_pos HCK.out,if_pos HA2.out,HO.out]
    have HX:Hid (x.ots p=x):=by show _=_;unfold No.ots;rw[HJ.out]
    have HPP:Hid (x.otP p=noP):=by show _=_;unfold No.otP;rw[HJ.out]
    simp only[Option.isSome_none,Option.getD_none]
    have s3:=S3.c3
    have hGQ : 4≠Q:=by have hg : 4 < w0.heap.size:=tlt HS.c3;have:=HN.bl.size;omega
    obtain⟨z0,z1,z2,z3,z4,z5⟩:=Z3.b
    have zf:=Z3.fr
    simp only[noP]at z0 z1 z2 z3 z4 z5
    go_wp2_with fail
    go_region
    all_goals go_wp2_with fail
    all_goals
     refine bodyPost_ret (v:=.tuple #[Pk.v noP,.iface 298 (.pointer (some (s 3)))]) (by simp[results,Tryz.results100,go_sem,z0,z1,z2,z3,z4,z5,Pk.v,noP]) rfl ?_
     rw[HPP.out,HE.out,HX.out]
     have hcc:∀W,Chg Q w3 W->Nd w0 W k x m n/\ChgL k.all w W:=fun W hc=>HN.fresh N3 rfl (ChgL.of B3.out) hc (by omega)
     refine⟨rfl,(fun q=>⟨q.1.more (by omega),q.2⟩) (hcc _ ?_)⟩
     exact(set0_chg6 w3 Q).then (Below.refl _ _).drew
  ·have HJ:Hid (x.otJ p=none):=by show _=_;unfold No.otJ;rw[if_pos HCK.out,if_neg ha]
   have HE:Hid (x.otE p=3):=by show _=_;unfold No.otE;rw[if_pos HCK.out,if_neg ha]
   have HX:Hid (x.ots p=x):=by show _=_;unfold No.ots;rw[HJ.out]
   have HPP:Hid (x.otP p=noP):=by show _=_;unfold No.otP;rw[HJ.out]
   have s2:=S2.c2
   have r3:=P2.b.c3
   have hGQ : 7≠Q:=by have hg : 7 < w0.heap.size:=tlt HS.c2;have:=HN.bl.size;omega
   obtain⟨z0,z1,z2,z3,z4,z5⟩:=Z2.b
   have zf:=Z2.fr
   simp only[noP]at z0 z1 z2 z3 z4 z5
   go_wp2_with fail
   go_region
   all_goals go_wp2_with fail
   all_goals
    refine bodyPost_ret (v:=.tuple #[Pk.v noP,.iface 298 (.pointer (some (s 2)))]) (by simp[results,Tryz.results100,go_sem,z0,z1,z2,z3,z4,z5,Pk.v,noP]) rfl ?_
    rw[HPP.out,HE.out,HX.out]
    have hcc:∀W,Chg Q w2 W->Nd w0 W k x m n/\ChgL k.all w W:=fun W hc=>HN.fresh N2 rfl (ChgL.of B2.out) hc (by omega)
    refine⟨rfl,(fun q=>⟨q.1.more (by omega),q.2⟩) (hcc _ ?_)⟩
    exact(set0_chg6 w2 Q).then (Below.refl _ _).drew
 ·obtain⟨e1,he1⟩:∃e1,x.chk p=e1+1:=⟨x.chk p - 1,by omega⟩
  have HE:Hid (x.otE p=e1+1):=by show _=_;unfold No.otE;rw[if_neg hc,he1]
  have HJ:Hid (x.otJ p=none):=by show _=_;unfold No.otJ;rw[if_neg hc]
  have HX:Hid (x.ots p=x):=by show _=_;unfold No.ots;rw[HJ.out]
  have HPP:Hid (x.otP p=noP):=by show _=_;unfold No.otP;rw[HJ.out]
  rw[he1]
  clear hc he1
  simp only[terr]
  obtain⟨w9,hst0,hz9,hc9⟩:=pkz_store Z2 noP
  have hst:(Instr.storeAt 33 (.pointer (some (Q,0))) (.agg #[.int .i64 0,.int .i64 0,.int .i64 0,.int .i64 0,.int .i64 0,.int .i64 0])).run Tryz.prog w2=.ok () w9:=hst0
  obtain⟨n9,k9⟩:=HN.fresh N2 rfl (ChgL.of B2.out) hc9 (by omega)
  have N9:Hid (Nd w0 w9 k x m n):=n9
  have K9:Hid (ChgL k.all w w9):=k9
  have Z9:Hid (PkZ w9 Q noP):=hz9
  clear n9 k9 hz9 hc9 hst0
  go_wp2_with (refine wpList_store_eq rfl 33 _ _ rfl _ _ _ rfl rfl hst ?_)
  clear hst
  have q:=Z9.b
  go_wp2_with fail
  exact bodyPost_ret (v:=.tuple #[Pk.v noP,.iface 298 (.pointer (some (s e1)))]) (by simp[results,Tryz.results100,go_sem,q.c0,q.c1,q.c2,q.c3,q.c4,q.c5,Pk.v]) rfl ⟨by rw[HPP.out,HE.out];rfl,by rw[HX.out];exact N9.more (by omega),K9⟩
theorem hear_any (b:Nat) (r:Ro) (n:Int) (w:World) (R:Rol w b r) :
  Calls Tryz.prog 170 #[.pointer (some (b,0)),n] w fun e w'=>e=.returned (.bool (r.falls n))/\Rol w' b (r.hear n)/\Chg b w w':=by
 obtain⟨nd,ep,si,ac⟩:=r
 have HR:Hid (Rol w b ⟨nd,ep,si,ac⟩):=R
 have g1:w.cell? (b,1)=ep:=R.c1
 have g2:w.cell? (b,2)=si:=R.c2
 have g3:w.cell? (b,3)=some (.bool ac):=R.c3
 have f1:=R.fr 1
 have f2:=R.fr 2
 have f3:=R.fr 3
 clear R
 cases hp:isEpR n
 ·have HP:Hid (isEpR n=false):=hp
  have HH:Hid ((⟨nd,ep,si,ac⟩:Ro).heard n=false):=by show _=_;unfold Ro.heard;rw[hp];rfl
  have HF:Hid ((⟨nd,ep,si,ac⟩:Ro).falls n=false):=by show _=_;unfold Ro.falls;rw[HH.out];rfl
  have HQ:Hid ((⟨nd,ep,si,ac⟩:Ro).hear n=⟨nd,ep,si,ac⟩):=by show _=_;unfold Ro.hear;rw[HH.out];rfl
  clear hp
  go_enter Tryz.func170,Tryz.ntmps170
  go_wp2_with fail
  refine(isEpochR_any n w).mono ?_
  rintro e w1 ⟨rfl,rfl⟩
  rw[HP.out]
  go_wp2_with fail
  go_ret
  exact⟨by rw[HF.out];rfl,by rw[HQ.out];exact HR,Chg.refl _ _⟩
 ·have HP:Hid (isEpR n=true):=hp
  by_cases hl:n < ep
  ·have HH:Hid ((⟨nd,ep,si,ac⟩:Ro).heard n=false):=by show _=_;unfold Ro.heard;rw[hp];simp[hl]
   have HF:Hid ((⟨nd,ep,si,ac⟩:Ro).falls n=false):=by show _=_;unfold Ro.falls;rw[HH.out];rfl
   have HQ:Hid ((⟨nd,ep,si,ac⟩:Ro).hear n=⟨nd,ep,si,ac⟩):=by show _=_;unfold Ro.hear;rw[HH.out];rfl
   clear hp
   go_enter Tryz.func170,Tryz.ntmps170
   go_wp2_with fail
   refine(isEpochR_any n w).mono ?_
   rintro e w1 ⟨rfl,rfl⟩
   rw[HP.out]
   go_wp2_with fail
   go_ret
   exact⟨by rw[HF.out];rfl,by rw[HQ.out];exact HR,Chg.refl _ _⟩
  ·have HH:Hid ((⟨nd,ep,si,ac⟩:Ro).heard n=true):=by show _=_;unfold Ro.heard;rw[hp];simp[hl]
   have HF:Hid ((⟨nd,ep,si,ac⟩:Ro).falls n=(ac && decide (ep < n))):=by show _=_;unfold Ro.falls;rw[HH.out];rfl
   have HQ:Hid ((⟨nd,ep,si,ac⟩:Ro).hear n=⟨nd,n,0,ac && !decide (ep < n)⟩):=by show _=_;unfold Ro.hear;rw[HH.out];rfl
   clear hp
   cases ac
   ·go_enter Tryz.func170,Tryz.ntmps170
    go_wp2_with fail
    refine(isEpochR_any n w).mono ?_
    rintro e w1 ⟨rfl,rfl⟩
    rw[HP.out]
    go_wp2_with fail
    go_ret
    exact⟨by rw[HF.out];rfl,by rw[HQ.out];exact((HR.ac false).ep n).si 0,((Chg.set _ _ _ _).trans (Chg.set _ _ _ _)).trans (Chg.set _ _ _ _)⟩
   ·by_cases hg:ep < n
    ·rw[decide_eq_true hg]at HF HQ
     go_enter Tryz.func170,Tryz.ntmps170
     go_wp2_with fail
     refine(isEpochR_any n w).mono ?_
     rintro e w1 ⟨rfl,rfl⟩
     rw[HP.out]
     go_wp2_with fail
     go_ret
     exact⟨by rw[HF.out];rfl,by rw[HQ.out];exact((HR.ac false).ep n).si 0,((Chg.set _ _ _ _).trans (Chg.set _ _ _ _)).trans (Chg.set _ _ _ _)⟩
    ·rw[decide_eq_false hg]at HF HQ
     have hd:decide (ep < n)=false:=decide_eq_false hg
     clear hg
     go_enter Tryz.func170,Tryz.ntmps170
     go_wp2_with fail
     refine(isEpochR_any n w).mono ?_
     rintro e w1 ⟨rfl,rfl⟩
     rw[HP.out]
     go_wp2_with fail
     go_ret
     exact⟨by rw[HF.out];rfl,by rw[HQ.out];exact((HR.ac true).ep n).si 0,((Chg.set _ _ _ _).trans (Chg.set _ _ _ _)).trans (Chg.set _ _ _ _)⟩
theorem mslot_any (k:Int) (w:World):Calls Tryz.prog 208 #[k] w fun e w'=>e=.returned (.bool (decide (0<=k) && decide (k < 32)))/\w'=w:=by
 go_enter Tryz.func208,Tryz.ntmps208
 go_wp2_with fail
 all_goals go_ret
 all_goals refine⟨?_,rfl⟩
 all_goals first | (simp_all;done) | (simp_all;omega)
abbrev badFn:Value:=.func (.func 207) #[] #[]
theorem bad_any (x:Tc) (w:World):Calls Tryz.prog 207 #[tcV x] w fun e w'=>e=.returned (.bool (!okS x))/\Below w w w':=by
 unfold tcV
 have HO:Hid (okS x=(decide (0<=x.sl) && decide (x.sl < 32))):=rfl
 go_enter Tryz.func207,Tryz.ntmps207
 go_wp2_with fail
 refine(mslot_any x.sl _).mono ?_
 rintro e w1 ⟨rfl,rfl⟩
 rw[<- HO.out]
 go_wp2_with fail
 go_ret
 exact⟨rfl,aB _ _⟩
theorem mindex_any (p:Option Addr) (cap:Nat) (l:List Tc) (w:World) (R:TcR w p l) (hl:l.length<=100000) :
  Calls Tryz.prog 237 #[.slice p l.length cap,badFn] w fun e w'=>(∃k:Int,e=.returned k/\decide (k ≥ 0)=l.any fun x=>!okS x)/\Below w w w':=by
 have HR:Hid (TcR w p l):=R
 clear R
 go_enter Tryz.func237,Tryz.ntmps237
 go_wp2_with fail
 go_loopw [8] (fun t wr=>∃j:Nat,j<=l.length/\t=.int .i64 j/\((l.take j).any fun x=>!okS x)=false/\Below w w wr) (fun t _=>l.length - (intOf t).toNat)
 case atStart=>exact⟨0,Nat.zero_le _,rfl,rfl,Below.refl _ _⟩
 case round =>
  obtain⟨j,hj,rfl,hno,hbr⟩:=hrel
  have HN:Hid (((l.take j).any fun x=>!okS x)=false):=hno
  have HB:Hid (Below w w wr):=hbr
  clear hno hbr
  by_cases hlt:j < l.length
  ·have hr:l[j]? = some l[j]:=List.getElem?_eq_getElem hlt
   obtain⟨y,hy⟩:∃y,y=l[j]:=⟨_,rfl⟩
   rw[<- hy]at hr
   have HY:Hid (l[j]? = some y):=hr
   clear hy
   obtain⟨g,o,rfl,hc⟩:=HR.out j y hr
   have hc:=hc.below HB
   have c0:=hc.c0
   have c1:=hc.c1
   have c2:=hc.c2
   have c3:=hc.c3
   have c4:=hc.c4
   have c5:=hc.c5
   have c6:=hc.c6
   have c7:=hc.c7
   have c8:=hc.c8
   have c9:=hc.c9
   clear hr hc
   go_wp2_with fail
   refine(bad_any y _).mono ?_
   rintro e w2 ⟨rfl,hb2⟩
   have HB2:Hid (Below w w w2):=t2 HB hb2
   clear hb2 c0 c1 c2 c3 c4 c5 c6 c7 c8 c9
   rcases hd:okS y with _ | _
   ·have HT:Hid ((l.any fun x=>!okS x)=true):=by
     show _=_
     rw[List.any_eq_true]
     exact⟨y,List.mem_of_getElem? HY,by rw[hd];rfl⟩
    clear hd
    go_wp2_with fail
    go_ret
    exact⟨⟨_,rfl,by rw[HT.out,decide_eq_true_iff];omega⟩,HB2⟩
   ·have HT:Hid (((l.take (j+1)).any fun x=>!okS x)=false):=by
     show _=_
     rw[List.take_add_one,HY.out,List.any_append,HN.out]
     simp only[Option.toList_some,List.any_cons,List.any_nil,hd,Bool.or_false,Bool.not_true]
    clear hd
    go_wp2_with fail
    go_roundw
    case rel=>exact⟨j+1,by omega,by go_num,HT,HB2⟩
    case measure=>simp[intOf];omega
  ·obtain rfl:j=l.length:=by omega
   rw[List.take_length]at HN
   go_wp2_with fail
   go_ret
   exact⟨⟨_,rfl,by rw[HN.out];rfl⟩,HB⟩
theorem mcontains_any (p:Option Addr) (cap:Nat) (l:List Tc) (w:World) (R:TcR w p l) (hl:l.length<=100000) :
  Calls Tryz.prog 206 #[.slice p l.length cap,badFn] w fun e w'=>e=.returned (.bool (l.any fun x=>!okS x))/\Below w w w':=by
 have HR:Hid (TcR w p l):=R
 clear R
 go_enter Tryz.func206,Tryz.ntmps206
 go_wp2_with fail
 refine(mindex_any p cap l _ HR hl).mono ?_
 rintro e w2 ⟨⟨k,rfl,hk⟩,hb2⟩
 have HB2:Hid (Below w w w2):=hb2
 have HK:Hid (decide (k ≥ 0)=l.any fun x=>!okS x):=hk
 clear hb2 hk
 go_wp2_with fail
 all_goals go_ret
 all_goals refine⟨?_,HB2⟩
 all_goals rw[<- HK.out]
 all_goals rfl
theorem put_all (d c:Ce):(((((((((d.put c.ve 1).put c.pr 2).put c.ia 3).put c.ip 4).put c.fa 5).put c.fp 6).put c.po 7).put c.st 8).put c.un 9)=c:=by
 cases c
 rfl
theorem mir_put10 {w:World} {b:Nat} {life:Int} {T:Tb} (h:Mir w b life T) (k:Nat) (c:Ce) (hk:k < 32):Mir ((((((((((w.setCell (b,1+k * 10) k).setCell (b,1+k * 10+1) c.ve).setCell (b,1+k * 10+2) c.pr).setCell (b,1+k * 10+3) c.ia).setCell (b,1+k * 10+4) c.ip).setCell (b,1+k * 10+5) c.fa).setCell (b,1+k * 10+6) c.fp).setCell (b,1+k * 10+7) c.po).setCell (b,1+k * 10+8) c.st).setCell (b,1+k * 10+9) c.un) b life (upd T k c):=by
 have h:=h.putSlot (i:=k) hk
 have h:=h.put (i:=k) (k:=1) c.ve hk (by omega) (by omega)
 have h:=h.put (i:=k) (k:=2) c.pr hk (by omega) (by omega)
 have h:=h.put (i:=k) (k:=3) c.ia hk (by omega) (by omega)
 have h:=h.put (i:=k) (k:=4) c.ip hk (by omega) (by omega)
 have h:=h.put (i:=k) (k:=5) c.fa hk (by omega) (by omega)
 have h:=h.put (i:=k) (k:=6) c.fp hk (by omega) (by omega)
 have h:=h.put (i:=k) (k:=7) c.po hk (by omega) (by omega)
 have h:=h.put (i:=k) (k:=8) c.st hk (by omega) (by omega)
 have h:=h.put (i:=k) (k:=9) c.un hk (by omega) (by omega)
 simp only[upd_same,upd_upd,put_all]at h
 exact h
theorem mchg_put10 (w:World) (b k:Nat) (c:Ce):Chg b w ((((((((((w.setCell (b,1+k * 10) k).setCell (b,1+k * 10+1) c.ve).setCell (b,1+k * 10+2) c.pr).setCell (b,1+k * 10+3) c.ia).setCell (b,1+k * 10+4) c.ip).setCell (b,1+k * 10+5) c.fa).setCell (b,1+k * 10+6) c.fp).setCell (b,1+k * 10+7) c.po).setCell (b,1+k * 10+8) c.st).setCell (b,1+k * 10+9) c.un) :=
 (((((((((Chg.set b _ w _).trans (Chg.set b _ _ _)).trans (Chg.set b _ _ _)).trans (Chg.set b _ _ _)).trans (Chg.set b _ _ _)).trans (Chg.set b _ _ _)).trans (Chg.set b _ _ _)).trans (Chg.set b _ _ _)).trans (Chg.set b _ _ _)).trans (Chg.set b _ _ _)
theorem take_nat (b:Nat) (life:Int) (T:Tb) (k:Nat) (c:Ce) (w:World) (M:Mir w b life T) (hk:k < 32) :
  Calls Tryz.prog 209 #[.pointer (some (b,0)),.agg #[k,c.ve,c.pr,c.ia,c.ip,c.fa,c.fp,c.po,c.st,c.un]] w fun e w'=>e=.returned (.tuple #[])/\Mir w' b life (if (T k).ve < c.ve then upd T k c else T)/\Chg b w w':=by
 obtain⟨x,hx⟩:∃x,x=(T k).ve:=⟨_,rfl⟩
 have HM:Hid (Mir w b life T):=M
 have HXE:Hid (x=(T k).ve):=hx
 have hi0:(0:Int)<=(k:Int):=by omega
 have hi1:(k:Int) < 32:=by omega
 rw[<- hx]
 clear M hx
 have M0:Hid (Mir (w.alloc (.cells #[k,c.ve,c.pr,c.ia,c.ip,c.fa,c.fp,c.po,c.st,c.un] 159)) b life T):=HM.below (aB _ _)
 have C0:Hid (Chg b w (w.alloc (.cells #[k,c.ve,c.pr,c.ia,c.ip,c.fa,c.fp,c.po,c.st,c.un] 159))):=Chg.of (aB _ _)
 have HX:Hid (TcAt (w.alloc (.cells #[k,c.ve,c.pr,c.ia,c.ip,c.fa,c.fp,c.po,c.st,c.un] 159)) w 0 ⟨k,c⟩):=tcAt_new w ⟨k,c⟩ _
 have HN:Hid (w.heap.size≠b):=fun e=>by have:=HM.lt;omega
 by_cases hlt:x < c.ve
 ·rw[if_pos hlt]
  go_enter Tryz.func209,Tryz.ntmps209
  go_wp2_with fail
  generalize w.alloc (.cells #[k,c.ve,c.pr,c.ia,c.ip,c.fa,c.fp,c.po,c.st,c.un] 159)=w0 at *
  obtain⟨Z,hZ⟩:∃Z,Z=w.heap.size:=⟨_,rfl⟩
  rw[<- hZ]at HX HN ⊢
  clear hZ HM
  have m1:w0.cell? (b,1+k * 10+1)=x:=by rw[HXE.out];exact M0.at' hk (by omega)
  have a0:=HX.c0
  have a1:=HX.c1
  simp only[Nat.zero_add]at a1
  go_wp2_with fail
  go_region
  have M1:Hid (Mir w0.drew b life T):=M0.below (Below.refl _ _).drew
  have C1:Hid (Chg b w w0.drew):=C0.then (Below.refl _ _).drew
  have HX1:Hid (TcAt w0.drew Z 0 ⟨k,c⟩):=HX.below (Below.refl _ _).drew
  generalize w0.drew=w1 at *
  clear a0 a1 m1 M0 C0 HX
  have a0:=HX1.c0
  have a1:=HX1.c1
  have a2:=HX1.c2
  have a3:=HX1.c3
  have a4:=HX1.c4
  have a5:=HX1.c5
  have a6:=HX1.c6
  have a7:=HX1.c7
  have a8:=HX1.c8
  have a9:=HX1.c9
  have g0:=M1.at' (k:=0) hk (by omega)
  have g1:=M1.at' (k:=1) hk (by omega)
  have g2:=M1.at' (k:=2) hk (by omega)
  have g3:=M1.at' (k:=3) hk (by omega)
  have g4:=M1.at' (k:=4) hk (by omega)
  have g5:=M1.at' (k:=5) hk (by omega)
  have g6:=M1.at' (k:=6) hk (by omega)
  have g7:=M1.at' (k:=7) hk (by omega)
  have g8:=M1.at' (k:=8) hk (by omega)
  have g9:=M1.at' (k:=9) hk (by omega)
  simp only[Nat.zero_add,Nat.add_zero]at a1 a2 a3 a4 a5 a6 a7 a8 a9 g0
  have fz:=M1.fr
  go_wp2_with fail
  go_region
  go_end0
  exact⟨rfl,(mir_put10 M1 k c hk).below (Below.refl _ _).drew,(C1.trans (mchg_put10 _ _ _ _)).then (Below.refl _ _).drew⟩
 ·rw[if_neg hlt]
  go_enter Tryz.func209,Tryz.ntmps209
  go_wp2_with fail
  generalize w.alloc (.cells #[k,c.ve,c.pr,c.ia,c.ip,c.fa,c.fp,c.po,c.st,c.un] 159)=w0 at *
  obtain⟨Z,hZ⟩:∃Z,Z=w.heap.size:=⟨_,rfl⟩
  rw[<- hZ]at HX HN ⊢
  clear hZ HM
  have m1:w0.cell? (b,1+k * 10+1)=x:=by rw[HXE.out];exact M0.at' hk (by omega)
  have a0:=HX.c0
  have a1:=HX.c1
  simp only[Nat.zero_add]at a1
  go_wp2_with fail
  go_region
  go_wp2_with fail
  go_end0
  exact⟨rfl,M0.below (Below.refl _ _).drew,C0.then (Below.refl _ _).drew⟩
theorem take_any (b:Nat) (life:Int) (T:Tb) (x:Tc) (w:World) (M:Mir w b life T) (hx:okS x=true) :
  Calls Tryz.prog 209 #[.pointer (some (b,0)),.agg #[x.sl,x.c.ve,x.c.pr,x.c.ia,x.c.ip,x.c.fa,x.c.fp,x.c.po,x.c.st,x.c.un]] w fun e w'=>e=.returned (.tuple #[])/\Mir w' b life (takeT T x)/\Chg b w w':=by
 obtain⟨sl,c⟩:=x
 have h:=okS_iff.1 hx
 simp only at h
 obtain⟨k,rfl⟩:∃k:Nat,sl=k:=⟨sl.toNat,by omega⟩
 exact take_nat b life T k c w M (by omega)
end Go.Proofs.YtgoalkeljpdmgaaGreatDoor
