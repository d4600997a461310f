/-
  What the claimed theorem reaches, part Q17.
-/
import Derived.Test.YtdpmeoflgpaljaaGreatDoorQ16
import Derived.Test.YtdpmeoflgpaljaaGreatDoorQ00
namespace Go.Proofs.YtdpmeoflgpaljaaGreatDoor
open Go.RowKit
set_option maxRecDepth 100000
set_option maxHeartbeats 8000000
section
variable {w:World} {Q:Nat} {p:Pk} {pr:Int} {s:Nat->Addr}
def PkZ (w:World) (Q:Nat) (p:Pk):Prop:=w.heap[Q]? = some (.cells #[p.pr,p.a1,p.p1,p.a2,p.p2,p.fl] 144 (0,0))
theorem PkZ.lt (h:PkZ w Q p):Q < w.heap.size:=by
 rcases Nat.lt_or_ge Q w with a | a
 ·exact a
 ·unfold PkZ at h;rw[Array.getElem?_eq_none a]at h;cases h
theorem PkZ.below {w':World} (h:PkZ w Q p) (hb:Below w w w'):PkZ w' Q p:=by unfold PkZ;rw[hb.block Q h.lt];exact h
theorem PkZ.chgL {w':World} {l:List Nat} (h:PkZ w Q p) (hb:ChgL l w w') (hn:¬Q ∈ l):PkZ w' Q p:=by unfold PkZ;rw[hb.block Q h.lt hn];exact h
theorem PkZ.c (h:PkZ w Q p) (i:Nat):w.cell? (Q,i)=(#[p.pr,p.a1,p.p1,p.a2,p.p2,p.fl]:Array Value)[i]? := cell_of_row w _ _ _ _ _ h
theorem PkZ.fr (h:PkZ w Q p) (i:Nat):w.frozen? (Q,i)=false:=frozen_of_row w _ i _ _ h
structure PkB6 (w:World) (Q:Nat) (p:Pk):Prop where
 c0:w.cell? (Q,0)=p.pr
 c1:w.cell? (Q,1)=p.a1
 c2:w.cell? (Q,2)=p.p1
 c3:w.cell? (Q,3)=p.a2
 c4:w.cell? (Q,4)=p.p2
 c5:w.cell? (Q,5)=p.fl
theorem PkZ.b (h:PkZ w Q p):PkB6 w Q p:=⟨h.c 0,h.c 1,h.c 2,h.c 3,h.c 4,h.c 5⟩
theorem PkZ.new (w:World) (p:Pk):PkZ (w.alloc (.cells #[p.pr,p.a1,p.p1,p.a2,p.p2,p.fl] 144)) w p:=heap_alloc_new w _
def No.addR (x:No) (p:Pk):Nat×Nat×Tb:=addT x.T x.low p.pr p.a1 p.p1 p.a2 p.p2 (bgnS p.pr p.fl) (x.now+stay p.pr (bgnS p.pr p.fl))
def No.bgE (x:No) (p:Pk):Nat:=if adm x.ru p.pr true p.p2 then (if bgnE p.pr p.fl=0 then (x.addR p).2.1 else bgnE p.pr p.fl) else 8
def No.bg (x:No) (p:Pk):No:=if x.bgE p=0 then {x with T:=(x.addR p).2.2} else x
def No.bgF (x:No) (p:Pk):Ce:=if x.bgE p=0 then (x.addR p).2.2 (x.addR p).1 else noC
theorem bgn_in {fl:Int} :In6 (bgnS pr fl):=by unfold bgnS;repeat' split;all_goals exact In6.small (by omega) (by omega)
theorem addT_keeps {T:Tb} {low ia ip fa fp st un:Int} (h:(addT T low pr ia ip fa fp st un).2.1≠0):(addT T low pr ia ip fa fp st un).2.2=T:=by
 revert h
 unfold addT
 repeat' split
 all_goals simp
theorem addT_lt {T:Tb} {low ia ip fa fp st un:Int} (h:(addT T low pr ia ip fa fp st un).2.1=0):(addT T low pr ia ip fa fp st un).1 < 32:=by
 revert h
 unfold addT
 repeat' split
 all_goals simp
 all_goals exact fst_lt (by assumption)
theorem tadd_nd {w0:World} {k:Bk} {x:No} {m n:Nat} (S:SeM w0 s) (h:Nd w0 w k x m n) (hm:m<=1000000000) (p:Pk) (hp:In6 p.pr) :
  Calls Tryz.prog 227 #[.pointer (some (k.tb,0)),p.pr,.agg #[p.a1,p.p1],.agg #[p.a2,p.p2],.int .i64 (bgnS p.pr p.fl),.int .i64 (x.now+stay p.pr (bgnS p.pr p.fl))] w fun e w'=>e=.returned (.tuple #[.int .i64 ((x.addR p).1:Nat),terr s (x.addR p).2.1])/\Nd w0 w' k {x with T:=(x.addR p).2.2} (m+1) n/\ChgL k.all w w':=by
 have hid:=h.id
 have hlow:0<=x.low/\x.low<=100000:=by unfold No.low;omega
 refine(add_an2 k.tb x.low x.T p.pr p.a1 p.p1 p.a2 p.p2 (bgnS p.pr p.fl) (x.now+stay p.pr (bgnS p.pr p.fl)) m s w (S.below h.bl).n.s45 h.tb hlow.1 hlow.2 h.vs hm).mono ?_
 rintro e w' ⟨rfl,t,q⟩
 exact⟨rfl,h.onTb t (h.vs.add _ _ _ _ _ _ _ _) (h.wt.add _ _ _ _ _ _ _ _ hp bgn_in) q,ChgL.one q k.m_tb⟩
theorem adm_v {l:List Rl} {v:Value} {b:Bool} (h:RulesOk l) (hp:p.err=0) (a:AdmV s w l p.pr p.a1 p.p1 p.a2 p.p2 p.fl true v b):v=.nilIface/\b=adm l p.pr true p.p2:=by
 rcases a with⟨q,_⟩ | ⟨_,⟨e,q,_⟩,_⟩ | ⟨_,_,q1,q2⟩
 ·exact absurd h q
 ·unfold Pk.err at hp;rw[q]at hp;cases hp
 ·exact⟨q1,q2⟩
theorem set0_chg (w:World) (Q:Nat):Chg Q w ((((((((w.setCell (Q,0) (.int .i64 0)).setCell (Q,1) (.int .i64 0)).setCell (Q,2) (.int .i64 0)).setCell (Q,3) (.int .i64 0)).setCell (Q,4) (.int .i64 0)).setCell (Q,5) (.int .i64 0)).setCell (Q,6) (.int .i64 0)).setCell (Q,7) (.int .i64 0)) :=
 (((((((Chg.set _ _ _ _).trans (Chg.set _ _ _ _)).trans (Chg.set _ _ _ _)).trans (Chg.set _ _ _ _)).trans (Chg.set _ _ _ _)).trans (Chg.set _ _ _ _)).trans (Chg.set _ _ _ _)).trans (Chg.set _ _ _ _)
theorem begin_nd {w0:World} {k:Bk} {x:No} {m n:Nat} (S:SeM w0 s) (h:Nd w0 w k x m n) (hm:m<=1000000000) (h0:0<=x.now) (h1:x.now<=1000000000) (hr:RulesOk x.ru) (p:Pk) (hp:p.err=0) (hpp:In6 p.pr) :
  Calls Tryz.prog 208 #[.pointer (some (k.nd,0)),p.v] w fun e w'=>e=.returned (.tuple #[flowV (x.bgF p),terr s (x.bgE p)])/\Nd w0 w' k (x.bg p) (m+1) n/\ChgL k.all w w':=by
 have HS:Hid (SeM w0 s):=S
 have HN:Hid (Nd w0 w k x m n):=h
 have HW:Hid (0<=x.now/\x.now<=1000000000/\m<=1000000000):=⟨h0,h1,hm⟩
 have HR:Hid (RulesOk x.ru):=hr
 have HP:Hid (p.err=0):=hp
 have HPP:Hid (In6 p.pr):=hpp
 clear S h h0 h1 hm hr hp hpp
 go_enter Tryz.func208,Tryz.ntmps208
 go_upto_region 1 with fail
 go_wp2_with fail
 have B0:=aB w (.cells #[p.pr,p.a1,p.p1,p.a2,p.p2,p.fl] 144)
 have P1:Hid (PkZ ((w.alloc (.cells #[p.pr,p.a1,p.p1,p.a2,p.p2,p.fl] 144)).alloc (.cells #[.int .i64 0,.int .i64 0,.int .i64 0,.int .i64 0,.int .i64 0,.int .i64 0,.int .i64 0,.int .i64 0] 110)) w p):=(PkZ.new w p).below (aB _ _)
 have B1:Hid (Below w w ((w.alloc (.cells #[p.pr,p.a1,p.p1,p.a2,p.p2,p.fl] 144)).alloc (.cells #[.int .i64 0,.int .i64 0,.int .i64 0,.int .i64 0,.int .i64 0,.int .i64 0,.int .i64 0,.int .i64 0] 110))):=t2 B0 (aB _ _)
 have Z1:Hid (FlZ ((w.alloc (.cells #[p.pr,p.a1,p.p1,p.a2,p.p2,p.fl] 144)).alloc (.cells #[.int .i64 0,.int .i64 0,.int .i64 0,.int .i64 0,.int .i64 0,.int .i64 0,.int .i64 0,.int .i64 0] 110)) (w.heap.size+1) noC):=by
  have:=FlZ.zero (w.alloc (.cells #[p.pr,p.a1,p.p1,p.a2,p.p2,p.fl] 144))
  show FlZ _ _ _
  simpa using this
 clear B0
 generalize (w.alloc (.cells #[p.pr,p.a1,p.p1,p.a2,p.p2,p.fl] 144)).alloc (.cells #[.int .i64 0,.int .i64 0,.int .i64 0,.int .i64 0,.int .i64 0,.int .i64 0,.int .i64 0,.int .i64 0] 110)=w1 at *
 have N1:Hid (Nd w0 w1 k x m n):=HN.below B1
 have LW:Hid (w.heap.size<=w.heap.size):=Nat.le_refl _
 have LQ:Hid (w.heap.size<=w.heap.size+1):=Nat.le_succ _
 generalize hPe:w.heap.size=P at P1 Z1 LW LQ ⊢
 generalize hQe:P+1=Q at Z1 LQ ⊢
 have S1:Hid (∀u,Below w1 w1 u->SeM u s):=fun u hu=>(HS.below N1.bl).below hu
 have HNQ:Hid (¬Q ∈ k.all):=fun hm=>by have:=HN.lt _ hm;omega
 have HNP:Hid (¬P ∈ k.all):=fun hm=>by have:=HN.lt _ hm;omega
 have HAD:Hid (∀u,Nd w0 u k x m n->Calls Tryz.prog 225 #[.slice k.rp x.ru.length k.rc,pkt p.pr p.a1 p.p1 p.a2 p.p2 p.fl,.bool true] u fun e w'=>e=.returned (.tuple #[.bool (adm x.ru p.pr true p.p2),.nilIface])/\Below u u w'):=fun u hu=>by
  refine(admits_any k.rp x.ru k.rc p.pr p.a1 p.p1 p.a2 p.p2 p.fl true s u (HS.below hu.bl).n.sn hu.ru (by have:=HR.1;omega)).mono ?_
  rintro e w' ⟨⟨v,b,rfl,a⟩,hb⟩
  obtain⟨rfl,rfl⟩:=adm_v HR HP a
  exact⟨rfl,hb⟩
 have hS:w1.drew.cell? (k.nd,4)=some (.slice k.rp x.ru.length k.rc)/\PkB6 w1.drew P p:=⟨N1.c4,(P1.below (Below.refl _ _).drew).b⟩
 obtain⟨g4,q0,q1,q2,q3,q4,q5⟩:=hS
 have hS:w1.drew.cell? (k.nd,4)=some (.slice k.rp x.ru.length k.rc)/\w1.drew.cell? (P,0)=p.pr/\w1.drew.cell? (P,1)=p.a1/\w1.drew.cell? (P,2)=p.p1/\w1.drew.cell? (P,3)=p.a2/\w1.drew.cell? (P,4)=p.p2/\w1.drew.cell? (P,5)=p.fl:=⟨g4,q0,q1,q2,q3,q4,q5⟩
 clear g4 q0 q1 q2 q3 q4 q5
 obtain⟨ad,had⟩:∃ad,adm x.ru p.pr true p.p2=ad:=⟨_,rfl⟩
 have HADE:Hid (adm x.ru p.pr true p.p2=ad):=had
 rw[had]at HAD
 clear had
 go_region_held3 (fun w'=>w'.cell? (k.nd,4)=some (.slice k.rp x.ru.length k.rc)/\w'.cell? (P,0)=p.pr/\w'.cell? (P,1)=p.a1/\w'.cell? (P,2)=p.p1/\w'.cell? (P,3)=p.a2/\w'.cell? (P,4)=p.p2/\w'.cell? (P,5)=p.fl)
  (first | assumption | exact⟨tk hb2 hS.1,tk hb2 hS.2.1,tk hb2 hS.2.2.1,tk hb2 hS.2.2.2.1,tk hb2 hS.2.2.2.2.1,tk hb2 hS.2.2.2.2.2.1,tk hb2 hS.2.2.2.2.2.2⟩)
  (first | (go_at_call 225;refine(HAD _ N1.drew).mono ?_;rintro e w2 ⟨rfl,hb2⟩))
 have B2:Hid (Below w w w2):=t2 (t2 B1 (Below.refl _ _).drew) hb2
 have N2:Hid (Nd w0 w2 k x m n):=HN.below B2
 have P2:Hid (PkZ w2 P p):=(P1.below (Below.refl _ _).drew).below hb2
 have Z2:Hid (FlZ w2 Q noC):=(Z1.below (Below.refl _ _).drew).below hb2
 have S2:Hid (SeM w2 s):=HS.below N2.bl
 clear hS hb2 B1 N1 P1 Z1 S1 HAD
 cases ad
 ·have HE:Hid (x.bgE p=8):=by show _=_;unfold No.bgE;rw[HADE.out];rfl
  have HB:Hid (x.bg p=x):=by show _=_;unfold No.bg;rw[HE.out];rfl
  have HF:Hid (x.bgF p=noC):=by show _=_;unfold No.bgF;rw[HE.out];rfl
  have s7:=S2.c7
  have hGQ : 8≠Q:=by have hg : 8 < w0.heap.size:=tlt HS.c7;have:=HN.bl.size;omega
  have z:=Z2.b
  have z0:=z.c0
  have z1:=z.c1
  have z2:=z.c2
  have z3:=z.c3
  have z4:=z.c4
  have z5:=z.c5
  have z6:=z.c6
  have z7:=z.c7
  have zf:=Z2.fr
  simp only[noC]at z0 z1 z2 z3 z4 z5 z6 z7
  clear z
  go_wp2_with fail
  go_region
  all_goals go_wp2_with fail
  all_goals
   refine bodyPost_ret (v:=.tuple #[flowV noC,.iface 310 (.pointer (some (s 7)))]) (by simp[results,Tryz.results208,go_sem,z0,z1,z2,z3,z4,z5,z6,z7,flowV,noC]) rfl ?_
   rw[HF.out,HE.out,HB.out]
   have hcc:∀W,Chg Q w2 W->Nd w0 W k x m n/\ChgL k.all w W:=fun W hc=>HN.fresh N2 rfl (ChgL.of B2.out) hc (by omega)
   refine⟨rfl,(fun q=>⟨q.1.more (by omega),q.2⟩) (hcc _ ?_)⟩
   exact(set0_chg w2 Q).then (Below.refl _ _).drew
 ·have HA:Hid (x.bgE p=if bgnE p.pr p.fl=0 then (x.addR p).2.1 else bgnE p.pr p.fl):=by show _=_;unfold No.bgE;rw[HADE.out];rfl
  have p0:=P2.b.c0
  have p5:=P2.b.c5
  go_wp2_with fail
  clear p0 p5
  refine(begin_any p.pr p.fl s w2 ⟨S2.c1,S2.c8⟩).mono ?_
  rintro e w3 ⟨rfl,hb3⟩
  have B3:Hid (Below w w w3):=t2 B2 hb3
  have N3:Hid (Nd w0 w3 k x m n):=HN.below B3
  have P3:Hid (PkZ w3 P p):=P2.below hb3
  have Z3:Hid (FlZ w3 Q noC):=Z2.below hb3
  clear hb3 B2 N2 P2 Z2 S2
  by_cases hz:bgnE p.pr p.fl=0
  ·rw[if_pos hz]at HA
   rw[hz]
   clear hz
   simp only[bgnV]
   have HTU:Hid (∀u,Nd w0 u k x m n->Calls Tryz.prog 176 #[.pointer (some (k.nd,0)),p.pr,.int .i64 (bgnS p.pr p.fl)] u fun e w'=>e=.returned (.int .i64 (x.now+stay p.pr (bgnS p.pr p.fl)))/\Below u u w'):=fun u hu=>until_nd hu p.pr _ HPP bgn_in HW.1 HW.2.1
   have HTA:Hid (∀u,Nd w0 u k x m n->Calls Tryz.prog 227 #[.pointer (some (k.tb,0)),p.pr,.agg #[p.a1,p.p1],.agg #[p.a2,p.p2],.int .i64 (bgnS p.pr p.fl),.int .i64 (x.now+stay p.pr (bgnS p.pr p.fl))] u fun e w'=>e=.returned (.tuple #[.int .i64 ((x.addR p).1:Nat),terr s (x.addR p).2.1])/\Nd w0 w' k {x with T:=(x.addR p).2.2} (m+1) n/\ChgL k.all u w'):=fun u hu=>tadd_nd HS hu HW.2.2 p HPP
   generalize bgnS p.pr p.fl=bs at HTU HTA ⊢
   generalize x.now+stay p.pr bs=un at HTU HTA ⊢
   go_upto_region 7 with fail
   go_wp2_with fail
   obtain⟨q0,q1,q2,q3,q4,_⟩:=(P3.below (Below.refl _ _).drew).b
   have hS:w3.drew.cell? (k.nd,6)=some (.pointer (some (k.te,0)))/\w3.drew.cell? (k.te,0)=some (.pointer (some (k.tb,0)))/\w3.drew.cell? (P,0)=p.pr/\w3.drew.cell? (P,1)=p.a1/\w3.drew.cell? (P,2)=p.p1/\w3.drew.cell? (P,3)=p.a2/\w3.drew.cell? (P,4)=p.p2:=⟨N3.c6,N3.t0,q0,q1,q2,q3,q4⟩
   clear q0 q1 q2 q3 q4
   go_region_held3 (fun w'=>w'.cell? (k.nd,6)=some (.pointer (some (k.te,0)))/\w'.cell? (k.te,0)=some (.pointer (some (k.tb,0)))/\w'.cell? (P,0)=p.pr/\w'.cell? (P,1)=p.a1/\w'.cell? (P,2)=p.p1/\w'.cell? (P,3)=p.a2/\w'.cell? (P,4)=p.p2)
    (first | assumption | exact⟨tk hb5 hS.1,tk hb5 hS.2.1,tk hb5 hS.2.2.1,tk hb5 hS.2.2.2.1,tk hb5 hS.2.2.2.2.1,tk hb5 hS.2.2.2.2.2.1,tk hb5 hS.2.2.2.2.2.2⟩ | exact⟨N6.c6,N6.t0,K6.keeps HNP (tk hb5 hS.2.2.1),K6.keeps HNP (tk hb5 hS.2.2.2.1),K6.keeps HNP (tk hb5 hS.2.2.2.2.1),K6.keeps HNP (tk hb5 hS.2.2.2.2.2.1),K6.keeps HNP (tk hb5 hS.2.2.2.2.2.2)⟩)
    (first
     | (go_at_call 176;refine(HTU _ N3.drew).mono ?_;rintro e w5 ⟨rfl,hb5⟩)
     | (go_at_call 227;refine(HTA _ (N3.drew.below hb5)).mono ?_;rintro e w6 ⟨rfl,n6,k6⟩;have N6:Hid (Nd w0 w6 k {x with T:=(x.addR p).2.2} (m+1) n):=n6;have K6:Hid (ChgL k.all w5 w6):=k6;clear n6 k6))
   have Z6:Hid (FlZ w6 Q noC):=((Z3.below (Below.refl _ _).drew).below hb5).chgL K6 HNQ
   have X6:Hid (ChgL k.all w w6):=(ChgL.of (t2 (t2 B3 (Below.refl _ _).drew) hb5)).trans K6
   clear hS hb5 K6 B3 N3 P3 Z3 HTU HTA
   by_cases hae:(x.addR p).2.1=0
   ·have HE:Hid (x.bgE p=0):=by show _=_;rw[HA.out,hae]
    have HB:Hid (x.bg p={x with T:=(x.addR p).2.2}):=by show _=_;unfold No.bg;rw[HE.out];rfl
    have HF:Hid (x.bgF p=(x.addR p).2.2 (x.addR p).1):=by show _=_;unfold No.bgF;rw[HE.out];rfl
    have HLT:Hid ((x.addR p).1 < 32):=addT_lt hae
    rw[hae]
    simp only[terr]
    go_wp2_with fail
    refine(flow_nd N6 (x.addR p).1 HLT).mono ?_
    rintro e w7 ⟨rfl,hb7⟩
    have N7:Hid (Nd w0 w7 k {x with T:=(x.addR p).2.2} (m+1) n):=N6.below hb7
    have X7:Hid (ChgL k.all w w7):=X6.then hb7
    have Z7:Hid (FlZ w7 Q noC):=Z6.below hb7
    clear hb7 N6 X6 Z6 hae
    obtain⟨c,hc⟩:∃c,(x.addR p).2.2 (x.addR p).1=c:=⟨_,rfl⟩
    rw[show({x with T:=(x.addR p).2.2}:No).T (x.addR p).1=c from hc]
    rw[hc]at HF
    clear hc
    obtain⟨w9,hst,hz9,hc9⟩:=flz_store Z7 c
    obtain⟨n9,k9⟩:=HN.fresh N7 rfl X7 hc9 (by omega)
    have N9:Hid (Nd w0 w9 k {x with T:=(x.addR p).2.2} (m+1) n):=n9
    have K9:Hid (ChgL k.all w w9):=k9
    have Z9:Hid (FlZ w9 Q c):=hz9
    clear n9 k9 hz9 hc9
    simp only[flowV]
    go_wp2_with (refine wpList_store_eq rfl 110 _ _ rfl _ _ _ rfl rfl hst ?_)
    clear hst
    have q:=Z9.b
    go_wp2_with fail
    exact bodyPost_ret (v:=.tuple #[flowV c,.nilIface]) (by simp[results,Tryz.results208,go_sem,q.c0,q.c1,q.c2,q.c3,q.c4,q.c5,q.c6,q.c7,flowV]) rfl ⟨by rw[HF.out,HE.out];rfl,by rw[HB.out];exact N9,K9⟩
   ·have HE:Hid (x.bgE p=(x.addR p).2.1):=HA.out
    have HB:Hid (x.bg p=x):=by show _=_;unfold No.bg;rw[if_neg (by rw[HE.out];exact hae)]
    have HF:Hid (x.bgF p=noC):=by show _=_;unfold No.bgF;rw[if_neg (by rw[HE.out];exact hae)]
    have HTT:Hid ((x.addR p).2.2=x.T):=addT_keeps hae
    obtain⟨e1,he1⟩:∃e1,(x.addR p).2.1=e1+1:=⟨(x.addR p).2.1 - 1,by omega⟩
    rw[he1]at HE ⊢
    clear hae he1
    simp only[terr]
    obtain⟨w9,hst0,hz9,hc9⟩:=flz_store Z6 noC
    have hst:(Instr.storeAt 110 (.pointer (some (Q,0))) (.agg #[.int .i64 0,.int .i64 0,.int .i64 0,.int .i64 0,.int .i64 0,.int .i64 0,.int .i64 0,.int .i64 0])).run Tryz.prog w6=.ok () w9:=hst0
    obtain⟨n9,k9⟩:=HN.fresh N6 rfl X6 hc9 (by omega)
    have N9:Hid (Nd w0 w9 k x (m+1) n):=by rw[HTT.out]at n9;exact n9
    have K9:Hid (ChgL k.all w w9):=k9
    have Z9:Hid (FlZ w9 Q noC):=hz9
    clear n9 k9 hz9 hc9 hst0
    go_wp2_with (refine wpList_store_eq rfl 110 _ _ rfl _ _ _ rfl rfl hst ?_)
    clear hst
    have q:=Z9.b
    go_wp2_with fail
    exact bodyPost_ret (v:=.tuple #[flowV noC,.iface 310 (.pointer (some (s e1)))]) (by simp[results,Tryz.results208,go_sem,q.c0,q.c1,q.c2,q.c3,q.c4,q.c5,q.c6,q.c7,flowV]) rfl ⟨by rw[HF.out,HE.out];rfl,by rw[HB.out];exact N9,K9⟩
  ·rw[if_neg hz]at HA
   have HB:Hid (x.bg p=x):=by show _=_;unfold No.bg;rw[if_neg (by rw[HA.out];exact hz)]
   have HF:Hid (x.bgF p=noC):=by show _=_;unfold No.bgF;rw[if_neg (by rw[HA.out];exact hz)]
   obtain⟨e1,he1⟩:∃e1,bgnE p.pr p.fl=e1+1:=⟨bgnE p.pr p.fl - 1,by omega⟩
   have HE:Hid (x.bgE p=e1+1):=by show _=_;rw[HA.out,he1]
   rw[he1]
   clear hz he1 HA
   simp only[bgnV]
   obtain⟨w9,hst0,hz9,hc9⟩:=flz_store Z3 noC
   have hst:(Instr.storeAt 110 (.pointer (some (Q,0))) (.agg #[.int .i64 0,.int .i64 0,.int .i64 0,.int .i64 0,.int .i64 0,.int .i64 0,.int .i64 0,.int .i64 0])).run Tryz.prog w3=.ok () w9:=hst0
   obtain⟨n9,k9⟩:=HN.fresh N3 rfl (ChgL.of B3.out) hc9 (by omega)
   have N9:Hid (Nd w0 w9 k x m n):=n9
   have K9:Hid (ChgL k.all w w9):=k9
   have Z9:Hid (FlZ w9 Q noC):=hz9
   clear n9 k9 hz9 hc9 hst0
   go_wp2_with (refine wpList_store_eq rfl 110 _ _ rfl _ _ _ rfl rfl hst ?_)
   clear hst
   have q:=Z9.b
   go_wp2_with fail
   exact bodyPost_ret (v:=.tuple #[flowV noC,.iface 310 (.pointer (some (s e1)))]) (by simp[results,Tryz.results208,go_sem,q.c0,q.c1,q.c2,q.c3,q.c4,q.c5,q.c6,q.c7,flowV]) rfl ⟨by rw[HF.out,HE.out];rfl,by rw[HB.out];exact N9.more (by omega),K9⟩
end
def No.fnd (x:No) (p:Pk):Option Nat:=fst x.T (findQ p.pr p.a1 p.p1 p.a2 p.p2)
def No.ouF (x:No) (p:Pk):Ce:=match x.fnd p with | some j=>x.T j | none=>x.bgF p
def No.ouE (x:No) (p:Pk):Nat:=match x.fnd p with | some _=>0 | none=>x.bgE p
def No.ou (x:No) (p:Pk):No:=match x.fnd p with | some j=>x.stp j p.fl true | none=>x.bg p
theorem outward_nd {w0 w:World} {k:Bk} {x:No} {m n:Nat} {s:Nat->Addr} (S:SeM w0 s) (h:Nd w0 w k x m n) (hm:m<=1000000000) (h0:0<=x.now) (h1:x.now<=1000000000) (hr:RulesOk x.ru) (p:Pk) (hp:p.err=0) (hpp:In6 p.pr) :
  Calls Tryz.prog 188 #[.pointer (some (k.nd,0)),p.v] w fun e w'=>e=.returned (.tuple #[flowV (x.ouF p),terr s (x.ouE p)])/\Nd w0 w' k (x.ou p) (m+1) n/\ChgL k.all w w':=by
 have HS:Hid (SeM w0 s):=S
 have HN:Hid (Nd w0 w k x m n):=h
 have HW:Hid (0<=x.now/\x.now<=1000000000/\m<=1000000000):=⟨h0,h1,hm⟩
 have HR:Hid (RulesOk x.ru):=hr
 have HP:Hid (p.err=0):=hp
 have HPP:Hid (In6 p.pr):=hpp
 clear S h h0 h1 hm hr hp hpp
 go_enter Tryz.func188,Tryz.ntmps188
 go_upto_region 1 with fail
 go_wp2_with fail
 have B0:=aB w (.cells #[p.pr,p.a1,p.p1,p.a2,p.p2,p.fl] 144)
 have P1:Hid (PkZ ((w.alloc (.cells #[p.pr,p.a1,p.p1,p.a2,p.p2,p.fl] 144)).alloc (.cells #[.int .i64 0,.int .i64 0,.int .i64 0,.int .i64 0,.int .i64 0,.int .i64 0,.int .i64 0,.int .i64 0] 110)) w p):=(PkZ.new w p).below (aB _ _)
 have B1:Hid (Below w w ((w.alloc (.cells #[p.pr,p.a1,p.p1,p.a2,p.p2,p.fl] 144)).alloc (.cells #[.int .i64 0,.int .i64 0,.int .i64 0,.int .i64 0,.int .i64 0,.int .i64 0,.int .i64 0,.int .i64 0] 110))):=t2 B0 (aB _ _)
 have Z1:Hid (FlZ ((w.alloc (.cells #[p.pr,p.a1,p.p1,p.a2,p.p2,p.fl] 144)).alloc (.cells #[.int .i64 0,.int .i64 0,.int .i64 0,.int .i64 0,.int .i64 0,.int .i64 0,.int .i64 0,.int .i64 0] 110)) (w.heap.size+1) noC):=by
  have:=FlZ.zero (w.alloc (.cells #[p.pr,p.a1,p.p1,p.a2,p.p2,p.fl] 144))
  show FlZ _ _ _
  simpa using this
 clear B0
 generalize (w.alloc (.cells #[p.pr,p.a1,p.p1,p.a2,p.p2,p.fl] 144)).alloc (.cells #[.int .i64 0,.int .i64 0,.int .i64 0,.int .i64 0,.int .i64 0,.int .i64 0,.int .i64 0,.int .i64 0] 110)=w1 at *
 have N1:Hid (Nd w0 w1 k x m n):=HN.below B1
 have LW:Hid (w.heap.size<=w.heap.size):=Nat.le_refl _
 have LQ:Hid (w.heap.size<=w.heap.size+1):=Nat.le_succ _
 generalize hPe:w.heap.size=P at P1 Z1 LW LQ ⊢
 generalize hQe:P+1=Q at Z1 LQ ⊢
 obtain⟨o,ho⟩:∃o,x.fnd p=o:=⟨_,rfl⟩
 have HO:Hid (x.fnd p=o):=ho
 have HFD:Hid (∀u,Nd w0 u k x m n->Calls Tryz.prog 201 #[.pointer (some (k.tb,0)),p.pr,.agg #[p.a1,p.p1],.agg #[p.a2,p.p2]] u fun e w'=>e=.returned (.tuple #[.int .i64 ((o.getD 0:Nat):Int),.bool o.isSome])/\Below u u w'):=fun u hu=>by
  have:=find_any k.tb x.low x.T p.pr p.a1 p.p1 p.a2 p.p2 u hu.tb
  rw[show fst x.T (findQ p.pr p.a1 p.p1 p.a2 p.p2)=o from ho]at this
  exact this
 clear ho
 obtain⟨q0,q1,q2,q3,q4,_⟩:=(P1.below (Below.refl _ _).drew).b
 have hS:w1.drew.cell? (k.nd,6)=some (.pointer (some (k.te,0)))/\w1.drew.cell? (k.te,0)=some (.pointer (some (k.tb,0)))/\w1.drew.cell? (P,0)=p.pr/\w1.drew.cell? (P,1)=p.a1/\w1.drew.cell? (P,2)=p.p1/\w1.drew.cell? (P,3)=p.a2/\w1.drew.cell? (P,4)=p.p2:=⟨N1.c6,N1.t0,q0,q1,q2,q3,q4⟩
 clear q0 q1 q2 q3 q4
 go_region_held3 (fun w'=>w'.cell? (k.nd,6)=some (.pointer (some (k.te,0)))/\w'.cell? (k.te,0)=some (.pointer (some (k.tb,0)))/\w'.cell? (P,0)=p.pr/\w'.cell? (P,1)=p.a1/\w'.cell? (P,2)=p.p1/\w'.cell? (P,3)=p.a2/\w'.cell? (P,4)=p.p2)
  (first | assumption | exact⟨tk hb2 hS.1,tk hb2 hS.2.1,tk hb2 hS.2.2.1,tk hb2 hS.2.2.2.1,tk hb2 hS.2.2.2.2.1,tk hb2 hS.2.2.2.2.2.1,tk hb2 hS.2.2.2.2.2.2⟩)
  (first | (go_at_call 201;refine(HFD _ N1.drew).mono ?_;rintro e w2 ⟨rfl,hb2⟩))
 have B2:Hid (Below w w w2):=t2 (t2 B1 (Below.refl _ _).drew) hb2
 have N2:Hid (Nd w0 w2 k x m n):=HN.below B2
 have P2:Hid (PkZ w2 P p):=(P1.below (Below.refl _ _).drew).below hb2
 have Z2:Hid (FlZ w2 Q noC):=(Z1.below (Below.refl _ _).drew).below hb2
 have HNQ:Hid (¬Q ∈ k.all):=fun hm=>by have:=HN.lt _ hm;omega
 clear hS hb2 B1 N1 P1 Z1 HFD
 obtain⟨r0,r1,r2,r3,r4,r5⟩:=P2.b
 cases o with
 | some j =>
  have HLT:Hid (j < 32):=fst_lt HO
  have HF:Hid (x.ouF p=x.T j/\x.ouE p=0/\x.ou p=x.stp j p.fl true):=by unfold No.ouF No.ouE No.ou;rw[HO.out];exact⟨rfl,rfl,rfl⟩
  simp only[Option.isSome_some,Option.getD_some]
  go_wp2_with fail
  clear r0 r1 r2 r3 r4 r5
  refine(step_nd HS N2 HW.2.2 HW.1 HW.2.1 j HLT p.fl true).mono ?_
  rintro e w7 ⟨rfl,n7,k7⟩
  have N7:Hid (Nd w0 w7 k (x.stp j p.fl true) (m+1) n):=n7
  have X7:Hid (ChgL k.all w w7):=(ChgL.of B2.out).trans k7
  have Z7:Hid (FlZ w7 Q noC):=Z2.chgL k7 HNQ
  have HRU:Hid ((x.stp j p.fl true).ru=x.ru):=by show _=_;unfold No.stp;split <;> rfl
  clear n7 k7
  obtain⟨c,hc⟩:∃c,x.T j=c:=⟨_,rfl⟩
  rw[hc]
  rw[hc]at HF
  clear hc
  obtain⟨w9,hst,hz9,hc9⟩:=flz_store Z7 c
  obtain⟨n9,k9⟩:=HN.fresh N7 HRU X7 hc9 (by omega)
  have N9:Hid (Nd w0 w9 k (x.stp j p.fl true) (m+1) n):=n9
  have K9:Hid (ChgL k.all w w9):=k9
  have Z9:Hid (FlZ w9 Q c):=hz9
  clear n9 k9 hz9 hc9
  simp only[flowV]
  go_wp2_with (refine wpList_store_eq rfl 110 _ _ rfl _ _ _ rfl rfl hst ?_)
  clear hst
  have q:=Z9.b
  go_wp2_with fail
  exact bodyPost_ret (v:=.tuple #[flowV c,.nilIface]) (by simp[results,Tryz.results188,go_sem,q.c0,q.c1,q.c2,q.c3,q.c4,q.c5,q.c6,q.c7,flowV]) rfl ⟨by rw[HF.1,HF.2.1];rfl,by rw[HF.2.2];exact N9,K9⟩
 | none =>
  have HF:Hid (x.ouF p=x.bgF p/\x.ouE p=x.bgE p/\x.ou p=x.bg p):=by unfold No.ouF No.ouE No.ou;rw[HO.out];exact⟨rfl,rfl,rfl⟩
  simp only[Option.isSome_none,Option.getD_none]
  go_wp2_with fail
  clear r0 r1 r2 r3 r4 r5
  refine(begin_nd HS N2 HW.2.2 HW.1 HW.2.1 HR p HP HPP).mono ?_
  rintro e w7 ⟨rfl,n7,k7⟩
  have N7:Hid (Nd w0 w7 k (x.bg p) (m+1) n):=n7
  have X7:Hid (ChgL k.all w w7):=(ChgL.of B2.out).trans k7
  have Z7:Hid (FlZ w7 Q noC):=Z2.chgL k7 HNQ
  have HRU:Hid ((x.bg p).ru=x.ru):=by show _=_;unfold No.bg;split <;> rfl
  clear n7 k7
  obtain⟨c,hc⟩:∃c,x.bgF p=c:=⟨_,rfl⟩
  obtain⟨ev,hev⟩:∃ev,terr s (x.bgE p)=ev:=⟨_,rfl⟩
  have HEV:Hid (terr s (x.ouE p)=ev):=by show _=_;rw[HF.2.1];exact hev
  rw[hc,hev]
  rw[hc]at HF
  clear hc hev
  obtain⟨w9,hst,hz9,hc9⟩:=flz_store Z7 c
  obtain⟨n9,k9⟩:=HN.fresh N7 HRU X7 hc9 (by omega)
  have N9:Hid (Nd w0 w9 k (x.bg p) (m+1) n):=n9
  have K9:Hid (ChgL k.all w w9):=k9
  have Z9:Hid (FlZ w9 Q c):=hz9
  clear n9 k9 hz9 hc9
  simp only[flowV]
  go_wp2_with (refine wpList_store_eq rfl 110 _ _ rfl _ _ _ rfl rfl hst ?_)
  clear hst
  have q:=Z9.b
  go_wp2_with fail
  exact bodyPost_ret (v:=.tuple #[flowV c,ev]) (by simp[results,Tryz.results188,go_sem,q.c0,q.c1,q.c2,q.c3,q.c4,q.c5,q.c6,q.c7,flowV]) rfl ⟨by rw[HF.1,HEV.out],by rw[HF.2.2];exact N9,K9⟩
def noP:Pk:=⟨0,0,0,0,0,0⟩
theorem PkZ.zero (w:World):PkZ (w.alloc (.cells #[.int .i64 0,.int .i64 0,.int .i64 0,.int .i64 0,.int .i64 0,.int .i64 0] 144)) w noP:=heap_alloc_new w _
theorem pkz_store {w:World} {Q:Nat} {c:Pk} (h:PkZ w Q c) (d:Pk) :
  ∃w',(Instr.storeAt 144 (.pointer (some (Q,0))) (.agg #[d.pr,d.a1,d.p1,d.a2,d.p2,d.fl])).run Tryz.prog w=.ok () w'/\PkZ w' Q d/\Chg Q w w':=by
 have hs:(sizeOf 144).run Tryz.prog w=.ok 6 w:=by kernel_rfl
 have hst:=run_storeCells_at Tryz.prog Q 0 144 [d.pr,d.a1,d.p1,d.a2,d.p2,d.fl] 0 _ w h (by simp) (fun u hu=>by
  simp only[List.mem_cons,List.not_mem_nil,or_false]at hu
  rcases hu with rfl | rfl | rfl | rfl | rfl | rfl <;> rfl)
 refine⟨w.setRow Q #[d.pr,d.a1,d.p1,d.a2,d.p2,d.fl],?_,setRow_heap w Q _ _ _ _ h,chg_row _ _ _⟩
 simp only[Instr.storeAt,Instr.sureAddr,Sem.run_bind,Sem.run_pure,Result.andThen_ok,storeVar,hs,Value.cells]
 simp at hst ⊢
 exact hst
theorem set0_chg6 (w:World) (Q:Nat):Chg Q w ((((((w.setCell (Q,0) (.int .i64 0)).setCell (Q,1) (.int .i64 0)).setCell (Q,2) (.int .i64 0)).setCell (Q,3) (.int .i64 0)).setCell (Q,4) (.int .i64 0)).setCell (Q,5) (.int .i64 0)) :=
 (((((Chg.set _ _ _ _).trans (Chg.set _ _ _ _)).trans (Chg.set _ _ _ _)).trans (Chg.set _ _ _ _)).trans (Chg.set _ _ _ _)).trans (Chg.set _ _ _ _)
theorem set_chg2 (w:World) (P a b:Nat) (u v:Value):Chg P w ((w.setCell (P,a) u).setCell (P,b) v):=(Chg.set _ _ _ _).trans (Chg.set _ _ _ _)
def No.inE (x:No) (p:Pk):Nat:=if x.chk p=0 then x.ouE p else x.chk p
def No.inP (x:No) (p:Pk):Pk:=if x.inE p=0 then ⟨p.pr,1,(x.ouF p).po,p.a2,p.p2,p.fl⟩ else noP
def No.ins (x:No) (p:Pk):No:=if x.chk p=0 then x.ou p else x
theorem chk_err {x:No} {p:Pk} (h:x.chk p=0):p.err=0:=by
 unfold No.chk at h
 by_cases e:p.err=0
 ·exact e
 ·rw[if_neg e]at h;exact absurd h e
theorem ou_ru (x:No) (p:Pk):(x.ou p).ru=x.ru:=by
 unfold No.ou
 split
 ·unfold No.stp;split <;> rfl
 ·unfold No.bg;split <;> rfl
theorem inside_nd {w0 w:World} {k:Bk} {x:No} {m n:Nat} {s:Nat->Addr} (S:SeM w0 s) (h:Nd w0 w k x m n) (hm:m<=1000000000) (h0:0<=x.now) (h1:x.now<=1000000000) (hr:RulesOk x.ru) (p:Pk) (hpp:In6 p.pr) :
  Calls Tryz.prog 155 #[.pointer (some (k.nd,0)),p.v] w fun e w'=>e=.returned (.tuple #[(x.inP p).v,terr s (x.inE p)])/\Nd w0 w' k (x.ins p) (m+1) n/\ChgL k.all w w':=by
 have HR:Hid (RulesOk x.ru):=hr
 clear hr
 have HS:Hid (SeM w0 s):=S
 have HN:Hid (Nd w0 w k x m n):=h
 have HW:Hid (0<=x.now/\x.now<=1000000000/\m<=1000000000):=⟨h0,h1,hm⟩
 have HPP:Hid (In6 p.pr):=hpp
 clear S h h0 h1 hm hpp
 go_enter Tryz.func155,Tryz.ntmps155
 go_wp2_with fail
 have B0:=aB w (.cells #[p.pr,p.a1,p.p1,p.a2,p.p2,p.fl] 144)
 have P1:Hid (PkZ ((w.alloc (.cells #[p.pr,p.a1,p.p1,p.a2,p.p2,p.fl] 144)).alloc (.cells #[.int .i64 0,.int .i64 0,.int .i64 0,.int .i64 0,.int .i64 0,.int .i64 0] 144)) w p):=(PkZ.new w p).below (aB _ _)
 have B1:Hid (Below w w ((w.alloc (.cells #[p.pr,p.a1,p.p1,p.a2,p.p2,p.fl] 144)).alloc (.cells #[.int .i64 0,.int .i64 0,.int .i64 0,.int .i64 0,.int .i64 0,.int .i64 0] 144))):=t2 B0 (aB _ _)
 have Z1:Hid (PkZ ((w.alloc (.cells #[p.pr,p.a1,p.p1,p.a2,p.p2,p.fl] 144)).alloc (.cells #[.int .i64 0,.int .i64 0,.int .i64 0,.int .i64 0,.int .i64 0,.int .i64 0] 144)) (w.heap.size+1) noP):=by
  have:=PkZ.zero (w.alloc (.cells #[p.pr,p.a1,p.p1,p.a2,p.p2,p.fl] 144))
  show PkZ _ _ _
  simpa using this
 clear B0
 generalize (w.alloc (.cells #[p.pr,p.a1,p.p1,p.a2,p.p2,p.fl] 144)).alloc (.cells #[.int .i64 0,.int .i64 0,.int .i64 0,.int .i64 0,.int .i64 0,.int .i64 0] 144)=w1 at *
 have N1:Hid (Nd w0 w1 k x m n):=HN.below B1
 have LW:Hid (w.heap.size<=w.heap.size):=Nat.le_refl _
 have LQ:Hid (w.heap.size<=w.heap.size+1):=Nat.le_succ _
 generalize hPe:w.heap.size=P at P1 Z1 LW LQ ⊢
 generalize hQe:P+1=Q at Z1 LQ ⊢
 have HNQ:Hid (¬Q ∈ k.all):=fun hm=>by have:=HN.lt _ hm;omega
 have HNP:Hid (¬P ∈ k.all):=fun hm=>by have:=HN.lt _ hm;omega
 refine(check_nd HS N1 p).mono ?_
 rintro e w2 ⟨rfl,hb2⟩
 have B2:Hid (Below w w w2):=t2 B1 hb2
 have N2:Hid (Nd w0 w2 k x m n):=HN.below B2
 have P2:Hid (PkZ w2 P p):=P1.below hb2
 have Z2:Hid (PkZ w2 Q noP):=Z1.below hb2
 have S2:Hid (SeM w2 s):=HS.below N2.bl
 clear hb2 B1 N1 P1 Z1
 by_cases hc:x.chk p=0
 ·have HP:Hid (p.err=0):=chk_err hc
  have HE:Hid (x.inE p=x.ouE p):=by show _=_;unfold No.inE;rw[if_pos hc]
  have HX:Hid (x.ins p=x.ou p):=by show _=_;unfold No.ins;rw[if_pos hc]
  have HRU:Hid ((x.ou p).ru=x.ru):=ou_ru x p
  obtain⟨r0,r1,r2,r3,r4,r5⟩:=P2.b
  rw[hc]
  clear hc
  simp only[terr]
  go_wp2_with fail
  clear r0 r1 r2 r3 r4 r5
  refine(outward_nd HS N2 HW.2.2 HW.1 HW.2.1 HR p HP HPP).mono ?_
  rintro e w3 ⟨rfl,n3,k3⟩
  obtain⟨c,hcc⟩:∃c,x.ouF p=c:=⟨_,rfl⟩
  have HC:Hid (x.ouF p=c):=hcc
  rw[hcc]
  clear hcc
  have n4:=n3.below (aB w3 (.cells #[c.pr,c.ia,c.ip,c.fa,c.fp,c.po,c.st,c.un] 110))
  have N4:Hid (Nd w0 (w3.alloc (.cells #[c.pr,c.ia,c.ip,c.fa,c.fp,c.po,c.st,c.un] 110)) k (x.ou p) (m+1) n):=n4
  have X4:Hid (ChgL k.all w (w3.alloc (.cells #[c.pr,c.ia,c.ip,c.fa,c.fp,c.po,c.st,c.un] 110))):=((ChgL.of B2.out).trans k3).then (aB _ _)
  have P4:Hid (PkZ (w3.alloc (.cells #[c.pr,c.ia,c.ip,c.fa,c.fp,c.po,c.st,c.un] 110)) P p):=(P2.chgL k3 HNP).below (aB _ _)
  have Z4:Hid (PkZ (w3.alloc (.cells #[c.pr,c.ia,c.ip,c.fa,c.fp,c.po,c.st,c.un] 110)) Q noP):=(Z2.chgL k3 HNQ).below (aB _ _)
  have F4:Hid (FlZ (w3.alloc (.cells #[c.pr,c.ia,c.ip,c.fa,c.fp,c.po,c.st,c.un] 110)) w3 c):=FlZ.new w3 c
  simp only[flowV]
  clear n3 n4 k3
  by_cases he:x.ouE p=0
  ·have HIE:Hid (x.inE p=0):=by show _=_;rw[HE.out,he]
   have HIP:Hid (x.inP p=⟨p.pr,1,c.po,p.a2,p.p2,p.fl⟩):=by show _=_;unfold No.inP;rw[if_pos HIE.out,HC.out]
   rw[he]
   clear he
   simp only[terr]
   go_upto_region 7 with fail
   generalize w3.alloc (.cells #[c.pr,c.ia,c.ip,c.fa,c.fp,c.po,c.st,c.un] 110)=w4 at *
   generalize w3.heap.size=G at *
   have g5:=F4.b.c5
   obtain⟨r0,r1,r2,r3,r4,r5⟩:=P4.b
   have pf:=P4.fr
   have hcg:=set_chg2 w4 P 1 2 (.int .i64 1) c.po
   have Z5:Hid (PkZ ((w4.setCell (P,1) (.int .i64 1)).setCell (P,2) c.po) Q noP):=Z4.chgL (ChgL.one (l:=[P]) hcg (by simp)) (by simp;omega)
   obtain⟨n5,k5⟩:=HN.fresh N4 HRU X4 hcg (by omega)
   obtain⟨w9,hst,hz9,hc9⟩:=pkz_store Z5 ⟨p.pr,1,c.po,p.a2,p.p2,p.fl⟩
   simp only at hst
   obtain⟨n9,k9⟩:=HN.fresh n5 HRU k5 hc9 (by omega)
   have N9:Hid (Nd w0 w9 k (x.ou p) (m+1) n):=n9
   have K9:Hid (ChgL k.all w w9):=k9
   have Z9:Hid (PkZ w9 Q ⟨p.pr,1,c.po,p.a2,p.p2,p.fl⟩):=hz9
   clear n9 k9 hz9 hc9 n5 k5 hcg
   go_wp2_with (refine wpList_store_eq rfl 144 _ _ rfl _ _ _ rfl rfl hst ?_)
   clear hst g5 r0 r1 r2 r3 r4 r5 pf
   have q:=Z9.b
   go_wp2_with fail
   exact bodyPost_ret (v:=.tuple #[Pk.v ⟨p.pr,1,c.po,p.a2,p.p2,p.fl⟩,.nilIface]) (by simp[results,Tryz.results155,go_sem,q.c0,q.c1,q.c2,q.c3,q.c4,q.c5,Pk.v]) rfl ⟨by rw[HIP.out,HIE.out];rfl,by rw[HX.out];exact N9,K9⟩
  ·obtain⟨e1,he1⟩:∃e1,x.ouE p=e1+1:=⟨x.ouE p - 1,by omega⟩
   have HIE:Hid (x.inE p=e1+1):=by show _=_;rw[HE.out,he1]
   have HIP:Hid (x.inP p=noP):=by show _=_;unfold No.inP;rw[if_neg (by rw[HIE.out];omega)]
   rw[he1]
   clear he he1
   simp only[terr]
   generalize hw4:w3.alloc (.cells #[c.pr,c.ia,c.ip,c.fa,c.fp,c.po,c.st,c.un] 110)=w4 at N4 X4 P4 Z4 F4
   obtain⟨w9,hst0,hz9,hc9⟩:=pkz_store Z4 noP
   have hst:(Instr.storeAt 144 (.pointer (some (Q,0))) (.agg #[.int .i64 0,.int .i64 0,.int .i64 0,.int .i64 0,.int .i64 0,.int .i64 0])).run Tryz.prog w4=.ok () w9:=hst0
   obtain⟨n9,k9⟩:=HN.fresh N4 HRU X4 hc9 (by omega)
   have N9:Hid (Nd w0 w9 k (x.ou p) (m+1) n):=n9
   have K9:Hid (ChgL k.all w w9):=k9
   have Z9:Hid (PkZ w9 Q noP):=hz9
   clear n9 k9 hz9 hc9 hst0
   subst hw4
   go_wp2_with (refine wpList_store_eq rfl 144 _ _ rfl _ _ _ rfl rfl hst ?_)
   clear hst
   have q:=Z9.b
   go_wp2_with fail
   exact bodyPost_ret (v:=.tuple #[Pk.v noP,.iface 310 (.pointer (some (s e1)))]) (by simp[results,Tryz.results155,go_sem,q.c0,q.c1,q.c2,q.c3,q.c4,q.c5,Pk.v]) rfl ⟨by rw[HIP.out,HIE.out];rfl,by rw[HX.out];exact N9,K9⟩
 ·obtain⟨e1,he1⟩:∃e1,x.chk p=e1+1:=⟨x.chk p - 1,by omega⟩
  have HIE:Hid (x.inE p=e1+1):=by show _=_;unfold No.inE;rw[if_neg hc,he1]
  have HIP:Hid (x.inP p=noP):=by show _=_;unfold No.inP;rw[if_neg (by rw[HIE.out];omega)]
  have HX:Hid (x.ins p=x):=by show _=_;unfold No.ins;rw[if_neg hc]
  have HRU:Hid (x.ru=x.ru):=rfl
  rw[he1]
  clear hc he1
  simp only[terr]
  obtain⟨w9,hst0,hz9,hc9⟩:=pkz_store Z2 noP
  have hst:(Instr.storeAt 144 (.pointer (some (Q,0))) (.agg #[.int .i64 0,.int .i64 0,.int .i64 0,.int .i64 0,.int .i64 0,.int .i64 0])).run Tryz.prog w2=.ok () w9:=hst0
  obtain⟨n9,k9⟩:=HN.fresh N2 HRU (ChgL.of B2.out) hc9 (by omega)
  have N9:Hid (Nd w0 w9 k x m n):=n9
  have K9:Hid (ChgL k.all w w9):=k9
  have Z9:Hid (PkZ w9 Q noP):=hz9
  clear n9 k9 hz9 hc9 hst0
  go_wp2_with (refine wpList_store_eq rfl 144 _ _ rfl _ _ _ rfl rfl hst ?_)
  clear hst
  have q:=Z9.b
  go_wp2_with fail
  exact bodyPost_ret (v:=.tuple #[Pk.v noP,.iface 310 (.pointer (some (s e1)))]) (by simp[results,Tryz.results155,go_sem,q.c0,q.c1,q.c2,q.c3,q.c4,q.c5,Pk.v]) rfl ⟨by rw[HIP.out,HIE.out];rfl,by rw[HX.out];exact N9.more (by omega),K9⟩
def flI (j:Nat):Int:=if j=0 then 1 else if j=1 then 2 else if j=2 then 6 else 8
def flO (j:Nat):Int:=if j=0 then 3 else if j=1 then 2 else if j=2 then 6 else 8
structure PyF (w:World):Prop where
 i:∀j,j < 4->w.cell? ⟨12,j,none⟩=some (.int .i64 (flI j))
 o:∀j,j < 4->w.cell? ⟨13,j,none⟩=some (.int .i64 (flO j))
theorem PyF.below {w w':World} (h:PyF w) (hb:Below w w w'):PyF w':=⟨fun j hj=>tk hb (h.i j hj),fun j hj=>tk hb (h.o j hj)⟩
def prQ (q:Int):Int:=if q % 2=0 then 1 else 2
def pkI (q:Int):Pk:=⟨prQ q,10+q / 2 % 3,100,77,80+q / 6 % 2,if q % 2=0 then 0 else flI (q / 12 % 4).toNat⟩
def pkO (q:Int):Pk:=⟨prQ q,77,80+q / 2 % 2,1,2000+q / 4 % 48,if q % 2=0 then 0 else flO (q / 4 % 4).toNat⟩
theorem proto_any (q:Int) (q0:0<=q) (w:World):Calls Tryz.prog 156 #[q] w fun e w'=>e=.returned (.int .i64 (prQ q))/\w'=w:=by
 by_cases h:q % 2=0
 ·have e:prQ q=1:=if_pos h
  rw[e]
  clear e
  go_enter Tryz.func156,Tryz.ntmps156
  go_wp2_with fail
  go_ret
  exact⟨rfl,rfl⟩
 ·have e:prQ q=2:=if_neg h
  rw[e]
  have h1:(q % 2==0)=false:=beq_eq_false_iff_ne.2 h
  clear e h
  go_enter Tryz.func156,Tryz.ntmps156
  go_wp2_with fail
  go_ret
  exact⟨rfl,rfl⟩
theorem farEnd_any (q:Int) (q0:0<=q) (w:World):Calls Tryz.prog 157 #[q] w fun e w'=>e=.returned (.agg #[.int .i64 77,.int .i64 (80+q % 2)])/\Below w w w':=by
 have e2:q % 2 < 2:=by omega
 have e3:(0:Int)<=q % 2:=by omega
 go_enter Tryz.func157,Tryz.ntmps157
 go_wp2_with fail
 exact bodyPost_ret (v:=.agg #[.int .i64 77,.int .i64 (80+q % 2)]) (by simp[results,Tryz.results157,go_sem]) rfl ⟨rfl,aB _ _⟩
theorem fromInside_any (q:Int) (q0:0<=q) (q1:q<=9223372036854775807) (w:World) (F:PyF w):Calls Tryz.prog 108 #[q] w fun e w'=>e=.returned (pkI q).v/\Below w w w':=by
 have HF:Hid (PyF w):=F
 clear F
 have a0:(0:Int)<=q / 2:=by omega
 have a1:q / 2 % 3 < 3:=by omega
 have a2:(0:Int)<=q / 2 % 3:=by omega
 have a3:(0:Int)<=q / 6:=by omega
 have a4:(0:Int)<=q / 4:=by omega
 have a5:(0:Int)<=q / 4 % 48:=by omega
 have a6:q / 4 % 48 < 48:=by omega
 go_enter Tryz.func108,Tryz.ntmps108
 go_wp2_with fail
 refine(proto_any q q0 _).mono ?_
 rintro e w2 ⟨rfl,rfl⟩
 go_wp2_with fail
 refine(farEnd_any (q / 6) (by omega) _).mono ?_
 rintro e w3 ⟨rfl,b3⟩
 have Z3:Hid (PkZ w3 w noP):=(PkZ.zero w).below b3
 have B3:Hid (Below w w w3):=t2 (aB _ _) b3
 clear b3
 obtain⟨Q,hQe⟩:∃Q,Q=w.heap.size:=⟨_,rfl⟩
 have HQE:Hid (w.heap.size<=Q):=(by omega:w.heap.size<=Q)
 rw[<- hQe]at Z3 ⊢
 have hQ:Q < w3.heap.size:=Z3.lt
 clear hQe
 by_cases hp:q % 2=0
 ·have e1:prQ q=1:=if_pos hp
  have HpkI:Hid (pkI q=⟨1,10+q / 2 % 3,100,77,80+q / 6 % 2,0⟩):=by show pkI q=_;unfold pkI;rw[if_pos hp,e1]
  rw[e1]
  clear e1 hp
  obtain⟨w5,hst,z5,c5⟩:=pkz_store (Z3.below (aB w3 (.cells #[.int .i64 1,.int .i64 (10+q / 2 % 3),.int .i64 100,.int .i64 77,.int .i64 (80+q / 6 % 2),.int .i64 0] 144))) ⟨1,10+q / 2 % 3,100,77,80+q / 6 % 2,0⟩
  have Z5:Hid (PkZ w5 Q ⟨1,10+q / 2 % 3,100,77,80+q / 6 % 2,0⟩/\Below w w w5):=⟨z5,Chg.below (t2 B3 (aB _ _)) c5 HQE⟩
  clear z5 c5
  go_wp2_with (refine wpList_store_eq rfl 144 _ _ rfl _ _ _ rfl rfl hst ?_)
  clear hst
  have b:=Z5.1.b
  exact bodyPost_ret (v:=Pk.v ⟨1,10+q / 2 % 3,100,77,80+q / 6 % 2,0⟩) (by simp[results,Tryz.results108,go_sem,b.c0,b.c1,b.c2,b.c3,b.c4,b.c5,Pk.v]) rfl ⟨by rw[HpkI.out],Z5.2⟩
 ·have e1:prQ q=2:=if_neg hp
  have a7:(0:Int)<=q / 12 % 4:=by omega
  have a8:q / 12 % 4 < 4:=by omega
  have a9:(0:Int)<=q / 12:=by omega
  obtain⟨fl,hfl⟩:∃fl,fl=flI (q / 12 % 4).toNat:=⟨_,rfl⟩
  have HpkI:Hid (pkI q=⟨2,10+q / 2 % 3,100,77,80+q / 6 % 2,fl⟩):=by show pkI q=_;unfold pkI;rw[if_neg hp,e1,hfl]
  have g3:w3.cell? (12,(q / 12 % 4).toNat)=fl:=by rw[hfl];exact tk B3 (HF.i _ (by omega))
  rw[e1]
  clear e1 hp hfl
  obtain⟨w5,hst,z5,c5⟩:=pkz_store (Z3.below (aB w3 (.cells #[.int .i64 2,.int .i64 (10+q / 2 % 3),.int .i64 100,.int .i64 77,.int .i64 (80+q / 6 % 2),fl] 144))) ⟨2,10+q / 2 % 3,100,77,80+q / 6 % 2,fl⟩
  have Z5:Hid (PkZ w5 Q ⟨2,10+q / 2 % 3,100,77,80+q / 6 % 2,fl⟩/\Below w w w5):=⟨z5,Chg.below (t2 B3 (aB _ _)) c5 HQE⟩
  clear z5 c5
  have hG : 12 < w3.heap.size:=tlt g3
  go_wp2_with (refine wpList_store_eq rfl 144 _ _ rfl _ _ _ rfl rfl hst ?_)
  clear hst
  have b:=Z5.1.b
  exact bodyPost_ret (v:=Pk.v ⟨2,10+q / 2 % 3,100,77,80+q / 6 % 2,fl⟩) (by simp[results,Tryz.results108,go_sem,b.c0,b.c1,b.c2,b.c3,b.c4,b.c5,Pk.v]) rfl ⟨by rw[HpkI.out],Z5.2⟩
theorem fromOutside_any (q:Int) (q0:0<=q) (q1:q<=9223372036854775807) (w:World) (F:PyF w):Calls Tryz.prog 110 #[q] w fun e w'=>e=.returned (pkO q).v/\Below w w w':=by
 have HF:Hid (PyF w):=F
 clear F
 have a0:(0:Int)<=q / 2:=by omega
 have a1:q / 2 % 3 < 3:=by omega
 have a2:(0:Int)<=q / 2 % 3:=by omega
 have a3:(0:Int)<=q / 6:=by omega
 have a4:(0:Int)<=q / 4:=by omega
 have a5:(0:Int)<=q / 4 % 48:=by omega
 have a6:q / 4 % 48 < 48:=by omega
 go_enter Tryz.func110,Tryz.ntmps110
 go_wp2_with fail
 refine(proto_any q q0 _).mono ?_
 rintro e w2 ⟨rfl,rfl⟩
 go_wp2_with fail
 refine(farEnd_any (q / 2) (by omega) _).mono ?_
 rintro e w3 ⟨rfl,b3⟩
 have Z3:Hid (PkZ w3 w noP):=(PkZ.zero w).below b3
 have B3:Hid (Below w w w3):=t2 (aB _ _) b3
 clear b3
 obtain⟨Q,hQe⟩:∃Q,Q=w.heap.size:=⟨_,rfl⟩
 have HQE:Hid (w.heap.size<=Q):=(by omega:w.heap.size<=Q)
 rw[<- hQe]at Z3 ⊢
 have hQ:Q < w3.heap.size:=Z3.lt
 clear hQe
 by_cases hp:q % 2=0
 ·have e1:prQ q=1:=if_pos hp
  have HpkO:Hid (pkO q=⟨1,77,80+q / 2 % 2,1,2000+q / 4 % 48,0⟩):=by show pkO q=_;unfold pkO;rw[if_pos hp,e1]
  rw[e1]
  clear e1 hp
  obtain⟨w5,hst,z5,c5⟩:=pkz_store (Z3.below (aB w3 (.cells #[.int .i64 1,.int .i64 77,.int .i64 (80+q / 2 % 2),.int .i64 1,.int .i64 (2000+q / 4 % 48),.int .i64 0] 144))) ⟨1,77,80+q / 2 % 2,1,2000+q / 4 % 48,0⟩
  have Z5:Hid (PkZ w5 Q ⟨1,77,80+q / 2 % 2,1,2000+q / 4 % 48,0⟩/\Below w w w5):=⟨z5,Chg.below (t2 B3 (aB _ _)) c5 HQE⟩
  clear z5 c5
  go_wp2_with (refine wpList_store_eq rfl 144 _ _ rfl _ _ _ rfl rfl hst ?_)
  clear hst
  have b:=Z5.1.b
  exact bodyPost_ret (v:=Pk.v ⟨1,77,80+q / 2 % 2,1,2000+q / 4 % 48,0⟩) (by simp[results,Tryz.results110,go_sem,b.c0,b.c1,b.c2,b.c3,b.c4,b.c5,Pk.v]) rfl ⟨by rw[HpkO.out],Z5.2⟩
 ·have e1:prQ q=2:=if_neg hp
  have a7:(0:Int)<=q / 4 % 4:=by omega
  have a8:q / 4 % 4 < 4:=by omega
  have a9:(0:Int)<=q / 4:=by omega
  obtain⟨fl,hfl⟩:∃fl,fl=flO (q / 4 % 4).toNat:=⟨_,rfl⟩
  have HpkO:Hid (pkO q=⟨2,77,80+q / 2 % 2,1,2000+q / 4 % 48,fl⟩):=by show pkO q=_;unfold pkO;rw[if_neg hp,e1,hfl]
  have g3:w3.cell? (13,(q / 4 % 4).toNat)=fl:=by rw[hfl];exact tk B3 (HF.o _ (by omega))
  rw[e1]
  clear e1 hp hfl
  obtain⟨w5,hst,z5,c5⟩:=pkz_store (Z3.below (aB w3 (.cells #[.int .i64 2,.int .i64 77,.int .i64 (80+q / 2 % 2),.int .i64 1,.int .i64 (2000+q / 4 % 48),fl] 144))) ⟨2,77,80+q / 2 % 2,1,2000+q / 4 % 48,fl⟩
  have Z5:Hid (PkZ w5 Q ⟨2,77,80+q / 2 % 2,1,2000+q / 4 % 48,fl⟩/\Below w w w5):=⟨z5,Chg.below (t2 B3 (aB _ _)) c5 HQE⟩
  clear z5 c5
  have hG : 13 < w3.heap.size:=tlt g3
  go_wp2_with (refine wpList_store_eq rfl 144 _ _ rfl _ _ _ rfl rfl hst ?_)
  clear hst
  have b:=Z5.1.b
  exact bodyPost_ret (v:=Pk.v ⟨2,77,80+q / 2 % 2,1,2000+q / 4 % 48,fl⟩) (by simp[results,Tryz.results110,go_sem,b.c0,b.c1,b.c2,b.c3,b.c4,b.c5,Pk.v]) rfl ⟨by rw[HpkO.out],Z5.2⟩
end Go.Proofs.YtdpmeoflgpaljaaGreatDoor
