/-
  What the claimed theorem reaches, part Q15.
-/
import Derived.Test.YtabndgfdbdjdgaaGreatDoorQ13
import Derived.Test.YtabndgfdbdjdgaaGreatDoorQ14
import Derived.Test.YtabndgfdbdjdgaaGreatDoorQ00
import Derived.Deep.RegionHeld3
import Derived.Test.YtabndgfdbdjdgaaGreatDoorQ07
import Derived.Test.YtabndgfdbdjdgaaGreatDoorQ11
import Derived.Test.YtabndgfdbdjdgaaGreatDoorQ09
import Derived.Deep.DeepCutAuto
import Derived.Deep.CutRange
namespace Go.Proofs.YtabndgfdbdjdgaaGreatDoor
open Go.RowKit
set_option maxRecDepth 100000
set_option maxHeartbeats 8000000
section
variable {w w0:World} {s:Nat->Addr} {k:Bk} {x:No} {m n:Nat}
structure SeN (w:World) (s:Nat->Addr):Prop where
 c1:w.cell? (0,0)=some (.iface 312 (.pointer (some (s 1))))
 c2:w.cell? (2,0)=some (.iface 312 (.pointer (some (s 2))))
 c4:w.cell? (4,0)=some (.iface 312 (.pointer (some (s 4))))
 c5:w.cell? (5,0)=some (.iface 312 (.pointer (some (s 5))))
 c6:w.cell? (6,0)=some (.iface 312 (.pointer (some (s 6))))
 c9:w.cell? (9,0)=some (.iface 312 (.pointer (some (s 9))))
 c10:w.cell? (10,0)=some (.iface 312 (.pointer (some (s 10))))
theorem SeN.below {w':World} (S:SeN w s) (hb:Below w w w'):SeN w' s:=⟨tk hb S.c1,tk hb S.c2,tk hb S.c4,tk hb S.c5,tk hb S.c6,tk hb S.c9,tk hb S.c10⟩
theorem SeN.s3 (S:SeN w s):Se3 w s:=⟨S.c1,S.c2,S.c10⟩
theorem SeN.s45 (S:SeN w s):Se45 w s:=⟨S.c4,S.c5⟩
theorem SeN.s5 (S:SeN w s):Se5 w s:=⟨S.c1,S.c2,S.c5,S.c6,S.c9⟩
theorem SeN.sn (S:SeN w s):Sen w s:=⟨S.c1,S.c2⟩
theorem expire_nd (h:Nd w0 w k x m n) (hm:m<=100000000) (now:Int) :
  Calls Tryz.prog 175 #[.pointer (some (k.tb,0)),now] w fun e w'=>(∃v,e=.returned v)/\Nd w0 w' k {x with T:=expT x.T now 32} (m+1) n/\ChgL k.all w w':=by
 refine(expire_any k.tb x.low x.T now m w h.tb h.vs hm).mono ?_
 rintro e w' ⟨v,rfl,_,_,t,c⟩
 exact⟨⟨v,rfl⟩,h.onTb t (expT_ve h.vs now 32) (h.wt.exp now 32) c,ChgL.one c k.m_tb⟩
theorem rtick_nd (h:Nd w0 w k x m n) (r:Bool) (hr:x.ro.rings=r) :
  Calls Tryz.prog 176 #[.pointer (some (k.ro,0))] w fun e w'=>e=.returned (.bool r)/\Nd w0 w' k {x with ro:=x.ro.tick} m n/\ChgL k.all w w':=by
 subst hr
 refine(tick_any k.ro x.ro w h.ro h.rk).mono ?_
 rintro e w' ⟨rfl,t,c⟩
 exact⟨rfl,h.onRo t h.rk.tick c,ChgL.one c k.m_ro⟩
theorem rnext_nd (S:SeN w0 s) (h:Nd w0 w k x m n) :
  Calls Tryz.prog 209 #[.pointer (some (k.ro,0))] w fun e w'=>e=.returned (.tuple #[x.ro.nxV,terr s x.ro.nxE])/\Nd w0 w' k x m n/\ChgL k.all w w':=by
 refine(next_any k.ro x.ro s w h.ro h.rk (S.below h.bl).s3).mono ?_
 rintro e w' ⟨rfl,c⟩
 exact⟨rfl,h.below c,ChgL.of c⟩
theorem rclaim_nd (S:SeN w0 s) (h:Nd w0 w k x m n) (e:Int) :
  Calls Tryz.prog 211 #[.pointer (some (k.ro,0)),e] w fun r w'=>r=.returned (terr s (x.ro.clE e))/\Nd w0 w' k {x with ro:=x.ro.claim e} m n/\ChgL k.all w w':=by
 refine(claim_any k.ro x.ro e s w h.ro h.rk (S.below h.bl).s3).mono ?_
 rintro e w' ⟨rfl,t,c⟩
 exact⟨rfl,h.onRo t (h.rk.claim _) c,ChgL.one c k.m_ro⟩
theorem cput_nd (S:SeN w0 s) (h:Nd w0 w k x m n) (ep li:Int) :
  Calls Tryz.prog 172 #[.pointer (some (k.ce,0)),ep,li] w fun e w'=>e=.returned (terr s (putE x.off x.y ep li).1)/\Nd w0 w' k {x with y:=(putE x.off x.y ep li).2.1,off:=(putE x.off x.y ep li).2.2} m n/\ChgL k.all w w':=by
 have hg:=tlt S.c6
 have h1:=h.g0 _ k.m_yb
 have h2:=h.g0 _ k.m_ce
 simp only at hg
 refine(cput_any k.ce k.yb x.off x.y ep li s w h.ce h.yb (S.below h.bl).s5 h.ds.d3.1 (by omega) (by omega) h.lf).mono ?_
 rintro e w' ⟨rfl,t,u,c⟩
 exact⟨rfl,h.onCe t u (Nat.le_trans (putE_left _ _ _ _) h.lf) c,ChgL.two c k.m_yb k.m_ce⟩
theorem tput_nd (S:SeN w0 s) (h:Nd w0 w k x m n) (hm:m<=1000000000) (c:Ce) (h1:In6 c.pr) (h2:In6 c.st) :
  Calls Tryz.prog 239 #[.pointer (some (k.tb,0)),flowV c] w fun e w'=>(∃v,e=.returned v)/\Nd w0 w' k {x with T:=(putT x.T c.pr c.ia c.ip c.fa c.fp c.po c.st c.un).2.2} (m+1) n/\ChgL k.all w w':=by
 refine(put_an2 k.tb x.low x.T c m s w (S.below h.bl).s45 h.tb h.vs hm).mono ?_
 rintro e w' ⟨rfl,t,q⟩
 exact⟨⟨_,rfl⟩,h.onTb t (h.vs.put _ _ _ _ _ _ _ _) (h.wt.put _ _ _ _ _ _ _ _ h1 h2) q,ChgL.one q k.m_tb⟩
theorem tnext_nd (h:Nd w0 w k x m n) (hm:m<=1000000000) (hn:n<=100000000) :
  Calls Tryz.prog 213 #[.pointer (some (k.te,0))] w fun e w'=>(∃Z,e=.returned (.slice (some ⟨Z,0,none⟩) 8 8)/\w.heap.size<=Z/\RowsB w' Z x.T (nxL x.T x.D x.cu))/\Nd w0 w' k {x with D:=toldD x.T x.D (nxL x.T x.D x.cu),cu:=nxC x.T x.D x.cu} m (n+8)/\ChgL k.all w w':=by
 refine(tnext_any k.te k.tb k.mp n x.cu m x.low x.T x.D w h.te h.tb h.vs hm hn).mono ?_
 rintro e w' ⟨Z,L,c',hx,rfl,hz,hr,hh,hg⟩
 obtain⟨rfl,rfl⟩:=hx.one (nx_spec x.T x.D x.cu)
 exact⟨⟨Z,rfl,hz,hr⟩,h.onTe hh hg,ChgL.two hg k.m_te k.m_mp⟩
theorem mflows_nd (h:Nd w0 w k x m n) :
  Calls Tryz.prog 238 #[.pointer (some (k.mi,0))] w fun e w'=>(∃v,e=.returned v/\w'.ownsRow w 185 8 v (flL x.mt 32).length (flCs (flL x.mt 32)))/\Nd w0 w' k x m n/\ChgL k.all w w':=by
 refine(mflows_any k.mi x.ml x.mt w h.mi).mono ?_
 rintro e w' ⟨h1,c⟩
 exact⟨h1,h.below c,ChgL.of c⟩
theorem Nd.c0 (h:Nd w0 w k x m n):w.cell? (k.nd,0)=some (.pointer (some (k.ro,0))):=h.nd.c 0
theorem Nd.c1 (h:Nd w0 w k x m n):w.cell? (k.nd,1)=x.id:=h.nd.c 1
theorem Nd.c2 (h:Nd w0 w k x m n):w.cell? (k.nd,2)=x.life:=h.nd.c 2
theorem Nd.c3 (h:Nd w0 w k x m n):w.cell? (k.nd,3)=x.now:=h.nd.c 3
theorem Nd.c4 (h:Nd w0 w k x m n):w.cell? (k.nd,4)=some (.slice k.rp x.ru.length k.rc):=h.nd.c 4
theorem Nd.c5 (h:Nd w0 w k x m n):w.cell? (k.nd,5)=some (.pointer (some (k.ce,0))):=h.nd.c 5
theorem Nd.c6 (h:Nd w0 w k x m n):w.cell? (k.nd,6)=some (.pointer (some (k.te,0))):=h.nd.c 6
theorem Nd.c7 (h:Nd w0 w k x m n):w.cell? (k.nd,7)=some (.pointer (some (k.mi,0))):=h.nd.c 7
theorem Nd.t0 (h:Nd w0 w k x m n):w.cell? (k.te,0)=some (.pointer (some (k.tb,0))):=h.te.c0
theorem Nd.drew (h:Nd w0 w k x m n):Nd w0 w.drew k x m n:=h.below (Below.refl _ _).drew
end
section
variable {w0 w:World} {k:Bk} {x:No} {m n:Nat}
theorem until_nd (h:Nd w0 w k x m n) (pr st:Int) (hp:In6 pr) (hs:In6 st) (h0:0<=x.now) (h1:x.now<=1000000000) :
  Calls Tryz.prog 191 #[.pointer (some (k.nd,0)),pr,st] w fun e w'=>e=.returned (.int .i64 (x.now+stay pr st))/\Below w w w':=by
 have HN:Hid (Nd w0 w k x m n):=h
 have HT:Hid (∀u,Calls Tryz.prog 226 #[pr,st] u fun e w'=>e=.returned (.int .i64 (stay pr st))/\Below u u w'):=fun u=>time_any pr st u hp.wf hs.wf
 have hq:=stay_le pr st
 generalize stay pr st=t at *
 have hw:IntKind.i64.wrap (x.now+t)=x.now+t:=by rw[IntKind.wrap_i64];omega
 clear h hp hs h0 h1 hq
 generalize hnow:x.now=now at *
 have c3:w.cell? (k.nd,3)=now:=hnow ▸ HN.c3
 clear hnow
 go_enter Tryz.func191,Tryz.ntmps191
 have hS:w.drew.cell? (k.nd,3)=now/\Below w w w.drew:=⟨c3,(Below.refl _ _).drew⟩
 go_wp2_with fail
 go_region_held3 (fun w'=>w'.cell? (k.nd,3)=now/\Below w w w') (first | assumption | exact⟨tk hb1 hS.1,t2 hS.2 hb1⟩)
  (first | (go_at_call 226;refine(HT _).mono ?_;rintro e w1 ⟨rfl,hb1⟩))
 have B1:Hid (Below w w w1):=t2 hS.2 hb1
 go_wp2_with fail
 go_ret
 exact⟨rfl,B1⟩
def FlR (w:World) (v:Value) (L:List Ce) (bs:List Nat):Prop:=∃p cap,v=.slice p L.length cap/\∀(i:Nat) c,L[i]? = some c->∃g,p=some ⟨g,0,none⟩/\(¬g ∈ bs)/\∀(j:Nat) u,(flC c)[j]? = some u->w.cell? ⟨g,i * 8+j,none⟩=some u
theorem FlR.of_own {base:Nat} {v:Value} {L:List Ce} {bs:List Nat} (h:w.ownsRow base 185 8 v L.length (flCs L)) (hb:∀b ∈ bs,b < base):FlR w v L bs:=by
 have hlt:=h.lt
 obtain⟨h1,h2⟩:=h
 rcases h2 with⟨rfl,h0⟩ | ⟨g,cap,cur,rfl,q1,hh,q2,q3,q4,ht⟩
 ·refine⟨none,0,by rw[h0],fun j x hx=>?_⟩
  obtain⟨hlt,_⟩:=List.getElem?_eq_some_iff.1 hx
  omega
 ·refine⟨some (g,0),cap,rfl,fun i c hc=>⟨g,rfl,fun hm=>?_,fun j u hu=>?_⟩⟩
  ·have:=hb g hm
   have:=(hlt g rfl).1
   omega
  ·have h3:=flCs_at L i j c u hc hu
   have hj:j < 8:=(List.getElem?_eq_some_iff.1 hu).1
   have hi:=(List.getElem?_eq_some_iff.1 hc).1
   rw[<- ht,List.getElem?_take,if_pos (by omega),Array.getElem?_toList]at h3
   rw[cell_of_row w g _ _ _ _ hh]
   exact h3
theorem FlR.chg {w':World} {v:Value} {L:List Ce} {bs:List Nat} (h:FlR w v L bs) (c:ChgL bs w w'):FlR w' v L bs:=by
 obtain⟨p,cap,e,hh⟩:=h
 refine⟨p,cap,e,fun i c' hc=>?_⟩
 obtain⟨g,e1,e2,e3⟩:=hh i c' hc
 exact⟨g,e1,e2,fun j u hu=>c.keeps e2 (e3 j u hu)⟩
theorem FlB.un {Z:Nat} {c:Ce} (h:FlB w Z c) (u:Int):FlB (w.setCell (Z,7) u) Z {c with un:=u} :=
 ⟨by rw[World.cell?_setCell_other _ _ _ _ (by simp)];exact h.c0,by rw[World.cell?_setCell_other _ _ _ _ (by simp)];exact h.c1,by rw[World.cell?_setCell_other _ _ _ _ (by simp)];exact h.c2,by rw[World.cell?_setCell_other _ _ _ _ (by simp)];exact h.c3,by rw[World.cell?_setCell_other _ _ _ _ (by simp)];exact h.c4,by rw[World.cell?_setCell_other _ _ _ _ (by simp)];exact h.c5,by rw[World.cell?_setCell_other _ _ _ _ (by simp)];exact h.c6,World.cell?_setCell_same _ _ _ (u:=.int .i64 c.un) h.c7⟩
theorem Nd.lt (h:Nd w0 w k x m n):∀b ∈ k.all,b < w.heap.size:=by
 intro b hb
 simp only[Bk.all,List.mem_cons,List.not_mem_nil,or_false]at hb
 rcases hb with rfl | rfl | rfl | rfl | rfl | rfl | rfl | rfl
 ·exact h.nd.lt
 ·exact h.ro.lt
 ·exact h.ce.lt
 ·exact h.yb.lt
 ·exact tlt h.te.c0
 ·exact h.tb.lt
 ·exact h.te.m.lt
 ·exact h.mi.lt
theorem Nd.more {m':Nat} (h:Nd w0 w k x m n) (hm:m<=m'):Nd w0 w k x m' n:={h with vs:=h.vs.more hm}
theorem Nd.eqT {T T':Tb} (h:Nd w0 w k {x with T:=T} m n) (e:T'=T):Nd w0 w k {x with T:=T'} m n:=by rw[e];exact h
theorem adopt_nd {s:Nat->Addr} (S:SeN w0 s) (h:Nd w0 w k x m n) (h0:0<=x.now) (h1:x.now<=1000000000) (hm:m<=500000000) :
  Calls Tryz.prog 210 #[.pointer (some (k.nd,0))] w fun e w'=>e=.returned (.tuple #[])/\Nd w0 w' k {x with T:=adT x.now x.T (flL x.mt 32)} (m+32) n/\ChgL k.all w w':=by
 have HS:Hid (SeN w0 s):=S
 have HN:Hid (Nd w0 w k x m n):=h
 have HW:Hid (0<=x.now/\x.now<=1000000000/\m<=500000000):=⟨h0,h1,hm⟩
 have c7:=h.c7
 clear S h h0 h1 hm
 go_enter Tryz.func210,Tryz.ntmps210
 go_wp2_with fail
 refine(mflows_nd HN).mono ?_
 rintro e w1 ⟨⟨v,rfl,ho⟩,h1,k1⟩
 have F1:Hid (FlR w1 v (flL x.mt 32) k.all):=FlR.of_own ho (fun b hb=>HN.lt b hb)
 have N1:Hid (Nd w0 w1 k x m n):=h1
 have K1:Hid (ChgL k.all w w1):=k1
 have HL:Hid (∀c ∈ flL x.mt 32,In6 c.pr/\In6 c.st):=fun c hc=>by
  obtain⟨j,hj,rfl⟩:=flL_mem hc
  exact HN.wm j hj
 have HLL:Hid ((flL x.mt 32).length<=32):=flL_len _ _
 clear ho h1 k1 c7
 generalize hLe:flL x.mt 32=L at *
 have HLE:Hid (flL x.mt 32=L):=hLe
 clear hLe
 obtain⟨p,cap,rfl,_⟩:=F1.out
 go_wp2_with fail
 go_loopw [3,10] (fun _ t wr=>∃i:Nat,i<=L.length/\t=.int .i64 i/\Nd w0 wr k {x with T:=adT x.now x.T (L.take i)} (m+i) n/\ChgL k.all w wr/\FlR wr (.slice p L.length cap) L k.all) (fun _ t _=>L.length - (intOf t).toNat)
 case atStart=>exact⟨0,by omega,rfl,N1,K1,F1⟩
 case round =>
  obtain⟨i,hi,rfl,hn,hk,hf⟩:=hrel
  have NR:Hid (Nd w0 wr k {x with T:=adT x.now x.T (L.take i)} (m+i) n):=hn
  have KR:Hid (ChgL k.all w wr):=hk
  have FR:Hid (FlR wr (.slice p L.length cap) L k.all):=hf
  clear hn hk hf N1 K1 F1
  by_cases hlt:i < L.length
  ·as_aux_lemma =>
   obtain⟨p',cap',hv,hat⟩:=FR.out
   injection hv with hp1 hp2 hp3
   subst hp1
   obtain⟨c,hc⟩:∃c,c=L[i]:=⟨_,rfl⟩
   have HCI:Hid (L[i]? = some c):=by show _=_;rw[hc];exact List.getElem?_eq_getElem hlt
   obtain⟨g,hpg,hgn,hcs⟩:=hat i c HCI
   have HI:Hid (In6 c.pr/\In6 c.st):=HL.out c (List.mem_of_getElem? HCI)
   clear hc hat hp2 hp3
   subst hpg
   have d0:wr.cell? (g,i * 8)=c.pr:=hcs 0 _ rfl
   have d1:=hcs 1 _ rfl
   have d2:=hcs 2 _ rfl
   have d3:=hcs 3 _ rfl
   have d4:=hcs 4 _ rfl
   have d5:=hcs 5 _ rfl
   have d6:=hcs 6 _ rfl
   have d7:=hcs 7 _ rfl
   clear hcs
   have i0:(0:Int)<=(i:Int):=by omega
   have i1:(i:Int) < (L.length:Int):=by omega
   go_wp2_with fail
   clear d0 d1 d2 d3 d4 d5 d6 d7
   have B2:Hid (Below wr wr (wr.alloc (.cells #[c.pr,c.ia,c.ip,c.fa,c.fp,c.po,c.st,c.un] 185))):=aB _ _
   have Q2:Hid (FlB (wr.alloc (.cells #[c.pr,c.ia,c.ip,c.fa,c.fp,c.po,c.st,c.un] 185)) wr c):=flB_new wr c
   have Z2:Hid ((wr.alloc (.cells #[c.pr,c.ia,c.ip,c.fa,c.fp,c.po,c.st,c.un] 185)).frozen? (wr.heap.size,7)=false):=frozen_of_row _ _ _ _ _ (heap_alloc_new wr _)
   generalize wr.alloc (.cells #[c.pr,c.ia,c.ip,c.fa,c.fp,c.po,c.st,c.un] 185)=w2 at *
   refine(until_nd (NR.below B2) c.pr c.st HI.1 HI.2 HW.1 HW.2.1).mono ?_
   rintro e w3 ⟨rfl,hb3⟩
   have B3:Hid (Below wr wr w3):=t2 B2 hb3
   have Q3:Hid (FlB w3 wr c):=Q2.below hb3
   have Z3:Hid (w3.frozen? (wr.heap.size,7)=false):=by show _=_;rw[hb3.frozen (p:=⟨wr.heap.size,7,none⟩) (tlt Q2.c7)];exact Z2
   clear hb3 B2 Q2 Z2
   have HU:Hid (adT x.now x.T (L.take (i+1))=(putT (adT x.now x.T (L.take i)) c.pr c.ia c.ip c.fa c.fp c.po c.st (x.now+stay c.pr c.st)).2.2):=by
    show _=_
    rw[List.take_add_one,HCI.out]
    exact adT_snoc _ _ _ _
   have HG:Hid (wr.heap.size<=wr.heap.size):=Nat.le_refl _
   generalize hq:wr.heap.size=q at Q3 Z3 HG ⊢
   have q7:=Q3.c7
   have f7:=Z3.out
   have HQN:Hid (¬q ∈ k.all):=fun hm=>by have:=NR.lt _ hm;omega
   generalize x.now+stay c.pr c.st=un at *
   go_upto_region 4 with fail
   go_wp2_with fail
   have B4:Hid (Below wr wr (w3.setCell (q,7) un)):=Chg.below B3 (Chg.set q 7 w3 _) (by omega)
   have Q4:Hid (FlB (w3.setCell (q,7) un) q {c with un:=un}):=Q3.un un
   clear q7 f7 Q3 B3 Z3
   generalize w3.setCell (q,7) un=w4 at *
   have N4:Hid (Nd w0 w4 k {x with T:=adT x.now x.T (L.take i)} (m+i) n):=NR.below B4
   have hS:w4.drew.cell? (k.nd,6)=some (.pointer (some (k.te,0)))/\w4.drew.cell? (k.te,0)=some (.pointer (some (k.tb,0)))/\w4.drew.cell? (q,0)=c.pr/\w4.drew.cell? (q,1)=c.ia/\w4.drew.cell? (q,2)=c.ip/\w4.drew.cell? (q,3)=c.fa/\w4.drew.cell? (q,4)=c.fp/\w4.drew.cell? (q,5)=c.po/\w4.drew.cell? (q,6)=c.st/\w4.drew.cell? (q,7)=un:=⟨N4.c6,N4.t0,Q4.c0,Q4.c1,Q4.c2,Q4.c3,Q4.c4,Q4.c5,Q4.c6,Q4.c7⟩
   go_region_held3 (fun w'=>w'.cell? (k.nd,6)=some (.pointer (some (k.te,0)))/\w'.cell? (k.te,0)=some (.pointer (some (k.tb,0)))/\w'.cell? (q,0)=c.pr/\w'.cell? (q,1)=c.ia/\w'.cell? (q,2)=c.ip/\w'.cell? (q,3)=c.fa/\w'.cell? (q,4)=c.fp/\w'.cell? (q,5)=c.po/\w'.cell? (q,6)=c.st/\w'.cell? (q,7)=un)
    (first | assumption | exact⟨N5.c6,N5.t0,C5 _ _ hS.2.2.1,C5 _ _ hS.2.2.2.1,C5 _ _ hS.2.2.2.2.1,C5 _ _ hS.2.2.2.2.2.1,C5 _ _ hS.2.2.2.2.2.2.1,C5 _ _ hS.2.2.2.2.2.2.2.1,C5 _ _ hS.2.2.2.2.2.2.2.2.1,C5 _ _ hS.2.2.2.2.2.2.2.2.2⟩)
    (first | (go_at_call 239;refine(tput_nd HS N4.drew (by have:=HW.out;have:=HLL.out;omega) {c with un:=un} HI.1 HI.2).mono ?_;rintro e w5 ⟨⟨v5,rfl⟩,n5,k5⟩;have N5:Hid (Nd w0 w5 k {x with T:=adT x.now x.T (L.take (i+1))} (m+i+1) n):=n5.eqT HU.out;have K5:Hid (ChgL k.all w4 w5):=(ChgL.of (Below.refl _ _).drew).trans k5;have C5:Hid (∀(j:Nat) (u:Value),w4.drew.cell? (q,j)=some u->w5.cell? (q,j)=some u):=(fun j u hc=>k5.keeps (fun hm=>HQN.out hm) hc);clear n5 k5))
   have F5:Hid (FlR w5 (.slice (some (g,0)) L.length cap) L k.all):=(FR.chg (ChgL.of B4.out)).chg K5
   have X5:Hid (ChgL k.all w w5):=(KR.then B4).trans K5
   have hll:=HLL.out
   go_wp2_with fail
   exact⟨⟨i+1,by omega,by go_num,N5,X5,F5⟩,by simp[intOf];omega⟩
  ·obtain rfl:i=L.length:=by omega
   go_wp2_with fail
   go_end0
   rw[List.take_length]at NR
   exact⟨rfl,(NR.more (m':=m+32) (by have:=HLL.out;omega)).eqT (by rw[HLE.out]),KR⟩
theorem Ro.clE_ok {r:Ro} (ha:r.ac=false) (hn:r.nxE=0):r.clE r.nxV=0:=by
 have h2:¬1073741824 < r.nx:=by
  intro h;unfold Ro.nxE at hn;rw[if_pos h]at hn;cases hn
 unfold Ro.clE Ro.nxV
 rw[ha,if_neg (by simp),if_neg h2,if_neg h2,if_pos rfl]
theorem nclaim_nd {s:Nat->Addr} (S:SeN w0 s) (h:Nd w0 w k x m n) (ha:x.ro.ac=false) (h0:0<=x.now) (h1:x.now<=1000000000) (hm:m<=500000000) :
  Calls Tryz.prog 177 #[.pointer (some (k.nd,0))] w fun e w'=>e=.returned (terr s x.clE)/\Nd w0 w' k x.clm (m+32) n/\ChgL k.all w w':=by
 have HS:Hid (SeN w0 s):=S
 have HN:Hid (Nd w0 w k x m n):=h
 have HW:Hid (0<=x.now/\x.now<=1000000000/\m<=500000000):=⟨h0,h1,hm⟩
 have HA:Hid (x.ro.ac=false):=ha
 have c0:=h.c0
 clear S h h0 h1 hm ha
 go_enter Tryz.func177,Tryz.ntmps177
 go_wp2_with fail
 refine(rnext_nd HS HN).mono ?_
 rintro e w1 ⟨rfl,n1,k1⟩
 have N1:Hid (Nd w0 w1 k x m n):=n1
 have K1:Hid (ChgL k.all w w1):=k1
 clear n1 k1 c0
 by_cases hx:x.ro.nxE=0
 ·have HE:Hid (x.clE=x.cp.1):=by show _=_;unfold No.clE;rw[if_pos hx]
  have HC:Hid (x.ro.clE x.ro.nxV=0):=Ro.clE_ok HA hx
  have HX:Hid (x.ro.nxE=0):=hx
  rw[hx]
  clear hx
  simp only[terr]
  go_upto_region 4 with fail
  go_wp2_with fail
  have hS:w1.drew.cell? (k.nd,5)=some (.pointer (some (k.ce,0)))/\w1.drew.cell? (k.nd,2)=x.life:=⟨N1.c5,N1.c2⟩
  go_region_held3 (fun w'=>w'.cell? (k.nd,5)=some (.pointer (some (k.ce,0)))/\w'.cell? (k.nd,2)=x.life)
   (first | assumption | exact⟨N2.c5,N2.c2⟩)
   (first | (go_at_call 172;refine(cput_nd HS N1.drew x.ro.nxV x.life).mono ?_;rintro e w2 ⟨rfl,n2,k2⟩;have N2:Hid (Nd w0 w2 k {x with y:=x.cp.2.1,off:=x.cp.2.2} m n):=n2;have K2:Hid (ChgL k.all w w2):=(K1.then (Below.refl _ _).drew).trans k2;clear n2 k2))
  clear hS
  have HP:Hid (terr s (putE x.off x.y x.ro.nxV x.life).1=terr s x.cp.1):=rfl
  rw[show(putE x.off x.y x.ro.nxV x.life).1=x.cp.1 from rfl]
  by_cases hp:x.cp.1=0
  ·have HM:Hid (x.clm={x with y:=x.cp.2.1,off:=x.cp.2.2,T:=adT x.now x.T (flL x.mt 32),ro:=x.ro.claim x.ro.nxV}):=by show _=_;unfold No.clm;rw[if_pos HX.out,if_pos hp]
   have HE2:Hid (x.clE=0):=by show _=_;rw[HE.out,hp]
   rw[hp]
   clear hp HP
   simp only[terr]
   go_wp2_with fail
   refine(adopt_nd HS N2 HW.1 HW.2.1 HW.2.2).mono ?_
   rintro e w3 ⟨rfl,n3,k3⟩
   have N3:Hid (Nd w0 w3 k {x with y:=x.cp.2.1,off:=x.cp.2.2,T:=adT x.now x.T (flL x.mt 32)} (m+32) n):=n3
   have K3:Hid (ChgL k.all w w3):=K2.trans k3
   have c0:w3.cell? (k.nd,0)=some (.pointer (some (k.ro,0))):=n3.c0
   clear n3 k3 N2 K2
   go_wp2_with fail
   refine(rclaim_nd HS N3 x.ro.nxV).mono ?_
   rintro e w4 ⟨rfl,n4,k4⟩
   have N4:Hid (Nd w0 w4 k x.clm (m+32) n):=by show Nd _ _ _ _ _ _;rw[HM.out];exact n4
   have K4:Hid (ChgL k.all w w4):=K3.trans k4
   clear n4 k4 N3 K3 c0
   rw[show terr s (x.ro.clE x.ro.nxV)=.nilIface by rw[HC.out];rfl]
   go_wp2_with fail
   go_ret
   exact⟨by rw[HE2.out];rfl,N4,K4⟩
  ·have HM:Hid (x.clm={x with y:=x.cp.2.1,off:=x.cp.2.2}):=by show _=_;unfold No.clm;rw[if_pos HX.out,if_neg hp]
   obtain⟨e1,he1⟩:∃e1,x.cp.1=e1+1:=⟨x.cp.1 - 1,by omega⟩
   rw[he1]
   have HE2:Hid (x.clE=e1+1):=by show _=_;rw[HE.out,he1]
   clear hp HP he1
   simp only[terr]
   go_wp2_with fail
   go_ret
   exact⟨by rw[HE2.out];rfl,by rw[HM.out];exact N2.more (by omega),K2⟩
 ·have HE:Hid (x.clE=0):=by show _=_;unfold No.clE;rw[if_neg hx]
  have HM:Hid (x.clm=x):=by show _=_;unfold No.clm;rw[if_neg hx]
  obtain⟨e1,he1⟩:∃e1,x.ro.nxE=e1+1:=⟨x.ro.nxE - 1,by omega⟩
  rw[he1]
  clear hx he1
  simp only[terr]
  go_wp2_with fail
  go_ret
  exact⟨by rw[HE.out];rfl,by rw[HM.out];exact N1.more (by omega),K1⟩
end
theorem Vers.set {T:Tb} {n:Nat} (h:Vers T n) (k st un:Int):Vers (setT T k st un) (n+1):=by
 unfold setT
 split
 ·rename_i e
  have:=slotE_ok e
  exact h.lay (k:=k.toNat) (T k.toNat).pr (T k.toNat).ia (T k.toNat).ip (T k.toNat).fa (T k.toNat).fp (T k.toNat).po st un (by omega)
 ·exact h.more (by omega)
theorem set_any (b:Nat) (low:Int) (T:Tb) (k st un:Int) (n:Nat) (s:Nat->Addr) (w:World) (S:Se4 w s) (t:Tab w b low T) (hv:Vers T n) (hn:n<=1000000000) :
  Calls Tryz.prog 190 #[.pointer (some (b,0)),k,st,un] w fun e w'=>e=.returned (terr s (slotE T k))/\Tab w' b low (setT T k st un)/\Chg b w w':=by
 have HS:Hid (Se4 w s):=S
 have HT:Hid (Tab w b low T):=t
 have HV:Hid (Vers T n):=hv
 clear t S hv
 go_enter Tryz.func190,Tryz.ntmps190
 go_wp2_with fail
 refine(must_any b low T k s _ HS HT).mono ?_
 rintro e w1 ⟨rfl,hb1⟩
 have B1:Hid (Below w w w1):=hb1
 have T1:Hid (Tab w1 b low T):=HT.below hb1
 clear hb1
 by_cases he:slotE T k=0
 ·have HE:Hid (slotE T k=0):=he
  obtain⟨h0,h1,_⟩:=slotE_ok he
  obtain⟨j,rfl⟩:∃j:Nat,k=j:=⟨k.toNat,by omega⟩
  have hj:j < 32:=by omega
  rw[he]
  simp only[terr]
  clear he
  obtain⟨c,hc⟩:∃c,c=T j:=⟨_,rfl⟩
  have HC:Hid (c=T j):=hc
  have a2:=T1.at' (i:=j) (k:=2) hj (by omega)
  have a3:=T1.at' (i:=j) (k:=3) hj (by omega)
  have a4:=T1.at' (i:=j) (k:=4) hj (by omega)
  have a5:=T1.at' (i:=j) (k:=5) hj (by omega)
  have a6:=T1.at' (i:=j) (k:=6) hj (by omega)
  have a7:=T1.at' (i:=j) (k:=7) hj (by omega)
  have a8:=T1.at' (i:=j) (k:=8) hj (by omega)
  have a9:=T1.at' (i:=j) (k:=9) hj (by omega)
  rw[<- hc]at a2 a3 a4 a5 a6 a7 a8 a9
  simp only[Ce.get]at a2 a3 a4 a5 a6 a7 a8 a9
  clear hc
  go_wp2_with fail
  clear a2 a3 a4 a5 a6 a7 a8 a9
  have hve:=HV.out j hj
  refine(lay_any b low T j ⟨0,c.pr,c.ia,c.ip,c.fa,c.fp,c.po,st,un⟩ _ (T1.below (aB _ _)) hj hve.1 (by omega)).mono ?_
  rintro e w2 ⟨rfl,t2',c2⟩
  have T2:Hid (Tab w2 b low (setT T j st un)):=by
   show Tab w2 b low (setT T j st un)
   unfold setT
   rw[if_pos HE.out,Int.toNat_natCast]
   rw[HC.out]at t2'
   exact t2'
  have C2:Hid (Chg b w w2):=(Chg.of (t2 B1 (aB _ _))).trans c2
  clear t2' c2 hve
  go_wp2_with fail
  go_ret
  exact⟨by rw[HE.out];rfl,T2,C2⟩
 ·have HE:Hid (slotE T k≠0):=he
  obtain⟨v,hv⟩:=terr_ne s he
  rw[hv]
  clear he
  go_wp2_with fail
  go_ret
  refine⟨hv ▸ rfl,?_,Chg.of B1.out⟩
  unfold setT
  rw[if_neg HE.out]
  exact T1
section
variable {w w':World} {s:Nat->Addr} {Q:Nat} {c:Ce}
structure SeM (w:World) (s:Nat->Addr):Prop where
 c1:w.cell? (0,0)=some (.iface 312 (.pointer (some (s 1))))
 c2:w.cell? (2,0)=some (.iface 312 (.pointer (some (s 2))))
 c3:w.cell? (3,0)=some (.iface 312 (.pointer (some (s 3))))
 c4:w.cell? (4,0)=some (.iface 312 (.pointer (some (s 4))))
 c5:w.cell? (5,0)=some (.iface 312 (.pointer (some (s 5))))
 c6:w.cell? (6,0)=some (.iface 312 (.pointer (some (s 6))))
 c7:w.cell? (7,0)=some (.iface 312 (.pointer (some (s 7))))
 c8:w.cell? (8,0)=some (.iface 312 (.pointer (some (s 8))))
 c9:w.cell? (9,0)=some (.iface 312 (.pointer (some (s 9))))
 c10:w.cell? (10,0)=some (.iface 312 (.pointer (some (s 10))))
theorem SeM.below (S:SeM w s) (hb:Below w w w'):SeM w' s:=⟨tk hb S.c1,tk hb S.c2,tk hb S.c3,tk hb S.c4,tk hb S.c5,tk hb S.c6,tk hb S.c7,tk hb S.c8,tk hb S.c9,tk hb S.c10⟩
theorem SeM.n (S:SeM w s):SeN w s:=⟨S.c1,S.c2,S.c4,S.c5,S.c6,S.c9,S.c10⟩
theorem SeM.s4 (S:SeM w s):Se4 w s:=⟨S.c1,S.c3,S.c4,S.c5⟩
theorem errV_eq (s:Nat->Addr) (n:Nat):errV s n=terr s n:=by cases n <;> rfl
structure Pk where
 pr:Int
 a1:Int
 p1:Int
 a2:Int
 p2:Int
 fl:Int
abbrev Pk.v (p:Pk):Value:=.agg #[p.pr,p.a1,p.p1,p.a2,p.p2,p.fl]
def Pk.err (p:Pk):Nat:=pkErr p.pr p.a1 p.p1 p.a2 p.p2 p.fl
def No.chk (x:No) (p:Pk):Nat:=if p.err=0 then (if x.ro.ac then 0 else 9) else p.err
theorem check_nd {w0:World} {k:Bk} {x:No} {m n:Nat} (S:SeM w0 s) (h:Nd w0 w k x m n) (p:Pk) :
  Calls Tryz.prog 149 #[.pointer (some (k.nd,0)),p.v] w fun e w'=>e=.returned (terr s (x.chk p))/\Below w w w':=by
 have HS:Hid (SeM w0 s):=S
 have HN:Hid (Nd w0 w k x m n):=h
 clear S h
 go_enter Tryz.func149,Tryz.ntmps149
 go_wp2_with fail
 have B1:Hid (Below w w (w.alloc (.cells #[p.pr,p.a1,p.p1,p.a2,p.p2,p.fl] 41))):=aB _ _
 generalize w.alloc (.cells #[p.pr,p.a1,p.p1,p.a2,p.p2,p.fl] 41)=w1 at *
 have HX:Hid (errV s (pkErr p.pr p.a1 p.p1 p.a2 p.p2 p.fl)=terr s p.err):=errV_eq s _
 refine(check_any p.pr p.a1 p.p1 p.a2 p.p2 p.fl s w1 (HS.below (t2 HN.bl B1)).n.sn).mono ?_
 rintro e w2 ⟨rfl,hb2⟩
 have B2:Hid (Below w w w2):=t2 B1 hb2
 have N2:Hid (Nd w0 w2 k x m n):=HN.below B2
 have S2:Hid (SeM w2 s):=HS.below N2.bl
 rw[HX.out]
 clear hb2 HX B1
 by_cases he:p.err=0
 ·have c0:=N2.c0
  rw[he]
  simp only[terr]
  go_wp2_with fail
  refine(active_any k.ro x.ro w2 N2.ro).mono ?_
  rintro e w3 ⟨rfl,hw⟩
  obtain rfl:=hw.symm
  clear hw
  cases ha:x.ro.ac
  ·have HC:Hid (x.chk p=9):=by show _=_;unfold No.chk;rw[if_pos he,ha];rfl
   have s8:=S2.c8
   clear he ha
   go_wp2_with fail
   go_ret
   exact⟨by rw[HC.out];rfl,B2⟩
  ·have HC:Hid (x.chk p=0):=by show _=_;unfold No.chk;rw[if_pos he,ha];rfl
   clear he ha
   go_wp2_with fail
   go_ret
   exact⟨by rw[HC.out];rfl,B2⟩
 ·have HC:Hid (x.chk p=p.err):=by show _=_;unfold No.chk;rw[if_neg he]
  obtain⟨e1,he1⟩:∃e1,p.err=e1+1:=⟨p.err - 1,by omega⟩
  rw[he1]at HC ⊢
  clear he he1
  simp only[terr]
  go_wp2_with fail
  go_ret
  exact⟨by rw[HC.out];rfl,B2⟩
def FlZ (w:World) (Q:Nat) (c:Ce):Prop:=w.heap[Q]? = some (.cells #[c.pr,c.ia,c.ip,c.fa,c.fp,c.po,c.st,c.un] 185 (0,0))
theorem FlZ.lt (h:FlZ w Q c):Q < w.heap.size:=by
 rcases Nat.lt_or_ge Q w with a | a
 ·exact a
 ·unfold FlZ at h;rw[Array.getElem?_eq_none a]at h;cases h
theorem FlZ.below (h:FlZ w Q c) (hb:Below w w w'):FlZ w' Q c:=by unfold FlZ;rw[hb.block Q h.lt];exact h
theorem FlZ.chgL {l:List Nat} (h:FlZ w Q c) (hb:ChgL l w w') (hn:¬Q ∈ l):FlZ w' Q c:=by unfold FlZ;rw[hb.block Q h.lt hn];exact h
theorem FlZ.b (h:FlZ w Q c):FlB w Q c:=⟨(cell_of_row w _ _ _ _ _ h).trans rfl,(cell_of_row w _ _ _ _ _ h).trans rfl,(cell_of_row w _ _ _ _ _ h).trans rfl,(cell_of_row w _ _ _ _ _ h).trans rfl,(cell_of_row w _ _ _ _ _ h).trans rfl,(cell_of_row w _ _ _ _ _ h).trans rfl,(cell_of_row w _ _ _ _ _ h).trans rfl,(cell_of_row w _ _ _ _ _ h).trans rfl⟩
theorem FlZ.fr (h:FlZ w Q c) (i:Nat):w.frozen? (Q,i)=false:=frozen_of_row w _ i _ _ h
theorem FlZ.new (w:World) (c:Ce):FlZ (w.alloc (.cells #[c.pr,c.ia,c.ip,c.fa,c.fp,c.po,c.st,c.un] 185)) w c:=heap_alloc_new w _
theorem FlZ.zero (w:World):FlZ (w.alloc (.cells #[.int .i64 0,.int .i64 0,.int .i64 0,.int .i64 0,.int .i64 0,.int .i64 0,.int .i64 0,.int .i64 0] 185)) w noC:=heap_alloc_new w _
theorem flz_store (h:FlZ w Q c) (d:Ce) :
  ∃w',(Instr.storeAt 185 (.pointer (some (Q,0))) (.agg #[d.pr,d.ia,d.ip,d.fa,d.fp,d.po,d.st,d.un])).run Tryz.prog w=.ok () w'/\FlZ w' Q d/\Chg Q w w':=by
 have hs:(sizeOf 185).run Tryz.prog w=.ok 8 w:=by kernel_rfl
 have hst:=run_storeCells_at Tryz.prog Q 0 185 (flC d) 0 _ w h (by simp[flC]) (fun u hu=>by
  simp only[flC,List.mem_cons,List.not_mem_nil,or_false]at hu
  rcases hu with rfl | rfl | rfl | rfl | rfl | rfl | rfl | rfl <;> rfl)
 refine⟨w.setRow Q #[d.pr,d.ia,d.ip,d.fa,d.fp,d.po,d.st,d.un],?_,setRow_heap w Q _ _ _ _ h,chg_row _ _ _⟩
 simp only[Instr.storeAt,Instr.sureAddr,Sem.run_bind,Sem.run_pure,Result.andThen_ok,storeVar,hs,Value.cells]
 simp[flC]at hst ⊢
 exact hst
theorem flow_nd {w0:World} {k:Bk} {x:No} {m n:Nat} (h:Nd w0 w k x m n) (j:Nat) (hj:j < 32) :
  Calls Tryz.prog 187 #[.pointer (some (k.nd,0)),j] w fun e w'=>e=.returned (flowV (x.T j))/\Below w w w':=by
 have HN:Hid (Nd w0 w k x m n):=h
 have c6:(w.alloc (.cells #[.int .i64 0,.int .i64 0,.int .i64 0,.int .i64 0,.int .i64 0,.int .i64 0,.int .i64 0,.int .i64 0] 185)).cell? (k.nd,6)=some (.pointer (some (k.te,0))):=(h.below (aB _ _)).c6
 have t0:(w.alloc (.cells #[.int .i64 0,.int .i64 0,.int .i64 0,.int .i64 0,.int .i64 0,.int .i64 0,.int .i64 0,.int .i64 0] 185)).cell? (k.te,0)=some (.pointer (some (k.tb,0))):=(h.below (aB _ _)).t0
 clear h
 go_enter Tryz.func187,Tryz.ntmps187
 go_wp2_with fail
 clear c6 t0
 have Z1:=FlZ.zero w
 have B1:Hid (Below w w (w.alloc (.cells #[.int .i64 0,.int .i64 0,.int .i64 0,.int .i64 0,.int .i64 0,.int .i64 0,.int .i64 0,.int .i64 0] 185))):=aB _ _
 generalize w.alloc (.cells #[.int .i64 0,.int .i64 0,.int .i64 0,.int .i64 0,.int .i64 0,.int .i64 0,.int .i64 0,.int .i64 0] 185)=w1 at *
 refine(get_ok k.tb x.low x.T j w1 (HN.below B1).tb hj).mono ?_
 rintro e w2 ⟨rfl,hb2⟩
 have Z2:Hid (FlZ w2 w noC):=Z1.below hb2
 have B2:Hid (Below w w w2):=t2 B1 hb2
 clear hb2 Z1 B1
 obtain⟨c,hc⟩:∃c,x.T j=c:=⟨_,rfl⟩
 have HCC:Hid (x.T j=c):=hc
 rw[hc]
 clear hc
 simp only[cellV]
 obtain⟨w3,hst,hz3,hc3⟩:=flz_store (Z2.below (aB w2 (.cells #[j,c.ve,c.pr,c.ia,c.ip,c.fa,c.fp,c.po,c.st,c.un] 187))) c
 have B3:Hid (Below w w w3):=Chg.below (t2 B2 (aB _ _)) hc3 (Nat.le_refl _)
 have Z3:Hid (FlZ w3 w c):=hz3
 clear hz3 hc3
 go_wp2_with (refine wpList_store_eq rfl 185 _ _ rfl _ _ _ rfl rfl hst ?_)
 clear hst
 have q:=Z3.b
 go_wp2_with fail
 exact bodyPost_ret (v:=flowV c) (by simp[results,Tryz.results187,go_sem,q.c0,q.c1,q.c2,q.c3,q.c4,q.c5,q.c6,q.c7,flowV]) rfl ⟨by rw[HCC.out],B3⟩
end
section
variable {w0 w:World} {k:Bk} {m n:Nat} {s:Nat->Addr}
def No.nst (x:No) (j:Nat) (fl:Int) (ou:Bool):Int:=nxtS (x.T j).pr (x.T j).st fl ou
def No.stp (x:No) (j:Nat) (fl:Int) (ou:Bool):No :=
 if nxtG (x.T j).pr fl then {x with T:=dropT x.T j} else {x with T:=setT x.T j (x.nst j fl ou) (x.now+stay (x.T j).pr (x.nst j fl ou))}
theorem nst_in {x:No} {j:Nat} {fl:Int} {ou:Bool} (h:In6 (x.T j).st):In6 (x.nst j fl ou):=by
 unfold No.nst nxtS
 repeat' split
 all_goals first | exact h | exact In6.small (by omega) (by omega)
theorem tset_nd {x:No} (S:SeM w0 s) (h:Nd w0 w k x m n) (hm:m<=1000000000) (j st un:Int) (hs:In6 st) :
  Calls Tryz.prog 190 #[.pointer (some (k.tb,0)),j,st,un] w fun e w'=>(∃v,e=.returned v)/\Nd w0 w' k {x with T:=setT x.T j st un} (m+1) n/\ChgL k.all w w':=by
 refine(set_any k.tb x.low x.T j st un m s w (S.below h.bl).s4 h.tb h.vs hm).mono ?_
 rintro e w' ⟨rfl,t,q⟩
 exact⟨⟨_,rfl⟩,h.onTb t (h.vs.set _ _ _) (h.wt.set _ _ _ hs) q,ChgL.one q k.m_tb⟩
theorem tdrop_nd {x:No} (S:SeM w0 s) (h:Nd w0 w k x m n) (hm:m<=1000000000) (j:Int) :
  Calls Tryz.prog 189 #[.pointer (some (k.tb,0)),j] w fun e w'=>(∃v,e=.returned v)/\Nd w0 w' k {x with T:=dropT x.T j} (m+1) n/\ChgL k.all w w':=by
 refine(drop_any k.tb x.low x.T j m s w (S.below h.bl).s4 h.tb h.vs hm).mono ?_
 rintro e w' ⟨rfl,t,q⟩
 exact⟨⟨_,rfl⟩,h.onTb t (h.vs.drop _) (h.wt.drop _) q,ChgL.one q k.m_tb⟩
theorem Nd.fresh {u u':World} {x y:No} {m' n' Q:Nat} (H:Nd w0 w k x m n) (h:Nd w0 u k y m' n') (hy:y.ru=x.ru) (c:ChgL k.all w u) (g:Chg Q u u') (hr:w.heap.size<=Q):Nd w0 u' k y m' n'/\ChgL k.all w u':=by
 have g':ChgL [Q] u u':=ChgL.one g (by simp)
 have hq:∀b ∈ [Q],w.heap.size<=b:=fun b hb=>by simp at hb;omega
 refine⟨h.kept g' (fun b hb hm=>?_) (fun hn a e hm=>?_) (fun b hb=>Nat.le_trans H.bl.size (hq b hb)),?_⟩
 ·have:=hq b hm;have:=H.lt b hb;omega
 ·have:=hq _ hm
  have hlt:a.block < w.heap.size:=by
   have hn':x.ru≠[]:=by rw[<- hy];exact hn
   obtain⟨r,hr'⟩:=List.exists_mem_of_ne_nil _ hn'
   obtain⟨i,hi⟩:=List.getElem?_of_mem hr'
   obtain⟨b,o,e2,h0,_⟩:=H.ru i r hi
   rw[e]at e2
   cases e2
   have q:b < w.heap.size:=tlt h0
   exact q
  omega
 ·have h1:ChgL (k.all++[Q]) w u:=c.mono (fun b hb=>Or.inl (List.mem_append_left _ hb))
  have h2:ChgL (k.all++[Q]) u u':=g'.mono (fun b hb=>Or.inl (List.mem_append_right _ hb))
  exact(h1.trans h2).mono (fun b hb=>by rcases List.mem_append.1 hb with q | q;exact Or.inl q;exact Or.inr (hq b q))
theorem step_nd {x:No} (S:SeM w0 s) (h:Nd w0 w k x m n) (hm:m<=1000000000) (h0:0<=x.now) (h1:x.now<=1000000000) (j:Nat) (hj:j < 32) (fl:Int) (ou:Bool) :
  Calls Tryz.prog 152 #[.pointer (some (k.nd,0)),j,fl,.bool ou] w fun e w'=>e=.returned (flowV (x.T j))/\Nd w0 w' k (x.stp j fl ou) (m+1) n/\ChgL k.all w w':=by
 have HS:Hid (SeM w0 s):=S
 have HN:Hid (Nd w0 w k x m n):=h
 have HW:Hid (0<=x.now/\x.now<=1000000000/\m<=1000000000):=⟨h0,h1,hm⟩
 have HJ:Hid (j < 32):=hj
 clear S h h0 h1 hm hj
 go_enter Tryz.func152,Tryz.ntmps152
 go_wp2_with fail
 have Z1:Hid (FlZ (w.alloc (.cells #[.int .i64 0,.int .i64 0,.int .i64 0,.int .i64 0,.int .i64 0,.int .i64 0,.int .i64 0,.int .i64 0] 185)) w noC):=FlZ.zero w
 have B1:Hid (Below w w (w.alloc (.cells #[.int .i64 0,.int .i64 0,.int .i64 0,.int .i64 0,.int .i64 0,.int .i64 0,.int .i64 0,.int .i64 0] 185))):=aB _ _
 generalize w.alloc (.cells #[.int .i64 0,.int .i64 0,.int .i64 0,.int .i64 0,.int .i64 0,.int .i64 0,.int .i64 0,.int .i64 0] 185)=w1 at *
 refine(flow_nd (HN.below B1) j HJ).mono ?_
 rintro e w2 ⟨rfl,hb2⟩
 have Z2:Hid (FlZ w2 w noC):=Z1.below hb2
 have B2:Hid (Below w w w2):=t2 B1 hb2
 clear hb2 Z1 B1
 obtain⟨c,hc⟩:∃c,x.T j=c:=⟨_,rfl⟩
 have HCC:Hid (x.T j=c):=hc
 have HI:Hid (In6 c.pr/\In6 c.st):=hc ▸ HN.wt j HJ
 have HG:Hid (nxtG (x.T j).pr fl=nxtG c.pr fl/\x.nst j fl ou=nxtS c.pr c.st fl ou):=by rw[hc];exact⟨rfl,by unfold No.nst;rw[hc]⟩
 rw[hc]
 clear hc
 simp only[flowV]
 go_wp2_with fail
 have Z3:Hid (FlZ (w2.alloc (.cells #[c.pr,c.ia,c.ip,c.fa,c.fp,c.po,c.st,c.un] 185)) w noC):=Z2.below (aB _ _)
 have Y3:Hid (FlZ (w2.alloc (.cells #[c.pr,c.ia,c.ip,c.fa,c.fp,c.po,c.st,c.un] 185)) w2 c):=FlZ.new w2 c
 have B3:Hid (Below w w (w2.alloc (.cells #[c.pr,c.ia,c.ip,c.fa,c.fp,c.po,c.st,c.un] 185))):=t2 B2 (aB _ _)
 have LQ:Hid (w.heap.size<=w2.heap.size):=B2.size
 generalize w2.alloc (.cells #[c.pr,c.ia,c.ip,c.fa,c.fp,c.po,c.st,c.un] 185)=w3 at *
 generalize w2.heap.size=Q at *
 clear Z2 B2
 have N3:Hid (Nd w0 w3 k x m n):=HN.below B3
 refine(tknext_any c.pr c.st fl ou w3).mono ?_
 rintro e w4 ⟨rfl,hw⟩
 obtain rfl:=hw.symm
 clear hw
 obtain⟨st',hst'⟩:∃st',nxtS c.pr c.st fl ou=st':=⟨_,rfl⟩
 have HIS:Hid (In6 st'):=by
  show In6 st'
  rw[<- hst',<- HG.2]
  exact nst_in (by rw[HCC.out];exact HI.2)
 have HGS:Hid (x.nst j fl ou=st'):=HG.2.trans hst'
 have HNQ:Hid (¬Q ∈ k.all):=fun hm=>by have:=HN.lt _ hm;have:=LQ.out;omega
 have HNW:Hid (¬w.heap.size ∈ k.all):=fun hm=>by have:=HN.lt _ hm;omega
 rw[hst']
 clear hst'
 cases hg:nxtG c.pr fl
 ·have HX:Hid (x.stp j fl ou={x with T:=setT x.T j st' (x.now+stay c.pr st')}):=by show _=_;unfold No.stp;rw[HG.1,hg,HGS.out,HCC.out];rfl
  clear hg
  go_upto_region 5 with fail
  go_wp2_with fail
  have HTU:Hid (∀u,Nd w0 u k x m n->Calls Tryz.prog 191 #[.pointer (some (k.nd,0)),c.pr,st'] u fun e w'=>e=.returned (.int .i64 (x.now+stay c.pr st'))/\Below u u w'):=fun u hu=>until_nd hu c.pr st' HI.1 HIS HW.1 HW.2.1
  have HTS:Hid (∀u un,Nd w0 u k x m n->Calls Tryz.prog 190 #[.pointer (some (k.tb,0)),j,st',.int .i64 un] u fun e w'=>(∃v,e=.returned v)/\Nd w0 w' k {x with T:=setT x.T j st' un} (m+1) n/\ChgL k.all u w'):=fun u un hu=>tset_nd HS hu HW.2.2 j st' un HIS
  generalize x.now+stay c.pr st'=un at *
  have hS:w3.drew.cell? (k.nd,6)=some (.pointer (some (k.te,0)))/\w3.drew.cell? (k.te,0)=some (.pointer (some (k.tb,0)))/\w3.drew.cell? (Q,0)=c.pr:=⟨N3.c6,N3.t0,Y3.b.c0⟩
  go_region_held3 (fun w'=>w'.cell? (k.nd,6)=some (.pointer (some (k.te,0)))/\w'.cell? (k.te,0)=some (.pointer (some (k.tb,0)))/\w'.cell? (Q,0)=c.pr)
   (first | assumption | exact⟨tk hb5 hS.1,tk hb5 hS.2.1,tk hb5 hS.2.2⟩ | exact⟨N6.c6,N6.t0,K6.keeps HNQ (tk hb5 hS.2.2)⟩)
   (first
    | (go_at_call 191;refine(HTU _ N3.drew).mono ?_;rintro e w5 ⟨rfl,hb5⟩)
    | (go_at_call 190;refine(HTS _ un (N3.drew.below hb5)).mono ?_;rintro e w6 ⟨⟨v6,rfl⟩,n6,k6⟩;have N6:Hid (Nd w0 w6 k {x with T:=setT x.T j st' un} (m+1) n):=n6;have K6:Hid (ChgL k.all w5 w6):=k6;clear n6 k6))
  have Z6:Hid (FlZ w6 w noC):=((Z3.below (Below.refl _ _).drew).below hb5).chgL K6 HNW
  have Y6:Hid (FlZ w6 Q c):=((Y3.below (Below.refl _ _).drew).below hb5).chgL K6 HNQ
  have X6:Hid (ChgL k.all w w6):=(ChgL.of (t2 (t2 B3 (Below.refl _ _).drew) hb5)).trans K6
  clear hS hb5 K6
  obtain⟨w7,hst,hz7,hc7⟩:=flz_store Z6 c
  obtain⟨n7,k7⟩:=HN.fresh N6 rfl X6 hc7 (Nat.le_refl _)
  have N7:Hid (Nd w0 w7 k {x with T:=setT x.T j st' un} (m+1) n):=n7
  have K7:Hid (ChgL k.all w w7):=k7
  have Z7:Hid (FlZ w7 w c):=hz7
  have y:=Y6.b
  have y0:=y.c0
  have y1:=y.c1
  have y2:=y.c2
  have y3:=y.c3
  have y4:=y.c4
  have y5:=y.c5
  have y6:=y.c6
  have y7:=y.c7
  clear n7 k7 hz7 hc7 y
  go_wp2_with (refine wpList_store_eq rfl 185 _ _ rfl _ _ _ rfl rfl hst ?_)
  clear hst y0 y1 y2 y3 y4 y5 y6 y7
  have q:=Z7.b
  go_wp2_with fail
  exact bodyPost_ret (v:=flowV c) (by simp[results,Tryz.results152,go_sem,q.c0,q.c1,q.c2,q.c3,q.c4,q.c5,q.c6,q.c7,flowV]) rfl ⟨by rw[HCC.out],by rw[HX.out];exact N7,K7⟩
 ·have HX:Hid (x.stp j fl ou={x with T:=dropT x.T j}):=by show _=_;unfold No.stp;rw[HG.1,hg];rfl
  clear hg
  have c6:=N3.c6
  have t0:=N3.t0
  go_wp2_with fail
  refine(tdrop_nd HS N3 HW.2.2 j).mono ?_
  rintro e w6 ⟨⟨v6,rfl⟩,n6,k6⟩
  have N6:Hid (Nd w0 w6 k {x with T:=dropT x.T j} (m+1) n):=n6
  have Z6:Hid (FlZ w6 w noC):=Z3.chgL k6 HNW
  have Y6:Hid (FlZ w6 Q c):=Y3.chgL k6 HNQ
  have X6:Hid (ChgL k.all w w6):=(ChgL.of B3.out).trans k6
  clear n6 k6 c6 t0
  obtain⟨w7,hst,hz7,hc7⟩:=flz_store Z6 c
  obtain⟨n7,k7⟩:=HN.fresh N6 rfl X6 hc7 (Nat.le_refl _)
  have N7:Hid (Nd w0 w7 k {x with T:=dropT x.T j} (m+1) n):=n7
  have K7:Hid (ChgL k.all w w7):=k7
  have Z7:Hid (FlZ w7 w c):=hz7
  have y:=Y6.b
  have y0:=y.c0
  have y1:=y.c1
  have y2:=y.c2
  have y3:=y.c3
  have y4:=y.c4
  have y5:=y.c5
  have y6:=y.c6
  have y7:=y.c7
  clear n7 k7 hz7 hc7 y
  go_wp2_with (refine wpList_store_eq rfl 185 _ _ rfl _ _ _ rfl rfl hst ?_)
  clear hst y0 y1 y2 y3 y4 y5 y6 y7
  have q:=Z7.b
  go_wp2_with fail
  exact bodyPost_ret (v:=flowV c) (by simp[results,Tryz.results152,go_sem,q.c0,q.c1,q.c2,q.c3,q.c4,q.c5,q.c6,q.c7,flowV]) rfl ⟨by rw[HCC.out],by rw[HX.out];exact N7,K7⟩
end
structure Se18 (w:World) (s:Nat->Addr):Prop where
 c1:w.cell? (0,0)=some (.iface 312 (.pointer (some (s 1))))
 c8:w.cell? (8,0)=some (.iface 312 (.pointer (some (s 8))))
theorem begin_ok (w:World):Calls Tryz.prog 221 #[.int .i64 2,.int .i64 1] w fun e w'=>e=.returned (.tuple #[.int .i64 1,.nilIface])/\w'=w:=by
 go_enter Tryz.func221,Tryz.ntmps221
 go_wp2_with fail
 go_ret2
 exact⟨rfl,rfl⟩
def bgnV (s:Nat->Addr):Nat->Value
 | 0=>.nilIface
 | k+1=>.iface 312 (.pointer (some (s k)))
theorem begin_bad (pr fl:Int) (s:Nat->Addr) (w:World) (S:Se18 w s) (h:((pr != 1)=true/\(pr != 2)=true)\/((pr=1\/pr=2)/\(fl < 0\/15 < fl))) :
  Calls Tryz.prog 221 #[pr,fl] w fun e w'=>e=.returned (.tuple #[.int .i64 0,bgnV s 2])/\Below w w w':=by
 have c1:=S.c1
 clear S
 rcases h with⟨h1,h2⟩ | ⟨rfl | rfl,h | h⟩
 all_goals
  go_enter Tryz.func221,Tryz.ntmps221
  go_wp2_with fail
  go_region
  all_goals go_wp2_with fail
  all_goals go_ret2
  all_goals exact⟨rfl,(Below.refl _ _).drew⟩
theorem begin_state (fl:Int) (s:Nat->Addr) (w:World) (S:Se18 w s) (h0:0<=fl) (h1:fl<=15) (h:fl≠1) :
  Calls Tryz.prog 221 #[.int .i64 2,fl] w fun e w'=>e=.returned (.tuple #[.int .i64 0,bgnV s 9])/\Below w w w':=by
 have c8:=S.c8
 have h2:(fl != 1)=true:=bne_iff_ne.2 h
 clear S h
 go_enter Tryz.func221,Tryz.ntmps221
 go_wp2_with fail
 go_region
 all_goals go_wp2_with fail
 all_goals go_ret2
 all_goals exact⟨rfl,(Below.refl _ _).drew⟩
theorem begin_udp (fl:Int) (w:World) (h0:0<=fl) (h1:fl<=15) :
  Calls Tryz.prog 221 #[.int .i64 1,fl] w fun e w'=>e=.returned (.tuple #[.int .i64 2,.nilIface])/\w'=w:=by
 go_enter Tryz.func221,Tryz.ntmps221
 go_wp2_with fail
 go_ret2
 exact⟨rfl,rfl⟩
theorem begin_any (pr fl:Int) (s:Nat->Addr) (w:World) (S:Se18 w s) :
  Calls Tryz.prog 221 #[pr,fl] w fun e w'=>e=.returned (.tuple #[.int .i64 (bgnS pr fl),bgnV s (bgnE pr fl)])/\Below w w w':=by
 by_cases h:(pr=1\/pr=2)/\0<=fl/\fl<=15
 ·by_cases h1:pr=1
  ·subst h1
   have e1:bgnS 1 fl=2:=by unfold bgnS;rw[if_pos h];rfl
   have e2:bgnE 1 fl=0:=by unfold bgnE;rw[if_pos h];rfl
   rw[e1,e2]
   exact(begin_udp fl w h.2.1 h.2.2).mono fun e w' ⟨he,hw⟩=>⟨he,by rw[hw];exact Below.refl _ _⟩
  ·obtain rfl:pr=2:=by omega
   by_cases h2:fl=1
   ·subst h2
    have e1:bgnS 2 1=1:=by decide
    have e2:bgnE 2 1=0:=by decide
    rw[e1,e2]
    exact(begin_ok w).mono fun e w' ⟨he,hw⟩=>⟨he,by rw[hw];exact Below.refl _ _⟩
   ·have e1:bgnS 2 fl=0:=by unfold bgnS;rw[if_pos h,if_neg (by omega),if_neg h2]
    have e2:bgnE 2 fl=9:=by unfold bgnE;rw[if_pos h,if_neg (by omega),if_neg h2]
    rw[e1,e2]
    exact begin_state fl s w S h.2.1 h.2.2 h2
 ·have e1:bgnS pr fl=0:=by unfold bgnS;rw[if_neg h]
  have e2:bgnE pr fl=2:=by unfold bgnE;rw[if_neg h]
  rw[e1,e2]
  refine begin_bad pr fl s w S ?_
  simp only[bne_iff_ne,ne_eq]
  omega
structure EnB (w:World) (Z:Nat) (ia ip fa fp:Int):Prop where
 c0:w.cell? (Z,0)=ia
 c1:w.cell? (Z,1)=ip
 c2:w.cell? (Z+1,0)=fa
 c3:w.cell? (Z+1,1)=fp
theorem EnB.below {w w':World} {Z:Nat} {ia ip fa fp:Int} (h:EnB w Z ia ip fa fp) (hb:Below w w w'):EnB w' Z ia ip fa fp:=⟨tk hb h.c0,tk hb h.c1,tk hb h.c2,tk hb h.c3⟩
theorem enB_new (w:World) (ia ip fa fp:Int):EnB ((w.alloc (.cells #[ia,ip] 39)).alloc (.cells #[fa,fp] 39)) w ia ip fa fp:=by
 have s1:(w.alloc (.cells #[ia,ip] 39)).heap.size=w.heap.size+1:=by simp
 have n1:=nw (w.alloc (.cells #[ia,ip] 39)) #[fa,fp] 39
 rw[s1]at n1
 exact⟨tk (aB _ _) ((nw w _ _ 0).trans rfl),tk (aB _ _) ((nw w _ _ 1).trans rfl),(n1 0).trans rfl,(n1 1).trans rfl⟩
theorem add_an2 (b:Nat) (low:Int) (T:Tb) (pr ia ip fa fp st un:Int) (n:Nat) (s:Nat->Addr) (w:World) (S:Se45 w s) (t:Tab w b low T) (hl0:0<=low) (hl1:low<=100000) (hv:Vers T n) (hn:n<=1000000000) :
  Calls Tryz.prog 222 #[.pointer (some (b,0)),pr,.agg #[ia,ip],.agg #[fa,fp],st,un] w fun e w'=>e=.returned (.tuple #[.int .i64 ((addT T low pr ia ip fa fp st un).1:Nat),terr s (addT T low pr ia ip fa fp st un).2.1])/\Tab w' b low (addT T low pr ia ip fa fp st un).2.2/\Chg b w w':=by
 have HS:Hid (Se45 w s):=S
 have HT:Hid (Tab w b low T):=t
 have HV:Hid (Vers T n):=hv
 clear t S hv
 go_enter Tryz.func222,Tryz.ntmps222
 go_wp2_with fail
 have B0:Hid (Below w w ((w.alloc (.cells #[ia,ip] 39)).alloc (.cells #[fa,fp] 39))):=t2 (aB _ _) (aB _ _)
 have F0:Hid (EnB ((w.alloc (.cells #[ia,ip] 39)).alloc (.cells #[fa,fp] 39)) w ia ip fa fp):=enB_new w ia ip fa fp
 generalize (w.alloc (.cells #[ia,ip] 39)).alloc (.cells #[fa,fp] 39)=w0 at *
 generalize hZ:w.heap.size=Z at F0 ⊢
 refine(find_any b low T pr ia ip fa fp w0 (HT.below B0)).mono ?_
 rintro e w1 ⟨rfl,hb1⟩
 have B1:Hid (Below w w w1):=t2 B0 hb1
 have F1:Hid (EnB w1 Z ia ip fa fp):=F0.below hb1
 clear hb1 B0 F0
 have S1:=HS.below B1
 have s4:=S1.c4
 clear S1
 rcases hf:fst T (findQ pr ia ip fa fp) with _ | k0
 ·have HF:Hid (fst T (findQ pr ia ip fa fp)=none):=hf
  simp only[Option.isSome_none,Option.getD_none]
  clear hf s4
  go_wp2_with fail
  refine(free_any b low T w1 (HT.below B1)).mono ?_
  rintro e w2 ⟨rfl,hb2⟩
  have B2:Hid (Below w w w2):=t2 B1 hb2
  have F2:Hid (EnB w2 Z ia ip fa fp):=F1.below hb2
  clear hb2 B1 F1
  have S1:=HS.below B2
  have s5:=S1.c5
  clear S1
  rcases hf:fst T freeQ with _ | k
  ·have HP:Hid (addT T low pr ia ip fa fp st un=(0,6,T)):=by show _=_;unfold addT;rw[HF.out,hf]
   simp only[Option.isSome_none,Option.getD_none]
   clear hf
   go_wp2_with fail
   go_region
   go_wp2_with fail
   go_ret2
   rw[HP.out]
   exact⟨rfl,(HT.below B2).drew,(Chg.of B2.out).then (Below.refl _ _).drew⟩
  ·have HG:Hid (fst T freeQ=some k):=hf
   have hk:=fst_lt hf
   simp only[Option.isSome_some,Option.getD_some]
   clear hf s5
   have f2:=F2.c2
   have f3:=F2.c3
   go_wp2_with fail
   clear f2 f3
   refine(port_any b low T pr fa fp w2 (HT.below B2) hl0 hl1).mono ?_
   rintro e w3 ⟨⟨x,rfl,hx⟩,hb3⟩
   have HX:Hid (∀p,freeP T low pr fa fp=some p->x=low+p):=hx
   have B3:Hid (Below w w w3):=t2 B2 hb3
   have F3:Hid (EnB w3 Z ia ip fa fp):=F2.below hb3
   clear hb3 B2 F2 hx
   have S1:=HS.below B3
   have s5:=S1.c5
   clear S1
   rcases hf:freeP T low pr fa fp with _ | p
   ·have HP:Hid (addT T low pr ia ip fa fp st un=(0,6,T)):=by show _=_;unfold addT;rw[HF.out,HG.out,hf]
    simp only[Option.isSome_none]
    clear hf
    go_wp2_with fail
    go_region
    go_wp2_with fail
    go_ret2
    rw[HP.out]
    exact⟨rfl,(HT.below B3).drew,(Chg.of B3.out).then (Below.refl _ _).drew⟩
   ·have HP:Hid (addT T low pr ia ip fa fp st un=(k,0,layT T k pr ia ip fa fp (low+p) st un)):=by show _=_;unfold addT;rw[HF.out,HG.out,hf]
    obtain rfl:=HX.out p hf
    simp only[Option.isSome_some]
    clear hf s5 HX
    have f0:=F3.c0
    have f1:=F3.c1
    have f2:=F3.c2
    have f3:=F3.c3
    go_wp2_with fail
    clear f0 f1 f2 f3
    have hve:=HV.out k hk
    refine(lay_any b low T k ⟨0,pr,ia,ip,fa,fp,low+p,st,un⟩ w3 (HT.below B3) hk hve.1 (by omega)).mono ?_
    rintro e w4 ⟨rfl,t4,c4⟩
    have T4:Hid (Tab w4 b low (layT T k pr ia ip fa fp (low+p) st un)):=t4
    have C4:Hid (Chg b w w4):=(Chg.of B3.out).trans c4
    clear t4 c4 hve
    go_wp2_with fail
    go_ret2
    rw[HP.out]
    exact⟨rfl,T4,C4⟩
 ·have HP:Hid (addT T low pr ia ip fa fp st un=(0,5,T)):=by show _=_;unfold addT;rw[hf]
  simp only[Option.isSome_some,Option.getD_some]
  clear hf
  go_wp2_with fail
  go_region
  go_wp2_with fail
  go_ret2
  rw[HP.out]
  exact⟨rfl,(HT.below B1).drew,(Chg.of B1.out).then (Below.refl _ _).drew⟩
section
variable {w:World} {Q:Nat} {p:Pk} {pr:Int} {s:Nat->Addr}
def PkZ (w:World) (Q:Nat) (p:Pk):Prop:=w.heap[Q]? = some (.cells #[p.pr,p.a1,p.p1,p.a2,p.p2,p.fl] 41 (0,0))
theorem PkZ.lt (h:PkZ w Q p):Q < w.heap.size:=by
 rcases Nat.lt_or_ge Q w with a | a
 ·exact a
 ·unfold PkZ at h;rw[Array.getElem?_eq_none a]at h;cases h
theorem PkZ.below {w':World} (h:PkZ w Q p) (hb:Below w w w'):PkZ w' Q p:=by unfold PkZ;rw[hb.block Q h.lt];exact h
theorem PkZ.chgL {w':World} {l:List Nat} (h:PkZ w Q p) (hb:ChgL l w w') (hn:¬Q ∈ l):PkZ w' Q p:=by unfold PkZ;rw[hb.block Q h.lt hn];exact h
theorem PkZ.c (h:PkZ w Q p) (i:Nat):w.cell? (Q,i)=(#[p.pr,p.a1,p.p1,p.a2,p.p2,p.fl]:Array Value)[i]? := cell_of_row w _ _ _ _ _ h
theorem PkZ.fr (h:PkZ w Q p) (i:Nat):w.frozen? (Q,i)=false:=frozen_of_row w _ i _ _ h
structure PkB6 (w:World) (Q:Nat) (p:Pk):Prop where
 c0:w.cell? (Q,0)=p.pr
 c1:w.cell? (Q,1)=p.a1
 c2:w.cell? (Q,2)=p.p1
 c3:w.cell? (Q,3)=p.a2
 c4:w.cell? (Q,4)=p.p2
 c5:w.cell? (Q,5)=p.fl
theorem PkZ.b (h:PkZ w Q p):PkB6 w Q p:=⟨h.c 0,h.c 1,h.c 2,h.c 3,h.c 4,h.c 5⟩
theorem PkZ.new (w:World) (p:Pk):PkZ (w.alloc (.cells #[p.pr,p.a1,p.p1,p.a2,p.p2,p.fl] 41)) w p:=heap_alloc_new w _
def No.addR (x:No) (p:Pk):Nat×Nat×Tb:=addT x.T x.low p.pr p.a1 p.p1 p.a2 p.p2 (bgnS p.pr p.fl) (x.now+stay p.pr (bgnS p.pr p.fl))
def No.bgE (x:No) (p:Pk):Nat:=if adm x.ru p.pr true p.p2 then (if bgnE p.pr p.fl=0 then (x.addR p).2.1 else bgnE p.pr p.fl) else 8
def No.bg (x:No) (p:Pk):No:=if x.bgE p=0 then {x with T:=(x.addR p).2.2} else x
def No.bgF (x:No) (p:Pk):Ce:=if x.bgE p=0 then (x.addR p).2.2 (x.addR p).1 else noC
theorem bgn_in {fl:Int} :In6 (bgnS pr fl):=by unfold bgnS;repeat' split;all_goals exact In6.small (by omega) (by omega)
theorem addT_keeps {T:Tb} {low ia ip fa fp st un:Int} (h:(addT T low pr ia ip fa fp st un).2.1≠0):(addT T low pr ia ip fa fp st un).2.2=T:=by
 revert h
 unfold addT
 repeat' split
 all_goals simp
theorem addT_lt {T:Tb} {low ia ip fa fp st un:Int} (h:(addT T low pr ia ip fa fp st un).2.1=0):(addT T low pr ia ip fa fp st un).1 < 32:=by
 revert h
 unfold addT
 repeat' split
 all_goals simp
 all_goals exact fst_lt (by assumption)
theorem tadd_nd {w0:World} {k:Bk} {x:No} {m n:Nat} (S:SeM w0 s) (h:Nd w0 w k x m n) (hm:m<=1000000000) (p:Pk) (hp:In6 p.pr) :
  Calls Tryz.prog 222 #[.pointer (some (k.tb,0)),p.pr,.agg #[p.a1,p.p1],.agg #[p.a2,p.p2],.int .i64 (bgnS p.pr p.fl),.int .i64 (x.now+stay p.pr (bgnS p.pr p.fl))] w fun e w'=>e=.returned (.tuple #[.int .i64 ((x.addR p).1:Nat),terr s (x.addR p).2.1])/\Nd w0 w' k {x with T:=(x.addR p).2.2} (m+1) n/\ChgL k.all w w':=by
 have hid:=h.id
 have hlow:0<=x.low/\x.low<=100000:=by unfold No.low;omega
 refine(add_an2 k.tb x.low x.T p.pr p.a1 p.p1 p.a2 p.p2 (bgnS p.pr p.fl) (x.now+stay p.pr (bgnS p.pr p.fl)) m s w (S.below h.bl).n.s45 h.tb hlow.1 hlow.2 h.vs hm).mono ?_
 rintro e w' ⟨rfl,t,q⟩
 exact⟨rfl,h.onTb t (h.vs.add _ _ _ _ _ _ _ _) (h.wt.add _ _ _ _ _ _ _ _ hp bgn_in) q,ChgL.one q k.m_tb⟩
theorem adm_v {l:List Rl} {v:Value} {b:Bool} (h:RulesOk l) (hp:p.err=0) (a:AdmV s w l p.pr p.a1 p.p1 p.a2 p.p2 p.fl true v b):v=.nilIface/\b=adm l p.pr true p.p2:=by
 rcases a with⟨q,_⟩ | ⟨_,⟨e,q,_⟩,_⟩ | ⟨_,_,q1,q2⟩
 ·exact absurd h q
 ·unfold Pk.err at hp;rw[q]at hp;cases hp
 ·exact⟨q1,q2⟩
theorem set0_chg (w:World) (Q:Nat):Chg Q w ((((((((w.setCell (Q,0) (.int .i64 0)).setCell (Q,1) (.int .i64 0)).setCell (Q,2) (.int .i64 0)).setCell (Q,3) (.int .i64 0)).setCell (Q,4) (.int .i64 0)).setCell (Q,5) (.int .i64 0)).setCell (Q,6) (.int .i64 0)).setCell (Q,7) (.int .i64 0)) :=
 (((((((Chg.set _ _ _ _).trans (Chg.set _ _ _ _)).trans (Chg.set _ _ _ _)).trans (Chg.set _ _ _ _)).trans (Chg.set _ _ _ _)).trans (Chg.set _ _ _ _)).trans (Chg.set _ _ _ _)).trans (Chg.set _ _ _ _)
theorem begin_nd {w0:World} {k:Bk} {x:No} {m n:Nat} (S:SeM w0 s) (h:Nd w0 w k x m n) (hm:m<=1000000000) (h0:0<=x.now) (h1:x.now<=1000000000) (hr:RulesOk x.ru) (p:Pk) (hp:p.err=0) (hpp:In6 p.pr) :
  Calls Tryz.prog 183 #[.pointer (some (k.nd,0)),p.v] w fun e w'=>e=.returned (.tuple #[flowV (x.bgF p),terr s (x.bgE p)])/\Nd w0 w' k (x.bg p) (m+1) n/\ChgL k.all w w':=by
 have HS:Hid (SeM w0 s):=S
 have HN:Hid (Nd w0 w k x m n):=h
 have HW:Hid (0<=x.now/\x.now<=1000000000/\m<=1000000000):=⟨h0,h1,hm⟩
 have HR:Hid (RulesOk x.ru):=hr
 have HP:Hid (p.err=0):=hp
 have HPP:Hid (In6 p.pr):=hpp
 clear S h h0 h1 hm hr hp hpp
 go_enter Tryz.func183,Tryz.ntmps183
 go_upto_region 1 with fail
 go_wp2_with fail
 have B0:=aB w (.cells #[p.pr,p.a1,p.p1,p.a2,p.p2,p.fl] 41)
 have P1:Hid (PkZ ((w.alloc (.cells #[p.pr,p.a1,p.p1,p.a2,p.p2,p.fl] 41)).alloc (.cells #[.int .i64 0,.int .i64 0,.int .i64 0,.int .i64 0,.int .i64 0,.int .i64 0,.int .i64 0,.int .i64 0] 185)) w p):=(PkZ.new w p).below (aB _ _)
 have B1:Hid (Below w w ((w.alloc (.cells #[p.pr,p.a1,p.p1,p.a2,p.p2,p.fl] 41)).alloc (.cells #[.int .i64 0,.int .i64 0,.int .i64 0,.int .i64 0,.int .i64 0,.int .i64 0,.int .i64 0,.int .i64 0] 185))):=t2 B0 (aB _ _)
 have Z1:Hid (FlZ ((w.alloc (.cells #[p.pr,p.a1,p.p1,p.a2,p.p2,p.fl] 41)).alloc (.cells #[.int .i64 0,.int .i64 0,.int .i64 0,.int .i64 0,.int .i64 0,.int .i64 0,.int .i64 0,.int .i64 0] 185)) (w.heap.size+1) noC):=by
  have:=FlZ.zero (w.alloc (.cells #[p.pr,p.a1,p.p1,p.a2,p.p2,p.fl] 41))
  show FlZ _ _ _
  simpa using this
 clear B0
 generalize (w.alloc (.cells #[p.pr,p.a1,p.p1,p.a2,p.p2,p.fl] 41)).alloc (.cells #[.int .i64 0,.int .i64 0,.int .i64 0,.int .i64 0,.int .i64 0,.int .i64 0,.int .i64 0,.int .i64 0] 185)=w1 at *
 have N1:Hid (Nd w0 w1 k x m n):=HN.below B1
 have LW:Hid (w.heap.size<=w.heap.size):=Nat.le_refl _
 have LQ:Hid (w.heap.size<=w.heap.size+1):=Nat.le_succ _
 generalize hPe:w.heap.size=P at P1 Z1 LW LQ ⊢
 generalize hQe:P+1=Q at Z1 LQ ⊢
 have S1:Hid (∀u,Below w1 w1 u->SeM u s):=fun u hu=>(HS.below N1.bl).below hu
 have HNQ:Hid (¬Q ∈ k.all):=fun hm=>by have:=HN.lt _ hm;omega
 have HNP:Hid (¬P ∈ k.all):=fun hm=>by have:=HN.lt _ hm;omega
 have HAD:Hid (∀u,Nd w0 u k x m n->Calls Tryz.prog 220 #[.slice k.rp x.ru.length k.rc,pkt p.pr p.a1 p.p1 p.a2 p.p2 p.fl,.bool true] u fun e w'=>e=.returned (.tuple #[.bool (adm x.ru p.pr true p.p2),.nilIface])/\Below u u w'):=fun u hu=>by
  refine(admits_any k.rp x.ru k.rc p.pr p.a1 p.p1 p.a2 p.p2 p.fl true s u (HS.below hu.bl).n.sn hu.ru (by have:=HR.1;omega)).mono ?_
  rintro e w' ⟨⟨v,b,rfl,a⟩,hb⟩
  obtain⟨rfl,rfl⟩:=adm_v HR HP a
  exact⟨rfl,hb⟩
 have hS:w1.drew.cell? (k.nd,4)=some (.slice k.rp x.ru.length k.rc)/\PkB6 w1.drew P p:=⟨N1.c4,(P1.below (Below.refl _ _).drew).b⟩
 obtain⟨g4,q0,q1,q2,q3,q4,q5⟩:=hS
 have hS:w1.drew.cell? (k.nd,4)=some (.slice k.rp x.ru.length k.rc)/\w1.drew.cell? (P,0)=p.pr/\w1.drew.cell? (P,1)=p.a1/\w1.drew.cell? (P,2)=p.p1/\w1.drew.cell? (P,3)=p.a2/\w1.drew.cell? (P,4)=p.p2/\w1.drew.cell? (P,5)=p.fl:=⟨g4,q0,q1,q2,q3,q4,q5⟩
 clear g4 q0 q1 q2 q3 q4 q5
 obtain⟨ad,had⟩:∃ad,adm x.ru p.pr true p.p2=ad:=⟨_,rfl⟩
 have HADE:Hid (adm x.ru p.pr true p.p2=ad):=had
 rw[had]at HAD
 clear had
 go_region_held3 (fun w'=>w'.cell? (k.nd,4)=some (.slice k.rp x.ru.length k.rc)/\w'.cell? (P,0)=p.pr/\w'.cell? (P,1)=p.a1/\w'.cell? (P,2)=p.p1/\w'.cell? (P,3)=p.a2/\w'.cell? (P,4)=p.p2/\w'.cell? (P,5)=p.fl)
  (first | assumption | exact⟨tk hb2 hS.1,tk hb2 hS.2.1,tk hb2 hS.2.2.1,tk hb2 hS.2.2.2.1,tk hb2 hS.2.2.2.2.1,tk hb2 hS.2.2.2.2.2.1,tk hb2 hS.2.2.2.2.2.2⟩)
  (first | (go_at_call 220;refine(HAD _ N1.drew).mono ?_;rintro e w2 ⟨rfl,hb2⟩))
 have B2:Hid (Below w w w2):=t2 (t2 B1 (Below.refl _ _).drew) hb2
 have N2:Hid (Nd w0 w2 k x m n):=HN.below B2
 have P2:Hid (PkZ w2 P p):=(P1.below (Below.refl _ _).drew).below hb2
 have Z2:Hid (FlZ w2 Q noC):=(Z1.below (Below.refl _ _).drew).below hb2
 have S2:Hid (SeM w2 s):=HS.below N2.bl
 clear hS hb2 B1 N1 P1 Z1 S1 HAD
 cases ad
 ·have HE:Hid (x.bgE p=8):=by show _=_;unfold No.bgE;rw[HADE.out];rfl
  have HB:Hid (x.bg p=x):=by show _=_;unfold No.bg;rw[HE.out];rfl
  have HF:Hid (x.bgF p=noC):=by show _=_;unfold No.bgF;rw[HE.out];rfl
  have s7:=S2.c7
  have hGQ : 7≠Q:=by have hg : 7 < w0.heap.size:=tlt HS.c7;have:=HN.bl.size;omega
  have z:=Z2.b
  have z0:=z.c0
  have z1:=z.c1
  have z2:=z.c2
  have z3:=z.c3
  have z4:=z.c4
  have z5:=z.c5
  have z6:=z.c6
  have z7:=z.c7
  have zf:=Z2.fr
  simp only[noC]at z0 z1 z2 z3 z4 z5 z6 z7
  clear z
  go_wp2_with fail
  go_region
  all_goals go_wp2_with fail
  all_goals
   refine bodyPost_ret (v:=.tuple #[flowV noC,.iface 312 (.pointer (some (s 7)))]) (by simp[results,Tryz.results183,go_sem,z0,z1,z2,z3,z4,z5,z6,z7,flowV,noC]) rfl ?_
   rw[HF.out,HE.out,HB.out]
   have hcc:∀W,Chg Q w2 W->Nd w0 W k x m n/\ChgL k.all w W:=fun W hc=>HN.fresh N2 rfl (ChgL.of B2.out) hc (by omega)
   refine⟨rfl,(fun q=>⟨q.1.more (by omega),q.2⟩) (hcc _ ?_)⟩
   exact(set0_chg w2 Q).then (Below.refl _ _).drew
 ·have HA:Hid (x.bgE p=if bgnE p.pr p.fl=0 then (x.addR p).2.1 else bgnE p.pr p.fl):=by show _=_;unfold No.bgE;rw[HADE.out];rfl
  have p0:=P2.b.c0
  have p5:=P2.b.c5
  go_wp2_with fail
  clear p0 p5
  refine(begin_any p.pr p.fl s w2 ⟨S2.c1,S2.c8⟩).mono ?_
  rintro e w3 ⟨rfl,hb3⟩
  have B3:Hid (Below w w w3):=t2 B2 hb3
  have N3:Hid (Nd w0 w3 k x m n):=HN.below B3
  have P3:Hid (PkZ w3 P p):=P2.below hb3
  have Z3:Hid (FlZ w3 Q noC):=Z2.below hb3
  clear hb3 B2 N2 P2 Z2 S2
  by_cases hz:bgnE p.pr p.fl=0
  ·rw[if_pos hz]at HA
   rw[hz]
   clear hz
   simp only[bgnV]
   have HTU:Hid (∀u,Nd w0 u k x m n->Calls Tryz.prog 191 #[.pointer (some (k.nd,0)),p.pr,.int .i64 (bgnS p.pr p.fl)] u fun e w'=>e=.returned (.int .i64 (x.now+stay p.pr (bgnS p.pr p.fl)))/\Below u u w'):=fun u hu=>until_nd hu p.pr _ HPP bgn_in HW.1 HW.2.1
   have HTA:Hid (∀u,Nd w0 u k x m n->Calls Tryz.prog 222 #[.pointer (some (k.tb,0)),p.pr,.agg #[p.a1,p.p1],.agg #[p.a2,p.p2],.int .i64 (bgnS p.pr p.fl),.int .i64 (x.now+stay p.pr (bgnS p.pr p.fl))] u fun e w'=>e=.returned (.tuple #[.int .i64 ((x.addR p).1:Nat),terr s (x.addR p).2.1])/\Nd w0 w' k {x with T:=(x.addR p).2.2} (m+1) n/\ChgL k.all u w'):=fun u hu=>tadd_nd HS hu HW.2.2 p HPP
   generalize bgnS p.pr p.fl=bs at HTU HTA ⊢
   generalize x.now+stay p.pr bs=un at HTU HTA ⊢
   go_upto_region 7 with fail
   go_wp2_with fail
   obtain⟨q0,q1,q2,q3,q4,_⟩:=(P3.below (Below.refl _ _).drew).b
   have hS:w3.drew.cell? (k.nd,6)=some (.pointer (some (k.te,0)))/\w3.drew.cell? (k.te,0)=some (.pointer (some (k.tb,0)))/\w3.drew.cell? (P,0)=p.pr/\w3.drew.cell? (P,1)=p.a1/\w3.drew.cell? (P,2)=p.p1/\w3.drew.cell? (P,3)=p.a2/\w3.drew.cell? (P,4)=p.p2:=⟨N3.c6,N3.t0,q0,q1,q2,q3,q4⟩
   clear q0 q1 q2 q3 q4
   go_region_held3 (fun w'=>w'.cell? (k.nd,6)=some (.pointer (some (k.te,0)))/\w'.cell? (k.te,0)=some (.pointer (some (k.tb,0)))/\w'.cell? (P,0)=p.pr/\w'.cell? (P,1)=p.a1/\w'.cell? (P,2)=p.p1/\w'.cell? (P,3)=p.a2/\w'.cell? (P,4)=p.p2)
    (first | assumption | exact⟨tk hb5 hS.1,tk hb5 hS.2.1,tk hb5 hS.2.2.1,tk hb5 hS.2.2.2.1,tk hb5 hS.2.2.2.2.1,tk hb5 hS.2.2.2.2.2.1,tk hb5 hS.2.2.2.2.2.2⟩ | exact⟨N6.c6,N6.t0,K6.keeps HNP (tk hb5 hS.2.2.1),K6.keeps HNP (tk hb5 hS.2.2.2.1),K6.keeps HNP (tk hb5 hS.2.2.2.2.1),K6.keeps HNP (tk hb5 hS.2.2.2.2.2.1),K6.keeps HNP (tk hb5 hS.2.2.2.2.2.2)⟩)
    (first
     | (go_at_call 191;refine(HTU _ N3.drew).mono ?_;rintro e w5 ⟨rfl,hb5⟩)
     | (go_at_call 222;refine(HTA _ (N3.drew.below hb5)).mono ?_;rintro e w6 ⟨rfl,n6,k6⟩;have N6:Hid (Nd w0 w6 k {x with T:=(x.addR p).2.2} (m+1) n):=n6;have K6:Hid (ChgL k.all w5 w6):=k6;clear n6 k6))
   have Z6:Hid (FlZ w6 Q noC):=((Z3.below (Below.refl _ _).drew).below hb5).chgL K6 HNQ
   have X6:Hid (ChgL k.all w w6):=(ChgL.of (t2 (t2 B3 (Below.refl _ _).drew) hb5)).trans K6
   clear hS hb5 K6 B3 N3 P3 Z3 HTU HTA
   by_cases hae:(x.addR p).2.1=0
   ·have HE:Hid (x.bgE p=0):=by show _=_;rw[HA.out,hae]
    have HB:Hid (x.bg p={x with T:=(x.addR p).2.2}):=by show _=_;unfold No.bg;rw[HE.out];rfl
    have HF:Hid (x.bgF p=(x.addR p).2.2 (x.addR p).1):=by show _=_;unfold No.bgF;rw[HE.out];rfl
    have HLT:Hid ((x.addR p).1 < 32):=addT_lt hae
    rw[hae]
    simp only[terr]
    go_wp2_with fail
    refine(flow_nd N6 (x.addR p).1 HLT).mono ?_
    rintro e w7 ⟨rfl,hb7⟩
    have N7:Hid (Nd w0 w7 k {x with T:=(x.addR p).2.2} (m+1) n):=N6.below hb7
    have X7:Hid (ChgL k.all w w7):=X6.then hb7
    have Z7:Hid (FlZ w7 Q noC):=Z6.below hb7
    clear hb7 N6 X6 Z6 hae
    obtain⟨c,hc⟩:∃c,(x.addR p).2.2 (x.addR p).1=c:=⟨_,rfl⟩
    rw[show({x with T:=(x.addR p).2.2}:No).T (x.addR p).1=c from hc]
    rw[hc]at HF
    clear hc
    obtain⟨w9,hst,hz9,hc9⟩:=flz_store Z7 c
    obtain⟨n9,k9⟩:=HN.fresh N7 rfl X7 hc9 (by omega)
    have N9:Hid (Nd w0 w9 k {x with T:=(x.addR p).2.2} (m+1) n):=n9
    have K9:Hid (ChgL k.all w w9):=k9
    have Z9:Hid (FlZ w9 Q c):=hz9
    clear n9 k9 hz9 hc9
    simp only[flowV]
    go_wp2_with (refine wpList_store_eq rfl 185 _ _ rfl _ _ _ rfl rfl hst ?_)
    clear hst
    have q:=Z9.b
    go_wp2_with fail
    exact bodyPost_ret (v:=.tuple #[flowV c,.nilIface]) (by simp[results,Tryz.results183,go_sem,q.c0,q.c1,q.c2,q.c3,q.c4,q.c5,q.c6,q.c7,flowV]) rfl ⟨by rw[HF.out,HE.out];rfl,by rw[HB.out];exact N9,K9⟩
   ·have HE:Hid (x.bgE p=(x.addR p).2.1):=HA.out
    have HB:Hid (x.bg p=x):=by show _=_;unfold No.bg;rw[if_neg (by rw[HE.out];exact hae)]
    have HF:Hid (x.bgF p=noC):=by show _=_;unfold No.bgF;rw[if_neg (by rw[HE.out];exact hae)]
    have HTT:Hid ((x.addR p).2.2=x.T):=addT_keeps hae
    obtain⟨e1,he1⟩:∃e1,(x.addR p).2.1=e1+1:=⟨(x.addR p).2.1 - 1,by omega⟩
    rw[he1]at HE ⊢
    clear hae he1
    simp only[terr]
    obtain⟨w9,hst0,hz9,hc9⟩:=flz_store Z6 noC
    have hst:(Instr.storeAt 185 (.pointer (some (Q,0))) (.agg #[.int .i64 0,.int .i64 0,.int .i64 0,.int .i64 0,.int .i64 0,.int .i64 0,.int .i64 0,.int .i64 0])).run Tryz.prog w6=.ok () w9:=hst0
    obtain⟨n9,k9⟩:=HN.fresh N6 rfl X6 hc9 (by omega)
    have N9:Hid (Nd w0 w9 k x (m+1) n):=by rw[HTT.out]at n9;exact n9
    have K9:Hid (ChgL k.all w w9):=k9
    have Z9:Hid (FlZ w9 Q noC):=hz9
    clear n9 k9 hz9 hc9 hst0
    go_wp2_with (refine wpList_store_eq rfl 185 _ _ rfl _ _ _ rfl rfl hst ?_)
    clear hst
    have q:=Z9.b
    go_wp2_with fail
    exact bodyPost_ret (v:=.tuple #[flowV noC,.iface 312 (.pointer (some (s e1)))]) (by simp[results,Tryz.results183,go_sem,q.c0,q.c1,q.c2,q.c3,q.c4,q.c5,q.c6,q.c7,flowV]) rfl ⟨by rw[HF.out,HE.out];rfl,by rw[HB.out];exact N9,K9⟩
  ·rw[if_neg hz]at HA
   have HB:Hid (x.bg p=x):=by show _=_;unfold No.bg;rw[if_neg (by rw[HA.out];exact hz)]
   have HF:Hid (x.bgF p=noC):=by show _=_;unfold No.bgF;rw[if_neg (by rw[HA.out];exact hz)]
   obtain⟨e1,he1⟩:∃e1,bgnE p.pr p.fl=e1+1:=⟨bgnE p.pr p.fl - 1,by omega⟩
   have HE:Hid (x.bgE p=e1+1):=by show _=_;rw[HA.out,he1]
   rw[he1]
   clear hz he1 HA
   simp only[bgnV]
   obtain⟨w9,hst0,hz9,hc9⟩:=flz_store Z3 noC
   have hst:(Instr.storeAt 185 (.pointer (some (Q,0))) (.agg #[.int .i64 0,.int .i64 0,.int .i64 0,.int .i64 0,.int .i64 0,.int .i64 0,.int .i64 0,.int .i64 0])).run Tryz.prog w3=.ok () w9:=hst0
   obtain⟨n9,k9⟩:=HN.fresh N3 rfl (ChgL.of B3.out) hc9 (by omega)
   have N9:Hid (Nd w0 w9 k x m n):=n9
   have K9:Hid (ChgL k.all w w9):=k9
   have Z9:Hid (FlZ w9 Q noC):=hz9
   clear n9 k9 hz9 hc9 hst0
   go_wp2_with (refine wpList_store_eq rfl 185 _ _ rfl _ _ _ rfl rfl hst ?_)
   clear hst
   have q:=Z9.b
   go_wp2_with fail
   exact bodyPost_ret (v:=.tuple #[flowV noC,.iface 312 (.pointer (some (s e1)))]) (by simp[results,Tryz.results183,go_sem,q.c0,q.c1,q.c2,q.c3,q.c4,q.c5,q.c6,q.c7,flowV]) rfl ⟨by rw[HF.out,HE.out];rfl,by rw[HB.out];exact N9.more (by omega),K9⟩
end
def No.fnd (x:No) (p:Pk):Option Nat:=fst x.T (findQ p.pr p.a1 p.p1 p.a2 p.p2)
def No.ouF (x:No) (p:Pk):Ce:=match x.fnd p with | some j=>x.T j | none=>x.bgF p
def No.ouE (x:No) (p:Pk):Nat:=match x.fnd p with | some _=>0 | none=>x.bgE p
def No.ou (x:No) (p:Pk):No:=match x.fnd p with | some j=>x.stp j p.fl true | none=>x.bg p
theorem outward_nd {w0 w:World} {k:Bk} {x:No} {m n:Nat} {s:Nat->Addr} (S:SeM w0 s) (h:Nd w0 w k x m n) (hm:m<=1000000000) (h0:0<=x.now) (h1:x.now<=1000000000) (hr:RulesOk x.ru) (p:Pk) (hp:p.err=0) (hpp:In6 p.pr) :
  Calls Tryz.prog 150 #[.pointer (some (k.nd,0)),p.v] w fun e w'=>e=.returned (.tuple #[flowV (x.ouF p),terr s (x.ouE p)])/\Nd w0 w' k (x.ou p) (m+1) n/\ChgL k.all w w':=by
 have HS:Hid (SeM w0 s):=S
 have HN:Hid (Nd w0 w k x m n):=h
 have HW:Hid (0<=x.now/\x.now<=1000000000/\m<=1000000000):=⟨h0,h1,hm⟩
 have HR:Hid (RulesOk x.ru):=hr
 have HP:Hid (p.err=0):=hp
 have HPP:Hid (In6 p.pr):=hpp
 clear S h h0 h1 hm hr hp hpp
 go_enter Tryz.func150,Tryz.ntmps150
 go_upto_region 1 with fail
 go_wp2_with fail
 have B0:=aB w (.cells #[p.pr,p.a1,p.p1,p.a2,p.p2,p.fl] 41)
 have P1:Hid (PkZ ((w.alloc (.cells #[p.pr,p.a1,p.p1,p.a2,p.p2,p.fl] 41)).alloc (.cells #[.int .i64 0,.int .i64 0,.int .i64 0,.int .i64 0,.int .i64 0,.int .i64 0,.int .i64 0,.int .i64 0] 185)) w p):=(PkZ.new w p).below (aB _ _)
 have B1:Hid (Below w w ((w.alloc (.cells #[p.pr,p.a1,p.p1,p.a2,p.p2,p.fl] 41)).alloc (.cells #[.int .i64 0,.int .i64 0,.int .i64 0,.int .i64 0,.int .i64 0,.int .i64 0,.int .i64 0,.int .i64 0] 185))):=t2 B0 (aB _ _)
 have Z1:Hid (FlZ ((w.alloc (.cells #[p.pr,p.a1,p.p1,p.a2,p.p2,p.fl] 41)).alloc (.cells #[.int .i64 0,.int .i64 0,.int .i64 0,.int .i64 0,.int .i64 0,.int .i64 0,.int .i64 0,.int .i64 0] 185)) (w.heap.size+1) noC):=by
  have:=FlZ.zero (w.alloc (.cells #[p.pr,p.a1,p.p1,p.a2,p.p2,p.fl] 41))
  show FlZ _ _ _
  simpa using this
 clear B0
 generalize (w.alloc (.cells #[p.pr,p.a1,p.p1,p.a2,p.p2,p.fl] 41)).alloc (.cells #[.int .i64 0,.int .i64 0,.int .i64 0,.int .i64 0,.int .i64 0,.int .i64 0,.int .i64 0,.int .i64 0] 185)=w1 at *
 have N1:Hid (Nd w0 w1 k x m n):=HN.below B1
 have LW:Hid (w.heap.size<=w.heap.size):=Nat.le_refl _
 have LQ:Hid (w.heap.size<=w.heap.size+1):=Nat.le_succ _
 generalize hPe:w.heap.size=P at P1 Z1 LW LQ ⊢
 generalize hQe:P+1=Q at Z1 LQ ⊢
 obtain⟨o,ho⟩:∃o,x.fnd p=o:=⟨_,rfl⟩
 have HO:Hid (x.fnd p=o):=ho
 have HFD:Hid (∀u,Nd w0 u k x m n->Calls Tryz.prog 182 #[.pointer (some (k.tb,0)),p.pr,.agg #[p.a1,p.p1],.agg #[p.a2,p.p2]] u fun e w'=>e=.returned (.tuple #[.int .i64 ((o.getD 0:Nat):Int),.bool o.isSome])/\Below u u w'):=fun u hu=>by
  have:=find_any k.tb x.low x.T p.pr p.a1 p.p1 p.a2 p.p2 u hu.tb
  rw[show fst x.T (findQ p.pr p.a1 p.p1 p.a2 p.p2)=o from ho]at this
  exact this
 clear ho
 obtain⟨q0,q1,q2,q3,q4,_⟩:=(P1.below (Below.refl _ _).drew).b
 have hS:w1.drew.cell? (k.nd,6)=some (.pointer (some (k.te,0)))/\w1.drew.cell? (k.te,0)=some (.pointer (some (k.tb,0)))/\w1.drew.cell? (P,0)=p.pr/\w1.drew.cell? (P,1)=p.a1/\w1.drew.cell? (P,2)=p.p1/\w1.drew.cell? (P,3)=p.a2/\w1.drew.cell? (P,4)=p.p2:=⟨N1.c6,N1.t0,q0,q1,q2,q3,q4⟩
 clear q0 q1 q2 q3 q4
 go_region_held3 (fun w'=>w'.cell? (k.nd,6)=some (.pointer (some (k.te,0)))/\w'.cell? (k.te,0)=some (.pointer (some (k.tb,0)))/\w'.cell? (P,0)=p.pr/\w'.cell? (P,1)=p.a1/\w'.cell? (P,2)=p.p1/\w'.cell? (P,3)=p.a2/\w'.cell? (P,4)=p.p2)
  (first | assumption | exact⟨tk hb2 hS.1,tk hb2 hS.2.1,tk hb2 hS.2.2.1,tk hb2 hS.2.2.2.1,tk hb2 hS.2.2.2.2.1,tk hb2 hS.2.2.2.2.2.1,tk hb2 hS.2.2.2.2.2.2⟩)
  (first | (go_at_call 182;refine(HFD _ N1.drew).mono ?_;rintro e w2 ⟨rfl,hb2⟩))
 have B2:Hid (Below w w w2):=t2 (t2 B1 (Below.refl _ _).drew) hb2
 have N2:Hid (Nd w0 w2 k x m n):=HN.below B2
 have P2:Hid (PkZ w2 P p):=(P1.below (Below.refl _ _).drew).below hb2
 have Z2:Hid (FlZ w2 Q noC):=(Z1.below (Below.refl _ _).drew).below hb2
 have HNQ:Hid (¬Q ∈ k.all):=fun hm=>by have:=HN.lt _ hm;omega
 clear hS hb2 B1 N1 P1 Z1 HFD
 obtain⟨r0,r1,r2,r3,r4,r5⟩:=P2.b
 cases o with
 | some j =>
  have HLT:Hid (j < 32):=fst_lt HO
  have HF:Hid (x.ouF p=x.T j/\x.ouE p=0/\x.ou p=x.stp j p.fl true):=by unfold No.ouF No.ouE No.ou;rw[HO.out];exact⟨rfl,rfl,rfl⟩
  simp only[Option.isSome_some,Option.getD_some]
  go_wp2_with fail
  clear r0 r1 r2 r3 r4 r5
  refine(step_nd HS N2 HW.2.2 HW.1 HW.2.1 j HLT p.fl true).mono ?_
  rintro e w7 ⟨rfl,n7,k7⟩
  have N7:Hid (Nd w0 w7 k (x.stp j p.fl true) (m+1) n):=n7
  have X7:Hid (ChgL k.all w w7):=(ChgL.of B2.out).trans k7
  have Z7:Hid (FlZ w7 Q noC):=Z2.chgL k7 HNQ
  have HRU:Hid ((x.stp j p.fl true).ru=x.ru):=by show _=_;unfold No.stp;split <;> rfl
  clear n7 k7
  obtain⟨c,hc⟩:∃c,x.T j=c:=⟨_,rfl⟩
  rw[hc]
  rw[hc]at HF
  clear hc
  obtain⟨w9,hst,hz9,hc9⟩:=flz_store Z7 c
  obtain⟨n9,k9⟩:=HN.fresh N7 HRU X7 hc9 (by omega)
  have N9:Hid (Nd w0 w9 k (x.stp j p.fl true) (m+1) n):=n9
  have K9:Hid (ChgL k.all w w9):=k9
  have Z9:Hid (FlZ w9 Q c):=hz9
  clear n9 k9 hz9 hc9
  simp only[flowV]
  go_wp2_with (refine wpList_store_eq rfl 185 _ _ rfl _ _ _ rfl rfl hst ?_)
  clear hst
  have q:=Z9.b
  go_wp2_with fail
  exact bodyPost_ret (v:=.tuple #[flowV c,.nilIface]) (by simp[results,Tryz.results150,go_sem,q.c0,q.c1,q.c2,q.c3,q.c4,q.c5,q.c6,q.c7,flowV]) rfl ⟨by rw[HF.1,HF.2.1];rfl,by rw[HF.2.2];exact N9,K9⟩
 | none =>
  have HF:Hid (x.ouF p=x.bgF p/\x.ouE p=x.bgE p/\x.ou p=x.bg p):=by unfold No.ouF No.ouE No.ou;rw[HO.out];exact⟨rfl,rfl,rfl⟩
  simp only[Option.isSome_none,Option.getD_none]
  go_wp2_with fail
  clear r0 r1 r2 r3 r4 r5
  refine(begin_nd HS N2 HW.2.2 HW.1 HW.2.1 HR p HP HPP).mono ?_
  rintro e w7 ⟨rfl,n7,k7⟩
  have N7:Hid (Nd w0 w7 k (x.bg p) (m+1) n):=n7
  have X7:Hid (ChgL k.all w w7):=(ChgL.of B2.out).trans k7
  have Z7:Hid (FlZ w7 Q noC):=Z2.chgL k7 HNQ
  have HRU:Hid ((x.bg p).ru=x.ru):=by show _=_;unfold No.bg;split <;> rfl
  clear n7 k7
  obtain⟨c,hc⟩:∃c,x.bgF p=c:=⟨_,rfl⟩
  obtain⟨ev,hev⟩:∃ev,terr s (x.bgE p)=ev:=⟨_,rfl⟩
  have HEV:Hid (terr s (x.ouE p)=ev):=by show _=_;rw[HF.2.1];exact hev
  rw[hc,hev]
  rw[hc]at HF
  clear hc hev
  obtain⟨w9,hst,hz9,hc9⟩:=flz_store Z7 c
  obtain⟨n9,k9⟩:=HN.fresh N7 HRU X7 hc9 (by omega)
  have N9:Hid (Nd w0 w9 k (x.bg p) (m+1) n):=n9
  have K9:Hid (ChgL k.all w w9):=k9
  have Z9:Hid (FlZ w9 Q c):=hz9
  clear n9 k9 hz9 hc9
  simp only[flowV]
  go_wp2_with (refine wpList_store_eq rfl 185 _ _ rfl _ _ _ rfl rfl hst ?_)
  clear hst
  have q:=Z9.b
  go_wp2_with fail
  exact bodyPost_ret (v:=.tuple #[flowV c,ev]) (by simp[results,Tryz.results150,go_sem,q.c0,q.c1,q.c2,q.c3,q.c4,q.c5,q.c6,q.c7,flowV]) rfl ⟨by rw[HF.1,HEV.out],by rw[HF.2.2];exact N9,K9⟩
end Go.Proofs.YtabndgfdbdjdgaaGreatDoor
