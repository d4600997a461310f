/-
  What the claimed theorem reaches, part Q28.
-/
import Derived.Test.YtabndgfdbdjdgaaGreatDoorQ26
import Derived.Test.YtabndgfdbdjdgaaGreatDoorQ00
import Derived.Test.YtabndgfdbdjdgaaGreatDoorQ07
import Derived.Deep.WholeRow
import Derived.Test.YtabndgfdbdjdgaaGreatDoorQ15
import Derived.Test.YtabndgfdbdjdgaaGreatDoorQ06
import Derived.Test.YtabndgfdbdjdgaaGreatDoorQ21
import Derived.Test.YtabndgfdbdjdgaaGreatDoorQ22
import Derived.Test.YtabndgfdbdjdgaaGreatDoorQ24
namespace Go.Proofs.YtabndgfdbdjdgaaGreatDoor
open Go.RowKit
set_option maxRecDepth 100000
set_option maxHeartbeats 8000000
section
variable {w:World} {s:Nat->Addr} {v:Value} {a:ByteArray}
def fmB:Nat->ByteArray
 | 0=>⟨#[]⟩
 | 1=>⟨#[83]⟩
 | 2=>⟨#[78]⟩
 | 3=>⟨#[83,78]⟩
 | _=>⟨#[80,65,67,75,69,84]⟩
theorem bset {b:Nat} {u:World} (h:Below b w u) (i:Nat) (v:Value):Below b w (u.setCell ⟨b,i,none⟩ v):=Below.setCell h (Nat.le_refl _) v
theorem argF {Q:Nat} {n m:Int} {p:Pk} (h:w.heap[Q]? = some (argB n m p)) (i:Nat):w.frozen? ⟨Q,i,none⟩=false:=frozen_of_row _ _ _ _ _ h
theorem WsI.at' {p:Option Addr} {c n:Nat} {ws:List ByteArray} (h:WsI w (.slice p n c) ws):ws.length=n/\∀(j:Nat) y,ws[j]? = some y->∃Z o,p=some ⟨Z,o,none⟩/\w.cell? ⟨Z,o+j,none⟩=some (.string y):=by
 obtain⟨p',c',e,hc,hw⟩:=h
 cases e
 exact⟨rfl,hw⟩
structure Ra (w wr:World) (s:Nat->Addr) (n m:Int):Prop where
 q:wr.heap[w.heap.size]? = some (argB 0 0 noP)
 r:wr.heap[w.heap.size+1]? = some (argB n m noP)
 b:Below w.heap.size w wr
 s:SeS wr s
 l:Libs wr
 t:Pow wr
theorem Ra.start (S:SeS w s) (L:Libs w) (T:Pow w):Ra w ((w.alloc (argB 0 0 noP)).alloc (argB 0 0 noP)) s 0 0:=by
 have b:Below w.heap.size w ((w.alloc (argB 0 0 noP)).alloc (argB 0 0 noP)):=t2 (aB _ _) (aB _ _)
 have h1:(w.alloc (argB 0 0 noP)).heap[w.heap.size]? = some (argB 0 0 noP):=heap_alloc_new _ _
 refine⟨?_,?_,b,S.below b,L.below b,T.below b⟩
 ·exact((aB (w.alloc (argB 0 0 noP)) _).block _ (block_in h1)).trans h1
 ·have h2:((w.alloc (argB 0 0 noP)).alloc (argB 0 0 noP)).heap[(w.alloc (argB 0 0 noP)).heap.size]? = some (argB 0 0 noP):=heap_alloc_new _ _
  rw[show(w.alloc (argB 0 0 noP)).heap.size=w.heap.size+1 by simp]at h2
  exact h2
theorem Ra.next {wr w':World} {n m n' m':Int} (h:Ra w wr s n m) (e:w'.heap[w.heap.size+1]? = some (argB n' m' noP)) (c:Chg (w.heap.size+1) wr w') (S:SeS w s) (L:Libs w) (T:Pow w):Ra w w' s n' m':=by
 have b:Below w.heap.size w w':=Chg.below h.b c (by omega)
 exact⟨(c.block _ (block_in h.q) (by omega)).trans h.q,e,b,S.below b,L.below b,T.below b⟩
theorem ra_len (f:Nat) (hf:f < 4) {w:World} {p:Option Addr} {n c:Nat} {s:Nat->Addr} (hn:n≠(fmB f).size) (S:SeS w s) :
  Calls Tryz.prog 82 #[.string (fmB f),.slice p n c] w fun e w'=>e=.returned (.tuple #[argV 0 0 noP,terr s 1])/\Below w.heap.size w w':=by
 have s0:=tk (aB w (argB 0 0 noP)) S.c0
 have HS0:Hid (w.cell? ⟨1,0,none⟩=some (.iface 312 (.pointer (some (s 0))))):=S.c0
 have h4:(w.alloc (argB 0 0 noP)).heap[w.heap.size]? = some (argB 0 0 noP):=heap_alloc_new _ _
 have B4:Hid (Below w.heap.size w (w.alloc (argB 0 0 noP))):=aB _ _
 have r0:=(argC h4).c0
 have g0:=argF h4 0
 have r1:=(argC h4).c1
 have g1:=argF h4 1
 have r2:=(argC h4).c2
 have g2:=argF h4 2
 have r3:=(argC h4).c3
 have g3:=argF h4 3
 have r4:=(argC h4).c4
 have g4:=argF h4 4
 have r5:=(argC h4).c5
 have g5:=argF h4 5
 have r6:=(argC h4).c6
 have g6:=argF h4 6
 have r7:=(argC h4).c7
 have g7:=argF h4 7
 clear S h4
 obtain⟨w2,hw2⟩:∃w2,w.alloc (.cells #[.int .i64 0,.int .i64 0,.int .i64 0,.int .i64 0,.int .i64 0,.int .i64 0,.int .i64 0,.int .i64 0] 126)=w2:=⟨_,rfl⟩
 have hw3:w.alloc (argB 0 0 noP)=w2:=hw2
 have hff:f=0\/f=1\/f=2\/f=3:=by omega
 rw[hw3]at r0 g0 r1 g1 r2 g2 r3 g3 r4 g4 r5 g5 r6 g6 r7 g7 s0 B4
 clear hw3
 simp only[noP]at r0 r1 r2 r3 r4 r5 r6 r7
 rcases hff with rfl | rfl | rfl | rfl
 ·have hne:¬(n:Int)=0:=by intro e;apply hn;show n=0;omega
  clear hn
  simp only[fmB]
  go_enter Tryz.func82,Tryz.ntmps82
  go_wp2_with fail
  try rw[hw2]
  clear hw2
  have dx:(w2.setCell ⟨w.heap.size,0,none⟩ (.int .i64 0)).cell? ⟨1,0,none⟩=some (.iface 312 (.pointer (some (s 0)))):=((World.cell?_setCell_other _ _ _ _ (fun e=>by have:=congrArg Addr.block e;have h0:=block_lt HS0.out;simp at this h0;omega)).trans s0)
  go_region
  all_goals go_wp2_with fail
  all_goals exact bodyPost_ret (v:=.tuple #[argV 0 0 noP,terr s 1]) (by simp[results,Tryz.results82,go_sem,r0,r1,r2,r3,r4,r5,r6,r7,argV,terr,noP]) rfl ⟨rfl,by
   repeat (first | with_reducible exact B4.out | with_reducible refine bset ?_ _ _ | with_reducible refine Below.drew ?_)⟩
 ·have hne:¬(n:Int)=1:=by intro e;apply hn;show n=1;omega
  clear hn
  simp only[fmB]
  go_enter Tryz.func82,Tryz.ntmps82
  go_wp2_with fail
  try rw[hw2]
  clear hw2
  have dx:(w2.setCell ⟨w.heap.size,0,none⟩ (.int .i64 0)).cell? ⟨1,0,none⟩=some (.iface 312 (.pointer (some (s 0)))):=((World.cell?_setCell_other _ _ _ _ (fun e=>by have:=congrArg Addr.block e;have h0:=block_lt HS0.out;simp at this h0;omega)).trans s0)
  go_region
  all_goals go_wp2_with fail
  all_goals exact bodyPost_ret (v:=.tuple #[argV 0 0 noP,terr s 1]) (by simp[results,Tryz.results82,go_sem,r0,r1,r2,r3,r4,r5,r6,r7,argV,terr,noP]) rfl ⟨rfl,by
   repeat (first | with_reducible exact B4.out | with_reducible refine bset ?_ _ _ | with_reducible refine Below.drew ?_)⟩
 ·have hne:¬(n:Int)=1:=by intro e;apply hn;show n=1;omega
  clear hn
  simp only[fmB]
  go_enter Tryz.func82,Tryz.ntmps82
  go_wp2_with fail
  try rw[hw2]
  clear hw2
  have dx:(w2.setCell ⟨w.heap.size,0,none⟩ (.int .i64 0)).cell? ⟨1,0,none⟩=some (.iface 312 (.pointer (some (s 0)))):=((World.cell?_setCell_other _ _ _ _ (fun e=>by have:=congrArg Addr.block e;have h0:=block_lt HS0.out;simp at this h0;omega)).trans s0)
  go_region
  all_goals go_wp2_with fail
  all_goals exact bodyPost_ret (v:=.tuple #[argV 0 0 noP,terr s 1]) (by simp[results,Tryz.results82,go_sem,r0,r1,r2,r3,r4,r5,r6,r7,argV,terr,noP]) rfl ⟨rfl,by
   repeat (first | with_reducible exact B4.out | with_reducible refine bset ?_ _ _ | with_reducible refine Below.drew ?_)⟩
 ·have hne:¬(n:Int)=2:=by intro e;apply hn;show n=2;omega
  clear hn
  simp only[fmB]
  go_enter Tryz.func82,Tryz.ntmps82
  go_wp2_with fail
  try rw[hw2]
  clear hw2
  have dx:(w2.setCell ⟨w.heap.size,0,none⟩ (.int .i64 0)).cell? ⟨1,0,none⟩=some (.iface 312 (.pointer (some (s 0)))):=((World.cell?_setCell_other _ _ _ _ (fun e=>by have:=congrArg Addr.block e;have h0:=block_lt HS0.out;simp at this h0;omega)).trans s0)
  go_region
  all_goals go_wp2_with fail
  all_goals exact bodyPost_ret (v:=.tuple #[argV 0 0 noP,terr s 1]) (by simp[results,Tryz.results82,go_sem,r0,r1,r2,r3,r4,r5,r6,r7,argV,terr,noP]) rfl ⟨rfl,by
   repeat (first | with_reducible exact B4.out | with_reducible refine bset ?_ _ _ | with_reducible refine Below.drew ?_)⟩
theorem ra_0 (h:WsI w v []) (S:SeS w s) (L:Libs w) (T:Pow w) (r:Option (Int×Int)) (hr:r=some (0,0)) :
  Calls Tryz.prog 82 #[.string ⟨#[]⟩,v] w fun e w'=>e=.returned (.tuple #[argV (r.getD (0,0)).1 (r.getD (0,0)).2 noP,terr s (ecO r)])/\Below w.heap.size w w':=by
 obtain⟨p,c,rfl,hc,hw⟩:=h
 have HW:Hid (SeS w s/\Libs w/\Pow w):=⟨S,L,T⟩
 have ra:=Ra.start S L T
 have HD:Hid (True):=trivial
 obtain⟨w2,hw2⟩:∃w2,(w.alloc (.cells #[.int .i64 0,.int .i64 0,.int .i64 0,.int .i64 0,.int .i64 0,.int .i64 0,.int .i64 0,.int .i64 0] 126)).alloc (.cells #[.int .i64 0,.int .i64 0,.int .i64 0,.int .i64 0,.int .i64 0,.int .i64 0,.int .i64 0,.int .i64 0] 126)=w2:=⟨_,rfl⟩
 have hw3:(w.alloc (argB 0 0 noP)).alloc (argB 0 0 noP)=w2:=hw2
 rw[hw3]at ra
 have RA:Hid (Ra w w2 s 0 0):=ra
 clear hw3
 clear hw hc S L T ra
 simp only[List.length_nil]
 go_enter Tryz.func82,Tryz.ntmps82
 go_upto_region 7 with fail
 try rw[hw2]
 clear hw2
 go_wp2_with fail
 refine wp_loop_rounds 1 ?_
 have HR:Hid (r=some (0,0)):=by show _=_;rw[hr]
 clear hr
 rw[rounds_succ]
 go_upto_region 13 with fail
 obtain⟨w5,hst,h5,c5⟩:=argZ_store RA.out.q (0) (0) noP
 have H5:Hid (w5.heap[w.heap.size]? = some (argB (0) (0) noP)/\Below w.heap.size w w5):=⟨h5,Chg.below RA.out.b c5 (Nat.le_refl _)⟩
 unfold argV noP at hst
 have k:=argC RA.out.r
 have k0:=k.c0
 have k1:=k.c1
 have k2:=k.c2
 have k3:=k.c3
 have k4:=k.c4
 have k5:=k.c5
 have k6:=k.c6
 have k7:=k.c7
 simp only[noP]at k0 k1 k2 k3 k4 k5 k6 k7
 clear h5 c5 k
 go_wp2_with (refine wpList_store_eq rfl 126 _ _ rfl _ _ _ rfl rfl hst ?_)
 have q:=argC H5.out.1
 clear hst
 go_wp2_with fail
 exact bodyPost_ret (v:=.tuple #[argV (0) (0) noP,.nilIface]) (by simp[results,Tryz.results82,go_sem,q.c0,q.c1,q.c2,q.c3,q.c4,q.c5,q.c6,q.c7,argV]) rfl ⟨by rw[HR.out];rfl,H5.out.2⟩
theorem ra_S (h:WsI w v [a]) (ha:a.size<=4000) (S:SeS w s) (L:Libs w) (T:Pow w) (r:Option (Int×Int)) (hr:r=if isS a then some (dv a,0) else none) :
  Calls Tryz.prog 82 #[.string ⟨#[83]⟩,v] w fun e w'=>e=.returned (.tuple #[argV (r.getD (0,0)).1 (r.getD (0,0)).2 noP,terr s (ecO r)])/\Below w.heap.size w w':=by
 obtain⟨p,c,rfl,hc,hw⟩:=h
 have HW:Hid (SeS w s/\Libs w/\Pow w):=⟨S,L,T⟩
 obtain⟨Z,o,rfl,d0⟩:=hw 0 a rfl
 have hz:Z < w.heap.size:=tlt d0
 simp only[Nat.add_zero]at d0
 have ra:=Ra.start S L T
 have HD:Hid (w.cell? ⟨Z,o,none⟩=some (.string a)):=d0
 obtain⟨w2,hw2⟩:∃w2,(w.alloc (.cells #[.int .i64 0,.int .i64 0,.int .i64 0,.int .i64 0,.int .i64 0,.int .i64 0,.int .i64 0,.int .i64 0] 126)).alloc (.cells #[.int .i64 0,.int .i64 0,.int .i64 0,.int .i64 0,.int .i64 0,.int .i64 0,.int .i64 0,.int .i64 0] 126)=w2:=⟨_,rfl⟩
 have hw3:(w.alloc (argB 0 0 noP)).alloc (argB 0 0 noP)=w2:=hw2
 rw[hw3]at ra
 have RA:Hid (Ra w w2 s 0 0):=ra
 clear hw3
 clear hw hc S L T ra
 simp only[List.length_cons,List.length_nil,Nat.zero_add]
 go_enter Tryz.func82,Tryz.ntmps82
 go_upto_region 7 with fail
 try rw[hw2]
 clear hw2
 go_wp2_with fail
 refine wp_loop_rounds 2 ?_
 rw[rounds_succ]
 have e0:=tk RA.out.b HD.out
 have hzr:=Nat.lt_of_lt_of_le hz RA.out.b.size
 go_wp2_with fail
 refine(read_S RA.out.r a ha RA.out.l RA.out.t).mono ?_
 rintro e w3 ⟨rfl,hq,hcg⟩
 have RA2:Hid (Ra w w3 s (dv a) (0)):=RA.out.next hq hcg HW.out.1 HW.out.2.1 HW.out.2.2
 clear hq hcg RA e0 hzr
 have RA:=RA2
 clear RA2
 obtain⟨b0,hb0⟩:∃bo,isS a=bo:=⟨_,rfl⟩
 rw[hb0]
 cases b0
 ·have HR:Hid (r=none):=by show _=_;rw[hr];simp[hb0]
  have s0:=RA.out.s.c0
  have B4:Hid (Below w.heap.size w w3):=RA.out.b
  have r0:=(argC RA.out.q).c0
  have g0:=argF RA.out.q 0
  have r1:=(argC RA.out.q).c1
  have g1:=argF RA.out.q 1
  have r2:=(argC RA.out.q).c2
  have g2:=argF RA.out.q 2
  have r3:=(argC RA.out.q).c3
  have g3:=argF RA.out.q 3
  have r4:=(argC RA.out.q).c4
  have g4:=argF RA.out.q 4
  have r5:=(argC RA.out.q).c5
  have g5:=argF RA.out.q 5
  have r6:=(argC RA.out.q).c6
  have g6:=argF RA.out.q 6
  have r7:=(argC RA.out.q).c7
  have g7:=argF RA.out.q 7
  simp only[noP]at r0 r1 r2 r3 r4 r5 r6 r7
  clear hr
  go_wp2_with fail
  have dx:(w3.setCell ⟨w.heap.size,0,none⟩ (.int .i64 0)).cell? ⟨1,0,none⟩=some (.iface 312 (.pointer (some (s 0)))):=((World.cell?_setCell_other _ _ _ _ (fun e=>by have:=congrArg Addr.block e;have h0:=block_lt HW.out.1.c0;simp at this h0;omega)).trans s0)
  go_region
  all_goals go_wp2_with fail
  all_goals exact bodyPost_ret (v:=.tuple #[argV 0 0 noP,terr s 1]) (by simp[results,Tryz.results82,go_sem,r0,r1,r2,r3,r4,r5,r6,r7,argV,terr,noP]) rfl ⟨by rw[HR.out];rfl,by
   repeat (first | with_reducible exact B4.out | with_reducible refine bset ?_ _ _ | with_reducible refine Below.drew ?_)⟩
 go_wp2_with fail
 have HR:Hid (r=some (dv a,0)):=by show _=_;rw[hr];simp[hb0]
 clear hr
 rw[rounds_succ]
 go_upto_region 13 with fail
 obtain⟨w5,hst,h5,c5⟩:=argZ_store RA.out.q (dv a) (0) noP
 have H5:Hid (w5.heap[w.heap.size]? = some (argB (dv a) (0) noP)/\Below w.heap.size w w5):=⟨h5,Chg.below RA.out.b c5 (Nat.le_refl _)⟩
 unfold argV noP at hst
 have k:=argC RA.out.r
 have k0:=k.c0
 have k1:=k.c1
 have k2:=k.c2
 have k3:=k.c3
 have k4:=k.c4
 have k5:=k.c5
 have k6:=k.c6
 have k7:=k.c7
 simp only[noP]at k0 k1 k2 k3 k4 k5 k6 k7
 clear h5 c5 k
 go_wp2_with (refine wpList_store_eq rfl 126 _ _ rfl _ _ _ rfl rfl hst ?_)
 have q:=argC H5.out.1
 clear hst
 go_wp2_with fail
 exact bodyPost_ret (v:=.tuple #[argV (dv a) (0) noP,.nilIface]) (by simp[results,Tryz.results82,go_sem,q.c0,q.c1,q.c2,q.c3,q.c4,q.c5,q.c6,q.c7,argV]) rfl ⟨by rw[HR.out];rfl,H5.out.2⟩
theorem ra_N (h:WsI w v [a]) (ha:a.size<=4000) (S:SeS w s) (L:Libs w) (T:Pow w) (r:Option (Int×Int)) (hr:r=if isN a then some (0,dv a) else none) :
  Calls Tryz.prog 82 #[.string ⟨#[78]⟩,v] w fun e w'=>e=.returned (.tuple #[argV (r.getD (0,0)).1 (r.getD (0,0)).2 noP,terr s (ecO r)])/\Below w.heap.size w w':=by
 obtain⟨p,c,rfl,hc,hw⟩:=h
 have HW:Hid (SeS w s/\Libs w/\Pow w):=⟨S,L,T⟩
 obtain⟨Z,o,rfl,d0⟩:=hw 0 a rfl
 have hz:Z < w.heap.size:=tlt d0
 simp only[Nat.add_zero]at d0
 have ra:=Ra.start S L T
 have HD:Hid (w.cell? ⟨Z,o,none⟩=some (.string a)):=d0
 obtain⟨w2,hw2⟩:∃w2,(w.alloc (.cells #[.int .i64 0,.int .i64 0,.int .i64 0,.int .i64 0,.int .i64 0,.int .i64 0,.int .i64 0,.int .i64 0] 126)).alloc (.cells #[.int .i64 0,.int .i64 0,.int .i64 0,.int .i64 0,.int .i64 0,.int .i64 0,.int .i64 0,.int .i64 0] 126)=w2:=⟨_,rfl⟩
 have hw3:(w.alloc (argB 0 0 noP)).alloc (argB 0 0 noP)=w2:=hw2
 rw[hw3]at ra
 have RA:Hid (Ra w w2 s 0 0):=ra
 clear hw3
 clear hw hc S L T ra
 simp only[List.length_cons,List.length_nil,Nat.zero_add]
 go_enter Tryz.func82,Tryz.ntmps82
 go_upto_region 7 with fail
 try rw[hw2]
 clear hw2
 go_wp2_with fail
 refine wp_loop_rounds 2 ?_
 rw[rounds_succ]
 have e0:=tk RA.out.b HD.out
 have hzr:=Nat.lt_of_lt_of_le hz RA.out.b.size
 go_wp2_with fail
 refine(read_N RA.out.r a ha RA.out.l RA.out.t).mono ?_
 rintro e w3 ⟨rfl,hq,hcg⟩
 have RA2:Hid (Ra w w3 s (0) (dv a)):=RA.out.next hq hcg HW.out.1 HW.out.2.1 HW.out.2.2
 clear hq hcg RA e0 hzr
 have RA:=RA2
 clear RA2
 obtain⟨b0,hb0⟩:∃bo,isN a=bo:=⟨_,rfl⟩
 rw[hb0]
 cases b0
 ·have HR:Hid (r=none):=by show _=_;rw[hr];simp[hb0]
  have s0:=RA.out.s.c0
  have B4:Hid (Below w.heap.size w w3):=RA.out.b
  have r0:=(argC RA.out.q).c0
  have g0:=argF RA.out.q 0
  have r1:=(argC RA.out.q).c1
  have g1:=argF RA.out.q 1
  have r2:=(argC RA.out.q).c2
  have g2:=argF RA.out.q 2
  have r3:=(argC RA.out.q).c3
  have g3:=argF RA.out.q 3
  have r4:=(argC RA.out.q).c4
  have g4:=argF RA.out.q 4
  have r5:=(argC RA.out.q).c5
  have g5:=argF RA.out.q 5
  have r6:=(argC RA.out.q).c6
  have g6:=argF RA.out.q 6
  have r7:=(argC RA.out.q).c7
  have g7:=argF RA.out.q 7
  simp only[noP]at r0 r1 r2 r3 r4 r5 r6 r7
  clear hr
  go_wp2_with fail
  have dx:(w3.setCell ⟨w.heap.size,0,none⟩ (.int .i64 0)).cell? ⟨1,0,none⟩=some (.iface 312 (.pointer (some (s 0)))):=((World.cell?_setCell_other _ _ _ _ (fun e=>by have:=congrArg Addr.block e;have h0:=block_lt HW.out.1.c0;simp at this h0;omega)).trans s0)
  go_region
  all_goals go_wp2_with fail
  all_goals exact bodyPost_ret (v:=.tuple #[argV 0 0 noP,terr s 1]) (by simp[results,Tryz.results82,go_sem,r0,r1,r2,r3,r4,r5,r6,r7,argV,terr,noP]) rfl ⟨by rw[HR.out];rfl,by
   repeat (first | with_reducible exact B4.out | with_reducible refine bset ?_ _ _ | with_reducible refine Below.drew ?_)⟩
 go_wp2_with fail
 have HR:Hid (r=some (0,dv a)):=by show _=_;rw[hr];simp[hb0]
 clear hr
 rw[rounds_succ]
 go_upto_region 13 with fail
 obtain⟨w5,hst,h5,c5⟩:=argZ_store RA.out.q (0) (dv a) noP
 have H5:Hid (w5.heap[w.heap.size]? = some (argB (0) (dv a) noP)/\Below w.heap.size w w5):=⟨h5,Chg.below RA.out.b c5 (Nat.le_refl _)⟩
 unfold argV noP at hst
 have k:=argC RA.out.r
 have k0:=k.c0
 have k1:=k.c1
 have k2:=k.c2
 have k3:=k.c3
 have k4:=k.c4
 have k5:=k.c5
 have k6:=k.c6
 have k7:=k.c7
 simp only[noP]at k0 k1 k2 k3 k4 k5 k6 k7
 clear h5 c5 k
 go_wp2_with (refine wpList_store_eq rfl 126 _ _ rfl _ _ _ rfl rfl hst ?_)
 have q:=argC H5.out.1
 clear hst
 go_wp2_with fail
 exact bodyPost_ret (v:=.tuple #[argV (0) (dv a) noP,.nilIface]) (by simp[results,Tryz.results82,go_sem,q.c0,q.c1,q.c2,q.c3,q.c4,q.c5,q.c6,q.c7,argV]) rfl ⟨by rw[HR.out];rfl,H5.out.2⟩
theorem ra_SN {b:ByteArray} (h:WsI w v [a,b]) (ha:a.size<=4000) (hb:b.size<=4000) (S:SeS w s) (L:Libs w) (T:Pow w) (r:Option (Int×Int)) (hr:r=if isS a && isN b then some (dv a,dv b) else none) :
  Calls Tryz.prog 82 #[.string ⟨#[83,78]⟩,v] w fun e w'=>e=.returned (.tuple #[argV (r.getD (0,0)).1 (r.getD (0,0)).2 noP,terr s (ecO r)])/\Below w.heap.size w w':=by
 obtain⟨p,c,rfl,hc,hw⟩:=h
 have HW:Hid (SeS w s/\Libs w/\Pow w):=⟨S,L,T⟩
 obtain⟨Z,o,rfl,d0⟩:=hw 0 a rfl
 obtain⟨Z2,o2,e2,d1⟩:=hw 1 b rfl
 cases e2
 have hz:Z < w.heap.size:=tlt d0
 simp only[Nat.add_zero]at d0
 have ra:=Ra.start S L T
 have HD:Hid (w.cell? ⟨Z,o,none⟩=some (.string a)/\w.cell? ⟨Z,o+1,none⟩=some (.string b)):=⟨d0,d1⟩
 obtain⟨w2,hw2⟩:∃w2,(w.alloc (.cells #[.int .i64 0,.int .i64 0,.int .i64 0,.int .i64 0,.int .i64 0,.int .i64 0,.int .i64 0,.int .i64 0] 126)).alloc (.cells #[.int .i64 0,.int .i64 0,.int .i64 0,.int .i64 0,.int .i64 0,.int .i64 0,.int .i64 0,.int .i64 0] 126)=w2:=⟨_,rfl⟩
 have hw3:(w.alloc (argB 0 0 noP)).alloc (argB 0 0 noP)=w2:=hw2
 rw[hw3]at ra
 have RA:Hid (Ra w w2 s 0 0):=ra
 clear hw3
 clear hw hc S L T ra
 simp only[List.length_cons,List.length_nil,Nat.zero_add]
 go_enter Tryz.func82,Tryz.ntmps82
 go_upto_region 7 with fail
 try rw[hw2]
 clear hw2
 go_wp2_with fail
 refine wp_loop_rounds 3 ?_
 rw[rounds_succ]
 have e0:=tk RA.out.b HD.out.1
 have hzr:=Nat.lt_of_lt_of_le hz RA.out.b.size
 go_wp2_with fail
 refine(read_S RA.out.r a ha RA.out.l RA.out.t).mono ?_
 rintro e w3 ⟨rfl,hq,hcg⟩
 have RA2:Hid (Ra w w3 s (dv a) (0)):=RA.out.next hq hcg HW.out.1 HW.out.2.1 HW.out.2.2
 clear hq hcg RA e0 hzr
 have RA:=RA2
 clear RA2
 obtain⟨b0,hb0⟩:∃bo,isS a=bo:=⟨_,rfl⟩
 rw[hb0]
 cases b0
 ·have HR:Hid (r=none):=by show _=_;rw[hr];simp[hb0]
  have s0:=RA.out.s.c0
  have B4:Hid (Below w.heap.size w w3):=RA.out.b
  have r0:=(argC RA.out.q).c0
  have g0:=argF RA.out.q 0
  have r1:=(argC RA.out.q).c1
  have g1:=argF RA.out.q 1
  have r2:=(argC RA.out.q).c2
  have g2:=argF RA.out.q 2
  have r3:=(argC RA.out.q).c3
  have g3:=argF RA.out.q 3
  have r4:=(argC RA.out.q).c4
  have g4:=argF RA.out.q 4
  have r5:=(argC RA.out.q).c5
  have g5:=argF RA.out.q 5
  have r6:=(argC RA.out.q).c6
  have g6:=argF RA.out.q 6
  have r7:=(argC RA.out.q).c7
  have g7:=argF RA.out.q 7
  simp only[noP]at r0 r1 r2 r3 r4 r5 r6 r7
  clear hr
  go_wp2_with fail
  have dx:(w3.setCell ⟨w.heap.size,0,none⟩ (.int .i64 0)).cell? ⟨1,0,none⟩=some (.iface 312 (.pointer (some (s 0)))):=((World.cell?_setCell_other _ _ _ _ (fun e=>by have:=congrArg Addr.block e;have h0:=block_lt HW.out.1.c0;simp at this h0;omega)).trans s0)
  go_region
  all_goals go_wp2_with fail
  all_goals exact bodyPost_ret (v:=.tuple #[argV 0 0 noP,terr s 1]) (by simp[results,Tryz.results82,go_sem,r0,r1,r2,r3,r4,r5,r6,r7,argV,terr,noP]) rfl ⟨by rw[HR.out];rfl,by
   repeat (first | with_reducible exact B4.out | with_reducible refine bset ?_ _ _ | with_reducible refine Below.drew ?_)⟩
 go_wp2_with fail
 rw[rounds_succ]
 have e1:=tk RA.out.b HD.out.2
 have hzr:=Nat.lt_of_lt_of_le hz RA.out.b.size
 go_wp2_with fail
 refine(read_N RA.out.r b hb RA.out.l RA.out.t).mono ?_
 rintro e w4 ⟨rfl,hq,hcg⟩
 have RA2:Hid (Ra w w4 s (dv a) (dv b)):=RA.out.next hq hcg HW.out.1 HW.out.2.1 HW.out.2.2
 clear hq hcg RA e1 hzr
 have RA:=RA2
 clear RA2
 obtain⟨b1,hb1⟩:∃bo,isN b=bo:=⟨_,rfl⟩
 rw[hb1]
 cases b1
 ·have HR:Hid (r=none):=by show _=_;rw[hr];simp[hb0,hb1]
  have s0:=RA.out.s.c0
  have B4:Hid (Below w.heap.size w w4):=RA.out.b
  have r0:=(argC RA.out.q).c0
  have g0:=argF RA.out.q 0
  have r1:=(argC RA.out.q).c1
  have g1:=argF RA.out.q 1
  have r2:=(argC RA.out.q).c2
  have g2:=argF RA.out.q 2
  have r3:=(argC RA.out.q).c3
  have g3:=argF RA.out.q 3
  have r4:=(argC RA.out.q).c4
  have g4:=argF RA.out.q 4
  have r5:=(argC RA.out.q).c5
  have g5:=argF RA.out.q 5
  have r6:=(argC RA.out.q).c6
  have g6:=argF RA.out.q 6
  have r7:=(argC RA.out.q).c7
  have g7:=argF RA.out.q 7
  simp only[noP]at r0 r1 r2 r3 r4 r5 r6 r7
  clear hr
  go_wp2_with fail
  have dx:(w4.setCell ⟨w.heap.size,0,none⟩ (.int .i64 0)).cell? ⟨1,0,none⟩=some (.iface 312 (.pointer (some (s 0)))):=((World.cell?_setCell_other _ _ _ _ (fun e=>by have:=congrArg Addr.block e;have h0:=block_lt HW.out.1.c0;simp at this h0;omega)).trans s0)
  go_region
  all_goals go_wp2_with fail
  all_goals exact bodyPost_ret (v:=.tuple #[argV 0 0 noP,terr s 1]) (by simp[results,Tryz.results82,go_sem,r0,r1,r2,r3,r4,r5,r6,r7,argV,terr,noP]) rfl ⟨by rw[HR.out];rfl,by
   repeat (first | with_reducible exact B4.out | with_reducible refine bset ?_ _ _ | with_reducible refine Below.drew ?_)⟩
 go_wp2_with fail
 have HR:Hid (r=some (dv a,dv b)):=by show _=_;rw[hr];simp[hb0,hb1]
 clear hr
 rw[rounds_succ]
 go_upto_region 13 with fail
 obtain⟨w5,hst,h5,c5⟩:=argZ_store RA.out.q (dv a) (dv b) noP
 have H5:Hid (w5.heap[w.heap.size]? = some (argB (dv a) (dv b) noP)/\Below w.heap.size w w5):=⟨h5,Chg.below RA.out.b c5 (Nat.le_refl _)⟩
 unfold argV noP at hst
 have k:=argC RA.out.r
 have k0:=k.c0
 have k1:=k.c1
 have k2:=k.c2
 have k3:=k.c3
 have k4:=k.c4
 have k5:=k.c5
 have k6:=k.c6
 have k7:=k.c7
 simp only[noP]at k0 k1 k2 k3 k4 k5 k6 k7
 clear h5 c5 k
 go_wp2_with (refine wpList_store_eq rfl 126 _ _ rfl _ _ _ rfl rfl hst ?_)
 have q:=argC H5.out.1
 clear hst
 go_wp2_with fail
 exact bodyPost_ret (v:=.tuple #[argV (dv a) (dv b) noP,.nilIface]) (by simp[results,Tryz.results82,go_sem,q.c0,q.c1,q.c2,q.c3,q.c4,q.c5,q.c6,q.c7,argV]) rfl ⟨by rw[HR.out];rfl,H5.out.2⟩
end
theorem cells_any (b:Nat) (low:Int) (T:Tb) (w:World) (t:Tab w b low T) :
  Calls Tryz.prog 125 #[.pointer (some (b,0))] w fun e w'=>e=.returned (.slice (some (w.heap.size,0)) 32 32)/\CellsB w' w T/\Below w w w':=by
 have hld:=arr_load t
 have hz:=zero_slots
 have HO:Hid ((slotsArr T).all (·.oneCell')=true):=slots_one T
 clear t
 go_enter Tryz.func125,Tryz.ntmps125
 go_wp2_with (first | refine wpList_load_at rfl 232 _ rfl _ _ rfl hld ?_ | refine wpList_store_row rfl 232 _ _ rfl w (slotsArr T) rfl rfl 232 _ (heap_alloc_new w _) (slots_info T) (by rw[slotsArr_size];first | rfl | simp) HO ?_)
 rw[World.setRow_alloc_new]
 go_ret
 exact⟨rfl,heap_alloc_new w _,(Below.refl _ _).alloc (Nat.le_refl _) _⟩
theorem table_nd {w0 w:World} {k:Bk} {x:No} {m n:Nat} (h:Nd w0 w k x m n) :
  Calls Tryz.prog 75 #[.pointer (some (k.nd,0))] w fun e w'=>(∃Z,e=.returned (.slice (some ⟨Z,0,none⟩) 32 32)/\CellsB w' Z x.T/\w.heap.size<=Z)/\Below w w w':=by
 have HN:Hid (Nd w0 w k x m n):=h
 have c:=h.c6
 have t:=h.t0
 clear h
 go_enter Tryz.func75,Tryz.ntmps75
 go_wp2_with fail
 refine(cells_any k.tb x.low x.T w HN.tb).mono ?_
 rintro e w1 ⟨rfl,cb,b1⟩
 have CB:Hid (CellsB w1 w x.T):=cb
 have B1:Hid (Below w w w1):=b1
 clear cb b1
 go_wp2_with fail
 go_ret
 exact⟨⟨_,rfl,CB,Nat.le_refl _⟩,B1⟩
theorem mcells_any (b:Nat) (life:Int) (T:Tb) (w:World) (t:Mir w b life T) :
  Calls Tryz.prog 126 #[.pointer (some (b,0))] w fun e w'=>e=.returned (.slice (some (w.heap.size,0)) 32 32)/\CellsB w' w T/\Below w w w':=by
 have hld:=mir_load t
 have hz:=zero_slots
 have HO:Hid ((slotsArr T).all (·.oneCell')=true):=slots_one T
 clear t
 go_enter Tryz.func126,Tryz.ntmps126
 go_wp2_with (first | refine wpList_load_at rfl 232 _ rfl _ _ rfl hld ?_ | refine wpList_store_row rfl 232 _ _ rfl w (slotsArr T) rfl rfl 232 _ (heap_alloc_new w _) (slots_info T) (by rw[slotsArr_size];first | rfl | simp) HO ?_)
 rw[World.setRow_alloc_new]
 go_ret
 exact⟨rfl,heap_alloc_new w _,(Below.refl _ _).alloc (Nat.le_refl _) _⟩
theorem node_wd {w0 w:World} {K:WK} {x:Wo} {t:Nat} {s:Nat->Addr} (S:SeM w0 s) (h:Wd w0 w K x t) (n:Int) :
  Calls Tryz.prog 72 #[.pointer (some (K.wb,0)),n] w fun e w'=>((∃i y k,n=((i:Nat):Int)/\i < 2/\x.nd i=some y/\K.nk i=some k/\e=.returned (.tuple #[.pointer (some ⟨k.nd,0,none⟩),.nilIface]))\/(∃e1,x.upE n=e1+1/\e=.returned (.tuple #[.pointer none,.iface 312 (.pointer (some (s e1)))])))/\Below w w w':=by
 have HS:Hid (SeM w0 s):=S
 have HW:Hid (Wd w0 w K x t):=h
 clear S h
 go_enter Tryz.func72,Tryz.ntmps72
 go_wp2_with fail
 refine(up_any HS HW n).mono ?_
 rintro e w1 ⟨rfl,hb1⟩
 have B1:Hid (Below w w w1):=hb1
 have W1:Hid (Wd w0 w1 K x t):=HW.below hb1
 clear hb1
 rcases up_cases s x K.wb n with⟨i,y,hn,hi,hy,he,hv⟩ | ⟨e,he,hv⟩
 ·rw[hv]
  obtain⟨k,m',n',hk,_⟩:=W1.up hi hy
  have HX:Hid (n=((i:Nat):Int)/\i < 2/\x.nd i=some y/\K.nk i=some k):=⟨hn,hi,hy,hk⟩
  have cn:=W1.wb.cn hi
  rw[hk]at cn
  simp only[ndV,Option.map_some]at cn
  clear hv hn hi hy he hk
  go_wp2_with fail
  go_ret2
  exact⟨.inl ⟨i,y,k,HX.1,HX.2.1,HX.2.2.1,HX.2.2.2,rfl⟩,B1⟩
 ·rw[hv]
  have HX:Hid (x.upE n=e+1):=he
  clear hv he
  go_wp2_with fail
  go_ret2
  exact⟨.inr ⟨e,HX,rfl⟩,B1⟩
section
variable {w0 w:World} {k:Bk} {x:No} {m n:Nat}
theorem flows_any (Z cap:Nat) (T:Tb) (w:World) (C:CellsB w Z T) :
  Calls Tryz.prog 74 #[.slice (some ⟨Z,0,none⟩) 32 cap] w fun e w'=>e=.returned (.int .i64 (flL T 32).length)/\Below w.heap.size w w':=by
 have HC:Hid (CellsB w Z T):=C
 have hZ:=C.lt
 clear C
 go_enter Tryz.func74,Tryz.ntmps74
 go_wp2_with fail
 go_loopw [3,5,8] (fun v _ t wr=>∃j:Nat,j<=32/\t=.int .i64 j/\v=.int .i64 (flL T j).length/\Below w.heap.size w wr) (fun _ _ t _=>32 - (intOf t).toNat)
 case atStart=>exact⟨0,by omega,rfl,rfl,Below.refl _ _⟩
 case round =>
  obtain⟨j,hj,rfl,rfl,hbr⟩:=hrel
  have HB:Hid (Below w.heap.size w wr):=hbr
  have hs:=hbr.size
  clear hbr
  by_cases hlt:j < 32
  ·obtain⟨c,hc⟩:∃c,c=T j:=⟨_,rfl⟩
   have HCC:Hid (c=T j):=hc
   have b0:=tk HB.out (HC.out.at' (i:=j) (k:=0) hlt (by omega))
   have b1:=tk HB.out (HC.out.at' (i:=j) (k:=1) hlt (by omega))
   have b2:=tk HB.out (HC.out.at' (i:=j) (k:=2) hlt (by omega))
   have b3:=tk HB.out (HC.out.at' (i:=j) (k:=3) hlt (by omega))
   have b4:=tk HB.out (HC.out.at' (i:=j) (k:=4) hlt (by omega))
   have b5:=tk HB.out (HC.out.at' (i:=j) (k:=5) hlt (by omega))
   have b6:=tk HB.out (HC.out.at' (i:=j) (k:=6) hlt (by omega))
   have b7:=tk HB.out (HC.out.at' (i:=j) (k:=7) hlt (by omega))
   have b8:=tk HB.out (HC.out.at' (i:=j) (k:=8) hlt (by omega))
   have b9:=tk HB.out (HC.out.at' (i:=j) (k:=9) hlt (by omega))
   rw[<- hc]at b0 b1 b2 b3 b4 b5 b6 b7 b8 b9
   simp only[Ce.get,Nat.add_zero]at b0 b1 b2 b3 b4 b5 b6 b7 b8 b9
   have i0':(0:Int)<=(j:Int):=by omega
   have i1:(j:Int) < 32:=by omega
   have hle:=flL_len T j
   clear hc
   by_cases hp:c.pr=0
   ·have HN:Hid (flL T (j+1)=flL T j):=flL_no (by rw[<- HCC.out];exact hp)
    go_wp2_with fail
    go_roundw
    case rel=>exact⟨j+1,by omega,by go_num,by rw[HN.out],HB.out.alloc HB.out.size _⟩
    case measure=>simp[intOf];omega
   ·have HN:Hid (flL T (j+1)=flL T j++[c]):=by show _=_;rw[flL_yes (by rw[<- HCC.out];exact hp),HCC.out]
    go_wp2_with fail
    go_roundw
    case rel=>exact⟨j+1,by omega,by go_num,by rw[HN.out,List.length_append];go_num,HB.out.alloc HB.out.size _⟩
    case measure=>simp[intOf];omega
  ·obtain rfl:j=32:=by omega
   go_wp2_with fail
   go_ret
   exact⟨rfl,HB.out⟩
theorem nlife_nd (h:Nd w0 w k x m n) :
  Calls Tryz.prog 81 #[.pointer (some ⟨k.nd,0,none⟩)] w fun e w'=>e=.returned (.int .i64 x.life)/\w'=w:=by
 have c:=h.c2
 clear h
 go_enter Tryz.func81,Tryz.ntmps81
 go_wp2_with fail
 go_ret
 exact⟨rfl,rfl⟩
theorem nmirror_nd (h:Nd w0 w k x m n) :
  Calls Tryz.prog 77 #[.pointer (some ⟨k.nd,0,none⟩)] w fun e w'=>(∃Z,e=.returned (.slice (some ⟨Z,0,none⟩) 32 32)/\CellsB w' Z x.mt)/\Below w.heap.size w w':=by
 have HN:Hid (Nd w0 w k x m n):=h
 have c:=h.c7
 clear h
 go_enter Tryz.func77,Tryz.ntmps77
 go_wp2_with fail
 refine(mcells_any k.mi x.ml x.mt w HN.out.mi).mono ?_
 rintro e w1 ⟨rfl,cb,b1⟩
 have CB:Hid (CellsB w1 w.heap.size x.mt/\Below w.heap.size w w1):=⟨cb,b1⟩
 clear cb b1
 go_wp2_with fail
 go_ret
 exact⟨⟨_,rfl,CB.out.1⟩,CB.out.2⟩
theorem of_flows (h:Nd w0 w k x m n) :
  Calls Tryz.prog 73 #[.pointer (some ⟨k.nd,0,none⟩)] w fun e w'=>e=.returned (.int .i64 (flL x.T 32).length)/\Below w.heap.size w w':=by
 have HN:Hid (Nd w0 w k x m n):=h
 clear h
 go_enter Tryz.func73,Tryz.ntmps73
 go_wp2_with fail
 refine(table_nd HN.out).mono ?_
 rintro e w1 ⟨⟨Z,rfl,cb,_⟩,b1⟩
 have CB:Hid (CellsB w1 Z x.T/\Below w.heap.size w w1):=⟨cb,b1⟩
 clear cb b1
 go_wp2_with fail
 refine(flows_any Z 32 x.T w1 CB.out.1).mono ?_
 rintro e w2 ⟨rfl,b2⟩
 have B2:Hid (Below w.heap.size w w2):=t2 CB.out.2 b2
 clear b2
 go_wp2_with fail
 go_ret
 exact⟨rfl,B2.out⟩
theorem of_mirror (h:Nd w0 w k x m n) :
  Calls Tryz.prog 76 #[.pointer (some ⟨k.nd,0,none⟩)] w fun e w'=>e=.returned (.int .i64 (flL x.mt 32).length)/\Below w.heap.size w w':=by
 have HN:Hid (Nd w0 w k x m n):=h
 clear h
 go_enter Tryz.func76,Tryz.ntmps76
 go_wp2_with fail
 refine(nmirror_nd HN.out).mono ?_
 rintro e w1 ⟨⟨Z,rfl,cb⟩,b1⟩
 have CB:Hid (CellsB w1 Z x.mt/\Below w.heap.size w w1):=⟨cb,b1⟩
 clear cb b1
 go_wp2_with fail
 refine(flows_any Z 32 x.mt w1 CB.out.1).mono ?_
 rintro e w2 ⟨rfl,b2⟩
 have B2:Hid (Below w.heap.size w w2):=t2 CB.out.2 b2
 clear b2
 go_wp2_with fail
 go_ret
 exact⟨rfl,B2.out⟩
theorem of_epoch (h:Nd w0 w k x m n) :
  Calls Tryz.prog 78 #[.pointer (some ⟨k.nd,0,none⟩)] w fun e w'=>e=.returned (.int .i64 x.ro.ep)/\w'=w:=by
 have HN:Hid (Nd w0 w k x m n):=h
 have c0:=h.c0
 clear h
 go_enter Tryz.func78,Tryz.ntmps78
 go_wp2_with fail
 refine(epochR_any k.ro _ _ HN.out.ro).mono ?_
 rintro e w1 ⟨rfl,hw⟩
 obtain rfl:=hw.symm
 clear hw
 go_wp2_with fail
 go_ret
 exact⟨rfl,rfl⟩
theorem of_life (h:Nd w0 w k x m n) :
  Calls Tryz.prog 80 #[.pointer (some ⟨k.nd,0,none⟩)] w fun e w'=>e=.returned (.int .i64 x.life)/\w'=w:=by
 have HN:Hid (Nd w0 w k x m n):=h
 clear h
 go_enter Tryz.func80,Tryz.ntmps80
 go_wp2_with fail
 refine(nlife_nd HN.out).mono ?_
 rintro e w1 ⟨rfl,hw⟩
 obtain rfl:=hw.symm
 clear hw
 go_wp2_with fail
 go_ret
 exact⟨rfl,rfl⟩
def dnT:ByteArray:=⟨#[100,111,119,110]⟩
def yeT:ByteArray:=⟨#[121,101,115]⟩
def nuT:ByteArray:=⟨#[110,111]⟩
def acT (W:Wo) (n:Int):ByteArray:=if W.upE n=0 then (match W.nd n.toNat with | some y=>(if y.ro.ac then yeT else nuT) | none=>nuT) else dnT
theorem activeText_any {Y:Nat->Option Obj} {wb B N b M pb t:Nat} {W:Wo} {s:Nat->Addr} (S:SeM w0 s) (h:Pw w0 w wb Y B N b M pb W t) (n:Int) :
  Calls Tryz.prog 70 #[.pointer (some ⟨b,0,none⟩),.int .i64 n] w fun e w'=>e=.returned (.string (acT W n))/\Below w.heap.size w w':=by
 have c1:=h.b0
 obtain⟨K,wd,pl,yk,rfl⟩:=h
 have HW:Hid (Wd w0 w K W t):=wd
 have HS:Hid (SeM w0 s):=S
 clear S wd pl yk
 go_enter Tryz.func70,Tryz.ntmps70
 go_wp2_with fail
 refine(node_wd HS.out HW.out n).mono ?_
 rintro e w2 ⟨hc | hc,b2⟩
 ·obtain⟨i,y,k,rfl,hi,hy,hk,rfl⟩:=hc
  obtain⟨k',m',n',hk',nd,_⟩:=(HW.out.below b2).up hi hy
  have ek:k'=k:=Option.some.inj (hk'.symm.trans hk)
  subst ek
  have ND:Hid (Nd w0 w2 k' y m' n'):=nd
  have B2:Hid (Below w.heap.size w w2):=b2
  have HE:Hid (acT W (i:Int)=if y.ro.ac then yeT else nuT):=by
   show _=_
   have hup:W.upE (i:Int)=0:=by unfold Wo.upE;rw[if_pos (by omega),Int.toNat_natCast,hy];rfl
   unfold acT
   rw[if_pos hup,Int.toNat_natCast,hy]
  have c0:=nd.c0
  clear nd b2 hk hk'
  go_wp2_with fail
  refine(active_any k'.ro _ _ ND.out.ro).mono ?_
  rintro e w3 ⟨rfl,hw⟩
  obtain rfl:=hw.symm
  clear hw
  generalize hac:y.ro.ac=ac at HE
  clear hac
  cases ac
  ·go_wp2_with fail
   go_ret
   exact⟨by rw[HE.out];rfl,B2.out⟩
  ·go_wp2_with fail
   go_ret
   exact⟨by rw[HE.out];rfl,B2.out⟩
 ·obtain⟨e1,he,rfl⟩:=hc
  have HE:Hid (acT W n=dnT):=by
   show _=_
   unfold acT
   rw[if_neg (by omega)]
  have B2:Hid (Below w.heap.size w w2):=b2
  clear b2 he
  go_wp2_with fail
  go_ret
  exact⟨by rw[HE.out];rfl,B2.out⟩
end
section
variable {q:Nat} {W:Wo}
def fmk:Nat->Nat
 | 0=>3
 | 1=>3
 | 2=>2
 | 3=>2
 | 4=>2
 | 5=>1
 | 6=>1
 | 7=>4
 | 8=>4
 | 9=>0
 | 10=>0
 | 11=>0
 | 12=>0
 | _=>1
theorem fmk_lt:∀k,fmk k < 5
 | 0 | 1 | 2 | 3 | 4 | 5 | 6 | 7 | 8 | 9 | 10 | 11 | 12=>by decide
 | _+13=>by show 1 < 5;omega
def cmdK (x:ByteArray):Option Nat:=(List.range 18).find? fun k=>decide (ky k=x)
theorem cmdK_some {x:ByteArray} {k:Nat} (h:cmdK x=some k):k < 18/\ky k=x:=by
 have h1:=List.find?_some h
 have h2:=List.mem_of_find?_eq_some h
 exact⟨List.mem_range.1 h2,by simpa using h1⟩
theorem cmdK_ky {k:Nat} (hk:k < 18):cmdK (ky k)=some k:=by
 cases h:cmdK (ky k) with
 | none =>
  have:=List.find?_eq_none.1 h k (List.mem_range.2 hk)
  simp at this
 | some j =>
  obtain⟨h1,h2⟩:=cmdK_some h
  rw[ky_inj h1 hk h2]
def argsOf (f:Nat) (ws:List ByteArray):Option (Int×Int×Pk) :=
 match f,ws with
 | 0,[]=>some (0,0,noP)
 | 1,[a]=>if isS a then some (dv a,0,noP) else none
 | 2,[a]=>if isN a then some (0,dv a,noP) else none
 | 3,[a,b]=>if isS a && isN b then some (dv a,dv b,noP) else none
 | 4,ws=>(rdP ⟨(restL ws).toArray⟩).map fun p=>(0,0,p)
 | _,_=>none
def lnOf (x:ByteArray):Option (Nat×Int×Int×Pk) :=
 match words x 32 with
 | a::r=>(match cmdK a with | some k=>(argsOf (fmk k) r).map fun g=>(k,g) | none=>none)
 | []=>none
def okT:ByteArray:=⟨#[111,107]⟩
def itT (z:Int):ByteArray:=⟨(Lib.itoa z).toArray⟩
def pkT (p:Pk):ByteArray×Nat:=if pkErr p.pr p.a1 p.p1 p.a2 p.p2 p.fl=0 then (⟨(pText p.pr p.a1 p.p1 p.a2 p.p2 p.fl).toArray⟩,0) else (⟨#[]⟩,pkErr p.pr p.a1 p.p1 p.a2 p.p2 p.fl)
def pkD (e:Nat) (p:Pk):ByteArray×Nat:=if e=0 then pkT p else (⟨#[]⟩,e)
def shD (W:Wo) (n:Int) (g:No->Int):ByteArray×Nat:=if W.upE n=0 then (match W.nd n.toNat with | some y=>(itT (g y),0) | none=>(⟨#[]⟩,0)) else (⟨#[]⟩,W.upE n)
def doR (k:Nat) (n m:Int) (p:Pk) (W:Wo):(ByteArray×Nat)×Wo :=
 match k with
 | 0=>((okT,(wt n m.toNat W).1),(wt n m.toNat W).2)
 | 1=>((okT,W.ctE n m),W.cutted n m)
 | 2=>((okT,W.flE m),W.dlv m)
 | 3=>((okT,W.flE m),W.dropped m)
 | 4=>((okT,W.twE m),W.twiced m)
 | 5=>((okT,W.upE n),W.downed n)
 | 6=>((okT,W.roE n),W.upped n)
 | 7=>(pkD (W.inE p) (W.inP p),W.ins p)
 | 8=>(pkD (W.otE p) (W.otP p),W.ots p)
 | 9=>((itT W.fl.length,0),dla W.fl.length W)
 | 10=>((itT W.fl.length,0),W)
 | 11=>((swT W,0),W)
 | 12=>((evT W,0),W)
 | 13=>((acT W n,0),W)
 | 14=>(shD W n fun y=>(flL y.T 32).length,W)
 | 15=>(shD W n fun y=>(flL y.mt 32).length,W)
 | 16=>(shD W n fun y=>y.ro.ep,W)
 | _=>(shD W n fun y=>y.life,W)
def lnR (x:ByteArray) (W:Wo):(ByteArray×Nat)×Wo:=match lnOf x with
 | some (k,n,m,p)=>doR k n m p W
 | none=>((⟨#[]⟩,1),W)
def saidT (r:ByteArray×Nat):ByteArray:=match r.2 with | 0=>r.1 | e+1=>etx e
def scA:List ByteArray->Wo->List ByteArray
 | [],_=>[]
 | x::l,W=>saidT (lnR x W).1::scA l (lnR x W).2
def scW:List ByteArray->Wo->Wo
 | [],W=>W
 | x::l,W=>scW l (lnR x W).2
theorem scA_len:∀(l:List ByteArray) (W:Wo),(scA l W).length=l.length
 | [],_=>rfl
 | _::l,_=>congrArg (·+1) (scA_len l _)
theorem scW_snoc:∀(l:List ByteArray) (x:ByteArray) (W:Wo),scW (l++[x]) W=(lnR x (scW l W)).2/\scA (l++[x]) W=scA l W++[saidT (lnR x (scW l W)).1]
 | [],x,W=>⟨rfl,rfl⟩
 | y::l,x,W=>by
  obtain⟨h1,h2⟩:=scW_snoc l x (lnR y W).2
  exact⟨h1,congrArg (saidT (lnR y W).1::·) h2⟩
def cst (k:Nat) (m:Int):Nat:=if k=0 then m.toNat else 1
def lnC (x:ByteArray):Nat:=match lnOf x with
 | some (k,_,m,_)=>cst k m
 | none=>0
def scC:List ByteArray->Nat
 | []=>0
 | x::l=>lnC x+scC l
structure Okw (q:Nat) (W:Wo):Prop where
 i:In q W
 s:Sk q W
 r:RulesOk W.ru
theorem Okw.mono {q':Nat} (h:Okw q W) (hq:q<=q'):Okw q' W:=⟨h.i.mono hq,h.s.mono hq,h.r⟩
theorem Okw.born {l:List Rl} (hr:RulesOk l):Okw 1 (Wo.born l):=⟨In.born hr,Sk.born l,hr⟩
theorem tcd_ru (W:Wo) (n:Int):(W.tcd n).ru=W.ru:=by
 unfold Wo.tcd Wo.ticked Wo.noted Wo.sent Wo.fallen
 repeat' split
 all_goals rfl
theorem wt_ru (n:Int):∀(k:Nat) (W:Wo),(wt n k W).2.ru=W.ru
 | 0,_=>rfl
 | k+1,W=>by
  unfold wt
  split
  ·exact(wt_ru n k _).trans (tcd_ru W n)
  ·exact tcd_ru W n
theorem dlv_ru (W:Wo) (n:Int):(W.dlv n).ru=W.ru:=by
 unfold Wo.dlv Wo.delivered Wo.heard Wo.handed
 repeat' split
 all_goals rfl
theorem dla_ru (W:Wo):∀k,(dla k W).ru=W.ru
 | 0=>rfl
 | k+1=>(dlv_ru (dla k W) 0).trans (dla_ru W k)
theorem Okw.doR (h:Okw q W) (k:Nat) (n m:Int) (p:Pk) (hq:q+cst k m<=250000):Okw (q+cst k m) (doR k n m p W).2:=by
 match k,hq with
 | 0,hq =>
  have e:cst 0 m=m.toNat:=rfl
  rw[e]at hq ⊢
  exact⟨h.i.wt _ (by omega),h.s.wt _ h.i (by omega),by show RulesOk (wt n m.toNat W).2.ru;rw[wt_ru];exact h.r⟩
 | 1,_=>exact⟨(h.i.cut n m).mono (by omega),(h.s.cut n m).mono (by omega),by
   show RulesOk (W.cutted n m).ru
   unfold Wo.cutted
   repeat' split
   all_goals exact h.r⟩
 | 2,_=>exact⟨(h.i.dlv m).mono (by omega),(h.s.dlv h.i m).mono (by omega),by show RulesOk (W.dlv m).ru;rw[dlv_ru];exact h.r⟩
 | 3,_=>exact⟨(h.i.drop m).mono (by omega),(h.s.drop m).mono (by omega),by
   show RulesOk (W.dropped m).ru
   unfold Wo.dropped
   repeat' split
   all_goals exact h.r⟩
 | 4,_=>exact⟨(h.i.twiced m).mono (by omega),(h.s.twice m).mono (by omega),by show RulesOk (W.twiced m).ru;rw[(W.twiced_same m).2.2.1];exact h.r⟩
 | 5,_=>exact⟨(h.i.down n).mono (by omega),(h.s.down n).mono (by omega),by
   show RulesOk (W.downed n).ru
   unfold Wo.downed Wo.fallen
   repeat' split
   all_goals exact h.r⟩
 | 6,hq=>exact⟨h.i.upN (by omega) h.r n,(h.s.upN n).mono (by omega),by
   show RulesOk (W.upped n).ru
   unfold Wo.upped
   repeat' split
   all_goals exact h.r⟩
 | 7,_=>exact⟨(h.i.inside p).mono (by omega),(h.s.inside p).mono (by omega),by
   show RulesOk (W.ins p).ru
   unfold Wo.ins
   repeat' split
   all_goals exact h.r⟩
 | 8,_=>exact⟨(h.i.outside p).mono (by omega),(h.s.outside p).mono (by omega),by
   show RulesOk (W.ots p).ru
   unfold Wo.ots
   repeat' split
   all_goals exact h.r⟩
 | 9,_=>exact⟨(h.i.dla _).mono (by omega),(h.s.dla h.i _).mono (by omega),by show RulesOk (dla W.fl.length W).ru;rw[dla_ru];exact h.r⟩
 | 10,_ | 11,_ | 12,_ | 13,_ | 14,_ | 15,_ | 16,_=>exact h.mono (by omega)
 | _+17,_=>exact h.mono (by omega)
theorem Okw.lnR (h:Okw q W) (x:ByteArray) (hq:q+lnC x<=250000):Okw (q+lnC x) (lnR x W).2:=by
 unfold Go.Proofs.YtabndgfdbdjdgaaGreatDoor.lnR lnC at *
 cases hx:lnOf x with
 | none=>exact h
 | some g =>
  rw[hx]at hq
  exact h.doR _ _ _ _ hq
end
def fmS:Nat->ByteArray
 | 0=>⟨#[]⟩
 | 1=>⟨#[115]⟩
 | 2=>⟨#[110]⟩
 | 3=>⟨#[115,110]⟩
 | _=>⟨#[112]⟩
theorem tolist_inj {x:ByteArray} {l:List UInt8} (h:x.toList=l):x=⟨l.toArray⟩:=by
 rw[ByteArray.toList_eq]at h
 apply ByteArray.ext
 rw[<- h]
def fmO (x:ByteArray):ByteArray:=match cmdK x with | some k=>fmS (fmk k) | none=>⟨#[]⟩
theorem formOf_none (x:ByteArray) (w:World) (h:cmdK x=none):Calls Tryz.prog 9 #[.string x] w fun e w'=>e=.returned (.tuple #[.string ⟨#[]⟩,.bool false])/\w'=w:=by
 have hn:∀k,k < 18->x≠ky k:=fun k hk e=>by rw[e,cmdK_ky hk]at h;cases h
 have e0:(x.toList==[116,105,99,107])=false:=beq_eq_false_iff_ne.2 (fun e=>hn 0 (by omega) (tolist_inj e))
 have e1:(x.toList==[99,117,116])=false:=beq_eq_false_iff_ne.2 (fun e=>hn 1 (by omega) (tolist_inj e))
 have e2:(x.toList==[103,111])=false:=beq_eq_false_iff_ne.2 (fun e=>hn 2 (by omega) (tolist_inj e))
 have e3:(x.toList==[108,111,115,101])=false:=beq_eq_false_iff_ne.2 (fun e=>hn 3 (by omega) (tolist_inj e))
 have e4:(x.toList==[116,119,105,99,101])=false:=beq_eq_false_iff_ne.2 (fun e=>hn 4 (by omega) (tolist_inj e))
 have e5:(x.toList==[100,111,119,110])=false:=beq_eq_false_iff_ne.2 (fun e=>hn 5 (by omega) (tolist_inj e))
 have e6:(x.toList==[117,112])=false:=beq_eq_false_iff_ne.2 (fun e=>hn 6 (by omega) (tolist_inj e))
 have e7:(x.toList==[105,110,115,105,100,101])=false:=beq_eq_false_iff_ne.2 (fun e=>hn 7 (by omega) (tolist_inj e))
 have e8:(x.toList==[111,117,116,115,105,100,101])=false:=beq_eq_false_iff_ne.2 (fun e=>hn 8 (by omega) (tolist_inj e))
 have e9:(x.toList==[97,108,108])=false:=beq_eq_false_iff_ne.2 (fun e=>hn 9 (by omega) (tolist_inj e))
 have e10:(x.toList==[102,108,121])=false:=beq_eq_false_iff_ne.2 (fun e=>hn 10 (by omega) (tolist_inj e))
 have e11:(x.toList==[115,119,105,116,99,104])=false:=beq_eq_false_iff_ne.2 (fun e=>hn 11 (by omega) (tolist_inj e))
 have e12:(x.toList==[101,118,101,110,116,115])=false:=beq_eq_false_iff_ne.2 (fun e=>hn 12 (by omega) (tolist_inj e))
 have e13:(x.toList==[97,99,116,105,118,101])=false:=beq_eq_false_iff_ne.2 (fun e=>hn 13 (by omega) (tolist_inj e))
 have e14:(x.toList==[102,108,111,119,115])=false:=beq_eq_false_iff_ne.2 (fun e=>hn 14 (by omega) (tolist_inj e))
 have e15:(x.toList==[109,105,114,114,111,114])=false:=beq_eq_false_iff_ne.2 (fun e=>hn 15 (by omega) (tolist_inj e))
 have e16:(x.toList==[101,112,111,99,104])=false:=beq_eq_false_iff_ne.2 (fun e=>hn 16 (by omega) (tolist_inj e))
 have e17:(x.toList==[108,105,102,101])=false:=beq_eq_false_iff_ne.2 (fun e=>hn 17 (by omega) (tolist_inj e))
 clear h hn
 go_enter Tryz.func9,Tryz.ntmps9
 go_wp2_with fail
 go_ret2
 exact⟨rfl,rfl⟩
theorem formOf_some (k:Nat) (hk:k < 18) (w:World):Calls Tryz.prog 9 #[.string (ky k)] w fun e w'=>e=.returned (.tuple #[.string (fmS (fmk k)),.bool true])/\w'=w:=by
 have h:k=0\/k=1\/k=2\/k=3\/k=4\/k=5\/k=6\/k=7\/k=8\/k=9\/k=10\/k=11\/k=12\/k=13\/k=14\/k=15\/k=16\/k=17:=by omega
 clear hk
 rcases h with rfl | rfl | rfl | rfl | rfl | rfl | rfl | rfl | rfl | rfl | rfl | rfl | rfl | rfl | rfl | rfl | rfl | rfl
 all_goals
  simp only[ky,fmk,fmS]
  go_enter Tryz.func9,Tryz.ntmps9
  go_wp2_with fail
  go_ret2
  exact⟨rfl,rfl⟩
theorem formOf_any (x:ByteArray) (w:World):Calls Tryz.prog 9 #[.string x] w fun e w'=>e=.returned (.tuple #[.string (fmO x),.bool (cmdK x).isSome])/\w'=w:=by
 unfold fmO
 cases h:cmdK x with
 | none=>exact formOf_none x w h
 | some k =>
  obtain⟨h1,rfl⟩:=cmdK_some h
  exact formOf_some k h1 w
section
variable {w:World} {x:Nat} {rc:Option Addr}
theorem do_all (n m:Int) (p:Pk) {R:ByteArray->World->Prop} (cx:w.cell? ⟨x,0,none⟩=some (.func (.func 62) #[] #[.pointer rc]))
  (C:Calls Tryz.prog 62 #[.pointer rc] (w.alloc (argB n m p)) fun e w'=>∃sx,e=.returned (.string sx)/\R sx w') :
  Calls Tryz.prog 118 #[argV n m p,.pointer (some ⟨x,0,none⟩)] w fun e w'=>∃sx,e=.returned (.tuple #[.string sx,.nilIface])/\R sx w':=by
 have hx:x < w.heap.size:=tlt cx
 have HC:Hid (Calls Tryz.prog 62 #[.pointer rc] (w.alloc (argB n m p)) fun e w'=>∃sx,e=.returned (.string sx)/\R sx w'):=C
 clear C
 unfold argV
 unfold argB at HC
 go_enter Tryz.func118,Tryz.ntmps118
 go_wp2_with fail
 refine HC.out.mono ?_
 rintro e w2 ⟨sx,rfl,hr⟩
 have HR:Hid (R sx w2):=hr
 clear hr HC
 go_wp2_with fail
 exact bodyPost_ret (v:=.tuple #[.string sx,.nilIface]) (by simp[results,Tryz.results118,go_sem]) rfl ⟨sx,rfl,HR.out⟩
theorem do_fly (n m:Int) (p:Pk) {R:ByteArray->World->Prop} (cx:w.cell? ⟨x,0,none⟩=some (.func (.func 65) #[] #[.pointer rc]))
  (C:Calls Tryz.prog 65 #[.pointer rc] (w.alloc (argB n m p)) fun e w'=>∃sx,e=.returned (.string sx)/\R sx w') :
  Calls Tryz.prog 118 #[argV n m p,.pointer (some ⟨x,0,none⟩)] w fun e w'=>∃sx,e=.returned (.tuple #[.string sx,.nilIface])/\R sx w':=by
 have hx:x < w.heap.size:=tlt cx
 have HC:Hid (Calls Tryz.prog 65 #[.pointer rc] (w.alloc (argB n m p)) fun e w'=>∃sx,e=.returned (.string sx)/\R sx w'):=C
 clear C
 unfold argV
 unfold argB at HC
 go_enter Tryz.func118,Tryz.ntmps118
 go_wp2_with fail
 refine HC.out.mono ?_
 rintro e w2 ⟨sx,rfl,hr⟩
 have HR:Hid (R sx w2):=hr
 clear hr HC
 go_wp2_with fail
 exact bodyPost_ret (v:=.tuple #[.string sx,.nilIface]) (by simp[results,Tryz.results118,go_sem]) rfl ⟨sx,rfl,HR.out⟩
theorem do_switch (n m:Int) (p:Pk) {R:ByteArray->World->Prop} (cx:w.cell? ⟨x,0,none⟩=some (.func (.func 67) #[.pointer rc] #[]))
  (C:Calls Tryz.prog 67 #[.pointer rc] (w.alloc (argB n m p)) fun e w'=>∃sx,e=.returned (.string sx)/\R sx w') :
  Calls Tryz.prog 118 #[argV n m p,.pointer (some ⟨x,0,none⟩)] w fun e w'=>∃sx,e=.returned (.tuple #[.string sx,.nilIface])/\R sx w':=by
 have hx:x < w.heap.size:=tlt cx
 have HC:Hid (Calls Tryz.prog 67 #[.pointer rc] (w.alloc (argB n m p)) fun e w'=>∃sx,e=.returned (.string sx)/\R sx w'):=C
 clear C
 unfold argV
 unfold argB at HC
 go_enter Tryz.func118,Tryz.ntmps118
 go_wp2_with fail
 refine HC.out.mono ?_
 rintro e w2 ⟨sx,rfl,hr⟩
 have HR:Hid (R sx w2):=hr
 clear hr HC
 go_wp2_with fail
 exact bodyPost_ret (v:=.tuple #[.string sx,.nilIface]) (by simp[results,Tryz.results118,go_sem]) rfl ⟨sx,rfl,HR.out⟩
theorem do_events (n m:Int) (p:Pk) {R:ByteArray->World->Prop} (cx:w.cell? ⟨x,0,none⟩=some (.func (.func 68) #[.pointer rc] #[]))
  (C:Calls Tryz.prog 68 #[.pointer rc] (w.alloc (argB n m p)) fun e w'=>∃sx,e=.returned (.string sx)/\R sx w') :
  Calls Tryz.prog 118 #[argV n m p,.pointer (some ⟨x,0,none⟩)] w fun e w'=>∃sx,e=.returned (.tuple #[.string sx,.nilIface])/\R sx w':=by
 have hx:x < w.heap.size:=tlt cx
 have HC:Hid (Calls Tryz.prog 68 #[.pointer rc] (w.alloc (argB n m p)) fun e w'=>∃sx,e=.returned (.string sx)/\R sx w'):=C
 clear C
 unfold argV
 unfold argB at HC
 go_enter Tryz.func118,Tryz.ntmps118
 go_wp2_with fail
 refine HC.out.mono ?_
 rintro e w2 ⟨sx,rfl,hr⟩
 have HR:Hid (R sx w2):=hr
 clear hr HC
 go_wp2_with fail
 exact bodyPost_ret (v:=.tuple #[.string sx,.nilIface]) (by simp[results,Tryz.results118,go_sem]) rfl ⟨sx,rfl,HR.out⟩
end
section
variable {w:World} {x y:Nat} {rc:Option Addr}
theorem do_flows (n m:Int) (p:Pk) {RE:Value->World->Prop} {RO:Addr->World->Prop} {RT:ByteArray->World->Prop} (cx:w.cell? ⟨x,0,none⟩=some (.func (.func 72) #[.pointer rc] #[]))
  (C:Calls Tryz.prog 72 #[.pointer rc,.int .i64 n] (w.alloc (argB n m p)) fun e w'=>(∃(v:Value) (a:TypeId) (c:Value),e=.returned (.tuple #[v,.iface a c])/\RE (.iface a c) w')\/(∃g:Addr,e=.returned (.tuple #[.pointer (some g),.nilIface])/\RO g w'))
  (O:∀(g:Addr) u,RO g u->Calls Tryz.prog 73 #[.pointer (some g)] u fun e u2=>∃z:Int,e=.returned (.int .i64 z) /\ -9223372036854775808<=z/\z<=9223372036854775807/\Pow u2/\∀u3,Below u2.heap.size u2 u3->RT ⟨(Lib.itoa z).toArray⟩ u3)
  (cy2:∀g u,RO g u->u.cell? ⟨y,0,none⟩=some (.func (.func 73) #[] #[])) :
  Calls Tryz.prog 124 #[argV n m p,.pointer (some ⟨x,0,none⟩),.pointer (some ⟨y,0,none⟩)] w fun e w'=>(∃r,e=.returned (.tuple #[.string ⟨#[]⟩,r])/\RE r w')\/∃sx,e=.returned (.tuple #[.string sx,.nilIface])/\RT sx w':=by
 have hx:x < w.heap.size:=tlt cx
 have HC:Hid (Calls Tryz.prog 72 #[.pointer rc,.int .i64 n] (w.alloc (argB n m p)) fun e w'=>(∃(v:Value) (a:TypeId) (c:Value),e=.returned (.tuple #[v,.iface a c])/\RE (.iface a c) w')\/(∃g:Addr,e=.returned (.tuple #[.pointer (some g),.nilIface])/\RO g w')):=C
 have HO:Hid (∀(g:Addr) u,RO g u->Calls Tryz.prog 73 #[.pointer (some g)] u fun e u2=>∃z:Int,e=.returned (.int .i64 z) /\ -9223372036854775808<=z/\z<=9223372036854775807/\Pow u2/\∀u3,Below u2.heap.size u2 u3->RT ⟨(Lib.itoa z).toArray⟩ u3):=O
 have HY:Hid (∀g u,RO g u->u.cell? ⟨y,0,none⟩=some (.func (.func 73) #[] #[])):=cy2
 clear C O cy2
 unfold argV
 unfold argB at HC
 go_enter Tryz.func124,Tryz.ntmps124
 go_wp2_with fail
 refine HC.out.mono ?_
 rintro e w2 (⟨v,a,c,rfl,hr⟩ | ⟨g,rfl,hr⟩)
 ·have HR:Hid (RE (.iface a c) w2):=hr
  clear hr HC HO HY
  go_wp2_with fail
  exact bodyPost_ret (v:=.tuple #[.string ⟨#[]⟩,.iface a c]) (by simp[results,Tryz.results124,go_sem]) rfl (.inl ⟨_,rfl,HR.out⟩)
 ·have HR:Hid (RO g w2):=hr
  have cy:=HY.out g w2 hr
  clear hr HC HY
  go_wp2_with fail
  refine(HO.out g w2 HR.out).mono ?_
  rintro e w3 ⟨z,rfl,z0,z1,hp,hr⟩
  have H3:Hid (Pow w3/\∀u3,Below w3.heap.size w3 u3->RT ⟨(Lib.itoa z).toArray⟩ u3):=⟨hp,hr⟩
  clear hp hr cy
  go_wp2_with fail
  refine(itoa_any z z0 z1 w3 H3.out.1).mono ?_
  rintro e w4 ⟨rfl,b4⟩
  have H4:Hid (RT ⟨(Lib.itoa z).toArray⟩ w4):=H3.out.2 w4 b4
  clear b4
  go_wp2_with fail
  exact bodyPost_ret (v:=.tuple #[.string ⟨(Lib.itoa z).toArray⟩,.nilIface]) (by simp[results,Tryz.results124,go_sem]) rfl (.inr ⟨_,rfl,H4.out⟩)
theorem do_mirror (n m:Int) (p:Pk) {RE:Value->World->Prop} {RO:Addr->World->Prop} {RT:ByteArray->World->Prop} (cx:w.cell? ⟨x,0,none⟩=some (.func (.func 72) #[.pointer rc] #[]))
  (C:Calls Tryz.prog 72 #[.pointer rc,.int .i64 n] (w.alloc (argB n m p)) fun e w'=>(∃(v:Value) (a:TypeId) (c:Value),e=.returned (.tuple #[v,.iface a c])/\RE (.iface a c) w')\/(∃g:Addr,e=.returned (.tuple #[.pointer (some g),.nilIface])/\RO g w'))
  (O:∀(g:Addr) u,RO g u->Calls Tryz.prog 76 #[.pointer (some g)] u fun e u2=>∃z:Int,e=.returned (.int .i64 z) /\ -9223372036854775808<=z/\z<=9223372036854775807/\Pow u2/\∀u3,Below u2.heap.size u2 u3->RT ⟨(Lib.itoa z).toArray⟩ u3)
  (cy2:∀g u,RO g u->u.cell? ⟨y,0,none⟩=some (.func (.func 76) #[] #[])) :
  Calls Tryz.prog 124 #[argV n m p,.pointer (some ⟨x,0,none⟩),.pointer (some ⟨y,0,none⟩)] w fun e w'=>(∃r,e=.returned (.tuple #[.string ⟨#[]⟩,r])/\RE r w')\/∃sx,e=.returned (.tuple #[.string sx,.nilIface])/\RT sx w':=by
 have hx:x < w.heap.size:=tlt cx
 have HC:Hid (Calls Tryz.prog 72 #[.pointer rc,.int .i64 n] (w.alloc (argB n m p)) fun e w'=>(∃(v:Value) (a:TypeId) (c:Value),e=.returned (.tuple #[v,.iface a c])/\RE (.iface a c) w')\/(∃g:Addr,e=.returned (.tuple #[.pointer (some g),.nilIface])/\RO g w')):=C
 have HO:Hid (∀(g:Addr) u,RO g u->Calls Tryz.prog 76 #[.pointer (some g)] u fun e u2=>∃z:Int,e=.returned (.int .i64 z) /\ -9223372036854775808<=z/\z<=9223372036854775807/\Pow u2/\∀u3,Below u2.heap.size u2 u3->RT ⟨(Lib.itoa z).toArray⟩ u3):=O
 have HY:Hid (∀g u,RO g u->u.cell? ⟨y,0,none⟩=some (.func (.func 76) #[] #[])):=cy2
 clear C O cy2
 unfold argV
 unfold argB at HC
 go_enter Tryz.func124,Tryz.ntmps124
 go_wp2_with fail
 refine HC.out.mono ?_
 rintro e w2 (⟨v,a,c,rfl,hr⟩ | ⟨g,rfl,hr⟩)
 ·have HR:Hid (RE (.iface a c) w2):=hr
  clear hr HC HO HY
  go_wp2_with fail
  exact bodyPost_ret (v:=.tuple #[.string ⟨#[]⟩,.iface a c]) (by simp[results,Tryz.results124,go_sem]) rfl (.inl ⟨_,rfl,HR.out⟩)
 ·have HR:Hid (RO g w2):=hr
  have cy:=HY.out g w2 hr
  clear hr HC HY
  go_wp2_with fail
  refine(HO.out g w2 HR.out).mono ?_
  rintro e w3 ⟨z,rfl,z0,z1,hp,hr⟩
  have H3:Hid (Pow w3/\∀u3,Below w3.heap.size w3 u3->RT ⟨(Lib.itoa z).toArray⟩ u3):=⟨hp,hr⟩
  clear hp hr cy
  go_wp2_with fail
  refine(itoa_any z z0 z1 w3 H3.out.1).mono ?_
  rintro e w4 ⟨rfl,b4⟩
  have H4:Hid (RT ⟨(Lib.itoa z).toArray⟩ w4):=H3.out.2 w4 b4
  clear b4
  go_wp2_with fail
  exact bodyPost_ret (v:=.tuple #[.string ⟨(Lib.itoa z).toArray⟩,.nilIface]) (by simp[results,Tryz.results124,go_sem]) rfl (.inr ⟨_,rfl,H4.out⟩)
theorem do_epoch (n m:Int) (p:Pk) {RE:Value->World->Prop} {RO:Addr->World->Prop} {RT:ByteArray->World->Prop} (cx:w.cell? ⟨x,0,none⟩=some (.func (.func 72) #[.pointer rc] #[]))
  (C:Calls Tryz.prog 72 #[.pointer rc,.int .i64 n] (w.alloc (argB n m p)) fun e w'=>(∃(v:Value) (a:TypeId) (c:Value),e=.returned (.tuple #[v,.iface a c])/\RE (.iface a c) w')\/(∃g:Addr,e=.returned (.tuple #[.pointer (some g),.nilIface])/\RO g w'))
  (O:∀(g:Addr) u,RO g u->Calls Tryz.prog 78 #[.pointer (some g)] u fun e u2=>∃z:Int,e=.returned (.int .i64 z) /\ -9223372036854775808<=z/\z<=9223372036854775807/\Pow u2/\∀u3,Below u2.heap.size u2 u3->RT ⟨(Lib.itoa z).toArray⟩ u3)
  (cy2:∀g u,RO g u->u.cell? ⟨y,0,none⟩=some (.func (.func 78) #[] #[])) :
  Calls Tryz.prog 124 #[argV n m p,.pointer (some ⟨x,0,none⟩),.pointer (some ⟨y,0,none⟩)] w fun e w'=>(∃r,e=.returned (.tuple #[.string ⟨#[]⟩,r])/\RE r w')\/∃sx,e=.returned (.tuple #[.string sx,.nilIface])/\RT sx w':=by
 have hx:x < w.heap.size:=tlt cx
 have HC:Hid (Calls Tryz.prog 72 #[.pointer rc,.int .i64 n] (w.alloc (argB n m p)) fun e w'=>(∃(v:Value) (a:TypeId) (c:Value),e=.returned (.tuple #[v,.iface a c])/\RE (.iface a c) w')\/(∃g:Addr,e=.returned (.tuple #[.pointer (some g),.nilIface])/\RO g w')):=C
 have HO:Hid (∀(g:Addr) u,RO g u->Calls Tryz.prog 78 #[.pointer (some g)] u fun e u2=>∃z:Int,e=.returned (.int .i64 z) /\ -9223372036854775808<=z/\z<=9223372036854775807/\Pow u2/\∀u3,Below u2.heap.size u2 u3->RT ⟨(Lib.itoa z).toArray⟩ u3):=O
 have HY:Hid (∀g u,RO g u->u.cell? ⟨y,0,none⟩=some (.func (.func 78) #[] #[])):=cy2
 clear C O cy2
 unfold argV
 unfold argB at HC
 go_enter Tryz.func124,Tryz.ntmps124
 go_wp2_with fail
 refine HC.out.mono ?_
 rintro e w2 (⟨v,a,c,rfl,hr⟩ | ⟨g,rfl,hr⟩)
 ·have HR:Hid (RE (.iface a c) w2):=hr
  clear hr HC HO HY
  go_wp2_with fail
  exact bodyPost_ret (v:=.tuple #[.string ⟨#[]⟩,.iface a c]) (by simp[results,Tryz.results124,go_sem]) rfl (.inl ⟨_,rfl,HR.out⟩)
 ·have HR:Hid (RO g w2):=hr
  have cy:=HY.out g w2 hr
  clear hr HC HY
  go_wp2_with fail
  refine(HO.out g w2 HR.out).mono ?_
  rintro e w3 ⟨z,rfl,z0,z1,hp,hr⟩
  have H3:Hid (Pow w3/\∀u3,Below w3.heap.size w3 u3->RT ⟨(Lib.itoa z).toArray⟩ u3):=⟨hp,hr⟩
  clear hp hr cy
  go_wp2_with fail
  refine(itoa_any z z0 z1 w3 H3.out.1).mono ?_
  rintro e w4 ⟨rfl,b4⟩
  have H4:Hid (RT ⟨(Lib.itoa z).toArray⟩ w4):=H3.out.2 w4 b4
  clear b4
  go_wp2_with fail
  exact bodyPost_ret (v:=.tuple #[.string ⟨(Lib.itoa z).toArray⟩,.nilIface]) (by simp[results,Tryz.results124,go_sem]) rfl (.inr ⟨_,rfl,H4.out⟩)
theorem do_life (n m:Int) (p:Pk) {RE:Value->World->Prop} {RO:Addr->World->Prop} {RT:ByteArray->World->Prop} (cx:w.cell? ⟨x,0,none⟩=some (.func (.func 72) #[.pointer rc] #[]))
  (C:Calls Tryz.prog 72 #[.pointer rc,.int .i64 n] (w.alloc (argB n m p)) fun e w'=>(∃(v:Value) (a:TypeId) (c:Value),e=.returned (.tuple #[v,.iface a c])/\RE (.iface a c) w')\/(∃g:Addr,e=.returned (.tuple #[.pointer (some g),.nilIface])/\RO g w'))
  (O:∀(g:Addr) u,RO g u->Calls Tryz.prog 80 #[.pointer (some g)] u fun e u2=>∃z:Int,e=.returned (.int .i64 z) /\ -9223372036854775808<=z/\z<=9223372036854775807/\Pow u2/\∀u3,Below u2.heap.size u2 u3->RT ⟨(Lib.itoa z).toArray⟩ u3)
  (cy2:∀g u,RO g u->u.cell? ⟨y,0,none⟩=some (.func (.func 80) #[] #[])) :
  Calls Tryz.prog 124 #[argV n m p,.pointer (some ⟨x,0,none⟩),.pointer (some ⟨y,0,none⟩)] w fun e w'=>(∃r,e=.returned (.tuple #[.string ⟨#[]⟩,r])/\RE r w')\/∃sx,e=.returned (.tuple #[.string sx,.nilIface])/\RT sx w':=by
 have hx:x < w.heap.size:=tlt cx
 have HC:Hid (Calls Tryz.prog 72 #[.pointer rc,.int .i64 n] (w.alloc (argB n m p)) fun e w'=>(∃(v:Value) (a:TypeId) (c:Value),e=.returned (.tuple #[v,.iface a c])/\RE (.iface a c) w')\/(∃g:Addr,e=.returned (.tuple #[.pointer (some g),.nilIface])/\RO g w')):=C
 have HO:Hid (∀(g:Addr) u,RO g u->Calls Tryz.prog 80 #[.pointer (some g)] u fun e u2=>∃z:Int,e=.returned (.int .i64 z) /\ -9223372036854775808<=z/\z<=9223372036854775807/\Pow u2/\∀u3,Below u2.heap.size u2 u3->RT ⟨(Lib.itoa z).toArray⟩ u3):=O
 have HY:Hid (∀g u,RO g u->u.cell? ⟨y,0,none⟩=some (.func (.func 80) #[] #[])):=cy2
 clear C O cy2
 unfold argV
 unfold argB at HC
 go_enter Tryz.func124,Tryz.ntmps124
 go_wp2_with fail
 refine HC.out.mono ?_
 rintro e w2 (⟨v,a,c,rfl,hr⟩ | ⟨g,rfl,hr⟩)
 ·have HR:Hid (RE (.iface a c) w2):=hr
  clear hr HC HO HY
  go_wp2_with fail
  exact bodyPost_ret (v:=.tuple #[.string ⟨#[]⟩,.iface a c]) (by simp[results,Tryz.results124,go_sem]) rfl (.inl ⟨_,rfl,HR.out⟩)
 ·have HR:Hid (RO g w2):=hr
  have cy:=HY.out g w2 hr
  clear hr HC HY
  go_wp2_with fail
  refine(HO.out g w2 HR.out).mono ?_
  rintro e w3 ⟨z,rfl,z0,z1,hp,hr⟩
  have H3:Hid (Pow w3/\∀u3,Below w3.heap.size w3 u3->RT ⟨(Lib.itoa z).toArray⟩ u3):=⟨hp,hr⟩
  clear hp hr cy
  go_wp2_with fail
  refine(itoa_any z z0 z1 w3 H3.out.1).mono ?_
  rintro e w4 ⟨rfl,b4⟩
  have H4:Hid (RT ⟨(Lib.itoa z).toArray⟩ w4):=H3.out.2 w4 b4
  clear b4
  go_wp2_with fail
  exact bodyPost_ret (v:=.tuple #[.string ⟨(Lib.itoa z).toArray⟩,.nilIface]) (by simp[results,Tryz.results124,go_sem]) rfl (.inr ⟨_,rfl,H4.out⟩)
end
theorem do_inside {w:World} {x:Nat} {rc:Option Addr} (n m:Int) (p:Pk) {RE:Value->World->Prop} {RO:Pk->World->Prop} {RT:ByteArray->Value->World->Prop} (cx:w.cell? ⟨x,0,none⟩=some (.func (.func 59) #[.pointer rc] #[]))
  (C:Calls Tryz.prog 59 #[.pointer rc,p.v] (w.alloc (argB n m p)) fun e w'=>(∃(q:Pk) (a:TypeId) (c:Value),e=.returned (.tuple #[q.v,.iface a c])/\∀u,Below w'.heap.size w' u->RE (.iface a c) u)\/(∃q:Pk,e=.returned (.tuple #[q.v,.nilIface])/\RO q w'))
  (T:∀(q:Pk) u,RO q u->∀u2,Below u.heap.size u u2->Calls Tryz.prog 22 #[q.v] u2 fun e w3=>∃sx ex,e=.returned (.tuple #[.string sx,ex])/\RT sx ex w3) :
  Calls Tryz.prog 114 #[argV n m p,.pointer (some ⟨x,0,none⟩)] w fun e w'=>(∃r,e=.returned (.tuple #[.string ⟨#[]⟩,r])/\RE r w')\/∃sx ex,e=.returned (.tuple #[.string sx,ex])/\RT sx ex w':=by
 have hx:x < w.heap.size:=tlt cx
 have HC:Hid (Calls Tryz.prog 59 #[.pointer rc,p.v] (w.alloc (argB n m p)) fun e w'=>(∃(q:Pk) (a:TypeId) (c:Value),e=.returned (.tuple #[q.v,.iface a c])/\∀u,Below w'.heap.size w' u->RE (.iface a c) u)\/(∃q:Pk,e=.returned (.tuple #[q.v,.nilIface])/\RO q w')):=C
 have HT:Hid (∀(q:Pk) u,RO q u->∀u2,Below u.heap.size u u2->Calls Tryz.prog 22 #[q.v] u2 fun e w3=>∃sx ex,e=.returned (.tuple #[.string sx,ex])/\RT sx ex w3):=T
 clear C T
 unfold argV
 unfold argB Pk.v at HC
 unfold Pk.v at HT
 go_enter Tryz.func114,Tryz.ntmps114
 go_wp2_with fail
 refine HC.out.mono ?_
 rintro e w2 (⟨q,a,c,rfl,hr⟩ | ⟨q,rfl,hr⟩)
 ·have HR:Hid (∀u,Below w2.heap.size w2 u->RE (.iface a c) u):=hr
  clear hr HC HT
  go_wp2_with fail
  exact bodyPost_ret (v:=.tuple #[.string ⟨#[]⟩,.iface a c]) (by simp[results,Tryz.results114,go_sem]) rfl (.inl ⟨_,rfl,HR.out _ (aB _ _)⟩)
 ·have HR:Hid (RO q w2):=hr
  clear hr HC
  go_wp2_with fail
  refine(HT.out q w2 HR.out _ (aB _ _)).mono ?_
  rintro e w3 ⟨sx,ex,rfl,hr⟩
  have HX:Hid (RT sx ex w3):=hr
  clear hr HT HR
  go_wp2_with fail
  exact bodyPost_ret (v:=.tuple #[.string sx,ex]) (by simp[results,Tryz.results114,go_sem]) rfl (.inr ⟨_,_,rfl,HX.out⟩)
theorem do_outside {w:World} {x:Nat} {rc:Option Addr} (n m:Int) (p:Pk) {RE:Value->World->Prop} {RO:Pk->World->Prop} {RT:ByteArray->Value->World->Prop} (cx:w.cell? ⟨x,0,none⟩=some (.func (.func 60) #[.pointer rc] #[]))
  (C:Calls Tryz.prog 60 #[.pointer rc,p.v] (w.alloc (argB n m p)) fun e w'=>(∃(q:Pk) (a:TypeId) (c:Value),e=.returned (.tuple #[q.v,.iface a c])/\∀u,Below w'.heap.size w' u->RE (.iface a c) u)\/(∃q:Pk,e=.returned (.tuple #[q.v,.nilIface])/\RO q w'))
  (T:∀(q:Pk) u,RO q u->∀u2,Below u.heap.size u u2->Calls Tryz.prog 22 #[q.v] u2 fun e w3=>∃sx ex,e=.returned (.tuple #[.string sx,ex])/\RT sx ex w3) :
  Calls Tryz.prog 114 #[argV n m p,.pointer (some ⟨x,0,none⟩)] w fun e w'=>(∃r,e=.returned (.tuple #[.string ⟨#[]⟩,r])/\RE r w')\/∃sx ex,e=.returned (.tuple #[.string sx,ex])/\RT sx ex w':=by
 have hx:x < w.heap.size:=tlt cx
 have HC:Hid (Calls Tryz.prog 60 #[.pointer rc,p.v] (w.alloc (argB n m p)) fun e w'=>(∃(q:Pk) (a:TypeId) (c:Value),e=.returned (.tuple #[q.v,.iface a c])/\∀u,Below w'.heap.size w' u->RE (.iface a c) u)\/(∃q:Pk,e=.returned (.tuple #[q.v,.nilIface])/\RO q w')):=C
 have HT:Hid (∀(q:Pk) u,RO q u->∀u2,Below u.heap.size u u2->Calls Tryz.prog 22 #[q.v] u2 fun e w3=>∃sx ex,e=.returned (.tuple #[.string sx,ex])/\RT sx ex w3):=T
 clear C T
 unfold argV
 unfold argB Pk.v at HC
 unfold Pk.v at HT
 go_enter Tryz.func114,Tryz.ntmps114
 go_wp2_with fail
 refine HC.out.mono ?_
 rintro e w2 (⟨q,a,c,rfl,hr⟩ | ⟨q,rfl,hr⟩)
 ·have HR:Hid (∀u,Below w2.heap.size w2 u->RE (.iface a c) u):=hr
  clear hr HC HT
  go_wp2_with fail
  exact bodyPost_ret (v:=.tuple #[.string ⟨#[]⟩,.iface a c]) (by simp[results,Tryz.results114,go_sem]) rfl (.inl ⟨_,rfl,HR.out _ (aB _ _)⟩)
 ·have HR:Hid (RO q w2):=hr
  clear hr HC
  go_wp2_with fail
  refine(HT.out q w2 HR.out _ (aB _ _)).mono ?_
  rintro e w3 ⟨sx,ex,rfl,hr⟩
  have HX:Hid (RT sx ex w3):=hr
  clear hr HT HR
  go_wp2_with fail
  exact bodyPost_ret (v:=.tuple #[.string sx,ex]) (by simp[results,Tryz.results114,go_sem]) rfl (.inr ⟨_,_,rfl,HX.out⟩)
end Go.Proofs.YtabndgfdbdjdgaaGreatDoor
