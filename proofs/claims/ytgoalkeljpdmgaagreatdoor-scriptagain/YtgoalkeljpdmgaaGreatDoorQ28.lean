/-
  What the claimed theorem reaches, part Q28.
-/
import Derived.Test.YtgoalkeljpdmgaaGreatDoorQ27
import Derived.Test.YtgoalkeljpdmgaaGreatDoorQ00
namespace Go.Proofs.YtgoalkeljpdmgaaGreatDoor
open Go.RowKit
set_option maxRecDepth 100000
set_option maxHeartbeats 8000000
section
variable {w0 w w':World} {f:Nat->Int} {ws:List ByteArray}
def parseP (x:ByteArray):Option (Int×Int×Int×Int×Int×Int) :=
 match words x 32 with
 | [a,b,c]=>if a=⟨#[117,100,112]⟩ then (pe b.data.toList).bind fun s=>(pe c.data.toList).map fun d=>(1,s.1,s.2,d.1,d.2,0) else none
 | [a,b,c,f]=>if a=⟨#[116,99,112]⟩ then (pe b.data.toList).bind fun s=>(pe c.data.toList).bind fun d=>(pf f).map fun g=>(2,s.1,s.2,d.1,d.2,g) else none
 | _=>none
structure Prs (w0 w:World) (f:Nat->Int) (ws:List ByteArray):Prop where
 r:Six w w0.heap.size (fun _=>0)
 p:Six w (w0.heap.size+1) f
 c:∀(j:Nat) y,ws[j]? = some y->w.cell? ⟨w0.heap.size+1+1,j,none⟩=some (.string y)
 b:Below w0.heap.size w0 w
theorem Prs.below (d:Prs w0 w f ws) (h:Below w.heap.size w w'):Prs w0 w' f ws :=
 ⟨d.r.below h,d.p.below h,fun j y hy=>below_keeps h (d.c j y hy),d.b.trans (h.mono d.b.size)⟩
theorem Prs.set {i:Nat} (d:Prs w0 w f ws) (hi:i < 6) (v:Int):Prs w0 (w.setCell ⟨w0.heap.size+1,i,none⟩ (.int .i64 v)) (updP f i v) ws :=
 ⟨d.r.other (by omega) _,d.p.set hi v,fun j y hy=>by rw[World.cell?_setCell_other _ _ _ _ (by simp)];exact d.c j y hy,d.b.setCell (by simp) _⟩
theorem Prs.drewN (d:Prs w0 w f ws) (n:Nat):Prs w0 (w.drewN n) f ws:=d.below (drewN_below _ _)
theorem Prs.wr {r:Int} (d:Prs w0 w f ws) (h:Wr w w' (w0.heap.size+1) 5 r):Prs w0 w' (updP f 5 r) ws where
 r:=⟨fun j hj=>(h.k ⟨w0.heap.size,j,none⟩ (block_lt (d.r.c j hj)) (fun e=>by have:=congrArg Addr.block e;simp at this)).trans (d.r.c j hj),fun j hj=>(h.z ⟨w0.heap.size,j,none⟩ (block_lt (d.r.c j hj))).trans (d.r.cf j hj)⟩
 p:=⟨fun j hj=>by
   by_cases e:j=5
   ·subst e;rw[h.c];simp[updP]
   ·rw[h.k ⟨w0.heap.size+1,j,none⟩ (block_lt (d.p.c j hj)) (fun e'=>e (congrArg Addr.off e')),d.p.c j hj];simp[updP,e],
  fun j hj=>(h.z ⟨w0.heap.size+1,j,none⟩ (block_lt (d.p.c j hj))).trans (d.p.cf j hj)⟩
 c:=fun j y hy=>(h.k ⟨w0.heap.size+1+1,j,none⟩ (block_lt (d.c j y hy)) (fun e=>by have:=congrArg Addr.block e;simp at this)).trans (d.c j y hy)
 b:=d.b.grown h.g d.b.size (fun k hk=>by cases hk;omega)
theorem Prs.grown (d:Prs w0 w f ws) (h:w.grownBy w' (some (w0.heap.size+1))):Six w' w0.heap.size (fun _=>0)/\Below w0.heap.size w0 w':=by
 refine⟨⟨fun j hj=>?_,fun j hj=>?_⟩,d.b.grown h d.b.size (fun k hk=>by cases hk;omega)⟩
 ·rw[World.cell?_of_block (w:=w) (h.block w0.heap.size (block_lt (d.r.c j hj)) (by simp))];exact d.r.c j hj
 ·rw[World.frozen?_of_block (w:=w) (h.block w0.heap.size (block_lt (d.r.c j hj)) (by simp))];exact d.r.cf j hj
theorem prs_new (w w2:World) (t t1:TypeId) (ws:List ByteArray) (hb:Below ((w.alloc (.cells #[.int .i64 0,.int .i64 0,.int .i64 0,.int .i64 0,.int .i64 0,.int .i64 0] t)).alloc (.cells #[.int .i64 0,.int .i64 0,.int .i64 0,.int .i64 0,.int .i64 0,.int .i64 0] t1)).heap.size ((w.alloc (.cells #[.int .i64 0,.int .i64 0,.int .i64 0,.int .i64 0,.int .i64 0,.int .i64 0] t)).alloc (.cells #[.int .i64 0,.int .i64 0,.int .i64 0,.int .i64 0,.int .i64 0,.int .i64 0] t1)) w2)
  (hc:∀(j:Nat) y,ws[j]? = some y->w2.cell? ⟨w.heap.size+1+1,j,none⟩=some (.string y)):Prs w w2 (fun _=>0) ws:=by
 have b1:∀(v:World) (o:Obj),Below v.heap.size v (v.alloc o):=fun v o=>(Below.refl _ _).alloc (Nat.le_refl _) _
 refine⟨((six_new w t).below (b1 _ _)).below hb,?_,hc,below_all (below_all (b1 _ _) (b1 _ _)) hb⟩
 have:=(six_new (w.alloc (.cells #[.int .i64 0,.int .i64 0,.int .i64 0,.int .i64 0,.int .i64 0,.int .i64 0] t)) t1).below hb
 simpa using this
theorem parse_odd (x:ByteArray) (hx:x.size<=4000)  (w:World) (L:Libs w) (h3:(words x 32).length≠3) (h4:(words x 32).length≠4) :
  Calls Tryz.prog 144 #[.string x] w fun e w'=>e=.returned (.tuple #[pkt 0 0 0 0 0 0,.bool false])/\Below w.heap.size w w':=by
 have HL:Hid (Libs w):=L
 clear L
 have n3:(((words x 32).length:Int)==3)=false:=beq_eq_false_iff_ne.2 (by omega)
 have n4:(((words x 32).length:Int)==4)=false:=beq_eq_false_iff_ne.2 (by omega)
 clear h3 h4
 go_enter Tryz.func144,Tryz.ntmps144
 go_wp2_with fail
 refine(split_any x hx 32 _ (HL.out.below (((Below.refl _ _).alloc (Nat.le_refl _) _).alloc (by simp) _))).mono ?_
 rintro e w2 ⟨rfl,hc,hb⟩
 have D2:Hid (Prs w w2 (fun _=>0) (words x 32)):=prs_new w w2 _ _ _ hb (by simpa using hc)
 clear hc hb
 go_wp2_with fail
 go_quiet (fail)
 have D2b:Hid (Prs w (w2.drewN nq) (fun _=>0) (words x 32)):=D2.out.drewN nq
 clear D2
 generalize w2.drewN nq=w2b at *
 go_wp2_with fail
 go_quiet (fail)
 have D2c:Hid (Prs w (w2b.drewN nq) (fun _=>0) (words x 32)):=D2b.out.drewN nq
 clear D2b
 generalize w2b.drewN nq=w2c at *
 have r0:w2c.cell? ⟨w.heap.size,0,none⟩=some (.int .i64 0):=D2c.out.r.c 0 (by omega)
 have g0:=D2c.out.r.cf 0 (by omega)
 have r1:w2c.cell? ⟨w.heap.size,1,none⟩=some (.int .i64 0):=D2c.out.r.c 1 (by omega)
 have g1:=D2c.out.r.cf 1 (by omega)
 have r2:w2c.cell? ⟨w.heap.size,2,none⟩=some (.int .i64 0):=D2c.out.r.c 2 (by omega)
 have g2:=D2c.out.r.cf 2 (by omega)
 have r3:w2c.cell? ⟨w.heap.size,3,none⟩=some (.int .i64 0):=D2c.out.r.c 3 (by omega)
 have g3:=D2c.out.r.cf 3 (by omega)
 have r4:w2c.cell? ⟨w.heap.size,4,none⟩=some (.int .i64 0):=D2c.out.r.c 4 (by omega)
 have g4:=D2c.out.r.cf 4 (by omega)
 have r5:w2c.cell? ⟨w.heap.size,5,none⟩=some (.int .i64 0):=D2c.out.r.c 5 (by omega)
 have g5:=D2c.out.r.cf 5 (by omega)
 go_wp2_with fail
 exact bodyPost_ret (v:=.tuple #[pkt 0 0 0 0 0 0,.bool false]) (by simp[results,Tryz.results144,go_sem,r0,r1,r2,r3,r4,r5]) rfl ⟨rfl,((((((D2c.out.b).setCell (Nat.le_refl _) _).setCell (Nat.le_refl _) _).setCell (Nat.le_refl _) _).setCell (Nat.le_refl _) _).setCell (Nat.le_refl _) _).setCell (Nat.le_refl _) _⟩
theorem parse_udp_no (x:ByteArray) (hx:x.size<=4000) (a b c:ByteArray) (w:World) (L:Libs w) (hw:words x 32=[a,b,c]) (ha:¬a=⟨#[117,100,112]⟩) :
  Calls Tryz.prog 144 #[.string x] w fun e w'=>e=.returned (.tuple #[pkt 0 0 0 0 0 0,.bool false])/\Below w.heap.size w w':=by
 have HL:Hid (Libs w):=L
 have HW:Hid (words x 32=[a,b,c]):=hw
 clear hw
 clear L
 have ha1:(a.toList==[117,100,112])=false:=by
  have:=ba_ne (a:=a) (b:=⟨#[117,100,112]⟩) (fun e=>ha e.symm)
  simpa using this
 clear ha
 go_enter Tryz.func144,Tryz.ntmps144
 go_wp2_with fail
 refine(split_any x hx 32 _ (HL.out.below (((Below.refl _ _).alloc (Nat.le_refl _) _).alloc (by simp) _))).mono ?_
 rintro e w2 ⟨rfl,hc,hb⟩
 have D2:Hid (Prs w w2 (fun _=>0) [a,b,c]):=prs_new w w2 _ _ _ hb (by rw[HW.out]at hc;simpa using hc)
 rw[HW.out]
 clear hc hb
 have a0:w2.cell? ⟨w.heap.size+1+1,0,none⟩=some (.string a):=D2.out.c 0 _ rfl
 go_wp2_with fail
 go_quiet ((go_at_call 131;exact Calls.quiet_of_same (protoText_udp _)))
 clear a0
 have D2b:Hid (Prs w (w2.drewN nq) (fun _=>0) [a,b,c]):=D2.out.drewN nq
 clear D2
 generalize w2.drewN nq=w2b at *
 go_wp2_with fail
 go_quiet (fail)
 have D2c:Hid (Prs w (w2b.drewN nq) (fun _=>0) [a,b,c]):=D2b.out.drewN nq
 clear D2b
 generalize w2b.drewN nq=w2c at *
 have r0:w2c.cell? ⟨w.heap.size,0,none⟩=some (.int .i64 0):=D2c.out.r.c 0 (by omega)
 have g0:=D2c.out.r.cf 0 (by omega)
 have r1:w2c.cell? ⟨w.heap.size,1,none⟩=some (.int .i64 0):=D2c.out.r.c 1 (by omega)
 have g1:=D2c.out.r.cf 1 (by omega)
 have r2:w2c.cell? ⟨w.heap.size,2,none⟩=some (.int .i64 0):=D2c.out.r.c 2 (by omega)
 have g2:=D2c.out.r.cf 2 (by omega)
 have r3:w2c.cell? ⟨w.heap.size,3,none⟩=some (.int .i64 0):=D2c.out.r.c 3 (by omega)
 have g3:=D2c.out.r.cf 3 (by omega)
 have r4:w2c.cell? ⟨w.heap.size,4,none⟩=some (.int .i64 0):=D2c.out.r.c 4 (by omega)
 have g4:=D2c.out.r.cf 4 (by omega)
 have r5:w2c.cell? ⟨w.heap.size,5,none⟩=some (.int .i64 0):=D2c.out.r.c 5 (by omega)
 have g5:=D2c.out.r.cf 5 (by omega)
 go_wp2_with fail
 exact bodyPost_ret (v:=.tuple #[pkt 0 0 0 0 0 0,.bool false]) (by simp[results,Tryz.results144,go_sem,r0,r1,r2,r3,r4,r5]) rfl ⟨rfl,((((((D2c.out.b).setCell (Nat.le_refl _) _).setCell (Nat.le_refl _) _).setCell (Nat.le_refl _) _).setCell (Nat.le_refl _) _).setCell (Nat.le_refl _) _).setCell (Nat.le_refl _) _⟩
theorem parse_udp_src (x:ByteArray) (hx:x.size<=4000) (b c:ByteArray) (w:World) (L:Libs w) (hw:words x 32=[⟨#[117,100,112]⟩,b,c]) (hb1:b.size<=4000) (hb2:pe b.data.toList=none) :
  Calls Tryz.prog 144 #[.string x] w fun e w'=>e=.returned (.tuple #[pkt 0 0 0 0 0 0,.bool false])/\Below w.heap.size w w':=by
 have HL:Hid (Libs w):=L
 have HW:Hid (words x 32=[⟨#[117,100,112]⟩,b,c]):=hw
 clear hw
 have HB1:Hid (b.size<=4000):=hb1
 clear hb1
 have HB2:Hid (pe b.data.toList=none):=hb2
 clear hb2
 clear L
 go_enter Tryz.func144,Tryz.ntmps144
 go_wp2_with fail
 refine(split_any x hx 32 _ (HL.out.below (((Below.refl _ _).alloc (Nat.le_refl _) _).alloc (by simp) _))).mono ?_
 rintro e w2 ⟨rfl,hc,hb⟩
 have D2:Hid (Prs w w2 (fun _=>0) [⟨#[117,100,112]⟩,b,c]):=prs_new w w2 _ _ _ hb (by rw[HW.out]at hc;simpa using hc)
 rw[HW.out]
 clear hc hb
 have a0:w2.cell? ⟨w.heap.size+1+1,0,none⟩=some (.string ⟨#[117,100,112]⟩):=D2.out.c 0 _ rfl
 go_wp2_with fail
 go_quiet ((go_at_call 131;exact Calls.quiet_of_same (protoText_udp _)))
 clear a0
 have D2c:Hid (Prs w (w2.drewN nq) (fun _=>0) [⟨#[117,100,112]⟩,b,c]):=D2.out.drewN nq
 clear D2
 generalize w2.drewN nq=w2c at *
 have p0:=D2c.out.p.c 0 (by omega)
 have pf0:=D2c.out.p.cf 0 (by omega)
 go_wp2_with fail
 refine(ends_any _ _ _).mono ?_
 rintro e w3 ⟨rfl,hb3⟩
 have D3:Hid (Prs w w3 (updP (fun _=>0) 0 1) [⟨#[117,100,112]⟩,b,c]):=(D2c.out.set (by omega) 1).below hb3
 clear hb3 p0 pf0
 have i0 := Tryz.idx0
 have i1 := Tryz.idx1
 have a1:w3.cell? ⟨w.heap.size+1+1,1,none⟩=some (.string b):=D3.out.c 1 _ rfl
 go_wp2_with fail
 refine wp_loop_rounds 3 ?_
 rw[rounds_succ]
 go_wp2_with fail
 refine(parseEnd_none b HB1.out HB2.out _ _ (HL.out.below D3.out.b)).mono ?_
 rintro e w4 ⟨rfl,hb4⟩
 have D4:Hid (Prs w w4 (updP (fun _=>0) 0 1) [⟨#[117,100,112]⟩,b,c]):=D3.out.below hb4
 clear hb4 a1
 have r0:w4.cell? ⟨w.heap.size,0,none⟩=some (.int .i64 0):=D4.out.r.c 0 (by omega)
 have g0:=D4.out.r.cf 0 (by omega)
 have r1:w4.cell? ⟨w.heap.size,1,none⟩=some (.int .i64 0):=D4.out.r.c 1 (by omega)
 have g1:=D4.out.r.cf 1 (by omega)
 have r2:w4.cell? ⟨w.heap.size,2,none⟩=some (.int .i64 0):=D4.out.r.c 2 (by omega)
 have g2:=D4.out.r.cf 2 (by omega)
 have r3:w4.cell? ⟨w.heap.size,3,none⟩=some (.int .i64 0):=D4.out.r.c 3 (by omega)
 have g3:=D4.out.r.cf 3 (by omega)
 have r4:w4.cell? ⟨w.heap.size,4,none⟩=some (.int .i64 0):=D4.out.r.c 4 (by omega)
 have g4:=D4.out.r.cf 4 (by omega)
 have r5:w4.cell? ⟨w.heap.size,5,none⟩=some (.int .i64 0):=D4.out.r.c 5 (by omega)
 have g5:=D4.out.r.cf 5 (by omega)
 go_wp2_with fail
 exact bodyPost_ret (v:=.tuple #[pkt 0 0 0 0 0 0,.bool false]) (by simp[results,Tryz.results144,go_sem,r0,r1,r2,r3,r4,r5]) rfl ⟨rfl,((((((D4.out.b).setCell (Nat.le_refl _) _).setCell (Nat.le_refl _) _).setCell (Nat.le_refl _) _).setCell (Nat.le_refl _) _).setCell (Nat.le_refl _) _).setCell (Nat.le_refl _) _⟩
theorem parse_udp_dst (x:ByteArray) (hx:x.size<=4000) (b c:ByteArray) (w:World) (L:Libs w) (hw:words x 32=[⟨#[117,100,112]⟩,b,c]) (hb1:b.size<=4000) (u v:Int) (hb2:pe b.data.toList=some (u,v)) (hc1:c.size<=4000) (hc2:pe c.data.toList=none) :
  Calls Tryz.prog 144 #[.string x] w fun e w'=>e=.returned (.tuple #[pkt 0 0 0 0 0 0,.bool false])/\Below w.heap.size w w':=by
 have HL:Hid (Libs w):=L
 have HW:Hid (words x 32=[⟨#[117,100,112]⟩,b,c]):=hw
 clear hw
 have HB1:Hid (b.size<=4000):=hb1
 clear hb1
 have HB2:Hid (pe b.data.toList=some (u,v)):=hb2
 clear hb2
 have HC1:Hid (c.size<=4000):=hc1
 clear hc1
 have HC2:Hid (pe c.data.toList=none):=hc2
 clear hc2
 clear L
 go_enter Tryz.func144,Tryz.ntmps144
 go_wp2_with fail
 refine(split_any x hx 32 _ (HL.out.below (((Below.refl _ _).alloc (Nat.le_refl _) _).alloc (by simp) _))).mono ?_
 rintro e w2 ⟨rfl,hc,hb⟩
 have D2:Hid (Prs w w2 (fun _=>0) [⟨#[117,100,112]⟩,b,c]):=prs_new w w2 _ _ _ hb (by rw[HW.out]at hc;simpa using hc)
 rw[HW.out]
 clear hc hb
 have a0:w2.cell? ⟨w.heap.size+1+1,0,none⟩=some (.string ⟨#[117,100,112]⟩):=D2.out.c 0 _ rfl
 go_wp2_with fail
 go_quiet ((go_at_call 131;exact Calls.quiet_of_same (protoText_udp _)))
 clear a0
 have D2c:Hid (Prs w (w2.drewN nq) (fun _=>0) [⟨#[117,100,112]⟩,b,c]):=D2.out.drewN nq
 clear D2
 generalize w2.drewN nq=w2c at *
 have p0:=D2c.out.p.c 0 (by omega)
 have pf0:=D2c.out.p.cf 0 (by omega)
 go_wp2_with fail
 refine(ends_any _ _ _).mono ?_
 rintro e w3 ⟨rfl,hb3⟩
 have D3:Hid (Prs w w3 (updP (fun _=>0) 0 1) [⟨#[117,100,112]⟩,b,c]):=(D2c.out.set (by omega) 1).below hb3
 clear hb3 p0 pf0
 have i0 := Tryz.idx0
 have i1 := Tryz.idx1
 have a1:w3.cell? ⟨w.heap.size+1+1,1,none⟩=some (.string b):=D3.out.c 1 _ rfl
 go_wp2_with fail
 refine wp_loop_rounds 3 ?_
 rw[rounds_succ]
 go_wp2_with fail
 refine(parseEnd_some b HB1.out u v HB2.out _ _ _ (HL.out.below D3.out.b) _ _ (D3.out.p.c 1 (by omega)) (D3.out.p.c 2 (by omega)) (D3.out.p.cf 1 (by omega)) (D3.out.p.cf 2 (by omega))).mono ?_
 rintro e w4 ⟨rfl,w4',hb4,hw4⟩
 have D4:Hid (Prs w w4 (updP (updP (updP (fun _=>0) 0 1) 1 u) 2 v) [⟨#[117,100,112]⟩,b,c]):=by rw[hw4];exact((D3.out.below hb4).set (by omega) u).set (by omega) v
 clear hb4 hw4 a1
 have a2:w4.cell? ⟨w.heap.size+1+1,2,none⟩=some (.string c):=D4.out.c 2 _ rfl
 go_wp2_with fail
 rw[rounds_succ]
 go_wp2_with fail
 refine(parseEnd_none c HC1.out HC2.out _ _ (HL.out.below D4.out.b)).mono ?_
 rintro e w5 ⟨rfl,hb5⟩
 have D5:Hid (Prs w w5 (updP (updP (updP (fun _=>0) 0 1) 1 u) 2 v) [⟨#[117,100,112]⟩,b,c]):=D4.out.below hb5
 clear hb5 a2
 have r0:w5.cell? ⟨w.heap.size,0,none⟩=some (.int .i64 0):=D5.out.r.c 0 (by omega)
 have g0:=D5.out.r.cf 0 (by omega)
 have r1:w5.cell? ⟨w.heap.size,1,none⟩=some (.int .i64 0):=D5.out.r.c 1 (by omega)
 have g1:=D5.out.r.cf 1 (by omega)
 have r2:w5.cell? ⟨w.heap.size,2,none⟩=some (.int .i64 0):=D5.out.r.c 2 (by omega)
 have g2:=D5.out.r.cf 2 (by omega)
 have r3:w5.cell? ⟨w.heap.size,3,none⟩=some (.int .i64 0):=D5.out.r.c 3 (by omega)
 have g3:=D5.out.r.cf 3 (by omega)
 have r4:w5.cell? ⟨w.heap.size,4,none⟩=some (.int .i64 0):=D5.out.r.c 4 (by omega)
 have g4:=D5.out.r.cf 4 (by omega)
 have r5:w5.cell? ⟨w.heap.size,5,none⟩=some (.int .i64 0):=D5.out.r.c 5 (by omega)
 have g5:=D5.out.r.cf 5 (by omega)
 go_wp2_with fail
 exact bodyPost_ret (v:=.tuple #[pkt 0 0 0 0 0 0,.bool false]) (by simp[results,Tryz.results144,go_sem,r0,r1,r2,r3,r4,r5]) rfl ⟨rfl,((((((D5.out.b).setCell (Nat.le_refl _) _).setCell (Nat.le_refl _) _).setCell (Nat.le_refl _) _).setCell (Nat.le_refl _) _).setCell (Nat.le_refl _) _).setCell (Nat.le_refl _) _⟩
theorem parse_udp_ok (x:ByteArray) (hx:x.size<=4000) (b c:ByteArray) (w:World) (L:Libs w) (hw:words x 32=[⟨#[117,100,112]⟩,b,c]) (hb1:b.size<=4000) (u v:Int) (hb2:pe b.data.toList=some (u,v)) (hc1:c.size<=4000) (y z:Int) (hc2:pe c.data.toList=some (y,z))  :
  Calls Tryz.prog 144 #[.string x] w fun e w'=>e=.returned (.tuple #[pkt 1 u v y z 0,.bool true])/\Below w.heap.size w w':=by
 have HL:Hid (Libs w):=L
 have HW:Hid (words x 32=[⟨#[117,100,112]⟩,b,c]):=hw
 clear hw
 have HB1:Hid (b.size<=4000):=hb1
 clear hb1
 have HB2:Hid (pe b.data.toList=some (u,v)):=hb2
 clear hb2
 have HC1:Hid (c.size<=4000):=hc1
 clear hc1
 have HC2:Hid (pe c.data.toList=some (y,z)):=hc2
 clear hc2
 clear L
 go_enter Tryz.func144,Tryz.ntmps144
 go_wp2_with fail
 refine(split_any x hx 32 _ (HL.out.below (((Below.refl _ _).alloc (Nat.le_refl _) _).alloc (by simp) _))).mono ?_
 rintro e w2 ⟨rfl,hc,hb⟩
 have D2:Hid (Prs w w2 (fun _=>0) [⟨#[117,100,112]⟩,b,c]):=prs_new w w2 _ _ _ hb (by rw[HW.out]at hc;simpa using hc)
 rw[HW.out]
 clear hc hb
 have a0:w2.cell? ⟨w.heap.size+1+1,0,none⟩=some (.string ⟨#[117,100,112]⟩):=D2.out.c 0 _ rfl
 go_wp2_with fail
 go_quiet ((go_at_call 131;exact Calls.quiet_of_same (protoText_udp _)))
 clear a0
 have D2c:Hid (Prs w (w2.drewN nq) (fun _=>0) [⟨#[117,100,112]⟩,b,c]):=D2.out.drewN nq
 clear D2
 generalize w2.drewN nq=w2c at *
 have p0:=D2c.out.p.c 0 (by omega)
 have pf0:=D2c.out.p.cf 0 (by omega)
 go_wp2_with fail
 refine(ends_any _ _ _).mono ?_
 rintro e w3 ⟨rfl,hb3⟩
 have D3:Hid (Prs w w3 (updP (fun _=>0) 0 1) [⟨#[117,100,112]⟩,b,c]):=(D2c.out.set (by omega) 1).below hb3
 clear hb3 p0 pf0
 have i0 := Tryz.idx0
 have i1 := Tryz.idx1
 have a1:w3.cell? ⟨w.heap.size+1+1,1,none⟩=some (.string b):=D3.out.c 1 _ rfl
 go_wp2_with fail
 refine wp_loop_rounds 3 ?_
 rw[rounds_succ]
 go_wp2_with fail
 refine(parseEnd_some b HB1.out u v HB2.out _ _ _ (HL.out.below D3.out.b) _ _ (D3.out.p.c 1 (by omega)) (D3.out.p.c 2 (by omega)) (D3.out.p.cf 1 (by omega)) (D3.out.p.cf 2 (by omega))).mono ?_
 rintro e w4 ⟨rfl,w4',hb4,hw4⟩
 have D4:Hid (Prs w w4 (updP (updP (updP (fun _=>0) 0 1) 1 u) 2 v) [⟨#[117,100,112]⟩,b,c]):=by rw[hw4];exact((D3.out.below hb4).set (by omega) u).set (by omega) v
 clear hb4 hw4 a1
 have a2:w4.cell? ⟨w.heap.size+1+1,2,none⟩=some (.string c):=D4.out.c 2 _ rfl
 go_wp2_with fail
 rw[rounds_succ]
 go_wp2_with fail
 refine(parseEnd_some c HC1.out y z HC2.out _ _ _ (HL.out.below D4.out.b) _ _ (D4.out.p.c 3 (by omega)) (D4.out.p.c 4 (by omega)) (D4.out.p.cf 3 (by omega)) (D4.out.p.cf 4 (by omega))).mono ?_
 rintro e w5 ⟨rfl,w5',hb5,hw5⟩
 have D5:Hid (Prs w w5 (updP (updP (updP (updP (updP (fun _=>0) 0 1) 1 u) 2 v) 3 y) 4 z) [⟨#[117,100,112]⟩,b,c]):=by rw[hw5];exact((D4.out.below hb5).set (by omega) y).set (by omega) z
 clear hb5 hw5 a2
 have e0:w5.cell? ⟨w.heap.size+1,0,none⟩=some (.int .i64 1):=D5.out.p.c 0 (by omega)
 have e1:w5.cell? ⟨w.heap.size+1,1,none⟩=some (.int .i64 u):=D5.out.p.c 1 (by omega)
 have e2:w5.cell? ⟨w.heap.size+1,2,none⟩=some (.int .i64 v):=D5.out.p.c 2 (by omega)
 have e3:w5.cell? ⟨w.heap.size+1,3,none⟩=some (.int .i64 y):=D5.out.p.c 3 (by omega)
 have e4:w5.cell? ⟨w.heap.size+1,4,none⟩=some (.int .i64 z):=D5.out.p.c 4 (by omega)
 have e5:w5.cell? ⟨w.heap.size+1,5,none⟩=some (.int .i64 0):=D5.out.p.c 5 (by omega)
 have r0:w5.cell? ⟨w.heap.size,0,none⟩=some (.int .i64 0):=D5.out.r.c 0 (by omega)
 have g0:=D5.out.r.cf 0 (by omega)
 have r1:w5.cell? ⟨w.heap.size,1,none⟩=some (.int .i64 0):=D5.out.r.c 1 (by omega)
 have g1:=D5.out.r.cf 1 (by omega)
 have r2:w5.cell? ⟨w.heap.size,2,none⟩=some (.int .i64 0):=D5.out.r.c 2 (by omega)
 have g2:=D5.out.r.cf 2 (by omega)
 have r3:w5.cell? ⟨w.heap.size,3,none⟩=some (.int .i64 0):=D5.out.r.c 3 (by omega)
 have g3:=D5.out.r.cf 3 (by omega)
 have r4:w5.cell? ⟨w.heap.size,4,none⟩=some (.int .i64 0):=D5.out.r.c 4 (by omega)
 have g4:=D5.out.r.cf 4 (by omega)
 have r5:w5.cell? ⟨w.heap.size,5,none⟩=some (.int .i64 0):=D5.out.r.c 5 (by omega)
 have g5:=D5.out.r.cf 5 (by omega)
 go_wp2_with fail
 rw[rounds_succ]
 go_wp2_with fail
 exact bodyPost_ret (v:=.tuple #[pkt 1 u v y z 0,.bool true]) (by simp[results,Tryz.results144,go_sem,r0,r1,r2,r3,r4,r5]) rfl ⟨rfl,((((((D5.out.b).setCell (Nat.le_refl _) _).setCell (Nat.le_refl _) _).setCell (Nat.le_refl _) _).setCell (Nat.le_refl _) _).setCell (Nat.le_refl _) _).setCell (Nat.le_refl _) _⟩
theorem parse_tcp_no (x:ByteArray) (hx:x.size<=4000) (a b c f:ByteArray) (w:World) (L:Libs w) (hw:words x 32=[a,b,c,f]) (ha:¬a=⟨#[116,99,112]⟩) :
  Calls Tryz.prog 144 #[.string x] w fun e w'=>e=.returned (.tuple #[pkt 0 0 0 0 0 0,.bool false])/\Below w.heap.size w w':=by
 have HL:Hid (Libs w):=L
 have HW:Hid (words x 32=[a,b,c,f]):=hw
 clear hw
 clear L
 have ha1:(a.toList==[116,99,112])=false:=by
  have:=ba_ne (a:=a) (b:=⟨#[116,99,112]⟩) (fun e=>ha e.symm)
  simpa using this
 clear ha
 go_enter Tryz.func144,Tryz.ntmps144
 go_wp2_with fail
 refine(split_any x hx 32 _ (HL.out.below (((Below.refl _ _).alloc (Nat.le_refl _) _).alloc (by simp) _))).mono ?_
 rintro e w2 ⟨rfl,hc,hb⟩
 have D2:Hid (Prs w w2 (fun _=>0) [a,b,c,f]):=prs_new w w2 _ _ _ hb (by rw[HW.out]at hc;simpa using hc)
 rw[HW.out]
 clear hc hb
 go_wp2_with fail
 go_quiet (fail)
 have D2b:Hid (Prs w (w2.drewN nq) (fun _=>0) [a,b,c,f]):=D2.out.drewN nq
 clear D2
 generalize w2.drewN nq=w2b at *
 have a0:w2b.cell? ⟨w.heap.size+1+1,0,none⟩=some (.string a):=D2b.out.c 0 _ rfl
 go_wp2_with fail
 go_quiet ((go_at_call 131;exact Calls.quiet_of_same (protoText_tcp _)))
 clear a0
 have D2c:Hid (Prs w (w2b.drewN nq) (fun _=>0) [a,b,c,f]):=D2b.out.drewN nq
 clear D2b
 generalize w2b.drewN nq=w2c at *
 have r0:w2c.cell? ⟨w.heap.size,0,none⟩=some (.int .i64 0):=D2c.out.r.c 0 (by omega)
 have g0:=D2c.out.r.cf 0 (by omega)
 have r1:w2c.cell? ⟨w.heap.size,1,none⟩=some (.int .i64 0):=D2c.out.r.c 1 (by omega)
 have g1:=D2c.out.r.cf 1 (by omega)
 have r2:w2c.cell? ⟨w.heap.size,2,none⟩=some (.int .i64 0):=D2c.out.r.c 2 (by omega)
 have g2:=D2c.out.r.cf 2 (by omega)
 have r3:w2c.cell? ⟨w.heap.size,3,none⟩=some (.int .i64 0):=D2c.out.r.c 3 (by omega)
 have g3:=D2c.out.r.cf 3 (by omega)
 have r4:w2c.cell? ⟨w.heap.size,4,none⟩=some (.int .i64 0):=D2c.out.r.c 4 (by omega)
 have g4:=D2c.out.r.cf 4 (by omega)
 have r5:w2c.cell? ⟨w.heap.size,5,none⟩=some (.int .i64 0):=D2c.out.r.c 5 (by omega)
 have g5:=D2c.out.r.cf 5 (by omega)
 go_wp2_with fail
 exact bodyPost_ret (v:=.tuple #[pkt 0 0 0 0 0 0,.bool false]) (by simp[results,Tryz.results144,go_sem,r0,r1,r2,r3,r4,r5]) rfl ⟨rfl,((((((D2c.out.b).setCell (Nat.le_refl _) _).setCell (Nat.le_refl _) _).setCell (Nat.le_refl _) _).setCell (Nat.le_refl _) _).setCell (Nat.le_refl _) _).setCell (Nat.le_refl _) _⟩
theorem parse_tcp_src (x:ByteArray) (hx:x.size<=4000) (b c f:ByteArray) (w:World) (L:Libs w) (hw:words x 32=[⟨#[116,99,112]⟩,b,c,f]) (hb1:b.size<=4000) (hb2:pe b.data.toList=none) :
  Calls Tryz.prog 144 #[.string x] w fun e w'=>e=.returned (.tuple #[pkt 0 0 0 0 0 0,.bool false])/\Below w.heap.size w w':=by
 have HL:Hid (Libs w):=L
 have HW:Hid (words x 32=[⟨#[116,99,112]⟩,b,c,f]):=hw
 clear hw
 have HB1:Hid (b.size<=4000):=hb1
 clear hb1
 have HB2:Hid (pe b.data.toList=none):=hb2
 clear hb2
 clear L
 go_enter Tryz.func144,Tryz.ntmps144
 go_wp2_with fail
 refine(split_any x hx 32 _ (HL.out.below (((Below.refl _ _).alloc (Nat.le_refl _) _).alloc (by simp) _))).mono ?_
 rintro e w2 ⟨rfl,hc,hb⟩
 have D2:Hid (Prs w w2 (fun _=>0) [⟨#[116,99,112]⟩,b,c,f]):=prs_new w w2 _ _ _ hb (by rw[HW.out]at hc;simpa using hc)
 rw[HW.out]
 clear hc hb
 go_wp2_with fail
 go_quiet (fail)
 have D2b:Hid (Prs w (w2.drewN nq) (fun _=>0) [⟨#[116,99,112]⟩,b,c,f]):=D2.out.drewN nq
 clear D2
 generalize w2.drewN nq=w2b at *
 have a0:w2b.cell? ⟨w.heap.size+1+1,0,none⟩=some (.string ⟨#[116,99,112]⟩):=D2b.out.c 0 _ rfl
 go_wp2_with fail
 go_quiet ((go_at_call 131;exact Calls.quiet_of_same (protoText_tcp _)))
 clear a0
 have D2c:Hid (Prs w (w2b.drewN nq) (fun _=>0) [⟨#[116,99,112]⟩,b,c,f]):=D2b.out.drewN nq
 clear D2b
 generalize w2b.drewN nq=w2c at *
 have p0:=D2c.out.p.c 0 (by omega)
 have pf0:=D2c.out.p.cf 0 (by omega)
 go_wp2_with fail
 refine(ends_any _ _ _).mono ?_
 rintro e w3 ⟨rfl,hb3⟩
 have D3:Hid (Prs w w3 (updP (fun _=>0) 0 2) [⟨#[116,99,112]⟩,b,c,f]):=(D2c.out.set (by omega) 2).below hb3
 clear hb3 p0 pf0
 have i0 := Tryz.idx0
 have i1 := Tryz.idx1
 have a1:w3.cell? ⟨w.heap.size+1+1,1,none⟩=some (.string b):=D3.out.c 1 _ rfl
 go_wp2_with fail
 refine wp_loop_rounds 3 ?_
 rw[rounds_succ]
 go_wp2_with fail
 refine(parseEnd_none b HB1.out HB2.out _ _ (HL.out.below D3.out.b)).mono ?_
 rintro e w4 ⟨rfl,hb4⟩
 have D4:Hid (Prs w w4 (updP (fun _=>0) 0 2) [⟨#[116,99,112]⟩,b,c,f]):=D3.out.below hb4
 clear hb4 a1
 have r0:w4.cell? ⟨w.heap.size,0,none⟩=some (.int .i64 0):=D4.out.r.c 0 (by omega)
 have g0:=D4.out.r.cf 0 (by omega)
 have r1:w4.cell? ⟨w.heap.size,1,none⟩=some (.int .i64 0):=D4.out.r.c 1 (by omega)
 have g1:=D4.out.r.cf 1 (by omega)
 have r2:w4.cell? ⟨w.heap.size,2,none⟩=some (.int .i64 0):=D4.out.r.c 2 (by omega)
 have g2:=D4.out.r.cf 2 (by omega)
 have r3:w4.cell? ⟨w.heap.size,3,none⟩=some (.int .i64 0):=D4.out.r.c 3 (by omega)
 have g3:=D4.out.r.cf 3 (by omega)
 have r4:w4.cell? ⟨w.heap.size,4,none⟩=some (.int .i64 0):=D4.out.r.c 4 (by omega)
 have g4:=D4.out.r.cf 4 (by omega)
 have r5:w4.cell? ⟨w.heap.size,5,none⟩=some (.int .i64 0):=D4.out.r.c 5 (by omega)
 have g5:=D4.out.r.cf 5 (by omega)
 go_wp2_with fail
 exact bodyPost_ret (v:=.tuple #[pkt 0 0 0 0 0 0,.bool false]) (by simp[results,Tryz.results144,go_sem,r0,r1,r2,r3,r4,r5]) rfl ⟨rfl,((((((D4.out.b).setCell (Nat.le_refl _) _).setCell (Nat.le_refl _) _).setCell (Nat.le_refl _) _).setCell (Nat.le_refl _) _).setCell (Nat.le_refl _) _).setCell (Nat.le_refl _) _⟩
theorem parse_tcp_dst (x:ByteArray) (hx:x.size<=4000) (b c f:ByteArray) (w:World) (L:Libs w) (hw:words x 32=[⟨#[116,99,112]⟩,b,c,f]) (hb1:b.size<=4000) (u v:Int) (hb2:pe b.data.toList=some (u,v)) (hc1:c.size<=4000) (hc2:pe c.data.toList=none) :
  Calls Tryz.prog 144 #[.string x] w fun e w'=>e=.returned (.tuple #[pkt 0 0 0 0 0 0,.bool false])/\Below w.heap.size w w':=by
 have HL:Hid (Libs w):=L
 have HW:Hid (words x 32=[⟨#[116,99,112]⟩,b,c,f]):=hw
 clear hw
 have HB1:Hid (b.size<=4000):=hb1
 clear hb1
 have HB2:Hid (pe b.data.toList=some (u,v)):=hb2
 clear hb2
 have HC1:Hid (c.size<=4000):=hc1
 clear hc1
 have HC2:Hid (pe c.data.toList=none):=hc2
 clear hc2
 clear L
 go_enter Tryz.func144,Tryz.ntmps144
 go_wp2_with fail
 refine(split_any x hx 32 _ (HL.out.below (((Below.refl _ _).alloc (Nat.le_refl _) _).alloc (by simp) _))).mono ?_
 rintro e w2 ⟨rfl,hc,hb⟩
 have D2:Hid (Prs w w2 (fun _=>0) [⟨#[116,99,112]⟩,b,c,f]):=prs_new w w2 _ _ _ hb (by rw[HW.out]at hc;simpa using hc)
 rw[HW.out]
 clear hc hb
 go_wp2_with fail
 go_quiet (fail)
 have D2b:Hid (Prs w (w2.drewN nq) (fun _=>0) [⟨#[116,99,112]⟩,b,c,f]):=D2.out.drewN nq
 clear D2
 generalize w2.drewN nq=w2b at *
 have a0:w2b.cell? ⟨w.heap.size+1+1,0,none⟩=some (.string ⟨#[116,99,112]⟩):=D2b.out.c 0 _ rfl
 go_wp2_with fail
 go_quiet ((go_at_call 131;exact Calls.quiet_of_same (protoText_tcp _)))
 clear a0
 have D2c:Hid (Prs w (w2b.drewN nq) (fun _=>0) [⟨#[116,99,112]⟩,b,c,f]):=D2b.out.drewN nq
 clear D2b
 generalize w2b.drewN nq=w2c at *
 have p0:=D2c.out.p.c 0 (by omega)
 have pf0:=D2c.out.p.cf 0 (by omega)
 go_wp2_with fail
 refine(ends_any _ _ _).mono ?_
 rintro e w3 ⟨rfl,hb3⟩
 have D3:Hid (Prs w w3 (updP (fun _=>0) 0 2) [⟨#[116,99,112]⟩,b,c,f]):=(D2c.out.set (by omega) 2).below hb3
 clear hb3 p0 pf0
 have i0 := Tryz.idx0
 have i1 := Tryz.idx1
 have a1:w3.cell? ⟨w.heap.size+1+1,1,none⟩=some (.string b):=D3.out.c 1 _ rfl
 go_wp2_with fail
 refine wp_loop_rounds 3 ?_
 rw[rounds_succ]
 go_wp2_with fail
 refine(parseEnd_some b HB1.out u v HB2.out _ _ _ (HL.out.below D3.out.b) _ _ (D3.out.p.c 1 (by omega)) (D3.out.p.c 2 (by omega)) (D3.out.p.cf 1 (by omega)) (D3.out.p.cf 2 (by omega))).mono ?_
 rintro e w4 ⟨rfl,w4',hb4,hw4⟩
 have D4:Hid (Prs w w4 (updP (updP (updP (fun _=>0) 0 2) 1 u) 2 v) [⟨#[116,99,112]⟩,b,c,f]):=by rw[hw4];exact((D3.out.below hb4).set (by omega) u).set (by omega) v
 clear hb4 hw4 a1
 have a2:w4.cell? ⟨w.heap.size+1+1,2,none⟩=some (.string c):=D4.out.c 2 _ rfl
 go_wp2_with fail
 rw[rounds_succ]
 go_wp2_with fail
 refine(parseEnd_none c HC1.out HC2.out _ _ (HL.out.below D4.out.b)).mono ?_
 rintro e w5 ⟨rfl,hb5⟩
 have D5:Hid (Prs w w5 (updP (updP (updP (fun _=>0) 0 2) 1 u) 2 v) [⟨#[116,99,112]⟩,b,c,f]):=D4.out.below hb5
 clear hb5 a2
 have r0:w5.cell? ⟨w.heap.size,0,none⟩=some (.int .i64 0):=D5.out.r.c 0 (by omega)
 have g0:=D5.out.r.cf 0 (by omega)
 have r1:w5.cell? ⟨w.heap.size,1,none⟩=some (.int .i64 0):=D5.out.r.c 1 (by omega)
 have g1:=D5.out.r.cf 1 (by omega)
 have r2:w5.cell? ⟨w.heap.size,2,none⟩=some (.int .i64 0):=D5.out.r.c 2 (by omega)
 have g2:=D5.out.r.cf 2 (by omega)
 have r3:w5.cell? ⟨w.heap.size,3,none⟩=some (.int .i64 0):=D5.out.r.c 3 (by omega)
 have g3:=D5.out.r.cf 3 (by omega)
 have r4:w5.cell? ⟨w.heap.size,4,none⟩=some (.int .i64 0):=D5.out.r.c 4 (by omega)
 have g4:=D5.out.r.cf 4 (by omega)
 have r5:w5.cell? ⟨w.heap.size,5,none⟩=some (.int .i64 0):=D5.out.r.c 5 (by omega)
 have g5:=D5.out.r.cf 5 (by omega)
 go_wp2_with fail
 exact bodyPost_ret (v:=.tuple #[pkt 0 0 0 0 0 0,.bool false]) (by simp[results,Tryz.results144,go_sem,r0,r1,r2,r3,r4,r5]) rfl ⟨rfl,((((((D5.out.b).setCell (Nat.le_refl _) _).setCell (Nat.le_refl _) _).setCell (Nat.le_refl _) _).setCell (Nat.le_refl _) _).setCell (Nat.le_refl _) _).setCell (Nat.le_refl _) _⟩
theorem parse_tcp_bad (x:ByteArray) (hx:x.size<=4000) (b c f:ByteArray) (w:World) (L:Libs w) (hw:words x 32=[⟨#[116,99,112]⟩,b,c,f]) (hb1:b.size<=4000) (u v:Int) (hb2:pe b.data.toList=some (u,v)) (hc1:c.size<=4000) (y z:Int) (hc2:pe c.data.toList=some (y,z)) (hf1:f.size<=4000) (T:Nms w) (hne : 9 < w.heap.size) (hf2:pf f=none) :
  Calls Tryz.prog 144 #[.string x] w fun e w'=>e=.returned (.tuple #[pkt 0 0 0 0 0 0,.bool false])/\Below w.heap.size w w':=by
 have HL:Hid (Libs w):=L
 have HW:Hid (words x 32=[⟨#[116,99,112]⟩,b,c,f]):=hw
 clear hw
 have HB1:Hid (b.size<=4000):=hb1
 clear hb1
 have HB2:Hid (pe b.data.toList=some (u,v)):=hb2
 clear hb2
 have HC1:Hid (c.size<=4000):=hc1
 clear hc1
 have HC2:Hid (pe c.data.toList=some (y,z)):=hc2
 clear hc2
 have HF1:Hid (f.size<=4000):=hf1
 clear hf1
 have HT:Hid (Nms w):=T
 clear T
 have HF2:Hid (pf f=none):=hf2
 clear hf2
 clear L
 go_enter Tryz.func144,Tryz.ntmps144
 go_wp2_with fail
 refine(split_any x hx 32 _ (HL.out.below (((Below.refl _ _).alloc (Nat.le_refl _) _).alloc (by simp) _))).mono ?_
 rintro e w2 ⟨rfl,hc,hb⟩
 have D2:Hid (Prs w w2 (fun _=>0) [⟨#[116,99,112]⟩,b,c,f]):=prs_new w w2 _ _ _ hb (by rw[HW.out]at hc;simpa using hc)
 rw[HW.out]
 clear hc hb
 go_wp2_with fail
 go_quiet (fail)
 have D2b:Hid (Prs w (w2.drewN nq) (fun _=>0) [⟨#[116,99,112]⟩,b,c,f]):=D2.out.drewN nq
 clear D2
 generalize w2.drewN nq=w2b at *
 have a0:w2b.cell? ⟨w.heap.size+1+1,0,none⟩=some (.string ⟨#[116,99,112]⟩):=D2b.out.c 0 _ rfl
 go_wp2_with fail
 go_quiet ((go_at_call 131;exact Calls.quiet_of_same (protoText_tcp _)))
 clear a0
 have D2c:Hid (Prs w (w2b.drewN nq) (fun _=>0) [⟨#[116,99,112]⟩,b,c,f]):=D2b.out.drewN nq
 clear D2b
 generalize w2b.drewN nq=w2c at *
 have p0:=D2c.out.p.c 0 (by omega)
 have pf0:=D2c.out.p.cf 0 (by omega)
 go_wp2_with fail
 refine(ends_any _ _ _).mono ?_
 rintro e w3 ⟨rfl,hb3⟩
 have D3:Hid (Prs w w3 (updP (fun _=>0) 0 2) [⟨#[116,99,112]⟩,b,c,f]):=(D2c.out.set (by omega) 2).below hb3
 clear hb3 p0 pf0
 have i0 := Tryz.idx0
 have i1 := Tryz.idx1
 have a1:w3.cell? ⟨w.heap.size+1+1,1,none⟩=some (.string b):=D3.out.c 1 _ rfl
 go_wp2_with fail
 refine wp_loop_rounds 3 ?_
 rw[rounds_succ]
 go_wp2_with fail
 refine(parseEnd_some b HB1.out u v HB2.out _ _ _ (HL.out.below D3.out.b) _ _ (D3.out.p.c 1 (by omega)) (D3.out.p.c 2 (by omega)) (D3.out.p.cf 1 (by omega)) (D3.out.p.cf 2 (by omega))).mono ?_
 rintro e w4 ⟨rfl,w4',hb4,hw4⟩
 have D4:Hid (Prs w w4 (updP (updP (updP (fun _=>0) 0 2) 1 u) 2 v) [⟨#[116,99,112]⟩,b,c,f]):=by rw[hw4];exact((D3.out.below hb4).set (by omega) u).set (by omega) v
 clear hb4 hw4 a1
 have a2:w4.cell? ⟨w.heap.size+1+1,2,none⟩=some (.string c):=D4.out.c 2 _ rfl
 go_wp2_with fail
 rw[rounds_succ]
 go_wp2_with fail
 refine(parseEnd_some c HC1.out y z HC2.out _ _ _ (HL.out.below D4.out.b) _ _ (D4.out.p.c 3 (by omega)) (D4.out.p.c 4 (by omega)) (D4.out.p.cf 3 (by omega)) (D4.out.p.cf 4 (by omega))).mono ?_
 rintro e w5 ⟨rfl,w5',hb5,hw5⟩
 have D5:Hid (Prs w w5 (updP (updP (updP (updP (updP (fun _=>0) 0 2) 1 u) 2 v) 3 y) 4 z) [⟨#[116,99,112]⟩,b,c,f]):=by rw[hw5];exact((D4.out.below hb5).set (by omega) y).set (by omega) z
 clear hb5 hw5 a2
 have a3:w5.cell? ⟨w.heap.size+1+1,3,none⟩=some (.string f):=D5.out.c 3 _ rfl
 have e0:w5.cell? ⟨w.heap.size+1,0,none⟩=some (.int .i64 2):=D5.out.p.c 0 (by omega)
 go_wp2_with fail
 rw[rounds_succ]
 go_wp2_with fail
 refine(parseFlags_any f HF1.out (fun h=>by have:=HF2.out;rw[h]at this;simp[pf]at this) _ _ _ (HL.out.below D5.out.b) (HT.out.below D5.out.b) (D5.out.p.c 5 (by omega)) (D5.out.p.cf 5 (by omega)) (by omega)).mono ?_
 rintro e w6 (⟨r,hr,_,_⟩ | ⟨_,rfl,hg⟩)
 ·have:=HF2.out
  unfold pf at this
  split at this
  ·cases this
  ·rw[hr]at this;cases this
 have D6:Hid (Six w6 w.heap.size (fun _=>0)/\Below w.heap.size w w6):=D5.out.grown hg
 clear hg a3 e0
 have r0:w6.cell? ⟨w.heap.size,0,none⟩=some (.int .i64 0):=D6.out.1.c 0 (by omega)
 have g0:=D6.out.1.cf 0 (by omega)
 have r1:w6.cell? ⟨w.heap.size,1,none⟩=some (.int .i64 0):=D6.out.1.c 1 (by omega)
 have g1:=D6.out.1.cf 1 (by omega)
 have r2:w6.cell? ⟨w.heap.size,2,none⟩=some (.int .i64 0):=D6.out.1.c 2 (by omega)
 have g2:=D6.out.1.cf 2 (by omega)
 have r3:w6.cell? ⟨w.heap.size,3,none⟩=some (.int .i64 0):=D6.out.1.c 3 (by omega)
 have g3:=D6.out.1.cf 3 (by omega)
 have r4:w6.cell? ⟨w.heap.size,4,none⟩=some (.int .i64 0):=D6.out.1.c 4 (by omega)
 have g4:=D6.out.1.cf 4 (by omega)
 have r5:w6.cell? ⟨w.heap.size,5,none⟩=some (.int .i64 0):=D6.out.1.c 5 (by omega)
 have g5:=D6.out.1.cf 5 (by omega)
 go_wp2_with fail
 exact bodyPost_ret (v:=.tuple #[pkt 0 0 0 0 0 0,.bool false]) (by simp[results,Tryz.results144,go_sem,r0,r1,r2,r3,r4,r5]) rfl ⟨rfl,((((((D6.out.2).setCell (Nat.le_refl _) _).setCell (Nat.le_refl _) _).setCell (Nat.le_refl _) _).setCell (Nat.le_refl _) _).setCell (Nat.le_refl _) _).setCell (Nat.le_refl _) _⟩
theorem parse_tcp_dash (x:ByteArray) (hx:x.size<=4000) (b c:ByteArray) (w:World) (L:Libs w) (hw:words x 32=[⟨#[116,99,112]⟩,b,c,⟨#[45]⟩]) (hb1:b.size<=4000) (u v:Int) (hb2:pe b.data.toList=some (u,v)) (hc1:c.size<=4000) (y z:Int) (hc2:pe c.data.toList=some (y,z))  :
  Calls Tryz.prog 144 #[.string x] w fun e w'=>e=.returned (.tuple #[pkt 2 u v y z 0,.bool true])/\Below w.heap.size w w':=by
 have HL:Hid (Libs w):=L
 have HW:Hid (words x 32=[⟨#[116,99,112]⟩,b,c,⟨#[45]⟩]):=hw
 clear hw
 have HB1:Hid (b.size<=4000):=hb1
 clear hb1
 have HB2:Hid (pe b.data.toList=some (u,v)):=hb2
 clear hb2
 have HC1:Hid (c.size<=4000):=hc1
 clear hc1
 have HC2:Hid (pe c.data.toList=some (y,z)):=hc2
 clear hc2
 clear L
 go_enter Tryz.func144,Tryz.ntmps144
 go_wp2_with fail
 refine(split_any x hx 32 _ (HL.out.below (((Below.refl _ _).alloc (Nat.le_refl _) _).alloc (by simp) _))).mono ?_
 rintro e w2 ⟨rfl,hc,hb⟩
 have D2:Hid (Prs w w2 (fun _=>0) [⟨#[116,99,112]⟩,b,c,⟨#[45]⟩]):=prs_new w w2 _ _ _ hb (by rw[HW.out]at hc;simpa using hc)
 rw[HW.out]
 clear hc hb
 go_wp2_with fail
 go_quiet (fail)
 have D2b:Hid (Prs w (w2.drewN nq) (fun _=>0) [⟨#[116,99,112]⟩,b,c,⟨#[45]⟩]):=D2.out.drewN nq
 clear D2
 generalize w2.drewN nq=w2b at *
 have a0:w2b.cell? ⟨w.heap.size+1+1,0,none⟩=some (.string ⟨#[116,99,112]⟩):=D2b.out.c 0 _ rfl
 go_wp2_with fail
 go_quiet ((go_at_call 131;exact Calls.quiet_of_same (protoText_tcp _)))
 clear a0
 have D2c:Hid (Prs w (w2b.drewN nq) (fun _=>0) [⟨#[116,99,112]⟩,b,c,⟨#[45]⟩]):=D2b.out.drewN nq
 clear D2b
 generalize w2b.drewN nq=w2c at *
 have p0:=D2c.out.p.c 0 (by omega)
 have pf0:=D2c.out.p.cf 0 (by omega)
 go_wp2_with fail
 refine(ends_any _ _ _).mono ?_
 rintro e w3 ⟨rfl,hb3⟩
 have D3:Hid (Prs w w3 (updP (fun _=>0) 0 2) [⟨#[116,99,112]⟩,b,c,⟨#[45]⟩]):=(D2c.out.set (by omega) 2).below hb3
 clear hb3 p0 pf0
 have i0 := Tryz.idx0
 have i1 := Tryz.idx1
 have a1:w3.cell? ⟨w.heap.size+1+1,1,none⟩=some (.string b):=D3.out.c 1 _ rfl
 go_wp2_with fail
 refine wp_loop_rounds 3 ?_
 rw[rounds_succ]
 go_wp2_with fail
 refine(parseEnd_some b HB1.out u v HB2.out _ _ _ (HL.out.below D3.out.b) _ _ (D3.out.p.c 1 (by omega)) (D3.out.p.c 2 (by omega)) (D3.out.p.cf 1 (by omega)) (D3.out.p.cf 2 (by omega))).mono ?_
 rintro e w4 ⟨rfl,w4',hb4,hw4⟩
 have D4:Hid (Prs w w4 (updP (updP (updP (fun _=>0) 0 2) 1 u) 2 v) [⟨#[116,99,112]⟩,b,c,⟨#[45]⟩]):=by rw[hw4];exact((D3.out.below hb4).set (by omega) u).set (by omega) v
 clear hb4 hw4 a1
 have a2:w4.cell? ⟨w.heap.size+1+1,2,none⟩=some (.string c):=D4.out.c 2 _ rfl
 go_wp2_with fail
 rw[rounds_succ]
 go_wp2_with fail
 refine(parseEnd_some c HC1.out y z HC2.out _ _ _ (HL.out.below D4.out.b) _ _ (D4.out.p.c 3 (by omega)) (D4.out.p.c 4 (by omega)) (D4.out.p.cf 3 (by omega)) (D4.out.p.cf 4 (by omega))).mono ?_
 rintro e w5 ⟨rfl,w5',hb5,hw5⟩
 have D5:Hid (Prs w w5 (updP (updP (updP (updP (updP (fun _=>0) 0 2) 1 u) 2 v) 3 y) 4 z) [⟨#[116,99,112]⟩,b,c,⟨#[45]⟩]):=by rw[hw5];exact((D4.out.below hb5).set (by omega) y).set (by omega) z
 clear hb5 hw5 a2
 have a3:w5.cell? ⟨w.heap.size+1+1,3,none⟩=some (.string ⟨#[45]⟩):=D5.out.c 3 _ rfl
 have e0:w5.cell? ⟨w.heap.size+1,0,none⟩=some (.int .i64 2):=D5.out.p.c 0 (by omega)
 go_wp2_with fail
 rw[rounds_succ]
 go_wp2_with fail
 refine(parseFlags_dash _ _ _).mono ?_
 rintro e w6 ⟨rfl,hw6⟩
 subst hw6
 clear a3 e0
 have e0:w6.cell? ⟨w.heap.size+1,0,none⟩=some (.int .i64 2):=D5.out.p.c 0 (by omega)
 have e1:w6.cell? ⟨w.heap.size+1,1,none⟩=some (.int .i64 u):=D5.out.p.c 1 (by omega)
 have e2:w6.cell? ⟨w.heap.size+1,2,none⟩=some (.int .i64 v):=D5.out.p.c 2 (by omega)
 have e3:w6.cell? ⟨w.heap.size+1,3,none⟩=some (.int .i64 y):=D5.out.p.c 3 (by omega)
 have e4:w6.cell? ⟨w.heap.size+1,4,none⟩=some (.int .i64 z):=D5.out.p.c 4 (by omega)
 have e5:w6.cell? ⟨w.heap.size+1,5,none⟩=some (.int .i64 0):=D5.out.p.c 5 (by omega)
 have r0:w6.cell? ⟨w.heap.size,0,none⟩=some (.int .i64 0):=D5.out.r.c 0 (by omega)
 have g0:=D5.out.r.cf 0 (by omega)
 have r1:w6.cell? ⟨w.heap.size,1,none⟩=some (.int .i64 0):=D5.out.r.c 1 (by omega)
 have g1:=D5.out.r.cf 1 (by omega)
 have r2:w6.cell? ⟨w.heap.size,2,none⟩=some (.int .i64 0):=D5.out.r.c 2 (by omega)
 have g2:=D5.out.r.cf 2 (by omega)
 have r3:w6.cell? ⟨w.heap.size,3,none⟩=some (.int .i64 0):=D5.out.r.c 3 (by omega)
 have g3:=D5.out.r.cf 3 (by omega)
 have r4:w6.cell? ⟨w.heap.size,4,none⟩=some (.int .i64 0):=D5.out.r.c 4 (by omega)
 have g4:=D5.out.r.cf 4 (by omega)
 have r5:w6.cell? ⟨w.heap.size,5,none⟩=some (.int .i64 0):=D5.out.r.c 5 (by omega)
 have g5:=D5.out.r.cf 5 (by omega)
 go_wp2_with fail
 exact bodyPost_ret (v:=.tuple #[pkt 2 u v y z 0,.bool true]) (by simp[results,Tryz.results144,go_sem,r0,r1,r2,r3,r4,r5]) rfl ⟨rfl,((((((D5.out.b).setCell (Nat.le_refl _) _).setCell (Nat.le_refl _) _).setCell (Nat.le_refl _) _).setCell (Nat.le_refl _) _).setCell (Nat.le_refl _) _).setCell (Nat.le_refl _) _⟩
theorem parse_tcp_ok (x:ByteArray) (hx:x.size<=4000) (b c f:ByteArray) (w:World) (L:Libs w) (hw:words x 32=[⟨#[116,99,112]⟩,b,c,f]) (hb1:b.size<=4000) (u v:Int) (hb2:pe b.data.toList=some (u,v)) (hc1:c.size<=4000) (y z:Int) (hc2:pe c.data.toList=some (y,z)) (hf1:f.size<=4000) (T:Nms w) (hne : 9 < w.heap.size) (g:Int) (hd:¬f=⟨#[45]⟩) (hf2:orAll (words f 43) 0=some g) :
  Calls Tryz.prog 144 #[.string x] w fun e w'=>e=.returned (.tuple #[pkt 2 u v y z g,.bool true])/\Below w.heap.size w w':=by
 have HL:Hid (Libs w):=L
 have HW:Hid (words x 32=[⟨#[116,99,112]⟩,b,c,f]):=hw
 clear hw
 have HB1:Hid (b.size<=4000):=hb1
 clear hb1
 have HB2:Hid (pe b.data.toList=some (u,v)):=hb2
 clear hb2
 have HC1:Hid (c.size<=4000):=hc1
 clear hc1
 have HC2:Hid (pe c.data.toList=some (y,z)):=hc2
 clear hc2
 have HF1:Hid (f.size<=4000):=hf1
 clear hf1
 have HT:Hid (Nms w):=T
 clear T
 have HD:Hid (¬f=⟨#[45]⟩):=hd
 clear hd
 have HF2:Hid (orAll (words f 43) 0=some g):=hf2
 clear hf2
 clear L
 go_enter Tryz.func144,Tryz.ntmps144
 go_wp2_with fail
 refine(split_any x hx 32 _ (HL.out.below (((Below.refl _ _).alloc (Nat.le_refl _) _).alloc (by simp) _))).mono ?_
 rintro e w2 ⟨rfl,hc,hb⟩
 have D2:Hid (Prs w w2 (fun _=>0) [⟨#[116,99,112]⟩,b,c,f]):=prs_new w w2 _ _ _ hb (by rw[HW.out]at hc;simpa using hc)
 rw[HW.out]
 clear hc hb
 go_wp2_with fail
 go_quiet (fail)
 have D2b:Hid (Prs w (w2.drewN nq) (fun _=>0) [⟨#[116,99,112]⟩,b,c,f]):=D2.out.drewN nq
 clear D2
 generalize w2.drewN nq=w2b at *
 have a0:w2b.cell? ⟨w.heap.size+1+1,0,none⟩=some (.string ⟨#[116,99,112]⟩):=D2b.out.c 0 _ rfl
 go_wp2_with fail
 go_quiet ((go_at_call 131;exact Calls.quiet_of_same (protoText_tcp _)))
 clear a0
 have D2c:Hid (Prs w (w2b.drewN nq) (fun _=>0) [⟨#[116,99,112]⟩,b,c,f]):=D2b.out.drewN nq
 clear D2b
 generalize w2b.drewN nq=w2c at *
 have p0:=D2c.out.p.c 0 (by omega)
 have pf0:=D2c.out.p.cf 0 (by omega)
 go_wp2_with fail
 refine(ends_any _ _ _).mono ?_
 rintro e w3 ⟨rfl,hb3⟩
 have D3:Hid (Prs w w3 (updP (fun _=>0) 0 2) [⟨#[116,99,112]⟩,b,c,f]):=(D2c.out.set (by omega) 2).below hb3
 clear hb3 p0 pf0
 have i0 := Tryz.idx0
 have i1 := Tryz.idx1
 have a1:w3.cell? ⟨w.heap.size+1+1,1,none⟩=some (.string b):=D3.out.c 1 _ rfl
 go_wp2_with fail
 refine wp_loop_rounds 3 ?_
 rw[rounds_succ]
 go_wp2_with fail
 refine(parseEnd_some b HB1.out u v HB2.out _ _ _ (HL.out.below D3.out.b) _ _ (D3.out.p.c 1 (by omega)) (D3.out.p.c 2 (by omega)) (D3.out.p.cf 1 (by omega)) (D3.out.p.cf 2 (by omega))).mono ?_
 rintro e w4 ⟨rfl,w4',hb4,hw4⟩
 have D4:Hid (Prs w w4 (updP (updP (updP (fun _=>0) 0 2) 1 u) 2 v) [⟨#[116,99,112]⟩,b,c,f]):=by rw[hw4];exact((D3.out.below hb4).set (by omega) u).set (by omega) v
 clear hb4 hw4 a1
 have a2:w4.cell? ⟨w.heap.size+1+1,2,none⟩=some (.string c):=D4.out.c 2 _ rfl
 go_wp2_with fail
 rw[rounds_succ]
 go_wp2_with fail
 refine(parseEnd_some c HC1.out y z HC2.out _ _ _ (HL.out.below D4.out.b) _ _ (D4.out.p.c 3 (by omega)) (D4.out.p.c 4 (by omega)) (D4.out.p.cf 3 (by omega)) (D4.out.p.cf 4 (by omega))).mono ?_
 rintro e w5 ⟨rfl,w5',hb5,hw5⟩
 have D5:Hid (Prs w w5 (updP (updP (updP (updP (updP (fun _=>0) 0 2) 1 u) 2 v) 3 y) 4 z) [⟨#[116,99,112]⟩,b,c,f]):=by rw[hw5];exact((D4.out.below hb5).set (by omega) y).set (by omega) z
 clear hb5 hw5 a2
 have a3:w5.cell? ⟨w.heap.size+1+1,3,none⟩=some (.string f):=D5.out.c 3 _ rfl
 have e0:w5.cell? ⟨w.heap.size+1,0,none⟩=some (.int .i64 2):=D5.out.p.c 0 (by omega)
 go_wp2_with fail
 rw[rounds_succ]
 go_wp2_with fail
 refine(parseFlags_any f HF1.out HD.out _ _ _ (HL.out.below D5.out.b) (HT.out.below D5.out.b) (D5.out.p.c 5 (by omega)) (D5.out.p.cf 5 (by omega)) (by omega)).mono ?_
 rintro e w6 (⟨r,hr,rfl,hW⟩ | ⟨hr,_,_⟩)
 case inr=>rw[HF2.out]at hr;cases hr
 obtain rfl:r=g:=by rw[HF2.out]at hr;exact(Option.some.inj hr).symm
 have D6:Hid (Prs w w6 (updP (updP (updP (updP (updP (updP (fun _=>0) 0 2) 1 u) 2 v) 3 y) 4 z) 5 r) [⟨#[116,99,112]⟩,b,c,f]):=D5.out.wr hW
 clear hW a3 e0 hr
 have e0:w6.cell? ⟨w.heap.size+1,0,none⟩=some (.int .i64 2):=D6.out.p.c 0 (by omega)
 have e1:w6.cell? ⟨w.heap.size+1,1,none⟩=some (.int .i64 u):=D6.out.p.c 1 (by omega)
 have e2:w6.cell? ⟨w.heap.size+1,2,none⟩=some (.int .i64 v):=D6.out.p.c 2 (by omega)
 have e3:w6.cell? ⟨w.heap.size+1,3,none⟩=some (.int .i64 y):=D6.out.p.c 3 (by omega)
 have e4:w6.cell? ⟨w.heap.size+1,4,none⟩=some (.int .i64 z):=D6.out.p.c 4 (by omega)
 have e5:w6.cell? ⟨w.heap.size+1,5,none⟩=some (.int .i64 r):=D6.out.p.c 5 (by omega)
 have r0:w6.cell? ⟨w.heap.size,0,none⟩=some (.int .i64 0):=D6.out.r.c 0 (by omega)
 have g0:=D6.out.r.cf 0 (by omega)
 have r1:w6.cell? ⟨w.heap.size,1,none⟩=some (.int .i64 0):=D6.out.r.c 1 (by omega)
 have g1:=D6.out.r.cf 1 (by omega)
 have r2:w6.cell? ⟨w.heap.size,2,none⟩=some (.int .i64 0):=D6.out.r.c 2 (by omega)
 have g2:=D6.out.r.cf 2 (by omega)
 have r3:w6.cell? ⟨w.heap.size,3,none⟩=some (.int .i64 0):=D6.out.r.c 3 (by omega)
 have g3:=D6.out.r.cf 3 (by omega)
 have r4:w6.cell? ⟨w.heap.size,4,none⟩=some (.int .i64 0):=D6.out.r.c 4 (by omega)
 have g4:=D6.out.r.cf 4 (by omega)
 have r5:w6.cell? ⟨w.heap.size,5,none⟩=some (.int .i64 0):=D6.out.r.c 5 (by omega)
 have g5:=D6.out.r.cf 5 (by omega)
 go_wp2_with fail
 exact bodyPost_ret (v:=.tuple #[pkt 2 u v y z r,.bool true]) (by simp[results,Tryz.results144,go_sem,r0,r1,r2,r3,r4,r5]) rfl ⟨rfl,((((((D6.out.b).setCell (Nat.le_refl _) _).setCell (Nat.le_refl _) _).setCell (Nat.le_refl _) _).setCell (Nat.le_refl _) _).setCell (Nat.le_refl _) _).setCell (Nat.le_refl _) _⟩
end
theorem splitB_size (sep:ByteArray) (save:Nat):∀(k:Nat) (s y:ByteArray),y ∈ Lib.splitB sep save k s->y.size<=s.size
 | 0,s,y,h=>by
  simp[Lib.splitB]at h;subst h;exact Nat.le_refl _
 | k+1,s,y,h=>by
  unfold Lib.splitB at h
  split at h
  ·simp at h;subst h;exact Nat.le_refl _
  ·rw[List.mem_cons]at h
   rcases h with h | h
   ·subst h;rw[ByteArray.size_extract];omega
   ·have:=splitB_size sep save k _ y h
    rw[ByteArray.size_extract]at this;omega
theorem words_size {x y:ByteArray} {c:UInt8} (h:y ∈ words x c):y.size<=x.size:=splitB_size _ _ _ _ _ h
theorem parse_none (x:ByteArray) (hx:x.size<=4000) (w:World) (L:Libs w) (T:Nms w) (h:parseP x=none) :
  Calls Tryz.prog 144 #[.string x] w fun e w'=>e=.returned (.tuple #[pkt 0 0 0 0 0 0,.bool false])/\Below w.heap.size w w':=by
 have hne:=block_lt T.1
 have hz:∀y,y ∈ words x 32->y.size<=4000:=fun y hy=>Nat.le_trans (words_size hy) hx
 unfold parseP at h
 split at h
 ·rename_i a b c hw
  rw[hw]at hz
  split at h
  ·rename_i ha;subst ha
   cases hb:pe b.data.toList with
   | none=>exact parse_udp_src x hx b c w L hw (hz b (by simp)) hb
   | some s =>
    rw[hb]at h
    cases hc:pe c.data.toList with
    | none=>exact parse_udp_dst x hx b c w L hw (hz b (by simp)) s.1 s.2 hb (hz c (by simp)) hc
    | some d=>rw[hc]at h;cases h
  ·rename_i ha;exact parse_udp_no x hx a b c w L hw ha
 ·rename_i a b c f hw
  rw[hw]at hz
  split at h
  ·rename_i ha;subst ha
   cases hb:pe b.data.toList with
   | none=>exact parse_tcp_src x hx b c f w L hw (hz b (by simp)) hb
   | some s =>
    rw[hb]at h
    cases hc:pe c.data.toList with
    | none=>exact parse_tcp_dst x hx b c f w L hw (hz b (by simp)) s.1 s.2 hb (hz c (by simp)) hc
    | some d =>
     rw[hc]at h
     cases hf:pf f with
     | none=>exact parse_tcp_bad x hx b c f w L hw (hz b (by simp)) s.1 s.2 hb (hz c (by simp)) d.1 d.2 hc (hz f (by simp)) T hne hf
     | some g=>rw[hf]at h;cases h
  ·rename_i ha;exact parse_tcp_no x hx a b c f w L hw ha
 ·rename_i h3 h4
  refine parse_odd x hx w L ?_ ?_
  ·intro e
   rcases hw:words x 32 with _ | ⟨a,_ | ⟨b,_ | ⟨c,_ | ⟨d,r⟩⟩⟩⟩
   all_goals first | (rw[hw]at e;simp at e;done) | exact h3 _ _ _ hw
  ·intro e
   rcases hw:words x 32 with _ | ⟨a,_ | ⟨b,_ | ⟨c,_ | ⟨d,_ | ⟨f,r⟩⟩⟩⟩⟩
   all_goals first | (rw[hw]at e;simp at e;done) | exact h4 _ _ _ _ hw
theorem parse_some (x:ByteArray) (hx:x.size<=4000) (w:World) (L:Libs w) (T:Nms w) (pr u v y z fl:Int) (h:parseP x=some (pr,u,v,y,z,fl)) :
  Calls Tryz.prog 144 #[.string x] w fun e w'=>e=.returned (.tuple #[pkt pr u v y z fl,.bool true])/\Below w.heap.size w w':=by
 have hne:=block_lt T.1
 have hz:∀y,y ∈ words x 32->y.size<=4000:=fun y hy=>Nat.le_trans (words_size hy) hx
 unfold parseP at h
 split at h
 ·rename_i a b c hw
  rw[hw]at hz
  split at h
  ·rename_i ha;subst ha
   cases hb:pe b.data.toList with
   | none=>rw[hb]at h;cases h
   | some s =>
    rw[hb]at h
    cases hc:pe c.data.toList with
    | none=>rw[hc]at h;cases h
    | some d =>
     rw[hc]at h
     simp only[Option.bind_some,Option.map_some,Option.some.injEq,Prod.mk.injEq]at h
     obtain⟨rfl,rfl,rfl,rfl,rfl,rfl⟩:=h
     exact parse_udp_ok x hx b c w L hw (hz b (by simp)) _ _ hb (hz c (by simp)) _ _ hc
  ·cases h
 ·rename_i a b c f hw
  rw[hw]at hz
  split at h
  ·rename_i ha;subst ha
   cases hb:pe b.data.toList with
   | none=>rw[hb]at h;cases h
   | some s =>
    rw[hb]at h
    cases hc:pe c.data.toList with
    | none=>rw[hc]at h;cases h
    | some d =>
     rw[hc]at h
     cases hf:pf f with
     | none=>rw[hf]at h;cases h
     | some g =>
      rw[hf]at h
      simp only[Option.bind_some,Option.map_some,Option.some.injEq,Prod.mk.injEq]at h
      obtain⟨rfl,rfl,rfl,rfl,rfl,rfl⟩:=h
      unfold pf at hf
      split at hf
      ·rename_i hd;subst hd
       obtain rfl:g=0:=(Option.some.inj hf).symm
       exact parse_tcp_dash x hx b c w L hw (hz b (by simp)) _ _ hb (hz c (by simp)) _ _ hc
      ·rename_i hd
       exact parse_tcp_ok x hx b c f w L hw (hz b (by simp)) _ _ hb (hz c (by simp)) _ _ hc (hz f (by simp)) T hne g hd hf
  ·cases h
 ·cases h
structure EnvL (w:World) (s:Nat->Addr):Prop where
 e:Env w s
 l:Libs w
theorem EnvL.below {w w':World} {s:Nat->Addr} (E:EnvL w s) (h:Below w.heap.size w w'):EnvL w' s:=⟨E.e.below h,E.l.below h⟩
theorem errV_pos (s:Nat->Addr) (k:Nat):errV s (k+1)=.iface 298 (.pointer (some (s k))):=rfl
end Go.Proofs.YtgoalkeljpdmgaaGreatDoor
