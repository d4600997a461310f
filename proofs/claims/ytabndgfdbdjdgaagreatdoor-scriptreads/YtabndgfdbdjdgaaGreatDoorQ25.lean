/-
  What the claimed theorem reaches, part Q25.
-/
import Derived.Test.YtabndgfdbdjdgaaGreatDoorQ24
import Derived.Test.YtabndgfdbdjdgaaGreatDoorQ00
import Derived.Test.YtabndgfdbdjdgaaGreatDoorQ22
import Derived.Test.YtabndgfdbdjdgaaGreatDoorQ21
namespace Go.Proofs.YtabndgfdbdjdgaaGreatDoor
open Go.RowKit
set_option maxRecDepth 100000
set_option maxHeartbeats 8000000
section
variable {w0 w w':World} {f:Nat->Int} {ws:List ByteArray}
def parseP (x:ByteArray):Option (Int×Int×Int×Int×Int×Int) :=
 match words x 32 with
 | [a,b,c]=>if a=⟨#[117,100,112]⟩ then (pe b.data.toList).bind fun s=>(pe c.data.toList).map fun d=>(1,s.1,s.2,d.1,d.2,0) else none
 | [a,b,c,f]=>if a=⟨#[116,99,112]⟩ then (pe b.data.toList).bind fun s=>(pe c.data.toList).bind fun d=>(pf f).map fun g=>(2,s.1,s.2,d.1,d.2,g) else none
 | _=>none
structure Prs (w0 w:World) (f:Nat->Int) (ws:List ByteArray):Prop where
 r:Six w w0.heap.size (fun _=>0)
 p:Six w (w0.heap.size+1) f
 c:∀(j:Nat) y,ws[j]? = some y->w.cell? ⟨w0.heap.size+1+1,j,none⟩=some (.string y)
 b:Below w0.heap.size w0 w
theorem Prs.below (d:Prs w0 w f ws) (h:Below w.heap.size w w'):Prs w0 w' f ws :=
 ⟨d.r.below h,d.p.below h,fun j y hy=>below_keeps h (d.c j y hy),d.b.trans (h.mono d.b.size)⟩
theorem Prs.set {i:Nat} (d:Prs w0 w f ws) (hi:i < 6) (v:Int):Prs w0 (w.setCell ⟨w0.heap.size+1,i,none⟩ (.int .i64 v)) (updP f i v) ws :=
 ⟨d.r.other (by omega) _,d.p.set hi v,fun j y hy=>by rw[World.cell?_setCell_other _ _ _ _ (by simp)];exact d.c j y hy,d.b.setCell (by simp) _⟩
theorem Prs.drewN (d:Prs w0 w f ws) (n:Nat):Prs w0 (w.drewN n) f ws:=d.below (drewN_below _ _)
theorem Prs.wr {r:Int} (d:Prs w0 w f ws) (h:Wr w w' (w0.heap.size+1) 5 r):Prs w0 w' (updP f 5 r) ws where
 r:=⟨fun j hj=>(h.k ⟨w0.heap.size,j,none⟩ (block_lt (d.r.c j hj)) (fun e=>by have:=congrArg Addr.block e;simp at this)).trans (d.r.c j hj),fun j hj=>(h.z ⟨w0.heap.size,j,none⟩ (block_lt (d.r.c j hj))).trans (d.r.cf j hj)⟩
 p:=⟨fun j hj=>by
   by_cases e:j=5
   ·subst e;rw[h.c];simp[updP]
   ·rw[h.k ⟨w0.heap.size+1,j,none⟩ (block_lt (d.p.c j hj)) (fun e'=>e (congrArg Addr.off e')),d.p.c j hj];simp[updP,e],
  fun j hj=>(h.z ⟨w0.heap.size+1,j,none⟩ (block_lt (d.p.c j hj))).trans (d.p.cf j hj)⟩
 c:=fun j y hy=>(h.k ⟨w0.heap.size+1+1,j,none⟩ (block_lt (d.c j y hy)) (fun e=>by have:=congrArg Addr.block e;simp at this)).trans (d.c j y hy)
 b:=d.b.grown h.g d.b.size (fun k hk=>by cases hk;omega)
theorem Prs.grown (d:Prs w0 w f ws) (h:w.grownBy w' (some (w0.heap.size+1))):Six w' w0.heap.size (fun _=>0)/\Below w0.heap.size w0 w':=by
 refine⟨⟨fun j hj=>?_,fun j hj=>?_⟩,d.b.grown h d.b.size (fun k hk=>by cases hk;omega)⟩
 ·rw[World.cell?_of_block (w:=w) (h.block w0.heap.size (block_lt (d.r.c j hj)) (by simp))];exact d.r.c j hj
 ·rw[World.frozen?_of_block (w:=w) (h.block w0.heap.size (block_lt (d.r.c j hj)) (by simp))];exact d.r.cf j hj
theorem prs_new (w w2:World) (t t1:TypeId) (ws:List ByteArray) (hb:Below ((w.alloc (.cells #[.int .i64 0,.int .i64 0,.int .i64 0,.int .i64 0,.int .i64 0,.int .i64 0] t)).alloc (.cells #[.int .i64 0,.int .i64 0,.int .i64 0,.int .i64 0,.int .i64 0,.int .i64 0] t1)).heap.size ((w.alloc (.cells #[.int .i64 0,.int .i64 0,.int .i64 0,.int .i64 0,.int .i64 0,.int .i64 0] t)).alloc (.cells #[.int .i64 0,.int .i64 0,.int .i64 0,.int .i64 0,.int .i64 0,.int .i64 0] t1)) w2)
  (hc:∀(j:Nat) y,ws[j]? = some y->w2.cell? ⟨w.heap.size+1+1,j,none⟩=some (.string y)):Prs w w2 (fun _=>0) ws:=by
 have b1:∀(v:World) (o:Obj),Below v.heap.size v (v.alloc o):=fun v o=>(Below.refl _ _).alloc (Nat.le_refl _) _
 refine⟨((six_new w t).below (b1 _ _)).below hb,?_,hc,below_all (below_all (b1 _ _) (b1 _ _)) hb⟩
 have:=(six_new (w.alloc (.cells #[.int .i64 0,.int .i64 0,.int .i64 0,.int .i64 0,.int .i64 0,.int .i64 0] t)) t1).below hb
 simpa using this
theorem parse_odd (x:ByteArray) (hx:x.size<=4000)  (w:World) (L:Libs w) (h3:(words x 32).length≠3) (h4:(words x 32).length≠4) :
  Calls Tryz.prog 21 #[.string x] w fun e w'=>e=.returned (.tuple #[pkt 0 0 0 0 0 0,.bool false])/\Below w.heap.size w w':=by
 have HL:Hid (Libs w):=L
 clear L
 have n3:(((words x 32).length:Int)==3)=false:=beq_eq_false_iff_ne.2 (by omega)
 have n4:(((words x 32).length:Int)==4)=false:=beq_eq_false_iff_ne.2 (by omega)
 clear h3 h4
 go_enter Tryz.func21,Tryz.ntmps21
 go_wp2_with fail
 refine(split_any x hx 32 _ (HL.out.below (((Below.refl _ _).alloc (Nat.le_refl _) _).alloc (by simp) _))).mono ?_
 rintro e w2 ⟨rfl,hc,hb⟩
 have D2:Hid (Prs w w2 (fun _=>0) (words x 32)):=prs_new w w2 _ _ _ hb (by simpa using hc)
 clear hc hb
 go_wp2_with fail
 go_quiet (fail)
 have D2b:Hid (Prs w (w2.drewN nq) (fun _=>0) (words x 32)):=D2.out.drewN nq
 clear D2
 generalize w2.drewN nq=w2b at *
 go_wp2_with fail
 go_quiet (fail)
 have D2c:Hid (Prs w (w2b.drewN nq) (fun _=>0) (words x 32)):=D2b.out.drewN nq
 clear D2b
 generalize w2b.drewN nq=w2c at *
 have r0:w2c.cell? ⟨w.heap.size,0,none⟩=some (.int .i64 0):=D2c.out.r.c 0 (by omega)
 have g0:=D2c.out.r.cf 0 (by omega)
 have r1:w2c.cell? ⟨w.heap.size,1,none⟩=some (.int .i64 0):=D2c.out.r.c 1 (by omega)
 have g1:=D2c.out.r.cf 1 (by omega)
 have r2:w2c.cell? ⟨w.heap.size,2,none⟩=some (.int .i64 0):=D2c.out.r.c 2 (by omega)
 have g2:=D2c.out.r.cf 2 (by omega)
 have r3:w2c.cell? ⟨w.heap.size,3,none⟩=some (.int .i64 0):=D2c.out.r.c 3 (by omega)
 have g3:=D2c.out.r.cf 3 (by omega)
 have r4:w2c.cell? ⟨w.heap.size,4,none⟩=some (.int .i64 0):=D2c.out.r.c 4 (by omega)
 have g4:=D2c.out.r.cf 4 (by omega)
 have r5:w2c.cell? ⟨w.heap.size,5,none⟩=some (.int .i64 0):=D2c.out.r.c 5 (by omega)
 have g5:=D2c.out.r.cf 5 (by omega)
 go_wp2_with fail
 exact bodyPost_ret (v:=.tuple #[pkt 0 0 0 0 0 0,.bool false]) (by simp[results,Tryz.results21,go_sem,r0,r1,r2,r3,r4,r5]) rfl ⟨rfl,((((((D2c.out.b).setCell (Nat.le_refl _) _).setCell (Nat.le_refl _) _).setCell (Nat.le_refl _) _).setCell (Nat.le_refl _) _).setCell (Nat.le_refl _) _).setCell (Nat.le_refl _) _⟩
theorem parse_udp_no (x:ByteArray) (hx:x.size<=4000) (a b c:ByteArray) (w:World) (L:Libs w) (hw:words x 32=[a,b,c]) (ha:¬a=⟨#[117,100,112]⟩) :
  Calls Tryz.prog 21 #[.string x] w fun e w'=>e=.returned (.tuple #[pkt 0 0 0 0 0 0,.bool false])/\Below w.heap.size w w':=by
 have HL:Hid (Libs w):=L
 have HW:Hid (words x 32=[a,b,c]):=hw
 clear hw
 clear L
 have ha1:(a.toList==[117,100,112])=false:=by
  have:=ba_ne (a:=a) (b:=⟨#[117,100,112]⟩) (fun e=>ha e.symm)
  simpa using this
 clear ha
 go_enter Tryz.func21,Tryz.ntmps21
 go_wp2_with fail
 refine(split_any x hx 32 _ (HL.out.below (((Below.refl _ _).alloc (Nat.le_refl _) _).alloc (by simp) _))).mono ?_
 rintro e w2 ⟨rfl,hc,hb⟩
 have D2:Hid (Prs w w2 (fun _=>0) [a,b,c]):=prs_new w w2 _ _ _ hb (by rw[HW.out]at hc;simpa using hc)
 rw[HW.out]
 clear hc hb
 have a0:w2.cell? ⟨w.heap.size+1+1,0,none⟩=some (.string a):=D2.out.c 0 _ rfl
 go_wp2_with fail
 go_quiet ((go_at_call 33;exact Calls.quiet_of_same (protoText_udp _)))
 clear a0
 have D2b:Hid (Prs w (w2.drewN nq) (fun _=>0) [a,b,c]):=D2.out.drewN nq
 clear D2
 generalize w2.drewN nq=w2b at *
 go_wp2_with fail
 go_quiet (fail)
 have D2c:Hid (Prs w (w2b.drewN nq) (fun _=>0) [a,b,c]):=D2b.out.drewN nq
 clear D2b
 generalize w2b.drewN nq=w2c at *
 have r0:w2c.cell? ⟨w.heap.size,0,none⟩=some (.int .i64 0):=D2c.out.r.c 0 (by omega)
 have g0:=D2c.out.r.cf 0 (by omega)
 have r1:w2c.cell? ⟨w.heap.size,1,none⟩=some (.int .i64 0):=D2c.out.r.c 1 (by omega)
 have g1:=D2c.out.r.cf 1 (by omega)
 have r2:w2c.cell? ⟨w.heap.size,2,none⟩=some (.int .i64 0):=D2c.out.r.c 2 (by omega)
 have g2:=D2c.out.r.cf 2 (by omega)
 have r3:w2c.cell? ⟨w.heap.size,3,none⟩=some (.int .i64 0):=D2c.out.r.c 3 (by omega)
 have g3:=D2c.out.r.cf 3 (by omega)
 have r4:w2c.cell? ⟨w.heap.size,4,none⟩=some (.int .i64 0):=D2c.out.r.c 4 (by omega)
 have g4:=D2c.out.r.cf 4 (by omega)
 have r5:w2c.cell? ⟨w.heap.size,5,none⟩=some (.int .i64 0):=D2c.out.r.c 5 (by omega)
 have g5:=D2c.out.r.cf 5 (by omega)
 go_wp2_with fail
 exact bodyPost_ret (v:=.tuple #[pkt 0 0 0 0 0 0,.bool false]) (by simp[results,Tryz.results21,go_sem,r0,r1,r2,r3,r4,r5]) rfl ⟨rfl,((((((D2c.out.b).setCell (Nat.le_refl _) _).setCell (Nat.le_refl _) _).setCell (Nat.le_refl _) _).setCell (Nat.le_refl _) _).setCell (Nat.le_refl _) _).setCell (Nat.le_refl _) _⟩
theorem parse_udp_src (x:ByteArray) (hx:x.size<=4000) (b c:ByteArray) (w:World) (L:Libs w) (hw:words x 32=[⟨#[117,100,112]⟩,b,c]) (hb1:b.size<=4000) (hb2:pe b.data.toList=none) :
  Calls Tryz.prog 21 #[.string x] w fun e w'=>e=.returned (.tuple #[pkt 0 0 0 0 0 0,.bool false])/\Below w.heap.size w w':=by
 have HL:Hid (Libs w):=L
 have HW:Hid (words x 32=[⟨#[117,100,112]⟩,b,c]):=hw
 clear hw
 have HB1:Hid (b.size<=4000):=hb1
 clear hb1
 have HB2:Hid (pe b.data.toList=none):=hb2
 clear hb2
 clear L
 go_enter Tryz.func21,Tryz.ntmps21
 go_wp2_with fail
 refine(split_any x hx 32 _ (HL.out.below (((Below.refl _ _).alloc (Nat.le_refl _) _).alloc (by simp) _))).mono ?_
 rintro e w2 ⟨rfl,hc,hb⟩
 have D2:Hid (Prs w w2 (fun _=>0) [⟨#[117,100,112]⟩,b,c]):=prs_new w w2 _ _ _ hb (by rw[HW.out]at hc;simpa using hc)
 rw[HW.out]
 clear hc hb
 have a0:w2.cell? ⟨w.heap.size+1+1,0,none⟩=some (.string ⟨#[117,100,112]⟩):=D2.out.c 0 _ rfl
 go_wp2_with fail
 go_quiet ((go_at_call 33;exact Calls.quiet_of_same (protoText_udp _)))
 clear a0
 have D2c:Hid (Prs w (w2.drewN nq) (fun _=>0) [⟨#[117,100,112]⟩,b,c]):=D2.out.drewN nq
 clear D2
 generalize w2.drewN nq=w2c at *
 have p0:=D2c.out.p.c 0 (by omega)
 have pf0:=D2c.out.p.cf 0 (by omega)
 go_wp2_with fail
 refine(ends_any _ _ _).mono ?_
 rintro e w3 ⟨rfl,hb3⟩
 have D3:Hid (Prs w w3 (updP (fun _=>0) 0 1) [⟨#[117,100,112]⟩,b,c]):=(D2c.out.set (by omega) 1).below hb3
 clear hb3 p0 pf0
 have i0 := Tryz.idx0
 have i1 := Tryz.idx1
 have a1:w3.cell? ⟨w.heap.size+1+1,1,none⟩=some (.string b):=D3.out.c 1 _ rfl
 go_wp2_with fail
 refine wp_loop_rounds 3 ?_
 rw[rounds_succ]
 go_wp2_with fail
 refine(parseEnd_none b HB1.out HB2.out _ _ (HL.out.below D3.out.b)).mono ?_
 rintro e w4 ⟨rfl,hb4⟩
 have D4:Hid (Prs w w4 (updP (fun _=>0) 0 1) [⟨#[117,100,112]⟩,b,c]):=D3.out.below hb4
 clear hb4 a1
 have r0:w4.cell? ⟨w.heap.size,0,none⟩=some (.int .i64 0):=D4.out.r.c 0 (by omega)
 have g0:=D4.out.r.cf 0 (by omega)
 have r1:w4.cell? ⟨w.heap.size,1,none⟩=some (.int .i64 0):=D4.out.r.c 1 (by omega)
 have g1:=D4.out.r.cf 1 (by omega)
 have r2:w4.cell? ⟨w.heap.size,2,none⟩=some (.int .i64 0):=D4.out.r.c 2 (by omega)
 have g2:=D4.out.r.cf 2 (by omega)
 have r3:w4.cell? ⟨w.heap.size,3,none⟩=some (.int .i64 0):=D4.out.r.c 3 (by omega)
 have g3:=D4.out.r.cf 3 (by omega)
 have r4:w4.cell? ⟨w.heap.size,4,none⟩=some (.int .i64 0):=D4.out.r.c 4 (by omega)
 have g4:=D4.out.r.cf 4 (by omega)
 have r5:w4.cell? ⟨w.heap.size,5,none⟩=some (.int .i64 0):=D4.out.r.c 5 (by omega)
 have g5:=D4.out.r.cf 5 (by omega)
 go_wp2_with fail
 exact bodyPost_ret (v:=.tuple #[pkt 0 0 0 0 0 0,.bool false]) (by simp[results,Tryz.results21,go_sem,r0,r1,r2,r3,r4,r5]) rfl ⟨rfl,((((((D4.out.b).setCell (Nat.le_refl _) _).setCell (Nat.le_refl _) _).setCell (Nat.le_refl _) _).setCell (Nat.le_refl _) _).setCell (Nat.le_refl _) _).setCell (Nat.le_refl _) _⟩
theorem parse_udp_dst (x:ByteArray) (hx:x.size<=4000) (b c:ByteArray) (w:World) (L:Libs w) (hw:words x 32=[⟨#[117,100,112]⟩,b,c]) (hb1:b.size<=4000) (u v:Int) (hb2:pe b.data.toList=some (u,v)) (hc1:c.size<=4000) (hc2:pe c.data.toList=none) :
  Calls Tryz.prog 21 #[.string x] w fun e w'=>e=.returned (.tuple #[pkt 0 0 0 0 0 0,.bool false])/\Below w.heap.size w w':=by
 have HL:Hid (Libs w):=L
 have HW:Hid (words x 32=[⟨#[117,100,112]⟩,b,c]):=hw
 clear hw
 have HB1:Hid (b.size<=4000):=hb1
 clear hb1
 have HB2:Hid (pe b.data.toList=some (u,v)):=hb2
 clear hb2
 have HC1:Hid (c.size<=4000):=hc1
 clear hc1
 have HC2:Hid (pe c.data.toList=none):=hc2
 clear hc2
 clear L
 go_enter Tryz.func21,Tryz.ntmps21
 go_wp2_with fail
 refine(split_any x hx 32 _ (HL.out.below (((Below.refl _ _).alloc (Nat.le_refl _) _).alloc (by simp) _))).mono ?_
 rintro e w2 ⟨rfl,hc,hb⟩
 have D2:Hid (Prs w w2 (fun _=>0) [⟨#[117,100,112]⟩,b,c]):=prs_new w w2 _ _ _ hb (by rw[HW.out]at hc;simpa using hc)
 rw[HW.out]
 clear hc hb
 have a0:w2.cell? ⟨w.heap.size+1+1,0,none⟩=some (.string ⟨#[117,100,112]⟩):=D2.out.c 0 _ rfl
 go_wp2_with fail
 go_quiet ((go_at_call 33;exact Calls.quiet_of_same (protoText_udp _)))
 clear a0
 have D2c:Hid (Prs w (w2.drewN nq) (fun _=>0) [⟨#[117,100,112]⟩,b,c]):=D2.out.drewN nq
 clear D2
 generalize w2.drewN nq=w2c at *
 have p0:=D2c.out.p.c 0 (by omega)
 have pf0:=D2c.out.p.cf 0 (by omega)
 go_wp2_with fail
 refine(ends_any _ _ _).mono ?_
 rintro e w3 ⟨rfl,hb3⟩
 have D3:Hid (Prs w w3 (updP (fun _=>0) 0 1) [⟨#[117,100,112]⟩,b,c]):=(D2c.out.set (by omega) 1).below hb3
 clear hb3 p0 pf0
 have i0 := Tryz.idx0
 have i1 := Tryz.idx1
 have a1:w3.cell? ⟨w.heap.size+1+1,1,none⟩=some (.string b):=D3.out.c 1 _ rfl
 go_wp2_with fail
 refine wp_loop_rounds 3 ?_
 rw[rounds_succ]
 go_wp2_with fail
 refine(parseEnd_some b HB1.out u v HB2.out _ _ _ (HL.out.below D3.out.b) _ _ (D3.out.p.c 1 (by omega)) (D3.out.p.c 2 (by omega)) (D3.out.p.cf 1 (by omega)) (D3.out.p.cf 2 (by omega))).mono ?_
 rintro e w4 ⟨rfl,w4',hb4,hw4⟩
 have D4:Hid (Prs w w4 (updP (updP (updP (fun _=>0) 0 1) 1 u) 2 v) [⟨#[117,100,112]⟩,b,c]):=by rw[hw4];exact((D3.out.below hb4).set (by omega) u).set (by omega) v
 clear hb4 hw4 a1
 have a2:w4.cell? ⟨w.heap.size+1+1,2,none⟩=some (.string c):=D4.out.c 2 _ rfl
 go_wp2_with fail
 rw[rounds_succ]
 go_wp2_with fail
 refine(parseEnd_none c HC1.out HC2.out _ _ (HL.out.below D4.out.b)).mono ?_
 rintro e w5 ⟨rfl,hb5⟩
 have D5:Hid (Prs w w5 (updP (updP (updP (fun _=>0) 0 1) 1 u) 2 v) [⟨#[117,100,112]⟩,b,c]):=D4.out.below hb5
 clear hb5 a2
 have r0:w5.cell? ⟨w.heap.size,0,none⟩=some (.int .i64 0):=D5.out.r.c 0 (by omega)
 have g0:=D5.out.r.cf 0 (by omega)
 have r1:w5.cell? ⟨w.heap.size,1,none⟩=some (.int .i64 0):=D5.out.r.c 1 (by omega)
 have g1:=D5.out.r.cf 1 (by omega)
 have r2:w5.cell? ⟨w.heap.size,2,none⟩=some (.int .i64 0):=D5.out.r.c 2 (by omega)
 have g2:=D5.out.r.cf 2 (by omega)
 have r3:w5.cell? ⟨w.heap.size,3,none⟩=some (.int .i64 0):=D5.out.r.c 3 (by omega)
 have g3:=D5.out.r.cf 3 (by omega)
 have r4:w5.cell? ⟨w.heap.size,4,none⟩=some (.int .i64 0):=D5.out.r.c 4 (by omega)
 have g4:=D5.out.r.cf 4 (by omega)
 have r5:w5.cell? ⟨w.heap.size,5,none⟩=some (.int .i64 0):=D5.out.r.c 5 (by omega)
 have g5:=D5.out.r.cf 5 (by omega)
 go_wp2_with fail
 exact bodyPost_ret (v:=.tuple #[pkt 0 0 0 0 0 0,.bool false]) (by simp[results,Tryz.results21,go_sem,r0,r1,r2,r3,r4,r5]) rfl ⟨rfl,((((((D5.out.b).setCell (Nat.le_refl _) _).setCell (Nat.le_refl _) _).setCell (Nat.le_refl _) _).setCell (Nat.le_refl _) _).setCell (Nat.le_refl _) _).setCell (Nat.le_refl _) _⟩
theorem parse_udp_ok (x:ByteArray) (hx:x.size<=4000) (b c:ByteArray) (w:World) (L:Libs w) (hw:words x 32=[⟨#[117,100,112]⟩,b,c]) (hb1:b.size<=4000) (u v:Int) (hb2:pe b.data.toList=some (u,v)) (hc1:c.size<=4000) (y z:Int) (hc2:pe c.data.toList=some (y,z))  :
  Calls Tryz.prog 21 #[.string x] w fun e w'=>e=.returned (.tuple #[pkt 1 u v y z 0,.bool true])/\Below w.heap.size w w':=by
 have HL:Hid (Libs w):=L
 have HW:Hid (words x 32=[⟨#[117,100,112]⟩,b,c]):=hw
 clear hw
 have HB1:Hid (b.size<=4000):=hb1
 clear hb1
 have HB2:Hid (pe b.data.toList=some (u,v)):=hb2
 clear hb2
 have HC1:Hid (c.size<=4000):=hc1
 clear hc1
 have HC2:Hid (pe c.data.toList=some (y,z)):=hc2
 clear hc2
 clear L
 go_enter Tryz.func21,Tryz.ntmps21
 go_wp2_with fail
 refine(split_any x hx 32 _ (HL.out.below (((Below.refl _ _).alloc (Nat.le_refl _) _).alloc (by simp) _))).mono ?_
 rintro e w2 ⟨rfl,hc,hb⟩
 have D2:Hid (Prs w w2 (fun _=>0) [⟨#[117,100,112]⟩,b,c]):=prs_new w w2 _ _ _ hb (by rw[HW.out]at hc;simpa using hc)
 rw[HW.out]
 clear hc hb
 have a0:w2.cell? ⟨w.heap.size+1+1,0,none⟩=some (.string ⟨#[117,100,112]⟩):=D2.out.c 0 _ rfl
 go_wp2_with fail
 go_quiet ((go_at_call 33;exact Calls.quiet_of_same (protoText_udp _)))
 clear a0
 have D2c:Hid (Prs w (w2.drewN nq) (fun _=>0) [⟨#[117,100,112]⟩,b,c]):=D2.out.drewN nq
 clear D2
 generalize w2.drewN nq=w2c at *
 have p0:=D2c.out.p.c 0 (by omega)
 have pf0:=D2c.out.p.cf 0 (by omega)
 go_wp2_with fail
 refine(ends_any _ _ _).mono ?_
 rintro e w3 ⟨rfl,hb3⟩
 have D3:Hid (Prs w w3 (updP (fun _=>0) 0 1) [⟨#[117,100,112]⟩,b,c]):=(D2c.out.set (by omega) 1).below hb3
 clear hb3 p0 pf0
 have i0 := Tryz.idx0
 have i1 := Tryz.idx1
 have a1:w3.cell? ⟨w.heap.size+1+1,1,none⟩=some (.string b):=D3.out.c 1 _ rfl
 go_wp2_with fail
 refine wp_loop_rounds 3 ?_
 rw[rounds_succ]
 go_wp2_with fail
 refine(parseEnd_some b HB1.out u v HB2.out _ _ _ (HL.out.below D3.out.b) _ _ (D3.out.p.c 1 (by omega)) (D3.out.p.c 2 (by omega)) (D3.out.p.cf 1 (by omega)) (D3.out.p.cf 2 (by omega))).mono ?_
 rintro e w4 ⟨rfl,w4',hb4,hw4⟩
 have D4:Hid (Prs w w4 (updP (updP (updP (fun _=>0) 0 1) 1 u) 2 v) [⟨#[117,100,112]⟩,b,c]):=by rw[hw4];exact((D3.out.below hb4).set (by omega) u).set (by omega) v
 clear hb4 hw4 a1
 have a2:w4.cell? ⟨w.heap.size+1+1,2,none⟩=some (.string c):=D4.out.c 2 _ rfl
 go_wp2_with fail
 rw[rounds_succ]
 go_wp2_with fail
 refine(parseEnd_some c HC1.out y z HC2.out _ _ _ (HL.out.below D4.out.b) _ _ (D4.out.p.c 3 (by omega)) (D4.out.p.c 4 (by omega)) (D4.out.p.cf 3 (by omega)) (D4.out.p.cf 4 (by omega))).mono ?_
 rintro e w5 ⟨rfl,w5',hb5,hw5⟩
 have D5:Hid (Prs w w5 (updP (updP (updP (updP (updP (fun _=>0) 0 1) 1 u) 2 v) 3 y) 4 z) [⟨#[117,100,112]⟩,b,c]):=by rw[hw5];exact((D4.out.below hb5).set (by omega) y).set (by omega) z
 clear hb5 hw5 a2
 have e0:w5.cell? ⟨w.heap.size+1,0,none⟩=some (.int .i64 1):=D5.out.p.c 0 (by omega)
 have e1:w5.cell? ⟨w.heap.size+1,1,none⟩=some (.int .i64 u):=D5.out.p.c 1 (by omega)
 have e2:w5.cell? ⟨w.heap.size+1,2,none⟩=some (.int .i64 v):=D5.out.p.c 2 (by omega)
 have e3:w5.cell? ⟨w.heap.size+1,3,none⟩=some (.int .i64 y):=D5.out.p.c 3 (by omega)
 have e4:w5.cell? ⟨w.heap.size+1,4,none⟩=some (.int .i64 z):=D5.out.p.c 4 (by omega)
 have e5:w5.cell? ⟨w.heap.size+1,5,none⟩=some (.int .i64 0):=D5.out.p.c 5 (by omega)
 have r0:w5.cell? ⟨w.heap.size,0,none⟩=some (.int .i64 0):=D5.out.r.c 0 (by omega)
 have g0:=D5.out.r.cf 0 (by omega)
 have r1:w5.cell? ⟨w.heap.size,1,none⟩=some (.int .i64 0):=D5.out.r.c 1 (by omega)
 have g1:=D5.out.r.cf 1 (by omega)
 have r2:w5.cell? ⟨w.heap.size,2,none⟩=some (.int .i64 0):=D5.out.r.c 2 (by omega)
 have g2:=D5.out.r.cf 2 (by omega)
 have r3:w5.cell? ⟨w.heap.size,3,none⟩=some (.int .i64 0):=D5.out.r.c 3 (by omega)
 have g3:=D5.out.r.cf 3 (by omega)
 have r4:w5.cell? ⟨w.heap.size,4,none⟩=some (.int .i64 0):=D5.out.r.c 4 (by omega)
 have g4:=D5.out.r.cf 4 (by omega)
 have r5:w5.cell? ⟨w.heap.size,5,none⟩=some (.int .i64 0):=D5.out.r.c 5 (by omega)
 have g5:=D5.out.r.cf 5 (by omega)
 go_wp2_with fail
 rw[rounds_succ]
 go_wp2_with fail
 exact bodyPost_ret (v:=.tuple #[pkt 1 u v y z 0,.bool true]) (by simp[results,Tryz.results21,go_sem,r0,r1,r2,r3,r4,r5]) rfl ⟨rfl,((((((D5.out.b).setCell (Nat.le_refl _) _).setCell (Nat.le_refl _) _).setCell (Nat.le_refl _) _).setCell (Nat.le_refl _) _).setCell (Nat.le_refl _) _).setCell (Nat.le_refl _) _⟩
theorem parse_tcp_no (x:ByteArray) (hx:x.size<=4000) (a b c f:ByteArray) (w:World) (L:Libs w) (hw:words x 32=[a,b,c,f]) (ha:¬a=⟨#[116,99,112]⟩) :
  Calls Tryz.prog 21 #[.string x] w fun e w'=>e=.returned (.tuple #[pkt 0 0 0 0 0 0,.bool false])/\Below w.heap.size w w':=by
 have HL:Hid (Libs w):=L
 have HW:Hid (words x 32=[a,b,c,f]):=hw
 clear hw
 clear L
 have ha1:(a.toList==[116,99,112])=false:=by
  have:=ba_ne (a:=a) (b:=⟨#[116,99,112]⟩) (fun e=>ha e.symm)
  simpa using this
 clear ha
 go_enter Tryz.func21,Tryz.ntmps21
 go_wp2_with fail
 refine(split_any x hx 32 _ (HL.out.below (((Below.refl _ _).alloc (Nat.le_refl _) _).alloc (by simp) _))).mono ?_
 rintro e w2 ⟨rfl,hc,hb⟩
 have D2:Hid (Prs w w2 (fun _=>0) [a,b,c,f]):=prs_new w w2 _ _ _ hb (by rw[HW.out]at hc;simpa using hc)
 rw[HW.out]
 clear hc hb
 go_wp2_with fail
 go_quiet (fail)
 have D2b:Hid (Prs w (w2.drewN nq) (fun _=>0) [a,b,c,f]):=D2.out.drewN nq
 clear D2
 generalize w2.drewN nq=w2b at *
 have a0:w2b.cell? ⟨w.heap.size+1+1,0,none⟩=some (.string a):=D2b.out.c 0 _ rfl
 go_wp2_with fail
 go_quiet ((go_at_call 33;exact Calls.quiet_of_same (protoText_tcp _)))
 clear a0
 have D2c:Hid (Prs w (w2b.drewN nq) (fun _=>0) [a,b,c,f]):=D2b.out.drewN nq
 clear D2b
 generalize w2b.drewN nq=w2c at *
 have r0:w2c.cell? ⟨w.heap.size,0,none⟩=some (.int .i64 0):=D2c.out.r.c 0 (by omega)
 have g0:=D2c.out.r.cf 0 (by omega)
 have r1:w2c.cell? ⟨w.heap.size,1,none⟩=some (.int .i64 0):=D2c.out.r.c 1 (by omega)
 have g1:=D2c.out.r.cf 1 (by omega)
 have r2:w2c.cell? ⟨w.heap.size,2,none⟩=some (.int .i64 0):=D2c.out.r.c 2 (by omega)
 have g2:=D2c.out.r.cf 2 (by omega)
 have r3:w2c.cell? ⟨w.heap.size,3,none⟩=some (.int .i64 0):=D2c.out.r.c 3 (by omega)
 have g3:=D2c.out.r.cf 3 (by omega)
 have r4:w2c.cell? ⟨w.heap.size,4,none⟩=some (.int .i64 0):=D2c.out.r.c 4 (by omega)
 have g4:=D2c.out.r.cf 4 (by omega)
 have r5:w2c.cell? ⟨w.heap.size,5,none⟩=some (.int .i64 0):=D2c.out.r.c 5 (by omega)
 have g5:=D2c.out.r.cf 5 (by omega)
 go_wp2_with fail
 exact bodyPost_ret (v:=.tuple #[pkt 0 0 0 0 0 0,.bool false]) (by simp[results,Tryz.results21,go_sem,r0,r1,r2,r3,r4,r5]) rfl ⟨rfl,((((((D2c.out.b).setCell (Nat.le_refl _) _).setCell (Nat.le_refl _) _).setCell (Nat.le_refl _) _).setCell (Nat.le_refl _) _).setCell (Nat.le_refl _) _).setCell (Nat.le_refl _) _⟩
theorem parse_tcp_src (x:ByteArray) (hx:x.size<=4000) (b c f:ByteArray) (w:World) (L:Libs w) (hw:words x 32=[⟨#[116,99,112]⟩,b,c,f]) (hb1:b.size<=4000) (hb2:pe b.data.toList=none) :
  Calls Tryz.prog 21 #[.string x] w fun e w'=>e=.returned (.tuple #[pkt 0 0 0 0 0 0,.bool false])/\Below w.heap.size w w':=by
 have HL:Hid (Libs w):=L
 have HW:Hid (words x 32=[⟨#[116,99,112]⟩,b,c,f]):=hw
 clear hw
 have HB1:Hid (b.size<=4000):=hb1
 clear hb1
 have HB2:Hid (pe b.data.toList=none):=hb2
 clear hb2
 clear L
 go_enter Tryz.func21,Tryz.ntmps21
 go_wp2_with fail
 refine(split_any x hx 32 _ (HL.out.below (((Below.refl _ _).alloc (Nat.le_refl _) _).alloc (by simp) _))).mono ?_
 rintro e w2 ⟨rfl,hc,hb⟩
 have D2:Hid (Prs w w2 (fun _=>0) [⟨#[116,99,112]⟩,b,c,f]):=prs_new w w2 _ _ _ hb (by rw[HW.out]at hc;simpa using hc)
 rw[HW.out]
 clear hc hb
 go_wp2_with fail
 go_quiet (fail)
 have D2b:Hid (Prs w (w2.drewN nq) (fun _=>0) [⟨#[116,99,112]⟩,b,c,f]):=D2.out.drewN nq
 clear D2
 generalize w2.drewN nq=w2b at *
 have a0:w2b.cell? ⟨w.heap.size+1+1,0,none⟩=some (.string ⟨#[116,99,112]⟩):=D2b.out.c 0 _ rfl
 go_wp2_with fail
 go_quiet ((go_at_call 33;exact Calls.quiet_of_same (protoText_tcp _)))
 clear a0
 have D2c:Hid (Prs w (w2b.drewN nq) (fun _=>0) [⟨#[116,99,112]⟩,b,c,f]):=D2b.out.drewN nq
 clear D2b
 generalize w2b.drewN nq=w2c at *
 have p0:=D2c.out.p.c 0 (by omega)
 have pf0:=D2c.out.p.cf 0 (by omega)
 go_wp2_with fail
 refine(ends_any _ _ _).mono ?_
 rintro e w3 ⟨rfl,hb3⟩
 have D3:Hid (Prs w w3 (updP (fun _=>0) 0 2) [⟨#[116,99,112]⟩,b,c,f]):=(D2c.out.set (by omega) 2).below hb3
 clear hb3 p0 pf0
 have i0 := Tryz.idx0
 have i1 := Tryz.idx1
 have a1:w3.cell? ⟨w.heap.size+1+1,1,none⟩=some (.string b):=D3.out.c 1 _ rfl
 go_wp2_with fail
 refine wp_loop_rounds 3 ?_
 rw[rounds_succ]
 go_wp2_with fail
 refine(parseEnd_none b HB1.out HB2.out _ _ (HL.out.below D3.out.b)).mono ?_
 rintro e w4 ⟨rfl,hb4⟩
 have D4:Hid (Prs w w4 (updP (fun _=>0) 0 2) [⟨#[116,99,112]⟩,b,c,f]):=D3.out.below hb4
 clear hb4 a1
 have r0:w4.cell? ⟨w.heap.size,0,none⟩=some (.int .i64 0):=D4.out.r.c 0 (by omega)
 have g0:=D4.out.r.cf 0 (by omega)
 have r1:w4.cell? ⟨w.heap.size,1,none⟩=some (.int .i64 0):=D4.out.r.c 1 (by omega)
 have g1:=D4.out.r.cf 1 (by omega)
 have r2:w4.cell? ⟨w.heap.size,2,none⟩=some (.int .i64 0):=D4.out.r.c 2 (by omega)
 have g2:=D4.out.r.cf 2 (by omega)
 have r3:w4.cell? ⟨w.heap.size,3,none⟩=some (.int .i64 0):=D4.out.r.c 3 (by omega)
 have g3:=D4.out.r.cf 3 (by omega)
 have r4:w4.cell? ⟨w.heap.size,4,none⟩=some (.int .i64 0):=D4.out.r.c 4 (by omega)
 have g4:=D4.out.r.cf 4 (by omega)
 have r5:w4.cell? ⟨w.heap.size,5,none⟩=some (.int .i64 0):=D4.out.r.c 5 (by omega)
 have g5:=D4.out.r.cf 5 (by omega)
 go_wp2_with fail
 exact bodyPost_ret (v:=.tuple #[pkt 0 0 0 0 0 0,.bool false]) (by simp[results,Tryz.results21,go_sem,r0,r1,r2,r3,r4,r5]) rfl ⟨rfl,((((((D4.out.b).setCell (Nat.le_refl _) _).setCell (Nat.le_refl _) _).setCell (Nat.le_refl _) _).setCell (Nat.le_refl _) _).setCell (Nat.le_refl _) _).setCell (Nat.le_refl _) _⟩
theorem parse_tcp_dst (x:ByteArray) (hx:x.size<=4000) (b c f:ByteArray) (w:World) (L:Libs w) (hw:words x 32=[⟨#[116,99,112]⟩,b,c,f]) (hb1:b.size<=4000) (u v:Int) (hb2:pe b.data.toList=some (u,v)) (hc1:c.size<=4000) (hc2:pe c.data.toList=none) :
  Calls Tryz.prog 21 #[.string x] w fun e w'=>e=.returned (.tuple #[pkt 0 0 0 0 0 0,.bool false])/\Below w.heap.size w w':=by
 have HL:Hid (Libs w):=L
 have HW:Hid (words x 32=[⟨#[116,99,112]⟩,b,c,f]):=hw
 clear hw
 have HB1:Hid (b.size<=4000):=hb1
 clear hb1
 have HB2:Hid (pe b.data.toList=some (u,v)):=hb2
 clear hb2
 have HC1:Hid (c.size<=4000):=hc1
 clear hc1
 have HC2:Hid (pe c.data.toList=none):=hc2
 clear hc2
 clear L
 go_enter Tryz.func21,Tryz.ntmps21
 go_wp2_with fail
 refine(split_any x hx 32 _ (HL.out.below (((Below.refl _ _).alloc (Nat.le_refl _) _).alloc (by simp) _))).mono ?_
 rintro e w2 ⟨rfl,hc,hb⟩
 have D2:Hid (Prs w w2 (fun _=>0) [⟨#[116,99,112]⟩,b,c,f]):=prs_new w w2 _ _ _ hb (by rw[HW.out]at hc;simpa using hc)
 rw[HW.out]
 clear hc hb
 go_wp2_with fail
 go_quiet (fail)
 have D2b:Hid (Prs w (w2.drewN nq) (fun _=>0) [⟨#[116,99,112]⟩,b,c,f]):=D2.out.drewN nq
 clear D2
 generalize w2.drewN nq=w2b at *
 have a0:w2b.cell? ⟨w.heap.size+1+1,0,none⟩=some (.string ⟨#[116,99,112]⟩):=D2b.out.c 0 _ rfl
 go_wp2_with fail
 go_quiet ((go_at_call 33;exact Calls.quiet_of_same (protoText_tcp _)))
 clear a0
 have D2c:Hid (Prs w (w2b.drewN nq) (fun _=>0) [⟨#[116,99,112]⟩,b,c,f]):=D2b.out.drewN nq
 clear D2b
 generalize w2b.drewN nq=w2c at *
 have p0:=D2c.out.p.c 0 (by omega)
 have pf0:=D2c.out.p.cf 0 (by omega)
 go_wp2_with fail
 refine(ends_any _ _ _).mono ?_
 rintro e w3 ⟨rfl,hb3⟩
 have D3:Hid (Prs w w3 (updP (fun _=>0) 0 2) [⟨#[116,99,112]⟩,b,c,f]):=(D2c.out.set (by omega) 2).below hb3
 clear hb3 p0 pf0
 have i0 := Tryz.idx0
 have i1 := Tryz.idx1
 have a1:w3.cell? ⟨w.heap.size+1+1,1,none⟩=some (.string b):=D3.out.c 1 _ rfl
 go_wp2_with fail
 refine wp_loop_rounds 3 ?_
 rw[rounds_succ]
 go_wp2_with fail
 refine(parseEnd_some b HB1.out u v HB2.out _ _ _ (HL.out.below D3.out.b) _ _ (D3.out.p.c 1 (by omega)) (D3.out.p.c 2 (by omega)) (D3.out.p.cf 1 (by omega)) (D3.out.p.cf 2 (by omega))).mono ?_
 rintro e w4 ⟨rfl,w4',hb4,hw4⟩
 have D4:Hid (Prs w w4 (updP (updP (updP (fun _=>0) 0 2) 1 u) 2 v) [⟨#[116,99,112]⟩,b,c,f]):=by rw[hw4];exact((D3.out.below hb4).set (by omega) u).set (by omega) v
 clear hb4 hw4 a1
 have a2:w4.cell? ⟨w.heap.size+1+1,2,none⟩=some (.string c):=D4.out.c 2 _ rfl
 go_wp2_with fail
 rw[rounds_succ]
 go_wp2_with fail
 refine(parseEnd_none c HC1.out HC2.out _ _ (HL.out.below D4.out.b)).mono ?_
 rintro e w5 ⟨rfl,hb5⟩
 have D5:Hid (Prs w w5 (updP (updP (updP (fun _=>0) 0 2) 1 u) 2 v) [⟨#[116,99,112]⟩,b,c,f]):=D4.out.below hb5
 clear hb5 a2
 have r0:w5.cell? ⟨w.heap.size,0,none⟩=some (.int .i64 0):=D5.out.r.c 0 (by omega)
 have g0:=D5.out.r.cf 0 (by omega)
 have r1:w5.cell? ⟨w.heap.size,1,none⟩=some (.int .i64 0):=D5.out.r.c 1 (by omega)
 have g1:=D5.out.r.cf 1 (by omega)
 have r2:w5.cell? ⟨w.heap.size,2,none⟩=some (.int .i64 0):=D5.out.r.c 2 (by omega)
 have g2:=D5.out.r.cf 2 (by omega)
 have r3:w5.cell? ⟨w.heap.size,3,none⟩=some (.int .i64 0):=D5.out.r.c 3 (by omega)
 have g3:=D5.out.r.cf 3 (by omega)
 have r4:w5.cell? ⟨w.heap.size,4,none⟩=some (.int .i64 0):=D5.out.r.c 4 (by omega)
 have g4:=D5.out.r.cf 4 (by omega)
 have r5:w5.cell? ⟨w.heap.size,5,none⟩=some (.int .i64 0):=D5.out.r.c 5 (by omega)
 have g5:=D5.out.r.cf 5 (by omega)
 go_wp2_with fail
 exact bodyPost_ret (v:=.tuple #[pkt 0 0 0 0 0 0,.bool false]) (by simp[results,Tryz.results21,go_sem,r0,r1,r2,r3,r4,r5]) rfl ⟨rfl,((((((D5.out.b).setCell (Nat.le_refl _) _).setCell (Nat.le_refl _) _).setCell (Nat.le_refl _) _).setCell (Nat.le_refl _) _).setCell (Nat.le_refl _) _).setCell (Nat.le_refl _) _⟩
theorem parse_tcp_bad (x:ByteArray) (hx:x.size<=4000) (b c f:ByteArray) (w:World) (L:Libs w) (hw:words x 32=[⟨#[116,99,112]⟩,b,c,f]) (hb1:b.size<=4000) (u v:Int) (hb2:pe b.data.toList=some (u,v)) (hc1:c.size<=4000) (y z:Int) (hc2:pe c.data.toList=some (y,z)) (hf1:f.size<=4000) (T:Nms w) (hne : 12 < w.heap.size) (hf2:pf f=none) :
  Calls Tryz.prog 21 #[.string x] w fun e w'=>e=.returned (.tuple #[pkt 0 0 0 0 0 0,.bool false])/\Below w.heap.size w w':=by
 have HL:Hid (Libs w):=L
 have HW:Hid (words x 32=[⟨#[116,99,112]⟩,b,c,f]):=hw
 clear hw
 have HB1:Hid (b.size<=4000):=hb1
 clear hb1
 have HB2:Hid (pe b.data.toList=some (u,v)):=hb2
 clear hb2
 have HC1:Hid (c.size<=4000):=hc1
 clear hc1
 have HC2:Hid (pe c.data.toList=some (y,z)):=hc2
 clear hc2
 have HF1:Hid (f.size<=4000):=hf1
 clear hf1
 have HT:Hid (Nms w):=T
 clear T
 have HF2:Hid (pf f=none):=hf2
 clear hf2
 clear L
 go_enter Tryz.func21,Tryz.ntmps21
 go_wp2_with fail
 refine(split_any x hx 32 _ (HL.out.below (((Below.refl _ _).alloc (Nat.le_refl _) _).alloc (by simp) _))).mono ?_
 rintro e w2 ⟨rfl,hc,hb⟩
 have D2:Hid (Prs w w2 (fun _=>0) [⟨#[116,99,112]⟩,b,c,f]):=prs_new w w2 _ _ _ hb (by rw[HW.out]at hc;simpa using hc)
 rw[HW.out]
 clear hc hb
 go_wp2_with fail
 go_quiet (fail)
 have D2b:Hid (Prs w (w2.drewN nq) (fun _=>0) [⟨#[116,99,112]⟩,b,c,f]):=D2.out.drewN nq
 clear D2
 generalize w2.drewN nq=w2b at *
 have a0:w2b.cell? ⟨w.heap.size+1+1,0,none⟩=some (.string ⟨#[116,99,112]⟩):=D2b.out.c 0 _ rfl
 go_wp2_with fail
 go_quiet ((go_at_call 33;exact Calls.quiet_of_same (protoText_tcp _)))
 clear a0
 have D2c:Hid (Prs w (w2b.drewN nq) (fun _=>0) [⟨#[116,99,112]⟩,b,c,f]):=D2b.out.drewN nq
 clear D2b
 generalize w2b.drewN nq=w2c at *
 have p0:=D2c.out.p.c 0 (by omega)
 have pf0:=D2c.out.p.cf 0 (by omega)
 go_wp2_with fail
 refine(ends_any _ _ _).mono ?_
 rintro e w3 ⟨rfl,hb3⟩
 have D3:Hid (Prs w w3 (updP (fun _=>0) 0 2) [⟨#[116,99,112]⟩,b,c,f]):=(D2c.out.set (by omega) 2).below hb3
 clear hb3 p0 pf0
 have i0 := Tryz.idx0
 have i1 := Tryz.idx1
 have a1:w3.cell? ⟨w.heap.size+1+1,1,none⟩=some (.string b):=D3.out.c 1 _ rfl
 go_wp2_with fail
 refine wp_loop_rounds 3 ?_
 rw[rounds_succ]
 go_wp2_with fail
 refine(parseEnd_some b HB1.out u v HB2.out _ _ _ (HL.out.below D3.out.b) _ _ (D3.out.p.c 1 (by omega)) (D3.out.p.c 2 (by omega)) (D3.out.p.cf 1 (by omega)) (D3.out.p.cf 2 (by omega))).mono ?_
 rintro e w4 ⟨rfl,w4',hb4,hw4⟩
 have D4:Hid (Prs w w4 (updP (updP (updP (fun _=>0) 0 2) 1 u) 2 v) [⟨#[116,99,112]⟩,b,c,f]):=by rw[hw4];exact((D3.out.below hb4).set (by omega) u).set (by omega) v
 clear hb4 hw4 a1
 have a2:w4.cell? ⟨w.heap.size+1+1,2,none⟩=some (.string c):=D4.out.c 2 _ rfl
 go_wp2_with fail
 rw[rounds_succ]
 go_wp2_with fail
 refine(parseEnd_some c HC1.out y z HC2.out _ _ _ (HL.out.below D4.out.b) _ _ (D4.out.p.c 3 (by omega)) (D4.out.p.c 4 (by omega)) (D4.out.p.cf 3 (by omega)) (D4.out.p.cf 4 (by omega))).mono ?_
 rintro e w5 ⟨rfl,w5',hb5,hw5⟩
 have D5:Hid (Prs w w5 (updP (updP (updP (updP (updP (fun _=>0) 0 2) 1 u) 2 v) 3 y) 4 z) [⟨#[116,99,112]⟩,b,c,f]):=by rw[hw5];exact((D4.out.below hb5).set (by omega) y).set (by omega) z
 clear hb5 hw5 a2
 have a3:w5.cell? ⟨w.heap.size+1+1,3,none⟩=some (.string f):=D5.out.c 3 _ rfl
 have e0:w5.cell? ⟨w.heap.size+1,0,none⟩=some (.int .i64 2):=D5.out.p.c 0 (by omega)
 go_wp2_with fail
 rw[rounds_succ]
 go_wp2_with fail
 refine(parseFlags_any f HF1.out (fun h=>by have:=HF2.out;rw[h]at this;simp[pf]at this) _ _ _ (HL.out.below D5.out.b) (HT.out.below D5.out.b) (D5.out.p.c 5 (by omega)) (D5.out.p.cf 5 (by omega)) (by omega)).mono ?_
 rintro e w6 (⟨r,hr,_,_⟩ | ⟨_,rfl,hg⟩)
 ·have:=HF2.out
  unfold pf at this
  split at this
  ·cases this
  ·rw[hr]at this;cases this
 have D6:Hid (Six w6 w.heap.size (fun _=>0)/\Below w.heap.size w w6):=D5.out.grown hg
 clear hg a3 e0
 have r0:w6.cell? ⟨w.heap.size,0,none⟩=some (.int .i64 0):=D6.out.1.c 0 (by omega)
 have g0:=D6.out.1.cf 0 (by omega)
 have r1:w6.cell? ⟨w.heap.size,1,none⟩=some (.int .i64 0):=D6.out.1.c 1 (by omega)
 have g1:=D6.out.1.cf 1 (by omega)
 have r2:w6.cell? ⟨w.heap.size,2,none⟩=some (.int .i64 0):=D6.out.1.c 2 (by omega)
 have g2:=D6.out.1.cf 2 (by omega)
 have r3:w6.cell? ⟨w.heap.size,3,none⟩=some (.int .i64 0):=D6.out.1.c 3 (by omega)
 have g3:=D6.out.1.cf 3 (by omega)
 have r4:w6.cell? ⟨w.heap.size,4,none⟩=some (.int .i64 0):=D6.out.1.c 4 (by omega)
 have g4:=D6.out.1.cf 4 (by omega)
 have r5:w6.cell? ⟨w.heap.size,5,none⟩=some (.int .i64 0):=D6.out.1.c 5 (by omega)
 have g5:=D6.out.1.cf 5 (by omega)
 go_wp2_with fail
 exact bodyPost_ret (v:=.tuple #[pkt 0 0 0 0 0 0,.bool false]) (by simp[results,Tryz.results21,go_sem,r0,r1,r2,r3,r4,r5]) rfl ⟨rfl,((((((D6.out.2).setCell (Nat.le_refl _) _).setCell (Nat.le_refl _) _).setCell (Nat.le_refl _) _).setCell (Nat.le_refl _) _).setCell (Nat.le_refl _) _).setCell (Nat.le_refl _) _⟩
theorem parse_tcp_dash (x:ByteArray) (hx:x.size<=4000) (b c:ByteArray) (w:World) (L:Libs w) (hw:words x 32=[⟨#[116,99,112]⟩,b,c,⟨#[45]⟩]) (hb1:b.size<=4000) (u v:Int) (hb2:pe b.data.toList=some (u,v)) (hc1:c.size<=4000) (y z:Int) (hc2:pe c.data.toList=some (y,z))  :
  Calls Tryz.prog 21 #[.string x] w fun e w'=>e=.returned (.tuple #[pkt 2 u v y z 0,.bool true])/\Below w.heap.size w w':=by
 have HL:Hid (Libs w):=L
 have HW:Hid (words x 32=[⟨#[116,99,112]⟩,b,c,⟨#[45]⟩]):=hw
 clear hw
 have HB1:Hid (b.size<=4000):=hb1
 clear hb1
 have HB2:Hid (pe b.data.toList=some (u,v)):=hb2
 clear hb2
 have HC1:Hid (c.size<=4000):=hc1
 clear hc1
 have HC2:Hid (pe c.data.toList=some (y,z)):=hc2
 clear hc2
 clear L
 go_enter Tryz.func21,Tryz.ntmps21
 go_wp2_with fail
 refine(split_any x hx 32 _ (HL.out.below (((Below.refl _ _).alloc (Nat.le_refl _) _).alloc (by simp) _))).mono ?_
 rintro e w2 ⟨rfl,hc,hb⟩
 have D2:Hid (Prs w w2 (fun _=>0) [⟨#[116,99,112]⟩,b,c,⟨#[45]⟩]):=prs_new w w2 _ _ _ hb (by rw[HW.out]at hc;simpa using hc)
 rw[HW.out]
 clear hc hb
 go_wp2_with fail
 go_quiet (fail)
 have D2b:Hid (Prs w (w2.drewN nq) (fun _=>0) [⟨#[116,99,112]⟩,b,c,⟨#[45]⟩]):=D2.out.drewN nq
 clear D2
 generalize w2.drewN nq=w2b at *
 have a0:w2b.cell? ⟨w.heap.size+1+1,0,none⟩=some (.string ⟨#[116,99,112]⟩):=D2b.out.c 0 _ rfl
 go_wp2_with fail
 go_quiet ((go_at_call 33;exact Calls.quiet_of_same (protoText_tcp _)))
 clear a0
 have D2c:Hid (Prs w (w2b.drewN nq) (fun _=>0) [⟨#[116,99,112]⟩,b,c,⟨#[45]⟩]):=D2b.out.drewN nq
 clear D2b
 generalize w2b.drewN nq=w2c at *
 have p0:=D2c.out.p.c 0 (by omega)
 have pf0:=D2c.out.p.cf 0 (by omega)
 go_wp2_with fail
 refine(ends_any _ _ _).mono ?_
 rintro e w3 ⟨rfl,hb3⟩
 have D3:Hid (Prs w w3 (updP (fun _=>0) 0 2) [⟨#[116,99,112]⟩,b,c,⟨#[45]⟩]):=(D2c.out.set (by omega) 2).below hb3
 clear hb3 p0 pf0
 have i0 := Tryz.idx0
 have i1 := Tryz.idx1
 have a1:w3.cell? ⟨w.heap.size+1+1,1,none⟩=some (.string b):=D3.out.c 1 _ rfl
 go_wp2_with fail
 refine wp_loop_rounds 3 ?_
 rw[rounds_succ]
 go_wp2_with fail
 refine(parseEnd_some b HB1.out u v HB2.out _ _ _ (HL.out.below D3.out.b) _ _ (D3.out.p.c 1 (by omega)) (D3.out.p.c 2 (by omega)) (D3.out.p.cf 1 (by omega)) (D3.out.p.cf 2 (by omega))).mono ?_
 rintro e w4 ⟨rfl,w4',hb4,hw4⟩
 have D4:Hid (Prs w w4 (updP (updP (updP (fun _=>0) 0 2) 1 u) 2 v) [⟨#[116,99,112]⟩,b,c,⟨#[45]⟩]):=by rw[hw4];exact((D3.out.below hb4).set (by omega) u).set (by omega) v
 clear hb4 hw4 a1
 have a2:w4.cell? ⟨w.heap.size+1+1,2,none⟩=some (.string c):=D4.out.c 2 _ rfl
 go_wp2_with fail
 rw[rounds_succ]
 go_wp2_with fail
 refine(parseEnd_some c HC1.out y z HC2.out _ _ _ (HL.out.below D4.out.b) _ _ (D4.out.p.c 3 (by omega)) (D4.out.p.c 4 (by omega)) (D4.out.p.cf 3 (by omega)) (D4.out.p.cf 4 (by omega))).mono ?_
 rintro e w5 ⟨rfl,w5',hb5,hw5⟩
 have D5:Hid (Prs w w5 (updP (updP (updP (updP (updP (fun _=>0) 0 2) 1 u) 2 v) 3 y) 4 z) [⟨#[116,99,112]⟩,b,c,⟨#[45]⟩]):=by rw[hw5];exact((D4.out.below hb5).set (by omega) y).set (by omega) z
 clear hb5 hw5 a2
 have a3:w5.cell? ⟨w.heap.size+1+1,3,none⟩=some (.string ⟨#[45]⟩):=D5.out.c 3 _ rfl
 have e0:w5.cell? ⟨w.heap.size+1,0,none⟩=some (.int .i64 2):=D5.out.p.c 0 (by omega)
 go_wp2_with fail
 rw[rounds_succ]
 go_wp2_with fail
 refine(parseFlags_dash _ _ _).mono ?_
 rintro e w6 ⟨rfl,hw6⟩
 subst hw6
 clear a3 e0
 have e0:w6.cell? ⟨w.heap.size+1,0,none⟩=some (.int .i64 2):=D5.out.p.c 0 (by omega)
 have e1:w6.cell? ⟨w.heap.size+1,1,none⟩=some (.int .i64 u):=D5.out.p.c 1 (by omega)
 have e2:w6.cell? ⟨w.heap.size+1,2,none⟩=some (.int .i64 v):=D5.out.p.c 2 (by omega)
 have e3:w6.cell? ⟨w.heap.size+1,3,none⟩=some (.int .i64 y):=D5.out.p.c 3 (by omega)
 have e4:w6.cell? ⟨w.heap.size+1,4,none⟩=some (.int .i64 z):=D5.out.p.c 4 (by omega)
 have e5:w6.cell? ⟨w.heap.size+1,5,none⟩=some (.int .i64 0):=D5.out.p.c 5 (by omega)
 have r0:w6.cell? ⟨w.heap.size,0,none⟩=some (.int .i64 0):=D5.out.r.c 0 (by omega)
 have g0:=D5.out.r.cf 0 (by omega)
 have r1:w6.cell? ⟨w.heap.size,1,none⟩=some (.int .i64 0):=D5.out.r.c 1 (by omega)
 have g1:=D5.out.r.cf 1 (by omega)
 have r2:w6.cell? ⟨w.heap.size,2,none⟩=some (.int .i64 0):=D5.out.r.c 2 (by omega)
 have g2:=D5.out.r.cf 2 (by omega)
 have r3:w6.cell? ⟨w.heap.size,3,none⟩=some (.int .i64 0):=D5.out.r.c 3 (by omega)
 have g3:=D5.out.r.cf 3 (by omega)
 have r4:w6.cell? ⟨w.heap.size,4,none⟩=some (.int .i64 0):=D5.out.r.c 4 (by omega)
 have g4:=D5.out.r.cf 4 (by omega)
 have r5:w6.cell? ⟨w.heap.size,5,none⟩=some (.int .i64 0):=D5.out.r.c 5 (by omega)
 have g5:=D5.out.r.cf 5 (by omega)
 go_wp2_with fail
 exact bodyPost_ret (v:=.tuple #[pkt 2 u v y z 0,.bool true]) (by simp[results,Tryz.results21,go_sem,r0,r1,r2,r3,r4,r5]) rfl ⟨rfl,((((((D5.out.b).setCell (Nat.le_refl _) _).setCell (Nat.le_refl _) _).setCell (Nat.le_refl _) _).setCell (Nat.le_refl _) _).setCell (Nat.le_refl _) _).setCell (Nat.le_refl _) _⟩
theorem parse_tcp_ok (x:ByteArray) (hx:x.size<=4000) (b c f:ByteArray) (w:World) (L:Libs w) (hw:words x 32=[⟨#[116,99,112]⟩,b,c,f]) (hb1:b.size<=4000) (u v:Int) (hb2:pe b.data.toList=some (u,v)) (hc1:c.size<=4000) (y z:Int) (hc2:pe c.data.toList=some (y,z)) (hf1:f.size<=4000) (T:Nms w) (hne : 12 < w.heap.size) (g:Int) (hd:¬f=⟨#[45]⟩) (hf2:orAll (words f 43) 0=some g) :
  Calls Tryz.prog 21 #[.string x] w fun e w'=>e=.returned (.tuple #[pkt 2 u v y z g,.bool true])/\Below w.heap.size w w':=by
 have HL:Hid (Libs w):=L
 have HW:Hid (words x 32=[⟨#[116,99,112]⟩,b,c,f]):=hw
 clear hw
 have HB1:Hid (b.size<=4000):=hb1
 clear hb1
 have HB2:Hid (pe b.data.toList=some (u,v)):=hb2
 clear hb2
 have HC1:Hid (c.size<=4000):=hc1
 clear hc1
 have HC2:Hid (pe c.data.toList=some (y,z)):=hc2
 clear hc2
 have HF1:Hid (f.size<=4000):=hf1
 clear hf1
 have HT:Hid (Nms w):=T
 clear T
 have HD:Hid (¬f=⟨#[45]⟩):=hd
 clear hd
 have HF2:Hid (orAll (words f 43) 0=some g):=hf2
 clear hf2
 clear L
 go_enter Tryz.func21,Tryz.ntmps21
 go_wp2_with fail
 refine(split_any x hx 32 _ (HL.out.below (((Below.refl _ _).alloc (Nat.le_refl _) _).alloc (by simp) _))).mono ?_
 rintro e w2 ⟨rfl,hc,hb⟩
 have D2:Hid (Prs w w2 (fun _=>0) [⟨#[116,99,112]⟩,b,c,f]):=prs_new w w2 _ _ _ hb (by rw[HW.out]at hc;simpa using hc)
 rw[HW.out]
 clear hc hb
 go_wp2_with fail
 go_quiet (fail)
 have D2b:Hid (Prs w (w2.drewN nq) (fun _=>0) [⟨#[116,99,112]⟩,b,c,f]):=D2.out.drewN nq
 clear D2
 generalize w2.drewN nq=w2b at *
 have a0:w2b.cell? ⟨w.heap.size+1+1,0,none⟩=some (.string ⟨#[116,99,112]⟩):=D2b.out.c 0 _ rfl
 go_wp2_with fail
 go_quiet ((go_at_call 33;exact Calls.quiet_of_same (protoText_tcp _)))
 clear a0
 have D2c:Hid (Prs w (w2b.drewN nq) (fun _=>0) [⟨#[116,99,112]⟩,b,c,f]):=D2b.out.drewN nq
 clear D2b
 generalize w2b.drewN nq=w2c at *
 have p0:=D2c.out.p.c 0 (by omega)
 have pf0:=D2c.out.p.cf 0 (by omega)
 go_wp2_with fail
 refine(ends_any _ _ _).mono ?_
 rintro e w3 ⟨rfl,hb3⟩
 have D3:Hid (Prs w w3 (updP (fun _=>0) 0 2) [⟨#[116,99,112]⟩,b,c,f]):=(D2c.out.set (by omega) 2).below hb3
 clear hb3 p0 pf0
 have i0 := Tryz.idx0
 have i1 := Tryz.idx1
 have a1:w3.cell? ⟨w.heap.size+1+1,1,none⟩=some (.string b):=D3.out.c 1 _ rfl
 go_wp2_with fail
 refine wp_loop_rounds 3 ?_
 rw[rounds_succ]
 go_wp2_with fail
 refine(parseEnd_some b HB1.out u v HB2.out _ _ _ (HL.out.below D3.out.b) _ _ (D3.out.p.c 1 (by omega)) (D3.out.p.c 2 (by omega)) (D3.out.p.cf 1 (by omega)) (D3.out.p.cf 2 (by omega))).mono ?_
 rintro e w4 ⟨rfl,w4',hb4,hw4⟩
 have D4:Hid (Prs w w4 (updP (updP (updP (fun _=>0) 0 2) 1 u) 2 v) [⟨#[116,99,112]⟩,b,c,f]):=by rw[hw4];exact((D3.out.below hb4).set (by omega) u).set (by omega) v
 clear hb4 hw4 a1
 have a2:w4.cell? ⟨w.heap.size+1+1,2,none⟩=some (.string c):=D4.out.c 2 _ rfl
 go_wp2_with fail
 rw[rounds_succ]
 go_wp2_with fail
 refine(parseEnd_some c HC1.out y z HC2.out _ _ _ (HL.out.below D4.out.b) _ _ (D4.out.p.c 3 (by omega)) (D4.out.p.c 4 (by omega)) (D4.out.p.cf 3 (by omega)) (D4.out.p.cf 4 (by omega))).mono ?_
 rintro e w5 ⟨rfl,w5',hb5,hw5⟩
 have D5:Hid (Prs w w5 (updP (updP (updP (updP (updP (fun _=>0) 0 2) 1 u) 2 v) 3 y) 4 z) [⟨#[116,99,112]⟩,b,c,f]):=by rw[hw5];exact((D4.out.below hb5).set (by omega) y).set (by omega) z
 clear hb5 hw5 a2
 have a3:w5.cell? ⟨w.heap.size+1+1,3,none⟩=some (.string f):=D5.out.c 3 _ rfl
 have e0:w5.cell? ⟨w.heap.size+1,0,none⟩=some (.int .i64 2):=D5.out.p.c 0 (by omega)
 go_wp2_with fail
 rw[rounds_succ]
 go_wp2_with fail
 refine(parseFlags_any f HF1.out HD.out _ _ _ (HL.out.below D5.out.b) (HT.out.below D5.out.b) (D5.out.p.c 5 (by omega)) (D5.out.p.cf 5 (by omega)) (by omega)).mono ?_
 rintro e w6 (⟨r,hr,rfl,hW⟩ | ⟨hr,_,_⟩)
 case inr=>rw[HF2.out]at hr;cases hr
 obtain rfl:r=g:=by rw[HF2.out]at hr;exact(Option.some.inj hr).symm
 have D6:Hid (Prs w w6 (updP (updP (updP (updP (updP (updP (fun _=>0) 0 2) 1 u) 2 v) 3 y) 4 z) 5 r) [⟨#[116,99,112]⟩,b,c,f]):=D5.out.wr hW
 clear hW a3 e0 hr
 have e0:w6.cell? ⟨w.heap.size+1,0,none⟩=some (.int .i64 2):=D6.out.p.c 0 (by omega)
 have e1:w6.cell? ⟨w.heap.size+1,1,none⟩=some (.int .i64 u):=D6.out.p.c 1 (by omega)
 have e2:w6.cell? ⟨w.heap.size+1,2,none⟩=some (.int .i64 v):=D6.out.p.c 2 (by omega)
 have e3:w6.cell? ⟨w.heap.size+1,3,none⟩=some (.int .i64 y):=D6.out.p.c 3 (by omega)
 have e4:w6.cell? ⟨w.heap.size+1,4,none⟩=some (.int .i64 z):=D6.out.p.c 4 (by omega)
 have e5:w6.cell? ⟨w.heap.size+1,5,none⟩=some (.int .i64 r):=D6.out.p.c 5 (by omega)
 have r0:w6.cell? ⟨w.heap.size,0,none⟩=some (.int .i64 0):=D6.out.r.c 0 (by omega)
 have g0:=D6.out.r.cf 0 (by omega)
 have r1:w6.cell? ⟨w.heap.size,1,none⟩=some (.int .i64 0):=D6.out.r.c 1 (by omega)
 have g1:=D6.out.r.cf 1 (by omega)
 have r2:w6.cell? ⟨w.heap.size,2,none⟩=some (.int .i64 0):=D6.out.r.c 2 (by omega)
 have g2:=D6.out.r.cf 2 (by omega)
 have r3:w6.cell? ⟨w.heap.size,3,none⟩=some (.int .i64 0):=D6.out.r.c 3 (by omega)
 have g3:=D6.out.r.cf 3 (by omega)
 have r4:w6.cell? ⟨w.heap.size,4,none⟩=some (.int .i64 0):=D6.out.r.c 4 (by omega)
 have g4:=D6.out.r.cf 4 (by omega)
 have r5:w6.cell? ⟨w.heap.size,5,none⟩=some (.int .i64 0):=D6.out.r.c 5 (by omega)
 have g5:=D6.out.r.cf 5 (by omega)
 go_wp2_with fail
 exact bodyPost_ret (v:=.tuple #[pkt 2 u v y z r,.bool true]) (by simp[results,Tryz.results21,go_sem,r0,r1,r2,r3,r4,r5]) rfl ⟨rfl,((((((D6.out.b).setCell (Nat.le_refl _) _).setCell (Nat.le_refl _) _).setCell (Nat.le_refl _) _).setCell (Nat.le_refl _) _).setCell (Nat.le_refl _) _).setCell (Nat.le_refl _) _⟩
end
theorem splitB_size (sep:ByteArray) (save:Nat):∀(k:Nat) (s y:ByteArray),y ∈ Lib.splitB sep save k s->y.size<=s.size
 | 0,s,y,h=>by
  simp[Lib.splitB]at h;subst h;exact Nat.le_refl _
 | k+1,s,y,h=>by
  unfold Lib.splitB at h
  split at h
  ·simp at h;subst h;exact Nat.le_refl _
  ·rw[List.mem_cons]at h
   rcases h with h | h
   ·subst h;rw[ByteArray.size_extract];omega
   ·have:=splitB_size sep save k _ y h
    rw[ByteArray.size_extract]at this;omega
theorem words_size {x y:ByteArray} {c:UInt8} (h:y ∈ words x c):y.size<=x.size:=splitB_size _ _ _ _ _ h
theorem parse_none (x:ByteArray) (hx:x.size<=4000) (w:World) (L:Libs w) (T:Nms w) (h:parseP x=none) :
  Calls Tryz.prog 21 #[.string x] w fun e w'=>e=.returned (.tuple #[pkt 0 0 0 0 0 0,.bool false])/\Below w.heap.size w w':=by
 have hne:=block_lt T.1
 have hz:∀y,y ∈ words x 32->y.size<=4000:=fun y hy=>Nat.le_trans (words_size hy) hx
 unfold parseP at h
 split at h
 ·rename_i a b c hw
  rw[hw]at hz
  split at h
  ·rename_i ha;subst ha
   cases hb:pe b.data.toList with
   | none=>exact parse_udp_src x hx b c w L hw (hz b (by simp)) hb
   | some s =>
    rw[hb]at h
    cases hc:pe c.data.toList with
    | none=>exact parse_udp_dst x hx b c w L hw (hz b (by simp)) s.1 s.2 hb (hz c (by simp)) hc
    | some d=>rw[hc]at h;cases h
  ·rename_i ha;exact parse_udp_no x hx a b c w L hw ha
 ·rename_i a b c f hw
  rw[hw]at hz
  split at h
  ·rename_i ha;subst ha
   cases hb:pe b.data.toList with
   | none=>exact parse_tcp_src x hx b c f w L hw (hz b (by simp)) hb
   | some s =>
    rw[hb]at h
    cases hc:pe c.data.toList with
    | none=>exact parse_tcp_dst x hx b c f w L hw (hz b (by simp)) s.1 s.2 hb (hz c (by simp)) hc
    | some d =>
     rw[hc]at h
     cases hf:pf f with
     | none=>exact parse_tcp_bad x hx b c f w L hw (hz b (by simp)) s.1 s.2 hb (hz c (by simp)) d.1 d.2 hc (hz f (by simp)) T hne hf
     | some g=>rw[hf]at h;cases h
  ·rename_i ha;exact parse_tcp_no x hx a b c f w L hw ha
 ·rename_i h3 h4
  refine parse_odd x hx w L ?_ ?_
  ·intro e
   rcases hw:words x 32 with _ | ⟨a,_ | ⟨b,_ | ⟨c,_ | ⟨d,r⟩⟩⟩⟩
   all_goals first | (rw[hw]at e;simp at e;done) | exact h3 _ _ _ hw
  ·intro e
   rcases hw:words x 32 with _ | ⟨a,_ | ⟨b,_ | ⟨c,_ | ⟨d,_ | ⟨f,r⟩⟩⟩⟩⟩
   all_goals first | (rw[hw]at e;simp at e;done) | exact h4 _ _ _ _ hw
theorem parse_some (x:ByteArray) (hx:x.size<=4000) (w:World) (L:Libs w) (T:Nms w) (pr u v y z fl:Int) (h:parseP x=some (pr,u,v,y,z,fl)) :
  Calls Tryz.prog 21 #[.string x] w fun e w'=>e=.returned (.tuple #[pkt pr u v y z fl,.bool true])/\Below w.heap.size w w':=by
 have hne:=block_lt T.1
 have hz:∀y,y ∈ words x 32->y.size<=4000:=fun y hy=>Nat.le_trans (words_size hy) hx
 unfold parseP at h
 split at h
 ·rename_i a b c hw
  rw[hw]at hz
  split at h
  ·rename_i ha;subst ha
   cases hb:pe b.data.toList with
   | none=>rw[hb]at h;cases h
   | some s =>
    rw[hb]at h
    cases hc:pe c.data.toList with
    | none=>rw[hc]at h;cases h
    | some d =>
     rw[hc]at h
     simp only[Option.bind_some,Option.map_some,Option.some.injEq,Prod.mk.injEq]at h
     obtain⟨rfl,rfl,rfl,rfl,rfl,rfl⟩:=h
     exact parse_udp_ok x hx b c w L hw (hz b (by simp)) _ _ hb (hz c (by simp)) _ _ hc
  ·cases h
 ·rename_i a b c f hw
  rw[hw]at hz
  split at h
  ·rename_i ha;subst ha
   cases hb:pe b.data.toList with
   | none=>rw[hb]at h;cases h
   | some s =>
    rw[hb]at h
    cases hc:pe c.data.toList with
    | none=>rw[hc]at h;cases h
    | some d =>
     rw[hc]at h
     cases hf:pf f with
     | none=>rw[hf]at h;cases h
     | some g =>
      rw[hf]at h
      simp only[Option.bind_some,Option.map_some,Option.some.injEq,Prod.mk.injEq]at h
      obtain⟨rfl,rfl,rfl,rfl,rfl,rfl⟩:=h
      unfold pf at hf
      split at hf
      ·rename_i hd;subst hd
       obtain rfl:g=0:=(Option.some.inj hf).symm
       exact parse_tcp_dash x hx b c w L hw (hz b (by simp)) _ _ hb (hz c (by simp)) _ _ hc
      ·rename_i hd
       exact parse_tcp_ok x hx b c f w L hw (hz b (by simp)) _ _ hb (hz c (by simp)) _ _ hc (hz f (by simp)) T hne g hd hf
  ·cases h
 ·cases h
structure EnvL (w:World) (s:Nat->Addr):Prop where
 e:Env w s
 l:Libs w
theorem EnvL.below {w w':World} {s:Nat->Addr} (E:EnvL w s) (h:Below w.heap.size w w'):EnvL w' s:=⟨E.e.below h,E.l.below h⟩
theorem errV_pos (s:Nat->Addr) (k:Nat):errV s (k+1)=.iface 312 (.pointer (some (s k))):=rfl
theorem read_none (x:ByteArray) (hx:x.size<=4000) (s:Nat->Addr) (w:World) (E:EnvL w s) (h:parseP x=none) :
  Calls Tryz.prog 11 #[.string x] w fun e w'=>e=.returned (.tuple #[pkt 0 0 0 0 0 0,errV s 1])/\Below w.heap.size w w':=by
 have HE:Hid (EnvL w s):=E
 have H:Hid (parseP x=none):=h
 clear h
 clear E
 have b1:Hid (Below w.heap.size w (w.alloc (.cells #[.int .i64 0,.int .i64 0,.int .i64 0,.int .i64 0,.int .i64 0,.int .i64 0] 41))):=(Below.refl _ _).alloc (Nat.le_refl _) _
 go_enter Tryz.func11,Tryz.ntmps11
 go_wp2_with fail
 refine(parse_none x hx _ (HE.out.l.below b1.out) (HE.out.e.n.below b1.out) H.out).mono ?_
 rintro e w1 ⟨rfl,hb1⟩
 have R1:Hid (Six (w1.alloc (.cells #[.int .i64 0,.int .i64 0,.int .i64 0,.int .i64 0,.int .i64 0,.int .i64 0] 41)) w.heap.size (fun _=>0)):=((six_new w _).below hb1).below ((Below.refl _ _).alloc (Nat.le_refl _) _)
 have HB1:Hid (Below w.heap.size w w1):=below_all b1.out hb1
 have HB2:Hid (Below w.heap.size w (w1.alloc (.cells #[.int .i64 0,.int .i64 0,.int .i64 0,.int .i64 0,.int .i64 0,.int .i64 0] 41))):=HB1.out.alloc HB1.out.size _
 have E2:Hid (EnvL (w1.alloc (.cells #[.int .i64 0,.int .i64 0,.int .i64 0,.int .i64 0,.int .i64 0,.int .i64 0] 41)) s):=HE.out.below HB2.out
 clear hb1
 go_wp2_with fail
 generalize w1.alloc (.cells #[.int .i64 0,.int .i64 0,.int .i64 0,.int .i64 0,.int .i64 0,.int .i64 0] 41)=w2 at *
 have d0:=E2.out.e.s.c0
 have dx:(w2.setCell ⟨w.heap.size,0,none⟩ (.int .i64 0)).cell? ⟨1,0,none⟩=some (.iface 312 (.pointer (some (s 0)))):=((World.cell?_setCell_other _ _ _ _ (fun e=>by have:=congrArg Addr.block e;have h0:=block_lt HE.out.e.s.c0;simp at this h0;omega)).trans d0)
 have r0:w2.cell? ⟨w.heap.size,0,none⟩=some (.int .i64 0):=R1.out.c 0 (by omega)
 have g0:=R1.out.cf 0 (by omega)
 have r1:w2.cell? ⟨w.heap.size,1,none⟩=some (.int .i64 0):=R1.out.c 1 (by omega)
 have g1:=R1.out.cf 1 (by omega)
 have r2:w2.cell? ⟨w.heap.size,2,none⟩=some (.int .i64 0):=R1.out.c 2 (by omega)
 have g2:=R1.out.cf 2 (by omega)
 have r3:w2.cell? ⟨w.heap.size,3,none⟩=some (.int .i64 0):=R1.out.c 3 (by omega)
 have g3:=R1.out.cf 3 (by omega)
 have r4:w2.cell? ⟨w.heap.size,4,none⟩=some (.int .i64 0):=R1.out.c 4 (by omega)
 have g4:=R1.out.cf 4 (by omega)
 have r5:w2.cell? ⟨w.heap.size,5,none⟩=some (.int .i64 0):=R1.out.c 5 (by omega)
 have g5:=R1.out.cf 5 (by omega)
 go_region
 all_goals go_wp2_with fail
 all_goals exact bodyPost_ret (v:=.tuple #[pkt 0 0 0 0 0 0,.iface 312 (.pointer (some (s 0)))]) (by simp[results,Tryz.results11,go_sem,r0,r1,r2,r3,r4,r5]) rfl ⟨rfl,by
  repeat (first | refine Below.setCell ?_ (by exact Nat.le_refl _) _ | refine Below.drew ?_ | exact HB2.out)⟩
theorem read_err (x:ByteArray) (hx:x.size<=4000) (pr u v y z fl:Int) (k:Nat) (s:Nat->Addr) (w:World) (E:EnvL w s) (h:parseP x=some (pr,u,v,y,z,fl)) (h2:pkErr pr u v y z fl=k+1) :
  Calls Tryz.prog 11 #[.string x] w fun e w'=>e=.returned (.tuple #[pkt 0 0 0 0 0 0,errV s 1])/\Below w.heap.size w w':=by
 have HE:Hid (EnvL w s):=E
 have H:Hid (parseP x=some (pr,u,v,y,z,fl)):=h
 clear h
 have H2:Hid (pkErr pr u v y z fl=k+1):=h2
 clear h2
 clear E
 have b1:Hid (Below w.heap.size w (w.alloc (.cells #[.int .i64 0,.int .i64 0,.int .i64 0,.int .i64 0,.int .i64 0,.int .i64 0] 41))):=(Below.refl _ _).alloc (Nat.le_refl _) _
 go_enter Tryz.func11,Tryz.ntmps11
 go_wp2_with fail
 refine(parse_some x hx _ (HE.out.l.below b1.out) (HE.out.e.n.below b1.out) pr u v y z fl H.out).mono ?_
 rintro e w1 ⟨rfl,hb1⟩
 have b2:Below w1.heap.size w1 (w1.alloc (.cells #[.int .i64 pr,.int .i64 u,.int .i64 v,.int .i64 y,.int .i64 z,.int .i64 fl] 41)):=(Below.refl _ _).alloc (Nat.le_refl _) _
 have R1:Hid (Six (w1.alloc (.cells #[.int .i64 pr,.int .i64 u,.int .i64 v,.int .i64 y,.int .i64 z,.int .i64 fl] 41)) w.heap.size (fun _=>0)):=((six_new w _).below hb1).below b2
 have HB2:Hid (Below w.heap.size w (w1.alloc (.cells #[.int .i64 pr,.int .i64 u,.int .i64 v,.int .i64 y,.int .i64 z,.int .i64 fl] 41))):=below_all (below_all b1.out hb1) b2
 have K2:Hid (PkS6 (w1.alloc (.cells #[.int .i64 pr,.int .i64 u,.int .i64 v,.int .i64 y,.int .i64 z,.int .i64 fl] 41)) w1.heap.size pr u v y z fl):=⟨by simp,by simp,by simp,by simp,by simp,by simp⟩
 have E2:Hid (EnvL (w1.alloc (.cells #[.int .i64 pr,.int .i64 u,.int .i64 v,.int .i64 y,.int .i64 z,.int .i64 fl] 41)) s):=HE.out.below HB2.out
 clear hb1 b2
 go_wp2_with fail
 refine(text_err k pr u v y z fl s _ (fun W S=>by have:=check_any pr u v y z fl s W S.sen;rw[H2.out]at this;exact this) E2.out.e.s).mono ?_
 rintro e w3 ⟨rfl,hb3⟩
 have R3:Hid (Six w3 w.heap.size (fun _=>0)):=R1.out.below hb3
 have HB3:Hid (Below w.heap.size w w3):=below_all HB2.out hb3
 have d0:=(E2.out.below hb3).e.s.c0
 have dx:(w3.setCell ⟨w.heap.size,0,none⟩ (.int .i64 0)).cell? ⟨1,0,none⟩=some (.iface 312 (.pointer (some (s 0)))):=((World.cell?_setCell_other _ _ _ _ (fun e=>by have:=congrArg Addr.block e;have h0:=block_lt HE.out.e.s.c0;simp at this h0;omega)).trans d0)
 rw[errV_pos]
 clear hb3
 have r0:w3.cell? ⟨w.heap.size,0,none⟩=some (.int .i64 0):=R3.out.c 0 (by omega)
 have g0:=R3.out.cf 0 (by omega)
 have r1:w3.cell? ⟨w.heap.size,1,none⟩=some (.int .i64 0):=R3.out.c 1 (by omega)
 have g1:=R3.out.cf 1 (by omega)
 have r2:w3.cell? ⟨w.heap.size,2,none⟩=some (.int .i64 0):=R3.out.c 2 (by omega)
 have g2:=R3.out.cf 2 (by omega)
 have r3:w3.cell? ⟨w.heap.size,3,none⟩=some (.int .i64 0):=R3.out.c 3 (by omega)
 have g3:=R3.out.cf 3 (by omega)
 have r4:w3.cell? ⟨w.heap.size,4,none⟩=some (.int .i64 0):=R3.out.c 4 (by omega)
 have g4:=R3.out.cf 4 (by omega)
 have r5:w3.cell? ⟨w.heap.size,5,none⟩=some (.int .i64 0):=R3.out.c 5 (by omega)
 have g5:=R3.out.cf 5 (by omega)
 go_wp2_with fail
 go_region
 all_goals go_wp2_with fail
 all_goals exact bodyPost_ret (v:=.tuple #[pkt 0 0 0 0 0 0,.iface 312 (.pointer (some (s 0)))]) (by simp[results,Tryz.results11,go_sem,r0,r1,r2,r3,r4,r5]) rfl ⟨rfl,by
  repeat (first | refine Below.setCell ?_ (by exact Nat.le_refl _) _ | refine Below.drew ?_ | exact HB3.out)⟩
theorem read_diff (x:ByteArray) (hx:x.size<=4000) (pr u v y z fl:Int) (s:Nat->Addr) (w:World) (E:EnvL w s) (h:parseP x=some (pr,u,v,y,z,fl)) (h2:PkOk pr u v y z fl) (h3:¬x=⟨(pText pr u v y z fl).toArray⟩) :
  Calls Tryz.prog 11 #[.string x] w fun e w'=>e=.returned (.tuple #[pkt 0 0 0 0 0 0,errV s 1])/\Below w.heap.size w w':=by
 have HE:Hid (EnvL w s):=E
 have H:Hid (parseP x=some (pr,u,v,y,z,fl)):=h
 clear h
 have H2:Hid (PkOk pr u v y z fl):=h2
 clear h2
 have H3:Hid (¬x=⟨(pText pr u v y z fl).toArray⟩):=h3
 clear h3
 clear E
 have b1:Hid (Below w.heap.size w (w.alloc (.cells #[.int .i64 0,.int .i64 0,.int .i64 0,.int .i64 0,.int .i64 0,.int .i64 0] 41))):=(Below.refl _ _).alloc (Nat.le_refl _) _
 go_enter Tryz.func11,Tryz.ntmps11
 go_wp2_with fail
 refine(parse_some x hx _ (HE.out.l.below b1.out) (HE.out.e.n.below b1.out) pr u v y z fl H.out).mono ?_
 rintro e w1 ⟨rfl,hb1⟩
 have b2:Below w1.heap.size w1 (w1.alloc (.cells #[.int .i64 pr,.int .i64 u,.int .i64 v,.int .i64 y,.int .i64 z,.int .i64 fl] 41)):=(Below.refl _ _).alloc (Nat.le_refl _) _
 have R1:Hid (Six (w1.alloc (.cells #[.int .i64 pr,.int .i64 u,.int .i64 v,.int .i64 y,.int .i64 z,.int .i64 fl] 41)) w.heap.size (fun _=>0)):=((six_new w _).below hb1).below b2
 have HB2:Hid (Below w.heap.size w (w1.alloc (.cells #[.int .i64 pr,.int .i64 u,.int .i64 v,.int .i64 y,.int .i64 z,.int .i64 fl] 41))):=below_all (below_all b1.out hb1) b2
 have K2:Hid (PkS6 (w1.alloc (.cells #[.int .i64 pr,.int .i64 u,.int .i64 v,.int .i64 y,.int .i64 z,.int .i64 fl] 41)) w1.heap.size pr u v y z fl):=⟨by simp,by simp,by simp,by simp,by simp,by simp⟩
 have E2:Hid (EnvL (w1.alloc (.cells #[.int .i64 pr,.int .i64 u,.int .i64 v,.int .i64 y,.int .i64 z,.int .i64 fl] 41)) s):=HE.out.below HB2.out
 clear hb1 b2
 go_wp2_with fail
 refine(text_ok pr u v y z fl s _ E2.out.e H2.out).mono ?_
 rintro e w3 ⟨rfl,hb3⟩
 have R3:Hid (Six w3 w.heap.size (fun _=>0)):=R1.out.below hb3
 have HB3:Hid (Below w.heap.size w w3):=below_all HB2.out hb3
 have d0:=(E2.out.below hb3).e.s.c0
 have dx:(w3.setCell ⟨w.heap.size,0,none⟩ (.int .i64 0)).cell? ⟨1,0,none⟩=some (.iface 312 (.pointer (some (s 0)))):=((World.cell?_setCell_other _ _ _ _ (fun e=>by have:=congrArg Addr.block e;have h0:=block_lt HE.out.e.s.c0;simp at this h0;omega)).trans d0)
 have hne:(pText pr u v y z fl==x.toList)=false:=by
  have:=ba_ne H3.out
  rw[ByteArray.toList_mk]at this
  exact this
 clear hb3
 have r0:w3.cell? ⟨w.heap.size,0,none⟩=some (.int .i64 0):=R3.out.c 0 (by omega)
 have g0:=R3.out.cf 0 (by omega)
 have r1:w3.cell? ⟨w.heap.size,1,none⟩=some (.int .i64 0):=R3.out.c 1 (by omega)
 have g1:=R3.out.cf 1 (by omega)
 have r2:w3.cell? ⟨w.heap.size,2,none⟩=some (.int .i64 0):=R3.out.c 2 (by omega)
 have g2:=R3.out.cf 2 (by omega)
 have r3:w3.cell? ⟨w.heap.size,3,none⟩=some (.int .i64 0):=R3.out.c 3 (by omega)
 have g3:=R3.out.cf 3 (by omega)
 have r4:w3.cell? ⟨w.heap.size,4,none⟩=some (.int .i64 0):=R3.out.c 4 (by omega)
 have g4:=R3.out.cf 4 (by omega)
 have r5:w3.cell? ⟨w.heap.size,5,none⟩=some (.int .i64 0):=R3.out.c 5 (by omega)
 have g5:=R3.out.cf 5 (by omega)
 go_wp2_with fail
 go_region
 all_goals go_wp2_with fail
 all_goals exact bodyPost_ret (v:=.tuple #[pkt 0 0 0 0 0 0,.iface 312 (.pointer (some (s 0)))]) (by simp[results,Tryz.results11,go_sem,r0,r1,r2,r3,r4,r5]) rfl ⟨rfl,by
  repeat (first | refine Below.setCell ?_ (by exact Nat.le_refl _) _ | refine Below.drew ?_ | exact HB3.out)⟩
theorem read_ok (x:ByteArray) (hx:x.size<=4000) (pr u v y z fl:Int) (s:Nat->Addr) (w:World) (E:EnvL w s) (h:parseP x=some (pr,u,v,y,z,fl)) (h2:PkOk pr u v y z fl) (h3:x=⟨(pText pr u v y z fl).toArray⟩) :
  Calls Tryz.prog 11 #[.string x] w fun e w'=>e=.returned (.tuple #[pkt pr u v y z fl,.nilIface])/\Below w.heap.size w w':=by
 have HE:Hid (EnvL w s):=E
 have H:Hid (parseP x=some (pr,u,v,y,z,fl)):=h
 clear h
 have H2:Hid (PkOk pr u v y z fl):=h2
 clear h2
 have H3:Hid (x=⟨(pText pr u v y z fl).toArray⟩):=h3
 clear h3
 clear E
 have b1:Hid (Below w.heap.size w (w.alloc (.cells #[.int .i64 0,.int .i64 0,.int .i64 0,.int .i64 0,.int .i64 0,.int .i64 0] 41))):=(Below.refl _ _).alloc (Nat.le_refl _) _
 go_enter Tryz.func11,Tryz.ntmps11
 go_wp2_with fail
 refine(parse_some x hx _ (HE.out.l.below b1.out) (HE.out.e.n.below b1.out) pr u v y z fl H.out).mono ?_
 rintro e w1 ⟨rfl,hb1⟩
 have b2:Below w1.heap.size w1 (w1.alloc (.cells #[.int .i64 pr,.int .i64 u,.int .i64 v,.int .i64 y,.int .i64 z,.int .i64 fl] 41)):=(Below.refl _ _).alloc (Nat.le_refl _) _
 have R1:Hid (Six (w1.alloc (.cells #[.int .i64 pr,.int .i64 u,.int .i64 v,.int .i64 y,.int .i64 z,.int .i64 fl] 41)) w.heap.size (fun _=>0)):=((six_new w _).below hb1).below b2
 have HB2:Hid (Below w.heap.size w (w1.alloc (.cells #[.int .i64 pr,.int .i64 u,.int .i64 v,.int .i64 y,.int .i64 z,.int .i64 fl] 41))):=below_all (below_all b1.out hb1) b2
 have K2:Hid (PkS6 (w1.alloc (.cells #[.int .i64 pr,.int .i64 u,.int .i64 v,.int .i64 y,.int .i64 z,.int .i64 fl] 41)) w1.heap.size pr u v y z fl):=⟨by simp,by simp,by simp,by simp,by simp,by simp⟩
 have E2:Hid (EnvL (w1.alloc (.cells #[.int .i64 pr,.int .i64 u,.int .i64 v,.int .i64 y,.int .i64 z,.int .i64 fl] 41)) s):=HE.out.below HB2.out
 clear hb1 b2
 go_wp2_with fail
 refine(text_ok pr u v y z fl s _ E2.out.e H2.out).mono ?_
 rintro e w3 ⟨rfl,hb3⟩
 have R3:Hid (Six w3 w.heap.size (fun _=>0)):=R1.out.below hb3
 have HB3:Hid (Below w.heap.size w w3):=below_all HB2.out hb3
 have K3:Hid (PkS6 w3 w1.heap.size pr u v y z fl):=K2.out.below hb3
 have heq:(pText pr u v y z fl==x.toList)=true:=by rw[H3.out,ByteArray.toList_mk];exact beq_self_eq_true _
 have k0:=K3.out.c0
 have k1:=K3.out.c1
 have k2:=K3.out.c2
 have k3:=K3.out.c3
 have k4:=K3.out.c4
 have k5:=K3.out.c5
 clear hb3
 have r0:w3.cell? ⟨w.heap.size,0,none⟩=some (.int .i64 0):=R3.out.c 0 (by omega)
 have g0:=R3.out.cf 0 (by omega)
 have r1:w3.cell? ⟨w.heap.size,1,none⟩=some (.int .i64 0):=R3.out.c 1 (by omega)
 have g1:=R3.out.cf 1 (by omega)
 have r2:w3.cell? ⟨w.heap.size,2,none⟩=some (.int .i64 0):=R3.out.c 2 (by omega)
 have g2:=R3.out.cf 2 (by omega)
 have r3:w3.cell? ⟨w.heap.size,3,none⟩=some (.int .i64 0):=R3.out.c 3 (by omega)
 have g3:=R3.out.cf 3 (by omega)
 have r4:w3.cell? ⟨w.heap.size,4,none⟩=some (.int .i64 0):=R3.out.c 4 (by omega)
 have g4:=R3.out.cf 4 (by omega)
 have r5:w3.cell? ⟨w.heap.size,5,none⟩=some (.int .i64 0):=R3.out.c 5 (by omega)
 have g5:=R3.out.cf 5 (by omega)
 go_wp2_with fail
 all_goals exact bodyPost_ret (v:=.tuple #[pkt pr u v y z fl,.nilIface]) (by simp[results,Tryz.results11,go_sem,r0,r1,r2,r3,r4,r5]) rfl ⟨rfl,by
  repeat (first | refine Below.setCell ?_ (by exact Nat.le_refl _) _ | refine Below.drew ?_ | exact HB3.out)⟩
section
variable {w:World} {Q:Nat} {n m:Int} {p:Pk}
def dg (x:ByteArray):Int:=numOf x.data.toList 5
def isN (x:ByteArray):Bool:=decide (0<=dg x)
def dv (x:ByteArray):Int:=if 0<=dg x then dg x else 0
def isS (x:ByteArray):Bool:=isN x && decide (dv x<=1)
theorem digits_any (x:ByteArray) (hx:x.size<=4000) (w:World) (L:Libs w) (T:Pow w) :
  Calls Tryz.prog 44 #[.string x] w fun e w'=>e=.returned (.tuple #[.int .i64 (dv x),.bool (isN x)])/\Below w.heap.size w w':=by
 by_cases h:0<=dg x
 ·have e1:isN x=true:=decide_eq_true h
  have e2:dv x=dg x:=if_pos h
  rw[e1,e2]
  exact number_yes x hx (dg x) rfl h w T
 ·have e1:isN x=false:=decide_eq_false h
  have e2:dv x=0:=if_neg h
  rw[e1,e2]
  exact number_no x hx (by unfold dg at h;omega) w L T
theorem argZ_store (h:w.heap[Q]? = some (argB n m p)) (n' m':Int) (p':Pk) :
  ∃w',(Instr.storeAt 126 (.pointer (some ⟨Q,0,none⟩)) (argV n' m' p')).run Tryz.prog w=.ok () w'/\w'.heap[Q]? = some (argB n' m' p')/\Chg Q w w':=by
 unfold argB at h
 have hs:(sizeOf 126).run Tryz.prog w=.ok 8 w:=by kernel_rfl
 have hst:=run_storeCells_at Tryz.prog Q 0 126 [.int .i64 n',.int .i64 m',.int .i64 p'.pr,.int .i64 p'.a1,.int .i64 p'.p1,.int .i64 p'.a2,.int .i64 p'.p2,.int .i64 p'.fl] 0 _ w h (by simp) (fun u hu=>by
  simp only[List.mem_cons,List.not_mem_nil,or_false]at hu
  rcases hu with rfl | rfl | rfl | rfl | rfl | rfl | rfl | rfl <;> rfl)
 refine⟨w.setRow Q #[.int .i64 n',.int .i64 m',.int .i64 p'.pr,.int .i64 p'.a1,.int .i64 p'.p1,.int .i64 p'.a2,.int .i64 p'.p2,.int .i64 p'.fl],?_,setRow_heap w Q _ _ _ _ h,chg_row _ _ _⟩
 simp only[argV,Instr.storeAt,Instr.sureAddr,Sem.run_bind,Sem.run_pure,Result.andThen_ok,storeVar,hs,Value.cells]
 simp at hst ⊢
 exact hst
structure ArgC (w:World) (Q:Nat) (n m:Int) (p:Pk):Prop where
 c0:w.cell? ⟨Q,0,none⟩=some (.int .i64 n)
 c1:w.cell? ⟨Q,1,none⟩=some (.int .i64 m)
 c2:w.cell? ⟨Q,2,none⟩=some (.int .i64 p.pr)
 c3:w.cell? ⟨Q,3,none⟩=some (.int .i64 p.a1)
 c4:w.cell? ⟨Q,4,none⟩=some (.int .i64 p.p1)
 c5:w.cell? ⟨Q,5,none⟩=some (.int .i64 p.a2)
 c6:w.cell? ⟨Q,6,none⟩=some (.int .i64 p.p2)
 c7:w.cell? ⟨Q,7,none⟩=some (.int .i64 p.fl)
theorem argC (h:w.heap[Q]? = some (argB n m p)):ArgC w Q n m p :=
 ⟨(cell_of_row _ _ _ _ _ _ h).trans rfl,(cell_of_row _ _ _ _ _ _ h).trans rfl,(cell_of_row _ _ _ _ _ _ h).trans rfl,(cell_of_row _ _ _ _ _ _ h).trans rfl,(cell_of_row _ _ _ _ _ _ h).trans rfl,(cell_of_row _ _ _ _ _ _ h).trans rfl,(cell_of_row _ _ _ _ _ _ h).trans rfl,(cell_of_row _ _ _ _ _ _ h).trans rfl⟩
theorem read_N (h:w.heap[Q]? = some (argB n m p)) (x:ByteArray) (hx:x.size<=4000) (L:Libs w) (T:Pow w) :
  Calls Tryz.prog 127 #[.pointer (some ⟨Q,0,none⟩),.string ⟨#[78]⟩,.string x] w fun e w'=>e=.returned (.bool (isN x))/\w'.heap[Q]? = some (argB n (dv x) p)/\Chg Q w w':=by
 have HL:Hid (Libs w/\Pow w/\x.size<=4000/\w.heap[Q]? = some (argB n m p)):=⟨L,T,hx,h⟩
 have hQ:Q < w.heap.size:=block_in h
 clear L T hx h
 go_enter Tryz.func127,Tryz.ntmps127
 go_wp2_with fail
 refine(digits_any x HL.out.2.2.1 w HL.out.1 HL.out.2.1).mono ?_
 rintro e w2 ⟨rfl,b2⟩
 obtain⟨bo,hbo⟩:∃bo,isN x=bo:=⟨_,rfl⟩
 obtain⟨d,hd⟩:∃d,dv x=d:=⟨_,rfl⟩
 rw[hbo,hd]
 have HBO:Hid (isN x=bo/\dv x=d/\isS x=(bo && decide (d<=1))):=⟨hbo,hd,by rw[<- hbo,<- hd];rfl⟩
 clear hbo hd
 have h2:w2.heap[Q]? = some (argB n m p):=(b2.block Q hQ).trans HL.out.2.2.2
 have c1:=(argC h2).c1
 have f1:w2.frozen? ⟨Q,1,none⟩=false:=frozen_of_row _ _ _ _ _ h2
 have H2:Hid (w2.heap[Q]? = some (argB n m p)/\Below w.heap.size w w2):=⟨h2,b2⟩
 clear h2 b2
 go_wp2_with fail
 go_ret
 refine⟨by rw[HBO.out.1];rfl,?_,(Chg.of H2.out.2).trans (Chg.set _ _ _ _)⟩
 rw[HBO.out.2.1]
 have h2:=H2.out.1
 unfold argB at h2 ⊢
 rw[heap_setCell_same w2 _ 1 _ _ _ h2]
 rfl
theorem read_S (h:w.heap[Q]? = some (argB n m p)) (x:ByteArray) (hx:x.size<=4000) (L:Libs w) (T:Pow w) :
  Calls Tryz.prog 127 #[.pointer (some ⟨Q,0,none⟩),.string ⟨#[83]⟩,.string x] w fun e w'=>e=.returned (.bool (isS x))/\w'.heap[Q]? = some (argB (dv x) m p)/\Chg Q w w':=by
 have HL:Hid (Libs w/\Pow w/\x.size<=4000/\w.heap[Q]? = some (argB n m p)):=⟨L,T,hx,h⟩
 have hQ:Q < w.heap.size:=block_in h
 clear L T hx h
 go_enter Tryz.func127,Tryz.ntmps127
 go_wp2_with fail
 refine(digits_any x HL.out.2.2.1 w HL.out.1 HL.out.2.1).mono ?_
 rintro e w2 ⟨rfl,b2⟩
 obtain⟨bo,hbo⟩:∃bo,isN x=bo:=⟨_,rfl⟩
 obtain⟨d,hd⟩:∃d,dv x=d:=⟨_,rfl⟩
 rw[hbo,hd]
 have HBO:Hid (isN x=bo/\dv x=d/\isS x=(bo && decide (d<=1))):=⟨hbo,hd,by rw[<- hbo,<- hd];rfl⟩
 clear hbo hd
 have h2:w2.heap[Q]? = some (argB n m p):=(b2.block Q hQ).trans HL.out.2.2.2
 have c1:=(argC h2).c0
 have f1:w2.frozen? ⟨Q,0,none⟩=false:=frozen_of_row _ _ _ _ _ h2
 have H2:Hid (w2.heap[Q]? = some (argB n m p)/\Below w.heap.size w w2):=⟨h2,b2⟩
 have H3:Hid (∀d:Int,(w2.setCell ⟨Q,0,none⟩ (.int .i64 d)).heap[Q]? = some (argB d m p)):=fun d=>by
  unfold argB at h2 ⊢
  rw[heap_setCell_same w2 _ 0 _ _ _ h2]
  rfl
 clear h2 b2
 cases bo
 ·go_wp2_with fail
  go_ret
  exact⟨by rw[HBO.out.2.2];rfl,by rw[HBO.out.2.1];exact H3.out d,(Chg.of H2.out.2).trans (Chg.set _ _ _ _)⟩
 ·go_wp2_with fail
  go_ret
  exact⟨by rw[HBO.out.2.2];rfl,by rw[HBO.out.2.1];exact H3.out d,(Chg.of H2.out.2).trans (Chg.set _ _ _ _)⟩
end
theorem many_wd {w:World} {K:WK} {x:Wo} (hb:WdB w K x) (hf:FlP w K x) :
  Calls Tryz.prog 66 #[.pointer (some (K.wb,0))] w fun e w'=>e=.returned x.fl.length/\w'=w:=by
 have c7:w.cell? (K.wb,7)=some (slV K.fg x.fl.length):=hb.c 7
 obtain⟨p,c,e⟩:=hf.sl
 rw[e]at c7
 clear e hb hf
 go_enter Tryz.func66,Tryz.ntmps66
 go_wp2_with fail
 go_ret
 exact⟨rfl,rfl⟩
end Go.Proofs.YtabndgfdbdjdgaaGreatDoor
