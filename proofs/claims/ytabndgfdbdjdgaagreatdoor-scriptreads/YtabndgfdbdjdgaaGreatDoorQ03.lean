/-
  What the claimed theorem reaches, part Q03.
-/
import Derived.Test.YtabndgfdbdjdgaaGreatDoorQ02
import Derived.Test.YtabndgfdbdjdgaaGreatDoorQ00
import Derived.Deep.RegionHeld3
namespace Go.Proofs.YtabndgfdbdjdgaaGreatDoor
open Go.RowKit
set_option maxRecDepth 100000
set_option maxHeartbeats 8000000
section
variable {w w0:World} {b wb pb n:Nat} {l:Array Bool} {a:Act} {Q:Exit->Act->World->Prop}
set_option maxRecDepth 100000
set_option maxHeartbeats 4000000
theorem al3 (w:World) (f g:Value) (T U:TypeId) (o:Obj):(((w.alloc (.cells #[f] T)).alloc (.cells #[g] U)).alloc o).cell? ⟨w.heap.size,0,none⟩=some f/\(((w.alloc (.cells #[f] T)).alloc (.cells #[g] U)).alloc o).cell? ⟨w.heap.size+1,0,none⟩=some g:=by
 refine⟨tk (t2 (aB _ _) (aB _ _)) (by rw[nw];rfl),tk (aB _ _) ?_⟩
 have e:=nw (w.alloc (.cells #[f] T)) #[g] U 0
 have e2:(w.alloc (.cells #[f] T)).heap.size=w.heap.size+1:=by simp
 rw[e2]at e
 exact e
theorem hm_of {w':World} (hb:Below w.heap.size w w'):∀(M:Nat) es clk,w.heap[M]? = some (Obj.map es clk)->w'.heap[M]? = some (Obj.map es clk):=fun M es clk e=>by
 rw[hb.block M (by
  rcases Nat.lt_or_ge M w.heap.size with k | k
  ·exact k
  ·rw[Array.getElem?_eq_none k]at e;cases e)]
 exact e
theorem op_0:cmdOps[0]? = some ⟨some 3,.makeMap 74 none,74,"command.go:36",#[],none⟩:=by kernel_rfl
theorem st_0 (h:CI w0 b wb pb (n+1) l a w) (hi:0 ∈ Region.ready .any cmdOps l):wpOp Tryz.prog cmdOps Q 0 (fun a' w'=>True/\CI w0 b wb pb n (l.setIfInBounds 0 true) a' w') a w:=by
 obtain⟨hu,o,ho,hp⟩:=mem_ready.1 hi
 rw[op_0]at ho
 cases ho
 have hmm:=@run_makeMap Tryz.prog
 refine wpOp_step op_0 (fun K' hK=>?_)
 refine Eq.mpr (if_pos (by rfl)) ?_
 go_wp2
 first | exact h.mkM hu | exact⟨trivial,h.mkM hu⟩
theorem op_1:cmdOps[1]? = some ⟨some 4,.load 48 (.tmp 1),48,"command.go:36",#[],none⟩:=by kernel_rfl
theorem st_1 (h:CI w0 b wb pb (n+1) l a w) (hi:1 ∈ Region.ready .any cmdOps l):wpOp Tryz.prog cmdOps Q 1 (fun a' w'=>True/\CI w0 b wb pb n (l.setIfInBounds 1 true) a' w') a w:=by
 obtain⟨hu,o,ho,hp⟩:=mem_ready.1 hi
 rw[op_1]at ho
 cases ho
 have t1:=h.t1
 have s1:=h.s1
 have s2:=h.s2
 have hmf := Tryz.hmf
 refine wpOp_step op_1 (fun K' hK=>?_)
 refine Eq.mpr (if_pos (by rfl)) ?_
 have hn:=h.put hu (show(tab b wb pb)[1]? = some (.val 4 (.pointer (some ⟨b,0,none⟩))) from rfl) rfl (by omega) (by omega) (by omega) (Kp.of (Below.refl _ _)) h.bl (fun _ _ _ e=>e) (put_at a 4 _ h.ts (by omega)).1
 go_wp2
 first | exact hn | exact⟨trivial,hn⟩
theorem op_2:cmdOps[2]? = some ⟨some 5,.makeFunc (.func 50) #[.tmp 4] #[],119,"command.go:36",#[⟨1,.data⟩],none⟩:=by kernel_rfl
theorem st_2 (h:CI w0 b wb pb (n+1) l a w) (hi:2 ∈ Region.ready .any cmdOps l):wpOp Tryz.prog cmdOps Q 2 (fun a' w'=>True/\CI w0 b wb pb n (l.setIfInBounds 2 true) a' w') a w:=by
 obtain⟨hu,o,ho,hp⟩:=mem_ready.1 hi
 rw[op_2]at ho
 cases ho
 have p1:=h.d 1 _ rfl (hp ⟨1,.data⟩ (by simp) rfl)
 simp only[Dn]at p1
 have t1:=h.t1
 have s1:=h.s1
 have s2:=h.s2
 have hmf := Tryz.hmf
 refine wpOp_step op_2 (fun K' hK=>?_)
 refine Eq.mpr (if_pos (by rfl)) ?_
 have hn:=h.put hu (show(tab b wb pb)[2]? = some (.val 5 (.func (.func 50) #[.pointer (some ⟨b,0,none⟩)] #[])) from rfl) rfl (by omega) (by omega) (by omega) (Kp.of (Below.refl _ _)) h.bl (fun _ _ _ e=>e) (put_at a 5 _ h.ts (by omega)).1
 go_wp2
 first | exact hn | exact⟨trivial,hn⟩
theorem op_3:cmdOps[3]? = some ⟨some 6,.call ⟨.value (.func 49),#[.tmp 5],#[119]⟩,117,"command.go:37",#[⟨2,.data⟩],none⟩:=by kernel_rfl
theorem st_3 (h:CI w0 b wb pb (n+1) l a w) (hi:3 ∈ Region.ready .any cmdOps l):wpOp Tryz.prog cmdOps Q 3 (fun a' w'=>True/\CI w0 b wb pb n (l.setIfInBounds 3 true) a' w') a w:=by
 obtain⟨hu,o,ho,hp⟩:=mem_ready.1 hi
 rw[op_3]at ho
 cases ho
 have p2:=h.d 2 _ rfl (hp ⟨2,.data⟩ (by simp) rfl)
 simp only[Dn]at p2
 refine wpOp_step op_3 (fun K' hK=>?_)
 refine Eq.mpr (if_pos (by rfl)) ?_
 go_wp2_with fail
 refine(onNodeAndNumber_any _ _ _ w).mono ?_
 rintro e w2 ⟨rfl,hw⟩
 have hb:Below w.heap.size w w2:=by rw[hw];exact t2 (aB _ _) (aB _ _)
 have c0:w2.cell? ⟨w.heap.size,0,none⟩=some (.func (.func 50) #[.pointer (some ⟨b,0,none⟩)] #[]):=by rw[hw];simp
 exact hK _ _ ⟨trivial,h.put hu (show(tab b wb pb)[3]? = some (.ent 6 0) from rfl) rfl (by omega) (by omega) (by omega) (Kp.of hb) (t2 h.bl hb) (hm_of hb) ⟨_,(put_at a 6 _ h.ts (by omega)).1,⟨_,h.bl.size,rfl,c0⟩⟩⟩
theorem op_4:cmdOps[4]? = some ⟨none,.insert 74 (.tmp 3) (.const (.string ⟨#[116,105,99,107]⟩)) (.tmp 6),0,"command.go:36",#[⟨0,.data⟩,⟨3,.data⟩],none⟩:=by kernel_rfl
theorem st_4 (h:CI w0 b wb pb (n+1) l a w) (hi:4 ∈ Region.ready .any cmdOps l):wpOp Tryz.prog cmdOps Q 4 (fun a' w'=>True/\CI w0 b wb pb n (l.setIfInBounds 4 true) a' w') a w:=by
 obtain⟨hu,o,ho,hp⟩:=mem_ready.1 hi
 rw[op_4]at ho
 cases ho
 obtain⟨v,ev,hv⟩:=h.d 3 _ rfl (hp ⟨3,.data⟩ (by simp) rfl)
 obtain⟨M,w2,e3,hr,hc⟩:=h.insK (kk:=0) (by omega) hu (hp ⟨0,.data⟩ (by simp) rfl) hv
 simp only[ky]at hr
 refine wpOp_step op_4 (fun K' hK=>?_)
 refine Eq.mpr (if_pos (by rfl)) ?_
 go_wp2
 first | exact hc | exact⟨trivial,hc⟩
theorem op_5:cmdOps[5]? = some ⟨some 7,.load 48 (.tmp 1),48,"command.go:36",#[],none⟩:=by kernel_rfl
theorem st_5 (h:CI w0 b wb pb (n+1) l a w) (hi:5 ∈ Region.ready .any cmdOps l):wpOp Tryz.prog cmdOps Q 5 (fun a' w'=>True/\CI w0 b wb pb n (l.setIfInBounds 5 true) a' w') a w:=by
 obtain⟨hu,o,ho,hp⟩:=mem_ready.1 hi
 rw[op_5]at ho
 cases ho
 have t1:=h.t1
 have s1:=h.s1
 have s2:=h.s2
 have hmf := Tryz.hmf
 refine wpOp_step op_5 (fun K' hK=>?_)
 refine Eq.mpr (if_pos (by rfl)) ?_
 have hn:=h.put hu (show(tab b wb pb)[5]? = some (.val 7 (.pointer (some ⟨b,0,none⟩))) from rfl) rfl (by omega) (by omega) (by omega) (Kp.of (Below.refl _ _)) h.bl (fun _ _ _ e=>e) (put_at a 7 _ h.ts (by omega)).1
 go_wp2
 first | exact hn | exact⟨trivial,hn⟩
theorem op_6:cmdOps[6]? = some ⟨some 8,.nilCheck (.tmp 7),0,"command.go:36",#[⟨5,.data⟩],none⟩:=by kernel_rfl
theorem st_6 (h:CI w0 b wb pb (n+1) l a w) (hi:6 ∈ Region.ready .any cmdOps l):wpOp Tryz.prog cmdOps Q 6 (fun a' w'=>True/\CI w0 b wb pb n (l.setIfInBounds 6 true) a' w') a w:=by
 obtain⟨hu,o,ho,hp⟩:=mem_ready.1 hi
 rw[op_6]at ho
 cases ho
 have p5:=h.d 5 _ rfl (hp ⟨5,.data⟩ (by simp) rfl)
 simp only[Dn]at p5
 have t1:=h.t1
 have s1:=h.s1
 have s2:=h.s2
 have hmf := Tryz.hmf
 refine wpOp_step op_6 (fun K' hK=>?_)
 refine Eq.mpr (if_pos (by rfl)) ?_
 have hn:=h.put hu (show(tab b wb pb)[6]? = some (.val 8 (.pointer (some ⟨b,0,none⟩))) from rfl) rfl (by omega) (by omega) (by omega) (Kp.of (Below.refl _ _)) h.bl (fun _ _ _ e=>e) (put_at a 8 _ h.ts (by omega)).1
 go_wp2
 first | exact hn | exact⟨trivial,hn⟩
theorem op_7:cmdOps[7]? = some ⟨some 9,.fieldAddr 76 (.tmp 8) 0,0,"command.go:36",#[⟨6,.data⟩],none⟩:=by kernel_rfl
theorem st_7 (h:CI w0 b wb pb (n+1) l a w) (hi:7 ∈ Region.ready .any cmdOps l):wpOp Tryz.prog cmdOps Q 7 (fun a' w'=>True/\CI w0 b wb pb n (l.setIfInBounds 7 true) a' w') a w:=by
 obtain⟨hu,o,ho,hp⟩:=mem_ready.1 hi
 rw[op_7]at ho
 cases ho
 have p6:=h.d 6 _ rfl (hp ⟨6,.data⟩ (by simp) rfl)
 simp only[Dn]at p6
 have t1:=h.t1
 have s1:=h.s1
 have s2:=h.s2
 have hmf := Tryz.hmf
 refine wpOp_step op_7 (fun K' hK=>?_)
 refine Eq.mpr (if_pos (by rfl)) ?_
 have hn:=h.put hu (show(tab b wb pb)[7]? = some (.val 9 (.pointer (some ⟨b,0,none⟩))) from rfl) rfl (by omega) (by omega) (by omega) (Kp.of (Below.refl _ _)) h.bl (fun _ _ _ e=>e) (put_at a 9 _ h.ts (by omega)).1
 go_wp2
 first | exact hn | exact⟨trivial,hn⟩
theorem op_8:cmdOps[8]? = some ⟨some 10,.load 71 (.tmp 9),71,"command.go:36",#[⟨7,.data⟩],none⟩:=by kernel_rfl
theorem st_8 (h:CI w0 b wb pb (n+1) l a w) (hi:8 ∈ Region.ready .any cmdOps l):wpOp Tryz.prog cmdOps Q 8 (fun a' w'=>True/\CI w0 b wb pb n (l.setIfInBounds 8 true) a' w') a w:=by
 obtain⟨hu,o,ho,hp⟩:=mem_ready.1 hi
 rw[op_8]at ho
 cases ho
 have p7:=h.d 7 _ rfl (hp ⟨7,.data⟩ (by simp) rfl)
 simp only[Dn]at p7
 have t1:=h.t1
 have s1:=h.s1
 have s2:=h.s2
 have hmf := Tryz.hmf
 refine wpOp_step op_8 (fun K' hK=>?_)
 refine Eq.mpr (if_pos (by rfl)) ?_
 have hn:=h.put hu (show(tab b wb pb)[8]? = some (.val 10 (.pointer (some ⟨wb,0,none⟩))) from rfl) rfl (by omega) (by omega) (by omega) (Kp.of (Below.refl _ _)) h.bl (fun _ _ _ e=>e) (put_at a 10 _ h.ts (by omega)).1
 go_wp2
 first | exact hn | exact⟨trivial,hn⟩
theorem op_9:cmdOps[9]? = some ⟨some 11,.makeFunc (.func 51) #[.tmp 10] #[],119,"command.go:36",#[⟨8,.data⟩],none⟩:=by kernel_rfl
theorem st_9 (h:CI w0 b wb pb (n+1) l a w) (hi:9 ∈ Region.ready .any cmdOps l):wpOp Tryz.prog cmdOps Q 9 (fun a' w'=>True/\CI w0 b wb pb n (l.setIfInBounds 9 true) a' w') a w:=by
 obtain⟨hu,o,ho,hp⟩:=mem_ready.1 hi
 rw[op_9]at ho
 cases ho
 have p8:=h.d 8 _ rfl (hp ⟨8,.data⟩ (by simp) rfl)
 simp only[Dn]at p8
 have t1:=h.t1
 have s1:=h.s1
 have s2:=h.s2
 have hmf := Tryz.hmf
 refine wpOp_step op_9 (fun K' hK=>?_)
 refine Eq.mpr (if_pos (by rfl)) ?_
 have hn:=h.put hu (show(tab b wb pb)[9]? = some (.val 11 (.func (.func 51) #[.pointer (some ⟨wb,0,none⟩)] #[])) from rfl) rfl (by omega) (by omega) (by omega) (Kp.of (Below.refl _ _)) h.bl (fun _ _ _ e=>e) (put_at a 11 _ h.ts (by omega)).1
 go_wp2
 first | exact hn | exact⟨trivial,hn⟩
theorem op_10:cmdOps[10]? = some ⟨some 12,.call ⟨.value (.func 49),#[.tmp 11],#[119]⟩,117,"command.go:38",#[⟨9,.data⟩,⟨3,.chain⟩],none⟩:=by kernel_rfl
theorem st_10 (h:CI w0 b wb pb (n+1) l a w) (hi:10 ∈ Region.ready .any cmdOps l):wpOp Tryz.prog cmdOps Q 10 (fun a' w'=>True/\CI w0 b wb pb n (l.setIfInBounds 10 true) a' w') a w:=by
 obtain⟨hu,o,ho,hp⟩:=mem_ready.1 hi
 rw[op_10]at ho
 cases ho
 have p9:=h.d 9 _ rfl (hp ⟨9,.data⟩ (by simp) rfl)
 simp only[Dn]at p9
 refine wpOp_step op_10 (fun K' hK=>?_)
 refine Eq.mpr (if_pos (by rfl)) ?_
 go_wp2_with fail
 refine(onNodeAndNumber_any _ _ _ w).mono ?_
 rintro e w2 ⟨rfl,hw⟩
 have hb:Below w.heap.size w w2:=by rw[hw];exact t2 (aB _ _) (aB _ _)
 have c0:w2.cell? ⟨w.heap.size,0,none⟩=some (.func (.func 51) #[.pointer (some ⟨wb,0,none⟩)] #[]):=by rw[hw];simp
 exact hK _ _ ⟨trivial,h.put hu (show(tab b wb pb)[10]? = some (.ent 12 1) from rfl) rfl (by omega) (by omega) (by omega) (Kp.of hb) (t2 h.bl hb) (hm_of hb) ⟨_,(put_at a 12 _ h.ts (by omega)).1,⟨_,h.bl.size,rfl,c0⟩⟩⟩
theorem op_11:cmdOps[11]? = some ⟨none,.insert 74 (.tmp 3) (.const (.string ⟨#[99,117,116]⟩)) (.tmp 12),0,"command.go:36",#[⟨0,.data⟩,⟨10,.data⟩],none⟩:=by kernel_rfl
theorem st_11 (h:CI w0 b wb pb (n+1) l a w) (hi:11 ∈ Region.ready .any cmdOps l):wpOp Tryz.prog cmdOps Q 11 (fun a' w'=>True/\CI w0 b wb pb n (l.setIfInBounds 11 true) a' w') a w:=by
 obtain⟨hu,o,ho,hp⟩:=mem_ready.1 hi
 rw[op_11]at ho
 cases ho
 obtain⟨v,ev,hv⟩:=h.d 10 _ rfl (hp ⟨10,.data⟩ (by simp) rfl)
 obtain⟨M,w2,e3,hr,hc⟩:=h.insK (kk:=1) (by omega) hu (hp ⟨0,.data⟩ (by simp) rfl) hv
 simp only[ky]at hr
 refine wpOp_step op_11 (fun K' hK=>?_)
 refine Eq.mpr (if_pos (by rfl)) ?_
 go_wp2
 first | exact hc | exact⟨trivial,hc⟩
theorem op_12:cmdOps[12]? = some ⟨some 13,.load 48 (.tmp 1),48,"command.go:36",#[],none⟩:=by kernel_rfl
theorem st_12 (h:CI w0 b wb pb (n+1) l a w) (hi:12 ∈ Region.ready .any cmdOps l):wpOp Tryz.prog cmdOps Q 12 (fun a' w'=>True/\CI w0 b wb pb n (l.setIfInBounds 12 true) a' w') a w:=by
 obtain⟨hu,o,ho,hp⟩:=mem_ready.1 hi
 rw[op_12]at ho
 cases ho
 have t1:=h.t1
 have s1:=h.s1
 have s2:=h.s2
 have hmf := Tryz.hmf
 refine wpOp_step op_12 (fun K' hK=>?_)
 refine Eq.mpr (if_pos (by rfl)) ?_
 have hn:=h.put hu (show(tab b wb pb)[12]? = some (.val 13 (.pointer (some ⟨b,0,none⟩))) from rfl) rfl (by omega) (by omega) (by omega) (Kp.of (Below.refl _ _)) h.bl (fun _ _ _ e=>e) (put_at a 13 _ h.ts (by omega)).1
 go_wp2
 first | exact hn | exact⟨trivial,hn⟩
theorem op_13:cmdOps[13]? = some ⟨some 14,.nilCheck (.tmp 13),0,"command.go:36",#[⟨12,.data⟩],none⟩:=by kernel_rfl
theorem st_13 (h:CI w0 b wb pb (n+1) l a w) (hi:13 ∈ Region.ready .any cmdOps l):wpOp Tryz.prog cmdOps Q 13 (fun a' w'=>True/\CI w0 b wb pb n (l.setIfInBounds 13 true) a' w') a w:=by
 obtain⟨hu,o,ho,hp⟩:=mem_ready.1 hi
 rw[op_13]at ho
 cases ho
 have p12:=h.d 12 _ rfl (hp ⟨12,.data⟩ (by simp) rfl)
 simp only[Dn]at p12
 have t1:=h.t1
 have s1:=h.s1
 have s2:=h.s2
 have hmf := Tryz.hmf
 refine wpOp_step op_13 (fun K' hK=>?_)
 refine Eq.mpr (if_pos (by rfl)) ?_
 have hn:=h.put hu (show(tab b wb pb)[13]? = some (.val 14 (.pointer (some ⟨b,0,none⟩))) from rfl) rfl (by omega) (by omega) (by omega) (Kp.of (Below.refl _ _)) h.bl (fun _ _ _ e=>e) (put_at a 14 _ h.ts (by omega)).1
 go_wp2
 first | exact hn | exact⟨trivial,hn⟩
theorem op_14:cmdOps[14]? = some ⟨some 15,.fieldAddr 76 (.tmp 14) 0,0,"command.go:36",#[⟨13,.data⟩],none⟩:=by kernel_rfl
theorem st_14 (h:CI w0 b wb pb (n+1) l a w) (hi:14 ∈ Region.ready .any cmdOps l):wpOp Tryz.prog cmdOps Q 14 (fun a' w'=>True/\CI w0 b wb pb n (l.setIfInBounds 14 true) a' w') a w:=by
 obtain⟨hu,o,ho,hp⟩:=mem_ready.1 hi
 rw[op_14]at ho
 cases ho
 have p13:=h.d 13 _ rfl (hp ⟨13,.data⟩ (by simp) rfl)
 simp only[Dn]at p13
 have t1:=h.t1
 have s1:=h.s1
 have s2:=h.s2
 have hmf := Tryz.hmf
 refine wpOp_step op_14 (fun K' hK=>?_)
 refine Eq.mpr (if_pos (by rfl)) ?_
 have hn:=h.put hu (show(tab b wb pb)[14]? = some (.val 15 (.pointer (some ⟨b,0,none⟩))) from rfl) rfl (by omega) (by omega) (by omega) (Kp.of (Below.refl _ _)) h.bl (fun _ _ _ e=>e) (put_at a 15 _ h.ts (by omega)).1
 go_wp2
 first | exact hn | exact⟨trivial,hn⟩
theorem op_15:cmdOps[15]? = some ⟨some 16,.load 71 (.tmp 15),71,"command.go:36",#[⟨14,.data⟩],none⟩:=by kernel_rfl
theorem st_15 (h:CI w0 b wb pb (n+1) l a w) (hi:15 ∈ Region.ready .any cmdOps l):wpOp Tryz.prog cmdOps Q 15 (fun a' w'=>True/\CI w0 b wb pb n (l.setIfInBounds 15 true) a' w') a w:=by
 obtain⟨hu,o,ho,hp⟩:=mem_ready.1 hi
 rw[op_15]at ho
 cases ho
 have p14:=h.d 14 _ rfl (hp ⟨14,.data⟩ (by simp) rfl)
 simp only[Dn]at p14
 have t1:=h.t1
 have s1:=h.s1
 have s2:=h.s2
 have hmf := Tryz.hmf
 refine wpOp_step op_15 (fun K' hK=>?_)
 refine Eq.mpr (if_pos (by rfl)) ?_
 have hn:=h.put hu (show(tab b wb pb)[15]? = some (.val 16 (.pointer (some ⟨wb,0,none⟩))) from rfl) rfl (by omega) (by omega) (by omega) (Kp.of (Below.refl _ _)) h.bl (fun _ _ _ e=>e) (put_at a 16 _ h.ts (by omega)).1
 go_wp2
 first | exact hn | exact⟨trivial,hn⟩
theorem op_16:cmdOps[16]? = some ⟨some 17,.makeFunc (.func 53) #[.tmp 16] #[],114,"command.go:36",#[⟨15,.data⟩],none⟩:=by kernel_rfl
theorem st_16 (h:CI w0 b wb pb (n+1) l a w) (hi:16 ∈ Region.ready .any cmdOps l):wpOp Tryz.prog cmdOps Q 16 (fun a' w'=>True/\CI w0 b wb pb n (l.setIfInBounds 16 true) a' w') a w:=by
 obtain⟨hu,o,ho,hp⟩:=mem_ready.1 hi
 rw[op_16]at ho
 cases ho
 have p15:=h.d 15 _ rfl (hp ⟨15,.data⟩ (by simp) rfl)
 simp only[Dn]at p15
 have t1:=h.t1
 have s1:=h.s1
 have s2:=h.s2
 have hmf := Tryz.hmf
 refine wpOp_step op_16 (fun K' hK=>?_)
 refine Eq.mpr (if_pos (by rfl)) ?_
 have hn:=h.put hu (show(tab b wb pb)[16]? = some (.val 17 (.func (.func 53) #[.pointer (some ⟨wb,0,none⟩)] #[])) from rfl) rfl (by omega) (by omega) (by omega) (Kp.of (Below.refl _ _)) h.bl (fun _ _ _ e=>e) (put_at a 17 _ h.ts (by omega)).1
 go_wp2
 first | exact hn | exact⟨trivial,hn⟩
theorem op_17:cmdOps[17]? = some ⟨some 18,.call ⟨.value (.func 52),#[.tmp 17],#[114]⟩,117,"command.go:39",#[⟨16,.data⟩,⟨10,.chain⟩],none⟩:=by kernel_rfl
theorem st_17 (h:CI w0 b wb pb (n+1) l a w) (hi:17 ∈ Region.ready .any cmdOps l):wpOp Tryz.prog cmdOps Q 17 (fun a' w'=>True/\CI w0 b wb pb n (l.setIfInBounds 17 true) a' w') a w:=by
 obtain⟨hu,o,ho,hp⟩:=mem_ready.1 hi
 rw[op_17]at ho
 cases ho
 have p16:=h.d 16 _ rfl (hp ⟨16,.data⟩ (by simp) rfl)
 simp only[Dn]at p16
 refine wpOp_step op_17 (fun K' hK=>?_)
 refine Eq.mpr (if_pos (by rfl)) ?_
 go_wp2_with fail
 refine(onNumber_any _ _ _ w).mono ?_
 rintro e w2 ⟨rfl,hw⟩
 have hb:Below w.heap.size w w2:=by rw[hw];exact t2 (aB _ _) (aB _ _)
 have c0:w2.cell? ⟨w.heap.size,0,none⟩=some (.func (.func 53) #[.pointer (some ⟨wb,0,none⟩)] #[]):=by rw[hw];simp
 exact hK _ _ ⟨trivial,h.put hu (show(tab b wb pb)[17]? = some (.ent 18 2) from rfl) rfl (by omega) (by omega) (by omega) (Kp.of hb) (t2 h.bl hb) (hm_of hb) ⟨_,(put_at a 18 _ h.ts (by omega)).1,⟨_,h.bl.size,rfl,c0⟩⟩⟩
theorem op_18:cmdOps[18]? = some ⟨none,.insert 74 (.tmp 3) (.const (.string ⟨#[103,111]⟩)) (.tmp 18),0,"command.go:36",#[⟨0,.data⟩,⟨17,.data⟩],none⟩:=by kernel_rfl
theorem st_18 (h:CI w0 b wb pb (n+1) l a w) (hi:18 ∈ Region.ready .any cmdOps l):wpOp Tryz.prog cmdOps Q 18 (fun a' w'=>True/\CI w0 b wb pb n (l.setIfInBounds 18 true) a' w') a w:=by
 obtain⟨hu,o,ho,hp⟩:=mem_ready.1 hi
 rw[op_18]at ho
 cases ho
 obtain⟨v,ev,hv⟩:=h.d 17 _ rfl (hp ⟨17,.data⟩ (by simp) rfl)
 obtain⟨M,w2,e3,hr,hc⟩:=h.insK (kk:=2) (by omega) hu (hp ⟨0,.data⟩ (by simp) rfl) hv
 simp only[ky]at hr
 refine wpOp_step op_18 (fun K' hK=>?_)
 refine Eq.mpr (if_pos (by rfl)) ?_
 go_wp2
 first | exact hc | exact⟨trivial,hc⟩
theorem op_19:cmdOps[19]? = some ⟨some 19,.load 48 (.tmp 1),48,"command.go:36",#[],none⟩:=by kernel_rfl
theorem st_19 (h:CI w0 b wb pb (n+1) l a w) (hi:19 ∈ Region.ready .any cmdOps l):wpOp Tryz.prog cmdOps Q 19 (fun a' w'=>True/\CI w0 b wb pb n (l.setIfInBounds 19 true) a' w') a w:=by
 obtain⟨hu,o,ho,hp⟩:=mem_ready.1 hi
 rw[op_19]at ho
 cases ho
 have t1:=h.t1
 have s1:=h.s1
 have s2:=h.s2
 have hmf := Tryz.hmf
 refine wpOp_step op_19 (fun K' hK=>?_)
 refine Eq.mpr (if_pos (by rfl)) ?_
 have hn:=h.put hu (show(tab b wb pb)[19]? = some (.val 19 (.pointer (some ⟨b,0,none⟩))) from rfl) rfl (by omega) (by omega) (by omega) (Kp.of (Below.refl _ _)) h.bl (fun _ _ _ e=>e) (put_at a 19 _ h.ts (by omega)).1
 go_wp2
 first | exact hn | exact⟨trivial,hn⟩
theorem op_20:cmdOps[20]? = some ⟨some 20,.nilCheck (.tmp 19),0,"command.go:36",#[⟨19,.data⟩],none⟩:=by kernel_rfl
theorem st_20 (h:CI w0 b wb pb (n+1) l a w) (hi:20 ∈ Region.ready .any cmdOps l):wpOp Tryz.prog cmdOps Q 20 (fun a' w'=>True/\CI w0 b wb pb n (l.setIfInBounds 20 true) a' w') a w:=by
 obtain⟨hu,o,ho,hp⟩:=mem_ready.1 hi
 rw[op_20]at ho
 cases ho
 have p19:=h.d 19 _ rfl (hp ⟨19,.data⟩ (by simp) rfl)
 simp only[Dn]at p19
 have t1:=h.t1
 have s1:=h.s1
 have s2:=h.s2
 have hmf := Tryz.hmf
 refine wpOp_step op_20 (fun K' hK=>?_)
 refine Eq.mpr (if_pos (by rfl)) ?_
 have hn:=h.put hu (show(tab b wb pb)[20]? = some (.val 20 (.pointer (some ⟨b,0,none⟩))) from rfl) rfl (by omega) (by omega) (by omega) (Kp.of (Below.refl _ _)) h.bl (fun _ _ _ e=>e) (put_at a 20 _ h.ts (by omega)).1
 go_wp2
 first | exact hn | exact⟨trivial,hn⟩
theorem op_21:cmdOps[21]? = some ⟨some 21,.fieldAddr 76 (.tmp 20) 0,0,"command.go:36",#[⟨20,.data⟩],none⟩:=by kernel_rfl
theorem st_21 (h:CI w0 b wb pb (n+1) l a w) (hi:21 ∈ Region.ready .any cmdOps l):wpOp Tryz.prog cmdOps Q 21 (fun a' w'=>True/\CI w0 b wb pb n (l.setIfInBounds 21 true) a' w') a w:=by
 obtain⟨hu,o,ho,hp⟩:=mem_ready.1 hi
 rw[op_21]at ho
 cases ho
 have p20:=h.d 20 _ rfl (hp ⟨20,.data⟩ (by simp) rfl)
 simp only[Dn]at p20
 have t1:=h.t1
 have s1:=h.s1
 have s2:=h.s2
 have hmf := Tryz.hmf
 refine wpOp_step op_21 (fun K' hK=>?_)
 refine Eq.mpr (if_pos (by rfl)) ?_
 have hn:=h.put hu (show(tab b wb pb)[21]? = some (.val 21 (.pointer (some ⟨b,0,none⟩))) from rfl) rfl (by omega) (by omega) (by omega) (Kp.of (Below.refl _ _)) h.bl (fun _ _ _ e=>e) (put_at a 21 _ h.ts (by omega)).1
 go_wp2
 first | exact hn | exact⟨trivial,hn⟩
theorem op_22:cmdOps[22]? = some ⟨some 22,.load 71 (.tmp 21),71,"command.go:36",#[⟨21,.data⟩],none⟩:=by kernel_rfl
theorem st_22 (h:CI w0 b wb pb (n+1) l a w) (hi:22 ∈ Region.ready .any cmdOps l):wpOp Tryz.prog cmdOps Q 22 (fun a' w'=>True/\CI w0 b wb pb n (l.setIfInBounds 22 true) a' w') a w:=by
 obtain⟨hu,o,ho,hp⟩:=mem_ready.1 hi
 rw[op_22]at ho
 cases ho
 have p21:=h.d 21 _ rfl (hp ⟨21,.data⟩ (by simp) rfl)
 simp only[Dn]at p21
 have t1:=h.t1
 have s1:=h.s1
 have s2:=h.s2
 have hmf := Tryz.hmf
 refine wpOp_step op_22 (fun K' hK=>?_)
 refine Eq.mpr (if_pos (by rfl)) ?_
 have hn:=h.put hu (show(tab b wb pb)[22]? = some (.val 22 (.pointer (some ⟨wb,0,none⟩))) from rfl) rfl (by omega) (by omega) (by omega) (Kp.of (Below.refl _ _)) h.bl (fun _ _ _ e=>e) (put_at a 22 _ h.ts (by omega)).1
 go_wp2
 first | exact hn | exact⟨trivial,hn⟩
theorem op_23:cmdOps[23]? = some ⟨some 23,.makeFunc (.func 54) #[.tmp 22] #[],114,"command.go:36",#[⟨22,.data⟩],none⟩:=by kernel_rfl
theorem st_23 (h:CI w0 b wb pb (n+1) l a w) (hi:23 ∈ Region.ready .any cmdOps l):wpOp Tryz.prog cmdOps Q 23 (fun a' w'=>True/\CI w0 b wb pb n (l.setIfInBounds 23 true) a' w') a w:=by
 obtain⟨hu,o,ho,hp⟩:=mem_ready.1 hi
 rw[op_23]at ho
 cases ho
 have p22:=h.d 22 _ rfl (hp ⟨22,.data⟩ (by simp) rfl)
 simp only[Dn]at p22
 have t1:=h.t1
 have s1:=h.s1
 have s2:=h.s2
 have hmf := Tryz.hmf
 refine wpOp_step op_23 (fun K' hK=>?_)
 refine Eq.mpr (if_pos (by rfl)) ?_
 have hn:=h.put hu (show(tab b wb pb)[23]? = some (.val 23 (.func (.func 54) #[.pointer (some ⟨wb,0,none⟩)] #[])) from rfl) rfl (by omega) (by omega) (by omega) (Kp.of (Below.refl _ _)) h.bl (fun _ _ _ e=>e) (put_at a 23 _ h.ts (by omega)).1
 go_wp2
 first | exact hn | exact⟨trivial,hn⟩
theorem op_24:cmdOps[24]? = some ⟨some 24,.call ⟨.value (.func 52),#[.tmp 23],#[114]⟩,117,"command.go:40",#[⟨23,.data⟩,⟨17,.chain⟩],none⟩:=by kernel_rfl
theorem st_24 (h:CI w0 b wb pb (n+1) l a w) (hi:24 ∈ Region.ready .any cmdOps l):wpOp Tryz.prog cmdOps Q 24 (fun a' w'=>True/\CI w0 b wb pb n (l.setIfInBounds 24 true) a' w') a w:=by
 obtain⟨hu,o,ho,hp⟩:=mem_ready.1 hi
 rw[op_24]at ho
 cases ho
 have p23:=h.d 23 _ rfl (hp ⟨23,.data⟩ (by simp) rfl)
 simp only[Dn]at p23
 refine wpOp_step op_24 (fun K' hK=>?_)
 refine Eq.mpr (if_pos (by rfl)) ?_
 go_wp2_with fail
 refine(onNumber_any _ _ _ w).mono ?_
 rintro e w2 ⟨rfl,hw⟩
 have hb:Below w.heap.size w w2:=by rw[hw];exact t2 (aB _ _) (aB _ _)
 have c0:w2.cell? ⟨w.heap.size,0,none⟩=some (.func (.func 54) #[.pointer (some ⟨wb,0,none⟩)] #[]):=by rw[hw];simp
 exact hK _ _ ⟨trivial,h.put hu (show(tab b wb pb)[24]? = some (.ent 24 3) from rfl) rfl (by omega) (by omega) (by omega) (Kp.of hb) (t2 h.bl hb) (hm_of hb) ⟨_,(put_at a 24 _ h.ts (by omega)).1,⟨_,h.bl.size,rfl,c0⟩⟩⟩
theorem op_25:cmdOps[25]? = some ⟨none,.insert 74 (.tmp 3) (.const (.string ⟨#[108,111,115,101]⟩)) (.tmp 24),0,"command.go:36",#[⟨0,.data⟩,⟨24,.data⟩],none⟩:=by kernel_rfl
theorem st_25 (h:CI w0 b wb pb (n+1) l a w) (hi:25 ∈ Region.ready .any cmdOps l):wpOp Tryz.prog cmdOps Q 25 (fun a' w'=>True/\CI w0 b wb pb n (l.setIfInBounds 25 true) a' w') a w:=by
 obtain⟨hu,o,ho,hp⟩:=mem_ready.1 hi
 rw[op_25]at ho
 cases ho
 obtain⟨v,ev,hv⟩:=h.d 24 _ rfl (hp ⟨24,.data⟩ (by simp) rfl)
 obtain⟨M,w2,e3,hr,hc⟩:=h.insK (kk:=3) (by omega) hu (hp ⟨0,.data⟩ (by simp) rfl) hv
 simp only[ky]at hr
 refine wpOp_step op_25 (fun K' hK=>?_)
 refine Eq.mpr (if_pos (by rfl)) ?_
 go_wp2
 first | exact hc | exact⟨trivial,hc⟩
theorem op_26:cmdOps[26]? = some ⟨some 25,.load 48 (.tmp 1),48,"command.go:36",#[],none⟩:=by kernel_rfl
theorem st_26 (h:CI w0 b wb pb (n+1) l a w) (hi:26 ∈ Region.ready .any cmdOps l):wpOp Tryz.prog cmdOps Q 26 (fun a' w'=>True/\CI w0 b wb pb n (l.setIfInBounds 26 true) a' w') a w:=by
 obtain⟨hu,o,ho,hp⟩:=mem_ready.1 hi
 rw[op_26]at ho
 cases ho
 have t1:=h.t1
 have s1:=h.s1
 have s2:=h.s2
 have hmf := Tryz.hmf
 refine wpOp_step op_26 (fun K' hK=>?_)
 refine Eq.mpr (if_pos (by rfl)) ?_
 have hn:=h.put hu (show(tab b wb pb)[26]? = some (.val 25 (.pointer (some ⟨b,0,none⟩))) from rfl) rfl (by omega) (by omega) (by omega) (Kp.of (Below.refl _ _)) h.bl (fun _ _ _ e=>e) (put_at a 25 _ h.ts (by omega)).1
 go_wp2
 first | exact hn | exact⟨trivial,hn⟩
theorem op_27:cmdOps[27]? = some ⟨some 26,.nilCheck (.tmp 25),0,"command.go:36",#[⟨26,.data⟩],none⟩:=by kernel_rfl
theorem st_27 (h:CI w0 b wb pb (n+1) l a w) (hi:27 ∈ Region.ready .any cmdOps l):wpOp Tryz.prog cmdOps Q 27 (fun a' w'=>True/\CI w0 b wb pb n (l.setIfInBounds 27 true) a' w') a w:=by
 obtain⟨hu,o,ho,hp⟩:=mem_ready.1 hi
 rw[op_27]at ho
 cases ho
 have p26:=h.d 26 _ rfl (hp ⟨26,.data⟩ (by simp) rfl)
 simp only[Dn]at p26
 have t1:=h.t1
 have s1:=h.s1
 have s2:=h.s2
 have hmf := Tryz.hmf
 refine wpOp_step op_27 (fun K' hK=>?_)
 refine Eq.mpr (if_pos (by rfl)) ?_
 have hn:=h.put hu (show(tab b wb pb)[27]? = some (.val 26 (.pointer (some ⟨b,0,none⟩))) from rfl) rfl (by omega) (by omega) (by omega) (Kp.of (Below.refl _ _)) h.bl (fun _ _ _ e=>e) (put_at a 26 _ h.ts (by omega)).1
 go_wp2
 first | exact hn | exact⟨trivial,hn⟩
theorem op_28:cmdOps[28]? = some ⟨some 27,.fieldAddr 76 (.tmp 26) 0,0,"command.go:36",#[⟨27,.data⟩],none⟩:=by kernel_rfl
theorem st_28 (h:CI w0 b wb pb (n+1) l a w) (hi:28 ∈ Region.ready .any cmdOps l):wpOp Tryz.prog cmdOps Q 28 (fun a' w'=>True/\CI w0 b wb pb n (l.setIfInBounds 28 true) a' w') a w:=by
 obtain⟨hu,o,ho,hp⟩:=mem_ready.1 hi
 rw[op_28]at ho
 cases ho
 have p27:=h.d 27 _ rfl (hp ⟨27,.data⟩ (by simp) rfl)
 simp only[Dn]at p27
 have t1:=h.t1
 have s1:=h.s1
 have s2:=h.s2
 have hmf := Tryz.hmf
 refine wpOp_step op_28 (fun K' hK=>?_)
 refine Eq.mpr (if_pos (by rfl)) ?_
 have hn:=h.put hu (show(tab b wb pb)[28]? = some (.val 27 (.pointer (some ⟨b,0,none⟩))) from rfl) rfl (by omega) (by omega) (by omega) (Kp.of (Below.refl _ _)) h.bl (fun _ _ _ e=>e) (put_at a 27 _ h.ts (by omega)).1
 go_wp2
 first | exact hn | exact⟨trivial,hn⟩
theorem op_29:cmdOps[29]? = some ⟨some 28,.load 71 (.tmp 27),71,"command.go:36",#[⟨28,.data⟩],none⟩:=by kernel_rfl
theorem st_29 (h:CI w0 b wb pb (n+1) l a w) (hi:29 ∈ Region.ready .any cmdOps l):wpOp Tryz.prog cmdOps Q 29 (fun a' w'=>True/\CI w0 b wb pb n (l.setIfInBounds 29 true) a' w') a w:=by
 obtain⟨hu,o,ho,hp⟩:=mem_ready.1 hi
 rw[op_29]at ho
 cases ho
 have p28:=h.d 28 _ rfl (hp ⟨28,.data⟩ (by simp) rfl)
 simp only[Dn]at p28
 have t1:=h.t1
 have s1:=h.s1
 have s2:=h.s2
 have hmf := Tryz.hmf
 refine wpOp_step op_29 (fun K' hK=>?_)
 refine Eq.mpr (if_pos (by rfl)) ?_
 have hn:=h.put hu (show(tab b wb pb)[29]? = some (.val 28 (.pointer (some ⟨wb,0,none⟩))) from rfl) rfl (by omega) (by omega) (by omega) (Kp.of (Below.refl _ _)) h.bl (fun _ _ _ e=>e) (put_at a 28 _ h.ts (by omega)).1
 go_wp2
 first | exact hn | exact⟨trivial,hn⟩
theorem op_30:cmdOps[30]? = some ⟨some 29,.makeFunc (.func 55) #[.tmp 28] #[],114,"command.go:36",#[⟨29,.data⟩],none⟩:=by kernel_rfl
theorem st_30 (h:CI w0 b wb pb (n+1) l a w) (hi:30 ∈ Region.ready .any cmdOps l):wpOp Tryz.prog cmdOps Q 30 (fun a' w'=>True/\CI w0 b wb pb n (l.setIfInBounds 30 true) a' w') a w:=by
 obtain⟨hu,o,ho,hp⟩:=mem_ready.1 hi
 rw[op_30]at ho
 cases ho
 have p29:=h.d 29 _ rfl (hp ⟨29,.data⟩ (by simp) rfl)
 simp only[Dn]at p29
 have t1:=h.t1
 have s1:=h.s1
 have s2:=h.s2
 have hmf := Tryz.hmf
 refine wpOp_step op_30 (fun K' hK=>?_)
 refine Eq.mpr (if_pos (by rfl)) ?_
 have hn:=h.put hu (show(tab b wb pb)[30]? = some (.val 29 (.func (.func 55) #[.pointer (some ⟨wb,0,none⟩)] #[])) from rfl) rfl (by omega) (by omega) (by omega) (Kp.of (Below.refl _ _)) h.bl (fun _ _ _ e=>e) (put_at a 29 _ h.ts (by omega)).1
 go_wp2
 first | exact hn | exact⟨trivial,hn⟩
theorem op_31:cmdOps[31]? = some ⟨some 30,.call ⟨.value (.func 52),#[.tmp 29],#[114]⟩,117,"command.go:41",#[⟨30,.data⟩,⟨24,.chain⟩],none⟩:=by kernel_rfl
theorem st_31 (h:CI w0 b wb pb (n+1) l a w) (hi:31 ∈ Region.ready .any cmdOps l):wpOp Tryz.prog cmdOps Q 31 (fun a' w'=>True/\CI w0 b wb pb n (l.setIfInBounds 31 true) a' w') a w:=by
 obtain⟨hu,o,ho,hp⟩:=mem_ready.1 hi
 rw[op_31]at ho
 cases ho
 have p30:=h.d 30 _ rfl (hp ⟨30,.data⟩ (by simp) rfl)
 simp only[Dn]at p30
 refine wpOp_step op_31 (fun K' hK=>?_)
 refine Eq.mpr (if_pos (by rfl)) ?_
 go_wp2_with fail
 refine(onNumber_any _ _ _ w).mono ?_
 rintro e w2 ⟨rfl,hw⟩
 have hb:Below w.heap.size w w2:=by rw[hw];exact t2 (aB _ _) (aB _ _)
 have c0:w2.cell? ⟨w.heap.size,0,none⟩=some (.func (.func 55) #[.pointer (some ⟨wb,0,none⟩)] #[]):=by rw[hw];simp
 exact hK _ _ ⟨trivial,h.put hu (show(tab b wb pb)[31]? = some (.ent 30 4) from rfl) rfl (by omega) (by omega) (by omega) (Kp.of hb) (t2 h.bl hb) (hm_of hb) ⟨_,(put_at a 30 _ h.ts (by omega)).1,⟨_,h.bl.size,rfl,c0⟩⟩⟩
theorem op_32:cmdOps[32]? = some ⟨none,.insert 74 (.tmp 3) (.const (.string ⟨#[116,119,105,99,101]⟩)) (.tmp 30),0,"command.go:36",#[⟨0,.data⟩,⟨31,.data⟩],none⟩:=by kernel_rfl
theorem st_32 (h:CI w0 b wb pb (n+1) l a w) (hi:32 ∈ Region.ready .any cmdOps l):wpOp Tryz.prog cmdOps Q 32 (fun a' w'=>True/\CI w0 b wb pb n (l.setIfInBounds 32 true) a' w') a w:=by
 obtain⟨hu,o,ho,hp⟩:=mem_ready.1 hi
 rw[op_32]at ho
 cases ho
 obtain⟨v,ev,hv⟩:=h.d 31 _ rfl (hp ⟨31,.data⟩ (by simp) rfl)
 obtain⟨M,w2,e3,hr,hc⟩:=h.insK (kk:=4) (by omega) hu (hp ⟨0,.data⟩ (by simp) rfl) hv
 simp only[ky]at hr
 refine wpOp_step op_32 (fun K' hK=>?_)
 refine Eq.mpr (if_pos (by rfl)) ?_
 go_wp2
 first | exact hc | exact⟨trivial,hc⟩
theorem op_33:cmdOps[33]? = some ⟨some 31,.load 48 (.tmp 1),48,"command.go:36",#[],none⟩:=by kernel_rfl
theorem st_33 (h:CI w0 b wb pb (n+1) l a w) (hi:33 ∈ Region.ready .any cmdOps l):wpOp Tryz.prog cmdOps Q 33 (fun a' w'=>True/\CI w0 b wb pb n (l.setIfInBounds 33 true) a' w') a w:=by
 obtain⟨hu,o,ho,hp⟩:=mem_ready.1 hi
 rw[op_33]at ho
 cases ho
 have t1:=h.t1
 have s1:=h.s1
 have s2:=h.s2
 have hmf := Tryz.hmf
 refine wpOp_step op_33 (fun K' hK=>?_)
 refine Eq.mpr (if_pos (by rfl)) ?_
 have hn:=h.put hu (show(tab b wb pb)[33]? = some (.val 31 (.pointer (some ⟨b,0,none⟩))) from rfl) rfl (by omega) (by omega) (by omega) (Kp.of (Below.refl _ _)) h.bl (fun _ _ _ e=>e) (put_at a 31 _ h.ts (by omega)).1
 go_wp2
 first | exact hn | exact⟨trivial,hn⟩
theorem op_34:cmdOps[34]? = some ⟨some 32,.nilCheck (.tmp 31),0,"command.go:36",#[⟨33,.data⟩],none⟩:=by kernel_rfl
theorem st_34 (h:CI w0 b wb pb (n+1) l a w) (hi:34 ∈ Region.ready .any cmdOps l):wpOp Tryz.prog cmdOps Q 34 (fun a' w'=>True/\CI w0 b wb pb n (l.setIfInBounds 34 true) a' w') a w:=by
 obtain⟨hu,o,ho,hp⟩:=mem_ready.1 hi
 rw[op_34]at ho
 cases ho
 have p33:=h.d 33 _ rfl (hp ⟨33,.data⟩ (by simp) rfl)
 simp only[Dn]at p33
 have t1:=h.t1
 have s1:=h.s1
 have s2:=h.s2
 have hmf := Tryz.hmf
 refine wpOp_step op_34 (fun K' hK=>?_)
 refine Eq.mpr (if_pos (by rfl)) ?_
 have hn:=h.put hu (show(tab b wb pb)[34]? = some (.val 32 (.pointer (some ⟨b,0,none⟩))) from rfl) rfl (by omega) (by omega) (by omega) (Kp.of (Below.refl _ _)) h.bl (fun _ _ _ e=>e) (put_at a 32 _ h.ts (by omega)).1
 go_wp2
 first | exact hn | exact⟨trivial,hn⟩
theorem op_35:cmdOps[35]? = some ⟨some 33,.fieldAddr 76 (.tmp 32) 0,0,"command.go:36",#[⟨34,.data⟩],none⟩:=by kernel_rfl
theorem st_35 (h:CI w0 b wb pb (n+1) l a w) (hi:35 ∈ Region.ready .any cmdOps l):wpOp Tryz.prog cmdOps Q 35 (fun a' w'=>True/\CI w0 b wb pb n (l.setIfInBounds 35 true) a' w') a w:=by
 obtain⟨hu,o,ho,hp⟩:=mem_ready.1 hi
 rw[op_35]at ho
 cases ho
 have p34:=h.d 34 _ rfl (hp ⟨34,.data⟩ (by simp) rfl)
 simp only[Dn]at p34
 have t1:=h.t1
 have s1:=h.s1
 have s2:=h.s2
 have hmf := Tryz.hmf
 refine wpOp_step op_35 (fun K' hK=>?_)
 refine Eq.mpr (if_pos (by rfl)) ?_
 have hn:=h.put hu (show(tab b wb pb)[35]? = some (.val 33 (.pointer (some ⟨b,0,none⟩))) from rfl) rfl (by omega) (by omega) (by omega) (Kp.of (Below.refl _ _)) h.bl (fun _ _ _ e=>e) (put_at a 33 _ h.ts (by omega)).1
 go_wp2
 first | exact hn | exact⟨trivial,hn⟩
theorem op_36:cmdOps[36]? = some ⟨some 34,.load 71 (.tmp 33),71,"command.go:36",#[⟨35,.data⟩],none⟩:=by kernel_rfl
theorem st_36 (h:CI w0 b wb pb (n+1) l a w) (hi:36 ∈ Region.ready .any cmdOps l):wpOp Tryz.prog cmdOps Q 36 (fun a' w'=>True/\CI w0 b wb pb n (l.setIfInBounds 36 true) a' w') a w:=by
 obtain⟨hu,o,ho,hp⟩:=mem_ready.1 hi
 rw[op_36]at ho
 cases ho
 have p35:=h.d 35 _ rfl (hp ⟨35,.data⟩ (by simp) rfl)
 simp only[Dn]at p35
 have t1:=h.t1
 have s1:=h.s1
 have s2:=h.s2
 have hmf := Tryz.hmf
 refine wpOp_step op_36 (fun K' hK=>?_)
 refine Eq.mpr (if_pos (by rfl)) ?_
 have hn:=h.put hu (show(tab b wb pb)[36]? = some (.val 34 (.pointer (some ⟨wb,0,none⟩))) from rfl) rfl (by omega) (by omega) (by omega) (Kp.of (Below.refl _ _)) h.bl (fun _ _ _ e=>e) (put_at a 34 _ h.ts (by omega)).1
 go_wp2
 first | exact hn | exact⟨trivial,hn⟩
theorem op_37:cmdOps[37]? = some ⟨some 35,.makeFunc (.func 57) #[.tmp 34] #[],114,"command.go:36",#[⟨36,.data⟩],none⟩:=by kernel_rfl
theorem st_37 (h:CI w0 b wb pb (n+1) l a w) (hi:37 ∈ Region.ready .any cmdOps l):wpOp Tryz.prog cmdOps Q 37 (fun a' w'=>True/\CI w0 b wb pb n (l.setIfInBounds 37 true) a' w') a w:=by
 obtain⟨hu,o,ho,hp⟩:=mem_ready.1 hi
 rw[op_37]at ho
 cases ho
 have p36:=h.d 36 _ rfl (hp ⟨36,.data⟩ (by simp) rfl)
 simp only[Dn]at p36
 have t1:=h.t1
 have s1:=h.s1
 have s2:=h.s2
 have hmf := Tryz.hmf
 refine wpOp_step op_37 (fun K' hK=>?_)
 refine Eq.mpr (if_pos (by rfl)) ?_
 have hn:=h.put hu (show(tab b wb pb)[37]? = some (.val 35 (.func (.func 57) #[.pointer (some ⟨wb,0,none⟩)] #[])) from rfl) rfl (by omega) (by omega) (by omega) (Kp.of (Below.refl _ _)) h.bl (fun _ _ _ e=>e) (put_at a 35 _ h.ts (by omega)).1
 go_wp2
 first | exact hn | exact⟨trivial,hn⟩
theorem op_38:cmdOps[38]? = some ⟨some 36,.call ⟨.value (.func 56),#[.tmp 35],#[114]⟩,117,"command.go:42",#[⟨37,.data⟩,⟨31,.chain⟩],none⟩:=by kernel_rfl
theorem st_38 (h:CI w0 b wb pb (n+1) l a w) (hi:38 ∈ Region.ready .any cmdOps l):wpOp Tryz.prog cmdOps Q 38 (fun a' w'=>True/\CI w0 b wb pb n (l.setIfInBounds 38 true) a' w') a w:=by
 obtain⟨hu,o,ho,hp⟩:=mem_ready.1 hi
 rw[op_38]at ho
 cases ho
 have p37:=h.d 37 _ rfl (hp ⟨37,.data⟩ (by simp) rfl)
 simp only[Dn]at p37
 refine wpOp_step op_38 (fun K' hK=>?_)
 refine Eq.mpr (if_pos (by rfl)) ?_
 go_wp2_with fail
 refine(onNode_any _ _ _ w).mono ?_
 rintro e w2 ⟨rfl,hw⟩
 have hb:Below w.heap.size w w2:=by rw[hw];exact t2 (aB _ _) (aB _ _)
 have c0:w2.cell? ⟨w.heap.size,0,none⟩=some (.func (.func 57) #[.pointer (some ⟨wb,0,none⟩)] #[]):=by rw[hw];simp
 exact hK _ _ ⟨trivial,h.put hu (show(tab b wb pb)[38]? = some (.ent 36 5) from rfl) rfl (by omega) (by omega) (by omega) (Kp.of hb) (t2 h.bl hb) (hm_of hb) ⟨_,(put_at a 36 _ h.ts (by omega)).1,⟨_,h.bl.size,rfl,c0⟩⟩⟩
theorem op_39:cmdOps[39]? = some ⟨none,.insert 74 (.tmp 3) (.const (.string ⟨#[100,111,119,110]⟩)) (.tmp 36),0,"command.go:36",#[⟨0,.data⟩,⟨38,.data⟩],none⟩:=by kernel_rfl
theorem st_39 (h:CI w0 b wb pb (n+1) l a w) (hi:39 ∈ Region.ready .any cmdOps l):wpOp Tryz.prog cmdOps Q 39 (fun a' w'=>True/\CI w0 b wb pb n (l.setIfInBounds 39 true) a' w') a w:=by
 obtain⟨hu,o,ho,hp⟩:=mem_ready.1 hi
 rw[op_39]at ho
 cases ho
 obtain⟨v,ev,hv⟩:=h.d 38 _ rfl (hp ⟨38,.data⟩ (by simp) rfl)
 obtain⟨M,w2,e3,hr,hc⟩:=h.insK (kk:=5) (by omega) hu (hp ⟨0,.data⟩ (by simp) rfl) hv
 simp only[ky]at hr
 refine wpOp_step op_39 (fun K' hK=>?_)
 refine Eq.mpr (if_pos (by rfl)) ?_
 go_wp2
 first | exact hc | exact⟨trivial,hc⟩
theorem op_40:cmdOps[40]? = some ⟨some 37,.load 48 (.tmp 1),48,"command.go:36",#[],none⟩:=by kernel_rfl
theorem st_40 (h:CI w0 b wb pb (n+1) l a w) (hi:40 ∈ Region.ready .any cmdOps l):wpOp Tryz.prog cmdOps Q 40 (fun a' w'=>True/\CI w0 b wb pb n (l.setIfInBounds 40 true) a' w') a w:=by
 obtain⟨hu,o,ho,hp⟩:=mem_ready.1 hi
 rw[op_40]at ho
 cases ho
 have t1:=h.t1
 have s1:=h.s1
 have s2:=h.s2
 have hmf := Tryz.hmf
 refine wpOp_step op_40 (fun K' hK=>?_)
 refine Eq.mpr (if_pos (by rfl)) ?_
 have hn:=h.put hu (show(tab b wb pb)[40]? = some (.val 37 (.pointer (some ⟨b,0,none⟩))) from rfl) rfl (by omega) (by omega) (by omega) (Kp.of (Below.refl _ _)) h.bl (fun _ _ _ e=>e) (put_at a 37 _ h.ts (by omega)).1
 go_wp2
 first | exact hn | exact⟨trivial,hn⟩
theorem op_41:cmdOps[41]? = some ⟨some 38,.nilCheck (.tmp 37),0,"command.go:36",#[⟨40,.data⟩],none⟩:=by kernel_rfl
theorem st_41 (h:CI w0 b wb pb (n+1) l a w) (hi:41 ∈ Region.ready .any cmdOps l):wpOp Tryz.prog cmdOps Q 41 (fun a' w'=>True/\CI w0 b wb pb n (l.setIfInBounds 41 true) a' w') a w:=by
 obtain⟨hu,o,ho,hp⟩:=mem_ready.1 hi
 rw[op_41]at ho
 cases ho
 have p40:=h.d 40 _ rfl (hp ⟨40,.data⟩ (by simp) rfl)
 simp only[Dn]at p40
 have t1:=h.t1
 have s1:=h.s1
 have s2:=h.s2
 have hmf := Tryz.hmf
 refine wpOp_step op_41 (fun K' hK=>?_)
 refine Eq.mpr (if_pos (by rfl)) ?_
 have hn:=h.put hu (show(tab b wb pb)[41]? = some (.val 38 (.pointer (some ⟨b,0,none⟩))) from rfl) rfl (by omega) (by omega) (by omega) (Kp.of (Below.refl _ _)) h.bl (fun _ _ _ e=>e) (put_at a 38 _ h.ts (by omega)).1
 go_wp2
 first | exact hn | exact⟨trivial,hn⟩
theorem op_42:cmdOps[42]? = some ⟨some 39,.fieldAddr 76 (.tmp 38) 0,0,"command.go:36",#[⟨41,.data⟩],none⟩:=by kernel_rfl
theorem st_42 (h:CI w0 b wb pb (n+1) l a w) (hi:42 ∈ Region.ready .any cmdOps l):wpOp Tryz.prog cmdOps Q 42 (fun a' w'=>True/\CI w0 b wb pb n (l.setIfInBounds 42 true) a' w') a w:=by
 obtain⟨hu,o,ho,hp⟩:=mem_ready.1 hi
 rw[op_42]at ho
 cases ho
 have p41:=h.d 41 _ rfl (hp ⟨41,.data⟩ (by simp) rfl)
 simp only[Dn]at p41
 have t1:=h.t1
 have s1:=h.s1
 have s2:=h.s2
 have hmf := Tryz.hmf
 refine wpOp_step op_42 (fun K' hK=>?_)
 refine Eq.mpr (if_pos (by rfl)) ?_
 have hn:=h.put hu (show(tab b wb pb)[42]? = some (.val 39 (.pointer (some ⟨b,0,none⟩))) from rfl) rfl (by omega) (by omega) (by omega) (Kp.of (Below.refl _ _)) h.bl (fun _ _ _ e=>e) (put_at a 39 _ h.ts (by omega)).1
 go_wp2
 first | exact hn | exact⟨trivial,hn⟩
theorem op_43:cmdOps[43]? = some ⟨some 40,.load 71 (.tmp 39),71,"command.go:36",#[⟨42,.data⟩],none⟩:=by kernel_rfl
theorem st_43 (h:CI w0 b wb pb (n+1) l a w) (hi:43 ∈ Region.ready .any cmdOps l):wpOp Tryz.prog cmdOps Q 43 (fun a' w'=>True/\CI w0 b wb pb n (l.setIfInBounds 43 true) a' w') a w:=by
 obtain⟨hu,o,ho,hp⟩:=mem_ready.1 hi
 rw[op_43]at ho
 cases ho
 have p42:=h.d 42 _ rfl (hp ⟨42,.data⟩ (by simp) rfl)
 simp only[Dn]at p42
 have t1:=h.t1
 have s1:=h.s1
 have s2:=h.s2
 have hmf := Tryz.hmf
 refine wpOp_step op_43 (fun K' hK=>?_)
 refine Eq.mpr (if_pos (by rfl)) ?_
 have hn:=h.put hu (show(tab b wb pb)[43]? = some (.val 40 (.pointer (some ⟨wb,0,none⟩))) from rfl) rfl (by omega) (by omega) (by omega) (Kp.of (Below.refl _ _)) h.bl (fun _ _ _ e=>e) (put_at a 40 _ h.ts (by omega)).1
 go_wp2
 first | exact hn | exact⟨trivial,hn⟩
theorem op_44:cmdOps[44]? = some ⟨some 41,.makeFunc (.func 48) #[.tmp 40] #[],114,"command.go:36",#[⟨43,.data⟩],none⟩:=by kernel_rfl
theorem st_44 (h:CI w0 b wb pb (n+1) l a w) (hi:44 ∈ Region.ready .any cmdOps l):wpOp Tryz.prog cmdOps Q 44 (fun a' w'=>True/\CI w0 b wb pb n (l.setIfInBounds 44 true) a' w') a w:=by
 obtain⟨hu,o,ho,hp⟩:=mem_ready.1 hi
 rw[op_44]at ho
 cases ho
 have p43:=h.d 43 _ rfl (hp ⟨43,.data⟩ (by simp) rfl)
 simp only[Dn]at p43
 have t1:=h.t1
 have s1:=h.s1
 have s2:=h.s2
 have hmf := Tryz.hmf
 refine wpOp_step op_44 (fun K' hK=>?_)
 refine Eq.mpr (if_pos (by rfl)) ?_
 have hn:=h.put hu (show(tab b wb pb)[44]? = some (.val 41 (.func (.func 48) #[.pointer (some ⟨wb,0,none⟩)] #[])) from rfl) rfl (by omega) (by omega) (by omega) (Kp.of (Below.refl _ _)) h.bl (fun _ _ _ e=>e) (put_at a 41 _ h.ts (by omega)).1
 go_wp2
 first | exact hn | exact⟨trivial,hn⟩
theorem op_45:cmdOps[45]? = some ⟨some 42,.call ⟨.value (.func 56),#[.tmp 41],#[114]⟩,117,"command.go:43",#[⟨44,.data⟩,⟨38,.chain⟩],none⟩:=by kernel_rfl
theorem st_45 (h:CI w0 b wb pb (n+1) l a w) (hi:45 ∈ Region.ready .any cmdOps l):wpOp Tryz.prog cmdOps Q 45 (fun a' w'=>True/\CI w0 b wb pb n (l.setIfInBounds 45 true) a' w') a w:=by
 obtain⟨hu,o,ho,hp⟩:=mem_ready.1 hi
 rw[op_45]at ho
 cases ho
 have p44:=h.d 44 _ rfl (hp ⟨44,.data⟩ (by simp) rfl)
 simp only[Dn]at p44
 refine wpOp_step op_45 (fun K' hK=>?_)
 refine Eq.mpr (if_pos (by rfl)) ?_
 go_wp2_with fail
 refine(onNode_any _ _ _ w).mono ?_
 rintro e w2 ⟨rfl,hw⟩
 have hb:Below w.heap.size w w2:=by rw[hw];exact t2 (aB _ _) (aB _ _)
 have c0:w2.cell? ⟨w.heap.size,0,none⟩=some (.func (.func 48) #[.pointer (some ⟨wb,0,none⟩)] #[]):=by rw[hw];simp
 exact hK _ _ ⟨trivial,h.put hu (show(tab b wb pb)[45]? = some (.ent 42 6) from rfl) rfl (by omega) (by omega) (by omega) (Kp.of hb) (t2 h.bl hb) (hm_of hb) ⟨_,(put_at a 42 _ h.ts (by omega)).1,⟨_,h.bl.size,rfl,c0⟩⟩⟩
theorem op_46:cmdOps[46]? = some ⟨none,.insert 74 (.tmp 3) (.const (.string ⟨#[117,112]⟩)) (.tmp 42),0,"command.go:36",#[⟨0,.data⟩,⟨45,.data⟩],none⟩:=by kernel_rfl
theorem st_46 (h:CI w0 b wb pb (n+1) l a w) (hi:46 ∈ Region.ready .any cmdOps l):wpOp Tryz.prog cmdOps Q 46 (fun a' w'=>True/\CI w0 b wb pb n (l.setIfInBounds 46 true) a' w') a w:=by
 obtain⟨hu,o,ho,hp⟩:=mem_ready.1 hi
 rw[op_46]at ho
 cases ho
 obtain⟨v,ev,hv⟩:=h.d 45 _ rfl (hp ⟨45,.data⟩ (by simp) rfl)
 obtain⟨M,w2,e3,hr,hc⟩:=h.insK (kk:=6) (by omega) hu (hp ⟨0,.data⟩ (by simp) rfl) hv
 simp only[ky]at hr
 refine wpOp_step op_46 (fun K' hK=>?_)
 refine Eq.mpr (if_pos (by rfl)) ?_
 go_wp2
 first | exact hc | exact⟨trivial,hc⟩
theorem op_47:cmdOps[47]? = some ⟨some 43,.load 48 (.tmp 1),48,"command.go:36",#[],none⟩:=by kernel_rfl
theorem st_47 (h:CI w0 b wb pb (n+1) l a w) (hi:47 ∈ Region.ready .any cmdOps l):wpOp Tryz.prog cmdOps Q 47 (fun a' w'=>True/\CI w0 b wb pb n (l.setIfInBounds 47 true) a' w') a w:=by
 obtain⟨hu,o,ho,hp⟩:=mem_ready.1 hi
 rw[op_47]at ho
 cases ho
 have t1:=h.t1
 have s1:=h.s1
 have s2:=h.s2
 have hmf := Tryz.hmf
 refine wpOp_step op_47 (fun K' hK=>?_)
 refine Eq.mpr (if_pos (by rfl)) ?_
 have hn:=h.put hu (show(tab b wb pb)[47]? = some (.val 43 (.pointer (some ⟨b,0,none⟩))) from rfl) rfl (by omega) (by omega) (by omega) (Kp.of (Below.refl _ _)) h.bl (fun _ _ _ e=>e) (put_at a 43 _ h.ts (by omega)).1
 go_wp2
 first | exact hn | exact⟨trivial,hn⟩
theorem op_48:cmdOps[48]? = some ⟨some 44,.nilCheck (.tmp 43),0,"command.go:36",#[⟨47,.data⟩],none⟩:=by kernel_rfl
theorem st_48 (h:CI w0 b wb pb (n+1) l a w) (hi:48 ∈ Region.ready .any cmdOps l):wpOp Tryz.prog cmdOps Q 48 (fun a' w'=>True/\CI w0 b wb pb n (l.setIfInBounds 48 true) a' w') a w:=by
 obtain⟨hu,o,ho,hp⟩:=mem_ready.1 hi
 rw[op_48]at ho
 cases ho
 have p47:=h.d 47 _ rfl (hp ⟨47,.data⟩ (by simp) rfl)
 simp only[Dn]at p47
 have t1:=h.t1
 have s1:=h.s1
 have s2:=h.s2
 have hmf := Tryz.hmf
 refine wpOp_step op_48 (fun K' hK=>?_)
 refine Eq.mpr (if_pos (by rfl)) ?_
 have hn:=h.put hu (show(tab b wb pb)[48]? = some (.val 44 (.pointer (some ⟨b,0,none⟩))) from rfl) rfl (by omega) (by omega) (by omega) (Kp.of (Below.refl _ _)) h.bl (fun _ _ _ e=>e) (put_at a 44 _ h.ts (by omega)).1
 go_wp2
 first | exact hn | exact⟨trivial,hn⟩
theorem op_49:cmdOps[49]? = some ⟨some 45,.fieldAddr 76 (.tmp 44) 0,0,"command.go:36",#[⟨48,.data⟩],none⟩:=by kernel_rfl
theorem st_49 (h:CI w0 b wb pb (n+1) l a w) (hi:49 ∈ Region.ready .any cmdOps l):wpOp Tryz.prog cmdOps Q 49 (fun a' w'=>True/\CI w0 b wb pb n (l.setIfInBounds 49 true) a' w') a w:=by
 obtain⟨hu,o,ho,hp⟩:=mem_ready.1 hi
 rw[op_49]at ho
 cases ho
 have p48:=h.d 48 _ rfl (hp ⟨48,.data⟩ (by simp) rfl)
 simp only[Dn]at p48
 have t1:=h.t1
 have s1:=h.s1
 have s2:=h.s2
 have hmf := Tryz.hmf
 refine wpOp_step op_49 (fun K' hK=>?_)
 refine Eq.mpr (if_pos (by rfl)) ?_
 have hn:=h.put hu (show(tab b wb pb)[49]? = some (.val 45 (.pointer (some ⟨b,0,none⟩))) from rfl) rfl (by omega) (by omega) (by omega) (Kp.of (Below.refl _ _)) h.bl (fun _ _ _ e=>e) (put_at a 45 _ h.ts (by omega)).1
 go_wp2
 first | exact hn | exact⟨trivial,hn⟩
theorem op_50:cmdOps[50]? = some ⟨some 46,.load 71 (.tmp 45),71,"command.go:36",#[⟨49,.data⟩],none⟩:=by kernel_rfl
theorem st_50 (h:CI w0 b wb pb (n+1) l a w) (hi:50 ∈ Region.ready .any cmdOps l):wpOp Tryz.prog cmdOps Q 50 (fun a' w'=>True/\CI w0 b wb pb n (l.setIfInBounds 50 true) a' w') a w:=by
 obtain⟨hu,o,ho,hp⟩:=mem_ready.1 hi
 rw[op_50]at ho
 cases ho
 have p49:=h.d 49 _ rfl (hp ⟨49,.data⟩ (by simp) rfl)
 simp only[Dn]at p49
 have t1:=h.t1
 have s1:=h.s1
 have s2:=h.s2
 have hmf := Tryz.hmf
 refine wpOp_step op_50 (fun K' hK=>?_)
 refine Eq.mpr (if_pos (by rfl)) ?_
 have hn:=h.put hu (show(tab b wb pb)[50]? = some (.val 46 (.pointer (some ⟨wb,0,none⟩))) from rfl) rfl (by omega) (by omega) (by omega) (Kp.of (Below.refl _ _)) h.bl (fun _ _ _ e=>e) (put_at a 46 _ h.ts (by omega)).1
 go_wp2
 first | exact hn | exact⟨trivial,hn⟩
theorem op_51:cmdOps[51]? = some ⟨some 47,.makeFunc (.func 59) #[.tmp 46] #[],122,"command.go:36",#[⟨50,.data⟩],none⟩:=by kernel_rfl
theorem st_51 (h:CI w0 b wb pb (n+1) l a w) (hi:51 ∈ Region.ready .any cmdOps l):wpOp Tryz.prog cmdOps Q 51 (fun a' w'=>True/\CI w0 b wb pb n (l.setIfInBounds 51 true) a' w') a w:=by
 obtain⟨hu,o,ho,hp⟩:=mem_ready.1 hi
 rw[op_51]at ho
 cases ho
 have p50:=h.d 50 _ rfl (hp ⟨50,.data⟩ (by simp) rfl)
 simp only[Dn]at p50
 have t1:=h.t1
 have s1:=h.s1
 have s2:=h.s2
 have hmf := Tryz.hmf
 refine wpOp_step op_51 (fun K' hK=>?_)
 refine Eq.mpr (if_pos (by rfl)) ?_
 have hn:=h.put hu (show(tab b wb pb)[51]? = some (.val 47 (.func (.func 59) #[.pointer (some ⟨wb,0,none⟩)] #[])) from rfl) rfl (by omega) (by omega) (by omega) (Kp.of (Below.refl _ _)) h.bl (fun _ _ _ e=>e) (put_at a 47 _ h.ts (by omega)).1
 go_wp2
 first | exact hn | exact⟨trivial,hn⟩
theorem op_52:cmdOps[52]? = some ⟨some 48,.call ⟨.value (.func 58),#[.tmp 47],#[122]⟩,117,"command.go:44",#[⟨51,.data⟩,⟨45,.chain⟩],none⟩:=by kernel_rfl
theorem st_52 (h:CI w0 b wb pb (n+1) l a w) (hi:52 ∈ Region.ready .any cmdOps l):wpOp Tryz.prog cmdOps Q 52 (fun a' w'=>True/\CI w0 b wb pb n (l.setIfInBounds 52 true) a' w') a w:=by
 obtain⟨hu,o,ho,hp⟩:=mem_ready.1 hi
 rw[op_52]at ho
 cases ho
 have p51:=h.d 51 _ rfl (hp ⟨51,.data⟩ (by simp) rfl)
 simp only[Dn]at p51
 refine wpOp_step op_52 (fun K' hK=>?_)
 refine Eq.mpr (if_pos (by rfl)) ?_
 go_wp2_with fail
 refine(onPacket_any _ _ _ w).mono ?_
 rintro e w2 ⟨rfl,hw⟩
 have hb:Below w.heap.size w w2:=by rw[hw];exact t2 (aB _ _) (aB _ _)
 have c0:w2.cell? ⟨w.heap.size,0,none⟩=some (.func (.func 59) #[.pointer (some ⟨wb,0,none⟩)] #[]):=by rw[hw];simp
 exact hK _ _ ⟨trivial,h.put hu (show(tab b wb pb)[52]? = some (.ent 48 7) from rfl) rfl (by omega) (by omega) (by omega) (Kp.of hb) (t2 h.bl hb) (hm_of hb) ⟨_,(put_at a 48 _ h.ts (by omega)).1,⟨_,h.bl.size,rfl,c0⟩⟩⟩
theorem op_53:cmdOps[53]? = some ⟨none,.insert 74 (.tmp 3) (.const (.string ⟨#[105,110,115,105,100,101]⟩)) (.tmp 48),0,"command.go:36",#[⟨0,.data⟩,⟨52,.data⟩],none⟩:=by kernel_rfl
theorem st_53 (h:CI w0 b wb pb (n+1) l a w) (hi:53 ∈ Region.ready .any cmdOps l):wpOp Tryz.prog cmdOps Q 53 (fun a' w'=>True/\CI w0 b wb pb n (l.setIfInBounds 53 true) a' w') a w:=by
 obtain⟨hu,o,ho,hp⟩:=mem_ready.1 hi
 rw[op_53]at ho
 cases ho
 obtain⟨v,ev,hv⟩:=h.d 52 _ rfl (hp ⟨52,.data⟩ (by simp) rfl)
 obtain⟨M,w2,e3,hr,hc⟩:=h.insK (kk:=7) (by omega) hu (hp ⟨0,.data⟩ (by simp) rfl) hv
 simp only[ky]at hr
 refine wpOp_step op_53 (fun K' hK=>?_)
 refine Eq.mpr (if_pos (by rfl)) ?_
 go_wp2
 first | exact hc | exact⟨trivial,hc⟩
theorem op_54:cmdOps[54]? = some ⟨some 49,.load 48 (.tmp 1),48,"command.go:36",#[],none⟩:=by kernel_rfl
theorem st_54 (h:CI w0 b wb pb (n+1) l a w) (hi:54 ∈ Region.ready .any cmdOps l):wpOp Tryz.prog cmdOps Q 54 (fun a' w'=>True/\CI w0 b wb pb n (l.setIfInBounds 54 true) a' w') a w:=by
 obtain⟨hu,o,ho,hp⟩:=mem_ready.1 hi
 rw[op_54]at ho
 cases ho
 have t1:=h.t1
 have s1:=h.s1
 have s2:=h.s2
 have hmf := Tryz.hmf
 refine wpOp_step op_54 (fun K' hK=>?_)
 refine Eq.mpr (if_pos (by rfl)) ?_
 have hn:=h.put hu (show(tab b wb pb)[54]? = some (.val 49 (.pointer (some ⟨b,0,none⟩))) from rfl) rfl (by omega) (by omega) (by omega) (Kp.of (Below.refl _ _)) h.bl (fun _ _ _ e=>e) (put_at a 49 _ h.ts (by omega)).1
 go_wp2
 first | exact hn | exact⟨trivial,hn⟩
theorem op_55:cmdOps[55]? = some ⟨some 50,.nilCheck (.tmp 49),0,"command.go:36",#[⟨54,.data⟩],none⟩:=by kernel_rfl
theorem st_55 (h:CI w0 b wb pb (n+1) l a w) (hi:55 ∈ Region.ready .any cmdOps l):wpOp Tryz.prog cmdOps Q 55 (fun a' w'=>True/\CI w0 b wb pb n (l.setIfInBounds 55 true) a' w') a w:=by
 obtain⟨hu,o,ho,hp⟩:=mem_ready.1 hi
 rw[op_55]at ho
 cases ho
 have p54:=h.d 54 _ rfl (hp ⟨54,.data⟩ (by simp) rfl)
 simp only[Dn]at p54
 have t1:=h.t1
 have s1:=h.s1
 have s2:=h.s2
 have hmf := Tryz.hmf
 refine wpOp_step op_55 (fun K' hK=>?_)
 refine Eq.mpr (if_pos (by rfl)) ?_
 have hn:=h.put hu (show(tab b wb pb)[55]? = some (.val 50 (.pointer (some ⟨b,0,none⟩))) from rfl) rfl (by omega) (by omega) (by omega) (Kp.of (Below.refl _ _)) h.bl (fun _ _ _ e=>e) (put_at a 50 _ h.ts (by omega)).1
 go_wp2
 first | exact hn | exact⟨trivial,hn⟩
theorem op_56:cmdOps[56]? = some ⟨some 51,.fieldAddr 76 (.tmp 50) 0,0,"command.go:36",#[⟨55,.data⟩],none⟩:=by kernel_rfl
theorem st_56 (h:CI w0 b wb pb (n+1) l a w) (hi:56 ∈ Region.ready .any cmdOps l):wpOp Tryz.prog cmdOps Q 56 (fun a' w'=>True/\CI w0 b wb pb n (l.setIfInBounds 56 true) a' w') a w:=by
 obtain⟨hu,o,ho,hp⟩:=mem_ready.1 hi
 rw[op_56]at ho
 cases ho
 have p55:=h.d 55 _ rfl (hp ⟨55,.data⟩ (by simp) rfl)
 simp only[Dn]at p55
 have t1:=h.t1
 have s1:=h.s1
 have s2:=h.s2
 have hmf := Tryz.hmf
 refine wpOp_step op_56 (fun K' hK=>?_)
 refine Eq.mpr (if_pos (by rfl)) ?_
 have hn:=h.put hu (show(tab b wb pb)[56]? = some (.val 51 (.pointer (some ⟨b,0,none⟩))) from rfl) rfl (by omega) (by omega) (by omega) (Kp.of (Below.refl _ _)) h.bl (fun _ _ _ e=>e) (put_at a 51 _ h.ts (by omega)).1
 go_wp2
 first | exact hn | exact⟨trivial,hn⟩
theorem op_57:cmdOps[57]? = some ⟨some 52,.load 71 (.tmp 51),71,"command.go:36",#[⟨56,.data⟩],none⟩:=by kernel_rfl
theorem st_57 (h:CI w0 b wb pb (n+1) l a w) (hi:57 ∈ Region.ready .any cmdOps l):wpOp Tryz.prog cmdOps Q 57 (fun a' w'=>True/\CI w0 b wb pb n (l.setIfInBounds 57 true) a' w') a w:=by
 obtain⟨hu,o,ho,hp⟩:=mem_ready.1 hi
 rw[op_57]at ho
 cases ho
 have p56:=h.d 56 _ rfl (hp ⟨56,.data⟩ (by simp) rfl)
 simp only[Dn]at p56
 have t1:=h.t1
 have s1:=h.s1
 have s2:=h.s2
 have hmf := Tryz.hmf
 refine wpOp_step op_57 (fun K' hK=>?_)
 refine Eq.mpr (if_pos (by rfl)) ?_
 have hn:=h.put hu (show(tab b wb pb)[57]? = some (.val 52 (.pointer (some ⟨wb,0,none⟩))) from rfl) rfl (by omega) (by omega) (by omega) (Kp.of (Below.refl _ _)) h.bl (fun _ _ _ e=>e) (put_at a 52 _ h.ts (by omega)).1
 go_wp2
 first | exact hn | exact⟨trivial,hn⟩
theorem op_58:cmdOps[58]? = some ⟨some 53,.makeFunc (.func 60) #[.tmp 52] #[],122,"command.go:36",#[⟨57,.data⟩],none⟩:=by kernel_rfl
theorem st_58 (h:CI w0 b wb pb (n+1) l a w) (hi:58 ∈ Region.ready .any cmdOps l):wpOp Tryz.prog cmdOps Q 58 (fun a' w'=>True/\CI w0 b wb pb n (l.setIfInBounds 58 true) a' w') a w:=by
 obtain⟨hu,o,ho,hp⟩:=mem_ready.1 hi
 rw[op_58]at ho
 cases ho
 have p57:=h.d 57 _ rfl (hp ⟨57,.data⟩ (by simp) rfl)
 simp only[Dn]at p57
 have t1:=h.t1
 have s1:=h.s1
 have s2:=h.s2
 have hmf := Tryz.hmf
 refine wpOp_step op_58 (fun K' hK=>?_)
 refine Eq.mpr (if_pos (by rfl)) ?_
 have hn:=h.put hu (show(tab b wb pb)[58]? = some (.val 53 (.func (.func 60) #[.pointer (some ⟨wb,0,none⟩)] #[])) from rfl) rfl (by omega) (by omega) (by omega) (Kp.of (Below.refl _ _)) h.bl (fun _ _ _ e=>e) (put_at a 53 _ h.ts (by omega)).1
 go_wp2
 first | exact hn | exact⟨trivial,hn⟩
theorem op_59:cmdOps[59]? = some ⟨some 54,.call ⟨.value (.func 58),#[.tmp 53],#[122]⟩,117,"command.go:45",#[⟨58,.data⟩,⟨52,.chain⟩],none⟩:=by kernel_rfl
theorem st_59 (h:CI w0 b wb pb (n+1) l a w) (hi:59 ∈ Region.ready .any cmdOps l):wpOp Tryz.prog cmdOps Q 59 (fun a' w'=>True/\CI w0 b wb pb n (l.setIfInBounds 59 true) a' w') a w:=by
 obtain⟨hu,o,ho,hp⟩:=mem_ready.1 hi
 rw[op_59]at ho
 cases ho
 have p58:=h.d 58 _ rfl (hp ⟨58,.data⟩ (by simp) rfl)
 simp only[Dn]at p58
 refine wpOp_step op_59 (fun K' hK=>?_)
 refine Eq.mpr (if_pos (by rfl)) ?_
 go_wp2_with fail
 refine(onPacket_any _ _ _ w).mono ?_
 rintro e w2 ⟨rfl,hw⟩
 have hb:Below w.heap.size w w2:=by rw[hw];exact t2 (aB _ _) (aB _ _)
 have c0:w2.cell? ⟨w.heap.size,0,none⟩=some (.func (.func 60) #[.pointer (some ⟨wb,0,none⟩)] #[]):=by rw[hw];simp
 exact hK _ _ ⟨trivial,h.put hu (show(tab b wb pb)[59]? = some (.ent 54 8) from rfl) rfl (by omega) (by omega) (by omega) (Kp.of hb) (t2 h.bl hb) (hm_of hb) ⟨_,(put_at a 54 _ h.ts (by omega)).1,⟨_,h.bl.size,rfl,c0⟩⟩⟩
theorem op_60:cmdOps[60]? = some ⟨none,.insert 74 (.tmp 3) (.const (.string ⟨#[111,117,116,115,105,100,101]⟩)) (.tmp 54),0,"command.go:36",#[⟨0,.data⟩,⟨59,.data⟩],none⟩:=by kernel_rfl
theorem st_60 (h:CI w0 b wb pb (n+1) l a w) (hi:60 ∈ Region.ready .any cmdOps l):wpOp Tryz.prog cmdOps Q 60 (fun a' w'=>True/\CI w0 b wb pb n (l.setIfInBounds 60 true) a' w') a w:=by
 obtain⟨hu,o,ho,hp⟩:=mem_ready.1 hi
 rw[op_60]at ho
 cases ho
 obtain⟨v,ev,hv⟩:=h.d 59 _ rfl (hp ⟨59,.data⟩ (by simp) rfl)
 obtain⟨M,w2,e3,hr,hc⟩:=h.insK (kk:=8) (by omega) hu (hp ⟨0,.data⟩ (by simp) rfl) hv
 simp only[ky]at hr
 refine wpOp_step op_60 (fun K' hK=>?_)
 refine Eq.mpr (if_pos (by rfl)) ?_
 go_wp2
 first | exact hc | exact⟨trivial,hc⟩
theorem op_61:cmdOps[61]? = some ⟨some 55,.makeFunc (.func 62) #[] #[.tmp 1],79,"command.go:36",#[],none⟩:=by kernel_rfl
theorem st_61 (h:CI w0 b wb pb (n+1) l a w) (hi:61 ∈ Region.ready .any cmdOps l):wpOp Tryz.prog cmdOps Q 61 (fun a' w'=>True/\CI w0 b wb pb n (l.setIfInBounds 61 true) a' w') a w:=by
 obtain⟨hu,o,ho,hp⟩:=mem_ready.1 hi
 rw[op_61]at ho
 cases ho
 have t1:=h.t1
 have s1:=h.s1
 have s2:=h.s2
 have hmf := Tryz.hmf
 refine wpOp_step op_61 (fun K' hK=>?_)
 refine Eq.mpr (if_pos (by rfl)) ?_
 have hn:=h.put hu (show(tab b wb pb)[61]? = some (.val 55 (.func (.func 62) #[] #[.pointer (some ⟨pb,0,none⟩)])) from rfl) rfl (by omega) (by omega) (by omega) (Kp.of (Below.refl _ _)) h.bl (fun _ _ _ e=>e) (put_at a 55 _ h.ts (by omega)).1
 go_wp2
 first | exact hn | exact⟨trivial,hn⟩
theorem op_62:cmdOps[62]? = some ⟨some 56,.call ⟨.value (.func 61),#[.tmp 55],#[79]⟩,117,"command.go:46",#[⟨61,.data⟩,⟨59,.chain⟩],none⟩:=by kernel_rfl
theorem st_62 (h:CI w0 b wb pb (n+1) l a w) (hi:62 ∈ Region.ready .any cmdOps l):wpOp Tryz.prog cmdOps Q 62 (fun a' w'=>True/\CI w0 b wb pb n (l.setIfInBounds 62 true) a' w') a w:=by
 obtain⟨hu,o,ho,hp⟩:=mem_ready.1 hi
 rw[op_62]at ho
 cases ho
 have p61:=h.d 61 _ rfl (hp ⟨61,.data⟩ (by simp) rfl)
 simp only[Dn]at p61
 refine wpOp_step op_62 (fun K' hK=>?_)
 refine Eq.mpr (if_pos (by rfl)) ?_
 go_wp2_with fail
 refine(telling_any _ _ _ w).mono ?_
 rintro e w2 ⟨rfl,hw⟩
 have hb:Below w.heap.size w w2:=by rw[hw];exact t2 (aB _ _) (aB _ _)
 have c0:w2.cell? ⟨w.heap.size,0,none⟩=some (.func (.func 62) #[] #[.pointer (some ⟨pb,0,none⟩)]):=by rw[hw];simp
 exact hK _ _ ⟨trivial,h.put hu (show(tab b wb pb)[62]? = some (.ent 56 9) from rfl) rfl (by omega) (by omega) (by omega) (Kp.of hb) (t2 h.bl hb) (hm_of hb) ⟨_,(put_at a 56 _ h.ts (by omega)).1,⟨_,h.bl.size,rfl,c0⟩⟩⟩
theorem op_63:cmdOps[63]? = some ⟨none,.insert 74 (.tmp 3) (.const (.string ⟨#[97,108,108]⟩)) (.tmp 56),0,"command.go:36",#[⟨0,.data⟩,⟨62,.data⟩],none⟩:=by kernel_rfl
theorem st_63 (h:CI w0 b wb pb (n+1) l a w) (hi:63 ∈ Region.ready .any cmdOps l):wpOp Tryz.prog cmdOps Q 63 (fun a' w'=>True/\CI w0 b wb pb n (l.setIfInBounds 63 true) a' w') a w:=by
 obtain⟨hu,o,ho,hp⟩:=mem_ready.1 hi
 rw[op_63]at ho
 cases ho
 obtain⟨v,ev,hv⟩:=h.d 62 _ rfl (hp ⟨62,.data⟩ (by simp) rfl)
 obtain⟨M,w2,e3,hr,hc⟩:=h.insK (kk:=9) (by omega) hu (hp ⟨0,.data⟩ (by simp) rfl) hv
 simp only[ky]at hr
 refine wpOp_step op_63 (fun K' hK=>?_)
 refine Eq.mpr (if_pos (by rfl)) ?_
 go_wp2
 first | exact hc | exact⟨trivial,hc⟩
theorem op_64:cmdOps[64]? = some ⟨some 57,.makeFunc (.func 65) #[] #[.tmp 1],79,"command.go:36",#[],none⟩:=by kernel_rfl
theorem st_64 (h:CI w0 b wb pb (n+1) l a w) (hi:64 ∈ Region.ready .any cmdOps l):wpOp Tryz.prog cmdOps Q 64 (fun a' w'=>True/\CI w0 b wb pb n (l.setIfInBounds 64 true) a' w') a w:=by
 obtain⟨hu,o,ho,hp⟩:=mem_ready.1 hi
 rw[op_64]at ho
 cases ho
 have t1:=h.t1
 have s1:=h.s1
 have s2:=h.s2
 have hmf := Tryz.hmf
 refine wpOp_step op_64 (fun K' hK=>?_)
 refine Eq.mpr (if_pos (by rfl)) ?_
 have hn:=h.put hu (show(tab b wb pb)[64]? = some (.val 57 (.func (.func 65) #[] #[.pointer (some ⟨pb,0,none⟩)])) from rfl) rfl (by omega) (by omega) (by omega) (Kp.of (Below.refl _ _)) h.bl (fun _ _ _ e=>e) (put_at a 57 _ h.ts (by omega)).1
 go_wp2
 first | exact hn | exact⟨trivial,hn⟩
theorem op_65:cmdOps[65]? = some ⟨some 58,.call ⟨.value (.func 61),#[.tmp 57],#[79]⟩,117,"command.go:47",#[⟨64,.data⟩,⟨62,.chain⟩],none⟩:=by kernel_rfl
theorem st_65 (h:CI w0 b wb pb (n+1) l a w) (hi:65 ∈ Region.ready .any cmdOps l):wpOp Tryz.prog cmdOps Q 65 (fun a' w'=>True/\CI w0 b wb pb n (l.setIfInBounds 65 true) a' w') a w:=by
 obtain⟨hu,o,ho,hp⟩:=mem_ready.1 hi
 rw[op_65]at ho
 cases ho
 have p64:=h.d 64 _ rfl (hp ⟨64,.data⟩ (by simp) rfl)
 simp only[Dn]at p64
 refine wpOp_step op_65 (fun K' hK=>?_)
 refine Eq.mpr (if_pos (by rfl)) ?_
 go_wp2_with fail
 refine(telling_any _ _ _ w).mono ?_
 rintro e w2 ⟨rfl,hw⟩
 have hb:Below w.heap.size w w2:=by rw[hw];exact t2 (aB _ _) (aB _ _)
 have c0:w2.cell? ⟨w.heap.size,0,none⟩=some (.func (.func 65) #[] #[.pointer (some ⟨pb,0,none⟩)]):=by rw[hw];simp
 exact hK _ _ ⟨trivial,h.put hu (show(tab b wb pb)[65]? = some (.ent 58 10) from rfl) rfl (by omega) (by omega) (by omega) (Kp.of hb) (t2 h.bl hb) (hm_of hb) ⟨_,(put_at a 58 _ h.ts (by omega)).1,⟨_,h.bl.size,rfl,c0⟩⟩⟩
theorem op_66:cmdOps[66]? = some ⟨none,.insert 74 (.tmp 3) (.const (.string ⟨#[102,108,121]⟩)) (.tmp 58),0,"command.go:36",#[⟨0,.data⟩,⟨65,.data⟩],none⟩:=by kernel_rfl
theorem st_66 (h:CI w0 b wb pb (n+1) l a w) (hi:66 ∈ Region.ready .any cmdOps l):wpOp Tryz.prog cmdOps Q 66 (fun a' w'=>True/\CI w0 b wb pb n (l.setIfInBounds 66 true) a' w') a w:=by
 obtain⟨hu,o,ho,hp⟩:=mem_ready.1 hi
 rw[op_66]at ho
 cases ho
 obtain⟨v,ev,hv⟩:=h.d 65 _ rfl (hp ⟨65,.data⟩ (by simp) rfl)
 obtain⟨M,w2,e3,hr,hc⟩:=h.insK (kk:=10) (by omega) hu (hp ⟨0,.data⟩ (by simp) rfl) hv
 simp only[ky]at hr
 refine wpOp_step op_66 (fun K' hK=>?_)
 refine Eq.mpr (if_pos (by rfl)) ?_
 go_wp2
 first | exact hc | exact⟨trivial,hc⟩
theorem op_67:cmdOps[67]? = some ⟨some 59,.load 48 (.tmp 1),48,"command.go:36",#[],none⟩:=by kernel_rfl
theorem st_67 (h:CI w0 b wb pb (n+1) l a w) (hi:67 ∈ Region.ready .any cmdOps l):wpOp Tryz.prog cmdOps Q 67 (fun a' w'=>True/\CI w0 b wb pb n (l.setIfInBounds 67 true) a' w') a w:=by
 obtain⟨hu,o,ho,hp⟩:=mem_ready.1 hi
 rw[op_67]at ho
 cases ho
 have t1:=h.t1
 have s1:=h.s1
 have s2:=h.s2
 have hmf := Tryz.hmf
 refine wpOp_step op_67 (fun K' hK=>?_)
 refine Eq.mpr (if_pos (by rfl)) ?_
 have hn:=h.put hu (show(tab b wb pb)[67]? = some (.val 59 (.pointer (some ⟨b,0,none⟩))) from rfl) rfl (by omega) (by omega) (by omega) (Kp.of (Below.refl _ _)) h.bl (fun _ _ _ e=>e) (put_at a 59 _ h.ts (by omega)).1
 go_wp2
 first | exact hn | exact⟨trivial,hn⟩
theorem op_68:cmdOps[68]? = some ⟨some 60,.makeFunc (.func 67) #[.tmp 59] #[],79,"command.go:36",#[⟨67,.data⟩],none⟩:=by kernel_rfl
theorem st_68 (h:CI w0 b wb pb (n+1) l a w) (hi:68 ∈ Region.ready .any cmdOps l):wpOp Tryz.prog cmdOps Q 68 (fun a' w'=>True/\CI w0 b wb pb n (l.setIfInBounds 68 true) a' w') a w:=by
 obtain⟨hu,o,ho,hp⟩:=mem_ready.1 hi
 rw[op_68]at ho
 cases ho
 have p67:=h.d 67 _ rfl (hp ⟨67,.data⟩ (by simp) rfl)
 simp only[Dn]at p67
 have t1:=h.t1
 have s1:=h.s1
 have s2:=h.s2
 have hmf := Tryz.hmf
 refine wpOp_step op_68 (fun K' hK=>?_)
 refine Eq.mpr (if_pos (by rfl)) ?_
 have hn:=h.put hu (show(tab b wb pb)[68]? = some (.val 60 (.func (.func 67) #[.pointer (some ⟨b,0,none⟩)] #[])) from rfl) rfl (by omega) (by omega) (by omega) (Kp.of (Below.refl _ _)) h.bl (fun _ _ _ e=>e) (put_at a 60 _ h.ts (by omega)).1
 go_wp2
 first | exact hn | exact⟨trivial,hn⟩
theorem op_69:cmdOps[69]? = some ⟨some 61,.call ⟨.value (.func 61),#[.tmp 60],#[79]⟩,117,"command.go:48",#[⟨68,.data⟩,⟨65,.chain⟩],none⟩:=by kernel_rfl
theorem st_69 (h:CI w0 b wb pb (n+1) l a w) (hi:69 ∈ Region.ready .any cmdOps l):wpOp Tryz.prog cmdOps Q 69 (fun a' w'=>True/\CI w0 b wb pb n (l.setIfInBounds 69 true) a' w') a w:=by
 obtain⟨hu,o,ho,hp⟩:=mem_ready.1 hi
 rw[op_69]at ho
 cases ho
 have p68:=h.d 68 _ rfl (hp ⟨68,.data⟩ (by simp) rfl)
 simp only[Dn]at p68
 refine wpOp_step op_69 (fun K' hK=>?_)
 refine Eq.mpr (if_pos (by rfl)) ?_
 go_wp2_with fail
 refine(telling_any _ _ _ w).mono ?_
 rintro e w2 ⟨rfl,hw⟩
 have hb:Below w.heap.size w w2:=by rw[hw];exact t2 (aB _ _) (aB _ _)
 have c0:w2.cell? ⟨w.heap.size,0,none⟩=some (.func (.func 67) #[.pointer (some ⟨b,0,none⟩)] #[]):=by rw[hw];simp
 exact hK _ _ ⟨trivial,h.put hu (show(tab b wb pb)[69]? = some (.ent 61 11) from rfl) rfl (by omega) (by omega) (by omega) (Kp.of hb) (t2 h.bl hb) (hm_of hb) ⟨_,(put_at a 61 _ h.ts (by omega)).1,⟨_,h.bl.size,rfl,c0⟩⟩⟩
theorem op_70:cmdOps[70]? = some ⟨none,.insert 74 (.tmp 3) (.const (.string ⟨#[115,119,105,116,99,104]⟩)) (.tmp 61),0,"command.go:36",#[⟨0,.data⟩,⟨69,.data⟩],none⟩:=by kernel_rfl
theorem st_70 (h:CI w0 b wb pb (n+1) l a w) (hi:70 ∈ Region.ready .any cmdOps l):wpOp Tryz.prog cmdOps Q 70 (fun a' w'=>True/\CI w0 b wb pb n (l.setIfInBounds 70 true) a' w') a w:=by
 obtain⟨hu,o,ho,hp⟩:=mem_ready.1 hi
 rw[op_70]at ho
 cases ho
 obtain⟨v,ev,hv⟩:=h.d 69 _ rfl (hp ⟨69,.data⟩ (by simp) rfl)
 obtain⟨M,w2,e3,hr,hc⟩:=h.insK (kk:=11) (by omega) hu (hp ⟨0,.data⟩ (by simp) rfl) hv
 simp only[ky]at hr
 refine wpOp_step op_70 (fun K' hK=>?_)
 refine Eq.mpr (if_pos (by rfl)) ?_
 go_wp2
 first | exact hc | exact⟨trivial,hc⟩
theorem op_71:cmdOps[71]? = some ⟨some 62,.load 48 (.tmp 1),48,"command.go:36",#[],none⟩:=by kernel_rfl
theorem st_71 (h:CI w0 b wb pb (n+1) l a w) (hi:71 ∈ Region.ready .any cmdOps l):wpOp Tryz.prog cmdOps Q 71 (fun a' w'=>True/\CI w0 b wb pb n (l.setIfInBounds 71 true) a' w') a w:=by
 obtain⟨hu,o,ho,hp⟩:=mem_ready.1 hi
 rw[op_71]at ho
 cases ho
 have t1:=h.t1
 have s1:=h.s1
 have s2:=h.s2
 have hmf := Tryz.hmf
 refine wpOp_step op_71 (fun K' hK=>?_)
 refine Eq.mpr (if_pos (by rfl)) ?_
 have hn:=h.put hu (show(tab b wb pb)[71]? = some (.val 62 (.pointer (some ⟨b,0,none⟩))) from rfl) rfl (by omega) (by omega) (by omega) (Kp.of (Below.refl _ _)) h.bl (fun _ _ _ e=>e) (put_at a 62 _ h.ts (by omega)).1
 go_wp2
 first | exact hn | exact⟨trivial,hn⟩
theorem op_72:cmdOps[72]? = some ⟨some 63,.makeFunc (.func 68) #[.tmp 62] #[],79,"command.go:36",#[⟨71,.data⟩],none⟩:=by kernel_rfl
theorem st_72 (h:CI w0 b wb pb (n+1) l a w) (hi:72 ∈ Region.ready .any cmdOps l):wpOp Tryz.prog cmdOps Q 72 (fun a' w'=>True/\CI w0 b wb pb n (l.setIfInBounds 72 true) a' w') a w:=by
 obtain⟨hu,o,ho,hp⟩:=mem_ready.1 hi
 rw[op_72]at ho
 cases ho
 have p71:=h.d 71 _ rfl (hp ⟨71,.data⟩ (by simp) rfl)
 simp only[Dn]at p71
 have t1:=h.t1
 have s1:=h.s1
 have s2:=h.s2
 have hmf := Tryz.hmf
 refine wpOp_step op_72 (fun K' hK=>?_)
 refine Eq.mpr (if_pos (by rfl)) ?_
 have hn:=h.put hu (show(tab b wb pb)[72]? = some (.val 63 (.func (.func 68) #[.pointer (some ⟨b,0,none⟩)] #[])) from rfl) rfl (by omega) (by omega) (by omega) (Kp.of (Below.refl _ _)) h.bl (fun _ _ _ e=>e) (put_at a 63 _ h.ts (by omega)).1
 go_wp2
 first | exact hn | exact⟨trivial,hn⟩
theorem op_73:cmdOps[73]? = some ⟨some 64,.call ⟨.value (.func 61),#[.tmp 63],#[79]⟩,117,"command.go:49",#[⟨72,.data⟩,⟨69,.chain⟩],none⟩:=by kernel_rfl
theorem st_73 (h:CI w0 b wb pb (n+1) l a w) (hi:73 ∈ Region.ready .any cmdOps l):wpOp Tryz.prog cmdOps Q 73 (fun a' w'=>True/\CI w0 b wb pb n (l.setIfInBounds 73 true) a' w') a w:=by
 obtain⟨hu,o,ho,hp⟩:=mem_ready.1 hi
 rw[op_73]at ho
 cases ho
 have p72:=h.d 72 _ rfl (hp ⟨72,.data⟩ (by simp) rfl)
 simp only[Dn]at p72
 refine wpOp_step op_73 (fun K' hK=>?_)
 refine Eq.mpr (if_pos (by rfl)) ?_
 go_wp2_with fail
 refine(telling_any _ _ _ w).mono ?_
 rintro e w2 ⟨rfl,hw⟩
 have hb:Below w.heap.size w w2:=by rw[hw];exact t2 (aB _ _) (aB _ _)
 have c0:w2.cell? ⟨w.heap.size,0,none⟩=some (.func (.func 68) #[.pointer (some ⟨b,0,none⟩)] #[]):=by rw[hw];simp
 exact hK _ _ ⟨trivial,h.put hu (show(tab b wb pb)[73]? = some (.ent 64 12) from rfl) rfl (by omega) (by omega) (by omega) (Kp.of hb) (t2 h.bl hb) (hm_of hb) ⟨_,(put_at a 64 _ h.ts (by omega)).1,⟨_,h.bl.size,rfl,c0⟩⟩⟩
theorem op_74:cmdOps[74]? = some ⟨none,.insert 74 (.tmp 3) (.const (.string ⟨#[101,118,101,110,116,115]⟩)) (.tmp 64),0,"command.go:36",#[⟨0,.data⟩,⟨73,.data⟩],none⟩:=by kernel_rfl
theorem st_74 (h:CI w0 b wb pb (n+1) l a w) (hi:74 ∈ Region.ready .any cmdOps l):wpOp Tryz.prog cmdOps Q 74 (fun a' w'=>True/\CI w0 b wb pb n (l.setIfInBounds 74 true) a' w') a w:=by
 obtain⟨hu,o,ho,hp⟩:=mem_ready.1 hi
 rw[op_74]at ho
 cases ho
 obtain⟨v,ev,hv⟩:=h.d 73 _ rfl (hp ⟨73,.data⟩ (by simp) rfl)
 obtain⟨M,w2,e3,hr,hc⟩:=h.insK (kk:=12) (by omega) hu (hp ⟨0,.data⟩ (by simp) rfl) hv
 simp only[ky]at hr
 refine wpOp_step op_74 (fun K' hK=>?_)
 refine Eq.mpr (if_pos (by rfl)) ?_
 go_wp2
 first | exact hc | exact⟨trivial,hc⟩
theorem op_75:cmdOps[75]? = some ⟨some 65,.makeFunc (.func 69) #[] #[.tmp 1],115,"command.go:36",#[],none⟩:=by kernel_rfl
theorem st_75 (h:CI w0 b wb pb (n+1) l a w) (hi:75 ∈ Region.ready .any cmdOps l):wpOp Tryz.prog cmdOps Q 75 (fun a' w'=>True/\CI w0 b wb pb n (l.setIfInBounds 75 true) a' w') a w:=by
 obtain⟨hu,o,ho,hp⟩:=mem_ready.1 hi
 rw[op_75]at ho
 cases ho
 have t1:=h.t1
 have s1:=h.s1
 have s2:=h.s2
 have hmf := Tryz.hmf
 refine wpOp_step op_75 (fun K' hK=>?_)
 refine Eq.mpr (if_pos (by rfl)) ?_
 have hn:=h.put hu (show(tab b wb pb)[75]? = some (.val 65 (.func (.func 69) #[] #[.pointer (some ⟨pb,0,none⟩)])) from rfl) rfl (by omega) (by omega) (by omega) (Kp.of (Below.refl _ _)) h.bl (fun _ _ _ e=>e) (put_at a 65 _ h.ts (by omega)).1
 go_wp2
 first | exact hn | exact⟨trivial,hn⟩
theorem op_76:cmdOps[76]? = some ⟨some 66,.build 117 #[(0,.const (.string ⟨#[83]⟩)),(1,.tmp 65)],117,"command.go:36",#[⟨75,.data⟩],none⟩:=by kernel_rfl
theorem st_76 (h:CI w0 b wb pb (n+1) l a w) (hi:76 ∈ Region.ready .any cmdOps l):wpOp Tryz.prog cmdOps Q 76 (fun a' w'=>True/\CI w0 b wb pb n (l.setIfInBounds 76 true) a' w') a w:=by
 obtain⟨hu,o,ho,hp⟩:=mem_ready.1 hi
 rw[op_76]at ho
 cases ho
 have p75:=h.d 75 _ rfl (hp ⟨75,.data⟩ (by simp) rfl)
 simp only[Dn]at p75
 have t1:=h.t1
 have s1:=h.s1
 have s2:=h.s2
 have hmf := Tryz.hmf
 refine wpOp_step op_76 (fun K' hK=>?_)
 refine Eq.mpr (if_pos (by rfl)) ?_
 have hn:=h.put hu (show(tab b wb pb)[76]? = some (.val 66 (.agg #[.string ⟨#[83]⟩,.func (.func 69) #[] #[.pointer (some ⟨pb,0,none⟩)]])) from rfl) rfl (by omega) (by omega) (by omega) (Kp.of (Below.refl _ _)) h.bl (fun _ _ _ e=>e) (put_at a 66 _ h.ts (by omega)).1
 go_wp2
 first | exact hn | exact⟨trivial,hn⟩
theorem op_77:cmdOps[77]? = some ⟨none,.insert 74 (.tmp 3) (.const (.string ⟨#[97,99,116,105,118,101]⟩)) (.tmp 66),0,"command.go:36",#[⟨0,.data⟩,⟨76,.data⟩],none⟩:=by kernel_rfl
theorem st_77 (h:CI w0 b wb pb (n+1) l a w) (hi:77 ∈ Region.ready .any cmdOps l):wpOp Tryz.prog cmdOps Q 77 (fun a' w'=>True/\CI w0 b wb pb n (l.setIfInBounds 77 true) a' w') a w:=by
 obtain⟨hu,o,ho,hp⟩:=mem_ready.1 hi
 rw[op_77]at ho
 cases ho
 have p76:=h.d 76 _ rfl (hp ⟨76,.data⟩ (by simp) rfl)
 simp only[Dn]at p76
 have hv:Ent (NewIn w0) w b wb pb 13 (.agg #[.string ⟨#[83]⟩,.func (.func 69) #[] #[.pointer (some ⟨pb,0,none⟩)]]):=rfl
 obtain⟨M,w2,e3,hr,hc⟩:=h.insK (kk:=13) (by omega) hu (hp ⟨0,.data⟩ (by simp) rfl) hv
 simp only[ky]at hr
 refine wpOp_step op_77 (fun K' hK=>?_)
 refine Eq.mpr (if_pos (by rfl)) ?_
 go_wp2
 first | exact hc | exact⟨trivial,hc⟩
theorem op_78:cmdOps[78]? = some ⟨some 67,.load 48 (.tmp 1),48,"command.go:36",#[],none⟩:=by kernel_rfl
theorem st_78 (h:CI w0 b wb pb (n+1) l a w) (hi:78 ∈ Region.ready .any cmdOps l):wpOp Tryz.prog cmdOps Q 78 (fun a' w'=>True/\CI w0 b wb pb n (l.setIfInBounds 78 true) a' w') a w:=by
 obtain⟨hu,o,ho,hp⟩:=mem_ready.1 hi
 rw[op_78]at ho
 cases ho
 have t1:=h.t1
 have s1:=h.s1
 have s2:=h.s2
 have hmf := Tryz.hmf
 refine wpOp_step op_78 (fun K' hK=>?_)
 refine Eq.mpr (if_pos (by rfl)) ?_
 have hn:=h.put hu (show(tab b wb pb)[78]? = some (.val 67 (.pointer (some ⟨b,0,none⟩))) from rfl) rfl (by omega) (by omega) (by omega) (Kp.of (Below.refl _ _)) h.bl (fun _ _ _ e=>e) (put_at a 67 _ h.ts (by omega)).1
 go_wp2
 first | exact hn | exact⟨trivial,hn⟩
theorem op_79:cmdOps[79]? = some ⟨some 68,.nilCheck (.tmp 67),0,"command.go:36",#[⟨78,.data⟩],none⟩:=by kernel_rfl
theorem st_79 (h:CI w0 b wb pb (n+1) l a w) (hi:79 ∈ Region.ready .any cmdOps l):wpOp Tryz.prog cmdOps Q 79 (fun a' w'=>True/\CI w0 b wb pb n (l.setIfInBounds 79 true) a' w') a w:=by
 obtain⟨hu,o,ho,hp⟩:=mem_ready.1 hi
 rw[op_79]at ho
 cases ho
 have p78:=h.d 78 _ rfl (hp ⟨78,.data⟩ (by simp) rfl)
 simp only[Dn]at p78
 have t1:=h.t1
 have s1:=h.s1
 have s2:=h.s2
 have hmf := Tryz.hmf
 refine wpOp_step op_79 (fun K' hK=>?_)
 refine Eq.mpr (if_pos (by rfl)) ?_
 have hn:=h.put hu (show(tab b wb pb)[79]? = some (.val 68 (.pointer (some ⟨b,0,none⟩))) from rfl) rfl (by omega) (by omega) (by omega) (Kp.of (Below.refl _ _)) h.bl (fun _ _ _ e=>e) (put_at a 68 _ h.ts (by omega)).1
 go_wp2
 first | exact hn | exact⟨trivial,hn⟩
theorem op_80:cmdOps[80]? = some ⟨some 69,.fieldAddr 76 (.tmp 68) 0,0,"command.go:36",#[⟨79,.data⟩],none⟩:=by kernel_rfl
theorem st_80 (h:CI w0 b wb pb (n+1) l a w) (hi:80 ∈ Region.ready .any cmdOps l):wpOp Tryz.prog cmdOps Q 80 (fun a' w'=>True/\CI w0 b wb pb n (l.setIfInBounds 80 true) a' w') a w:=by
 obtain⟨hu,o,ho,hp⟩:=mem_ready.1 hi
 rw[op_80]at ho
 cases ho
 have p79:=h.d 79 _ rfl (hp ⟨79,.data⟩ (by simp) rfl)
 simp only[Dn]at p79
 have t1:=h.t1
 have s1:=h.s1
 have s2:=h.s2
 have hmf := Tryz.hmf
 refine wpOp_step op_80 (fun K' hK=>?_)
 refine Eq.mpr (if_pos (by rfl)) ?_
 have hn:=h.put hu (show(tab b wb pb)[80]? = some (.val 69 (.pointer (some ⟨b,0,none⟩))) from rfl) rfl (by omega) (by omega) (by omega) (Kp.of (Below.refl _ _)) h.bl (fun _ _ _ e=>e) (put_at a 69 _ h.ts (by omega)).1
 go_wp2
 first | exact hn | exact⟨trivial,hn⟩
theorem op_81:cmdOps[81]? = some ⟨some 70,.load 71 (.tmp 69),71,"command.go:36",#[⟨80,.data⟩],none⟩:=by kernel_rfl
theorem st_81 (h:CI w0 b wb pb (n+1) l a w) (hi:81 ∈ Region.ready .any cmdOps l):wpOp Tryz.prog cmdOps Q 81 (fun a' w'=>True/\CI w0 b wb pb n (l.setIfInBounds 81 true) a' w') a w:=by
 obtain⟨hu,o,ho,hp⟩:=mem_ready.1 hi
 rw[op_81]at ho
 cases ho
 have p80:=h.d 80 _ rfl (hp ⟨80,.data⟩ (by simp) rfl)
 simp only[Dn]at p80
 have t1:=h.t1
 have s1:=h.s1
 have s2:=h.s2
 have hmf := Tryz.hmf
 refine wpOp_step op_81 (fun K' hK=>?_)
 refine Eq.mpr (if_pos (by rfl)) ?_
 have hn:=h.put hu (show(tab b wb pb)[81]? = some (.val 70 (.pointer (some ⟨wb,0,none⟩))) from rfl) rfl (by omega) (by omega) (by omega) (Kp.of (Below.refl _ _)) h.bl (fun _ _ _ e=>e) (put_at a 70 _ h.ts (by omega)).1
 go_wp2
 first | exact hn | exact⟨trivial,hn⟩
theorem op_82:cmdOps[82]? = some ⟨some 71,.makeFunc (.func 72) #[.tmp 70] #[],128,"command.go:36",#[⟨81,.data⟩],none⟩:=by kernel_rfl
theorem st_82 (h:CI w0 b wb pb (n+1) l a w) (hi:82 ∈ Region.ready .any cmdOps l):wpOp Tryz.prog cmdOps Q 82 (fun a' w'=>True/\CI w0 b wb pb n (l.setIfInBounds 82 true) a' w') a w:=by
 obtain⟨hu,o,ho,hp⟩:=mem_ready.1 hi
 rw[op_82]at ho
 cases ho
 have p81:=h.d 81 _ rfl (hp ⟨81,.data⟩ (by simp) rfl)
 simp only[Dn]at p81
 have t1:=h.t1
 have s1:=h.s1
 have s2:=h.s2
 have hmf := Tryz.hmf
 refine wpOp_step op_82 (fun K' hK=>?_)
 refine Eq.mpr (if_pos (by rfl)) ?_
 have hn:=h.put hu (show(tab b wb pb)[82]? = some (.val 71 (.func (.func 72) #[.pointer (some ⟨wb,0,none⟩)] #[])) from rfl) rfl (by omega) (by omega) (by omega) (Kp.of (Below.refl _ _)) h.bl (fun _ _ _ e=>e) (put_at a 71 _ h.ts (by omega)).1
 go_wp2
 first | exact hn | exact⟨trivial,hn⟩
theorem op_83:cmdOps[83]? = some ⟨some 72,.call ⟨.value (.func 71),#[.tmp 71,.func 73],#[128,132]⟩,117,"command.go:51",#[⟨82,.data⟩,⟨73,.chain⟩],none⟩:=by kernel_rfl
theorem st_83 (h:CI w0 b wb pb (n+1) l a w) (hi:83 ∈ Region.ready .any cmdOps l):wpOp Tryz.prog cmdOps Q 83 (fun a' w'=>True/\CI w0 b wb pb n (l.setIfInBounds 83 true) a' w') a w:=by
 obtain⟨hu,o,ho,hp⟩:=mem_ready.1 hi
 rw[op_83]at ho
 cases ho
 have p82:=h.d 82 _ rfl (hp ⟨82,.data⟩ (by simp) rfl)
 simp only[Dn]at p82
 refine wpOp_step op_83 (fun K' hK=>?_)
 refine Eq.mpr (if_pos (by rfl)) ?_
 go_wp2_with fail
 refine(showing_any _ _ _ _ _ _ w).mono ?_
 rintro e w2 ⟨rfl,hw⟩
 have hb:Below w.heap.size w w2:=by rw[hw];exact t2 (t2 (aB _ _) (aB _ _)) (aB _ _)
 have c0:w2.cell? ⟨w.heap.size,0,none⟩=some (.func (.func 72) #[.pointer (some ⟨wb,0,none⟩)] #[]):=by rw[hw];exact(al3 w _ _ _ _ _).1
 have c1:w2.cell? ⟨w.heap.size+1,0,none⟩=some (.func (.func 73) #[] #[]):=by rw[hw];exact(al3 w _ _ _ _ _).2
 exact hK _ _ ⟨trivial,h.put hu (show(tab b wb pb)[83]? = some (.ent 72 14) from rfl) rfl (by omega) (by omega) (by omega) (Kp.of hb) (t2 h.bl hb) (hm_of hb) ⟨_,(put_at a 72 _ h.ts (by omega)).1,⟨_,_,h.bl.size,Nat.le_succ_of_le h.bl.size,rfl,c0,c1⟩⟩⟩
theorem op_84:cmdOps[84]? = some ⟨none,.insert 74 (.tmp 3) (.const (.string ⟨#[102,108,111,119,115]⟩)) (.tmp 72),0,"command.go:36",#[⟨0,.data⟩,⟨83,.data⟩],none⟩:=by kernel_rfl
theorem st_84 (h:CI w0 b wb pb (n+1) l a w) (hi:84 ∈ Region.ready .any cmdOps l):wpOp Tryz.prog cmdOps Q 84 (fun a' w'=>True/\CI w0 b wb pb n (l.setIfInBounds 84 true) a' w') a w:=by
 obtain⟨hu,o,ho,hp⟩:=mem_ready.1 hi
 rw[op_84]at ho
 cases ho
 obtain⟨v,ev,hv⟩:=h.d 83 _ rfl (hp ⟨83,.data⟩ (by simp) rfl)
 obtain⟨M,w2,e3,hr,hc⟩:=h.insK (kk:=14) (by omega) hu (hp ⟨0,.data⟩ (by simp) rfl) hv
 simp only[ky]at hr
 refine wpOp_step op_84 (fun K' hK=>?_)
 refine Eq.mpr (if_pos (by rfl)) ?_
 go_wp2
 first | exact hc | exact⟨trivial,hc⟩
theorem op_85:cmdOps[85]? = some ⟨some 73,.load 48 (.tmp 1),48,"command.go:36",#[],none⟩:=by kernel_rfl
theorem st_85 (h:CI w0 b wb pb (n+1) l a w) (hi:85 ∈ Region.ready .any cmdOps l):wpOp Tryz.prog cmdOps Q 85 (fun a' w'=>True/\CI w0 b wb pb n (l.setIfInBounds 85 true) a' w') a w:=by
 obtain⟨hu,o,ho,hp⟩:=mem_ready.1 hi
 rw[op_85]at ho
 cases ho
 have t1:=h.t1
 have s1:=h.s1
 have s2:=h.s2
 have hmf := Tryz.hmf
 refine wpOp_step op_85 (fun K' hK=>?_)
 refine Eq.mpr (if_pos (by rfl)) ?_
 have hn:=h.put hu (show(tab b wb pb)[85]? = some (.val 73 (.pointer (some ⟨b,0,none⟩))) from rfl) rfl (by omega) (by omega) (by omega) (Kp.of (Below.refl _ _)) h.bl (fun _ _ _ e=>e) (put_at a 73 _ h.ts (by omega)).1
 go_wp2
 first | exact hn | exact⟨trivial,hn⟩
theorem op_86:cmdOps[86]? = some ⟨some 74,.nilCheck (.tmp 73),0,"command.go:36",#[⟨85,.data⟩],none⟩:=by kernel_rfl
theorem st_86 (h:CI w0 b wb pb (n+1) l a w) (hi:86 ∈ Region.ready .any cmdOps l):wpOp Tryz.prog cmdOps Q 86 (fun a' w'=>True/\CI w0 b wb pb n (l.setIfInBounds 86 true) a' w') a w:=by
 obtain⟨hu,o,ho,hp⟩:=mem_ready.1 hi
 rw[op_86]at ho
 cases ho
 have p85:=h.d 85 _ rfl (hp ⟨85,.data⟩ (by simp) rfl)
 simp only[Dn]at p85
 have t1:=h.t1
 have s1:=h.s1
 have s2:=h.s2
 have hmf := Tryz.hmf
 refine wpOp_step op_86 (fun K' hK=>?_)
 refine Eq.mpr (if_pos (by rfl)) ?_
 have hn:=h.put hu (show(tab b wb pb)[86]? = some (.val 74 (.pointer (some ⟨b,0,none⟩))) from rfl) rfl (by omega) (by omega) (by omega) (Kp.of (Below.refl _ _)) h.bl (fun _ _ _ e=>e) (put_at a 74 _ h.ts (by omega)).1
 go_wp2
 first | exact hn | exact⟨trivial,hn⟩
theorem op_87:cmdOps[87]? = some ⟨some 75,.fieldAddr 76 (.tmp 74) 0,0,"command.go:36",#[⟨86,.data⟩],none⟩:=by kernel_rfl
theorem st_87 (h:CI w0 b wb pb (n+1) l a w) (hi:87 ∈ Region.ready .any cmdOps l):wpOp Tryz.prog cmdOps Q 87 (fun a' w'=>True/\CI w0 b wb pb n (l.setIfInBounds 87 true) a' w') a w:=by
 obtain⟨hu,o,ho,hp⟩:=mem_ready.1 hi
 rw[op_87]at ho
 cases ho
 have p86:=h.d 86 _ rfl (hp ⟨86,.data⟩ (by simp) rfl)
 simp only[Dn]at p86
 have t1:=h.t1
 have s1:=h.s1
 have s2:=h.s2
 have hmf := Tryz.hmf
 refine wpOp_step op_87 (fun K' hK=>?_)
 refine Eq.mpr (if_pos (by rfl)) ?_
 have hn:=h.put hu (show(tab b wb pb)[87]? = some (.val 75 (.pointer (some ⟨b,0,none⟩))) from rfl) rfl (by omega) (by omega) (by omega) (Kp.of (Below.refl _ _)) h.bl (fun _ _ _ e=>e) (put_at a 75 _ h.ts (by omega)).1
 go_wp2
 first | exact hn | exact⟨trivial,hn⟩
theorem op_88:cmdOps[88]? = some ⟨some 76,.load 71 (.tmp 75),71,"command.go:36",#[⟨87,.data⟩],none⟩:=by kernel_rfl
theorem st_88 (h:CI w0 b wb pb (n+1) l a w) (hi:88 ∈ Region.ready .any cmdOps l):wpOp Tryz.prog cmdOps Q 88 (fun a' w'=>True/\CI w0 b wb pb n (l.setIfInBounds 88 true) a' w') a w:=by
 obtain⟨hu,o,ho,hp⟩:=mem_ready.1 hi
 rw[op_88]at ho
 cases ho
 have p87:=h.d 87 _ rfl (hp ⟨87,.data⟩ (by simp) rfl)
 simp only[Dn]at p87
 have t1:=h.t1
 have s1:=h.s1
 have s2:=h.s2
 have hmf := Tryz.hmf
 refine wpOp_step op_88 (fun K' hK=>?_)
 refine Eq.mpr (if_pos (by rfl)) ?_
 have hn:=h.put hu (show(tab b wb pb)[88]? = some (.val 76 (.pointer (some ⟨wb,0,none⟩))) from rfl) rfl (by omega) (by omega) (by omega) (Kp.of (Below.refl _ _)) h.bl (fun _ _ _ e=>e) (put_at a 76 _ h.ts (by omega)).1
 go_wp2
 first | exact hn | exact⟨trivial,hn⟩
theorem op_89:cmdOps[89]? = some ⟨some 77,.makeFunc (.func 72) #[.tmp 76] #[],128,"command.go:36",#[⟨88,.data⟩],none⟩:=by kernel_rfl
theorem st_89 (h:CI w0 b wb pb (n+1) l a w) (hi:89 ∈ Region.ready .any cmdOps l):wpOp Tryz.prog cmdOps Q 89 (fun a' w'=>True/\CI w0 b wb pb n (l.setIfInBounds 89 true) a' w') a w:=by
 obtain⟨hu,o,ho,hp⟩:=mem_ready.1 hi
 rw[op_89]at ho
 cases ho
 have p88:=h.d 88 _ rfl (hp ⟨88,.data⟩ (by simp) rfl)
 simp only[Dn]at p88
 have t1:=h.t1
 have s1:=h.s1
 have s2:=h.s2
 have hmf := Tryz.hmf
 refine wpOp_step op_89 (fun K' hK=>?_)
 refine Eq.mpr (if_pos (by rfl)) ?_
 have hn:=h.put hu (show(tab b wb pb)[89]? = some (.val 77 (.func (.func 72) #[.pointer (some ⟨wb,0,none⟩)] #[])) from rfl) rfl (by omega) (by omega) (by omega) (Kp.of (Below.refl _ _)) h.bl (fun _ _ _ e=>e) (put_at a 77 _ h.ts (by omega)).1
 go_wp2
 first | exact hn | exact⟨trivial,hn⟩
theorem op_90:cmdOps[90]? = some ⟨some 78,.call ⟨.value (.func 71),#[.tmp 77,.func 76],#[128,132]⟩,117,"command.go:52",#[⟨89,.data⟩,⟨83,.chain⟩],none⟩:=by kernel_rfl
theorem st_90 (h:CI w0 b wb pb (n+1) l a w) (hi:90 ∈ Region.ready .any cmdOps l):wpOp Tryz.prog cmdOps Q 90 (fun a' w'=>True/\CI w0 b wb pb n (l.setIfInBounds 90 true) a' w') a w:=by
 obtain⟨hu,o,ho,hp⟩:=mem_ready.1 hi
 rw[op_90]at ho
 cases ho
 have p89:=h.d 89 _ rfl (hp ⟨89,.data⟩ (by simp) rfl)
 simp only[Dn]at p89
 refine wpOp_step op_90 (fun K' hK=>?_)
 refine Eq.mpr (if_pos (by rfl)) ?_
 go_wp2_with fail
 refine(showing_any _ _ _ _ _ _ w).mono ?_
 rintro e w2 ⟨rfl,hw⟩
 have hb:Below w.heap.size w w2:=by rw[hw];exact t2 (t2 (aB _ _) (aB _ _)) (aB _ _)
 have c0:w2.cell? ⟨w.heap.size,0,none⟩=some (.func (.func 72) #[.pointer (some ⟨wb,0,none⟩)] #[]):=by rw[hw];exact(al3 w _ _ _ _ _).1
 have c1:w2.cell? ⟨w.heap.size+1,0,none⟩=some (.func (.func 76) #[] #[]):=by rw[hw];exact(al3 w _ _ _ _ _).2
 exact hK _ _ ⟨trivial,h.put hu (show(tab b wb pb)[90]? = some (.ent 78 15) from rfl) rfl (by omega) (by omega) (by omega) (Kp.of hb) (t2 h.bl hb) (hm_of hb) ⟨_,(put_at a 78 _ h.ts (by omega)).1,⟨_,_,h.bl.size,Nat.le_succ_of_le h.bl.size,rfl,c0,c1⟩⟩⟩
theorem op_91:cmdOps[91]? = some ⟨none,.insert 74 (.tmp 3) (.const (.string ⟨#[109,105,114,114,111,114]⟩)) (.tmp 78),0,"command.go:36",#[⟨0,.data⟩,⟨90,.data⟩],none⟩:=by kernel_rfl
theorem st_91 (h:CI w0 b wb pb (n+1) l a w) (hi:91 ∈ Region.ready .any cmdOps l):wpOp Tryz.prog cmdOps Q 91 (fun a' w'=>True/\CI w0 b wb pb n (l.setIfInBounds 91 true) a' w') a w:=by
 obtain⟨hu,o,ho,hp⟩:=mem_ready.1 hi
 rw[op_91]at ho
 cases ho
 obtain⟨v,ev,hv⟩:=h.d 90 _ rfl (hp ⟨90,.data⟩ (by simp) rfl)
 obtain⟨M,w2,e3,hr,hc⟩:=h.insK (kk:=15) (by omega) hu (hp ⟨0,.data⟩ (by simp) rfl) hv
 simp only[ky]at hr
 refine wpOp_step op_91 (fun K' hK=>?_)
 refine Eq.mpr (if_pos (by rfl)) ?_
 go_wp2
 first | exact hc | exact⟨trivial,hc⟩
theorem op_92:cmdOps[92]? = some ⟨some 79,.load 48 (.tmp 1),48,"command.go:36",#[],none⟩:=by kernel_rfl
theorem st_92 (h:CI w0 b wb pb (n+1) l a w) (hi:92 ∈ Region.ready .any cmdOps l):wpOp Tryz.prog cmdOps Q 92 (fun a' w'=>True/\CI w0 b wb pb n (l.setIfInBounds 92 true) a' w') a w:=by
 obtain⟨hu,o,ho,hp⟩:=mem_ready.1 hi
 rw[op_92]at ho
 cases ho
 have t1:=h.t1
 have s1:=h.s1
 have s2:=h.s2
 have hmf := Tryz.hmf
 refine wpOp_step op_92 (fun K' hK=>?_)
 refine Eq.mpr (if_pos (by rfl)) ?_
 have hn:=h.put hu (show(tab b wb pb)[92]? = some (.val 79 (.pointer (some ⟨b,0,none⟩))) from rfl) rfl (by omega) (by omega) (by omega) (Kp.of (Below.refl _ _)) h.bl (fun _ _ _ e=>e) (put_at a 79 _ h.ts (by omega)).1
 go_wp2
 first | exact hn | exact⟨trivial,hn⟩
theorem op_93:cmdOps[93]? = some ⟨some 80,.nilCheck (.tmp 79),0,"command.go:36",#[⟨92,.data⟩],none⟩:=by kernel_rfl
theorem st_93 (h:CI w0 b wb pb (n+1) l a w) (hi:93 ∈ Region.ready .any cmdOps l):wpOp Tryz.prog cmdOps Q 93 (fun a' w'=>True/\CI w0 b wb pb n (l.setIfInBounds 93 true) a' w') a w:=by
 obtain⟨hu,o,ho,hp⟩:=mem_ready.1 hi
 rw[op_93]at ho
 cases ho
 have p92:=h.d 92 _ rfl (hp ⟨92,.data⟩ (by simp) rfl)
 simp only[Dn]at p92
 have t1:=h.t1
 have s1:=h.s1
 have s2:=h.s2
 have hmf := Tryz.hmf
 refine wpOp_step op_93 (fun K' hK=>?_)
 refine Eq.mpr (if_pos (by rfl)) ?_
 have hn:=h.put hu (show(tab b wb pb)[93]? = some (.val 80 (.pointer (some ⟨b,0,none⟩))) from rfl) rfl (by omega) (by omega) (by omega) (Kp.of (Below.refl _ _)) h.bl (fun _ _ _ e=>e) (put_at a 80 _ h.ts (by omega)).1
 go_wp2
 first | exact hn | exact⟨trivial,hn⟩
theorem op_94:cmdOps[94]? = some ⟨some 81,.fieldAddr 76 (.tmp 80) 0,0,"command.go:36",#[⟨93,.data⟩],none⟩:=by kernel_rfl
theorem st_94 (h:CI w0 b wb pb (n+1) l a w) (hi:94 ∈ Region.ready .any cmdOps l):wpOp Tryz.prog cmdOps Q 94 (fun a' w'=>True/\CI w0 b wb pb n (l.setIfInBounds 94 true) a' w') a w:=by
 obtain⟨hu,o,ho,hp⟩:=mem_ready.1 hi
 rw[op_94]at ho
 cases ho
 have p93:=h.d 93 _ rfl (hp ⟨93,.data⟩ (by simp) rfl)
 simp only[Dn]at p93
 have t1:=h.t1
 have s1:=h.s1
 have s2:=h.s2
 have hmf := Tryz.hmf
 refine wpOp_step op_94 (fun K' hK=>?_)
 refine Eq.mpr (if_pos (by rfl)) ?_
 have hn:=h.put hu (show(tab b wb pb)[94]? = some (.val 81 (.pointer (some ⟨b,0,none⟩))) from rfl) rfl (by omega) (by omega) (by omega) (Kp.of (Below.refl _ _)) h.bl (fun _ _ _ e=>e) (put_at a 81 _ h.ts (by omega)).1
 go_wp2
 first | exact hn | exact⟨trivial,hn⟩
theorem op_95:cmdOps[95]? = some ⟨some 82,.load 71 (.tmp 81),71,"command.go:36",#[⟨94,.data⟩],none⟩:=by kernel_rfl
theorem st_95 (h:CI w0 b wb pb (n+1) l a w) (hi:95 ∈ Region.ready .any cmdOps l):wpOp Tryz.prog cmdOps Q 95 (fun a' w'=>True/\CI w0 b wb pb n (l.setIfInBounds 95 true) a' w') a w:=by
 obtain⟨hu,o,ho,hp⟩:=mem_ready.1 hi
 rw[op_95]at ho
 cases ho
 have p94:=h.d 94 _ rfl (hp ⟨94,.data⟩ (by simp) rfl)
 simp only[Dn]at p94
 have t1:=h.t1
 have s1:=h.s1
 have s2:=h.s2
 have hmf := Tryz.hmf
 refine wpOp_step op_95 (fun K' hK=>?_)
 refine Eq.mpr (if_pos (by rfl)) ?_
 have hn:=h.put hu (show(tab b wb pb)[95]? = some (.val 82 (.pointer (some ⟨wb,0,none⟩))) from rfl) rfl (by omega) (by omega) (by omega) (Kp.of (Below.refl _ _)) h.bl (fun _ _ _ e=>e) (put_at a 82 _ h.ts (by omega)).1
 go_wp2
 first | exact hn | exact⟨trivial,hn⟩
theorem op_96:cmdOps[96]? = some ⟨some 83,.makeFunc (.func 72) #[.tmp 82] #[],128,"command.go:36",#[⟨95,.data⟩],none⟩:=by kernel_rfl
theorem st_96 (h:CI w0 b wb pb (n+1) l a w) (hi:96 ∈ Region.ready .any cmdOps l):wpOp Tryz.prog cmdOps Q 96 (fun a' w'=>True/\CI w0 b wb pb n (l.setIfInBounds 96 true) a' w') a w:=by
 obtain⟨hu,o,ho,hp⟩:=mem_ready.1 hi
 rw[op_96]at ho
 cases ho
 have p95:=h.d 95 _ rfl (hp ⟨95,.data⟩ (by simp) rfl)
 simp only[Dn]at p95
 have t1:=h.t1
 have s1:=h.s1
 have s2:=h.s2
 have hmf := Tryz.hmf
 refine wpOp_step op_96 (fun K' hK=>?_)
 refine Eq.mpr (if_pos (by rfl)) ?_
 have hn:=h.put hu (show(tab b wb pb)[96]? = some (.val 83 (.func (.func 72) #[.pointer (some ⟨wb,0,none⟩)] #[])) from rfl) rfl (by omega) (by omega) (by omega) (Kp.of (Below.refl _ _)) h.bl (fun _ _ _ e=>e) (put_at a 83 _ h.ts (by omega)).1
 go_wp2
 first | exact hn | exact⟨trivial,hn⟩
theorem op_97:cmdOps[97]? = some ⟨some 84,.call ⟨.value (.func 71),#[.tmp 83,.func 78],#[128,132]⟩,117,"command.go:53",#[⟨96,.data⟩,⟨90,.chain⟩],none⟩:=by kernel_rfl
theorem st_97 (h:CI w0 b wb pb (n+1) l a w) (hi:97 ∈ Region.ready .any cmdOps l):wpOp Tryz.prog cmdOps Q 97 (fun a' w'=>True/\CI w0 b wb pb n (l.setIfInBounds 97 true) a' w') a w:=by
 obtain⟨hu,o,ho,hp⟩:=mem_ready.1 hi
 rw[op_97]at ho
 cases ho
 have p96:=h.d 96 _ rfl (hp ⟨96,.data⟩ (by simp) rfl)
 simp only[Dn]at p96
 refine wpOp_step op_97 (fun K' hK=>?_)
 refine Eq.mpr (if_pos (by rfl)) ?_
 go_wp2_with fail
 refine(showing_any _ _ _ _ _ _ w).mono ?_
 rintro e w2 ⟨rfl,hw⟩
 have hb:Below w.heap.size w w2:=by rw[hw];exact t2 (t2 (aB _ _) (aB _ _)) (aB _ _)
 have c0:w2.cell? ⟨w.heap.size,0,none⟩=some (.func (.func 72) #[.pointer (some ⟨wb,0,none⟩)] #[]):=by rw[hw];exact(al3 w _ _ _ _ _).1
 have c1:w2.cell? ⟨w.heap.size+1,0,none⟩=some (.func (.func 78) #[] #[]):=by rw[hw];exact(al3 w _ _ _ _ _).2
 exact hK _ _ ⟨trivial,h.put hu (show(tab b wb pb)[97]? = some (.ent 84 16) from rfl) rfl (by omega) (by omega) (by omega) (Kp.of hb) (t2 h.bl hb) (hm_of hb) ⟨_,(put_at a 84 _ h.ts (by omega)).1,⟨_,_,h.bl.size,Nat.le_succ_of_le h.bl.size,rfl,c0,c1⟩⟩⟩
theorem op_98:cmdOps[98]? = some ⟨none,.insert 74 (.tmp 3) (.const (.string ⟨#[101,112,111,99,104]⟩)) (.tmp 84),0,"command.go:36",#[⟨0,.data⟩,⟨97,.data⟩],none⟩:=by kernel_rfl
theorem st_98 (h:CI w0 b wb pb (n+1) l a w) (hi:98 ∈ Region.ready .any cmdOps l):wpOp Tryz.prog cmdOps Q 98 (fun a' w'=>True/\CI w0 b wb pb n (l.setIfInBounds 98 true) a' w') a w:=by
 obtain⟨hu,o,ho,hp⟩:=mem_ready.1 hi
 rw[op_98]at ho
 cases ho
 obtain⟨v,ev,hv⟩:=h.d 97 _ rfl (hp ⟨97,.data⟩ (by simp) rfl)
 obtain⟨M,w2,e3,hr,hc⟩:=h.insK (kk:=16) (by omega) hu (hp ⟨0,.data⟩ (by simp) rfl) hv
 simp only[ky]at hr
 refine wpOp_step op_98 (fun K' hK=>?_)
 refine Eq.mpr (if_pos (by rfl)) ?_
 go_wp2
 first | exact hc | exact⟨trivial,hc⟩
theorem op_99:cmdOps[99]? = some ⟨some 85,.load 48 (.tmp 1),48,"command.go:36",#[],none⟩:=by kernel_rfl
theorem st_99 (h:CI w0 b wb pb (n+1) l a w) (hi:99 ∈ Region.ready .any cmdOps l):wpOp Tryz.prog cmdOps Q 99 (fun a' w'=>True/\CI w0 b wb pb n (l.setIfInBounds 99 true) a' w') a w:=by
 obtain⟨hu,o,ho,hp⟩:=mem_ready.1 hi
 rw[op_99]at ho
 cases ho
 have t1:=h.t1
 have s1:=h.s1
 have s2:=h.s2
 have hmf := Tryz.hmf
 refine wpOp_step op_99 (fun K' hK=>?_)
 refine Eq.mpr (if_pos (by rfl)) ?_
 have hn:=h.put hu (show(tab b wb pb)[99]? = some (.val 85 (.pointer (some ⟨b,0,none⟩))) from rfl) rfl (by omega) (by omega) (by omega) (Kp.of (Below.refl _ _)) h.bl (fun _ _ _ e=>e) (put_at a 85 _ h.ts (by omega)).1
 go_wp2
 first | exact hn | exact⟨trivial,hn⟩
theorem op_100:cmdOps[100]? = some ⟨some 86,.nilCheck (.tmp 85),0,"command.go:36",#[⟨99,.data⟩],none⟩:=by kernel_rfl
theorem st_100 (h:CI w0 b wb pb (n+1) l a w) (hi:100 ∈ Region.ready .any cmdOps l):wpOp Tryz.prog cmdOps Q 100 (fun a' w'=>True/\CI w0 b wb pb n (l.setIfInBounds 100 true) a' w') a w:=by
 obtain⟨hu,o,ho,hp⟩:=mem_ready.1 hi
 rw[op_100]at ho
 cases ho
 have p99:=h.d 99 _ rfl (hp ⟨99,.data⟩ (by simp) rfl)
 simp only[Dn]at p99
 have t1:=h.t1
 have s1:=h.s1
 have s2:=h.s2
 have hmf := Tryz.hmf
 refine wpOp_step op_100 (fun K' hK=>?_)
 refine Eq.mpr (if_pos (by rfl)) ?_
 have hn:=h.put hu (show(tab b wb pb)[100]? = some (.val 86 (.pointer (some ⟨b,0,none⟩))) from rfl) rfl (by omega) (by omega) (by omega) (Kp.of (Below.refl _ _)) h.bl (fun _ _ _ e=>e) (put_at a 86 _ h.ts (by omega)).1
 go_wp2
 first | exact hn | exact⟨trivial,hn⟩
theorem op_101:cmdOps[101]? = some ⟨some 87,.fieldAddr 76 (.tmp 86) 0,0,"command.go:36",#[⟨100,.data⟩],none⟩:=by kernel_rfl
theorem st_101 (h:CI w0 b wb pb (n+1) l a w) (hi:101 ∈ Region.ready .any cmdOps l):wpOp Tryz.prog cmdOps Q 101 (fun a' w'=>True/\CI w0 b wb pb n (l.setIfInBounds 101 true) a' w') a w:=by
 obtain⟨hu,o,ho,hp⟩:=mem_ready.1 hi
 rw[op_101]at ho
 cases ho
 have p100:=h.d 100 _ rfl (hp ⟨100,.data⟩ (by simp) rfl)
 simp only[Dn]at p100
 have t1:=h.t1
 have s1:=h.s1
 have s2:=h.s2
 have hmf := Tryz.hmf
 refine wpOp_step op_101 (fun K' hK=>?_)
 refine Eq.mpr (if_pos (by rfl)) ?_
 have hn:=h.put hu (show(tab b wb pb)[101]? = some (.val 87 (.pointer (some ⟨b,0,none⟩))) from rfl) rfl (by omega) (by omega) (by omega) (Kp.of (Below.refl _ _)) h.bl (fun _ _ _ e=>e) (put_at a 87 _ h.ts (by omega)).1
 go_wp2
 first | exact hn | exact⟨trivial,hn⟩
theorem op_102:cmdOps[102]? = some ⟨some 88,.load 71 (.tmp 87),71,"command.go:36",#[⟨101,.data⟩],none⟩:=by kernel_rfl
theorem st_102 (h:CI w0 b wb pb (n+1) l a w) (hi:102 ∈ Region.ready .any cmdOps l):wpOp Tryz.prog cmdOps Q 102 (fun a' w'=>True/\CI w0 b wb pb n (l.setIfInBounds 102 true) a' w') a w:=by
 obtain⟨hu,o,ho,hp⟩:=mem_ready.1 hi
 rw[op_102]at ho
 cases ho
 have p101:=h.d 101 _ rfl (hp ⟨101,.data⟩ (by simp) rfl)
 simp only[Dn]at p101
 have t1:=h.t1
 have s1:=h.s1
 have s2:=h.s2
 have hmf := Tryz.hmf
 refine wpOp_step op_102 (fun K' hK=>?_)
 refine Eq.mpr (if_pos (by rfl)) ?_
 have hn:=h.put hu (show(tab b wb pb)[102]? = some (.val 88 (.pointer (some ⟨wb,0,none⟩))) from rfl) rfl (by omega) (by omega) (by omega) (Kp.of (Below.refl _ _)) h.bl (fun _ _ _ e=>e) (put_at a 88 _ h.ts (by omega)).1
 go_wp2
 first | exact hn | exact⟨trivial,hn⟩
theorem op_103:cmdOps[103]? = some ⟨some 89,.makeFunc (.func 72) #[.tmp 88] #[],128,"command.go:36",#[⟨102,.data⟩],none⟩:=by kernel_rfl
theorem st_103 (h:CI w0 b wb pb (n+1) l a w) (hi:103 ∈ Region.ready .any cmdOps l):wpOp Tryz.prog cmdOps Q 103 (fun a' w'=>True/\CI w0 b wb pb n (l.setIfInBounds 103 true) a' w') a w:=by
 obtain⟨hu,o,ho,hp⟩:=mem_ready.1 hi
 rw[op_103]at ho
 cases ho
 have p102:=h.d 102 _ rfl (hp ⟨102,.data⟩ (by simp) rfl)
 simp only[Dn]at p102
 have t1:=h.t1
 have s1:=h.s1
 have s2:=h.s2
 have hmf := Tryz.hmf
 refine wpOp_step op_103 (fun K' hK=>?_)
 refine Eq.mpr (if_pos (by rfl)) ?_
 have hn:=h.put hu (show(tab b wb pb)[103]? = some (.val 89 (.func (.func 72) #[.pointer (some ⟨wb,0,none⟩)] #[])) from rfl) rfl (by omega) (by omega) (by omega) (Kp.of (Below.refl _ _)) h.bl (fun _ _ _ e=>e) (put_at a 89 _ h.ts (by omega)).1
 go_wp2
 first | exact hn | exact⟨trivial,hn⟩
theorem op_104:cmdOps[104]? = some ⟨some 90,.call ⟨.value (.func 71),#[.tmp 89,.func 80],#[128,132]⟩,117,"command.go:54",#[⟨103,.data⟩,⟨97,.chain⟩],none⟩:=by kernel_rfl
theorem st_104 (h:CI w0 b wb pb (n+1) l a w) (hi:104 ∈ Region.ready .any cmdOps l):wpOp Tryz.prog cmdOps Q 104 (fun a' w'=>True/\CI w0 b wb pb n (l.setIfInBounds 104 true) a' w') a w:=by
 obtain⟨hu,o,ho,hp⟩:=mem_ready.1 hi
 rw[op_104]at ho
 cases ho
 have p103:=h.d 103 _ rfl (hp ⟨103,.data⟩ (by simp) rfl)
 simp only[Dn]at p103
 refine wpOp_step op_104 (fun K' hK=>?_)
 refine Eq.mpr (if_pos (by rfl)) ?_
 go_wp2_with fail
 refine(showing_any _ _ _ _ _ _ w).mono ?_
 rintro e w2 ⟨rfl,hw⟩
 have hb:Below w.heap.size w w2:=by rw[hw];exact t2 (t2 (aB _ _) (aB _ _)) (aB _ _)
 have c0:w2.cell? ⟨w.heap.size,0,none⟩=some (.func (.func 72) #[.pointer (some ⟨wb,0,none⟩)] #[]):=by rw[hw];exact(al3 w _ _ _ _ _).1
 have c1:w2.cell? ⟨w.heap.size+1,0,none⟩=some (.func (.func 80) #[] #[]):=by rw[hw];exact(al3 w _ _ _ _ _).2
 exact hK _ _ ⟨trivial,h.put hu (show(tab b wb pb)[104]? = some (.ent 90 17) from rfl) rfl (by omega) (by omega) (by omega) (Kp.of hb) (t2 h.bl hb) (hm_of hb) ⟨_,(put_at a 90 _ h.ts (by omega)).1,⟨_,_,h.bl.size,Nat.le_succ_of_le h.bl.size,rfl,c0,c1⟩⟩⟩
theorem op_105:cmdOps[105]? = some ⟨none,.insert 74 (.tmp 3) (.const (.string ⟨#[108,105,102,101]⟩)) (.tmp 90),0,"command.go:36",#[⟨0,.data⟩,⟨104,.data⟩],none⟩:=by kernel_rfl
theorem st_105 (h:CI w0 b wb pb (n+1) l a w) (hi:105 ∈ Region.ready .any cmdOps l):wpOp Tryz.prog cmdOps Q 105 (fun a' w'=>True/\CI w0 b wb pb n (l.setIfInBounds 105 true) a' w') a w:=by
 obtain⟨hu,o,ho,hp⟩:=mem_ready.1 hi
 rw[op_105]at ho
 cases ho
 obtain⟨v,ev,hv⟩:=h.d 104 _ rfl (hp ⟨104,.data⟩ (by simp) rfl)
 obtain⟨M,w2,e3,hr,hc⟩:=h.insK (kk:=17) (by omega) hu (hp ⟨0,.data⟩ (by simp) rfl) hv
 simp only[ky]at hr
 refine wpOp_step op_105 (fun K' hK=>?_)
 refine Eq.mpr (if_pos (by rfl)) ?_
 go_wp2
 first | exact hc | exact⟨trivial,hc⟩
end
end Go.Proofs.YtabndgfdbdjdgaaGreatDoor
