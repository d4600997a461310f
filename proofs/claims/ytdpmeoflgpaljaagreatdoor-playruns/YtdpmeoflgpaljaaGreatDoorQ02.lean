/-
  What the claimed theorem reaches, part Q02.
-/
import Derived.Test.YtdpmeoflgpaljaaGreatDoorQ01
import Derived.Test.YtdpmeoflgpaljaaGreatDoorQ00
import Derived.Below
namespace Go.Proofs.YtdpmeoflgpaljaaGreatDoor
open Go.RowKit Go.Extern.Stop Go.Stop Go.Extern
set_option maxRecDepth 100000
set_option maxHeartbeats 8000000
theorem is_other (a b:Addr) (ca cb:Array Value) (ta tb:TypeId) (w:World) (hne:a≠b) (ha:w.heap[a.block]? = some (.cells ca ta (0,0))) (hb:w.heap[b.block]? = some (.cells cb tb (0,0))) :
  Calls Tryz.prog 43 #[.iface 310 (.pointer (some a)),.iface 310 (.pointer (some b))] w fun e w'=>e=.returned (.bool false)/\w'=w:=by
 obtain⟨i,hi,hcmp⟩:=Option.map_eq_some_iff.1 Tryz.xComp
 obtain⟨j,hj,hjs⟩:=Option.map_eq_some_iff.1 Tryz.xSize
 have h8:=@run_callFunc_extern Tryz.prog 91 _ ReflectliteType.typeOf Tryz.func91 (by kernel_rfl) (by kernel_rfl) (by kernel_rfl) (by kernel_rfl)
 have h32:=@run_callFunc_extern Tryz.prog 262 _ (ReflectliteType.method fun t=>do Rtype.noPackHeld "Comparable" t;pure (.bool (<- typeInfo t).comparable)) Tryz.func262 (by kernel_rfl) (by kernel_rfl) (by kernel_rfl) (by kernel_rfl)
 have tT := Tryz.xTypeOfE
 have cT := Tryz.xComparableE
 have mR := Tryz.xMethodComparable
 have nE := Tryz.xNoIsE
 have uE := Tryz.xNoUnwrapE
 have vE := Tryz.xNoUnwrapsE
 have heq:=run_eql_iface_ptr_other (P := Tryz.prog) w Tryz.underlying30 Tryz.underlying310 hi hcmp hj (by rw[hjs];decide) hne ha hb
 go_enter Tryz.func43,Tryz.ntmps43
 go_wp2
 refine wp_loop_rounds 1 ?_
 rw[rounds_succ]
 go_wp2
 go_ret
 exact⟨rfl,rfl⟩
theorem block_lt {w:World} {a:Addr} {v:Value} (hc:w.cell? a=some v):a.block < w.heap.size:=by
 rcases Nat.lt_or_ge a.block w with h | h
 ·exact h
 ·simp[World.cell?,Array.getElem?_eq_none h]at hc
theorem below_keeps {w w':World} (h:Below w w w') {a:Addr} {v:Value} (hc:w.cell? a=some v):w'.cell? a=some v:=by
 rw[h.cell (p:=a) (block_lt hc)];exact hc
structure Sents (w:World) (s:Nat->Addr):Prop where
 et:w.cell? (11,0)=some (.iface 214 (.agg #[.pointer (some (14,30))]))
 c0:w.cell? (4,0)=some (.iface 310 (.pointer (some (s 0))))
 c1:w.cell? (2,0)=some (.iface 310 (.pointer (some (s 1))))
 c2:w.cell? (5,0)=some (.iface 310 (.pointer (some (s 2))))
 c3:w.cell? (1,0)=some (.iface 310 (.pointer (some (s 3))))
 c4:w.cell? (6,0)=some (.iface 310 (.pointer (some (s 4))))
 c5:w.cell? (7,0)=some (.iface 310 (.pointer (some (s 5))))
 c6:w.cell? (0,0)=some (.iface 310 (.pointer (some (s 6))))
 c7:w.cell? (8,0)=some (.iface 310 (.pointer (some (s 7))))
 c8:w.cell? (9,0)=some (.iface 310 (.pointer (some (s 8))))
 c9:w.cell? (10,0)=some (.iface 310 (.pointer (some (s 9))))
 c10:w.cell? (3,0)=some (.iface 310 (.pointer (some (s 10))))
 row:∀i,i < 11->∃c t,w.heap[(s i).block]? = some (.cells c t (0,0))
 ne:∀i j,i < 11->j < 11->i≠j->s i≠s j
theorem Sents.below {w w':World} {s:Nat->Addr} (S:Sents w s) (hb:Below w w w'):Sents w' s where
 et:=below_keeps hb S.et
 c0:=below_keeps hb S.c0
 c1:=below_keeps hb S.c1
 c2:=below_keeps hb S.c2
 c3:=below_keeps hb S.c3
 c4:=below_keeps hb S.c4
 c5:=below_keeps hb S.c5
 c6:=below_keeps hb S.c6
 c7:=below_keeps hb S.c7
 c8:=below_keeps hb S.c8
 c9:=below_keeps hb S.c9
 c10:=below_keeps hb S.c10
 row:=fun i hi=>by
  obtain⟨c,t,h⟩:=S.row i hi
  refine⟨c,t,?_⟩
  rw[hb.block _ (by
   rcases Nat.lt_or_ge (s i).block w with h' | h'
   ·exact h'
   ·simp[Array.getElem?_eq_none h']at h)]
  exact h
 ne:=S.ne
abbrev sentArr (s:Nat->Addr):Array Value:=#[.iface 310 (.pointer (some (s 0))),.iface 310 (.pointer (some (s 1))),.iface 310 (.pointer (some (s 2))),.iface 310 (.pointer (some (s 3))),.iface 310 (.pointer (some (s 4))),.iface 310 (.pointer (some (s 5))),.iface 310 (.pointer (some (s 6))),.iface 310 (.pointer (some (s 7))),.iface 310 (.pointer (some (s 8))),.iface 310 (.pointer (some (s 9))),.iface 310 (.pointer (some (s 10)))]
theorem sent_cell (s:Nat->Addr) (w:World) (j:Nat) (h:j < 11):(w.alloc (.cells (sentArr s) 30)).cell? (w.heap.size,j)=some (.iface 310 (.pointer (some (s j)))):=by
 rw[World.cell?_alloc_at _ _ _ _ rfl]
 match j,h with
 | 0,_=>rfl
 | 1,_=>rfl
 | 2,_=>rfl
 | 3,_=>rfl
 | 4,_=>rfl
 | 5,_=>rfl
 | 6,_=>rfl
 | 7,_=>rfl
 | 8,_=>rfl
 | 9,_=>rfl
 | 10,_=>rfl
theorem as_missB (e t:Addr) (w:World) (hg:w.cell? (11,0)=some (.iface 214 (.agg #[.pointer (some (14,30))]))) :
  Calls Tryz.prog 81 #[.iface 310 (.pointer (some e)),.iface 155 (.pointer (some t))] w fun ev w'=>ev=.returned (.bool false)/\Below w w w' :=
 (as_miss e t w hg).mono fun _ _ ⟨h1,h2⟩=>⟨h1,by
  rw[h2];exact(((Below.refl _ _).alloc (Nat.le_refl _) _).alloc (by simp) _).alloc (by simp;omega) _⟩
theorem code_nil (w:World):Calls Tryz.prog 36 #[.nilIface] w fun e w'=>e=.returned (.tuple #[.int .i64 0,.int .i64 (-1)])/\w'=w:=by
 go_enter Tryz.func36,Tryz.ntmps36
 go_wp2
 go_ret2
 exact⟨rfl,rfl⟩
theorem code_sent (k:Nat) (hk:k < 11) (s:Nat->Addr) (w:World) (S:Sents w s) :
  Calls Tryz.prog 36 #[.iface 310 (.pointer (some (s k)))] w fun e w'=>e=.returned (.tuple #[.int .i64 ((k:Int)+1),.int .i64 (-1)])/\Below w w w':=by
 have hS:Hid (Sents w s):=S
 clear S
 go_enter Tryz.func36,Tryz.ntmps36
 go_wp2_with fail
 refine(as_missB _ _ _ ?_).mono ?_
 ·exact(hS.out.below ((Below.refl _ _).alloc (Nat.le_refl _) _)).et
 rintro e w1 ⟨rfl,hb⟩
 have S1:Sents w1 s:=(hS.out.below ((Below.refl _ _).alloc (Nat.le_refl _) _)).below hb
 have d0:=S1.c0
 have d1:=S1.c1
 have d2:=S1.c2
 have d3:=S1.c3
 have d4:=S1.c4
 have d5:=S1.c5
 have d6:=S1.c6
 have d7:=S1.c7
 have d8:=S1.c8
 have d9:=S1.c9
 have d10:=S1.c10
 have hS1:Hid (Sents w1 s):=S1
 have HB:Hid (Below w w w1):=((Below.refl _ _).alloc (Nat.le_refl _) _).trans (hb.mono (by simp))
 have R:Hid (∀i,i < 11->∃c t,(w1.alloc (.cells (sentArr s) 30)).heap[(s i).block]? = some (.cells c t (0,0))):=(S1.below ((Below.refl _ _).alloc (Nat.le_refl _) _)).row
 clear S1 hb
 go_wp2_with fail
 have hcell:∀j:Nat,j < 11->(w1.alloc (.cells (sentArr s) 30)).cell? (w1.heap.size,j)=some (.iface 310 (.pointer (some (s j)))):=sent_cell s w1
 have HC:Hid (∀j:Nat,j < 11->(w1.alloc (.cells (sentArr s) 30)).cell? (w1.heap.size,j)=some (.iface 310 (.pointer (some (s j))))):=hcell
 clear hcell d0 d1 d2 d3 d4 d5 d6 d7 d8 d9 d10
 go_loop [3,29] (fun a t=>a=.int .i64 (-1)/\∃j:Nat,j<=k/\t=.int .i64 j) (fun _ t=>11 - (intOf t).toNat)
 case atStart=>exact⟨rfl,0,Nat.zero_le _,rfl⟩
 case round =>
  obtain⟨rfl,j,hj,rfl⟩:=hrel
  have hj11:j < 11:=by omega
  have hc:=HC.out j hj11
  unfold sentArr at hc
  by_cases hjk:j < k
  ·go_wp2_with fail
   refine(is_other (s k) (s j) _ _ _ _ _ (hS1.out.ne k j hk hj11 (by omega)) (R k hk).choose_spec.choose_spec (R j hj11).choose_spec.choose_spec).mono ?_
   rintro e w' ⟨rfl,rfl⟩
   go_wp2_with fail
   go_round
   case rel=>exact⟨rfl,j+1,by omega,by go_num⟩
   case measure=>simp[intOf];omega
  ·obtain rfl:j=k:=by omega
   go_wp2_with fail
   refine(is_same (s j) _).mono ?_
   rintro e w' ⟨rfl,rfl⟩
   go_wp2_with fail
   go_ret2
   exact⟨rfl,HB.alloc HB.size _⟩
end Go.Proofs.YtdpmeoflgpaljaaGreatDoor
