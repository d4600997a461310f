/-
  Texts in one: PoM PoC PoN PoQ PoA PoB PoD PoG.
-/
import Derived.Test.YtjfhompbeengmaaDoorKg
import Derived.LoopTactic
import Derived.OwnWalk
import Derived.Laws.AppendOwnNone
namespace Go.Proofs.YtjfhompbeengmaaDoor

structure Rl where
  al : Bool
  ou : Bool
  pr : Int
  lo : Int
  tp : Int
instance : Inhabited Rl := ⟨⟨false, false, 0, 0, 0⟩⟩
def Rl.ok (r : Rl) : Prop := (r.pr = 0 ∨ r.pr = 1 ∨ r.pr = 2) ∧ 1 ≤ r.lo ∧ r.lo ≤ r.tp ∧ r.tp ≤ 65535
instance (r : Rl) : Decidable r.ok := by unfold Rl.ok; infer_instance
def Rl.has (r : Rl) (pr : Int) (ou : Bool) (p : Int) : Bool := (r.ou == ou) && ((r.pr == 0 || r.pr == pr) && (decide (r.lo ≤ p) && decide (p ≤ r.tp)))
def adm : List Rl → Int → Bool → Int → Bool
  | [], _, _, _ => false
  | r :: l, pr, ou, p => if r.has pr ou p = true then r.al else adm l pr ou p
def edgesL (l : List Rl) : List Int := l.flatMap fun r => [r.lo, r.tp + 1]
def sameAt (a b : List Rl) (ou : Bool) (pr : Int) : Bool := (edgesL a ++ edgesL b).all fun p => adm a pr ou p == adm b pr ou p
def sameL (a b : List Rl) : Bool := sameAt a b true 1 && sameAt a b true 2 && sameAt a b false 1 && sameAt a b false 2

theorem adm_shadow {r b : Rl} {pr : Int} {ou : Bool} {p : Int} (h : b.has pr ou p = true → r.has pr ou p = true) (l2 : List Rl) : ∀ l1 : List Rl, adm (l1 ++ r :: b :: l2) pr ou p = adm (l1 ++ r :: l2) pr ou p
  | [] => by
    simp only [List.nil_append, adm]
    by_cases e : r.has pr ou p = true
    · simp [e]
    · have e2 : ¬ b.has pr ou p = true := fun x => e (h x)
      simp [e, e2]
  | x :: l1 => by
    simp only [List.cons_append, adm]
    rw [adm_shadow h l2 l1]
theorem sameAt_of_eq {a b : List Rl} {pr : Int} {ou : Bool} (h : ∀ p, adm a pr ou p = adm b pr ou p) : sameAt a b ou pr = true := by
  unfold sameAt
  rw [List.all_eq_true]
  intro p _
  rw [h p]
  simp
theorem sameL_of_eq {a b : List Rl} (h : ∀ pr ou p, adm a pr ou p = adm b pr ou p) : sameL a b = true := by
  unfold sameL
  rw [sameAt_of_eq (h 1 true), sameAt_of_eq (h 2 true), sameAt_of_eq (h 1 false), sameAt_of_eq (h 2 false)]
  rfl
theorem has_iff {r : Rl} {pr : Int} {ou : Bool} {p : Int} : r.has pr ou p = true ↔ r.ou = ou ∧ (r.pr = 0 ∨ r.pr = pr) ∧ r.lo ≤ p ∧ p ≤ r.tp := by
  unfold Rl.has
  simp
theorem mem_edges {l : List Rl} {p : Int} : p ∈ edgesL l ↔ ∃ r ∈ l, p = r.lo ∨ p = r.tp + 1 := by
  unfold edgesL
  simp
/-- between two ports with no edge in (q, p] nothing changes. -/
theorem has_still {r : Rl} {pr : Int} {ou : Bool} {p q : Int} (hq : q ≤ p) (h1 : ¬ (q < r.lo ∧ r.lo ≤ p)) (h2 : ¬ (q < r.tp + 1 ∧ r.tp + 1 ≤ p)) : r.has pr ou p = r.has pr ou q := by
  rw [Bool.eq_iff_iff, has_iff, has_iff]
  constructor
  · rintro ⟨a, b, c, d⟩; exact ⟨a, b, by omega, by omega⟩
  · rintro ⟨a, b, c, d⟩; exact ⟨a, b, by omega, by omega⟩
theorem adm_still {pr : Int} {ou : Bool} {p q : Int} (hq : q ≤ p) : ∀ (l : List Rl), (∀ x ∈ edgesL l, ¬ (q < x ∧ x ≤ p)) → adm l pr ou p = adm l pr ou q
  | [], _ => rfl
  | r :: l, h => by
    simp only [adm]
    rw [has_still hq (h r.lo (mem_edges.2 ⟨r, by simp, .inl rfl⟩)) (h (r.tp + 1) (mem_edges.2 ⟨r, by simp, .inr rfl⟩)), adm_still hq l (fun x hx => h x ?_)]
    obtain ⟨y, hy, e⟩ := mem_edges.1 hx
    exact mem_edges.2 ⟨y, List.mem_cons_of_mem _ hy, e⟩
theorem adm_none {pr : Int} {ou : Bool} {p : Int} : ∀ (l : List Rl), (∀ x ∈ edgesL l, p < x) → adm l pr ou p = false
  | [], _ => rfl
  | r :: l, h => by
    simp only [adm]
    have h0 := h r.lo (mem_edges.2 ⟨r, by simp, .inl rfl⟩)
    rw [if_neg (by rw [has_iff]; omega), adm_none l (fun x hx => h x ?_)]
    obtain ⟨y, hy, e⟩ := mem_edges.1 hx
    exact mem_edges.2 ⟨y, List.mem_cons_of_mem _ hy, e⟩
/-- the greatest of a list that is not above p. -/
theorem last_edge (p : Int) : ∀ (l : List Int), (∀ x ∈ l, p < x) ∨ ∃ q ∈ l, q ≤ p ∧ ∀ x ∈ l, ¬ (q < x ∧ x ≤ p)
  | [] => .inl (by simp)
  | y :: l => by
    rcases last_edge p l with h | ⟨q, hq, h1, h2⟩
    · by_cases hy : y ≤ p
      · refine .inr ⟨y, by simp, hy, fun x hx => ?_⟩
        rcases List.mem_cons.1 hx with rfl | hx
        · omega
        · have := h x hx; omega
      · refine .inl fun x hx => ?_
        rcases List.mem_cons.1 hx with rfl | hx
        · omega
        · exact h x hx
    · by_cases hy : q < y ∧ y ≤ p
      · refine .inr ⟨y, by simp, hy.2, fun x hx => ?_⟩
        rcases List.mem_cons.1 hx with rfl | hx
        · omega
        · have := h2 x hx; omega
      · refine .inr ⟨q, List.mem_cons_of_mem _ hq, h1, fun x hx => ?_⟩
        rcases List.mem_cons.1 hx with rfl | hx
        · exact hy
        · exact h2 x hx
/-- alike at all edges: alike everywhere. -/
theorem sameAt_iff {a b : List Rl} {pr : Int} {ou : Bool} : sameAt a b ou pr = true ↔ ∀ p, adm a pr ou p = adm b pr ou p := by
  refine ⟨fun h p => ?_, sameAt_of_eq⟩
  unfold sameAt at h
  rw [List.all_eq_true] at h
  rcases last_edge p (edgesL a ++ edgesL b) with h1 | ⟨q, hq, h1, h2⟩
  · rw [adm_none a (fun x hx => h1 x (List.mem_append_left _ hx)), adm_none b (fun x hx => h1 x (List.mem_append_right _ hx))]
  · rw [adm_still h1 a (fun x hx => h2 x (List.mem_append_left _ hx)), adm_still h1 b (fun x hx => h2 x (List.mem_append_right _ hx))]
    exact eq_of_beq (h q hq)
theorem sameL_iff {a b : List Rl} : sameL a b = true ↔ ∀ pr, pr = 1 ∨ pr = 2 → ∀ ou p, adm a pr ou p = adm b pr ou p := by
  unfold sameL
  simp only [Bool.and_eq_true, sameAt_iff]
  constructor
  · rintro ⟨⟨⟨h1, h2⟩, h3⟩, h4⟩ pr (rfl | rfl) ou p
    · cases ou
      · exact h3 p
      · exact h1 p
    · cases ou
      · exact h4 p
      · exact h2 p
  · intro h
    exact ⟨⟨⟨h 1 (.inl rfl) true, h 2 (.inr rfl) true⟩, h 1 (.inl rfl) false⟩, h 2 (.inr rfl) false⟩
/-- the document's answer: its ports, and what is asked at one. -/
def refPorts (l : List Rl) : List Int := [1, 65535] ++ l.flatMap fun r => [r.lo - 1, r.lo, r.tp, r.tp + 1]
def refAt (a b : List Rl) (p : Int) : Bool := (adm a 1 false p == adm b 1 false p) && ((adm a 2 false p == adm b 2 false p) && ((adm a 1 true p == adm b 1 true p) && (adm a 2 true p == adm b 2 true p)))
def refSame (a b : List Rl) : Bool := (refPorts (a ++ b)).all fun p => decide (p < 1) || (decide (65535 < p) || refAt a b p)
theorem adm_above {pr : Int} {ou : Bool} {p : Int} (hp : 65535 < p) : ∀ (l : List Rl), (∀ r ∈ l, r.ok) → adm l pr ou p = false
  | [], _ => rfl
  | r :: l, h => by
    simp only [adm]
    have h0 := (h r (by simp)).2.2.2
    rw [if_neg (by rw [has_iff]; omega), adm_above hp l (fun x hx => h x (List.mem_cons_of_mem _ hx))]
theorem refSame_eq {a b : List Rl} (ha : ∀ r ∈ a, r.ok) (hb : ∀ r ∈ b, r.ok) : refSame a b = sameL a b := by
  rw [Bool.eq_iff_iff, sameL_iff]
  unfold refSame
  rw [List.all_eq_true]
  constructor
  · intro h
    have key : ∀ x ∈ edgesL a ++ edgesL b, ∀ pr, pr = 1 ∨ pr = 2 → ∀ ou, adm a pr ou x = adm b pr ou x := by
      intro x hx pr hpr ou
      have hm : ∃ r ∈ a ++ b, x = r.lo ∨ x = r.tp + 1 := by
        rcases List.mem_append.1 hx with hx | hx
        · obtain ⟨r, hr, e⟩ := mem_edges.1 hx; exact ⟨r, List.mem_append_left _ hr, e⟩
        · obtain ⟨r, hr, e⟩ := mem_edges.1 hx; exact ⟨r, List.mem_append_right _ hr, e⟩
      obtain ⟨r, hr, e⟩ := hm
      have hok : r.ok := by
        rcases List.mem_append.1 hr with hr | hr
        · exact ha r hr
        · exact hb r hr
      by_cases hbig : 65535 < x
      · rw [adm_above hbig a ha, adm_above hbig b hb]
      · have hp : x ∈ refPorts (a ++ b) := by
          unfold refPorts
          refine List.mem_append_right _ (List.mem_flatMap.2 ⟨r, hr, ?_⟩)
          rcases e with rfl | rfl <;> simp
        have h1 := h x hp
        obtain ⟨_, k1, k2, k3⟩ := hok
        rw [decide_eq_false (by omega), decide_eq_false (by omega), Bool.false_or, Bool.false_or] at h1
        unfold refAt at h1
        simp only [Bool.and_eq_true, beq_iff_eq] at h1
        obtain ⟨e1, e2, e3, e4⟩ := h1
        rcases hpr with rfl | rfl <;> cases ou <;> assumption
    intro pr hpr ou
    rw [← sameAt_iff]
    unfold sameAt
    rw [List.all_eq_true]
    intro x hx
    rw [key x hx pr hpr ou]; simp
  · intro h p _
    unfold refAt
    rw [h 1 (.inl rfl) false p, h 2 (.inr rfl) false p, h 1 (.inl rfl) true p, h 2 (.inr rfl) true p]
    simp
end Go.Proofs.YtjfhompbeengmaaDoor

namespace Go.Proofs.YtjfhompbeengmaaDoor
open Go.RowKit

/-- rules that lie in memory, five cells each. -/
def Rul (w : World) (p : Option Addr) (l : List Rl) : Prop := ∀ (i : Nat) r, l[i]? = some r → ∃ b o, p = some ⟨b, o, none⟩ ∧ w.cell? ⟨b, o + i * 5, none⟩ = some (.bool r.al) ∧
  w.cell? ⟨b, o + i * 5 + 1, none⟩ = some (.bool r.ou) ∧ w.cell? ⟨b, o + i * 5 + 2, none⟩ = some (.int .i64 r.pr) ∧ w.cell? ⟨b, o + i * 5 + 3, none⟩ = some (.int .i64 r.lo) ∧ w.cell? ⟨b, o + i * 5 + 4, none⟩ = some (.int .i64 r.tp)

theorem admitter_any (p : Option Addr) (n cap : Nat) (pr : Int) (ou : Bool) (w : World) : Calls Tryd.prog 82 #[.slice p n cap, .int .i64 pr, .bool ou] w fun e w' =>
    e = .returned (.func (.func 89) #[] #[.pointer (some ⟨w.heap.size, 0, none⟩), .pointer (some ⟨w.heap.size + 2, 0, none⟩), .pointer (some ⟨w.heap.size + 1, 0, none⟩)]) ∧
      w' = ((w.alloc (.cells #[.slice p n cap] 35)).alloc (.cells #[.int .i64 pr] 3)).alloc (.cells #[.bool ou] 4) := by
  go_enter Tryd.func82, Tryd.ntmps82
  go_wp2
  go_ret
  exact ⟨rfl, rfl⟩

theorem Rul.keep {w w' : World} {p : Option Addr} {l : List Rl} (R : Rul w p l) (h : ∀ a v, w.cell? a = some v → w'.cell? a = some v) : Rul w' p l := fun i r hr => by
  obtain ⟨b, o, e, h0, h1, h2, h3, h4⟩ := R i r hr
  exact ⟨b, o, e, h _ _ h0, h _ _ h1, h _ _ h2, h _ _ h3, h _ _ h4⟩
theorem cell_lt {w : World} {a : Addr} {v : Value} (hc : w.cell? a = some v) : a.block < w.heap.size := by
  rcases Nat.lt_or_ge a.block w.heap.size with h | h
  · exact h
  · simp [World.cell?, Array.getElem?_eq_none h] at hc
theorem Below.keeps {w w' : World} (h : Below w.heap.size w w') {a : Addr} {v : Value} (hc : w.cell? a = some v) : w'.cell? a = some v := by
  rw [h.cell (p := a) (cell_lt hc)]; exact hc
theorem adm_drop {l : List Rl} {j : Nat} {r : Rl} (h : l[j]? = some r) (pr : Int) (ou : Bool) (p : Int) : adm (l.drop j) pr ou p = if r.has pr ou p = true then r.al else adm (l.drop (j + 1)) pr ou p := by
  obtain ⟨hj, e⟩ := List.getElem?_eq_some_iff.1 h
  rw [List.drop_eq_getElem_cons hj, e]
  rfl

set_option maxRecDepth 100000 in
set_option maxHeartbeats 2000000 in
theorem admit_any (p : Option Addr) (l : List Rl) (cap : Nat) (pr port : Int) (ou : Bool) (a b c : Nat) (w : World) (R : Rul w p l) (hl : l.length ≤ 1000)
    (c0 : w.cell? ⟨a, 0, none⟩ = some (.slice p l.length cap)) (c1 : w.cell? ⟨b, 0, none⟩ = some (.bool ou)) (c2 : w.cell? ⟨c, 0, none⟩ = some (.int .i64 pr)) :
    Calls Tryd.prog 89 #[.int .i64 port, .pointer (some ⟨a, 0, none⟩), .pointer (some ⟨b, 0, none⟩), .pointer (some ⟨c, 0, none⟩)] w fun e w' => e = .returned (.bool (adm l pr ou port)) ∧ Below w.heap.size w w' := by
  have HR : Hid (Rul w p l) := R
  have H1 : Hid (w.cell? ⟨b, 0, none⟩ = some (.bool ou)) := c1
  have H2 : Hid (w.cell? ⟨c, 0, none⟩ = some (.int .i64 pr)) := c2
  clear R c1 c2
  go_enter Tryd.func89, Tryd.ntmps89
  go_wp2_with fail
  clear c0
  go_loopw [10] (fun t wr => ∃ j : Nat, j ≤ l.length ∧ t = .int .i64 j ∧ adm (l.drop j) pr ou port = adm l pr ou port ∧ Below w.heap.size w wr) (fun t _ => l.length - (intOf t).toNat)
  case atStart => exact ⟨0, Nat.zero_le _, rfl, rfl, Below.refl _ _⟩
  case round =>
    obtain ⟨j, hj, rfl, had, hb⟩ := hrel
    have HA : Hid (adm (l.drop j) pr ou port = adm l pr ou port) := had
    have HB : Hid (Below w.heap.size w wr) := hb
    clear had hb
    by_cases hlt : j < l.length
    · have hr : l[j]? = some l[j] := List.getElem?_eq_getElem hlt
      generalize l[j] = r at hr
      obtain ⟨x, o, rfl, g0, g1, g2, g3, g4⟩ := HR.out j r hr
      have k0 := Below.keeps HB.out g0
      have k1 := Below.keeps HB.out g1
      have k2 := Below.keeps HB.out g2
      have k3 := Below.keeps HB.out g3
      have k4 := Below.keeps HB.out g4
      have k5 := Below.keeps HB.out H1.out
      have k6 := Below.keeps HB.out H2.out
      have HD : Hid (adm l pr ou port = if r.has pr ou port = true then r.al else adm (l.drop (j + 1)) pr ou port) := by rw [← HA.out]; exact adm_drop hr _ _ _
      have q5 : b < wr.heap.size := cell_lt k5
      have q6 : c < wr.heap.size := cell_lt k6
      clear g0 g1 g2 g3 g4 hr
      obtain ⟨al, ro, rp, lo, tp⟩ := r
      simp only at k0 k1 k2 k3 k4
      go_wp2_with fail
      all_goals first
        | (go_ret
           refine ⟨?_, HB.out.alloc HB.out.size _⟩
           rw [HD.out, if_pos (has_iff.2 ⟨by first | assumption | rfl, by simp only; omega, by simp only; omega, by simp only; omega⟩)]
           rfl)
        | (refine ⟨⟨j + 1, by omega, by go_num, ?_, HB.out.alloc HB.out.size _⟩, by simp [intOf]; omega⟩
           rw [HD.out, if_neg]
           rw [has_iff]
           rintro ⟨a1, a2, a3, a4⟩
           simp only at a1 a2 a3 a4
           first | omega | exact absurd a1 (by assumption))
    · obtain rfl : j = l.length := by omega
      have hf : Hid (adm l pr ou port = false) := by show _ = _; rw [← HA.out, List.drop_length]; rfl
      go_wp2_with fail
      go_ret
      refine ⟨?_, HB.out⟩
      rw [hf.out]
      rfl
end Go.Proofs.YtjfhompbeengmaaDoor

namespace Go.Proofs.YtjfhompbeengmaaDoor
open Go.RowKit

/-- what the laid variables give: the two sentinels that package packet's and policy's Check answer. -/
structure Sen (w : World) (s : Nat → Addr) : Prop where
  c1 : w.cell? ⟨0, 0, none⟩ = some (.iface 161 (.pointer (some (s 1))))
  c2 : w.cell? ⟨1, 0, none⟩ = some (.iface 161 (.pointer (some (s 2))))
theorem Sen.below {w w' : World} {s : Nat → Addr} (S : Sen w s) (hb : Below w.heap.size w w') : Sen w' s := ⟨Below.keeps hb S.c1, Below.keeps hb S.c2⟩
/-- an error's value: 0: nil; k + 1: sentinel k. -/
def errV (s : Nat → Addr) : Nat → Value
  | 0 => .nilIface
  | k + 1 => .iface 161 (.pointer (some (s k)))

theorem box6 {w w1 : World} {v0 v1 v2 v3 v4 v5 : Value} {t : TypeId} (hb : Below (w.alloc (.cells #[v0, v1, v2, v3, v4, v5] t)).heap.size (w.alloc (.cells #[v0, v1, v2, v3, v4, v5] t)) w1) :
    w1.cell? ⟨w.heap.size, 0, none⟩ = some v0 ∧ w1.cell? ⟨w.heap.size, 1, none⟩ = some v1 ∧ w1.cell? ⟨w.heap.size, 2, none⟩ = some v2 ∧ w1.cell? ⟨w.heap.size, 3, none⟩ = some v3 ∧ w1.cell? ⟨w.heap.size, 4, none⟩ = some v4 ∧ w1.cell? ⟨w.heap.size, 5, none⟩ = some v5 :=
  ⟨Below.keeps hb (by simp), Below.keeps hb (by simp), Below.keeps hb (by simp), Below.keeps hb (by simp), Below.keeps hb (by simp), Below.keeps hb (by simp)⟩

abbrev pkt (pr a1 p1 a2 p2 fl : Int) : Value := .agg #[.int .i64 pr, .int .i64 a1, .int .i64 p1, .int .i64 a2, .int .i64 p2, .int .i64 fl]
def badEnd (a p : Int) : Prop := a < 0 ∨ 1048576 < a ∨ p < 1 ∨ 65535 < p
def okEnd (a p : Int) : Prop := 0 ≤ a ∧ a ≤ 1048576 ∧ 1 ≤ p ∧ p ≤ 65535

theorem check_proto (pr a1 p1 a2 p2 fl : Int) (s : Nat → Addr) (w : World) (S : Sen w s) (h1 : (pr != 1) = true) (h2 : (pr != 2) = true) :
    Calls Tryd.prog 47 #[pkt pr a1 p1 a2 p2 fl] w fun e w' => e = .returned (errV s 2) ∧ Below w.heap.size w w' := by
  have d1 := (S.below ((Below.refl _ _).alloc (Nat.le_refl _) (.cells #[.int .i64 pr, .int .i64 a1, .int .i64 p1, .int .i64 a2, .int .i64 p2, .int .i64 fl] 41))).c1
  have hS : Hid (Sen w s) := S
  clear S
  go_enter Tryd.func47, Tryd.ntmps47
  go_wp2_with fail
  go_ret
  exact ⟨rfl, (Below.refl _ _).alloc (Nat.le_refl _) _⟩
set_option maxRecDepth 100000 in
set_option maxHeartbeats 2000000 in
theorem check_src (pr a1 p1 a2 p2 fl : Int) (s : Nat → Addr) (w : World) (S : Sen w s) (h1 : pr = 1 ∨ pr = 2) (h2 : badEnd a1 p1) :
    Calls Tryd.prog 47 #[pkt pr a1 p1 a2 p2 fl] w fun e w' => e = .returned (errV s 2) ∧ Below w.heap.size w w' := by
  have hS : Hid (Sen w s) := S
  clear S
  have H2 : Hid (badEnd a1 p1) := h2
  clear h2
  rcases h1 with rfl | rfl
  all_goals
    go_enter Tryd.func47, Tryd.ntmps47
    go_wp2_with fail
    refine (ends_any _ _ _).mono ?_
    rintro e w1 ⟨rfl, hb⟩
    obtain ⟨c0, c1, c2, c3, c4, c5⟩ := box6 hb
    have HB : Hid (Below w.heap.size w w1) := ((Below.refl _ _).alloc (Nat.le_refl _) _).trans (hb.mono (by simp))
    have d1 := (hS.out.below HB.out).c1
    have d2 := (hS.out.below HB.out).c2
    clear hb
    have i0 := Tryd.idx0
    have i1 := Tryd.idx1
    go_wp2_with fail
    refine wp_loop_rounds 3 ?_
    rw [rounds_succ]
    rcases H2.out with h | h | h | h
    all_goals
      go_wp2_with fail
      all_goals (go_ret; exact ⟨rfl, HB.out⟩)
set_option maxRecDepth 100000 in
set_option maxHeartbeats 2000000 in
theorem check_dst (pr a1 p1 a2 p2 fl : Int) (s : Nat → Addr) (w : World) (S : Sen w s) (h1 : pr = 1 ∨ pr = 2) (h2 : okEnd a1 p1) (h3 : badEnd a2 p2) :
    Calls Tryd.prog 47 #[pkt pr a1 p1 a2 p2 fl] w fun e w' => e = .returned (errV s 2) ∧ Below w.heap.size w w' := by
  have hS : Hid (Sen w s) := S
  clear S
  have H3 : Hid (badEnd a2 p2) := h3
  clear h3
  obtain ⟨g1, g2, g3, g4⟩ := h2
  rcases h1 with rfl | rfl
  all_goals
    go_enter Tryd.func47, Tryd.ntmps47
    go_wp2_with fail
    refine (ends_any _ _ _).mono ?_
    rintro e w1 ⟨rfl, hb⟩
    obtain ⟨c0, c1, c2, c3, c4, c5⟩ := box6 hb
    have HB : Hid (Below w.heap.size w w1) := ((Below.refl _ _).alloc (Nat.le_refl _) _).trans (hb.mono (by simp))
    have d1 := (hS.out.below HB.out).c1
    have d2 := (hS.out.below HB.out).c2
    clear hb
    have i0 := Tryd.idx0
    have i1 := Tryd.idx1
    go_wp2_with fail
    refine wp_loop_rounds 3 ?_
    rw [rounds_succ]
    go_wp2_with fail
    rw [rounds_succ]
    rcases H3.out with h | h | h | h
    all_goals
      go_wp2_with fail
      all_goals (go_ret; exact ⟨rfl, HB.out⟩)
set_option maxRecDepth 100000 in
set_option maxHeartbeats 2000000 in
theorem check_flags (pr a1 p1 a2 p2 fl : Int) (s : Nat → Addr) (w : World) (S : Sen w s) (h1 : pr = 1 ∨ pr = 2) (h2 : okEnd a1 p1) (h3 : okEnd a2 p2) (h4 : fl < 0 ∨ 15 < fl) :
    Calls Tryd.prog 47 #[pkt pr a1 p1 a2 p2 fl] w fun e w' => e = .returned (errV s 2) ∧ Below w.heap.size w w' := by
  have hS : Hid (Sen w s) := S
  clear S
  have H4 : Hid (fl < 0 ∨ 15 < fl) := h4
  clear h4
  obtain ⟨g1, g2, g3, g4⟩ := h2
  obtain ⟨g5, g6, g7, g8⟩ := h3
  rcases h1 with rfl | rfl
  all_goals
    go_enter Tryd.func47, Tryd.ntmps47
    go_wp2_with fail
    refine (ends_any _ _ _).mono ?_
    rintro e w1 ⟨rfl, hb⟩
    obtain ⟨c0, c1, c2, c3, c4, c5⟩ := box6 hb
    have HB : Hid (Below w.heap.size w w1) := ((Below.refl _ _).alloc (Nat.le_refl _) _).trans (hb.mono (by simp))
    have d1 := (hS.out.below HB.out).c1
    have d2 := (hS.out.below HB.out).c2
    clear hb
    have i0 := Tryd.idx0
    have i1 := Tryd.idx1
    go_wp2_with fail
    refine wp_loop_rounds 3 ?_
    rw [rounds_succ]
    go_wp2_with fail
    rw [rounds_succ]
    go_wp2_with fail
    rw [rounds_succ]
    rcases H4.out with h | h
    all_goals
      go_wp2_with fail
      all_goals (go_ret; exact ⟨rfl, HB.out⟩)
set_option maxRecDepth 100000 in
set_option maxHeartbeats 2000000 in
theorem check_shape (pr a1 p1 a2 p2 fl : Int) (s : Nat → Addr) (w : World) (S : Sen w s) (h1 : pr = 1) (h2 : okEnd a1 p1) (h3 : okEnd a2 p2) (h4 : 0 < fl) (h5 : fl ≤ 15) :
    Calls Tryd.prog 47 #[pkt pr a1 p1 a2 p2 fl] w fun e w' => e = .returned (errV s 3) ∧ Below w.heap.size w w' := by
  have hS : Hid (Sen w s) := S
  clear S
  subst h1
  obtain ⟨g1, g2, g3, g4⟩ := h2
  obtain ⟨g5, g6, g7, g8⟩ := h3
  have hz : (fl != 0) = true := by rw [bne_iff_ne]; omega
  all_goals
    go_enter Tryd.func47, Tryd.ntmps47
    go_wp2_with fail
    refine (ends_any _ _ _).mono ?_
    rintro e w1 ⟨rfl, hb⟩
    obtain ⟨c0, c1, c2, c3, c4, c5⟩ := box6 hb
    have HB : Hid (Below w.heap.size w w1) := ((Below.refl _ _).alloc (Nat.le_refl _) _).trans (hb.mono (by simp))
    have d1 := (hS.out.below HB.out).c1
    have d2 := (hS.out.below HB.out).c2
    clear hb
    have i0 := Tryd.idx0
    have i1 := Tryd.idx1
    go_wp2_with fail
    refine wp_loop_rounds 3 ?_
    rw [rounds_succ]
    go_wp2_with fail
    rw [rounds_succ]
    go_wp2_with fail
    rw [rounds_succ]
    go_wp2_with fail
    go_ret
    exact ⟨rfl, HB.out⟩
set_option maxRecDepth 100000 in
set_option maxHeartbeats 2000000 in
theorem check_ok (pr a1 p1 a2 p2 fl : Int) (s : Nat → Addr) (w : World) (S : Sen w s) (h1 : (pr = 1 ∧ fl = 0) ∨ pr = 2) (h2 : okEnd a1 p1) (h3 : okEnd a2 p2) (h4 : 0 ≤ fl) (h5 : fl ≤ 15) :
    Calls Tryd.prog 47 #[pkt pr a1 p1 a2 p2 fl] w fun e w' => e = .returned (errV s 0) ∧ Below w.heap.size w w' := by
  have hS : Hid (Sen w s) := S
  clear S
  obtain ⟨g1, g2, g3, g4⟩ := h2
  obtain ⟨g5, g6, g7, g8⟩ := h3
  rcases h1 with ⟨rfl, rfl⟩ | rfl
  all_goals
    go_enter Tryd.func47, Tryd.ntmps47
    go_wp2_with fail
    refine (ends_any _ _ _).mono ?_
    rintro e w1 ⟨rfl, hb⟩
    obtain ⟨c0, c1, c2, c3, c4, c5⟩ := box6 hb
    have HB : Hid (Below w.heap.size w w1) := ((Below.refl _ _).alloc (Nat.le_refl _) _).trans (hb.mono (by simp))
    have d1 := (hS.out.below HB.out).c1
    have d2 := (hS.out.below HB.out).c2
    clear hb
    have i0 := Tryd.idx0
    have i1 := Tryd.idx1
    go_wp2_with fail
    refine wp_loop_rounds 3 ?_
    rw [rounds_succ]
    go_wp2_with fail
    rw [rounds_succ]
    go_wp2_with fail
    rw [rounds_succ]
    go_wp2_with fail
    go_ret
    exact ⟨rfl, HB.out⟩
end Go.Proofs.YtjfhompbeengmaaDoor

namespace Go.Proofs.YtjfhompbeengmaaDoor
open Go.RowKit

def endB (a p : Int) : Bool := decide (0 ≤ a) && decide (a ≤ 1048576) && decide (1 ≤ p) && decide (p ≤ 65535)
theorem endB_ok {a p : Int} : endB a p = true ↔ okEnd a p := by unfold endB okEnd; simp; omega
theorem endB_bad {a p : Int} : endB a p = false ↔ badEnd a p := by
  rw [← Bool.not_eq_true, endB_ok]; unfold okEnd badEnd; omega
/-- a packet's error, as a number. -/
def pkErr (pr a1 p1 a2 p2 fl : Int) : Nat :=
  if (pr = 1 ∨ pr = 2) ∧ endB a1 p1 = true ∧ endB a2 p2 = true ∧ 0 ≤ fl ∧ fl ≤ 15 then (if pr = 1 ∧ 0 < fl then 3 else 0) else 2

theorem check_any (pr a1 p1 a2 p2 fl : Int) (s : Nat → Addr) (w : World) (S : Sen w s) :
    Calls Tryd.prog 47 #[pkt pr a1 p1 a2 p2 fl] w fun e w' => e = .returned (errV s (pkErr pr a1 p1 a2 p2 fl)) ∧ Below w.heap.size w w' := by
  by_cases h0 : pr = 1 ∨ pr = 2
  · cases h1 : endB a1 p1
    · have e : pkErr pr a1 p1 a2 p2 fl = 2 := by unfold pkErr; simp [h1]
      rw [e]; exact check_src pr a1 p1 a2 p2 fl s w S h0 (endB_bad.1 h1)
    · cases h2 : endB a2 p2
      · have e : pkErr pr a1 p1 a2 p2 fl = 2 := by unfold pkErr; simp [h2]
        rw [e]; exact check_dst pr a1 p1 a2 p2 fl s w S h0 (endB_ok.1 h1) (endB_bad.1 h2)
      · by_cases h3 : fl < 0 ∨ 15 < fl
        · have e : pkErr pr a1 p1 a2 p2 fl = 2 := by unfold pkErr; rw [if_neg (by omega)]
          rw [e]; exact check_flags pr a1 p1 a2 p2 fl s w S h0 (endB_ok.1 h1) (endB_ok.1 h2) h3
        · by_cases h4 : pr = 1 ∧ 0 < fl
          · have e : pkErr pr a1 p1 a2 p2 fl = 3 := by unfold pkErr; rw [if_pos ⟨h0, h1, h2, by omega, by omega⟩, if_pos h4]
            rw [e]; exact check_shape pr a1 p1 a2 p2 fl s w S h4.1 (endB_ok.1 h1) (endB_ok.1 h2) h4.2 (by omega)
          · have e : pkErr pr a1 p1 a2 p2 fl = 0 := by unfold pkErr; rw [if_pos ⟨h0, h1, h2, by omega, by omega⟩, if_neg h4]
            rw [e]; exact check_ok pr a1 p1 a2 p2 fl s w S (by omega) (endB_ok.1 h1) (endB_ok.1 h2) (by omega) (by omega)
  · have e : pkErr pr a1 p1 a2 p2 fl = 2 := by unfold pkErr; rw [if_neg (fun h => h0 h.1)]
    rw [e]; exact check_proto pr a1 p1 a2 p2 fl s w S (by rw [bne_iff_ne]; omega) (by rw [bne_iff_ne]; omega)
/-- a packet without an error. -/
structure PkOk (pr a1 p1 a2 p2 fl : Int) : Prop where
  proto : (pr = 1 ∧ fl = 0) ∨ pr = 2
  src : okEnd a1 p1
  dst : okEnd a2 p2
  lo : 0 ≤ fl
  hi : fl ≤ 15
theorem pkErr_zero {pr a1 p1 a2 p2 fl : Int} : pkErr pr a1 p1 a2 p2 fl = 0 ↔ PkOk pr a1 p1 a2 p2 fl := by
  constructor
  · intro h
    unfold pkErr at h
    split at h
    · rename_i h'
      split at h
      · cases h
      · exact ⟨by omega, endB_ok.1 h'.2.1, endB_ok.1 h'.2.2.1, h'.2.2.2.1, h'.2.2.2.2⟩
    · cases h
  · intro ⟨h1, h2, h3, h4, h5⟩
    unfold pkErr
    rw [if_pos ⟨by omega, endB_ok.2 h2, endB_ok.2 h3, h4, h5⟩, if_neg (by omega)]
end Go.Proofs.YtjfhompbeengmaaDoor

namespace Go.Proofs.YtjfhompbeengmaaDoor
open Go.RowKit

set_option maxRecDepth 100000 in
set_option maxHeartbeats 2000000 in
theorem isRule_any (al ou : Bool) (pr lo tp : Int) (w : World) (b : Bool) (hb : decide (Rl.ok ⟨al, ou, pr, lo, tp⟩) = b) :
    Calls Tryd.prog 34 #[.agg #[.bool al, .bool ou, .int .i64 pr, .int .i64 lo, .int .i64 tp]] w fun e w' => e = .returned (.bool b) ∧ Below w.heap.size w w' := by
  have HB : Hid (decide (Rl.ok ⟨al, ou, pr, lo, tp⟩) = b) := hb
  clear hb
  by_cases h0 : pr = 0 ∨ pr = 1 ∨ pr = 2
  · by_cases h1 : 1 ≤ lo
    · by_cases h2 : lo ≤ tp
      · rcases h3 : decide (tp ≤ 65535) with _ | _
        · have e : b = false := by rw [← HB.out]; rw [decide_eq_false_iff_not] at h3 ⊢; unfold Rl.ok; simp only; omega
          subst e
          clear HB
          rcases h0 with rfl | rfl | rfl
          all_goals
            go_enter Tryd.func34, Tryd.ntmps34
            go_wp2_with fail
            go_ret
            exact ⟨rfl, (Below.refl _ _).alloc (Nat.le_refl _) _⟩
        · have e : b = true := by rw [← HB.out]; rw [decide_eq_true_iff] at h3 ⊢; unfold Rl.ok; simp only; omega
          subst e
          clear HB
          rcases h0 with rfl | rfl | rfl
          all_goals
            go_enter Tryd.func34, Tryd.ntmps34
            go_wp2_with fail
            go_ret
            exact ⟨rfl, (Below.refl _ _).alloc (Nat.le_refl _) _⟩
      · have e : b = false := by rw [← HB.out]; rw [decide_eq_false_iff_not]; unfold Rl.ok; simp only; omega
        subst e
        clear HB
        rcases h0 with rfl | rfl | rfl
        all_goals
          go_enter Tryd.func34, Tryd.ntmps34
          go_wp2_with fail
          go_ret
          exact ⟨rfl, (Below.refl _ _).alloc (Nat.le_refl _) _⟩
    · have e : b = false := by rw [← HB.out]; rw [decide_eq_false_iff_not]; unfold Rl.ok; simp only; omega
      subst e
      clear HB
      rcases h0 with rfl | rfl | rfl
      all_goals
        go_enter Tryd.func34, Tryd.ntmps34
        go_wp2_with fail
        go_ret
        exact ⟨rfl, (Below.refl _ _).alloc (Nat.le_refl _) _⟩
  · have e : b = false := by rw [← HB.out]; rw [decide_eq_false_iff_not]; unfold Rl.ok; simp only; omega
    subst e
    clear HB
    have g0 : (pr == 0) = false := beq_eq_false_iff_ne.2 (by omega)
    have g1 : (pr == 1) = false := beq_eq_false_iff_ne.2 (by omega)
    have g2 : (pr == 2) = false := beq_eq_false_iff_ne.2 (by omega)
    clear h0
    go_enter Tryd.func34, Tryd.ntmps34
    go_wp2_with fail
    go_ret
    exact ⟨rfl, (Below.refl _ _).alloc (Nat.le_refl _) _⟩
end Go.Proofs.YtjfhompbeengmaaDoor

namespace Go.Proofs.YtjfhompbeengmaaDoor
open Go.RowKit

/-- the place of the first that is none. -/
def chkAt : List Rl → Nat → Option Nat
  | [], _ => none
  | r :: l, k => if r.ok then chkAt l (k + 1) else some k
theorem chkAt_drop {l : List Rl} {j : Nat} {r : Rl} (h : l[j]? = some r) : chkAt (l.drop j) j = if r.ok then chkAt (l.drop (j + 1)) (j + 1) else some j := by
  obtain ⟨hj, e⟩ := List.getElem?_eq_some_iff.1 h
  rw [List.drop_eq_getElem_cons hj, e]
  rfl
theorem chkAt_none : ∀ {l : List Rl} {k : Nat}, chkAt l k = none ↔ ∀ r ∈ l, r.ok
  | [], k => by simp [chkAt]
  | r :: l, k => by
    unfold chkAt
    by_cases h : r.ok
    · rw [if_pos h, chkAt_none]; simp [h]
    · rw [if_neg h]; simp [h]
/-- what Check answers. -/
def ChkV (s : Nat → Addr) (w : World) (l : List Rl) (v : Value) : Prop :=
  (20 < l.length ∧ v = errV s 2) ∨ (l.length ≤ 20 ∧ chkAt l 0 = none ∧ v = .nilIface) ∨
    (l.length ≤ 20 ∧ ∃ i g : Nat, chkAt l 0 = some i ∧ v = .iface 91 (.pointer (some ⟨g, 0, none⟩)) ∧ w.cell? ⟨g, 0, none⟩ = some (.int .i64 i) ∧ w.cell? ⟨g, 1, none⟩ = some (.iface 161 (.pointer (some (s 1)))))

set_option maxRecDepth 100000 in
set_option maxHeartbeats 2000000 in
theorem pcheck_big (p : Option Addr) (l : List Rl) (cap : Nat) (s : Nat → Addr) (w : World) (S : Sen w s) (R : Rul w p l) (hl : l.length ≤ 4000) :
    Calls Tryd.prog 16 #[.slice p l.length cap] w fun e w' => (∃ v, e = .returned v ∧ ChkV s w' l v) ∧ Below w.heap.size w w' := by
  have HR : Hid (Rul w p l) := R
  have HS : Hid (Sen w s) := S
  clear R S
  by_cases hbig : 20 < l.length
  · have d1 := HS.out.c1
    go_enter Tryd.func16, Tryd.ntmps16
    go_wp2_with fail
    go_ret
    exact ⟨⟨_, rfl, .inl ⟨hbig, rfl⟩⟩, Below.refl _ _⟩
  · have hsm : l.length ≤ 20 := by omega
    go_enter Tryd.func16, Tryd.ntmps16
    go_wp2_with fail
    go_loopw [11] (fun t wr => ∃ j : Nat, j ≤ l.length ∧ t = .int .i64 j ∧ chkAt (l.drop j) j = chkAt l 0 ∧ Below w.heap.size w wr) (fun t _ => l.length - (intOf t).toNat)
    case atStart => exact ⟨0, Nat.zero_le _, rfl, rfl, Below.refl _ _⟩
    case round =>
      obtain ⟨j, hj, rfl, had, hb⟩ := hrel
      have HA : Hid (chkAt (l.drop j) j = chkAt l 0) := had
      have HB : Hid (Below w.heap.size w wr) := hb
      clear had hb
      by_cases hlt : j < l.length
      · have hr : l[j]? = some l[j] := List.getElem?_eq_getElem hlt
        generalize l[j] = r at hr
        obtain ⟨x, o, rfl, g0, g1, g2, g3, g4⟩ := HR.out j r hr
        have k0 := Below.keeps HB.out g0
        have k1 := Below.keeps HB.out g1
        have k2 := Below.keeps HB.out g2
        have k3 := Below.keeps HB.out g3
        have k4 := Below.keeps HB.out g4
        have HD : Hid (chkAt l 0 = if r.ok then chkAt (l.drop (j + 1)) (j + 1) else some j) := by show _ = _; rw [← HA.out]; exact chkAt_drop hr
        clear g0 g1 g2 g3 g4 hr
        obtain ⟨al, ro, rp, lo, tp⟩ := r
        simp only at k0 k1 k2 k3 k4
        have B1 : Hid (Below w.heap.size w (wr.alloc (.cells #[.bool al, .bool ro, .int .i64 rp, .int .i64 lo, .int .i64 tp] 34))) := HB.out.alloc HB.out.size _
        go_wp2_with fail
        refine (isRule_any al ro rp lo tp _ _ rfl).mono ?_
        rintro e w2 ⟨rfl, hb2⟩
        have B2 : Hid (Below w.heap.size w w2) := B1.out.trans (hb2.mono (by have := HB.out.size; simp; omega))
        have S2 : Hid (Sen w2 s) := HS.out.below B2.out
        clear hb2
        by_cases hok : Rl.ok ⟨al, ro, rp, lo, tp⟩
        · rw [decide_eq_true hok]
          have HD : Hid (chkAt l 0 = chkAt (l.drop (j + 1)) (j + 1)) := by have := HD.out; rw [if_pos hok] at this; exact this
          clear hok
          go_wp2_with fail
          go_roundw
          case rel => exact ⟨j + 1, by omega, by go_num, HD.out.symm, B2.out⟩
          case measure => simp [intOf]; omega
        · rw [decide_eq_false hok]
          have HD : Hid (chkAt l 0 = some j) := by have := HD.out; rw [if_neg hok] at this; exact this
          clear hok
          have d1 := S2.out.c1
          go_wp2_with fail
          go_ret
          refine ⟨⟨_, rfl, .inr (.inr ⟨hsm, j, w2.heap.size, HD.out, rfl, ?_, ?_⟩)⟩, B2.out.alloc B2.out.size _⟩
          · simp
          · simp
      · obtain rfl : j = l.length := by omega
        have hf : Hid (chkAt l 0 = none) := by show _ = _; rw [← HA.out, List.drop_length]; rfl
        go_wp2_with fail
        go_ret
        exact ⟨⟨_, rfl, .inr (.inl ⟨hsm, hf.out, rfl⟩)⟩, HB.out⟩
theorem pcheck_any (p : Option Addr) (l : List Rl) (cap : Nat) (s : Nat → Addr) (w : World) (S : Sen w s) (R : Rul w p l) (hl : l.length ≤ 1000) :
    Calls Tryd.prog 16 #[.slice p l.length cap] w fun e w' => (∃ v, e = .returned v ∧ ChkV s w' l v) ∧ Below w.heap.size w w' :=
  pcheck_big p l cap s w S R (by omega)
end Go.Proofs.YtjfhompbeengmaaDoor

namespace Go.Proofs.YtjfhompbeengmaaDoor
open Go.RowKit

theorem Rul.below {w w' : World} {p : Option Addr} {l : List Rl} (R : Rul w p l) (hb : Below w.heap.size w w') : Rul w' p l := R.keep fun _ _ h => Below.keeps hb h
theorem below2 {w w1 w2 : World} (h1 : Below w.heap.size w w1) (h2 : Below w1.heap.size w1 w2) : Below w.heap.size w w2 := h1.trans (h2.mono h1.size)
/-- what the function that admitter makes has kept. -/
structure AdmF (w : World) (B : Nat) (p : Option Addr) (n cap : Nat) (pr : Int) (ou : Bool) : Prop where
  c0 : w.cell? ⟨B, 0, none⟩ = some (.slice p n cap)
  c1 : w.cell? ⟨B + 1, 0, none⟩ = some (.int .i64 pr)
  c2 : w.cell? ⟨B + 2, 0, none⟩ = some (.bool ou)
theorem AdmF.below {w w' : World} {B : Nat} {p : Option Addr} {n cap : Nat} {pr : Int} {ou : Bool} (h : AdmF w B p n cap pr ou) (hb : Below w.heap.size w w') : AdmF w' B p n cap pr ou :=
  ⟨Below.keeps hb h.c0, Below.keeps hb h.c1, Below.keeps hb h.c2⟩
abbrev admFn (B : Nat) : Value := .func (.func 89) #[] #[.pointer (some ⟨B, 0, none⟩), .pointer (some ⟨B + 2, 0, none⟩), .pointer (some ⟨B + 1, 0, none⟩)]
theorem admitter_at (B : Nat) (p : Option Addr) (n cap : Nat) (pr : Int) (ou : Bool) (w : World) (hB : w.heap.size = B) : Calls Tryd.prog 82 #[.slice p n cap, .int .i64 pr, .bool ou] w fun e w' =>
    e = .returned (admFn B) ∧ AdmF w' B p n cap pr ou ∧ Below w.heap.size w w' := by
  subst hB
  refine (admitter_any p n cap pr ou w).mono ?_
  rintro e w' ⟨rfl, rfl⟩
  exact ⟨rfl, ⟨by simp [go_sem], by simp [go_sem], by simp [go_sem]⟩, (((Below.refl _ _).alloc (Nat.le_refl _) _).alloc (by simp) _).alloc (by simp; omega) _⟩
theorem admit_at (B : Nat) (p : Option Addr) (l : List Rl) (cap : Nat) (pr port : Int) (ou : Bool) (w : World) (F : AdmF w B p l.length cap pr ou) (R : Rul w p l) (hl : l.length ≤ 1000) :
    Calls Tryd.prog 89 #[.int .i64 port, .pointer (some ⟨B, 0, none⟩), .pointer (some ⟨B + 2, 0, none⟩), .pointer (some ⟨B + 1, 0, none⟩)] w fun e w' => e = .returned (.bool (adm l pr ou port)) ∧ Below w.heap.size w w' :=
  admit_any p l cap pr port ou _ _ _ w R hl F.c0 F.c2 F.c1
theorem Below.drewl {B : Nat} {w w' : World} (h : Below B w.drew w') : Below B w w' := ⟨h.os, h.tape, h.output, h.size, h.block⟩
theorem errVpos (s : Nat → Addr) (k : Nat) : errV s (k + 1) = .iface 161 (.pointer (some (s k))) := rfl
def RulesOk (l : List Rl) : Prop := l.length ≤ 20 ∧ chkAt l 0 = none
/-- what Admits answers. -/
def AdmV (s : Nat → Addr) (w : World) (l : List Rl) (pr a1 p1 a2 p2 fl : Int) (ou : Bool) (v : Value) (b : Bool) : Prop :=
  (¬ RulesOk l ∧ ChkV s w l v ∧ b = false) ∨ (RulesOk l ∧ (∃ k, pkErr pr a1 p1 a2 p2 fl = k + 1 ∧ v = errV s (k + 1)) ∧ b = false) ∨ (RulesOk l ∧ pkErr pr a1 p1 a2 p2 fl = 0 ∧ v = .nilIface ∧ b = adm l pr ou p2)

set_option maxRecDepth 100000 in
set_option maxHeartbeats 2000000 in
theorem admits_any (p : Option Addr) (l : List Rl) (cap : Nat) (pr a1 p1 a2 p2 fl : Int) (ou : Bool) (s : Nat → Addr) (w : World) (S : Sen w s) (R : Rul w p l) (hl : l.length ≤ 1000) :
    Calls Tryd.prog 67 #[.slice p l.length cap, pkt pr a1 p1 a2 p2 fl, .bool ou] w fun e w' => (∃ v b, e = .returned (.tuple #[.bool b, v]) ∧ AdmV s w' l pr a1 p1 a2 p2 fl ou v b) ∧ Below w.heap.size w w' := by
  have HR : Hid (Rul w p l) := R
  have HS : Hid (Sen w s) := S
  clear R S
  have b1 : Hid (Below w.heap.size w (w.alloc (.cells #[.int .i64 pr, .int .i64 a1, .int .i64 p1, .int .i64 a2, .int .i64 p2, .int .i64 fl] 41))) := (Below.refl _ _).alloc (Nat.le_refl _) _
  go_enter Tryd.func67, Tryd.ntmps67
  go_wp2_with fail
  refine (pcheck_any p l cap s _ (HS.out.below b1.out) (HR.out.below b1.out) hl).mono ?_
  rintro e w1 ⟨⟨v, rfl, hv⟩, hb1⟩
  obtain ⟨c0, c1, c2, c3, c4, c5⟩ := box6 hb1
  have B1 : Hid (Below w.heap.size w w1) := below2 b1.out hb1
  clear hb1
  rcases hv with ⟨h1, rfl⟩ | ⟨h1, h2, rfl⟩ | ⟨h1, i, g, h2, rfl, h3, h4⟩
  · unfold errV
    clear c0 c1 c2 c3 c4 c5
    go_wp2_with fail
    go_ret2
    exact ⟨⟨_, _, rfl, .inl ⟨fun h => by have := h.1; omega, .inl ⟨h1, rfl⟩, rfl⟩⟩, B1.out⟩
  · have HK : Hid (RulesOk l) := ⟨h1, h2⟩
    clear h1 h2
    go_wp2_with fail
    refine (check_any pr a1 p1 a2 p2 fl s _ (HS.out.below B1.out)).mono ?_
    rintro e w2 ⟨rfl, hb2⟩
    have B2 : Hid (Below w.heap.size w w2) := below2 B1.out hb2
    have k0 := Below.keeps hb2 c0
    have k4 := Below.keeps hb2 c4
    clear hb2 c0 c1 c2 c3 c4 c5
    rcases hk : pkErr pr a1 p1 a2 p2 fl with _ | k
    · have HZ : Hid (pkErr pr a1 p1 a2 p2 fl = 0) := hk
      clear hk
      unfold errV
      go_wp2_with fail
      go_region_with (first
        | (go_at_call 82; refine (admitter_at w2.heap.size p l.length cap pr ou _ (by rfl)).mono ?_; rintro e w3 ⟨rfl, hF, hb3⟩;
            have HB3 : Hid (Below w.heap.size w w3) := below2 B2.out (Below.drewl hb3); have HF : Hid (AdmF w3 w2.heap.size p l.length cap pr ou) := hF; have m4 := Below.keeps (Below.drewl hb3) k4; clear hF hb3)
        | (go_at_call 89; refine (admit_at w2.heap.size p l cap pr p2 ou _ HF.out (HR.out.below HB3.out) hl).mono ?_; rintro e w4 ⟨rfl, hb4⟩; have B4 : Hid (Below w.heap.size w w4) := below2 HB3.out hb4; clear hb4))
      all_goals go_wp2_with fail
      all_goals go_ret2
      all_goals exact ⟨⟨_, _, rfl, .inr (.inr ⟨HK.out, HZ.out, rfl, rfl⟩)⟩, B4.out⟩
    · have HZ : Hid (pkErr pr a1 p1 a2 p2 fl = k + 1) := hk
      clear hk
      rw [errVpos]
      go_wp2_with fail
      go_ret2
      exact ⟨⟨_, _, rfl, .inr (.inl ⟨HK.out, ⟨k, HZ.out, rfl⟩, rfl⟩)⟩, B2.out⟩
  · have H : Hid (l.length ≤ 20 ∧ chkAt l 0 = some i ∧ w1.cell? ⟨g, 0, none⟩ = some (.int .i64 i) ∧ w1.cell? ⟨g, 1, none⟩ = some (.iface 161 (.pointer (some (s 1))))) := ⟨h1, h2, h3, h4⟩
    clear h1 h2 h3 h4 c0 c1 c2 c3 c4 c5
    go_wp2_with fail
    go_ret2
    obtain ⟨h1, h2, h3, h4⟩ := H.out
    exact ⟨⟨_, _, rfl, .inl ⟨fun h => absurd (h2.symm.trans h.2) (by simp), .inr (.inr ⟨h1, i, g, h2, rfl, h3, h4⟩), rfl⟩⟩, B1.out⟩
end Go.Proofs.YtjfhompbeengmaaDoor

namespace Go.Proofs.YtjfhompbeengmaaDoor
open Go.RowKit

def rlC (r : Rl) : List Value := [.bool r.al, .bool r.ou, .int .i64 r.pr, .int .i64 r.lo, .int .i64 r.tp]
def cellsL (l : List Rl) : List Value := l.flatMap rlC
theorem cellsL_cons (r : Rl) (l : List Rl) : cellsL (r :: l) = .bool r.al :: .bool r.ou :: .int .i64 r.pr :: .int .i64 r.lo :: .int .i64 r.tp :: cellsL l := rfl
theorem cellsL_len : ∀ l : List Rl, (cellsL l).length = l.length * 5
  | [] => rfl
  | r :: l => by rw [cellsL_cons]; simp only [List.length_cons, cellsL_len l]; omega
theorem cellsL_append (a b : List Rl) : cellsL (a ++ b) = cellsL a ++ cellsL b := by simp [cellsL]
theorem cellsL_get : ∀ (l : List Rl) (i k : Nat), k < 5 → (cellsL l)[i * 5 + k]? = (l[i]?).bind fun r => (rlC r)[k]?
  | [], i, k, _ => by simp [cellsL]
  | r :: l, 0, k, h => by
    rw [cellsL_cons]
    match k, h with
    | 0, _ | 1, _ | 2, _ | 3, _ | 4, _ => rfl
  | r :: l, i + 1, k, h => by
    have e : (i + 1) * 5 + k = (i * 5 + k) + 1 + 1 + 1 + 1 + 1 := by omega
    rw [cellsL_cons, e, List.getElem?_cons_succ, List.getElem?_cons_succ, List.getElem?_cons_succ, List.getElem?_cons_succ, List.getElem?_cons_succ, List.getElem?_cons_succ]
    exact cellsL_get l i k h
theorem cellsL_one (l : List Rl) (u : Value) (h : u ∈ cellsL l) : u.oneCell' = true := by
  obtain ⟨r, _, hr⟩ := List.mem_flatMap.1 h
  simp only [rlC, List.mem_cons, List.not_mem_nil, or_false] at hr
  rcases hr with rfl | rfl | rfl | rfl | rfl <;> rfl
theorem addr_add (b o j : Nat) : Addr.add ⟨b, o, none⟩ j = ⟨b, o + j, none⟩ := by
  unfold Addr.add
  by_cases h : j = 0
  · subst h; rfl
  · rw [if_neg h]
theorem Rul.at {w : World} {ad : Addr} {l : List Rl} (R : Rul w (some ad) l) (j : Nat) (u : Value) (h : (cellsL l)[j]? = some u) : w.cell? (ad.add j) = some u := by
  have e : j = j / 5 * 5 + j % 5 := by omega
  have hk : j % 5 < 5 := Nat.mod_lt _ (by omega)
  rw [e, cellsL_get l _ _ hk] at h
  obtain ⟨r, hr, hu⟩ := Option.bind_eq_some_iff.1 h
  obtain ⟨b, o, e1, h0, h1, h2, h3, h4⟩ := R _ _ hr
  obtain rfl := Option.some.inj e1
  rw [addr_add]
  generalize hi : j / 5 = i at *
  generalize hm : j % 5 = k at *
  subst e
  match k, hk with
  | 0, _ => exact (show w.cell? ⟨b, o + i * 5, none⟩ = some u from h0.trans hu)
  | 1, _ => rw [← Nat.add_assoc]; exact h1.trans hu
  | 2, _ => rw [← Nat.add_assoc]; exact h2.trans hu
  | 3, _ => rw [← Nat.add_assoc]; exact h3.trans hu
  | 4, _ => rw [← Nat.add_assoc]; exact h4.trans hu
/-- a slice of rules. -/
def Sl (w : World) (v : Value) (l : List Rl) : Prop := (v = .slice none 0 0 ∧ l = []) ∨ ∃ a cap, v = .slice (some a) l.length cap ∧ l.length ≤ cap ∧ cap ≤ maxLen ∧ Rul w (some a) l
theorem Sl.open {w : World} {v : Value} {l : List Rl} (h : Sl w v l) : ∃ p cap, v = .slice p l.length cap ∧ Rul w p l := by
  rcases h with ⟨rfl, rfl⟩ | ⟨a, cap, h1, _, _, h2⟩
  · exact ⟨none, 0, rfl, fun i r h => by simp at h⟩
  · exact ⟨_, _, h1, h2⟩
theorem Sl.room {w : World} {p : Option Addr} {n cap : Nat} {l : List Rl} (h : Sl w (.slice p n cap) l) : l.length ≤ cap ∧ cap ≤ maxLen := by
  rcases h with ⟨h1, rfl⟩ | ⟨a, cap', h1, h2, h3, _⟩
  · obtain ⟨_, _, rfl⟩ := Value.slice.inj h1
    exact ⟨Nat.le_refl _, Nat.zero_le _⟩
  · obtain ⟨_, _, rfl⟩ := Value.slice.inj h1
    exact ⟨h2, h3⟩
theorem Sl.keep {w w' : World} {v : Value} {l : List Rl} (h : Sl w v l) (hk : ∀ a v, w.cell? a = some v → w'.cell? a = some v) : Sl w' v l := by
  rcases h with h | ⟨a, cap, h1, m1, m2, h2⟩
  · exact .inl h
  · exact .inr ⟨a, cap, h1, m1, m2, h2.keep hk⟩
theorem Sl.below {w w' : World} {v : Value} {l : List Rl} (h : Sl w v l) (hb : Below w.heap.size w w') : Sl w' v l := h.keep fun _ _ hc => Below.keeps hb hc
theorem Sl.of_own {w : World} {base : Nat} {v : Value} {n : Nat} {l : List Rl} (h : w.ownsRow base 34 5 v n (cellsL l)) : Sl w v l ∧ n = l.length := by
  obtain ⟨hlen, h⟩ := h
  rw [cellsL_len] at hlen
  have hn : n = l.length := by omega
  subst hn
  refine ⟨?_, rfl⟩
  rcases h with ⟨h1, h2⟩ | ⟨g, cap, cur, h1, h2, h3, h4, h5, h6, h7⟩
  · exact .inl ⟨h1, List.length_eq_zero_iff.1 h2⟩
  · refine .inr ⟨_, cap, h1, h4, h5, fun i r hr => ⟨g, 0, rfl, ?_⟩⟩
    have key : ∀ k u, k < 5 → (rlC r)[k]? = some u → w.cell? ⟨g, 0 + i * 5 + k, none⟩ = some u := fun k u hk hu => by
      have h8 : (cellsL l)[i * 5 + k]? = some u := by rw [cellsL_get l i k hk, hr]; exact hu
      rw [← h7, List.getElem?_take] at h8
      split at h8
      · have h9 : cur[i * 5 + k]? = some u := by simpa using h8
        simp [World.cell?, h3, h9]
      · cases h8
    exact ⟨key 0 _ (by omega) rfl, key 1 _ (by omega) rfl, key 2 _ (by omega) rfl, key 3 _ (by omega) rfl, key 4 _ (by omega) rfl⟩
theorem Tryd.infoRl : (Tryd.prog.info? 34).map (fun i => (i.zero, i.size, i.bytes)) = some (some (.agg #[.bool false, .bool false, .int .i64 0, .int .i64 0, .int .i64 0]), 5, 32) := by kernel_rfl

end Go.Proofs.YtjfhompbeengmaaDoor
