/-
  Texts in one: WoU WoV WbA.
-/
import Derived.Test.YtenonidmgpmohaaGreatDoorKm
import Derived.Test.YtenonidmgpmohaaGreatDoorKd
namespace Go.Proofs.YtenonidmgpmohaaGreatDoor
open Go.RowKit

theorem ownsRow_lit0 {w : World} {base : Nat} (e : TypeId) (size : Nat) (hb : base ≤ w.heap.size) : (w.alloc (.cells #[] e)).ownsRow base e size (.slice (some ⟨w.heap.size, 0, none⟩) 0 0) 0 [] :=
  ⟨by simp, .inr ⟨w.heap.size, 0, #[], rfl, hb, heap_alloc_new w _, Nat.le_refl _, by unfold maxLen; omega, by simp, by simp⟩⟩
set_option maxRecDepth 100000 in
set_option maxHeartbeats 2000000 in
theorem clone_ev (p : Option Addr) (n cap : Nat) (xs : List Value) (w : World) (hl : xs.length = n * 2) (hp : p = none → n = 0) (hc : ∀ a, p = some a → ∀ j u, xs[j]? = some u → w.cell? (a.add j) = some u) (h1 : ∀ u ∈ xs, u.oneCell' = true) (hn : n ≤ 1000) :
    Calls Tryz.prog 46 #[.slice p n cap] w fun e w' => (∃ v', e = .returned v' ∧ w'.ownsRow w.heap.size 65 2 v' n xs) ∧ Below w.heap.size w w' := by
  cases p with
  | none =>
    obtain rfl := hp rfl
    have hx : xs = [] := List.length_eq_zero_iff.1 (by omega)
    subst hx
    have he := Lib.run_eql_slice_nil (P := Tryz.prog) w 58 65 none 0 cap 0 0 Tryz.underlying58
    clear hl hp hc h1 hn
    go_enter Tryz.func46, Tryz.ntmps46
    go_wp2_with fail
    go_ret
    exact ⟨⟨_, rfl, ⟨rfl, .inl ⟨rfl, rfl⟩⟩⟩, Below.refl _ _⟩
  | some a =>
    obtain ⟨i0, hi, hz0, hz1, hz2⟩ := info_parts Tryz.infoEv
    have he := Lib.run_eql_slice_nil (P := Tryz.prog) w 58 65 (some a) n cap 0 0 Tryz.underlying58
    have HL : Hid (xs.length = n * 2) := hl
    have HC : Hid (∀ j u, xs[j]? = some u → w.cell? (a.add j) = some u) := hc a rfl
    have H1 : Hid (∀ u ∈ xs, u.oneCell' = true) := h1
    have HN : Hid (n ≤ 1000) := hn
    clear hl hp hc h1 hn
    go_enter Tryz.func46, Tryz.ntmps46
    go_wp2_with (at_builtin; refine wpList_append_own _ rfl _ _ 58 rfl w.heap.size 65 i0 _ 2 16 Tryz.underlying58 hi hz0 hz1 hz2 rfl (by decide) (.slice (some ⟨w.heap.size, 0, none⟩) 0 0) 0 [] rfl ?g0 a n cap xs rfl HL.out ?g1 H1.out (by have := HN.out; unfold maxLen; omega) (by have := HN.out; omega) ?g2 ?g3)
    case g0 => exact ownsRow_lit0 65 2 (Nat.le_refl _)
    case g1 => exact fun j u hj => tk (aB _ _) (HC.out j u hj)
    case g2 => simp
    intro v' w1 hown hgrow _
    have ho : w1.ownsRow w.heap.size 65 2 v' n xs := by simpa using hown
    have HO : Hid (w1.ownsRow w.heap.size 65 2 v' n xs) := ho
    clear ho
    have HG : Hid (Below w.heap.size w w1) := ((Below.refl _ _).alloc (Nat.le_refl _) _).grown hgrow (by simp) (fun j hj => by simp [Value.ownBlock] at hj; omega)
    clear hown hgrow
    obtain ⟨vp, vn, vc, hv⟩ : ∃ vp vn vc, v' = .slice vp vn vc := by
      rcases ownsRow_cases HO.out with ⟨e, _⟩ | ⟨g', c', e, _⟩
      · exact ⟨_, _, _, e⟩
      · exact ⟨_, _, _, e⟩
    subst hv
    go_wp2_with fail
    go_ret
    exact ⟨⟨_, rfl, HO.out⟩, HG.out⟩
set_option maxRecDepth 100000 in
set_option maxHeartbeats 2000000 in
theorem clone_nt (p : Option Addr) (n cap : Nat) (xs : List Value) (w : World) (hl : xs.length = n * 5) (hp : p = none → n = 0) (hc : ∀ a, p = some a → ∀ j u, xs[j]? = some u → w.cell? (a.add j) = some u) (h1 : ∀ u ∈ xs, u.oneCell' = true) (hn : n ≤ 1000) :
    Calls Tryz.prog 44 #[.slice p n cap] w fun e w' => (∃ v', e = .returned v' ∧ w'.ownsRow w.heap.size 78 5 v' n xs) ∧ Below w.heap.size w w' := by
  cases p with
  | none =>
    obtain rfl := hp rfl
    have hx : xs = [] := List.length_eq_zero_iff.1 (by omega)
    subst hx
    have he := Lib.run_eql_slice_nil (P := Tryz.prog) w 56 78 none 0 cap 0 0 Tryz.underlying56
    clear hl hp hc h1 hn
    go_enter Tryz.func44, Tryz.ntmps44
    go_wp2_with fail
    go_ret
    exact ⟨⟨_, rfl, ⟨rfl, .inl ⟨rfl, rfl⟩⟩⟩, Below.refl _ _⟩
  | some a =>
    obtain ⟨i0, hi, hz0, hz1, hz2⟩ := info_parts Tryz.infoNote
    have he := Lib.run_eql_slice_nil (P := Tryz.prog) w 56 78 (some a) n cap 0 0 Tryz.underlying56
    have HL : Hid (xs.length = n * 5) := hl
    have HC : Hid (∀ j u, xs[j]? = some u → w.cell? (a.add j) = some u) := hc a rfl
    have H1 : Hid (∀ u ∈ xs, u.oneCell' = true) := h1
    have HN : Hid (n ≤ 1000) := hn
    clear hl hp hc h1 hn
    go_enter Tryz.func44, Tryz.ntmps44
    go_wp2_with (at_builtin; refine wpList_append_own _ rfl _ _ 56 rfl w.heap.size 78 i0 _ 5 56 Tryz.underlying56 hi hz0 hz1 hz2 rfl (by decide) (.slice (some ⟨w.heap.size, 0, none⟩) 0 0) 0 [] rfl ?g0 a n cap xs rfl HL.out ?g1 H1.out (by have := HN.out; unfold maxLen; omega) (by have := HN.out; omega) ?g2 ?g3)
    case g0 => exact ownsRow_lit0 78 5 (Nat.le_refl _)
    case g1 => exact fun j u hj => tk (aB _ _) (HC.out j u hj)
    case g2 => simp
    intro v' w1 hown hgrow _
    have ho : w1.ownsRow w.heap.size 78 5 v' n xs := by simpa using hown
    have HO : Hid (w1.ownsRow w.heap.size 78 5 v' n xs) := ho
    clear ho
    have HG : Hid (Below w.heap.size w w1) := ((Below.refl _ _).alloc (Nat.le_refl _) _).grown hgrow (by simp) (fun j hj => by simp [Value.ownBlock] at hj; omega)
    clear hown hgrow
    obtain ⟨vp, vn, vc, hv⟩ : ∃ vp vn vc, v' = .slice vp vn vc := by
      rcases ownsRow_cases HO.out with ⟨e, _⟩ | ⟨g', c', e, _⟩
      · exact ⟨_, _, _, e⟩
      · exact ⟨_, _, _, e⟩
    subst hv
    go_wp2_with fail
    go_ret
    exact ⟨⟨_, rfl, HO.out⟩, HG.out⟩
set_option maxRecDepth 100000 in
set_option maxHeartbeats 2000000 in
theorem clone_ce (p : Option Addr) (n cap : Nat) (xs : List Value) (w : World) (hl : xs.length = n * 10) (hp : p = none → n = 0) (hc : ∀ a, p = some a → ∀ j u, xs[j]? = some u → w.cell? (a.add j) = some u) (h1 : ∀ u ∈ xs, u.oneCell' = true) (hn : n ≤ 1000) :
    Calls Tryz.prog 45 #[.slice p n cap] w fun e w' => (∃ v', e = .returned v' ∧ w'.ownsRow w.heap.size 91 10 v' n xs) ∧ Below w.heap.size w w' := by
  cases p with
  | none =>
    obtain rfl := hp rfl
    have hx : xs = [] := List.length_eq_zero_iff.1 (by omega)
    subst hx
    have he := Lib.run_eql_slice_nil (P := Tryz.prog) w 43 91 none 0 cap 0 0 Tryz.underlying43
    clear hl hp hc h1 hn
    go_enter Tryz.func45, Tryz.ntmps45
    go_wp2_with fail
    go_ret
    exact ⟨⟨_, rfl, ⟨rfl, .inl ⟨rfl, rfl⟩⟩⟩, Below.refl _ _⟩
  | some a =>
    obtain ⟨i0, hi, hz0, hz1, hz2⟩ := info_parts Tryz.infoCell
    have he := Lib.run_eql_slice_nil (P := Tryz.prog) w 43 91 (some a) n cap 0 0 Tryz.underlying43
    have HL : Hid (xs.length = n * 10) := hl
    have HC : Hid (∀ j u, xs[j]? = some u → w.cell? (a.add j) = some u) := hc a rfl
    have H1 : Hid (∀ u ∈ xs, u.oneCell' = true) := h1
    have HN : Hid (n ≤ 1000) := hn
    clear hl hp hc h1 hn
    go_enter Tryz.func45, Tryz.ntmps45
    go_wp2_with (at_builtin; refine wpList_append_own _ rfl _ _ 43 rfl w.heap.size 91 i0 _ 10 80 Tryz.underlying43 hi hz0 hz1 hz2 rfl (by decide) (.slice (some ⟨w.heap.size, 0, none⟩) 0 0) 0 [] rfl ?g0 a n cap xs rfl HL.out ?g1 H1.out (by have := HN.out; unfold maxLen; omega) (by have := HN.out; omega) ?g2 ?g3)
    case g0 => exact ownsRow_lit0 91 10 (Nat.le_refl _)
    case g1 => exact fun j u hj => tk (aB _ _) (HC.out j u hj)
    case g2 => simp
    intro v' w1 hown hgrow _
    have ho : w1.ownsRow w.heap.size 91 10 v' n xs := by simpa using hown
    have HO : Hid (w1.ownsRow w.heap.size 91 10 v' n xs) := ho
    clear ho
    have HG : Hid (Below w.heap.size w w1) := ((Below.refl _ _).alloc (Nat.le_refl _) _).grown hgrow (by simp) (fun j hj => by simp [Value.ownBlock] at hj; omega)
    clear hown hgrow
    obtain ⟨vp, vn, vc, hv⟩ : ∃ vp vn vc, v' = .slice vp vn vc := by
      rcases ownsRow_cases HO.out with ⟨e, _⟩ | ⟨g', c', e, _⟩
      · exact ⟨_, _, _, e⟩
      · exact ⟨_, _, _, e⟩
    subst hv
    go_wp2_with fail
    go_ret
    exact ⟨⟨_, rfl, HO.out⟩, HG.out⟩

theorem evC_len (l : List (Int × Int)) : (evC l).length = l.length * 2 := by
  induction l with
  | nil => rfl
  | cons e l ih => rw [show evC (e :: l) = [.int .i64 e.1, .int .i64 e.2] ++ evC l by simp [evC], List.length_append, ih]; simp; omega
theorem evC_one (l : List (Int × Int)) : ∀ u ∈ evC l, u.oneCell' = true := fun u hu => by
  obtain ⟨e, _, he⟩ := List.mem_flatMap.1 hu
  simp only [List.mem_cons, List.not_mem_nil, or_false] at he
  rcases he with rfl | rfl <;> rfl
/-- what claims there were. -/
theorem events_wd {w0 w : World} {K : WK} {x : Wo} {t : Nat} (h : Wd w0 w K x t) :
    Calls Tryz.prog 19 #[.pointer (some ⟨K.wb, 0, none⟩)] w fun e w' => (∃ v', e = .returned v' ∧ w'.ownsRow w.heap.size 65 2 v' x.ev.length (evC x.ev)) ∧ Below w.heap.size w w' := by
  obtain ⟨p, c, hV, hown, htag⟩ := h.evo
  have c8 : w.cell? ⟨K.wb, 8, none⟩ = some (.slice p x.ev.length c) := by have := h.wb.c 8; rw [← hV]; exact this
  have HC : Hid (Calls Tryz.prog 46 #[.slice p x.ev.length c] w fun e w' => (∃ v', e = .returned v' ∧ w'.ownsRow w.heap.size 65 2 v' x.ev.length (evC x.ev)) ∧ Below w.heap.size w w') := by
    refine clone_ev p x.ev.length c (evC x.ev) w (evC_len _) (fun e => ?_) (fun a ea j u hj => ?_) (evC_one _) h.ev.le
    · rcases ownsRow_cases hown with ⟨q, q2⟩ | ⟨g, cc, q, _⟩
      · exact q2
      · rw [e] at q; cases (Value.slice.inj q).1
    · rcases ownsRow_cases hown with ⟨q, q2⟩ | ⟨g, cc, q, _⟩
      · rw [ea] at q; cases (Value.slice.inj q).1
      · subst ea
        have e2 : a = ⟨g, 0, none⟩ := Option.some.inj (Value.slice.inj q).1
        subst e2
        exact hown.cells (g := g) rfl j u hj
  clear h hV hown htag
  go_enter Tryz.func19, Tryz.ntmps19
  go_wp2_with fail
  refine HC.out.mono ?_
  rintro e w1 ⟨⟨v', rfl, ho⟩, hb⟩
  have HO : Hid (w1.ownsRow w.heap.size 65 2 v' x.ev.length (evC x.ev)) := ho
  have HB : Hid (Below w.heap.size w w1) := hb
  clear ho hb
  go_wp2_with fail
  go_ret
  exact ⟨⟨_, rfl, HO.out⟩, HB.out⟩
end Go.Proofs.YtenonidmgpmohaaGreatDoor

namespace Go.Proofs.YtenonidmgpmohaaGreatDoor
open Go.RowKit

def tcX (l : List Tc) : List Value := l.flatMap tcC
theorem tcX_len (l : List Tc) : (tcX l).length = l.length * 10 := by
  induction l with
  | nil => rfl
  | cons x l ih => rw [show tcX (x :: l) = tcC x ++ tcX l by simp [tcX], List.length_append, ih]; simp [tcC]; omega
theorem tcX_one (l : List Tc) : ∀ u ∈ tcX l, u.oneCell' = true := fun u hu => by
  obtain ⟨x, _, hx⟩ := List.mem_flatMap.1 hu
  simp only [tcC, List.mem_cons, List.not_mem_nil, or_false] at hx
  rcases hx with rfl | rfl | rfl | rfl | rfl | rfl | rfl | rfl | rfl | rfl <;> rfl
theorem tcX_get : ∀ (l : List Tc) (i k : Nat), k < 10 → (tcX l)[i * 10 + k]? = (l[i]?).bind (fun x => (tcC x)[k]?)
  | [], _, _, _ => by simp [tcX]
  | x :: l, i, k, hk => by
    rw [show tcX (x :: l) = tcC x ++ tcX l by simp [tcX]]
    have hx : (tcC x).length = 10 := rfl
    cases i with
    | zero => rw [List.getElem?_append_left (by omega)]; simp
    | succ i =>
      rw [List.getElem?_append_right (by omega), show (i + 1) * 10 + k - (tcC x).length = i * 10 + k by omega, tcX_get l i k hk]
      simp
theorem TcAt.get {w : World} {b o : Nat} {x : Tc} (h : TcAt w b o x) {k : Nat} {u : Value} (hk : (tcC x)[k]? = some u) : w.cell? ⟨b, o + k, none⟩ = some u := by
  match k, hk with
  | 0, hk => cases hk; exact h.c0
  | 1, hk => cases hk; exact h.c1
  | 2, hk => cases hk; exact h.c2
  | 3, hk => cases hk; exact h.c3
  | 4, hk => cases hk; exact h.c4
  | 5, hk => cases hk; exact h.c5
  | 6, hk => cases hk; exact h.c6
  | 7, hk => cases hk; exact h.c7
  | 8, hk => cases hk; exact h.c8
  | 9, hk => cases hk; exact h.c9
theorem TcR.cellsX {w : World} {a : Addr} {l : List Tc} (h : TcR w (some a) l) : ∀ j u, (tcX l)[j]? = some u → w.cell? (a.add j) = some u := fun j u hj => by
  have e : j = j / 10 * 10 + j % 10 := by omega
  rw [e, tcX_get l (j / 10) (j % 10) (by omega)] at hj
  obtain ⟨x, hx, hu⟩ := Option.bind_eq_some_iff.1 hj
  obtain ⟨b, o, ea, q⟩ := h _ x hx
  cases ea
  rw [addr_addW, show o + j = o + j / 10 * 10 + j % 10 by omega]
  exact q.get hu
theorem TcR.of_own {w : World} {base n : Nat} {v : Value} {l : List Tc} (h : w.ownsRow base 91 10 v n (tcX l)) (hn : n = l.length) : ∃ p cap, v = .slice p l.length cap ∧ TcR w p l ∧ (∀ b o, p = some ⟨b, o, none⟩ → base ≤ b ∧ b < w.heap.size) := by
  subst hn
  rcases ownsRow_cases h with ⟨e, e0⟩ | ⟨g, cap, e, q1, q2, _⟩
  · have hl : l = [] := List.length_eq_zero_iff.1 e0
    subst hl
    exact ⟨none, 0, e, fun i x hx => by simp at hx, fun b o hb => by cases hb⟩
  · refine ⟨some ⟨g, 0, none⟩, cap, e, fun i x hx => ⟨g, 0, rfl, ?_⟩, fun b o hb => by cases hb; exact ⟨q1, q2⟩⟩
    have key : ∀ k u, (tcC x)[k]? = some u → w.cell? ⟨g, 0 + i * 10 + k, none⟩ = some u := fun k u hk => by
      have hk10 : k < 10 := (List.getElem?_eq_some_iff.1 hk).1
      have := h.cells (g := g) (by rw [e]; rfl) (i * 10 + k) u (by rw [tcX_get l i k hk10, hx]; exact hk)
      rw [addr_addW] at this
      rw [show 0 + i * 10 + k = 0 + (i * 10 + k) by omega]
      exact this
    exact ⟨key 0 _ rfl, key 1 _ rfl, key 2 _ rfl, key 3 _ rfl, key 4 _ rfl, key 5 _ rfl, key 6 _ rfl, key 7 _ rfl, key 8 _ rfl, key 9 _ rfl⟩
/-- a note's cells, not in this block. -/
def NtC (w : World) (g : Nat) (t : Nf) (v : Value) : Prop := ∃ p cap, v = .slice p t.cs.length cap ∧ TcR w p t.cs ∧ (∀ b o, p = some ⟨b, o, none⟩ → b ≠ g) ∧ t.cs.length ≤ 8
theorem NtC.below {w w' : World} {g : Nat} {t : Nf} {v : Value} (h : NtC w g t v) (b : Below w.heap.size w w') : NtC w' g t v := by
  obtain ⟨p, cap, e, R, r⟩ := h
  exact ⟨p, cap, e, R.below b, r⟩
theorem TcR.chgB {w w' : World} {g : Nat} {p : Option Addr} {l : List Tc} (h : TcR w p l) (c : Chg g w w') (hp : ∀ b o, p = some ⟨b, o, none⟩ → b ≠ g) : TcR w' p l := fun i x hx => by
  obtain ⟨b, o, e, q⟩ := h i x hx
  have hb := hp b o e
  exact ⟨b, o, e, ⟨c.keeps hb q.c0, c.keeps hb q.c1, c.keeps hb q.c2, c.keeps hb q.c3, c.keeps hb q.c4, c.keeps hb q.c5, c.keeps hb q.c6, c.keeps hb q.c7, c.keeps hb q.c8, c.keeps hb q.c9⟩⟩
theorem NtC.chg {w w' : World} {g : Nat} {t : Nf} {v : Value} (h : NtC w g t v) (c : Chg g w w') : NtC w' g t v := by
  obtain ⟨p, cap, e, R, r⟩ := h
  exact ⟨p, cap, e, R.chgB c r.1, r⟩
theorem Five.set {r : List Value} (h : Five r) {v : Value} (hv : v.oneCell' = true) (k : Nat) : Five (r.set k v) := by
  refine ⟨by rw [List.length_set]; exact h.1, fun u hu => ?_⟩
  rcases List.mem_or_eq_of_mem_set hu with q | q
  · exact h.2 u q
  · rw [q]; exact hv
theorem nfR_set {l : List Nf} {cv : List Value} (h : cv.length = l.length) {j : Nat} {t : Nf} (ht : l[j]? = some t) (v : Value) : nfR l (cv.set j v) = (nfR l cv).set j (nfC t v) := by
  refine List.ext_getElem? fun i => ?_
  unfold nfR
  rw [List.getElem?_zipWith]
  by_cases hi : i = j
  · subst hi
    have hj : i < l.length := (List.getElem?_eq_some_iff.1 ht).1
    rw [List.getElem?_set_self (by omega), List.getElem?_set_self (by simp; omega), ht]
  · rw [List.getElem?_set_ne (by omega), List.getElem?_set_ne (by omega), List.getElem?_zipWith]
theorem RwB.set4 {w : World} {g c : Nat} {R : List (List Value)} {cur : Array Value} (h : RwB w g c R cur) {j : Nat} {r : List Value} (hr : R[j]? = some r) {v : Value} (hv : v.oneCell' = true) : RwB (w.setCell ⟨g, j * 5 + 4, none⟩ v) g c (R.set j (r.set 4 v)) (cur.setIfInBounds (j * 5 + 4) v) := by
  have hj : j < R.length := (List.getElem?_eq_some_iff.1 hr).1
  have h5 := h.ok r (List.mem_of_getElem? hr)
  refine ⟨heap_setCell_same w g _ _ _ _ h.h, by rw [Array.size_setIfInBounds]; exact h.sz, by rw [List.length_set]; exact h.le, fun i q k hq hk => ?_, fun q hq => ?_⟩
  · rw [Array.getElem?_setIfInBounds]
    by_cases hi : i = j
    · subst hi
      rw [List.getElem?_set_self hj] at hq
      cases hq
      by_cases hk4 : k = 4
      · subst hk4
        have hs := h.sz
        have hle := h.le
        rw [if_pos rfl, if_pos (by omega), List.getElem?_set_self (by rw [h5.1]; omega)]
      · rw [if_neg (by omega), List.getElem?_set_ne (by omega)]
        exact h.at' i r k hr hk
    · rw [List.getElem?_set_ne (by omega)] at hq
      rw [if_neg (by omega)]
      exact h.at' i q k hq hk
  · rcases List.mem_or_eq_of_mem_set hq with e | e
    · exact h.ok q e
    · rw [e]; exact h5.set hv 4
/-- what the loop knows. -/
structure FlyR (w wr : World) (g c' : Nat) (l : List Nf) (cvs : List Value) (cu : Array Value) : Prop where
  len : cvs.length = l.length
  rw : RwB wr g c' (nfR l cvs) cu
  nc : ∀ (i : Nat) t u, l[i]? = some t → cvs[i]? = some u → NtC wr g t u
  bl : Below w.heap.size w wr
  gl : g < wr.heap.size
theorem FlyR.step {w wr w2 : World} {g c' j cap cap2 : Nat} {l : List Nf} {cvs : List Value} {cu : Array Value} {tt : Nf} {p p2 : Option Addr} (h : FlyR w wr g c' l cvs cu) (hg : w.heap.size ≤ g) (htt : l[j]? = some tt) (hu : cvs[j]? = some (.slice p tt.cs.length cap)) (b2 : Below wr.heap.size wr w2) (hT : TcR w2 p2 tt.cs) (hp : ∀ b o, p2 = some ⟨b, o, none⟩ → wr.heap.size ≤ b) (h8 : tt.cs.length ≤ 8) :
    FlyR w (w2.setCell ⟨g, j * 5 + 4, none⟩ (.slice p2 tt.cs.length cap2)) g c' l (cvs.set j (.slice p2 tt.cs.length cap2)) (cu.setIfInBounds (j * 5 + 4) (.slice p2 tt.cs.length cap2)) := by
  have hlt : j < l.length := (List.getElem?_eq_some_iff.1 htt).1
  have hgl := h.gl
  have RW2 : RwB w2 g c' (nfR l cvs) cu := h.rw.kept (b2.block _ h.gl)
  have g3 : Chg g w2 (w2.setCell ⟨g, j * 5 + 4, none⟩ (.slice p2 tt.cs.length cap2)) := Chg.set _ _ _ _
  have rw3 := RW2.set4 (nfR_get htt hu) (v := .slice p2 tt.cs.length cap2) rfl
  have e3 : (nfR l cvs).set j ((nfC tt (.slice p tt.cs.length cap)).set 4 (.slice p2 tt.cs.length cap2)) = nfR l (cvs.set j (.slice p2 tt.cs.length cap2)) := by rw [nfR_set h.len htt]; rfl
  rw [e3] at rw3
  refine ⟨by rw [List.length_set]; exact h.len, rw3, fun i t' u' h1 h2 => ?_, Chg.below (t2 h.bl b2) g3 hg, by have := b2.size; have := g3.size; omega⟩
  by_cases hi : i = j
  · subst hi
    rw [List.getElem?_set_self (by rw [h.len]; exact hlt)] at h2
    cases h2
    have e4 : t' = tt := by rw [htt] at h1; cases h1; rfl
    subst e4
    exact ⟨p2, cap2, rfl, hT.chgB g3 (fun b o e => by have := hp b o e; omega), fun b o e => by have := hp b o e; omega, h8⟩
  · rw [List.getElem?_set_ne (by omega)] at h2
    exact ((h.nc i t' u' h1 h2).below b2).chg g3
/-- notes in a slice of one's own. -/
structure NtsO (w : World) (base : Nat) (l : List Nf) (v : Value) (cvs : List Value) : Prop where
  len : cvs.length = l.length
  own : w.ownsRow base 78 5 v l.length (nfR l cvs).flatten
  five : ∀ r ∈ nfR l cvs, Five r
  ok : ∀ (i : Nat) t u, l[i]? = some t → cvs[i]? = some u → ∃ g, v.ownBlock = some g ∧ NtC w g t u
set_option maxRecDepth 100000 in
set_option maxHeartbeats 4000000 in
theorem flying_wd {w0 w : World} {K : WK} {x : Wo} {t : Nat} (h : Wd w0 w K x t) :
    Calls Tryz.prog 18 #[.pointer (some ⟨K.wb, 0, none⟩)] w fun e w' => (∃ v cvs, e = .returned v ∧ NtsO w' w.heap.size x.fl v cvs) ∧ Below w.heap.size w w' := by
  obtain ⟨p, c, hV, hown, htag⟩ := h.flo
  have hfive : ∀ r ∈ nfR x.fl K.cv, Five r := nfR_five h.fl.ok
  have c7 : w.cell? ⟨K.wb, 7, none⟩ = some (.slice p x.fl.length c) := by have := h.wb.c 7; rw [← hV]; exact this
  have HC : Hid (Calls Tryz.prog 44 #[.slice p x.fl.length c] w fun e w' => (∃ v', e = .returned v' ∧ w'.ownsRow w.heap.size 78 5 v' x.fl.length (nfR x.fl K.cv).flatten) ∧ Below w.heap.size w w') := by
    refine clone_nt p x.fl.length c (nfR x.fl K.cv).flatten w (by rw [flat_len hfive, nfR_len h.fl.len]) (fun e => ?_) (fun a ea j u hj => ?_) (flat_one hfive) (by have := h.fl.le; omega)
    · rcases ownsRow_cases hown with ⟨q, q2⟩ | ⟨g, cc, q, _⟩
      · exact q2
      · rw [e] at q; cases (Value.slice.inj q).1
    · rcases ownsRow_cases hown with ⟨q, q2⟩ | ⟨g, cc, q, _⟩
      · rw [ea] at q; cases (Value.slice.inj q).1
      · subst ea
        have e2 : a = ⟨g, 0, none⟩ := Option.some.inj (Value.slice.inj q).1
        subst e2
        exact hown.cells (g := g) rfl j u hj
  have HW : Hid (Wd w0 w K x t) := h
  have HF : Hid (∀ r ∈ nfR x.fl K.cv, Five r) := hfive
  clear h hV hown htag hfive
  go_enter Tryz.func18, Tryz.ntmps18
  go_wp2_with fail
  refine HC.out.mono ?_
  rintro e w1 ⟨⟨v', rfl, ho⟩, hb⟩
  have HO : Hid (w1.ownsRow w.heap.size 78 5 v' x.fl.length (nfR x.fl K.cv).flatten) := ho
  have HB : Hid (Below w.heap.size w w1) := hb
  clear hb c7 HC
  rcases ownsRow_cases ho with ⟨rfl, e0⟩ | ⟨g, c', rfl, hg0, hg1, hg2, hg3⟩
  · have hx0 : x.fl = [] := List.length_eq_zero_iff.1 e0
    have HX : Hid (x.fl = [] ∧ K.cv = []) := ⟨hx0, List.length_eq_zero_iff.1 (by rw [HW.out.fl.len]; exact e0)⟩
    clear ho e0 hx0
    go_wp2_with fail
    go_loopw [4, 12] (fun _ tv wr => tv = .int .i64 0 ∧ wr = w1) (fun _ _ _ => 0)
    case atStart => exact ⟨rfl, rfl⟩
    case round =>
      obtain ⟨rfl, rfl⟩ := hrel
      go_wp2_with fail
      go_ret
      refine ⟨⟨_, [], rfl, ⟨by rw [HX.out.1]; rfl, ?_, ?_, ?_⟩⟩, HB.out⟩
      · rw [HX.out.1]; exact ⟨rfl, .inl ⟨rfl, rfl⟩⟩
      · rw [HX.out.1]; simp [nfR]
      · rw [HX.out.1]; intro i t u ht; simp at ht
  · have HG : Hid (w.heap.size ≤ g ∧ g < w1.heap.size ∧ x.fl.length ≤ c' ∧ c' ≤ maxLen) := ⟨hg0, hg1, hg2, hg3⟩
    obtain ⟨cur, RR⟩ := RwB.of_own ho HF.out (nfR_len HW.out.fl.len)
    have HR : Hid (RwB w1 g c' (nfR x.fl K.cv) cur) := RR
    have HNC : Hid (∀ (i : Nat) t u, x.fl[i]? = some t → K.cv[i]? = some u → NtC w1 g t u) := fun i tt u h1 h2 => by
      obtain ⟨⟨p, cap, e, R, ht⟩, hl8, _⟩ := HW.out.fl.ok i tt u h1 h2
      refine ⟨p, cap, e, R.below HB.out, fun b o eb q => ?_, hl8⟩
      have := ht b o eb
      have := HW.out.lt (b := b) (by omega)
      omega
    have HLE : Hid (x.fl.length ≤ 200) := HW.out.fl.le
    clear ho hg0 hg1 hg2 hg3 RR
    go_wp2_with fail
    go_loopw [4, 12] (fun _ tv wr => ∃ j : Nat, j ≤ x.fl.length ∧ tv = .int .i64 j ∧ ∃ cvs cu, FlyR w wr g c' x.fl cvs cu) (fun _ tv _ => x.fl.length - (intOf tv).toNat)
    case atStart => exact ⟨0, by omega, rfl, K.cv, cur, HW.out.fl.len, HR.out, HNC.out, HB.out, HG.out.2.1⟩
    case round =>
      obtain ⟨j, hj, rfl, cvs, cu, hfr⟩ := hrel
      have FR : Hid (FlyR w wr g c' x.fl cvs cu) := hfr
      have hle := HLE.out
      clear hfr HR HNC
      by_cases hlt : j < x.fl.length
      · obtain ⟨tt, htt⟩ : ∃ tt, x.fl[j]? = some tt := ⟨x.fl[j], List.getElem?_eq_getElem hlt⟩
        obtain ⟨u, hu⟩ : ∃ u, cvs[j]? = some u := ⟨cvs[j]'(by rw [FR.out.len]; exact hlt), List.getElem?_eq_getElem _⟩
        obtain ⟨p, cap, rfl, hT, hpg, hl8⟩ := FR.out.nc j tt u htt hu
        have HTR : Hid (TcR wr p tt.cs) := hT
        have HTT : Hid (x.fl[j]? = some tt ∧ cvs[j]? = some (.slice p tt.cs.length cap)) := ⟨htt, hu⟩
        have hr := nfR_get htt hu
        have r4 : wr.cell? ⟨g, j * 5 + 4, none⟩ = some (.slice p tt.cs.length cap) := FR.out.rw.cell hr (by omega)
        have HCC : Hid (Calls Tryz.prog 45 #[.slice p tt.cs.length cap] wr fun e w' => (∃ v', e = .returned v' ∧ w'.ownsRow wr.heap.size 91 10 v' tt.cs.length (tcX tt.cs)) ∧ Below wr.heap.size wr w') := by
          refine clone_ce p tt.cs.length cap (tcX tt.cs) wr (tcX_len _) (fun e => ?_) (fun a ea => by subst ea; exact hT.cellsX) (tcX_one _) (by omega)
          cases hcs : tt.cs with
          | nil => rfl
          | cons q qs =>
            obtain ⟨b, o, e2, _⟩ := hT 0 q (by rw [hcs]; rfl)
            rw [e] at e2
            cases e2
        have HL8 : Hid (tt.cs.length ≤ 8) := hl8
        have j0 : (0 : Int) ≤ (j : Int) := by omega
        have j1 : (j : Int) < (x.fl.length : Int) := by omega
        clear hT hpg hl8 htt hu hr
        go_wp2_with fail
        refine HCC.out.mono ?_
        rintro e w2 ⟨⟨v2, rfl, ho2⟩, hb2⟩
        obtain ⟨p2, cap2, rfl, hT2, hp2⟩ := TcR.of_own ho2 rfl
        have F2 : Hid (FlyR w (w2.setCell ⟨g, j * 5 + 4, none⟩ (.slice p2 tt.cs.length cap2)) g c' x.fl (cvs.set j (.slice p2 tt.cs.length cap2)) (cu.setIfInBounds (j * 5 + 4) (.slice p2 tt.cs.length cap2))) := FR.out.step HG.out.1 HTT.out.1 HTT.out.2 hb2 hT2 (fun b o e => (hp2 b o e).1) HL8.out
        have r42 := tk hb2 r4
        have f42 : w2.frozen? ⟨g, j * 5 + 4, none⟩ = false := frozen_of_row w2 g (j * 5 + 4) _ _ (FR.out.rw.kept (hb2.block _ FR.out.gl)).h
        clear ho2 hb2 hT2 hp2 r4 HCC
        go_wp2_with fail
        exact ⟨⟨j + 1, by omega, by go_num, _, _, F2.out⟩, by simp [intOf]; omega⟩
      · obtain rfl : j = x.fl.length := by omega
        go_wp2_with fail
        go_ret
        have own := FR.out.rw.own (base := w.heap.size) HG.out.2.2.2 HG.out.1
        rw [nfR_len FR.out.len] at own
        exact ⟨⟨_, cvs, rfl, ⟨FR.out.len, own, FR.out.rw.ok, fun i tt u h1 h2 => ⟨g, rfl, FR.out.nc i tt u h1 h2⟩⟩⟩, FR.out.bl⟩
end Go.Proofs.YtenonidmgpmohaaGreatDoor

namespace Go.Proofs.YtenonidmgpmohaaGreatDoor
open Go.RowKit

theorem tk1_same (y : No) : y.tk1.now = y.now + 1 ∧ y.tk1.life = y.life ∧ y.tk1.D = y.D := by
  unfold No.tk1 No.clm
  repeat' split
  all_goals exact ⟨rfl, rfl, rfl⟩
theorem new_y (id : Nat) (y : By) (l : List Rl) : (No.new id y l).y = yNew y := rfl
theorem oned0 : new0.oned = new0 := rfl
/-- behind j ticks of node f of a new world. -/
structure Ph (l : List Rl) (f j : Nat) (W : Wo) : Prop where
  hf : f < 2
  nd : ∃ x, W.nd f = some x ∧ Qn f 0 1 (yNew new0) j x ∧ x.ru = l ∧ x.D = fun _ => 0
  ot : W.nd (1 - f) = some (No.new (1 - f) new0.oned l)
  sw : W.he = 0 ∧ W.hn = 0
  fl : W.fl = if j ≤ 9 then [] else [⟨f, 1, 2 - f, true, []⟩]
  ev : W.ev = if j ≤ 9 then [] else [((f : Int), 2 - (f : Int))]
  ru : W.ru = l
theorem Ph.zero (l : List Rl) {f : Nat} (hf : f < 2) : Ph l f 0 (Wo.born l) := by
  have q : Qn f 0 1 (yNew new0) 0 (No.new f new0.oned l) := by
    have := Qn.new (id := f) (y := new0.oned) (l := l)
    have e : newest new0.oned.B = ⟨0, 0, 0⟩ := Beg.zero.nw
    have e2 : yNew new0.oned = yNew new0 := by rw [oned0]
    rw [e, new_y, e2] at this
    exact this
  refine ⟨hf, ⟨No.new f new0.oned l, ?_, q, rfl, rfl⟩, ?_, ⟨rfl, rfl⟩, rfl, rfl, rfl⟩
  · show (if f < 2 then some (No.new f new0.oned l) else none) = _
    rw [if_pos hf]
  · show (if 1 - f < 2 then some (No.new (1 - f) new0.oned l) else none) = _
    rw [if_pos (by omega)]
theorem beg_one : Beg (yNew new0) 1 0 1 := ⟨Beg.zero.new.2.1, Beg.zero.new.2.2, by omega, by omega, by omega⟩
theorem nx_zero {f : Nat} (hf : f < 2) : (Ro.new f 0).nx = 2 - (f : Int) := by
  rcases two_cases hf with rfl | rfl <;> rfl
theorem put_zero {f : Nat} (hf : f < 2) : (putE false (yNew new0) (Ro.new f ((0 : Nat) : Int)).nx ((1 : Nat) : Int)).1 = 0 := by
  have e : (Ro.new f ((0 : Nat) : Int)).nx = ((2 - f : Nat) : Int) := by
    have := nx_zero hf
    rw [show ((0 : Nat) : Int) = 0 from rfl, this]
    omega
  rw [e]
  exact (beg_one.put (ep := 2 - f) (li := 1) (by omega) (by omega) (by omega) (by omega)).1
theorem Ph.tick {l : List Rl} {f j : Nat} {W : Wo} (h : Ph l f j W) (hj : j ≤ 9) : (∀ (i : Nat) y, (f : Int) = i → W.nd i = some y → y.tkE = 0 ∨ y.tkE = 7) ∧ W.tcE (f : Int) = 0 ∧ Ph l f (j + 1) (W.tcd (f : Int)) := by
  obtain ⟨x, hx, q, hru, hD⟩ := h.nd
  obtain ⟨hE, q'⟩ := q.tick (by omega) (put_zero h.hf)
  have hf := h.hf
  have hup : W.upE (f : Int) = 0 := by unfold Wo.upE; rw [if_pos (by omega), Int.toNat_natCast, hx]; rfl
  refine ⟨fun i y e hy => .inl (by have e2 : f = i := by omega
                                   subst e2; rw [hx] at hy; cases hy; exact hE), by unfold Wo.tcE; rw [if_pos hup, Int.toNat_natCast, hx]; exact hE, ?_⟩
  have htcd : W.tcd (f : Int) = W.ticked f x := by unfold Wo.tcd; rw [if_pos hup, Int.toNat_natCast, hx]
  rw [htcd]
  have sm := tick_same x
  have hxa : x.ro.ac = false := by rw [q.ro]; unfold roQ; rw [if_pos hj]
  have hT1 := sm.2.2.2.2.2
  have hnow : x.tk1.now = ((j + 1 : Nat) : Int) := by rw [(tk1_same x).1, q.now]; omega
  by_cases h9 : j = 9
  · subst h9
    have hro : x.tick.ro = ⟨f, 2 - (f : Int), 10, true⟩ := by
      rw [q'.ro]
      unfold roQ
      rw [if_neg (by omega)]
      have := nx_zero hf
      rw [show ((0 : Nat) : Int) = 0 from rfl, this]
    have hD' : x.tick.D = fun _ => 0 := by
      have hd : x.tk1.due = false := by unfold No.due; rw [hnow]; decide
      unfold No.tick No.noted
      rw [if_pos hE, hd, Bool.and_false]
      exact (tk1_same x).2.2.trans hD
    have hL : x.tickL = [⟨true, []⟩] := by
      unfold No.tickL No.notes
      rw [if_pos hE, ← hT1, hro, hxa]
      have hd : x.tk1.due = false := by unfold No.due; rw [hnow]; decide
      rw [hd]
      rfl
    have hfly : x.tickL.map x.tk1.fly = [⟨f, 1, 2 - (f : Int), true, []⟩] := by
      rw [hL]
      show [x.tk1.fly ⟨true, []⟩] = _
      unfold No.fly
      rw [sm.2.2.2.2.1, q.ii, (tk1_same x).2.1, q.li, ← hT1, hro]
      rfl
    have ht : W.ticked f x = (({ W with nd := setN W.nd f (some x.tick) } : Wo).noted ((f : Int), 2 - (f : Int))).sent [⟨f, 1, 2 - (f : Int), true, []⟩] := by
      unfold Wo.ticked
      rw [if_pos hE, hxa, hro, hfly]
      rfl
    rw [ht]
    have hev0 : W.ev = [] := by rw [h.ev, if_pos (by omega)]
    have hfl0 : W.fl = [] := by rw [h.fl, if_pos (by omega)]
    refine ⟨hf, ⟨x.tick, setN_same _ _ _, q', sm.1.trans hru, hD'⟩, ?_, h.sw, ?_, ?_, h.ru⟩
    · show setN W.nd f (some x.tick) (1 - f) = _
      rw [setN_other _ _ (by omega)]
      exact h.ot
    · show W.fl ++ List.take (200 - W.fl.length) _ = _
      rw [hfl0, if_neg (by omega)]
      rfl
    · show (if W.ev.length < 1000 then W.ev ++ [((f : Int), 2 - (f : Int))] else W.ev) = _
      rw [hev0, if_neg (show ¬ 9 + 1 ≤ 9 by omega)]
      rfl
  · have hro : x.tick.ro = ⟨f, ((0 : Nat) : Int), ((j + 1 : Nat) : Int), false⟩ := by
      rw [q'.ro]
      unfold roQ
      rw [if_pos (by omega)]
    have hD' : x.tick.D = fun _ => 0 := by
      have ha : x.tk1.ro.ac = false := by rw [← hT1, hro]
      unfold No.tick No.noted
      rw [if_pos hE, ha, Bool.false_and]
      exact (tk1_same x).2.2.trans hD
    have hL : x.tickL = [] := by
      unfold No.tickL No.notes
      rw [if_pos hE, ← hT1, hro]
      rfl
    have ht : W.ticked f x = ({ W with nd := setN W.nd f (some x.tick) } : Wo).sent [] := by
      unfold Wo.ticked
      rw [if_pos hE, hxa, hro, hL]
      rfl
    rw [ht]
    refine ⟨hf, ⟨x.tick, setN_same _ _ _, q', sm.1.trans hru, hD'⟩, ?_, h.sw, ?_, ?_, h.ru⟩
    · show setN W.nd f (some x.tick) (1 - f) = _
      rw [setN_other _ _ (by omega)]
      exact h.ot
    · show W.fl ++ List.take (200 - W.fl.length) [] = _
      rw [h.fl, if_pos hj, if_pos (show j + 1 ≤ 9 by omega)]
      rfl
    · show W.ev = _
      rw [h.ev, if_pos hj, if_pos (by omega)]
/-- the switch hears the first one's claim. -/
theorem Ph.deliver {l : List Rl} {f : Nat} {W : Wo} (h : Ph l f 10 W) : W.flE 0 = 0 ∧ (W.dlv 0).hn = f ∧ (W.dlv 0).he = 2 - (f : Int) ∧ (W.dlv 0).fl = [] ∧ (W.dlv 0).ev = [((f : Int), 2 - (f : Int))] ∧ (W.dlv 0).nd = W.nd ∧ (W.dlv 0).ru = W.ru := by
  have hfl : W.fl = [⟨f, 1, 2 - (f : Int), true, []⟩] := by rw [h.fl, if_neg (by omega)]
  have hev : W.ev = [((f : Int), 2 - (f : Int))] := by rw [h.ev, if_neg (by omega)]
  have hf := h.hf
  have e0 : W.flE 0 = 0 := by unfold Wo.flE; rw [hfl, if_pos (by simp)]
  have e1 : W.dlv 0 = (W.landed 0).heard ⟨f, 1, 2 - (f : Int), true, []⟩ := by
    unfold Wo.dlv
    rw [if_pos e0, hfl]
    rfl
  have e2 : W.dlv 0 = { W.landed 0 with hn := (f : Int), he := 2 - (f : Int) } := by
    rw [e1]
    unfold Wo.heard
    rw [if_pos (by show W.he < 2 - (f : Int); rw [h.sw.1]; omega)]
  rw [e2]
  exact ⟨e0, rfl, rfl, by show W.fl.eraseIdx 0 = []; rw [hfl]; rfl, hev, rfl, rfl⟩
set_option maxRecDepth 100000 in
set_option maxHeartbeats 4000000 in
theorem born_any {w : World} {s : Nat → Addr} (S : SeM w s) : Calls Tryz.prog 4 #[] w fun e w' => e = .returned (.bool true) ∧ Below w.heap.size w w' := by
  have HS : Hid (SeM w s) := S
  clear S
  go_enter Tryz.func4, Tryz.ntmps4
  go_wp2_with fail
  refine (new_wd HS.out (.slice none 0 0) [] (Sl.nil w) (fun a n c e => by cases e) (by simp)).mono ?_
  rintro e w1 hcase
  rcases hcase with ⟨_, K, rfl, wd, _⟩ | ⟨hno, _⟩
  rotate_left
  · exact absurd RulesOk.nil hno
  have W1 : Hid (Wd w w1 K (Wo.born []) 0) := wd
  clear wd
  go_wp2_with fail
  go_loopw [3, 16, 17, 18, 19, 20, 21, 22] (fun t3 _ _ _ _ _ _ _ wr => ∃ j : Nat, j ≤ 10 ∧ t3 = .int .i64 j ∧ ∃ K' W, Wd w wr K' W j ∧ Ph [] 0 j W ∧ K'.wb = K.wb) (fun t3 _ _ _ _ _ _ _ _ => 10 - (intOf t3).toNat)
  case atStart => exact ⟨0, by omega, rfl, K, Wo.born [], W1.out, Ph.zero [] (by omega), rfl⟩
  case round =>
    obtain ⟨j, hj, rfl, K', W, wd, ph, hwb⟩ := hrel
    have WR : Hid (Wd w wr K' W j) := wd
    have PH : Hid (Ph [] 0 j W) := ph
    have HWB : Hid (K'.wb = K.wb) := hwb
    clear wd ph hwb W1
    by_cases hlt : j < 10
    · have j9 : (j : Int) ≤ 9 := by omega
      have HJ : Hid (j ≤ 9) := (by omega : j ≤ 9)
      go_wp2_with fail
      have htk := PH.out.tick HJ.out
      have hcall := tick_wd HS.out WR.out (by have := HJ.out; omega) ((0 : Nat) : Int) htk.1
      rw [HWB.out, htk.2.1] at hcall
      refine hcall.mono ?_
      have P2 : Hid (Ph [] 0 (j + 1) (W.tcd ((0 : Nat) : Int))) := htk.2.2
      clear hcall htk
      rintro e w4 ⟨rfl, K4, wd4, mv4⟩
      have W4 : Hid (Wd w w4 K4 (W.tcd ((0 : Nat) : Int)) (j + 1) ∧ K4.wb = K.wb) := ⟨wd4, mv4.wb.trans HWB.out⟩
      clear wd4 mv4
      simp only [terr]
      go_wp2_with fail
      exact ⟨⟨j + 1, by omega, by go_num, K4, _, W4.out.1, P2.out, W4.out.2⟩, by simp [intOf]; omega⟩
    · obtain rfl : j = 10 := by omega
      have hsw := switch_any WR.out.wb
      rw [HWB.out, if_pos PH.out.sw.1] at hsw
      have HSW : Hid (Calls Tryz.prog 17 #[.pointer (some ⟨K.wb, 0, none⟩)] wr fun e w' => e = .returned (.tuple #[.int .i64 (-1), .int .i64 0]) ∧ Below wr.heap.size wr w') := hsw
      clear hsw
      go_wp2_with fail
      refine HSW.out.mono ?_
      rintro e w2 ⟨rfl, hb2⟩
      have B2 : Hid (Below wr.heap.size wr w2) := hb2
      have W2 : Hid (Wd w w2 K' W 10) := WR.out.below hb2
      have hfy := flying_wd W2.out
      rw [HWB.out] at hfy
      have HFY : Hid (Calls Tryz.prog 18 #[.pointer (some ⟨K.wb, 0, none⟩)] w2 fun e w' => (∃ v cvs, e = .returned v ∧ NtsO w' w2.heap.size W.fl v cvs) ∧ Below w2.heap.size w2 w') := hfy
      clear hb2 hfy HSW
      go_wp2_with fail
      refine HFY.out.mono ?_
      rintro e w3 ⟨⟨v, cvs, rfl, hnt⟩, hb3⟩
      have hl1 : W.fl.length = 1 := by rw [PH.out.fl, if_neg (by omega)]; rfl
      obtain ⟨vp, vc, hv⟩ : ∃ vp vc, v = .slice vp 1 vc := by
        have := ownsRow_cases hnt.own
        rw [hl1] at this
        rcases this with ⟨_, q⟩ | ⟨g, c, e, _⟩
        · omega
        · exact ⟨_, _, e⟩
      subst hv
      have W3 : Hid (Wd w w3 K' W 10) := W2.out.below hb3
      clear hnt hb3 hl1 HFY
      have hdl := deliver_wd HS.out W3.out 0
      rw [HWB.out, PH.out.deliver.1] at hdl
      have HDL : Hid (Calls Tryz.prog 10 #[.pointer (some ⟨K.wb, 0, none⟩), .int .i64 0] w3 fun e w' => e = .returned (terr s 0) ∧ ∃ K', Wd w w' K' (W.dlv 0) 10 ∧ Mv K' K' w' w' ∧ K'.wb = K.wb) := hdl.mono fun e w' ⟨he, K2, wd2, mv2⟩ => ⟨he, K2, wd2, Mv.of (Below.refl _ _), mv2.wb.trans HWB.out⟩
      clear hdl
      go_wp2_with fail
      refine HDL.out.mono ?_
      rintro e w4 ⟨rfl, K4, wd4, _, hwb4⟩
      have W4 : Hid (Wd w w4 K4 (W.dlv 0) 10) := wd4
      have HW4 : Hid (K4.wb = K.wb) := hwb4
      clear wd4 hwb4 HDL
      simp only [terr]
      have hsw := switch_any W4.out.wb
      have hd := PH.out.deliver
      rw [HW4.out, if_neg (by rw [hd.2.2.1]; omega), hd.2.1, hd.2.2.1] at hsw
      have HSW : Hid (Calls Tryz.prog 17 #[.pointer (some ⟨K.wb, 0, none⟩)] w4 fun e w' => e = .returned (.tuple #[.int .i64 0, .int .i64 2]) ∧ Below w4.heap.size w4 w') := hsw
      clear hsw hd
      go_wp2_with fail
      refine HSW.out.mono ?_
      rintro e w5 ⟨rfl, hb5⟩
      have W5 : Hid (Wd w w5 K4 (W.dlv 0) 10) := W4.out.below hb5
      have hev := events_wd W5.out
      have he1 : (W.dlv 0).ev.length = 1 := by rw [PH.out.deliver.2.2.2.2.1]; rfl
      rw [HW4.out, he1] at hev
      have HEV : Hid (Calls Tryz.prog 19 #[.pointer (some ⟨K.wb, 0, none⟩)] w5 fun e w' => (∃ v', e = .returned v' ∧ w'.ownsRow w5.heap.size 65 2 v' 1 (evC (W.dlv 0).ev)) ∧ Below w5.heap.size w5 w') := hev
      clear hb5 hev he1 HSW
      go_wp2_with fail
      refine HEV.out.mono ?_
      rintro e w6 ⟨⟨v', rfl, ho⟩, hb6⟩
      obtain ⟨vp, vc, hv⟩ : ∃ vp vc, v' = .slice vp 1 vc := by
        rcases ownsRow_cases ho with ⟨_, q⟩ | ⟨g, c, e, _⟩
        · omega
        · exact ⟨_, _, e⟩
      subst hv
      have W6 : Hid (Wd w w6 K4 (W.dlv 0) 10) := W5.out.below hb6
      clear ho hb6 HEV
      go_wp2_with fail
      go_ret
      exact ⟨rfl, W6.out.bl⟩
end Go.Proofs.YtenonidmgpmohaaGreatDoor
