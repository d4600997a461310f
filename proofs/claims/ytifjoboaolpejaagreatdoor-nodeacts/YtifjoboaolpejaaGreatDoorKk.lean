/-
  Texts in one: WoD NfT.
-/
import Derived.Test.YtifjoboaolpejaaGreatDoorKe
import Derived.Test.YtifjoboaolpejaaGreatDoorNoV
import Derived.Laws.OwnMore
namespace Go.Proofs.YtifjoboaolpejaaGreatDoor
open Go.RowKit

theorem addr_addW (b o j : Nat) : Addr.add ⟨b, o, none⟩ j = ⟨b, o + j, none⟩ := by
  unfold Addr.add
  by_cases h : j = 0
  · subst h; rfl
  · rw [if_neg h]
/-- five cells a row. -/
def Five (r : List Value) : Prop := r.length = 5 ∧ ∀ u ∈ r, u.oneCell' = true
theorem flat_len : ∀ {L : List (List Value)}, (∀ r ∈ L, Five r) → L.flatten.length = L.length * 5
  | [], _ => rfl
  | r :: L, h => by
    rw [List.flatten_cons, List.length_append, flat_len (fun x hx => h x (by simp [hx])), (h r (by simp)).1, List.length_cons]
    omega
theorem flat_get : ∀ {L : List (List Value)}, (∀ r ∈ L, Five r) → ∀ (i j : Nat), j < 5 → L.flatten[i * 5 + j]? = (L[i]?).bind (·[j]?)
  | [], _, _, _, _ => by simp
  | r :: L, h, i, j, hj => by
    have hr := (h r (by simp)).1
    rw [List.flatten_cons]
    cases i with
    | zero => rw [List.getElem?_append_left (by omega)]; simp
    | succ i =>
      rw [List.getElem?_append_right (by omega), show (i + 1) * 5 + j - r.length = i * 5 + j by omega, flat_get (fun x hx => h x (by simp [hx])) i j hj]
      simp
theorem flat_one {L : List (List Value)} (h : ∀ r ∈ L, Five r) : ∀ u ∈ L.flatten, u.oneCell' = true := fun u hu => by
  obtain ⟨r, hr, hu⟩ := List.mem_flatten.1 hu
  exact (h r hr).2 u hu
/-- a block of so many rows that begins with these. -/
structure RwB (w : World) (g cap : Nat) (R : List (List Value)) (cur : Array Value) : Prop where
  h : w.heap[g]? = some (.cells cur 113 (0, 0))
  sz : cur.size = cap * 5
  le : R.length ≤ cap
  at' : ∀ i r j, R[i]? = some r → j < 5 → cur[i * 5 + j]? = r[j]?
  ok : ∀ r ∈ R, Five r
theorem RwB.cell {w : World} {g cap : Nat} {R : List (List Value)} {cur : Array Value} (h : RwB w g cap R cur) {i j : Nat} {r : List Value} (hr : R[i]? = some r) (hj : j < 5) : w.cell? ⟨g, i * 5 + j, none⟩ = r[j]? := by
  rw [cell_of_row w g _ _ _ _ h.h]; exact h.at' i r j hr hj
theorem noteInfo : ∃ i, Tryz.prog.info? 113 = some i ∧ i.size = 5 := by
  have h : (Tryz.prog.info? 113).map (·.size) = some 5 := by kernel_rfl
  obtain ⟨i, hi, hz⟩ := Option.map_eq_some_iff.1 h
  exact ⟨i, hi, hz⟩
theorem zeroNote (w : World) : (zeroValue 113).run Tryz.prog w = .ok (.agg #[.int .i64 0, .int .i64 0, .int .i64 0, .bool false, .slice none 0 0]) w := by kernel_rfl
/-- what lies behind goes one row ahead. -/
theorem rw_shift {w : World} {g cap k : Nat} {R : List (List Value)} {cur : Array Value} (h : RwB w g cap R cur) (hk : k < R.length) (ty : TypeId) (c2 : Nat) (sa : Addr) (hsa : sa = ⟨g, (k + 1) * 5, none⟩ ∨ R.length = k + 1) :
    ∃ w' cur', (Builtin.append_ #[66, 66] ty #[.slice (some ⟨g, 0, none⟩) k cap, .slice (some sa) (R.length - (k + 1)) c2]).run Tryz.prog w = .ok (.slice (some ⟨g, 0, none⟩) (R.length - 1) cap) w' ∧ RwB w' g cap (R.eraseIdx k) cur' ∧ Chg g w w' := by
  have hN : ∀ r ∈ R.drop (k + 1), Five r := fun r hr => h.ok r (List.mem_of_mem_drop hr)
  obtain ⟨news, hnews⟩ : ∃ news, news = (R.drop (k + 1)).flatten := ⟨_, rfl⟩
  have hlen : news.length = (R.length - (k + 1)) * 5 := by rw [hnews, flat_len hN, List.length_drop]
  have hle := h.le
  have hsz := h.sz
  obtain ⟨i, hi, hz⟩ := noteInfo
  have hget : ∀ (a j : Nat), j < 5 → news[a * 5 + j]? = (R[k + 1 + a]?).bind (·[j]?) := fun a j hj => by
    rw [hnews, flat_get hN a j hj, List.getElem?_drop]
  have hf := run_firstCells_some (P := Tryz.prog) w i.size (R.length - (k + 1)) sa (R.length - (k + 1)) c2 news (by rw [hz]; exact hlen) (fun j v hv => by
    rcases hsa with rfl | hsa
    rotate_left
    · have h0 : news = [] := List.length_eq_zero_iff.1 (by rw [hlen, hsa]; omega)
      rw [h0] at hv
      simp at hv
    have e : j = j / 5 * 5 + j % 5 := by omega
    have hj5 : j % 5 < 5 := Nat.mod_lt _ (by omega)
    rw [e, hget _ _ hj5] at hv
    obtain ⟨r, hr, hv⟩ := Option.bind_eq_some_iff.1 hv
    have := h.cell hr hj5
    rw [hv] at this
    have ea : (k + 1) * 5 + j = (k + 1 + j / 5) * 5 + j % 5 := by omega
    rw [addr_addW, ea]
    exact this)
  have hst := run_storeCells_at Tryz.prog g (k * 5) 113 news 0 cur w h.h (by rw [hlen, hsz]; omega) (by rw [hnews]; exact flat_one hN)
  rw [Nat.add_zero] at hst
  have hfit : k * 5 + news.length ≤ cur.size := by rw [hlen, hsz]; omega
  refine ⟨_, (cur.toList.take (k * 5) ++ news ++ cur.toList.drop (k * 5 + news.length)).toArray, ?_, ⟨setRow_heap w g cur _ _ _ h.h, by rw [patch_size _ _ _ hfit]; exact hsz, by rw [List.length_eraseIdx_of_lt hk]; omega, fun a r j ha hj => ?_, fun r hr => h.ok r (List.mem_of_mem_eraseIdx hr)⟩, chg_row _ _ _⟩
  · have hsum : k + (R.length - (k + 1)) = R.length - 1 := by omega
    rw [hz] at hf
    simp [Builtin.append_, run_underlying Tryz.underlying66, sizeOf, typeInfo, hi, hz, Builtin.lenOf, hf, Addr.add_lit, hst, hsum]
    intro hh
    omega
  · rw [patch_at _ _ _ hfit]
    rw [List.getElem?_eraseIdx] at ha
    by_cases hak : a < k
    · rw [if_pos hak] at ha
      rw [if_neg (by omega)]
      exact h.at' a r j ha hj
    · rw [if_neg hak] at ha
      have hal : a + 1 < R.length := (List.getElem?_eq_some_iff.1 ha).1
      rw [if_pos (by rw [hlen]; omega), show a * 5 + j - k * 5 = (a - k) * 5 + j by omega, hget _ _ hj, show k + 1 + (a - k) = a + 1 by omega, ha]
      rfl
/-- a row behind all is made zero. -/
theorem rw_clear {w : World} {g cap n : Nat} {R : List (List Value)} {cur : Array Value} (h : RwB w g cap R cur) (hn : R.length ≤ n) (hc : n < cap) (ty : TypeId) (c2 : Nat) :
    ∃ w' cur', (Builtin.clear_ #[66] ty #[.slice (some ⟨g, n * 5, none⟩) 1 c2]).run Tryz.prog w = .ok (.tuple #[]) w' ∧ RwB w' g cap R cur' ∧ Chg g w w' := by
  have hsz := h.sz
  have hst := run_storeCells_at Tryz.prog g (n * 5) 113 [.int .i64 0, .int .i64 0, .int .i64 0, .bool false, .slice none 0 0] 0 cur w h.h (by simp; omega) (fun u hu => by
    simp only [List.mem_cons, List.not_mem_nil, or_false] at hu
    rcases hu with rfl | rfl | rfl | rfl | rfl <;> rfl)
  rw [Nat.add_zero] at hst
  have hfit : n * 5 + ([.int .i64 0, .int .i64 0, .int .i64 0, .bool false, .slice none 0 0] : List Value).length ≤ cur.size := by simp; omega
  refine ⟨_, _, ?_, ⟨setRow_heap w g cur _ _ _ h.h, by rw [patch_size _ _ _ hfit]; exact hsz, h.le, fun a r j ha hj => ?_, h.ok⟩, chg_row _ _ _⟩
  · have hz := zeroNote w
    have hzs : (Builtin.zeroCells (Value.cells (.agg #[.int .i64 0, .int .i64 0, .int .i64 0, .bool false, .slice none 0 0])) 1).toList = [.int .i64 0, .int .i64 0, .int .i64 0, .bool false, .slice none 0 0] := by kernel_rfl
    simp [Builtin.clear_, run_underlying Tryz.underlying66, hz, hzs, hst]
  · have hal := (List.getElem?_eq_some_iff.1 ha).1
    rw [patch_at _ _ _ hfit, if_neg (by omega)]
    exact h.at' a r j ha hj
end Go.Proofs.YtifjoboaolpejaaGreatDoor

namespace Go.Proofs.YtifjoboaolpejaaGreatDoor
open Go.RowKit

def nfC (t : Nf) (v : Value) : List Value := [.int .i64 t.fr, .int .i64 t.li, .int .i64 t.ep, .bool t.cl, v]
def nfR (l : List Nf) (cv : List Value) : List (List Value) := List.zipWith nfC l cv
theorem nfR_len {l : List Nf} {cv : List Value} (h : cv.length = l.length) : (nfR l cv).length = l.length := by simp [nfR, h]
theorem nfR_get {l : List Nf} {cv : List Value} {k : Nat} {t : Nf} {v : Value} (h1 : l[k]? = some t) (h2 : cv[k]? = some v) : (nfR l cv)[k]? = some (nfC t v) := by simp [nfR, List.getElem?_zipWith, h1, h2]
/-- a row of its own: nil, or a block. -/
theorem ownsRow_cases {w : World} {b n size : Nat} {e : TypeId} {v : Value} {xs : List Value} (h : w.ownsRow b e size v n xs) : (v = .slice none 0 0 ∧ n = 0) ∨ ∃ g cap, v = .slice (some ⟨g, 0, none⟩) n cap ∧ b ≤ g ∧ g < w.heap.size ∧ n ≤ cap ∧ cap ≤ maxLen := by
  rcases h.2 with q | ⟨g, cap, cur, q, q1, q2, q3, q4, _⟩
  · exact .inl q
  · refine .inr ⟨g, cap, q, q1, ?_, q3, q4⟩
    rcases Nat.lt_or_ge g w.heap.size with a | a
    · exact a
    · rw [Array.getElem?_eq_none a] at q2; cases q2
theorem wp_append_eq {P : Program} {o : Oper} {a : Act} {w : World} {K : Act → World → Prop} {Q : Exit → Act → World → Prop} (s x : Operand) (t : TypeId) (ho : o.op = .call { callee := .builtin .append, args := #[s, x], argTypes := #[t, t] })
    (u v v' : Value) (w' : World) (hs : a.eval s = u) (hx : a.eval x = v) (hr : (Builtin.append_ #[t, t] o.type #[u, v]).run P w = .ok v' w') (h : K (a.put o.dst v') w') : o.wp P a w K Q := by
  unfold Oper.wp execOp
  simp only [ho, resolve, invoke, builtin, Sem.run_bind, Sem.run_pure, Result.andThen_ok, List.map_toArray, List.map_cons, List.map_nil, hs, hx, hr]
  exact h
end Go.Proofs.YtifjoboaolpejaaGreatDoor
