/-
  The library as package policy's reading uses it: Atoi, Split, Cut, TrimSuffix.
-/
import Derived.Test.YtpmoamfhppmicaaGreatDoorPoI
import Derived.Test.YtpmoamfhppmicaaGreatDoorPoE
import Derived.Test.YtpmoamfhppmicaaGreatDoorPoD
import Derived.Test.YtpmoamfhppmicaaGreatDoorRfN
namespace Go.Proofs.YtpmoamfhppmicaaGreatDoor
open Go.RowKit

/-- what the library's own variables give. -/
structure Libs (w : World) : Prop where
  ml : ∃ n, w.cell? ⟨13, 0, none⟩ = some (.int .i64 n)
  es : ∃ t p, w.cell? ⟨17, 0, none⟩ = some (.iface t p)
  er : ∃ t p, w.cell? ⟨18, 0, none⟩ = some (.iface t p)
theorem Libs.below {w w' : World} (L : Libs w) (h : Below w.heap.size w w') : Libs w' :=
  ⟨L.ml.imp fun _ k => Below.keeps h k, L.es.imp fun _ k => k.imp fun _ k => Below.keeps h k, L.er.imp fun _ k => k.imp fun _ k => Below.keeps h k⟩

theorem atoi_ok (x : ByteArray) (hx : x.size ≤ 4000) (v : Int) (h : Lib.atoiAll x.data.toList = .ok v) (w : World) :
    Calls Tryz.prog 54 #[.string x] w fun e w' => e = .returned (.tuple #[.int .i64 v, .nilIface]) ∧ Below w.heap.size w w' := by
  refine (Tryz.strconv_Atoi_ok x (by omega) v h w).mono fun e w' ⟨he, hw⟩ => ⟨he, ?_⟩
  rcases hw with rfl | ⟨t, rfl⟩
  · exact Below.refl _ _
  · exact ⟨rfl, rfl, rfl, by rw [Lib.bytesWorld_size]; omega, fun j hj => Lib.bytesWorld_at_old w _ _ j hj⟩
theorem atoi_bad (x : ByteArray) (hx : x.size ≤ 4000) (h : ∀ v, Lib.atoiAll x.data.toList ≠ .ok v) (w : World) (L : Libs w) :
    Calls Tryz.prog 54 #[.string x] w fun e w' => (∃ n t a, e = .returned (.tuple #[.int .i64 n, .iface t (.pointer (some a))])) ∧ Below w.heap.size w w' := by
  cases hh : Lib.atoiAll x.data.toList
  · exact absurd hh (h _)
  · obtain ⟨t, p, hc⟩ := L.es
    exact (Any.strconv_Atoi_syntax Tryz.laysC172 x (by omega) hh _ w hc (.inr ⟨_, _, rfl⟩)).mono fun e w' ⟨N, he, _, _, hb⟩ => ⟨⟨_, _, _, he⟩, hb⟩
  · obtain ⟨t, p, hc⟩ := L.er
    exact (Any.strconv_Atoi_range Tryz.laysC172 x (by omega) hh _ w hc (.inr ⟨_, _, rfl⟩)).mono fun e w' ⟨N, he, _, _, hb⟩ => ⟨⟨_, _, _, he⟩, hb⟩

/-- the words of a text between one byte's instances. -/
def words (x : ByteArray) (c : UInt8) : List ByteArray := Lib.splitB ⟨#[c]⟩ 0 (Lib.countB x ⟨#[c]⟩) x
theorem words_len (x : ByteArray) (c : UInt8) : (words x c).length = Lib.countB x ⟨#[c]⟩ + 1 := Lib.splitB_all ⟨#[c]⟩ (by simp [ByteArray.size]) 0 _ x rfl
theorem words_le (x : ByteArray) (c : UInt8) : (words x c).length ≤ x.size + 1 := by
  rw [words_len]; have := Lib.countB_le ⟨#[c]⟩ (by simp [ByteArray.size]) x.size x (Nat.le_refl _); omega
theorem split_any (x : ByteArray) (hx : x.size ≤ 4000) (c : UInt8) (w : World) (L : Libs w) :
    Calls Tryz.prog 20 #[.string x, .string ⟨#[c]⟩] w fun e w' => e = .returned (.slice (some ⟨w.heap.size, 0, none⟩) (words x c).length (words x c).length) ∧ (∀ (j : Nat) y, (words x c)[j]? = some y → w'.cell? ⟨w.heap.size, j, none⟩ = some (.string y)) ∧ Below w.heap.size w w' := by
  obtain ⟨m, hm⟩ := L.ml
  refine (Tryz.strings_Split x ⟨#[c]⟩ m w (by omega) hm (by simp [ByteArray.size])).mono fun e w' ⟨he, hw⟩ => ?_
  rw [words_len]
  refine ⟨he, fun j y hy => ?_, ?_⟩
  · rw [hw, World.cell?_alloc_at _ _ _ _ rfl]
    show ((words x c).map Value.string).toArray[j]? = _
    simp [hy]
  · rw [hw]; exact (Below.refl _ _).alloc (Nat.le_refl _) _
theorem cut_any (x : ByteArray) (hx : x.size ≤ 4000) (w : World) (L : Libs w) :
    Calls Tryz.prog 36 #[.string x, .string ⟨#[45]⟩] w fun e w' => e = .returned (.tuple #[.string ⟨(Lib.cut x.data.toList [45]).1.toArray⟩, .string ⟨(Lib.cut x.data.toList [45]).2.1.toArray⟩, .bool (Lib.cut x.data.toList [45]).2.2]) ∧ Below w.heap.size w w' := by
  obtain ⟨m, hm⟩ := L.ml
  exact (Tryz.strings_Cut x ⟨#[45]⟩ m w (by omega) hm).mono fun e w' ⟨he, n, hw⟩ => ⟨he, by rw [hw]; exact bl_drewN (Below.refl _ _) n⟩
theorem cut_len1 (l : List UInt8) : (Lib.cut l [45]).1.length ≤ l.length := by unfold Lib.cut; split <;> simp <;> omega
theorem cut_len2 (l : List UInt8) : (Lib.cut l [45]).2.1.length ≤ l.length := by unfold Lib.cut; split <;> simp <;> omega

/-- without the line's end, if it has one. -/
def trim10 (l : List UInt8) : List UInt8 := if l.getLast? = some 10 then l.dropLast else l
theorem last_byte (x : ByteArray) (n : Nat) (h : x.size = n + 1) : x.extract n (n + 1) = ⟨#[x[n]]⟩ := by
  apply ByteArray.ext
  rw [ByteArray.data_extract]
  apply Array.ext
  · simp; have : x.data.size = x.size := rfl; omega
  · intro i h1 h2
    obtain rfl : i = 0 := by simp at h2; omega
    simp; rfl
theorem last_eq (x : ByteArray) (n : Nat) (h : x.size = n + 1) : ((x.extract n (n + 1)).toList == [10]) = (x[n] == 10) := by
  rw [last_byte x n h]
  generalize x[n] = c
  rw [Bool.eq_iff_iff]
  simp [ByteArray.toList_eq]
theorem ret_b {a b : Bool} (h : a = b) : Ending.returned (.bool a) = .returned (.bool b) := by rw [h]
set_option maxRecDepth 100000 in
set_option maxHeartbeats 2000000 in
theorem hasSuffix_any (x : ByteArray) (n : Nat) (h : x.size = n + 1) (hx : n ≤ 4000) (b : Bool) (hb : (x[n] == 10) = b) (w : World) :
    Calls Tryz.prog 52 #[.string x, .string ⟨#[10]⟩] w fun e w' => e = .returned (.bool b) ∧ w' = w := by
  have HL : Hid (((x.extract n (n + 1)).toList == [10]) = b) := (last_eq x n h).trans hb
  clear hb
  go_enter Tryz.func52, Tryz.ntmps52
  go_wp2_with fail
  go_ret
  exact ⟨ret_b HL.out, rfl⟩
theorem list_last (x : ByteArray) (n : Nat) (h : x.size = n + 1) : x.data.toList = x.data.toList.take n ++ [x[n]] := by
  have hl := bytes_len x
  have e : x.data.toList.take (n + 1) = x.data.toList.take n ++ [x[n]] := by
    rw [List.take_succ_eq_append_getElem (by omega)]; rfl
  rw [← e, List.take_of_length_le (by omega)]
theorem trim_yes (x : ByteArray) (n : Nat) (h : x.size = n + 1) (hb : x[n] = 10) : trim10 x.data.toList = x.data.toList.take n := by
  unfold trim10
  have e := list_last x n h
  rw [if_pos (by rw [e, List.getLast?_append]; simp [hb])]
  conv => lhs; rw [e]
  simp
theorem trim_no (x : ByteArray) (n : Nat) (h : x.size = n + 1) (hb : ¬ x[n] = 10) : trim10 x.data.toList = x.data.toList := by
  unfold trim10
  have e := list_last x n h
  rw [if_neg (by rw [e, List.getLast?_append]; simpa using hb)]
theorem take_ba (x : ByteArray) (n : Nat) : x.extract 0 n = ⟨(x.data.toList.take n).toArray⟩ := by
  apply ByteArray.ext
  apply Array.ext'
  simp [ByteArray.data_extract]
set_option maxRecDepth 100000 in
set_option maxHeartbeats 2000000 in
theorem trimL_any (x : ByteArray) (n : Nat) (h : x.size = n + 1) (hx : n ≤ 4000) (w : World) :
    Calls Tryz.prog 34 #[.string x, .string ⟨#[10]⟩] w fun e w' => e = .returned (.string ⟨(trim10 x.data.toList).toArray⟩) ∧ w' = w := by
  by_cases hb : x[n] = 10
  · have HE : Hid (trim10 x.data.toList = x.data.toList.take n) := trim_yes x n h hb
    have HB : Hid ((x[n] == 10) = true) := by show _ = _; rw [hb]; rfl
    clear hb
    go_enter Tryz.func34, Tryz.ntmps34
    go_wp2_with fail
    refine (hasSuffix_any x n h hx true HB.out _).mono ?_
    rintro e w1 ⟨rfl, rfl⟩
    go_wp2_with fail
    go_ret
    refine ⟨?_, rfl⟩
    rw [HE.out, ← take_ba]
    rfl
  · have HE : Hid (trim10 x.data.toList = x.data.toList) := trim_no x n h hb
    have HB : Hid ((x[n] == 10) = false) := beq_eq_false_iff_ne.2 hb
    clear hb
    go_enter Tryz.func34, Tryz.ntmps34
    go_wp2_with fail
    refine (hasSuffix_any x n h hx false HB.out _).mono ?_
    rintro e w1 ⟨rfl, rfl⟩
    go_wp2_with fail
    go_ret
    refine ⟨?_, rfl⟩
    rw [HE.out]
    rfl
set_option maxRecDepth 100000 in
theorem trim_any (x : ByteArray) (n : Nat) (h : x.size = n + 1) (hx : n ≤ 4000) (w : World) :
    Calls Tryz.prog 21 #[.string x, .string ⟨#[10]⟩] w fun e w' => e = .returned (.string ⟨(trim10 x.data.toList).toArray⟩) ∧ w' = w := by
  have HX : Hid (x.size = n + 1) := h
  clear h
  go_enter Tryz.func21, Tryz.ntmps21
  go_wp2_with fail
  refine (trimL_any x n HX.out hx _).mono ?_
  rintro e w1 ⟨rfl, rfl⟩
  go_wp2_with fail
  go_ret
  exact ⟨rfl, rfl⟩
end Go.Proofs.YtpmoamfhppmicaaGreatDoor
