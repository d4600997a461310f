/-
  Plain mathematics of a cell: the remainder, a slot's bytes, what is held, writes one by one until power fails.
-/
namespace Go.Proofs.YthmnmdikpccenacDoor

/-- one bit of the remainder. -/
def crcBit (r : Nat) : Nat := if r % 2 = 1 then (r / 2) ^^^ 3988292384 else r / 2
def crcBits : Nat → Nat → Nat
  | 0, r => r
  | k + 1, r => crcBit (crcBits k r)
def crcByte (r : Nat) (v : UInt8) : Nat := crcBits 8 (r ^^^ v.toNat)
def crcR (l : List UInt8) : Nat := l.foldl crcByte 4294967295
def crc (l : List UInt8) : Nat := 4294967295 ^^^ crcR l
theorem crcBit_lt {r : Nat} (h : r < 4294967296) : crcBit r < 4294967296 := by
  unfold crcBit
  split
  · exact Nat.xor_lt_two_pow (n := 32) (by omega) (by omega)
  · omega
theorem crcBits_lt {r : Nat} (h : r < 4294967296) : ∀ k, crcBits k r < 4294967296
  | 0 => h
  | k + 1 => crcBit_lt (crcBits_lt h k)
theorem crcX_lt {r : Nat} (h : r < 4294967296) (v : UInt8) : r ^^^ v.toNat < 4294967296 :=
  Nat.xor_lt_two_pow (n := 32) (by omega) (by have := v.toNat_lt; omega)
theorem crcByte_lt {r : Nat} (h : r < 4294967296) (v : UInt8) : crcByte r v < 4294967296 := crcBits_lt (crcX_lt h v) 8
theorem crcF_lt : ∀ (l : List UInt8) (r : Nat), r < 4294967296 → l.foldl crcByte r < 4294967296
  | [], _, h => h
  | v :: l, _, h => crcF_lt l _ (crcByte_lt h v)
theorem crcR_lt (l : List UInt8) : crcR l < 4294967296 := crcF_lt l _ (by omega)
theorem crc_lt (l : List UInt8) : crc l < 4294967296 := Nat.xor_lt_two_pow (n := 32) (by omega) (crcR_lt l)
theorem crcR_snoc (l : List UInt8) (v : UInt8) : crcR (l ++ [v]) = crcByte (crcR l) v := by unfold crcR; rw [List.foldl_append]; rfl

/-- four bytes of a number, the highest first. -/
def w4 (n : Nat) : List UInt8 := [UInt8.ofNat (n / 16777216), UInt8.ofNat (n / 65536), UInt8.ofNat (n / 256), UInt8.ofNat n]
theorem w4_len (n : Nat) : (w4 n).length = 4 := rfl
/-- the number that m bytes from place k on make. -/
def beN (l : List UInt8) (k : Nat) : Nat → Nat
  | 0 => 0
  | m + 1 => 256 * beN l k m + (l.getD (k + m) 0).toNat
theorem beN_lt (l : List UInt8) (k : Nat) : ∀ m, beN l k m < 256 ^ m
  | 0 => by simp [beN]
  | m + 1 => by
    have := beN_lt l k m
    have h2 := (l.getD (k + m) 0).toNat_lt
    unfold beN
    rw [Nat.pow_succ]
    omega
theorem beN4_lt (l : List UInt8) (k : Nat) : beN l k 4 < 4294967296 := beN_lt l k 4
/-- three numbers of a slot. -/
structure Nm where
  n : Nat
  e : Nat
  l : Nat
def body (x : Nm) : List UInt8 := w4 x.n ++ w4 x.e ++ w4 x.l
theorem body_len (x : Nm) : (body x).length = 12 := rfl
def img (x : Nm) : List UInt8 := body x ++ w4 (crc (body x))
theorem img_len (x : Nm) : (img x).length = 16 := rfl
def nmOf (L : List UInt8) : Nm := ⟨beN L 0 4, beN L 4 4, beN L 8 4⟩
theorem byte_of (n : Nat) : (UInt8.ofNat n).toNat = n % 256 := UInt8.toNat_ofNat
theorem nmOf_img {x : Nm} (h1 : x.n < 4294967296) (h2 : x.e < 4294967296) (h3 : x.l < 4294967296) (r : List UInt8) : nmOf (img x ++ r) = x := by
  obtain ⟨n, e, l⟩ := x
  simp only at h1 h2 h3
  have a : ∀ m : Nat, m < 4294967296 → 256 * (256 * (256 * (256 * 0 + m / 16777216 % 256) + m / 65536 % 256) + m / 256 % 256) + m % 256 = m := fun m h => by omega
  simp only [nmOf, beN, img, body, w4, List.cons_append, List.nil_append, List.getD_cons_zero, List.getD_cons_succ, Nat.zero_add, Nat.reduceAdd, byte_of]
  rw [a n h1, a e h2, a l h3]
/-- does slot k hold, these being its first sixteen bytes and its mark? -/
def heldB (k : Nat) (L : List UInt8) (m : UInt8) : Bool := m == 165 && L == img (nmOf L) && decide (1 ≤ (nmOf L).n) && (nmOf L).n % 2 == k
def slotL (B : List UInt8) (k : Nat) : List UInt8 := (B.drop (20 * k)).take 16
def slotM (B : List UInt8) (k : Nat) : UInt8 := B.getD (20 * k + 16) 0
def isHeld (B : List UInt8) (k : Nat) : Bool := heldB k (slotL B k) (slotM B k)
def slotN (B : List UInt8) (k : Nat) : Nm := nmOf (slotL B k)
/-- the held slot with the greater number, of the first k. -/
def newestK (B : List UInt8) : Nat → Nm
  | 0 => ⟨0, 0, 0⟩
  | k + 1 => if isHeld B k = true ∧ (newestK B k).n < (slotN B k).n then slotN B k else newestK B k
def newest (B : List UInt8) : Nm := newestK B 2
theorem slotN_lt (B : List UInt8) (k : Nat) : (slotN B k).n < 4294967296 ∧ (slotN B k).e < 4294967296 ∧ (slotN B k).l < 4294967296 := ⟨beN4_lt _ _, beN4_lt _ _, beN4_lt _ _⟩
theorem newestK_lt (B : List UInt8) : ∀ k, (newestK B k).n < 4294967296 ∧ (newestK B k).e < 4294967296 ∧ (newestK B k).l < 4294967296
  | 0 => ⟨by simp [newestK], by simp [newestK], by simp [newestK]⟩
  | k + 1 => by
    unfold newestK
    split
    · exact slotN_lt B k
    · exact newestK_lt B k
theorem newest_lt (B : List UInt8) : (newest B).n < 4294967296 ∧ (newest B).e < 4294967296 ∧ (newest B).l < 4294967296 := newestK_lt B 2

/-- bytes that stay. -/
structure By where
  B : List UInt8
  on : Bool
  cut : Bool
  left : Nat
/-- the next byte can be written. -/
def By.ok (s : By) : Bool := s.on && !(s.cut && s.left == 0)
def By.wr (s : By) (a : Nat) (v : UInt8) : By := ⟨s.B.set a v, true, s.cut, if s.cut then s.left - 1 else s.left⟩
def By.off (s : By) : By := ⟨s.B, false, s.cut, s.left⟩
def wrs (s : By) : List (Nat × UInt8) → By × Bool
  | [] => (s, true)
  | (a, v) :: r => if s.ok then wrs (s.wr a v) r else (s.off, false)
/-- written one behind the other from a on. -/
def seqW (a : Nat) : List UInt8 → List (Nat × UInt8)
  | [] => []
  | v :: r => (a, v) :: seqW (a + 1) r
def preW (B : List UInt8) (at' : Nat) : List (Nat × UInt8) := if B.getD (at' + 16) 0 = 0 then [] else [(at' + 16, 0)]
def putW (B : List UInt8) (x : Nm) : List (Nat × UInt8) := preW B (20 * (x.n % 2)) ++ (seqW (20 * (x.n % 2)) (img x) ++ [(20 * (x.n % 2) + 16, 165)])
def putS (s : By) (x : Nm) : By × Bool := wrs s (putW s.B x)

def app (B : List UInt8) (l : List (Nat × UInt8)) : List UInt8 := l.foldl (fun B p => B.set p.1 p.2) B
theorem app_len : ∀ (l : List (Nat × UInt8)) (B : List UInt8), (app B l).length = B.length
  | [], _ => rfl
  | p :: l, B => by
    show (app (B.set p.1 p.2) l).length = _
    rw [app_len l, List.length_set]
theorem app_append (B : List UInt8) (l r : List (Nat × UInt8)) : app B (l ++ r) = app (app B l) r := List.foldl_append
theorem app_other (q : Nat) : ∀ (l : List (Nat × UInt8)) (B : List UInt8), (∀ p, p ∈ l → p.1 ≠ q) → (app B l)[q]? = B[q]?
  | [], _, _ => rfl
  | p :: l, B, h => by
    show (app (B.set p.1 p.2) l)[q]? = _
    rw [app_other q l _ (fun x hx => h x (List.mem_cons_of_mem _ hx)), List.getElem?_set_ne (h p List.mem_cons_self)]
theorem wrs_len : ∀ (l : List (Nat × UInt8)) (s : By), (wrs s l).1.B.length = s.B.length
  | [], _ => rfl
  | (a, v) :: r, s => by
    unfold wrs
    split
    · rw [wrs_len r]; simp [By.wr]
    · rfl
/-- what writes do, until power fails. -/
theorem wrs_eq : ∀ (l : List (Nat × UInt8)) (s : By), wrs s l =
    if s.on = true ∧ (s.cut = false ∨ l.length ≤ s.left) then (⟨app s.B l, true, s.cut, if s.cut then s.left - l.length else s.left⟩, true)
    else if s.on = true ∨ l = [] then (if l = [] then (s, true) else (⟨app s.B (l.take s.left), false, s.cut, 0⟩, false)) else (s, false)
  | [], s => by
    obtain ⟨B, on, cut, left⟩ := s
    cases on <;> cases cut <;> simp [wrs, app]
  | (a, v) :: r, s => by
    have ih := wrs_eq r (s.wr a v)
    obtain ⟨B, on, cut, left⟩ := s
    unfold wrs
    cases on
    · simp [By.ok, By.off]
    · cases cut
      · simp [By.ok, By.wr] at ih ⊢
        rw [ih]
        rfl
      · cases left with
        | zero => simp [By.ok, By.off, app]
        | succ n =>
          simp [By.ok, By.wr] at ih ⊢
          rw [ih]
          by_cases h : r.length ≤ n
          · simp [h, app]
          · have hr : r ≠ [] := fun e => by subst e; simp at h
            simp [h, app, hr]
end Go.Proofs.YthmnmdikpccenacDoor
