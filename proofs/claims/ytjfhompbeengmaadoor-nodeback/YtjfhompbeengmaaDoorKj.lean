/-
  Texts in one: NoE NoF.
-/
import Derived.Test.YtjfhompbeengmaaDoorNoB
import Derived.Test.YtjfhompbeengmaaDoorKh
import Derived.Test.YtjfhompbeengmaaDoorKd
import Derived.OwnWalk
import Derived.Lib.SliceRun
namespace Go.Proofs.YtjfhompbeengmaaDoor
open Go.RowKit

theorem rul_of_own {w : World} {base : Nat} {v : Value} {l : List Rl} (h : w.ownsRow base 34 5 v l.length (cellsL l)) : ∃ p cap, v = .slice p l.length cap ∧ Rul w p l ∧ (l ≠ [] → ∀ a, p = some a → base ≤ a.block) := by
  obtain ⟨h1, h2⟩ := h
  rcases h2 with ⟨rfl, h0⟩ | ⟨g, cap, cur, rfl, q1, hh, q2, q3, q4, ht⟩
  · have : l = [] := List.eq_nil_of_length_eq_zero h0
    subst this
    exact ⟨none, 0, rfl, fun i r hr => by simp at hr, fun h => absurd rfl h⟩
  · refine ⟨some ⟨g, 0, none⟩, cap, rfl, fun i r hr => ?_, fun _ a e => by cases e; exact q1⟩
    have hi := (List.getElem?_eq_some_iff.1 hr).1
    have key : ∀ j u, j < 5 → (rlC r)[j]? = some u → w.cell? ⟨g, 0 + i * 5 + j, none⟩ = some u := fun j u hj hu => by
      have hz : (cellsL l)[i * 5 + j]? = some u := by rw [cellsL_get l i j hj, hr]; exact hu
      rw [← ht, List.getElem?_take, if_pos (by omega), Array.getElem?_toList] at hz
      rw [cell_of_row w g _ _ _ _ hh, Nat.zero_add]
      exact hz
    exact ⟨g, 0, rfl, key 0 _ (by omega) rfl, key 1 _ (by omega) rfl, key 2 _ (by omega) rfl, key 3 _ (by omega) rfl, key 4 _ (by omega) rfl⟩
theorem sl_of_own {w : World} {base n : Nat} {v : Value} {l : List Rl} (h : w.ownsRow base 34 5 v n (cellsL l)) : ∃ p c, v = .slice p l.length c ∧ Sl w (.slice p l.length c) l ∧ (∀ a, p = some a → base ≤ a.block ∧ a.block < w.heap.size) := by
  obtain ⟨hs, hn⟩ := Sl.of_own h
  obtain ⟨p, c, e, _⟩ := hs.open
  refine ⟨p, c, e, e ▸ hs, fun a ea => ?_⟩
  subst ea
  rcases h.2 with q | ⟨g, cap, cur, q1, q2, q3, _⟩
  · rw [e] at q; cases q.1
  · rw [e] at q1
    cases q1
    refine ⟨q2, ?_⟩
    rcases Nat.lt_or_ge g w.heap.size with a | a
    · exact a
    · rw [Array.getElem?_eq_none a] at q3; cases q3
set_option maxRecDepth 100000 in
set_option maxHeartbeats 2000000 in
theorem clone_sl (v : Value) (l : List Rl) (w : World) (R : Sl w v l) (hl : l.length ≤ 1000) :
    Calls Tryd.prog 22 #[v] w fun e w' => (∃ p cap, e = .returned (.slice p l.length cap) ∧ Sl w' (.slice p l.length cap) l ∧ (∀ a, p = some a → w.heap.size ≤ a.block ∧ a.block < w'.heap.size)) ∧ Below w.heap.size w w' := by
  rcases R with ⟨rfl, rfl⟩ | ⟨a, cap, rfl, h1, h2, h3⟩
  · have he := Lib.run_eql_slice_nil (P := Tryd.prog) w 35 34 none 0 0 0 0 Tryd.underlying35
    go_enter Tryd.func22, Tryd.ntmps22
    go_wp2_with fail
    go_ret
    exact ⟨⟨none, 0, rfl, Or.inl ⟨rfl, rfl⟩, fun a e => by cases e⟩, Below.refl _ _⟩
  · obtain ⟨i0, hi, hz0, hz1, hz2⟩ := info_parts Tryd.infoRl
    have HR : Hid (Rul w (some a) l) := h3
    have he := Lib.run_eql_slice_nil (P := Tryd.prog) w 35 34 (some a) l.length cap 0 0 Tryd.underlying35
    clear h3
    go_enter Tryd.func22, Tryd.ntmps22
    go_wp2_with (at_builtin; refine wpList_append_own _ rfl _ _ 35 rfl w.heap.size 34 i0 _ 5 32 Tryd.underlying35 hi hz0 hz1 hz2 rfl (by decide) (.slice (some ⟨w.heap.size, 0, none⟩) 0 0) 0 [] rfl ?g0 a l.length cap (cellsL l) rfl (cellsL_len l) ?g1 (cellsL_one l) (by unfold maxLen; omega) (by omega) ?g2 ?_)
    case g0 => exact ⟨rfl, .inr ⟨w.heap.size, 0, #[], rfl, Nat.le_refl _, heap_alloc_new w _, Nat.le_refl _, by unfold maxLen; omega, rfl, rfl⟩⟩
    case g1 => exact (HR.out.keep (fun a v hc => tk (aB _ _) hc)).at
    case g2 => simp
    intro v' w1 hown hgrow _
    have HO : Hid (∃ p c, v' = .slice p l.length c ∧ Sl w1 (.slice p l.length c) l ∧ (∀ a, p = some a → w.heap.size ≤ a.block ∧ a.block < w1.heap.size)) := sl_of_own (by simpa using hown)
    have HG : Hid (Below w.heap.size w w1) := ((Below.refl _ _).alloc (Nat.le_refl _) _).grown hgrow (by simp) (fun j hj => by simp [Value.ownBlock] at hj; omega)
    clear hown hgrow
    obtain ⟨p, c, rfl, _⟩ := HO.out
    go_wp2_with fail
    go_ret
    obtain ⟨p', c', e, q⟩ := HO.out
    cases e
    exact ⟨⟨p, c, rfl, q⟩, HG.out⟩
theorem clone_any (v : Value) (l : List Rl) (w : World) (R : Sl w v l) (hl : l.length ≤ 1000) :
    Calls Tryd.prog 22 #[v] w fun e w' => (∃ p cap, e = .returned (.slice p l.length cap) ∧ Rul w' p l ∧ (l ≠ [] → ∀ a, p = some a → w.heap.size ≤ a.block)) ∧ Below w.heap.size w w' :=
  (clone_sl v l w R hl).mono fun _ _ ⟨⟨p, c, h1, h2, h3⟩, h4⟩ => ⟨⟨p, c, h1, by obtain ⟨p', c', e, q⟩ := h2.open; cases e; exact q, fun _ a e => (h3 a e).1⟩, h4⟩
end Go.Proofs.YtjfhompbeengmaaDoor

namespace Go.Proofs.YtjfhompbeengmaaDoor
open Go.RowKit

/-- a new node. -/
def No.new (id : Nat) (y : By) (l : List Rl) : No :=
  ⟨Ro.new id (newest y.B).e, id, (newest y.B).l + 1, 0, l, false, (putE false y (newest y.B).e ((newest y.B).l + 1)).2.1, newT, fun _ => 0, 0, 0, newT⟩
/-- nothing is refused. -/
structure NewOk (id : Nat) (y : By) (l : List Rl) : Prop where
  id : id < 2
  ru : RulesOk l
  on : y.on = true
  ep : (newest y.B).e ≤ 1073741824
  pu : (putE false y (newest y.B).e ((newest y.B).l + 1)).1 = 0
theorem putE_off {off : Bool} {y : By} {ep li : Int} (h : (putE off y ep li).1 = 0) : (putE off y ep li).2.2 = false := by
  revert h
  unfold putE
  repeat' split
  all_goals simp
theorem chk_ok {s : Nat → Addr} {w : World} {l : List Rl} {v : Value} (h : RulesOk l) (c : ChkV s w l v) : v = .nilIface := by
  rcases c with ⟨a, _⟩ | ⟨_, _, a⟩ | ⟨_, i, g, a, _⟩
  · exact absurd h.1 (by omega)
  · exact a
  · rw [h.2] at a; cases a
theorem Sl.chg1 {w w' : World} {v : Value} {l : List Rl} {b : Nat} (h : Sl w v l) (c : ChgL [b] w w') (hs : ∀ a n c, v = .slice (some a) n c → a.block ≠ b) : Sl w' v l := by
  rcases h with h | ⟨a, cap, e, h1, h2, h3⟩
  · exact Or.inl h
  · refine Or.inr ⟨a, cap, e, h1, h2, h3.kept (fun hn a' e' => ?_)⟩
    obtain ⟨r, hr'⟩ := List.exists_mem_of_ne_nil _ hn
    obtain ⟨i, hi⟩ := List.getElem?_of_mem hr'
    obtain ⟨g, o, e2, h0, _⟩ := h3 i r hi
    have hb := hs a _ _ e
    cases e2
    cases e'
    have q : g < w.heap.size := tlt h0
    exact c.block g q (by simpa using hb)
set_option maxRecDepth 100000 in
set_option maxHeartbeats 4000000 in
theorem new_nd2 {w0 w : World} {s : Nat → Addr} (S : SeN w0 s) (id b : Nat) (y : By) (v : Value) (l : List Rl) (Y : Byt w b y) (hb : w0.heap.size ≤ b) (bl : Below w0.heap.size w0 w) (hf : y.left ≤ 9223372036854775807) (R : Sl w v l) (hsep : ∀ a n c, v = .slice (some a) n c → a.block ≠ b) (K : NewOk id y l) :
    Calls Tryd.prog 6 #[.int .i64 id, .pointer (some ⟨b, 0, none⟩), v] w fun e w' => (∃ k, e = .returned (.tuple #[.pointer (some ⟨k.nd, 0, none⟩), .nilIface]) ∧ k.yb = b ∧ Nd w0 w' k (No.new id y l) 0 0 ∧ (∀ g ∈ k.all, g = b ∨ w.heap.size ≤ g) ∧ (l ≠ [] → ∀ a, k.rp = some a → w.heap.size ≤ a.block)) ∧ ChgL [b] w w' := by
  have HS : Hid (SeN w0 s) := S
  have HY : Hid (Byt w b y) := Y
  have HB0 : Hid (w0.heap.size ≤ b) := hb
  have HBL : Hid (Below w0.heap.size w0 w) := bl
  have HF : Hid (y.left ≤ 9223372036854775807) := hf
  have HR : Hid (Sl w v l) := R
  have HK : Hid (NewOk id y l) := K
  have HSP : Hid (∀ a n c, v = .slice (some a) n c → a.block ≠ b) := hsep
  obtain ⟨p, cap, rfl, hru⟩ := R.open
  have HRU : Hid (Rul w p l) := hru
  clear S Y hb bl hf R K hru hsep
  have HID : Hid ((id : Int) = 0 ∨ (id : Int) = 1) := (by have := HK.out.id; omega : (id : Int) = 0 ∨ (id : Int) = 1)
  go_enter Tryd.func6, Tryd.ntmps6
  go_wp2_with fail
  refine (new_ok id w HK.out.id).mono ?_
  rintro e w1 ⟨tb, rfl, t1, htb, hb1⟩
  have T1 : Hid (Tab w1 tb (2000 + (id : Int) * 24) newT) := by exact_mod_cast t1
  have L1 : Hid (w.heap.size ≤ tb) := htb
  have B1 : Hid (Below w.heap.size w w1) := hb1
  clear t1 htb hb1
  go_wp2_with fail
  refine (pcheck_any p l cap s w1 (HS.out.below (t2 HBL.out B1.out)).sn (HRU.out.keep (fun a v hc => tk B1.out hc)) (by have := HK.out.ru.1; omega)).mono ?_
  rintro e w2 ⟨⟨v2, rfl, hv⟩, hb2⟩
  obtain rfl := chk_ok HK.out.ru hv
  have T2 : Hid (Tab w2 tb (2000 + (id : Int) * 24) newT) := T1.out.below hb2
  have B2 : Hid (Below w.heap.size w w2) := t2 B1.out hb2
  clear hv hb2 T1 B1
  go_wp2_with fail
  refine (open_ok b y w2 (HY.out.below B2.out) HK.out.on).mono ?_
  rintro e w3 ⟨⟨rfl, c3⟩, hb3⟩
  have L2 : Hid (tb < w2.heap.size) := T2.out.lt
  have B3 : Hid (Below w.heap.size w w3) := t2 B2.out hb3
  have T3 : Hid (Tab w3 tb (2000 + (id : Int) * 24) newT) := T2.out.below hb3
  have HS2 : Hid (w.heap.size ≤ w2.heap.size) := B2.out.size
  generalize w2.heap.size = ce at *
  have C3 : Hid (Cel w3 ce b false) := c3
  clear c3 hb3 T2 B2
  go_wp2_with fail
  refine (epoch_any ce b false y w3 C3.out (HY.out.below B3.out)).mono ?_
  rintro e w4 ⟨rfl, hb4⟩
  have B4 : Hid (Below w.heap.size w w4) := t2 B3.out hb4
  have C4 : Hid (Cel w4 ce b false) := C3.out.below hb4
  have T4 : Hid (Tab w4 tb (2000 + (id : Int) * 24) newT) := T3.out.below hb4
  clear hb4 C3 T3 B3
  go_wp2_with fail
  refine (newR_ok id (newest y.B).e w4 HID.out (by omega) (by have := HK.out.ep; omega)).mono ?_
  rintro e w5 ⟨⟨rfl, r5⟩, hb5⟩
  have L4 : Hid (ce < w4.heap.size) := C4.out.lt
  have B5 : Hid (Below w.heap.size w w5) := t2 B4.out hb5
  have C5 : Hid (Cel w5 ce b false) := C4.out.below hb5
  have T5 : Hid (Tab w5 tb (2000 + (id : Int) * 24) newT) := T4.out.below hb5
  generalize w4.heap.size = ro at *
  have R5 : Hid (Rol w5 ro (Ro.new id (newest y.B).e)) := r5
  clear hb5 C4 T4 B4 r5
  go_wp2_with fail
  refine (life_any ce b false y w5 C5.out (HY.out.below B5.out)).mono ?_
  rintro e w6 ⟨rfl, hb6⟩
  have B6 : Hid (Below w.heap.size w w6) := t2 B5.out hb6
  have C6 : Hid (Cel w6 ce b false) := C5.out.below hb6
  have T6 : Hid (Tab w6 tb (2000 + (id : Int) * 24) newT) := T5.out.below hb6
  have R6 : Hid (Rol w6 ro (Ro.new id (newest y.B).e)) := R5.out.below hb6
  have hwr : IntKind.i64.wrap (((newest y.B).l : Int) + 1) = ((newest y.B).l : Int) + 1 := by have := (newest_lt y.B).2.2; rw [IntKind.wrap_i64]; omega
  clear hb6 C5 T5 B5 R5
  go_wp2_with fail
  refine (epoch_any ce b false y w6 C6.out (HY.out.below B6.out)).mono ?_
  rintro e w7 ⟨rfl, hb7⟩
  have B7 : Hid (Below w.heap.size w w7) := t2 B6.out hb7
  have C7 : Hid (Cel w7 ce b false) := C6.out.below hb7
  have T7 : Hid (Tab w7 tb (2000 + (id : Int) * 24) newT) := T6.out.below hb7
  have R7 : Hid (Rol w7 ro (Ro.new id (newest y.B).e)) := R6.out.below hb7
  have Y7 : Hid (Byt w7 b y) := HY.out.below B7.out
  have LB : Hid (b < w.heap.size) := HY.out.lt
  clear hb7 C6 T6 B6 R6 hwr
  go_wp2_with fail
  have hg := tlt HS.out.c6
  simp only at hg
  refine (cput_any ce b false y (newest y.B).e ((newest y.B).l + 1) s w7 C7.out Y7.out (HS.out.below (t2 HBL.out B7.out)).s5 (by have := LB.out; have := HS2.out; omega) (by have := HB0.out; omega) (by have := HB0.out; have := LB.out; have := HS2.out; omega) HF.out).mono ?_
  rintro e w8 ⟨rfl, y8, c8, k8⟩
  have K8 : Hid (ChgL [b] w w8) := ((ChgL.of B7.out : ChgL [b, ce] w w7).trans (ChgL.two k8 (by simp) (by simp))).mono (fun q hq => by simp at hq; rcases hq with rfl | rfl; exact Or.inl (by simp); exact Or.inr HS2.out)
  have Y8 : Hid (Byt w8 b (putE false y (newest y.B).e ((newest y.B).l + 1)).2.1) := y8
  have C8 : Hid (Cel w8 ce b false) := by have := putE_off HK.out.pu; rw [this] at c8; exact c8
  have T8 : Hid (Tab w8 tb (2000 + (id : Int) * 24) newT) := T7.out.kept (k8.block tb T7.out.lt (by have := LB.out; have := L1.out; omega) (by have := L2.out; omega))
  have R8 : Hid (Rol w8 ro (Ro.new id (newest y.B).e)) := R7.out.kept (k8.block ro R7.out.lt (by have := LB.out; have := HS2.out; have := L4.out; omega) (by have := L4.out; omega))
  rw [HK.out.pu]
  clear y8 c8 k8 hg C7 T7 R7 Y7 B7
  simp only [terr]
  go_wp2_with fail
  refine (clone_any _ l w8 (HR.out.chg1 K8.out HSP.out) (by have := HK.out.ru.1; omega)).mono ?_
  rintro e w9 ⟨⟨q, qc, rfl, rq, rf⟩, hb9⟩
  have K9 : Hid (ChgL [b] w w9) := K8.out.then hb9
  have Y9 : Hid (Byt w9 b (putE false y (newest y.B).e ((newest y.B).l + 1)).2.1) := Y8.out.below hb9
  have C9 : Hid (Cel w9 ce b false) := C8.out.below hb9
  have T9 : Hid (Tab w9 tb (2000 + (id : Int) * 24) newT) := T8.out.below hb9
  have R9 : Hid (Rol w9 ro (Ro.new id (newest y.B).e)) := R8.out.below hb9
  have Q9 : Hid (Rul w9 q l) := rq
  have RL8 : Hid (ro < w8.heap.size) := R8.out.lt
  have QF : Hid (l ≠ [] → ∀ a, q = some a → w8.heap.size ≤ a.block) := rf
  have QL : Hid (l ≠ [] → ∀ a, q = some a → a.block < w9.heap.size) := fun hn a e => by
    obtain ⟨r, hr'⟩ := List.exists_mem_of_ne_nil _ hn
    obtain ⟨i, hi⟩ := List.getElem?_of_mem hr'
    obtain ⟨g, o, e2, h0, _⟩ := rq i r hi
    rw [e] at e2
    cases e2
    have q : g < w9.heap.size := tlt h0
    exact q
  have S89 : Hid (w8.heap.size ≤ w9.heap.size) := hb9.size
  clear rq rf hb9 Y8 C8 T8 R8 K8
  go_wp2_with fail
  refine (tnew_any tb w9).mono ?_
  rintro e w10 ⟨⟨X, M, rfl, hx, hm, te⟩, hb10⟩
  have K10 : Hid (ChgL [b] w w10) := K9.out.then hb10
  have Y10 : Hid (Byt w10 b (putE false y (newest y.B).e ((newest y.B).l + 1)).2.1) := Y9.out.below hb10
  have C10 : Hid (Cel w10 ce b false) := C9.out.below hb10
  have T10 : Hid (Tab w10 tb (2000 + (id : Int) * 24) newT) := T9.out.below hb10
  have R10 : Hid (Rol w10 ro (Ro.new id (newest y.B).e)) := R9.out.below hb10
  have Q10 : Hid (Rul w10 q l) := Q9.out.below hb10
  have E10 : Hid (Tel w10 X tb M 0 (fun _ => 0) 0) := te
  have XL : Hid (w9.heap.size ≤ X ∧ w9.heap.size ≤ M ∧ X < w10.heap.size ∧ M < w10.heap.size) := ⟨hx, hm, tlt te.c0, te.m.lt⟩
  clear hx hm te hb10 Y9 C9 T9 R9 K9 Q9
  go_wp2_with fail
  refine (mnew_any w10).mono ?_
  rintro e w11 ⟨⟨mi, rfl, m11, hmi⟩, hb11⟩
  have K11 : Hid (ChgL [b] w w11) := K10.out.then hb11
  have Y11 : Hid (Byt w11 b (putE false y (newest y.B).e ((newest y.B).l + 1)).2.1) := Y10.out.below hb11
  have C11 : Hid (Cel w11 ce b false) := C10.out.below hb11
  have T11 : Hid (Tab w11 tb (2000 + (id : Int) * 24) newT) := T10.out.below hb11
  have R11 : Hid (Rol w11 ro (Ro.new id (newest y.B).e)) := R10.out.below hb11
  have Q11 : Hid (Rul w11 q l) := Q10.out.below hb11
  have E11 : Hid (Tel w11 X tb M 0 (fun _ => 0) 0) := E10.out.below hb11
  have M11 : Hid (Mir w11 mi 0 newT) := m11
  have ML : Hid (w10.heap.size ≤ mi) := hmi
  clear m11 hmi hb11 Y10 C10 T10 R10 K10 Q10 E10
  go_wp2_with fail
  go_ret2
  have l1 := L1.out
  have l2 := L2.out
  have l3 := HS2.out
  have l4 := L4.out
  have l5 := RL8.out
  have l6 := XL.out
  have l7 := ML.out
  have l8 := M11.out.lt
  have l9 := S89.out
  have l10 := LB.out
  have l11 := E11.out.ne
  have l12 := HBL.out.size
  have l13 := HB0.out
  have l14 := K11.out.size
  refine ⟨⟨⟨w11.heap.size, ro, ce, b, X, tb, M, mi, q, qc⟩, rfl, rfl, ?_, fun g hg => by simp only [Bk.all, List.mem_cons, List.not_mem_nil, or_false] at hg; omega, fun hn a e => by have q1 := QF.out hn a e; omega⟩, K11.out.then (aB _ _)⟩
  have hb12 := aB w11 (.cells #[.pointer (some ⟨ro, 0, none⟩), .int .i64 id, .int .i64 ((newest y.B).l + 1), .int .i64 0, .slice q l.length qc, .pointer (some ⟨ce, 0, none⟩), .pointer (some ⟨X, 0, none⟩), .pointer (some ⟨mi, 0, none⟩)] 52)
  exact {
    nd := heap_alloc_new _ _
    ro := R11.out.below hb12
    rk := Ro.Ok.new HID.out (by omega) (by have := HK.out.ep; omega)
    ce := C11.out.below hb12
    yb := Y11.out.below hb12
    lf := Nat.le_trans (putE_left _ _ _ _) HF.out
    tb := T11.out.below hb12
    vs := Vers.new
    wt := WfT.new
    te := E11.out.below hb12
    mi := M11.out.below hb12
    wm := WfT.new
    ru := Q11.out.below hb12
    ds := ⟨by simp only; omega, by simp only; omega, by simp only; omega, by simp only; omega, by simp only; omega, by simp only; omega⟩
    g0 := fun g hg => by simp only [Bk.all, List.mem_cons, List.not_mem_nil, or_false] at hg; omega
    rb := fun hn a e => by
      have q1 := QF.out hn a e
      have q2 := QL.out hn a e
      refine ⟨by omega, fun hm => ?_⟩
      simp only [Bk.all, List.mem_cons, List.not_mem_nil, or_false] at hm
      omega
    id := HID.out
    bl := ChgL.below HBL.out (K11.out.then hb12) (fun g hg => by simp at hg; omega) }
theorem new_nd {w0 w : World} {s : Nat → Addr} (S : SeN w0 s) (id b : Nat) (y : By) (v : Value) (l : List Rl) (Y : Byt w b y) (hb : w0.heap.size ≤ b) (bl : Below w0.heap.size w0 w) (hf : y.left ≤ 9223372036854775807) (R : Sl w v l) (hsep : ∀ a n c, v = .slice (some a) n c → a.block ≠ b) (K : NewOk id y l) :
    Calls Tryd.prog 6 #[.int .i64 id, .pointer (some ⟨b, 0, none⟩), v] w fun e w' => (∃ k, e = .returned (.tuple #[.pointer (some ⟨k.nd, 0, none⟩), .nilIface]) ∧ k.yb = b ∧ Nd w0 w' k (No.new id y l) 0 0) ∧ ChgL [b] w w' :=
  (new_nd2 S id b y v l Y hb bl hf R hsep K).mono fun _ _ ⟨⟨k, h1, h2, h3, _⟩, h4⟩ => ⟨⟨k, h1, h2, h3⟩, h4⟩
end Go.Proofs.YtjfhompbeengmaaDoor
