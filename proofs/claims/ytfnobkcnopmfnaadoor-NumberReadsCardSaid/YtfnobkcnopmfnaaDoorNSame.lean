/-
  rewindref02.Same: its contract.
-/
import Derived.Test.YtfnobkcnopmfnaaDoorNBase
import Derived.RegionTactic
import Derived.ChangeAlike
import Derived.Outline
namespace Go.Proofs.YtfnobkcnopmfnaaDoor
open Go Go.RowKit Go.Sort

theorem Ints.slice {W : World} {v : Value} {l : List Int} (h : Ints W v l) : ∃ a c, v = .slice a l.length c := by
  rcases h.is with ⟨rfl, rfl⟩ | ⟨b, o, c, rfl, _⟩
  · exact ⟨_, _, rfl⟩
  · exact ⟨_, _, rfl⟩

set_option maxRecDepth 100000 in
set_option maxHeartbeats 2000000 in
theorem same_len (v1 v2 : Value) (l m : List Int) (w : World) (h1 : Ints w v1 l) (h2 : Ints w v2 m) (hl : l.length ≠ m.length) :
    Calls Tryd.prog 18 #[v1, v2] w fun e w' => e = .returned (.bool false) ∧ w = w' := by
  obtain ⟨a1, c1, rfl⟩ := h1.slice
  obtain ⟨a2, c2, rfl⟩ := h2.slice
  have e1 : ((l.length : Int) == m.length) = false := by rw [beq_eq_false_iff_ne]; omega
  have e2 : ((l.length : Int) != m.length) = true := by simp [bne, e1]
  clear hl h1 h2
  go_enter Tryd.func18, Tryd.ntmps18
  go_wp2_with fail
  go_ret
  exact ⟨rfl, rfl⟩

set_option maxRecDepth 100000 in
set_option maxHeartbeats 2000000 in
theorem same_nil (a1 a2 : Option Addr) (c1 c2 : Nat) (w : World) :
    Calls Tryd.prog 18 #[.slice a1 0 c1, .slice a2 0 c2] w fun e w' => e = .returned (.bool true) ∧ w = w' := by
  go_enter Tryd.func18, Tryd.ntmps18
  go_wp2_with fail
  go_loop [5] (fun i => i = .int .i64 0) (fun _ => 0)
  case atStart => rfl
  case round =>
    obtain rfl := hrel
    go_wp2_with fail
    go_ret
    exact ⟨rfl, rfl⟩

set_option maxRecDepth 100000 in
set_option maxHeartbeats 4000000 in
theorem same_some (b1 o1 c1 b2 o2 c2 : Nat) (l m : List Int) (w : World) (hl : l.length = m.length) (hm : m.length ≤ 100000000) (hb1 : b1 < w.heap.size) (hb2 : b2 < w.heap.size)
    (h1 : ∀ (k : Nat) (n : Int), l[k]? = some n → w.cell? ⟨b1, o1 + k, none⟩ = some (.int .i64 n)) (h2 : ∀ (k : Nat) (n : Int), m[k]? = some n → w.cell? ⟨b2, o2 + k, none⟩ = some (.int .i64 n)) :
    Calls Tryd.prog 18 #[.slice (some ⟨b1, o1, none⟩) m.length c1, .slice (some ⟨b2, o2, none⟩) m.length c2] w fun e w' => e = .returned (.bool (l == m)) ∧ Below w.heap.size w w' := by
  have H1 := Lib.hid h1
  have H2 := Lib.hid h2
  have HL := Lib.hid hl
  clear h1 h2 hl
  go_enter Tryd.func18, Tryd.ntmps18
  go_wp2_with fail
  go_loopw [5] (fun i wr => ∃ k : Nat, k ≤ m.length ∧ i = .int .i64 k ∧ Hid (l.take k = m.take k) ∧ Hid (Below w.heap.size w wr)) (fun i _ => m.length - (intOf i).toNat)
  case atStart => exact ⟨0, Nat.zero_le _, rfl, rfl, Below.refl _ _⟩
  case round =>
    obtain ⟨k, hk, rfl, hT, hB⟩ := hrel
    by_cases hlt : k < m.length
    · have hlk : k < l.length := by rw [HL.out]; exact hlt
      have q1 : wr.cell? ⟨b1, o1 + k, none⟩ = some (.int .i64 l[k]) := (hB.out.cell (p := ⟨b1, o1 + k, none⟩) hb1).trans (H1.out k _ (List.getElem?_eq_getElem hlk))
      have q2 : wr.cell? ⟨b2, o2 + k, none⟩ = some (.int .i64 m[k]) := (hB.out.cell (p := ⟨b2, o2 + k, none⟩) hb2).trans (H2.out k _ (List.getElem?_eq_getElem hlt))
      have hD := Lib.hid (hB.out.drew)
      by_cases he : l[k] = m[k]
      · have hN : l.take (k + 1) = m.take (k + 1) := by
          rw [List.take_succ_eq_append_getElem hlk, List.take_succ_eq_append_getElem hlt, hT.out, he]
        have HN := Lib.hid hN
        rw [he] at q1
        clear hN he
        generalize m[k] = x at *
        go_wp2_with fail
        go_region
        go_wp2_with fail
        go_roundw
        case rel => exact ⟨k + 1, by omega, by go_num, HN, hD⟩
        case measure => simp [intOf]; omega
      · have hne : l ≠ m := fun e => by subst e; exact he rfl
        have HNE := Lib.hid (show (l == m) = false by rw [beq_eq_false_iff_ne]; exact hne)
        have e1 : (l[k] == m[k]) = false := by rw [beq_eq_false_iff_ne]; exact he
        have e2 : (l[k] != m[k]) = true := by simp [bne, e1]
        clear hne he
        generalize m[k] = x at *
        generalize l[k] = y at *
        go_wp2_with fail
        go_region
        go_wp2_with fail
        go_ret
        exact ⟨by rw [HNE.out]; rfl, hD.out⟩
    · obtain rfl : k = m.length := by omega
      have e := hT.out
      rw [List.take_of_length_le (Nat.le_of_eq HL.out), List.take_of_length_le (Nat.le_refl _)] at e
      have HE := Lib.hid (show (l == m) = true by rw [e]; simp)
      clear e
      go_wp2_with fail
      go_ret
      exact ⟨by rw [HE.out]; rfl, hB.out⟩

theorem same_ref (v1 v2 : Value) (l m : List Int) (w : World) (h1 : Ints w v1 l) (h2 : Ints w v2 m) (hm : m.length ≤ 100000000) :
    Calls Tryd.prog 18 #[v1, v2] w fun e w' => e = .returned (.bool (l == m)) ∧ Below w.heap.size w w' := by
  by_cases hl : l.length = m.length
  · by_cases h0 : m.length = 0
    · have em := List.length_eq_zero_iff.1 h0
      have el := List.length_eq_zero_iff.1 (hl.trans h0)
      subst em el
      obtain ⟨a1, c1, rfl⟩ := h1.nil
      obtain ⟨a2, c2, rfl⟩ := h2.nil
      exact (same_nil a1 a2 c1 c2 w).mono fun e w' ⟨h1, h2⟩ => ⟨h1, by rw [← h2]; exact Below.refl _ _⟩
    · rcases h1.is with ⟨_, rfl⟩ | ⟨b1, o1, c1, rfl, hb1, q1⟩
      · exact absurd hl.symm h0
      · rcases h2.is with ⟨_, rfl⟩ | ⟨b2, o2, c2, rfl, hb2, q2⟩
        · exact absurd rfl h0
        · rw [hl]
          exact same_some b1 o1 c1 b2 o2 c2 l m w hl hm hb1 hb2 q1 q2
  · rw [show (l == m) = false by rw [beq_eq_false_iff_ne]; exact fun e => hl (by rw [e])]
    exact (same_len v1 v2 l m w h1 h2 hl).mono fun e w' ⟨h1, h2⟩ => ⟨h1, by rw [← h2]; exact Below.refl _ _⟩
end Go.Proofs.YtfnobkcnopmfnaaDoor
