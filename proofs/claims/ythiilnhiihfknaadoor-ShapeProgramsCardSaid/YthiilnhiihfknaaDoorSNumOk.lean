/-
  A numbered program is right: checkB (numbP l).
-/
import Derived.Test.YthiilnhiihfknaaDoorSNumP
import Derived.Test.YthiilnhiihfknaaDoorSCheck
namespace Go.Proofs.YthiilnhiihfknaaDoor
open Go Go.RowKit

theorem numbL_len_of (k : Nat) (l : List St) (n0 m : Nat) (h : vis FA k l n0 = some m) : (numbL k l n0).1.length = l.length := by
  cases k with
  | zero =>
    have : l = [] := by unfold vis at h; split at h; assumption; cases h
    subst this; rfl
  | succ k =>
    have := numbPre_len k l n0 l.length (Nat.le_refl _)
    unfold numbPre at this
    rw [List.take_length] at this
    rw [numbL]
    exact this
theorem headB_numbSt (k : Nat) (n a b : Nat) (s : St) (ha : vis FA k s.body (n + 1) = some a) (hb : vis FA k s.els a = some b) : headB (numbSt k n s) = headB s := by
  have h1 := numbL_len_of k s.body (n + 1) a ha
  have e1 : (numbL k s.body ((n : Int) + 1)).2 = a := by have := numb_vis FA k s.body (n + 1) a ha; simpa using this
  have h2 := numbL_len_of k s.els a b hb
  have q1 : (numbL k s.body ((n : Int) + 1)).1.length = s.body.length := by simpa using h1
  have q2 : decide ((numbL k s.body ((n : Int) + 1)).1 = []) = decide (s.body = []) := by
    rw [decide_eq_decide, ← List.length_eq_zero_iff, ← List.length_eq_zero_iff, q1]
  have q3 : decide ((numbL k s.els (a : Int)).1 = []) = decide (s.els = []) := by
    rw [decide_eq_decide, ← List.length_eq_zero_iff, ← List.length_eq_zero_iff, h2]
  unfold headB numbSt
  simp only
  cases stRow s.kind with
  | none => rfl
  | some r =>
    simp only [rowHead, e1, q2, q3]
theorem numb_right (k : Nat) : ∀ (l : List St) (n0 m : Nat), n0 ≤ 200 → vis FA k l n0 = some m → vis FA k (numbL k l n0).1 n0 = some m ∧ vis FB k (numbL k l n0).1 n0 = some m := by
  induction k with
  | zero =>
    intro l n0 m _ h
    have : l = [] := by unfold vis at h; split at h; assumption; cases h
    subst this
    exact ⟨h, by simpa [vis, numbL] using h⟩
  | succ k ih =>
    intro l n0 m h0 h
    have key : ∀ i, i ≤ l.length → ∀ n, (l.take i).foldlM (visS FA k) n0 = some n → (numbPre k l n0 i).1.foldlM (visS FA k) n0 = some n ∧ (numbPre k l n0 i).1.foldlM (visS FB k) n0 = some n := by
      intro i
      induction i with
      | zero =>
        intro _ n hn
        simp at hn
        subst hn
        exact ⟨rfl, rfl⟩
      | succ i ih2 =>
        intro hi n hn
        have hfs := fold_snoc (F := FA) (k := k) (n0 := n0) (show i < l.length by omega)
        rw [hn] at hfs
        cases hq : (l.take i).foldlM (visS FA k) n0 with
        | none => rw [hq] at hfs; cases hfs
        | some q =>
          obtain ⟨a, b, h200, hF, hb1, hb2, hn2, ha2, hbb2⟩ := vis_at h h0 (show i < l.length by omega) hq
          rw [hn] at hn2
          cases hn2
          obtain ⟨g1, g2⟩ := ih2 (by omega) q hq
          have hp := pre_vis FA k l i n0 q hq
          have ea : (numbL k l[i].body ((q : Int) + 1)).2 = a := by have := numb_vis FA k l[i].body (q + 1) a hb1; simpa using this
          obtain ⟨x1, x2⟩ := ih l[i].body (q + 1) a (by omega) hb1
          obtain ⟨y1, y2⟩ := ih l[i].els a n (by omega) hb2
          have hh := headB_numbSt k q a n l[i] hb1 hb2
          have z1 : visS FA k q (numbSt k (q : Int) l[i]) = some n := by
            unfold visS
            rw [if_neg (by
              have : FA q (numbSt k (q : Int) l[i]) = true := by show headB _ = true; rw [hh]; exact hF
              simp [this]; omega)]
            show (vis FA k (numbL k l[i].body ((q : Int) + 1)).1 (q + 1)).bind (fun n => vis FA k (numbL k l[i].els (numbL k l[i].body ((q : Int) + 1)).2).1 n) = some n
            rw [ea, show ((q : Int) + 1) = ((q + 1 : Nat) : Int) by omega, x1]
            exact y1
          have z2 : visS FB k q (numbSt k (q : Int) l[i]) = some n := by
            unfold visS
            rw [if_neg (by
              have : FB q (numbSt k (q : Int) l[i]) = true := by simp [FB, numbSt]
              simp [this]; omega)]
            show (vis FB k (numbL k l[i].body ((q : Int) + 1)).1 (q + 1)).bind (fun n => vis FB k (numbL k l[i].els (numbL k l[i].body ((q : Int) + 1)).2).1 n) = some n
            rw [ea, show ((q : Int) + 1) = ((q + 1 : Nat) : Int) by omega, x2]
            exact y2
          rw [numbPre_succ (by omega), hp]
          simp only [List.foldlM_append, g1, g2]
          exact ⟨by simp [z1], by simp [z2]⟩
    have h1 : (l.take l.length).foldlM (visS FA k) n0 = some m := by rw [List.take_length, ← vis_succ]; exact h
    obtain ⟨k1, k2⟩ := key l.length (Nat.le_refl _) m h1
    have he : (numbL (k + 1) l n0).1 = (numbPre k l n0 l.length).1 := by
      unfold numbPre
      rw [List.take_length, numbL]
    rw [he, vis_succ, vis_succ]
    exact ⟨k1, k2⟩
theorem numbF_right (f : Fn) (h : fnB f = true) : fnB (numbF f) = true ∧ numbB (numbF f) = true := by
  simp only [fnB, Bool.and_eq_true] at h
  obtain ⟨⟨⟨h1, h2⟩, h3⟩, h4⟩ := h
  obtain ⟨m, hm⟩ := Option.isSome_iff_exists.1 h4
  obtain ⟨q1, q2⟩ := numb_right 20 f.body 0 m (by omega) hm
  have q3 := numb_vis FA 20 f.body 0 m hm
  refine ⟨?_, ?_⟩
  · simp only [fnB, Bool.and_eq_true]
    refine ⟨⟨⟨h1, h2⟩, h3⟩, ?_⟩
    show (vis FA 20 (numbL 20 f.body ((0 : Nat) : Int)).1 0).isSome = true
    rw [q1]; rfl
  · show (match vis FB 20 (numbL 20 f.body ((0 : Nat) : Int)).1 0 with
      | none => false
      | some n => decide ((numbL 20 f.body ((0 : Nat) : Int)).2 = (n : Int))) = true
    rw [q2, q3]
    simp
theorem checkB_numbP (l : List Fn) : checkB (numbP l) = true := by
  unfold numbP
  cases h : fnsB l with
  | false => rfl
  | true =>
    simp only [fnsB, Bool.and_eq_true, decide_eq_true_eq, List.all_eq_true] at h
    simp only [if_true, checkB, fnsB, Bool.and_eq_true, decide_eq_true_eq, List.all_eq_true, List.length_map, List.mem_map]
    refine ⟨⟨h.1, ?_⟩, ?_⟩
    · rintro _ ⟨f, hf, rfl⟩; exact (numbF_right f (h.2 f hf)).1
    · rintro _ ⟨f, hf, rfl⟩; exact (numbF_right f (h.2 f hf)).2
end Go.Proofs.YthiilnhiihfknaaDoor
