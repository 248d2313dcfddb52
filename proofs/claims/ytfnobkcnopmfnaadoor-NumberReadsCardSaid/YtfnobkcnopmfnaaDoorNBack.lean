/-
  NumberBack: the law's walk.
-/
import Derived.Test.YtfnobkcnopmfnaaDoorNTexts
import Derived.Lib.QuietBelow
import Derived.Lib.AppendIntMem
namespace Go.Proofs.YtfnobkcnopmfnaaDoor.back
open Go Go.RowKit Go.Shelf Go.Sort Go.Proofs.YtfnobkcnopmfnaaDoor Go.Proofs.YtfnobkcnopmfnaaDoor.texts

theorem joinN_snoc (l : List Int) (x : Int) : joinN (l ++ [x]) = if l = [] then Lib.itoa x else joinN l ++ 44 :: Lib.itoa x := by
  induction l with
  | nil => rfl
  | cons a l ih =>
    rw [if_neg (by simp)]
    cases l with
    | nil => rfl
    | cons b l =>
      rw [List.cons_append, List.cons_append, joinN, joinN]
      rw [if_neg (by simp), List.cons_append] at ih
      rw [ih, List.append_assoc]
      rfl
theorem joinN_len (l : List Int) (h : ∀ n ∈ l, okI n) : (joinN l).length ≤ 21 * l.length := by
  induction l with
  | nil => simp [joinN]
  | cons a l ih =>
    have h1 := itoa_len a (h a (by simp))
    have h2 := ih (fun n hn => h n (List.mem_cons_of_mem _ hn))
    cases l with
    | nil => simp only [joinN, List.length_cons, List.length_nil]; omega
    | cons b l =>
      rw [joinN, List.length_append, List.length_cons, List.length_cons (a := a)]
      omega

set_option maxRecDepth 100000 in
set_option maxHeartbeats 4000000 in
theorem long (v : Value) (ns : List Int) (n : Int) (h : 100 < ns.length) (hm : ns.length ≤ 9223372036854775807) (w : World) (hI : Ints w v ns) (hG : Glob w) :
    Calls Tryd.prog 5 #[v, .int .i64 n] w fun e w' => e = .returned (.bool true) ∧ Below w.heap.size w w' := by
  obtain ⟨a, c, rfl⟩ := hI.slice
  have HG := Lib.hid hG
  have e1 : (100 : Int) < ns.length := by omega
  clear hG hI
  go_enter Tryd.func5, Tryd.ntmps5
  go_wp2_with fail
  refine (works_calls _ HG.out).mono ?_
  rintro e w2 ⟨rfl, hb⟩
  have B2 := Lib.hid hb
  clear hb
  go_wp2_with fail
  go_ret
  exact ⟨rfl, B2.out⟩

/-- What one round's calls give. -/
structure Rd (x n : Int) (tx tn : Bytes) : Prop where
  t : ∀ W, Glob W → Calls Tryd.prog 16 #[.int .i64 x] W fun e w' => e = .returned (.string (B tx)) ∧ Below W.heap.size W w'
  u : ∀ W, Glob W → Calls Tryd.prog 16 #[.int .i64 n] W fun e w' => e = .returned (.string (B tn)) ∧ Below W.heap.size W w'
  p : ∀ W, Glob W → Calls Tryd.prog 12 #[.string (B tx)] W fun e w' => e = .returned (.tuple #[.int .i64 x, .int .i64 0]) ∧ Below W.heap.size W w'
  some : tx.isEmpty = false
  len : tx.length ≤ 20
  eq : (tx == tn) = (x == n)
theorem rd (x n : Int) (hx : okI x) (hn : okI n) : Rd x n (Lib.itoa x) (Lib.itoa n) := by
  refine ⟨text_calls x hx, text_calls n hn, fun W hG => ?_, ?_, itoa_len x hx, ?_⟩
  · have := parse_calls (B (Lib.itoa x)) W hG
    rw [show (B (Lib.itoa x)).data.toList = Lib.itoa x by simp, numParse_itoa hx] at this
    exact this
  · simpa using itoa_ne x
  · by_cases e : x = n
    · subst e; simp
    · rw [show (x == n) = false from beq_eq_false_iff_ne.2 e, beq_eq_false_iff_ne]
      exact fun h => e (itoa_inj h)

set_option maxRecDepth 100000 in
set_option maxHeartbeats 4000000 in
theorem short (v : Value) (ns : List Int) (n : Int) (h : ns.length ≤ 100) (hok : ∀ x ∈ ns, okI x) (hn : okI n) (w : World) (hI : Ints w v ns) (hG : Glob w) :
    Calls Tryd.prog 5 #[v, .int .i64 n] w fun e w' => e = .returned (.bool true) ∧ Below w.heap.size w w' := by
  have HI := Lib.hid hI
  obtain ⟨a, c, rfl⟩ := hI.slice
  have hcell : ∀ k (hk : k < ns.length), ∃ b o, a = some ⟨b, o, none⟩ ∧ b < w.heap.size ∧ w.cell? ⟨b, o + k, none⟩ = some (.int .i64 ns[k]) := by
    intro k hk
    rcases hI.is with ⟨_, rfl⟩ | ⟨b, o, c', e, hb, hc⟩
    · simp at hk
    · cases e
      exact ⟨b, o, rfl, hb, hc k _ (List.getElem?_eq_getElem hk)⟩
  have HC := Lib.hid hcell
  have HOK := Lib.hid hok
  have HN := Lib.hid hn
  have HG := Lib.hid hG
  have e1 : ¬ (100 : Int) < ns.length := by omega
  clear hG hI hcell hok hn
  go_enter Tryd.func5, Tryd.ntmps5
  go_wp2_with fail
  go_loopw [5, 6] (fun s i wr => ∃ k : Nat, k ≤ ns.length ∧ i = .int .i64 k ∧ s = .string (B (joinN (ns.take k))) ∧ Hid (Below w.heap.size w wr)) (fun _ i _ => ns.length - (intOf i).toNat)
  case atStart => exact ⟨0, Nat.zero_le _, rfl, rfl, Below.refl _ _⟩
  case round =>
    obtain ⟨k, hk, rfl, rfl, hB⟩ := hrel
    by_cases hlt : k < ns.length
    · have hx := HOK.out ns[k] (List.getElem_mem hlt)
      have hR := rd ns[k] n hx HN.out
      obtain ⟨b, o, rfl, hbw, hc⟩ := HC.out k hlt
      have hj := joinN_snoc (ns.take k) ns[k]
      rw [← List.take_succ_eq_append_getElem hlt] at hj
      have hjl := joinN_len (ns.take k) (fun x hx => HOK.out x (List.mem_of_mem_take hx))
      rw [List.length_take] at hjl
      have hsz : (B (joinN (ns.take k))).size = (joinN (ns.take k)).length := by simp [ByteArray.size]
      have hk0 : (ns.take k = []) ↔ k = 0 := by
        rw [List.take_eq_nil_iff]
        constructor
        · rintro (h | h)
          · exact h
          · subst h; simp at hlt
        · exact fun h => .inl h
      have hj' : (k = 0 ∧ joinN (ns.take (k + 1)) = Lib.itoa ns[k]) ∨ (k ≠ 0 ∧ joinN (ns.take (k + 1)) = joinN (ns.take k) ++ 44 :: Lib.itoa ns[k]) := by
        by_cases e : k = 0
        · left; exact ⟨e, by rw [hj, if_pos (hk0.2 e)]⟩
        · right; exact ⟨e, by rw [hj, if_neg (fun h => e (hk0.1 h))]⟩
      have hj0 : k = 0 → joinN (ns.take k) = [] := fun e => by rw [hk0.2 e]; rfl
      generalize joinN (ns.take k) = ja at *
      generalize Lib.itoa ns[k] = tx at *
      generalize Lib.itoa n = tn at *
      generalize ns[k] = x at *
      have HR := Lib.hid hR
      have HJ := Lib.hid hj'
      have HJ0 := Lib.hid hj0
      have hlen := hR.len
      have hemp := hR.some
      have m1 : ¬ 9223372036854775807 < ja.length + 1 := by omega
      have m2 : ¬ 9223372036854775807 < ja.length + tx.length := by omega
      have m3 : ¬ 9223372036854775807 < ja.length + 1 + tx.length := by omega
      have q1 : wr.cell? ⟨b, o + k, none⟩ = some (.int .i64 x) := (hB.out.cell (p := ⟨b, o + k, none⟩) hbw).trans hc
      have HC1 := Lib.hid hc
      clear hR hj hj' hj0 hk0 hx hc hjl hsz HC HOK HN
      go_wp2_with fail
      refine (HR.out.t _ (HG.out.below hB.out)).mono ?_
      rintro e w1 ⟨rfl, hb⟩
      have B1 := Lib.hid (after hB.out hb)
      clear hb hB q1
      go_wp2_with fail
      refine (HR.out.p _ (HG.out.below B1.out)).mono ?_
      rintro e w2 ⟨rfl, hb⟩
      have B2 := Lib.hid (after B1.out hb)
      have q2 := (B2.out.cell (p := ⟨b, o + k, none⟩) hbw).trans HC1.out
      clear hb B1
      have Q2 := Lib.hid q2
      clear q2
      go_wp2_with fail
      have q2 := fun d os => cell_regrown Q2.out d os
      have cU := fun d os => Calls.regrown_of (d := d) (os := os) (HR.out.u (grow (redrawn w2 d) os) ((HG.out.below B2.out).below (below_regrown _ d os)))
      have heq := HR.out.eq
      have hidx0 : (0 : Int) ≤ k := by omega
      have hidx1 : (k : Int) < ns.length := by omega
      have eb : ((B tx).toList == (B tn).toList) = (x == n) := by rw [Lib.toList_data, Lib.toList_data]; simpa using heq
      have ec : (B tx).toList.isEmpty = false := by rw [Lib.toList_data]; simpa using hemp
      have el : decide ((20 : Int) < tx.length) = false := by simp; omega
      refine wp_region_quiet_below (by kernel_rfl) (by kernel_rfl) ?_
      repeat (quiet_step (first | with_reducible exact cU _ _))
      refine wpQuiet_nil ?_
      intro _ hw'
      obtain ⟨⟨dq, osq⟩, hw''⟩ := hw'
      subst hw''
      have B3 := Lib.hid (B2.out.trans ((below_regrown w2 dq osq).mono B2.out.size))
      clear q2 cU B2 HR Q2 HC1 heq eb ec el hemp
      generalize grow (redrawn w2 dq) osq = w3 at *
      rcases HJ.out with ⟨h0, hj⟩ | ⟨h0, hj⟩
      · have e0 := HJ0.out h0
        subst h0 e0
        have HJJ := Lib.hid hj
        clear hj HJ HJ0
        go_wp2_with fail
        go_roundw
        case rel => exact ⟨1, by omega, by go_num, by show Value.string (B [] ++ B tx) = _; rw [HJJ.out, B_append]; rfl, B3⟩
        case measure => simp [intOf] <;> omega
      · have hk1 : (0 : Int) < k := by omega
        have HJJ := Lib.hid hj
        clear hj HJ HJ0 h0
        go_wp2_with fail
        go_roundw
        case rel => exact ⟨k + 1, by omega, by go_num, by show Value.string (B ja ++ B [44] ++ B tx) = _; rw [HJJ.out, B_append, B_append, List.append_assoc]; rfl, B3⟩
        case measure => simp [intOf] <;> omega
    · obtain rfl : k = ns.length := by omega
      have htk : ns.take ns.length = ns := List.take_of_length_le (Nat.le_refl _)
      have hjl := joinN_len ns HOK.out
      have hL := list_calls (B (joinN ns)) (by simp [ByteArray.size]; omega)
      unfold ListIs at hL
      rw [show (B (joinN ns)).data.toList = joinN ns by simp, numList_join ns HOK.out] at hL
      simp only [encE, listOr] at hL
      have HL := Lib.hid hL
      rw [htk]
      clear hL hjl htk HC HOK HN
      generalize joinN ns = js at *
      go_wp2_with fail
      refine (HL.out _ (HG.out.below hB.out)).mono ?_
      rintro e w1 ⟨v2, rfl, hi, hb⟩
      have B1 := Lib.hid (after hB.out hb)
      have J1 := Lib.hid hi
      clear hb hi hB HL
      have I1 := Lib.hid (HI.out.below B1.out)
      go_wp2_with fail
      refine (same_true _ v2 ns _ I1.out J1.out (by omega)).mono ?_
      rintro e w2 ⟨rfl, hb⟩
      have B2 := Lib.hid (after B1.out hb)
      clear hb B1 I1 J1
      go_wp2_with fail
      refine (works_calls _ (HG.out.below B2.out)).mono ?_
      rintro e w3 ⟨rfl, hb⟩
      have B3 := Lib.hid (after B2.out hb)
      clear hb B2
      go_wp2_with fail
      go_ret
      exact ⟨rfl, B3.out⟩
end Go.Proofs.YtfnobkcnopmfnaaDoor.back
