/-
  number.digit, read, Text, Parse: contracts.
-/
import Derived.Test.YtipepljmfgjbpaaGreatDoorNMath
import Derived.Test.YtipepljmfgjbpaaGreatDoorShelf
import Derived.Laws.RangeString
import Derived.Laws.RangeAny
import Derived.Lib.LaidTab
import Derived.Lib.AppendIntMem
import Derived.Lib.SmallJoins
import Derived.WideLaws
import Derived.WalkSmall
namespace Go.Proofs.YtipepljmfgjbpaaGreatDoor.N2
open Go Go.RowKit Go.Sort Go.Shelf

theorem gTab : Tryz.prog.globalNamed "internal/strconv.uint64pow10" = some 4 := by kernel_rfl
/-- WHAT THE LIBRARY's TABLE HOLDS. -/
structure Glob (w : World) : Prop where
  tab : Lib.TabIs Tryz.prog w "internal/strconv.uint64pow10" .u64 Lib.pow10Tab
  big : 4 < w.heap.size
theorem Glob.below {w w' : World} (h : Glob w) (hb : Below w.heap.size w w') : Glob w' := by
  obtain ⟨h1, h4⟩ := h
  exact ⟨var?_below hb gTab h4 h1, Nat.lt_of_lt_of_le h4 hb.size⟩

theorem text_calls (n : Int) (hn : okI n) (w : World) (hG : Glob w) :
    Calls Tryz.prog 100 #[.int .i64 n] w fun e w' => e = .returned (.string (B (Lib.itoa n))) ∧ Below w.heap.size w w' := by
  have C := Tryz.strconv_FormatInt_10 n hn.1 hn.2 w hG.tab
  clear hG hn
  go_enter Tryz.func100, Tryz.ntmps100
  go_wp2_with fail
  refine C.mono ?_
  rintro e w' ⟨rfl, k, os, rfl⟩
  have hb : Below w.heap.size w (grow (w.drewN k) os) := Lib.below_grow _ _ (Nat.le_refl _) k os
  generalize grow (w.drewN k) os = w1 at *
  go_wp2_with fail
  go_ret
  exact ⟨rfl, hb⟩

theorem digit_calls (c : Int) (h0 : 0 ≤ c) (h1 : c ≤ 2147483647) (w : World) :
    Calls Tryz.prog 105 #[.int .i32 c] w fun e w' => e = .returned (.int .i64 (c - 48)) ∧ w = w' := by
  go_enter Tryz.func105, Tryz.ntmps105
  go_wp2
  go_ret
  exact ⟨rfl, rfl⟩

/-- What 'read' makes of a text: any text at all. -/
def readFrom (s : ByteArray) : Nat → Nat → Int → Int
  | 0, _, acc => acc
  | f + 1, pos, acc => if pos < s.size then readFrom s f (pos + (Utf8.decode s pos).2) (wrap64 (wrap64 (10 * acc) + (((Utf8.decode s pos).1 : Int) - 48))) else acc
def readV (s : ByteArray) : Int := readFrom s s.size 0 0
theorem readFrom_end (s : ByteArray) (f pos : Nat) (acc : Int) (h : ¬ pos < s.size) : readFrom s f pos acc = acc := by
  cases f with
  | zero => rfl
  | succ f => rw [readFrom, if_neg h]
theorem wrap64_ok (n : Int) : okI (wrap64 n) := by unfold okI wrap64; omega
theorem wrap64_id {n : Int} (h : okI n) : wrap64 n = n := by unfold okI at h; unfold wrap64; omega
theorem readFrom_ok (s : ByteArray) (f : Nat) : ∀ pos acc, okI acc → okI (readFrom s f pos acc) := by
  induction f with
  | zero => intro pos acc h; exact h
  | succ f ih =>
    intro pos acc h
    rw [readFrom]
    split
    · exact ih _ _ (wrap64_ok _)
    · exact h
theorem readV_ok (s : ByteArray) : okI (readV s) := readFrom_ok s _ _ _ (by unfold okI; omega)
theorem wrap_step (N d : Int) : wrap64 (wrap64 (10 * wrap64 N) + d) = wrap64 (10 * N + d) := by unfold wrap64; omega
theorem readFrom_dig (s : ByteArray) (hd : ∀ c ∈ s.data.toList, isDig c) (f : Nat) : ∀ (pos N : Nat), s.size ≤ pos + f → readFrom s f pos (wrap64 N) = wrap64 (numAt N (s.data.toList.drop pos) : Nat) := by
  induction f with
  | zero =>
    intro pos N h
    rw [List.drop_of_length_le (by rw [← Lib.size_eq]; omega)]
    rfl
  | succ f ih =>
    intro pos N h
    by_cases hp : pos < s.size
    · have hpl : pos < s.data.toList.length := by rw [← Lib.size_eq]; exact hp
      have hdr : s.data.toList.drop pos = s[pos] :: s.data.toList.drop (pos + 1) := by
        rw [List.drop_eq_getElem_cons hpl]; rfl
      have hmem : s[pos] ∈ s.data.toList := List.mem_of_mem_drop (by rw [hdr]; simp)
      have hdig := hd _ hmem
      unfold isDig at hdig
      rw [readFrom, if_pos hp, decode_ascii s pos hp (by omega), hdr, numAt_cons]
      simp only
      rw [wrap_step, show (10 * (N : Int) + ((s[pos].toNat : Int) - 48)) = ((10 * N + (s[pos].toNat - 48) : Nat) : Int) by omega]
      exact ih _ _ (by omega)
    · rw [readFrom_end _ _ _ _ hp, List.drop_of_length_le (by rw [← Lib.size_eq]; omega)]
      rfl
theorem readV_dec (u : Nat) : readV (B (Lib.decDigits u)) = wrap64 u := by
  have h := readFrom_dig (B (Lib.decDigits u)) (by intro c hc; exact decDigits_dig u c (by simpa using hc)) (B (Lib.decDigits u)).size 0 0 (by omega)
  unfold readV
  rw [show ((0 : Nat) : Int) = 0 from rfl, wrap64_id (by unfold okI; omega)] at h
  rw [h]
  simp only [List.drop_zero]
  rw [numAt_dec]

theorem width_pos (s : ByteArray) (pos : Nat) (h : pos < s.size) : 1 ≤ (Utf8.decode s pos).2 := by
  by_cases ha : (s[pos]'h).toNat < 128
  · rw [decode_ascii s pos h ha]
    exact Nat.le_refl _
  · exact (decode_high s pos h (by omega)).2

set_option maxRecDepth 100000 in
set_option maxHeartbeats 2000000 in
theorem read_calls (s : ByteArray) (w : World) :
    Calls Tryz.prog 98 #[.string s] w fun e w' => e = .returned (.int .i64 (readV s)) ∧ Below w.heap.size w w' := by
  go_enter Tryz.func98, Tryz.ntmps98
  go_wp2
  go_loopw [3] (fun n w' => ∃ (pos b : Nat) (acc : Int), w' = w.iter s pos ∧ n = .int .i64 acc ∧ Hid (readFrom s b pos acc = readV s) ∧ s.size ≤ pos + b) (fun _ w' => s.size - w'.iterPos w.heap.size)
  case atStart => exact ⟨0, s.size, 0, rfl, rfl, rfl, by omega⟩
  case round =>
    obtain ⟨pos, b, acc, rfl, rfl, hc, hb⟩ := hrel
    by_cases hp : pos < s.size
    · have hnx : ∀ ty, (Instr.next (.pointer (some ⟨w.heap.size, 0, none⟩)) true ty).run Tryz.prog (w.iter s pos) = _ := fun ty => run_next_any w s pos ty hp
      have hwd := width_pos s pos hp
      have hle := decode_le s pos
      have hD := fun W => digit_calls ((Utf8.decode s pos).1 : Int) (by omega) (by omega) W
      have HD := Lib.hid hD
      clear hD
      go_wp2_with (refine (HD.out _).mono ?_; rintro e w' ⟨rfl, rfl⟩)
      go_roundw
      case rel =>
        cases b with
        | zero => omega
        | succ b =>
          refine ⟨pos + (Utf8.decode s pos).2, b, _, rfl, rfl, Lib.hid ?_, by omega⟩
          rw [← hc.out, readFrom, if_pos hp]
      case measure =>
        simp
        omega
    · have hnx : ∀ ty, (Instr.next (.pointer (some ⟨w.heap.size, 0, none⟩)) true ty).run Tryz.prog (w.iter s pos) = _ := fun ty => run_next_end w s pos ty hp
      go_wp2
      go_ret
      have := hc.out
      rw [readFrom_end s b pos acc hp] at this
      subst this
      exact ⟨rfl, (Below.refl _ w).alloc (Nat.le_refl _) _⟩

/-- The number that Parse looks at. -/
def parseV (s : ByteArray) : Int := if Lib.hasPrefix s.data.toList [45] then wrap64 (-(readV (B (Lib.trimPrefix s.data.toList [45])))) else readV (B (Lib.trimPrefix s.data.toList [45]))
theorem parseV_ok (s : ByteArray) : okI (parseV s) := by
  unfold parseV
  split
  · exact wrap64_ok _
  · exact readV_ok _
theorem trim_dash (l : Bytes) : Lib.hasPrefix (45 :: l) [45] = true ∧ Lib.trimPrefix (45 :: l) [45] = l := by
  constructor <;> simp [Lib.hasPrefix, Lib.trimPrefix]
theorem trim_other (l : Bytes) (h : ∀ t, l ≠ 45 :: t) : Lib.hasPrefix l [45] = false ∧ Lib.trimPrefix l [45] = l := by
  have h1 : Lib.hasPrefix l [45] = false := by
    cases l with
    | nil => simp [Lib.hasPrefix]
    | cons c r =>
      have : c ≠ 45 := fun e => h r (by rw [e])
      simp only [Lib.hasPrefix, List.isPrefixOf, Bool.and_true, beq_eq_false_iff_ne]
      exact fun e => this e.symm
  exact ⟨h1, by simp [Lib.trimPrefix, h1]⟩
theorem parseV_itoa (n : Int) (h : okI n) : parseV (B (Lib.itoa n)) = n := by
  unfold parseV
  rw [show (B (Lib.itoa n)).data.toList = Lib.itoa n by simp]
  rcases itoa_cases n with ⟨u, rfl, e⟩ | ⟨u, h0, rfl, e⟩
  · obtain ⟨h1, h2⟩ := trim_other (Lib.decDigits u) (dec_ne_dash u)
    rw [e, h1, h2, readV_dec, if_neg (by decide)]
    exact wrap64_id h
  · obtain ⟨h1, h2⟩ := trim_dash (Lib.decDigits u)
    rw [e, h1, h2, readV_dec, if_pos rfl]
    unfold okI at h
    unfold wrap64
    omega
theorem parse_yes (s : ByteArray) (h : Lib.itoa (parseV s) = s.data.toList) : numParse s.data.toList = some (parseV s) := by
  rw [← h]; exact numParse_itoa (parseV_ok s)
theorem parse_no (s : ByteArray) (h : Lib.itoa (parseV s) ≠ s.data.toList) : numParse s.data.toList = none := by
  refine numParse_none fun n hn e => h ?_
  have e2 : s = B (Lib.itoa n) := by rw [← e]
  rw [e2, parseV_itoa n hn]
end Go.Proofs.YtipepljmfgjbpaaGreatDoor.N2
