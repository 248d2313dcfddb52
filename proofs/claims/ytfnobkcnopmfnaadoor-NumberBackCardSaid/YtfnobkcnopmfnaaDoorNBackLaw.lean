/-
  NumberBack: the law, for each slice that came in.
-/
import Derived.Test.YtfnobkcnopmfnaaDoorNBack
namespace Go.Proofs.YtfnobkcnopmfnaaDoor.back
open Go Go.RowKit Go.Shelf Go.Sort Go.Proofs.YtfnobkcnopmfnaaDoor Go.Proofs.YtfnobkcnopmfnaaDoor.texts

set_option maxRecDepth 100000 in
set_option maxHeartbeats 4000000 in
theorem empty (a : Option Addr) (c : Nat) (n : Int) (w : World) (hG : Glob w) :
    Calls Tryd.prog 5 #[.slice a 0 c, .int .i64 n] w fun e w' => e = .returned (.bool true) ∧ Below w.heap.size w w' := by
  have HG := Lib.hid hG
  clear hG
  have hL := list_calls ⟨#[]⟩ (by decide)
  unfold ListIs at hL
  rw [show numList (⟨#[]⟩ : ByteArray).data.toList = some [] from rfl] at hL
  simp only [encE, listOr] at hL
  have HL := Lib.hid hL
  clear hL
  go_enter Tryd.func5, Tryd.ntmps5
  go_wp2_with fail
  go_loop [5, 6] (fun s i => i = .int .i64 0 ∧ s = .string ⟨#[]⟩) (fun _ _ => 0)
  case atStart => exact ⟨rfl, rfl⟩
  case round =>
    obtain ⟨rfl, rfl⟩ := hrel
    go_wp2_with fail
    refine (HL.out _ HG.out).mono ?_
    rintro e w1 ⟨v2, rfl, hi, hb⟩
    obtain ⟨a2, c2, rfl⟩ := hi.nil
    have B1 := Lib.hid hb
    clear hb hi HL
    go_wp2_with fail
    refine (same_nil a a2 c c2 _).mono ?_
    rintro e w' ⟨rfl, rfl⟩
    go_wp2_with fail
    refine (works_calls _ (HG.out.below B1.out)).mono ?_
    rintro e w3 ⟨rfl, hb⟩
    have B3 := Lib.hid (after B1.out hb)
    clear hb B1
    go_wp2_with fail
    go_ret
    exact ⟨rfl, B3.out⟩

/-- The law, at a slice that reads as these numbers. -/
theorem law (v : Value) (ns : List Int) (n : Int) (hm : ns.length ≤ 9223372036854775807) (hok : ∀ x ∈ ns, okI x) (hn : okI n) (w : World) (hI : (∃ a c, v = .slice a 0 c ∧ ns = []) ∨ Ints w v ns) (hG : Glob w) :
    Calls Tryd.prog 5 #[v, .int .i64 n] w fun e w' => e = .returned (.bool true) ∧ Below w.heap.size w w' := by
  rcases hI with ⟨a, c, rfl, rfl⟩ | hI
  · exact empty a c n w hG
  · by_cases h : 100 < ns.length
    · exact long v ns n h hm w hI hG
    · exact short v ns n (by omega) hok hn w hI hG
end Go.Proofs.YtfnobkcnopmfnaaDoor.back
