/-
  The examples of works, as plain facts. No program is named here.
-/
import Derived.Test.YtoldhocdfkndbaaGreatDoorEMath
import Derived.Test.YtoldhocdfkndbaaGreatDoorLMath
import Derived.Tactics
namespace Go.Proofs.YtoldhocdfkndbaaGreatDoor.E5
open Go Go.Proofs.YtoldhocdfkndbaaGreatDoor

def tlOf (l : List L4.Tk) : TL := l.map fun t => (t.k, t.t)
/-- The tokens of a text; none if it is wrong. -/
def tlS (s : Bytes) : TL := if (L4.scan s).2 = none then tlOf (L4.scan s).1 else []
def vE (s : Bytes) : Ex := ⟨3, 0, 0, s, []⟩
def nE (n : Int) : Ex := ⟨1, 0, n, [], []⟩
def pE (op : Int) (a b : Ex) : Ex := ⟨5, op, 0, [], [a, b]⟩
theorem wf_a : parseR (tlS [97, 32, 45, 32, 98, 32, 45, 32, 99, 32, 42, 32, 100]) 0 0 = .ok (pE 2 (pE 2 (vE [97]) (vE [98])) (pE 3 (vE [99]) (vE [100]))) 7 := by kernel_rfl
theorem wf_b : parseR (tlS [45, 120, 32, 42, 32, 121]) 0 0 = .ok (pE 3 ⟨4, 14, 0, [], [vE [120]]⟩ (vE [121])) 4 := by kernel_rfl
theorem wf_c : parseR (tlS [40, 97, 41, 41]) 0 0 = .ok (vE [97]) 3 := by kernel_rfl
theorem wf_m0 : parseR (tlS []) 0 0 = .bad 0 7 := by kernel_rfl
theorem wf_m1 : parseR (tlS [97, 32, 43]) 0 0 = .bad 2 7 := by kernel_rfl
theorem wf_m2 : parseR (tlS [40, 97]) 0 0 = .bad 2 7 := by kernel_rfl
theorem wf_m3 : parseR (tlS [97, 91, 49]) 0 0 = .bad 3 7 := by kernel_rfl
theorem wf_m4 : parseR (tlS [108, 101, 110, 40, 49, 41]) 0 0 = .bad 2 7 := by kernel_rfl
theorem wf_m5 : parseR (tlS [105, 110, 116]) 0 0 = .bad 0 7 := by kernel_rfl
theorem wf_d : parseR (tlS [40, 40, 40, 40, 40, 40, 40, 40, 40, 40, 40, 40, 40, 40, 40, 40, 40, 40, 40, 40, 40, 40, 40, 40, 40, 40, 40, 40, 40, 40, 40, 40, 40, 40, 40, 40, 40, 40, 40, 40, 40]) 0 0 = .bad 40 8 := by kernel_rfl
theorem wf_l : listR (tlS [40, 97, 44, 32, 49, 32, 43, 32, 50, 41]) 0 0 = .ok [vE [97], pE 1 (nE 1) (nE 2)] 7 := by kernel_rfl
theorem wf_m : listR (tlS [40, 97, 44, 41]) 0 0 = .bad 3 7 := by kernel_rfl
theorem wf_o : opB [42] = (3, 5) := by decide
theorem wf_p : signB 9 = [60, 61] := by decide
theorem wf_q : signB 16 = [] := by decide
end Go.Proofs.YtoldhocdfkndbaaGreatDoor.E5
