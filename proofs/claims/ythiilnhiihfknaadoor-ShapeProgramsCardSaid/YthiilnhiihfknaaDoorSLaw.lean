/-
  The law's own exprs: what it counts is bounded.
-/
import Derived.Test.YthiilnhiihfknaaDoorSWorks
namespace Go.Proofs.YthiilnhiihfknaaDoor
open Go Go.RowKit

def CntR (most : Nat) (w : World) (e : Ending) (w' : World) : Prop := ∃ r : Nat, r ≤ 2 * most + 1 ∧ e = .returned (.int .i64 r) ∧ Below w.heap.size w w'

set_option maxHeartbeats 20000000 in
theorem lawExprs_all (m : Nat) : ∀ l : List Ex, SizeOf.sizeOf l < m → ∀ (most : Nat) (v : Value) (w : World), most ≤ 1000 → EIn w w.heap.size l v →
    Calls Tryd.prog 11 #[v, .int .i64 (most : Int)] w (CntR most w) := by
  induction m with
  | zero => intro l h; omega
  | succ m ih =>
    intro l hm most v w hmost hE
    obtain ⟨A, c, rfl⟩ := hE.slice
    have hle := hE.le
    have HE := Lib.hid hE
    have IH := Lib.hid ih
    have HM := Lib.hid hm
    clear hE ih hm
    go_enter Tryd.func11, Tryd.ntmps11
    go_wp2_with fail
    go_loopw [5, 10] (fun d i wr => ∃ (n r : Nat), n ≤ l.length ∧ r ≤ 2 * most ∧ i = .int .i64 n ∧ d = .int .i64 r ∧ Below w.heap.size w wr) (fun _ i _ => l.length - (intOf i).toNat)
    case atStart => exact ⟨0, 0, by omega, by omega, rfl, rfl, Below.refl _ _⟩
    case round =>
      obtain ⟨n, r, hn, hr, rfl, rfl, hbw⟩ := hrel
      have HW := Lib.hid hbw
      clear hbw
      by_cases hlt : n < l.length
      · obtain ⟨b, o, v', hA, hbl, hoe, hc, hsub⟩ := (HE.out.at_).2 n hlt
        obtain ⟨c0, c1, c2, c3, c4⟩ := hc.keep (fun i => HW.out.cell (p := ⟨b, i, none⟩) hbl)
        obtain ⟨A', c', rfl⟩ := hsub.slice
        have HS := Lib.hid hsub
        have hz := HW.out.size
        subst hA
        clear hsub hc
        have hC := IH.out l[n].args (by have h1 := HM.out; have h2 := List.sizeOf_lt_of_mem (List.getElem_mem hlt); have h3 : SizeOf.sizeOf l[n].args < SizeOf.sizeOf l[n] := by { cases l[n]; simp; omega }; omega)
        generalize l[n] = x at *
        have HC := Lib.hid hC
        clear hC
        by_cases hg : (most : Int) < (r : Int) + 1
        · go_wp2_with fail
          go_ret
          exact ⟨r + 1, by omega, by go_num, (HW.out.alloc hz _)⟩
        · have hsb : ((most : Int) - ((r : Int) + 1)) = ((most - (r + 1) : Nat) : Int) := by omega
          go_wp2_with fail
          refine (HC.out (most - (r + 1)) _ _ (by omega) ?_).mono ?_
          · exact (EIn.keep HS.out hz fun q i hq => HW.out.cell (p := ⟨q, i, none⟩) hq).al _
          rintro e w1 ⟨r1, hr1, rfl, hb⟩
          have HB := Lib.hid (HW.out.trans ((after (bal wr _) hb).mono hz))
          clear hb
          go_wp2_with fail
          go_roundw
          case rel => exact ⟨n + 1, r + 1 + r1, by omega, by omega, by go_num, by go_num, HB.out⟩
          case measure => simp [intOf]; omega
      · have he : n = l.length := by omega
        subst he
        go_wp2_with fail
        go_ret
        exact ⟨r, by omega, rfl, HW.out⟩
end Go.Proofs.YthiilnhiihfknaaDoor
