/-
  fitsName, fitsExpr: contracts.
-/
import Derived.Test.YthiilnhiihfknaaDoorSNm
namespace Go.Proofs.YthiilnhiihfknaaDoor
open Go Go.RowKit

def ekRows : List ERow := [⟨0, 0, 0, 0, 0⟩, ⟨0, 0, 0, 9223372036854775807, 0⟩, ⟨0, 0, 0, 1, 0⟩, ⟨2, 0, 0, 0, 0⟩, ⟨0, 14, 15, 0, 1⟩, ⟨0, 1, 13, 0, 2⟩, ⟨2, 0, 0, 0, 1⟩, ⟨2, 0, 0, 0, 0⟩]
def skRows : List SRow := [⟨0, 0, false, 0, 0, false, false⟩, ⟨2, 0, true, 0, 1, false, false⟩, ⟨2, 0, false, 1, 1, false, false⟩, ⟨2, 0, false, 2, 2, false, false⟩, ⟨2, 0, false, 1, 1, false, false⟩, ⟨2, 0, false, 0, 0, false, false⟩, ⟨0, 0, false, 1, 1, false, false⟩, ⟨1, 2, false, 0, 8, false, false⟩, ⟨0, 0, false, 0, 1, false, false⟩, ⟨0, 0, false, 1, 1, true, true⟩, ⟨0, 0, false, 1, 1, true, false⟩]
structure EkCells (w : World) (k : Nat) (r : ERow) : Prop where
  c0 : w.cell? ⟨1, k * 5, none⟩ = some (.int .i64 r.name)
  c1 : w.cell? ⟨1, k * 5 + 1, none⟩ = some (.int .i64 r.first)
  c2 : w.cell? ⟨1, k * 5 + 2, none⟩ = some (.int .i64 r.last)
  c3 : w.cell? ⟨1, k * 5 + 3, none⟩ = some (.int .i64 r.most)
  c4 : w.cell? ⟨1, k * 5 + 4, none⟩ = some (.int .i64 (r.args : Int))
structure SkCells (w : World) (k : Nat) (r : SRow) : Prop where
  c0 : w.cell? ⟨2, k * 7, none⟩ = some (.int .i64 r.name)
  c1 : w.cell? ⟨2, k * 7 + 1, none⟩ = some (.int .i64 r.callee)
  c2 : w.cell? ⟨2, k * 7 + 2, none⟩ = some (.bool r.typed)
  c3 : w.cell? ⟨2, k * 7 + 3, none⟩ = some (.int .i64 (r.fewest : Int))
  c4 : w.cell? ⟨2, k * 7 + 4, none⟩ = some (.int .i64 (r.most : Int))
  c5 : w.cell? ⟨2, k * 7 + 5, none⟩ = some (.bool r.body)
  c6 : w.cell? ⟨2, k * 7 + 6, none⟩ = some (.bool r.other)
/-- WHAT THE PACKAGE's VARIABLES HOLD. -/
structure Glob (w : World) : Prop where
  kw : GlobK w
  ek : ∀ k r, ekRows[k]? = some r → EkCells w k r
  sk : ∀ k r, skRows[k]? = some r → SkCells w k r
  lt : 2 < w.heap.size
theorem Glob.keep {w w' : World} (h : Glob w) (hs : w.heap.size ≤ w'.heap.size) (hk : ∀ b i, b ≤ 2 → w'.cell? ⟨b, i, none⟩ = w.cell? ⟨b, i, none⟩) : Glob w' := by
  obtain ⟨⟨c0, c1, c2, c3, c4, c5, c6, c7, c8, c9, c10, c11, c12, c13, c14⟩, h2, h3, h4⟩ := h
  refine ⟨⟨(hk _ _ (by decide)).trans c0, (hk _ _ (by decide)).trans c1, (hk _ _ (by decide)).trans c2, (hk _ _ (by decide)).trans c3, (hk _ _ (by decide)).trans c4, (hk _ _ (by decide)).trans c5, (hk _ _ (by decide)).trans c6, (hk _ _ (by decide)).trans c7, (hk _ _ (by decide)).trans c8, (hk _ _ (by decide)).trans c9, (hk _ _ (by decide)).trans c10, (hk _ _ (by decide)).trans c11, (hk _ _ (by decide)).trans c12, (hk _ _ (by decide)).trans c13, (hk _ _ (by decide)).trans c14⟩, fun k r hr => ?_, fun k r hr => ?_, by omega⟩
  · obtain ⟨a0, a1, a2, a3, a4⟩ := h2 k r hr
    exact ⟨(hk _ _ (by decide)).trans a0, (hk _ _ (by decide)).trans a1, (hk _ _ (by decide)).trans a2, (hk _ _ (by decide)).trans a3, (hk _ _ (by decide)).trans a4⟩
  · obtain ⟨a0, a1, a2, a3, a4, a5, a6⟩ := h3 k r hr
    exact ⟨(hk _ _ (by decide)).trans a0, (hk _ _ (by decide)).trans a1, (hk _ _ (by decide)).trans a2, (hk _ _ (by decide)).trans a3, (hk _ _ (by decide)).trans a4, (hk _ _ (by decide)).trans a5, (hk _ _ (by decide)).trans a6⟩
theorem Glob.bel {w w' : World} {M : Nat} (h : Glob w) (hM : 2 < M) (hb : Below M w w') : Glob w' := h.keep hb.size fun b i hl => hb.cell (p := ⟨b, i, none⟩) (by show b < M; omega)
theorem Glob.up {w w' : World} (h : Glob w) (hb : Below w.heap.size w w') : Glob w' := h.bel h.lt hb

theorem Glob.al {w : World} (h : Glob w) (o : Obj) : Glob (w.alloc o) := h.up ((Below.refl _ w).alloc (Nat.le_refl _) o)

theorem fitsName_calls (s : Bytes) (how : Int) (hs : s.length ≤ 9223372036854775807) (w : World) (hG : Glob w) :
    Calls Tryd.prog 74 #[.string (B s), .int .i64 how] w fun e w' => e = .returned (.bool (howB s how)) ∧ w = w' := by
  have N := name_calls s hs w hG.kw
  have HN := Lib.hid N
  clear N hG
  cases s with
  | nil =>
    go_enter Tryd.func74, Tryd.ntmps74
    go_wp2_with fail
    go_ret
    exact ⟨by simp [howB]; rfl, rfl⟩
  | cons c r =>
    have e1 : howB (c :: r) how = (decide (how ≠ 0) && nameB (c :: r)) := by simp [howB]
    have E1 := Lib.hid e1
    clear e1
    by_cases h : how = 0
    · subst h
      go_enter Tryd.func74, Tryd.ntmps74
      go_wp2_with fail
      go_ret
      exact ⟨by rw [E1.out]; simp, rfl⟩
    · have h1 : (how != 0) = true := by simpa using h
      have H := Lib.hid h
      clear h
      go_enter Tryd.func74, Tryd.ntmps74
      go_wp2_with fail
      refine HN.out.mono ?_
      rintro e w1 ⟨rfl, rfl⟩
      go_wp2_with fail
      go_ret
      exact ⟨by rw [E1.out]; simp [H.out], rfl⟩

set_option maxHeartbeats 4000000 in
theorem fitsExpr_row (k : Nat) (hk1 : 1 ≤ k) (hk7 : k ≤ 7) (op num : Int) (name : Bytes) (args : List Ex) (A : Option Addr) (c : Nat) (r : ERow) (hr : ekRows[k]? = some r) (hn : name.length ≤ 9223372036854775807) (w : World) (hG : Glob w) :
    Calls Tryd.prog 48 #[.agg #[.int .i64 (k : Int), .int .i64 op, .int .i64 num, .string (B name), .slice A args.length c]] w fun e w' => e = .returned (.bool (rowFit r ⟨k, op, num, name, args⟩)) ∧ Below w.heap.size w w' := by
  obtain ⟨c0, c1, c2, c3, c4⟩ := hG.ek k r hr
  have hlt : 1 < w.heap.size := by have := hG.lt; omega
  have HG := Lib.hid hG
  clear hG hr
  by_cases h0 : howB name r.name = true
  · by_cases h1 : r.first ≤ op
    · by_cases h2 : op ≤ r.last
      · by_cases h3 : 0 ≤ num
        · by_cases h4 : num ≤ r.most
          · by_cases h5 : args.length = r.args
            · have h5' : ((args.length : Int) == (r.args : Int)) = true := by simp [h5]
              have F := Lib.hid (show rowFit r ⟨k, op, num, name, args⟩ = true by simp [rowFit, h0, h1, h2, h3, h4, h5])
              go_enter Tryd.func48, Tryd.ntmps48
              go_wp2_with fail
              refine (fitsName_calls name r.name hn _ ((HG.out.al _).al _)).mono ?_
              rintro e w1 ⟨rfl, rfl⟩
              go_wp2_with fail
              go_ret
              exact ⟨by rw [F.out]; rfl, ((Below.refl _ w).alloc (Nat.le_refl _) _).alloc (by simp) _⟩
            · have h5' : ((args.length : Int) == (r.args : Int)) = false := by simp; omega
              have F := Lib.hid (show rowFit r ⟨k, op, num, name, args⟩ = false by simp [rowFit, h0, h1, h2, h3, h4, h5])
              go_enter Tryd.func48, Tryd.ntmps48
              go_wp2_with fail
              refine (fitsName_calls name r.name hn _ ((HG.out.al _).al _)).mono ?_
              rintro e w1 ⟨rfl, rfl⟩
              go_wp2_with fail
              go_ret
              exact ⟨by rw [F.out]; rfl, ((Below.refl _ w).alloc (Nat.le_refl _) _).alloc (by simp) _⟩
          · have F := Lib.hid (show rowFit r ⟨k, op, num, name, args⟩ = false by simp [rowFit, h0, h1, h2, h3, h4])
            go_enter Tryd.func48, Tryd.ntmps48
            go_wp2_with fail
            refine (fitsName_calls name r.name hn _ ((HG.out.al _).al _)).mono ?_
            rintro e w1 ⟨rfl, rfl⟩
            go_wp2_with fail
            go_ret
            exact ⟨by rw [F.out]; rfl, ((Below.refl _ w).alloc (Nat.le_refl _) _).alloc (by simp) _⟩
        · have F := Lib.hid (show rowFit r ⟨k, op, num, name, args⟩ = false by simp [rowFit, h0, h1, h2, h3])
          go_enter Tryd.func48, Tryd.ntmps48
          go_wp2_with fail
          refine (fitsName_calls name r.name hn _ ((HG.out.al _).al _)).mono ?_
          rintro e w1 ⟨rfl, rfl⟩
          go_wp2_with fail
          go_ret
          exact ⟨by rw [F.out]; rfl, ((Below.refl _ w).alloc (Nat.le_refl _) _).alloc (by simp) _⟩
      · have F := Lib.hid (show rowFit r ⟨k, op, num, name, args⟩ = false by simp [rowFit, h0, h1, h2])
        go_enter Tryd.func48, Tryd.ntmps48
        go_wp2_with fail
        refine (fitsName_calls name r.name hn _ ((HG.out.al _).al _)).mono ?_
        rintro e w1 ⟨rfl, rfl⟩
        go_wp2_with fail
        go_ret
        exact ⟨by rw [F.out]; rfl, ((Below.refl _ w).alloc (Nat.le_refl _) _).alloc (by simp) _⟩
    · have F := Lib.hid (show rowFit r ⟨k, op, num, name, args⟩ = false by simp [rowFit, h0, h1])
      go_enter Tryd.func48, Tryd.ntmps48
      go_wp2_with fail
      refine (fitsName_calls name r.name hn _ ((HG.out.al _).al _)).mono ?_
      rintro e w1 ⟨rfl, rfl⟩
      go_wp2_with fail
      go_ret
      exact ⟨by rw [F.out]; rfl, ((Below.refl _ w).alloc (Nat.le_refl _) _).alloc (by simp) _⟩
  · simp only [Bool.not_eq_true] at h0
    have F := Lib.hid (show rowFit r ⟨k, op, num, name, args⟩ = false by simp [rowFit, h0])
    go_enter Tryd.func48, Tryd.ntmps48
    go_wp2_with fail
    refine (fitsName_calls name r.name hn _ ((HG.out.al _).al _)).mono ?_
    rintro e w1 ⟨rfl, rfl⟩
    go_wp2_with fail
    go_ret
    exact ⟨by rw [F.out]; rfl, ((Below.refl _ w).alloc (Nat.le_refl _) _).alloc (by simp) _⟩

theorem exRow_ek {k : Nat} (h1 : 1 ≤ k) (h7 : k ≤ 7) : ∃ r, exRow (k : Int) = some r ∧ ekRows[k]? = some r := by
  match k, h1, h7 with
  | 1, _, _ | 2, _, _ | 3, _, _ | 4, _, _ | 5, _, _ | 6, _, _ | 7, _, _ => exact ⟨_, rfl, rfl⟩
theorem exRow_none {k : Int} (h : k < 1 ∨ 7 < k) : exRow k = none := by
  unfold exRow
  rw [if_neg (by omega), if_neg (by omega), if_neg (by omega), if_neg (by omega), if_neg (by omega), if_neg (by omega), if_neg (by omega)]
theorem fitsExpr_calls (e : Ex) (ho : OkE e) (A : Option Addr) (c : Nat) (w : World) (hG : Glob w) :
    Calls Tryd.prog 48 #[eV e (.slice A e.args.length c)] w fun x w' => x = .returned (.bool (fitB e)) ∧ Below w.heap.size w w' := by
  obtain ⟨kind, op, num, name, args⟩ := e
  have hn := ho.name
  simp only at hn
  by_cases hk : kind < 1
  · have F := Lib.hid (show fitB ⟨kind, op, num, name, args⟩ = false by simp [fitB, exRow_none (.inl hk)])
    go_enter Tryd.func48, Tryd.ntmps48
    go_wp2_with fail
    go_ret
    exact ⟨by rw [F.out]; rfl, (Below.refl _ w).alloc (Nat.le_refl _) _⟩
  · by_cases hk7 : 7 < kind
    · have F := Lib.hid (show fitB ⟨kind, op, num, name, args⟩ = false by simp [fitB, exRow_none (.inr hk7)])
      go_enter Tryd.func48, Tryd.ntmps48
      go_wp2_with fail
      go_ret
      exact ⟨by rw [F.out]; rfl, (Below.refl _ w).alloc (Nat.le_refl _) _⟩
    · obtain ⟨k, rfl⟩ := Int.eq_ofNat_of_zero_le (show 0 ≤ kind by omega)
      obtain ⟨r, h1, h2⟩ := exRow_ek (k := k) (by omega) (by omega)
      rw [show fitB ⟨k, op, num, name, args⟩ = rowFit r ⟨k, op, num, name, args⟩ by unfold fitB; rw [h1]]
      exact fitsExpr_row k (by omega) (by omega) op num name args A c r h2 hn w hG
end Go.Proofs.YthiilnhiihfknaaDoor
