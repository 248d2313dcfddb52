/-
  fields as a whole; Depth, Expr of both: contracts.
-/
import Derived.Test.YtipepljmfgjbpaaGreatDoorSFieldsD
import Derived.Laws.EntriesVeiled
namespace Go.Proofs.YtipepljmfgjbpaaGreatDoor.S3
open Go Go.RowKit

theorem int_eq {a b : Int} (h : a = b) : Value.int .i64 a = Value.int .i64 b := by rw [h]
def errI (b : Bool) : Int := if b then 0 else 2
theorem errI_true : errI true = 0 := rfl
theorem errI_false : errI false = 2 := rfl
abbrev depF (cb : Nat) : Value := .func (.func 102) #[] #[.pointer (some ⟨cb, 0, none⟩)]
set_option maxHeartbeats 2000000 in
theorem depth1_calls (k : Nat) : ∀ (e : Ex) (v : Value) (w : World) (cb : Nat), k ≤ 20 → OkE e → EIn w w.heap.size e.args v → Glob w → cb < w.heap.size → w.cell? ⟨cb, 0, none⟩ = some (depF cb) →
    Calls Tryz.prog 102 #[eV e v, .int .i64 (k : Int), .pointer (some ⟨cb, 0, none⟩)] w fun x w' => x = .returned (.int .i64 (dep k e : Nat)) ∧ Below w.heap.size w w' := by
  induction k with
  | zero =>
    intro e v w cb _ _ _ _ _ _
    go_enter Tryz.func102, Tryz.ntmps102
    go_wp2_with fail
    go_ret
    exact ⟨rfl, (Below.refl _ w).alloc (Nat.le_refl _) _⟩
  | succ k ih =>
    intro e v w cb hk ho hE hG hcb hcell
    have IH := Lib.hid ih
    clear ih
    obtain ⟨A, c, rfl⟩ := hE.slice
    have hk0 : ((k : Int) + 1 == 0) = false := by simp; omega
    have HE := Lib.hid hE
    have HG := Lib.hid hG
    clear hE hG
    have hE := HE.out.le
    have C := fitsExpr_calls e ho A c (w.alloc (.cells #[.int .i64 e.kind, .int .i64 e.op, .int .i64 e.num, .string (B e.name), .slice A e.args.length c] 67)) (HG.out.al _)
    by_cases hf : fitB e = true
    · rw [hf] at C
      have HC := Lib.hid C
      have HF := Lib.hid (show dep (k + 1) e = depOf (deps (dep k) e.args) by rw [dep, if_pos hf])
      clear C hf
      go_enter Tryz.func102, Tryz.ntmps102
      go_wp2_with fail
      refine HC.out.mono ?_
      rintro x w1 ⟨rfl, hb⟩
      have hb1 : Below w.heap.size w w1 := after ((Below.refl _ w).alloc (Nat.le_refl _) _) hb
      have k4 := (hb.cell (p := ⟨w.heap.size, 4, none⟩) (by simp)).trans (newCell w #[.int .i64 e.kind, .int .i64 e.op, .int .i64 e.num, .string (B e.name), .slice A e.args.length c] 67 4 _ rfl)
      have HB := Lib.hid hb1
      clear hb hb1
      go_wp2_with fail
      go_loopw [6, 20] (fun d i wr => ∃ (n dd : Nat), n ≤ e.args.length ∧ i = .int .i64 n ∧ d = .int .i64 dd ∧ deps (dep k) (e.args.take n) = some dd ∧ Below w.heap.size w wr) (fun _ i _ => e.args.length - (intOf i).toNat)
      case atStart => exact ⟨0, 0, by omega, rfl, rfl, rfl, HB.out⟩
      case round =>
        obtain ⟨n, dd, hn, rfl, rfl, hd, hbw⟩ := hrel
        have HD := Lib.hid hd
        have HW := Lib.hid hbw
        clear hd hbw
        by_cases hlt : n < e.args.length
        · obtain ⟨b, o, v', hA, hbl, hoe, hc, hsub⟩ := (HE.out.at_).2 n hlt
          obtain ⟨c0, c1, c2, c3, c4⟩ := hc.keep (fun i => HW.out.cell (p := ⟨b, i, none⟩) hbl)
          obtain ⟨A', c', rfl⟩ := hsub.slice
          have HS := Lib.hid hsub
          have HK := Lib.hid ((HW.out.cell (p := ⟨cb, 0, none⟩) hcb).trans hcell)
          have hz := HW.out.size
          have hcw : cb < wr.heap.size := by omega
          have hck := HK.out
          subst hA
          clear hsub hc hcell
          have hsn : deps (dep k) (e.args.take (n + 1)) = if dep k e.args[n] = 0 then none else some (max dd (dep k e.args[n])) := by
            rw [List.take_succ_eq_append_getElem hlt, deps_snoc, HD.out]
          have HSN := Lib.hid hsn
          clear hsn
          have h20 := dep_le k e.args[n]
          have hnone : dep k e.args[n] = 0 → deps (dep k) e.args = none := fun h => by
            have := deps_none_of_zero (r := e.args.drop (n + 1)) HD.out h
            rwa [← List.drop_eq_getElem_cons hlt, List.take_append_drop] at this
          have HN := Lib.hid hnone
          clear hnone
          generalize e.args[n] = x at *
          have hdd := deps_bound _ k (dep_le k) _ _ HD.out
          have hko : (k : Int) ≤ 20 := by omega
          by_cases h0 : dep k x = 0
          · have HDN := Lib.hid (show dep (k + 1) e = 0 by rw [HF.out, HN.out h0]; rfl)
            go_wp2_with fail
            refine (IH.out x _ _ cb (by omega) hoe (HS.out.keep (by simp; omega) fun q i hq => ?_) ?_ (by simp; omega) ?_).mono ?_
            · rw [World.cell?_alloc_lt _ _ _ (show q < _ by omega)]; exact HW.out.cell (p := ⟨q, i, none⟩) hq
            · exact (HG.out.up HW.out).al _
            · rw [World.cell?_alloc_lt _ _ _ (show cb < _ by omega)]; exact hck
            rintro x' w2 ⟨rfl, hb⟩
            have HB2 := Lib.hid (after (HW.out.alloc hz _) hb)
            clear hb
            rw [h0]
            go_wp2_with fail
            go_ret
            exact ⟨by rw [HDN.out]; rfl, HB2.out⟩
          · have h0' : (((dep k x : Nat) : Int) == 0) = false := by simpa using h0
            have HSN' := Lib.hid (show deps (dep k) (e.args.take (n + 1)) = some (max dd (dep k x)) by rw [HSN.out, if_neg h0])
            go_wp2_with fail
            refine (IH.out x _ _ cb (by omega) hoe (HS.out.keep (by simp; omega) fun q i hq => ?_) ?_ (by simp; omega) ?_).mono ?_
            · rw [World.cell?_alloc_lt _ _ _ (show q < _ by omega)]; exact HW.out.cell (p := ⟨q, i, none⟩) hq
            · exact (HG.out.up HW.out).al _
            · rw [World.cell?_alloc_lt _ _ _ (show cb < _ by omega)]; exact hck
            rintro x' w2 ⟨rfl, hb⟩
            have HB2 := Lib.hid (after (HW.out.alloc hz _) hb)
            clear hb
            go_wp2_with fail
            go_roundw
            case rel => exact ⟨n + 1, max dd (dep k x), by omega, by go_num, int_eq (by split <;> omega), HSN'.out, HB2.out⟩
            case measure => simp [intOf]; omega
        · obtain rfl : n = e.args.length := by omega
          have hd := HD.out
          rw [List.take_length] at hd
          have h20 := deps_bound _ k (dep_le k) _ _ hd
          have hdf : dep (k + 1) e = dd + 1 := by rw [HF.out, hd]; rfl
          have HDF := Lib.hid hdf
          clear hd hdf
          go_wp2_with fail
          go_ret
          exact ⟨by rw [HDF.out]; rfl, HW.out⟩
    · simp only [Bool.not_eq_true] at hf
      rw [hf] at C
      have HC := Lib.hid C
      have HF := Lib.hid (show dep (k + 1) e = 0 by rw [dep, if_neg (by simp [hf])])
      clear C hf
      go_enter Tryz.func102, Tryz.ntmps102
      go_wp2_with fail
      refine HC.out.mono ?_
      rintro x w1 ⟨rfl, hb⟩
      have hb1 : Below w.heap.size w w1 := after ((Below.refl _ w).alloc (Nat.le_refl _) _) hb
      have HB := Lib.hid hb1
      clear hb hb1
      go_wp2_with fail
      go_ret
      exact ⟨by rw [HF.out]; rfl, HB.out⟩

theorem depth_calls (e : Ex) (ho : OkE e) (v : Value) (w : World) (hE : EIn w w.heap.size e.args v) (hG : Glob w) :
    Calls Tryz.prog 96 #[eV e v] w fun x w' => x = .returned (.int .i64 (dep 20 e : Nat)) ∧ Below w.heap.size w w' := by
  obtain ⟨A, c, rfl⟩ := hE.slice
  have HE := Lib.hid hE
  have HG := Lib.hid hG
  clear hE hG
  go_enter Tryz.func96, Tryz.ntmps96
  go_wp2_with fail
  have hb2 : ∀ o1 o2, Below w.heap.size w ((w.alloc o1).alloc o2) := fun o1 o2 => ((Below.refl _ w).alloc (Nat.le_refl _) _).alloc (by simp) _
  refine (depth1_calls 20 e _ _ (w.heap.size + 1) (by omega) ho (HE.out.keep (by simp; omega) fun q i hq => ?_) ((HG.out.al _).al _) (by simp) ?_).mono ?_
  · exact (hb2 _ _).cell (p := ⟨q, i, none⟩) hq
  · simp
  rintro x' w2 ⟨rfl, hb⟩
  have HB2 := Lib.hid (after (hb2 _ _) hb)
  clear hb
  go_wp2_with fail
  go_ret
  exact ⟨rfl, HB2.out⟩
theorem expr_calls (e : Ex) (ho : OkE e) (v : Value) (w : World) (hE : EIn w w.heap.size e.args v) (hG : Glob w) :
    Calls Tryz.prog 90 #[eV e v] w fun x w' => x = .returned (.int .i64 (errI (exB e))) ∧ Below w.heap.size w w' := by
  obtain ⟨A, c, rfl⟩ := hE.slice
  have HE := Lib.hid hE
  have HG := Lib.hid hG
  clear hE hG
  have hb2 : ∀ o1, Below w.heap.size w (w.alloc o1) := fun o1 => (Below.refl _ w).alloc (Nat.le_refl _) _
  by_cases h : dep 20 e = 0
  · have F := Lib.hid (show errI (exB e) = 2 by simp [errI, exB, h])
    go_enter Tryz.func90, Tryz.ntmps90
    go_wp2_with fail
    refine (depth_calls e ho _ _ (HE.out.keep (by simp) fun q i hq => (hb2 _).cell (p := ⟨q, i, none⟩) hq) (HG.out.al _)).mono ?_
    rintro x' w2 ⟨rfl, hb⟩
    have HB2 := Lib.hid (after (hb2 _) hb)
    clear hb
    rw [h]
    go_wp2_with fail
    go_ret
    exact ⟨by rw [F.out]; rfl, HB2.out⟩
  · have F := Lib.hid (show errI (exB e) = 0 by simp [errI, exB, h])
    have h' : (((dep 20 e : Nat) : Int) == 0) = false := by simpa using h
    clear h
    go_enter Tryz.func90, Tryz.ntmps90
    go_wp2_with fail
    refine (depth_calls e ho _ _ (HE.out.keep (by simp) fun q i hq => (hb2 _).cell (p := ⟨q, i, none⟩) hq) (HG.out.al _)).mono ?_
    rintro x' w2 ⟨rfl, hb⟩
    have HB2 := Lib.hid (after (hb2 _) hb)
    clear hb
    go_wp2_with fail
    go_ret
    exact ⟨by rw [F.out]; rfl, HB2.out⟩
end Go.Proofs.YtipepljmfgjbpaaGreatDoor.S3
