/-
  The examples of the laws of stage 6 hold. Written by gen6_works.py.
-/
import Derived.Test.YtipepljmfgjbpaaGreatDoorTTok
namespace Go.Proofs.YtipepljmfgjbpaaGreatDoor.E6
open Go Go.RowKit Go.Proofs.YtipepljmfgjbpaaGreatDoor Go.Proofs.YtipepljmfgjbpaaGreatDoor.E5

theorem is_z1 (w8 : World) (o : Obj) (hG : Glob6 (w8.alloc o)) : Calls Tryz.prog 13 #[.int .i64 1, .int .i64 8, (.slice (some ⟨w8.heap.size + 1, 0, none⟩) 8 8)] ((w8.alloc o).alloc (.cells #[.string ⟨#[118, 97, 114]⟩, .string ⟨#[120]⟩, .string ⟨#[105, 110, 116]⟩, .string ⟨#[61]⟩, .string ⟨#[49]⟩, .string ⟨#[43]⟩, .string ⟨#[50]⟩, .string ⟨#[59]⟩] 9)) fun E w' => E = .returned (.bool true) ∧ Below (w8.heap.size + 1) (w8.alloc o) w' := by
  have h := is_i1 (w8.alloc o) hG
  rwa [S3.sz1] at h
set_option maxRecDepth 100000 in
set_option maxHeartbeats 20000000 in
theorem works6 : WorksR6 := by
  intro w hG
  have HG := Lib.hid hG
  clear hG
  go_enter Tryz.func7, Tryz.ntmps7
  simp only [List.append_eq, List.cons_append, List.nil_append]
  go_wp2_with fail
  refine (tk_a _).mono ?_
  rintro E w1 ⟨A1, c1, rfl, hT, hb⟩
  have HB1 := Lib.hid (hb)
  have HT := Lib.hid hT
  clear hb hT
  go_wp2_with fail
  refine (bk_a _ _ _ HT.out (HG.out.up HB1.out)).mono ?_
  rintro E w2 ⟨Ab, cb, rfl, hb⟩
  have HB2 := Lib.hid (after HB1.out hb)
  clear hb
  go_wp2_with fail
  refine (tk_b _).mono ?_
  rintro E w3 ⟨A3, c3, rfl, hT, hb⟩
  have HB3 := Lib.hid (after HB2.out hb)
  have HT := Lib.hid hT
  clear hb hT
  go_wp2_with fail
  refine (bk_b _ _ _ HT.out (HG.out.up HB3.out)).mono ?_
  rintro E w4 ⟨rfl, hb⟩
  have HB4 := Lib.hid (after HB3.out hb)
  clear hb
  go_wp2_with fail
  refine (tk_b _).mono ?_
  rintro E w5 ⟨A5, c5, rfl, hT, hb⟩
  have HB5 := Lib.hid (after HB4.out hb)
  have HT := Lib.hid hT
  clear hb hT
  go_wp2_with fail
  refine (bk_c _ _ _).mono ?_
  rintro E w6 ⟨rfl, hb⟩
  have HB6 := Lib.hid (after HB5.out hb)
  clear hb
  go_wp2_with fail
  refine (tk_d _).mono ?_
  rintro E w7 ⟨A7, c7, rfl, hT, hb⟩
  have HB7 := Lib.hid (after HB6.out hb)
  have HT := Lib.hid hT
  clear hb hT
  go_wp2_with fail
  refine (ps_d _ _ _ HT.out (HG.out.up HB7.out)).mono ?_
  rintro E w8 ⟨rfl, hb⟩
  have HB8 := Lib.hid (after HB7.out hb)
  clear hb
  go_wp2_with fail
  refine (is_z1 _ _ ((HG.out.up HB8.out).al _)).mono ?_
  rintro E w9 ⟨rfl, hb⟩
  have HB9 := Lib.hid ((HB8.out.alloc HB8.out.size _).trans (hb.mono (Nat.le_succ_of_le HB8.out.size)))
  clear hb
  go_wp2_with fail
  refine (is_i2 _ (HG.out.up HB9.out)).mono ?_
  rintro E w10 ⟨rfl, hb⟩
  have HB10 := Lib.hid (after HB9.out hb)
  clear hb
  go_wp2_with fail
  refine (is_i3 _ (HG.out.up HB10.out)).mono ?_
  rintro E w11 ⟨rfl, hb⟩
  have HB11 := Lib.hid (after HB10.out hb)
  clear hb
  go_wp2_with fail
  refine (is_i4 _ (HG.out.up HB11.out)).mono ?_
  rintro E w12 ⟨rfl, hb⟩
  have HB12 := Lib.hid (after HB11.out hb)
  clear hb
  go_wp2_with fail
  refine (is_i5 _ (HG.out.up HB12.out)).mono ?_
  rintro E w13 ⟨rfl, hb⟩
  have HB13 := Lib.hid (after HB12.out hb)
  clear hb
  go_wp2_with fail
  refine (is_i6 _ (HG.out.up HB13.out)).mono ?_
  rintro E w14 ⟨rfl, hb⟩
  have HB14 := Lib.hid (after HB13.out hb)
  clear hb
  go_wp2_with fail
  refine (is_i7 _ (HG.out.up HB14.out)).mono ?_
  rintro E w15 ⟨rfl, hb⟩
  have HB15 := Lib.hid (after HB14.out hb)
  clear hb
  go_wp2_with fail
  refine (wr_w1 _ (HG.out.up HB15.out)).mono ?_
  rintro E w16 ⟨rfl, hb⟩
  have HB16 := Lib.hid (after HB15.out hb)
  clear hb
  go_wp2_with fail
  refine (wr_w2 _ (HG.out.up HB16.out)).mono ?_
  rintro E w17 ⟨rfl, hb⟩
  have HB17 := Lib.hid (after HB16.out hb)
  clear hb
  go_wp2_with fail
  refine (wr_w3 _ (HG.out.up HB17.out)).mono ?_
  rintro E w18 ⟨rfl, hb⟩
  have HB18 := Lib.hid (after HB17.out hb)
  clear hb
  go_wp2_with fail
  refine (wr_w4 _ (HG.out.up HB18.out)).mono ?_
  rintro E w19 ⟨rfl, hb⟩
  have HB19 := Lib.hid (after HB18.out hb)
  clear hb
  go_wp2_with fail
  refine (wr_w5 _ (HG.out.up HB19.out)).mono ?_
  rintro E w20 ⟨rfl, hb⟩
  have HB20 := Lib.hid (after HB19.out hb)
  clear hb
  go_wp2_with fail
  refine (ty_bool _ (HG.out.up HB20.out)).mono ?_
  rintro E w21 ⟨rfl, hb⟩
  have HB21 := Lib.hid (after HB20.out hb)
  clear hb
  go_wp2_with fail
  refine (ty_len _ (HG.out.up HB21.out)).mono ?_
  rintro E w22 ⟨rfl, hb⟩
  have HB22 := Lib.hid (after HB21.out hb)
  clear hb
  go_wp2_with fail
  refine (wd_arr _ (HG.out.up HB22.out)).mono ?_
  rintro E w23 ⟨rfl, hb⟩
  have HB23 := Lib.hid (after HB22.out hb)
  clear hb
  go_wp2_with fail
  refine (wd_no _ (HG.out.up HB23.out)).mono ?_
  rintro E w24 ⟨rfl, hb⟩
  have HB24 := Lib.hid (after HB23.out hb)
  clear hb
  go_wp2_with fail
  go_ret
  exact ⟨rfl, HB24.out⟩
end Go.Proofs.YtipepljmfgjbpaaGreatDoor.E6
