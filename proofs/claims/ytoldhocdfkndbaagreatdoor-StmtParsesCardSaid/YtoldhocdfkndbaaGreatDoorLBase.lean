/-
  What the texts of this seat share: texts as values, what the listed variables hold, the bytes' functions, keywords and signs: contracts.
  The bytes' functions, keywords and signs: contracts.
-/
import Derived.Test.YtoldhocdfkndbaaGreatDoorProg
import Derived.Test.YtoldhocdfkndbaaGreatDoorLMath
import Derived.WalkKit
import Derived.WalkSpells
import Derived.IntWalk
import Derived.Below
import Derived.LoopTactic
import Derived.Lib.QuietBelow
import Derived.WalkSmall
import Derived.Maps.AppendAt
namespace Go.Proofs.YtoldhocdfkndbaaGreatDoor.L4
open Go Go.RowKit Go.Sort

/-- A text of bytes as a string's value. -/
abbrev B (l : Bytes) : ByteArray := ⟨l.toArray⟩
theorem after {w W W' : World} (h : Below w.heap.size w W) (hb : Below W.heap.size W W') : Below w.heap.size w W' := h.trans (hb.mono h.size)
theorem gTab : Tryz.prog.globalNamed "internal/strconv.uint64pow10" = some 6 := by kernel_rfl
def kwArr : Value := Value.agg #[.string ⟨#[102, 117, 110, 99]⟩, .string ⟨#[118, 97, 114]⟩, .string ⟨#[105, 102]⟩, .string ⟨#[101, 108, 115, 101]⟩, .string ⟨#[119, 104, 105, 108, 101]⟩, .string ⟨#[114, 101, 116, 117, 114, 110]⟩, .string ⟨#[112, 114, 105, 110, 116]⟩, .string ⟨#[114, 101, 97, 100]⟩, .string ⟨#[110, 101, 119]⟩, .string ⟨#[108, 101, 110]⟩, .string ⟨#[105, 110, 116]⟩, .string ⟨#[98, 111, 111, 108]⟩, .string ⟨#[97, 114, 114, 97, 121]⟩, .string ⟨#[116, 114, 117, 101]⟩, .string ⟨#[102, 97, 108, 115, 101]⟩]
theorem kwArr_is : kwArr = Value.agg #[.string ⟨#[102, 117, 110, 99]⟩, .string ⟨#[118, 97, 114]⟩, .string ⟨#[105, 102]⟩, .string ⟨#[101, 108, 115, 101]⟩, .string ⟨#[119, 104, 105, 108, 101]⟩, .string ⟨#[114, 101, 116, 117, 114, 110]⟩, .string ⟨#[112, 114, 105, 110, 116]⟩, .string ⟨#[114, 101, 97, 100]⟩, .string ⟨#[110, 101, 119]⟩, .string ⟨#[108, 101, 110]⟩, .string ⟨#[105, 110, 116]⟩, .string ⟨#[98, 111, 111, 108]⟩, .string ⟨#[97, 114, 114, 97, 121]⟩, .string ⟨#[116, 114, 117, 101]⟩, .string ⟨#[102, 97, 108, 115, 101]⟩] := rfl
set_option maxRecDepth 100000 in
theorem kwi_0 : ∀ w : World, (Instr.index 207 kwArr (.int .i64 0)).run Tryz.prog w = .ok (.string ⟨#[102, 117, 110, 99]⟩) w := fun _ => by kernel_rfl
set_option maxRecDepth 100000 in
theorem kwi_1 : ∀ w : World, (Instr.index 207 kwArr (.int .i64 1)).run Tryz.prog w = .ok (.string ⟨#[118, 97, 114]⟩) w := fun _ => by kernel_rfl
set_option maxRecDepth 100000 in
theorem kwi_2 : ∀ w : World, (Instr.index 207 kwArr (.int .i64 2)).run Tryz.prog w = .ok (.string ⟨#[105, 102]⟩) w := fun _ => by kernel_rfl
set_option maxRecDepth 100000 in
theorem kwi_3 : ∀ w : World, (Instr.index 207 kwArr (.int .i64 3)).run Tryz.prog w = .ok (.string ⟨#[101, 108, 115, 101]⟩) w := fun _ => by kernel_rfl
set_option maxRecDepth 100000 in
theorem kwi_4 : ∀ w : World, (Instr.index 207 kwArr (.int .i64 4)).run Tryz.prog w = .ok (.string ⟨#[119, 104, 105, 108, 101]⟩) w := fun _ => by kernel_rfl
set_option maxRecDepth 100000 in
theorem kwi_5 : ∀ w : World, (Instr.index 207 kwArr (.int .i64 5)).run Tryz.prog w = .ok (.string ⟨#[114, 101, 116, 117, 114, 110]⟩) w := fun _ => by kernel_rfl
set_option maxRecDepth 100000 in
theorem kwi_6 : ∀ w : World, (Instr.index 207 kwArr (.int .i64 6)).run Tryz.prog w = .ok (.string ⟨#[112, 114, 105, 110, 116]⟩) w := fun _ => by kernel_rfl
set_option maxRecDepth 100000 in
theorem kwi_7 : ∀ w : World, (Instr.index 207 kwArr (.int .i64 7)).run Tryz.prog w = .ok (.string ⟨#[114, 101, 97, 100]⟩) w := fun _ => by kernel_rfl
set_option maxRecDepth 100000 in
theorem kwi_8 : ∀ w : World, (Instr.index 207 kwArr (.int .i64 8)).run Tryz.prog w = .ok (.string ⟨#[110, 101, 119]⟩) w := fun _ => by kernel_rfl
set_option maxRecDepth 100000 in
theorem kwi_9 : ∀ w : World, (Instr.index 207 kwArr (.int .i64 9)).run Tryz.prog w = .ok (.string ⟨#[108, 101, 110]⟩) w := fun _ => by kernel_rfl
set_option maxRecDepth 100000 in
theorem kwi_10 : ∀ w : World, (Instr.index 207 kwArr (.int .i64 10)).run Tryz.prog w = .ok (.string ⟨#[105, 110, 116]⟩) w := fun _ => by kernel_rfl
set_option maxRecDepth 100000 in
theorem kwi_11 : ∀ w : World, (Instr.index 207 kwArr (.int .i64 11)).run Tryz.prog w = .ok (.string ⟨#[98, 111, 111, 108]⟩) w := fun _ => by kernel_rfl
set_option maxRecDepth 100000 in
theorem kwi_12 : ∀ w : World, (Instr.index 207 kwArr (.int .i64 12)).run Tryz.prog w = .ok (.string ⟨#[97, 114, 114, 97, 121]⟩) w := fun _ => by kernel_rfl
set_option maxRecDepth 100000 in
theorem kwi_13 : ∀ w : World, (Instr.index 207 kwArr (.int .i64 13)).run Tryz.prog w = .ok (.string ⟨#[116, 114, 117, 101]⟩) w := fun _ => by kernel_rfl
set_option maxRecDepth 100000 in
theorem kwi_14 : ∀ w : World, (Instr.index 207 kwArr (.int .i64 14)).run Tryz.prog w = .ok (.string ⟨#[102, 97, 108, 115, 101]⟩) w := fun _ => by kernel_rfl
theorem kw_at (k : Nat) (h : k < 15) : ∀ w : World, (Instr.index 207 kwArr (.int .i64 (k : Int))).run Tryz.prog w = .ok (.string (B (kwsL.getD k []))) w := by
  match k, h with
  | 0, _ => exact kwi_0
  | 1, _ => exact kwi_1
  | 2, _ => exact kwi_2
  | 3, _ => exact kwi_3
  | 4, _ => exact kwi_4
  | 5, _ => exact kwi_5
  | 6, _ => exact kwi_6
  | 7, _ => exact kwi_7
  | 8, _ => exact kwi_8
  | 9, _ => exact kwi_9
  | 10, _ => exact kwi_10
  | 11, _ => exact kwi_11
  | 12, _ => exact kwi_12
  | 13, _ => exact kwi_13
  | 14, _ => exact kwi_14
structure GlobKW (w : World) : Prop where
  c0 : w.cell? ⟨4, 0, none⟩ = some (.string ⟨#[102, 117, 110, 99]⟩)
  c1 : w.cell? ⟨4, 1, none⟩ = some (.string ⟨#[118, 97, 114]⟩)
  c2 : w.cell? ⟨4, 2, none⟩ = some (.string ⟨#[105, 102]⟩)
  c3 : w.cell? ⟨4, 3, none⟩ = some (.string ⟨#[101, 108, 115, 101]⟩)
  c4 : w.cell? ⟨4, 4, none⟩ = some (.string ⟨#[119, 104, 105, 108, 101]⟩)
  c5 : w.cell? ⟨4, 5, none⟩ = some (.string ⟨#[114, 101, 116, 117, 114, 110]⟩)
  c6 : w.cell? ⟨4, 6, none⟩ = some (.string ⟨#[112, 114, 105, 110, 116]⟩)
  c7 : w.cell? ⟨4, 7, none⟩ = some (.string ⟨#[114, 101, 97, 100]⟩)
  c8 : w.cell? ⟨4, 8, none⟩ = some (.string ⟨#[110, 101, 119]⟩)
  c9 : w.cell? ⟨4, 9, none⟩ = some (.string ⟨#[108, 101, 110]⟩)
  c10 : w.cell? ⟨4, 10, none⟩ = some (.string ⟨#[105, 110, 116]⟩)
  c11 : w.cell? ⟨4, 11, none⟩ = some (.string ⟨#[98, 111, 111, 108]⟩)
  c12 : w.cell? ⟨4, 12, none⟩ = some (.string ⟨#[97, 114, 114, 97, 121]⟩)
  c13 : w.cell? ⟨4, 13, none⟩ = some (.string ⟨#[116, 114, 117, 101]⟩)
  c14 : w.cell? ⟨4, 14, none⟩ = some (.string ⟨#[102, 97, 108, 115, 101]⟩)
theorem GlobKW.below {w w' : World} (h : GlobKW w) (hb : Below w.heap.size w w') : GlobKW w' := by
  obtain ⟨c0, c1, c2, c3, c4, c5, c6, c7, c8, c9, c10, c11, c12, c13, c14⟩ := h
  have hl : 4 < w.heap.size := World.block_lt_of_cell? _ _ c0
  exact ⟨(hb.cell (p := ⟨_, 0, none⟩) hl).trans c0, (hb.cell (p := ⟨_, 1, none⟩) hl).trans c1, (hb.cell (p := ⟨_, 2, none⟩) hl).trans c2, (hb.cell (p := ⟨_, 3, none⟩) hl).trans c3, (hb.cell (p := ⟨_, 4, none⟩) hl).trans c4, (hb.cell (p := ⟨_, 5, none⟩) hl).trans c5, (hb.cell (p := ⟨_, 6, none⟩) hl).trans c6, (hb.cell (p := ⟨_, 7, none⟩) hl).trans c7, (hb.cell (p := ⟨_, 8, none⟩) hl).trans c8, (hb.cell (p := ⟨_, 9, none⟩) hl).trans c9, (hb.cell (p := ⟨_, 10, none⟩) hl).trans c10, (hb.cell (p := ⟨_, 11, none⟩) hl).trans c11, (hb.cell (p := ⟨_, 12, none⟩) hl).trans c12, (hb.cell (p := ⟨_, 13, none⟩) hl).trans c13, (hb.cell (p := ⟨_, 14, none⟩) hl).trans c14⟩
def sgArr : Value := Value.agg #[.string ⟨#[124, 124]⟩, .string ⟨#[38, 38]⟩, .string ⟨#[61, 61]⟩, .string ⟨#[33, 61]⟩, .string ⟨#[60, 61]⟩, .string ⟨#[62, 61]⟩, .string ⟨#[40]⟩, .string ⟨#[41]⟩, .string ⟨#[123]⟩, .string ⟨#[125]⟩, .string ⟨#[91]⟩, .string ⟨#[93]⟩, .string ⟨#[44]⟩, .string ⟨#[59]⟩, .string ⟨#[61]⟩, .string ⟨#[60]⟩, .string ⟨#[62]⟩, .string ⟨#[43]⟩, .string ⟨#[45]⟩, .string ⟨#[42]⟩, .string ⟨#[47]⟩, .string ⟨#[37]⟩, .string ⟨#[33]⟩]
set_option maxRecDepth 100000 in
theorem sgi_0 : ∀ w : World, (Instr.index 206 sgArr (.int .i64 0)).run Tryz.prog w = .ok (.string ⟨#[124, 124]⟩) w := fun _ => by kernel_rfl
set_option maxRecDepth 100000 in
theorem sgi_1 : ∀ w : World, (Instr.index 206 sgArr (.int .i64 1)).run Tryz.prog w = .ok (.string ⟨#[38, 38]⟩) w := fun _ => by kernel_rfl
set_option maxRecDepth 100000 in
theorem sgi_2 : ∀ w : World, (Instr.index 206 sgArr (.int .i64 2)).run Tryz.prog w = .ok (.string ⟨#[61, 61]⟩) w := fun _ => by kernel_rfl
set_option maxRecDepth 100000 in
theorem sgi_3 : ∀ w : World, (Instr.index 206 sgArr (.int .i64 3)).run Tryz.prog w = .ok (.string ⟨#[33, 61]⟩) w := fun _ => by kernel_rfl
set_option maxRecDepth 100000 in
theorem sgi_4 : ∀ w : World, (Instr.index 206 sgArr (.int .i64 4)).run Tryz.prog w = .ok (.string ⟨#[60, 61]⟩) w := fun _ => by kernel_rfl
set_option maxRecDepth 100000 in
theorem sgi_5 : ∀ w : World, (Instr.index 206 sgArr (.int .i64 5)).run Tryz.prog w = .ok (.string ⟨#[62, 61]⟩) w := fun _ => by kernel_rfl
set_option maxRecDepth 100000 in
theorem sgi_6 : ∀ w : World, (Instr.index 206 sgArr (.int .i64 6)).run Tryz.prog w = .ok (.string ⟨#[40]⟩) w := fun _ => by kernel_rfl
set_option maxRecDepth 100000 in
theorem sgi_7 : ∀ w : World, (Instr.index 206 sgArr (.int .i64 7)).run Tryz.prog w = .ok (.string ⟨#[41]⟩) w := fun _ => by kernel_rfl
set_option maxRecDepth 100000 in
theorem sgi_8 : ∀ w : World, (Instr.index 206 sgArr (.int .i64 8)).run Tryz.prog w = .ok (.string ⟨#[123]⟩) w := fun _ => by kernel_rfl
set_option maxRecDepth 100000 in
theorem sgi_9 : ∀ w : World, (Instr.index 206 sgArr (.int .i64 9)).run Tryz.prog w = .ok (.string ⟨#[125]⟩) w := fun _ => by kernel_rfl
set_option maxRecDepth 100000 in
theorem sgi_10 : ∀ w : World, (Instr.index 206 sgArr (.int .i64 10)).run Tryz.prog w = .ok (.string ⟨#[91]⟩) w := fun _ => by kernel_rfl
set_option maxRecDepth 100000 in
theorem sgi_11 : ∀ w : World, (Instr.index 206 sgArr (.int .i64 11)).run Tryz.prog w = .ok (.string ⟨#[93]⟩) w := fun _ => by kernel_rfl
set_option maxRecDepth 100000 in
theorem sgi_12 : ∀ w : World, (Instr.index 206 sgArr (.int .i64 12)).run Tryz.prog w = .ok (.string ⟨#[44]⟩) w := fun _ => by kernel_rfl
set_option maxRecDepth 100000 in
theorem sgi_13 : ∀ w : World, (Instr.index 206 sgArr (.int .i64 13)).run Tryz.prog w = .ok (.string ⟨#[59]⟩) w := fun _ => by kernel_rfl
set_option maxRecDepth 100000 in
theorem sgi_14 : ∀ w : World, (Instr.index 206 sgArr (.int .i64 14)).run Tryz.prog w = .ok (.string ⟨#[61]⟩) w := fun _ => by kernel_rfl
set_option maxRecDepth 100000 in
theorem sgi_15 : ∀ w : World, (Instr.index 206 sgArr (.int .i64 15)).run Tryz.prog w = .ok (.string ⟨#[60]⟩) w := fun _ => by kernel_rfl
set_option maxRecDepth 100000 in
theorem sgi_16 : ∀ w : World, (Instr.index 206 sgArr (.int .i64 16)).run Tryz.prog w = .ok (.string ⟨#[62]⟩) w := fun _ => by kernel_rfl
set_option maxRecDepth 100000 in
theorem sgi_17 : ∀ w : World, (Instr.index 206 sgArr (.int .i64 17)).run Tryz.prog w = .ok (.string ⟨#[43]⟩) w := fun _ => by kernel_rfl
set_option maxRecDepth 100000 in
theorem sgi_18 : ∀ w : World, (Instr.index 206 sgArr (.int .i64 18)).run Tryz.prog w = .ok (.string ⟨#[45]⟩) w := fun _ => by kernel_rfl
set_option maxRecDepth 100000 in
theorem sgi_19 : ∀ w : World, (Instr.index 206 sgArr (.int .i64 19)).run Tryz.prog w = .ok (.string ⟨#[42]⟩) w := fun _ => by kernel_rfl
set_option maxRecDepth 100000 in
theorem sgi_20 : ∀ w : World, (Instr.index 206 sgArr (.int .i64 20)).run Tryz.prog w = .ok (.string ⟨#[47]⟩) w := fun _ => by kernel_rfl
set_option maxRecDepth 100000 in
theorem sgi_21 : ∀ w : World, (Instr.index 206 sgArr (.int .i64 21)).run Tryz.prog w = .ok (.string ⟨#[37]⟩) w := fun _ => by kernel_rfl
set_option maxRecDepth 100000 in
theorem sgi_22 : ∀ w : World, (Instr.index 206 sgArr (.int .i64 22)).run Tryz.prog w = .ok (.string ⟨#[33]⟩) w := fun _ => by kernel_rfl
theorem sg_at (k : Nat) (h : k < 23) : ∀ w : World, (Instr.index 206 sgArr (.int .i64 (k : Int))).run Tryz.prog w = .ok (.string (B (sgL.getD k []))) w := by
  match k, h with
  | 0, _ => exact sgi_0
  | 1, _ => exact sgi_1
  | 2, _ => exact sgi_2
  | 3, _ => exact sgi_3
  | 4, _ => exact sgi_4
  | 5, _ => exact sgi_5
  | 6, _ => exact sgi_6
  | 7, _ => exact sgi_7
  | 8, _ => exact sgi_8
  | 9, _ => exact sgi_9
  | 10, _ => exact sgi_10
  | 11, _ => exact sgi_11
  | 12, _ => exact sgi_12
  | 13, _ => exact sgi_13
  | 14, _ => exact sgi_14
  | 15, _ => exact sgi_15
  | 16, _ => exact sgi_16
  | 17, _ => exact sgi_17
  | 18, _ => exact sgi_18
  | 19, _ => exact sgi_19
  | 20, _ => exact sgi_20
  | 21, _ => exact sgi_21
  | 22, _ => exact sgi_22
  | k + 23, h => exact absurd h (by omega)
structure GlobSG (w : World) : Prop where
  c0 : w.cell? ⟨3, 0, none⟩ = some (.string ⟨#[124, 124]⟩)
  c1 : w.cell? ⟨3, 1, none⟩ = some (.string ⟨#[38, 38]⟩)
  c2 : w.cell? ⟨3, 2, none⟩ = some (.string ⟨#[61, 61]⟩)
  c3 : w.cell? ⟨3, 3, none⟩ = some (.string ⟨#[33, 61]⟩)
  c4 : w.cell? ⟨3, 4, none⟩ = some (.string ⟨#[60, 61]⟩)
  c5 : w.cell? ⟨3, 5, none⟩ = some (.string ⟨#[62, 61]⟩)
  c6 : w.cell? ⟨3, 6, none⟩ = some (.string ⟨#[40]⟩)
  c7 : w.cell? ⟨3, 7, none⟩ = some (.string ⟨#[41]⟩)
  c8 : w.cell? ⟨3, 8, none⟩ = some (.string ⟨#[123]⟩)
  c9 : w.cell? ⟨3, 9, none⟩ = some (.string ⟨#[125]⟩)
  c10 : w.cell? ⟨3, 10, none⟩ = some (.string ⟨#[91]⟩)
  c11 : w.cell? ⟨3, 11, none⟩ = some (.string ⟨#[93]⟩)
  c12 : w.cell? ⟨3, 12, none⟩ = some (.string ⟨#[44]⟩)
  c13 : w.cell? ⟨3, 13, none⟩ = some (.string ⟨#[59]⟩)
  c14 : w.cell? ⟨3, 14, none⟩ = some (.string ⟨#[61]⟩)
  c15 : w.cell? ⟨3, 15, none⟩ = some (.string ⟨#[60]⟩)
  c16 : w.cell? ⟨3, 16, none⟩ = some (.string ⟨#[62]⟩)
  c17 : w.cell? ⟨3, 17, none⟩ = some (.string ⟨#[43]⟩)
  c18 : w.cell? ⟨3, 18, none⟩ = some (.string ⟨#[45]⟩)
  c19 : w.cell? ⟨3, 19, none⟩ = some (.string ⟨#[42]⟩)
  c20 : w.cell? ⟨3, 20, none⟩ = some (.string ⟨#[47]⟩)
  c21 : w.cell? ⟨3, 21, none⟩ = some (.string ⟨#[37]⟩)
  c22 : w.cell? ⟨3, 22, none⟩ = some (.string ⟨#[33]⟩)
theorem GlobSG.below {w w' : World} (h : GlobSG w) (hb : Below w.heap.size w w') : GlobSG w' := by
  obtain ⟨c0, c1, c2, c3, c4, c5, c6, c7, c8, c9, c10, c11, c12, c13, c14, c15, c16, c17, c18, c19, c20, c21, c22⟩ := h
  have hl : 3 < w.heap.size := World.block_lt_of_cell? _ _ c0
  exact ⟨(hb.cell (p := ⟨_, 0, none⟩) hl).trans c0, (hb.cell (p := ⟨_, 1, none⟩) hl).trans c1, (hb.cell (p := ⟨_, 2, none⟩) hl).trans c2, (hb.cell (p := ⟨_, 3, none⟩) hl).trans c3, (hb.cell (p := ⟨_, 4, none⟩) hl).trans c4, (hb.cell (p := ⟨_, 5, none⟩) hl).trans c5, (hb.cell (p := ⟨_, 6, none⟩) hl).trans c6, (hb.cell (p := ⟨_, 7, none⟩) hl).trans c7, (hb.cell (p := ⟨_, 8, none⟩) hl).trans c8, (hb.cell (p := ⟨_, 9, none⟩) hl).trans c9, (hb.cell (p := ⟨_, 10, none⟩) hl).trans c10, (hb.cell (p := ⟨_, 11, none⟩) hl).trans c11, (hb.cell (p := ⟨_, 12, none⟩) hl).trans c12, (hb.cell (p := ⟨_, 13, none⟩) hl).trans c13, (hb.cell (p := ⟨_, 14, none⟩) hl).trans c14, (hb.cell (p := ⟨_, 15, none⟩) hl).trans c15, (hb.cell (p := ⟨_, 16, none⟩) hl).trans c16, (hb.cell (p := ⟨_, 17, none⟩) hl).trans c17, (hb.cell (p := ⟨_, 18, none⟩) hl).trans c18, (hb.cell (p := ⟨_, 19, none⟩) hl).trans c19, (hb.cell (p := ⟨_, 20, none⟩) hl).trans c20, (hb.cell (p := ⟨_, 21, none⟩) hl).trans c21, (hb.cell (p := ⟨_, 22, none⟩) hl).trans c22⟩

/-- WHAT THE LISTED VARIABLES HOLD. -/
structure Glob (w : World) : Prop where
  kw : GlobKW w
  sg : GlobSG w
  tab : Lib.TabIs Tryz.prog w "internal/strconv.uint64pow10" .u64 Lib.pow10Tab
  syn : ∃ t p, w.cell? ⟨10, 0, none⟩ = some (.iface t p)
  ran : ∃ t p, w.cell? ⟨11, 0, none⟩ = some (.iface t p)
  big : 6 < w.heap.size
theorem Glob.below {w w' : World} (h : Glob w) (hb : Below w.heap.size w w') : Glob w' := by
  obtain ⟨k1, k2, h1, ⟨t2, p2, h2⟩, ⟨t3, p3, h3⟩, h4⟩ := h
  exact ⟨k1.below hb, k2.below hb, var?_below hb gTab h4 h1, ⟨t2, p2, (hb.cell (World.block_lt_of_cell? _ _ h2)).trans h2⟩, ⟨t3, p3, (hb.cell (World.block_lt_of_cell? _ _ h3)).trans h3⟩, Nat.lt_of_lt_of_le h4 hb.size⟩

def sgRow : Array Value := #[.string ⟨#[124, 124]⟩, .string ⟨#[38, 38]⟩, .string ⟨#[61, 61]⟩, .string ⟨#[33, 61]⟩, .string ⟨#[60, 61]⟩, .string ⟨#[62, 61]⟩, .string ⟨#[40]⟩, .string ⟨#[41]⟩, .string ⟨#[123]⟩, .string ⟨#[125]⟩, .string ⟨#[91]⟩, .string ⟨#[93]⟩, .string ⟨#[44]⟩, .string ⟨#[59]⟩, .string ⟨#[61]⟩, .string ⟨#[60]⟩, .string ⟨#[62]⟩, .string ⟨#[43]⟩, .string ⟨#[45]⟩, .string ⟨#[42]⟩, .string ⟨#[47]⟩, .string ⟨#[37]⟩, .string ⟨#[33]⟩]
end Go.Proofs.YtoldhocdfkndbaaGreatDoor.L4

namespace Go.Proofs.YtoldhocdfkndbaaGreatDoor.L4
open Go Go.RowKit Go.Sort

theorem letter_calls (c : Int) (w : World) : Calls Tryz.prog 169 #[.int .u8 c] w fun e w' => e = .returned (.bool (lettI c)) ∧ w = w' := by
  by_cases h1 : 65 ≤ c <;> by_cases h2 : c ≤ 90 <;> by_cases h3 : 97 ≤ c <;> by_cases h4 : c ≤ 122 <;> first | (exfalso; omega) |
    (go_enter Tryz.func169, Tryz.ntmps169
     go_wp2
     go_ret
     exact ⟨by simp [lettI, h1, h2, h3, h4], rfl⟩)
theorem digit_calls (c : Int) (w : World) : Calls Tryz.prog 170 #[.int .u8 c] w fun e w' => e = .returned (.bool (digI c)) ∧ w = w' := by
  by_cases h1 : 48 ≤ c <;> by_cases h2 : c ≤ 57 <;> first | (exfalso; omega) |
    (go_enter Tryz.func170, Tryz.ntmps170
     go_wp2
     go_ret
     exact ⟨by simp [digI, h1, h2], rfl⟩)
theorem kwB_no {s : Bytes} (h : ∀ j, j < 15 → kwsL.getD j [] ≠ s) : kwB s = false := by
  unfold kwB
  rw [← Bool.not_eq_true, List.contains_iff_mem]
  intro hm
  obtain ⟨i, hi, he⟩ := List.getElem_of_mem hm
  have hi' : i < 15 := hi
  refine h i hi' ?_
  rw [List.getD_eq_getElem?_getD, List.getElem?_eq_getElem hi]
  exact he
theorem kwB_yes {s : Bytes} {k : Nat} (hk : k < 15) (h : (s == kwsL[k]?.getD []) = true) : kwB s = true := by
  unfold kwB
  rw [List.contains_iff_mem]
  have hi : k < kwsL.length := hk
  rw [List.getElem?_eq_getElem hi, Option.getD_some] at h
  rw [beq_iff_eq] at h
  rw [h]
  exact List.getElem_mem hi

theorem reserved_calls (s : Bytes) (w : World) (hG : GlobKW w) :
    Calls Tryz.prog 136 #[.string (B s)] w fun e w' => e = .returned (.bool (kwB s)) ∧ w = w' := by
  obtain ⟨c0, c1, c2, c3, c4, c5, c6, c7, c8, c9, c10, c11, c12, c13, c14⟩ := hG
  go_enter Tryz.func136, Tryz.ntmps136
  go_wp2_with fail
  rw [← kwArr_is]
  clear c0 c1 c2 c3 c4 c5 c6 c7 c8 c9 c10 c11 c12 c13 c14
  go_loop [6] (fun i => ∃ k : Nat, k ≤ 15 ∧ i = .int .i64 k ∧ ∀ j, j < k → kwsL.getD j [] ≠ s) (fun i => 15 - (intOf i).toNat)
  case atStart => exact ⟨0, by omega, rfl, fun j hj => by omega⟩
  case round =>
    obtain ⟨k, hk, rfl, hno⟩ := hrel
    have H := Lib.hid hno
    clear hno
    by_cases hlt : k < 15
    · have hi := kw_at k hlt
      go_wp2_with fail
      · rename_i h _
        go_ret
        exact ⟨by rw [kwB_yes hlt h]; rfl, rfl⟩
      · rename_i h
        go_round
        case rel =>
          refine ⟨k + 1, by omega, by go_num, fun j hj => ?_⟩
          rcases Nat.lt_or_ge j k with h1 | h1
          · exact H.out j h1
          · obtain rfl : j = k := by omega
            intro e
            rw [List.getD_eq_getElem?_getD] at e
            rw [e] at h
            simp at h
        case measure => simp [intOf]; omega
    · obtain rfl : k = 15 := by omega
      go_wp2_with fail
      go_ret
      exact ⟨by rw [kwB_no H.out]; rfl, rfl⟩

theorem refKeywords_calls (w : World) :
    Calls Tryz.prog 131 #[] w fun e w' => e = .returned (.slice (some ⟨w.heap.size, 0, none⟩) 15 15) ∧ Below w.heap.size w w' ∧ (∀ k, k < 15 → w'.cell? ⟨w.heap.size, k, none⟩ = some (.string (B (kwsL.getD k [])))) := by
  go_enter Tryz.func131, Tryz.ntmps131
  go_wp2
  go_ret
  refine ⟨rfl, (Below.refl _ w).alloc (Nat.le_refl _) _, fun k hk => ?_⟩
  rw [cell_of_row _ _ k _ _ _ (heap_alloc_new w _)]
  match k, hk with
  | 0, _ | 1, _ | 2, _ | 3, _ | 4, _ | 5, _ | 6, _ | 7, _ | 8, _ | 9, _ | 10, _ | 11, _ | 12, _ | 13, _ | 14, _ => rfl
theorem kwB_yes' {s : Bytes} {k : Nat} (hk : k < 15) (h : (kwsL[k]?.getD [] == s) = true) : kwB s = true := kwB_yes hk (by rw [beq_iff_eq] at h ⊢; exact h.symm)
theorem refReserved_calls (s : Bytes) (w : World) :
    Calls Tryz.prog 87 #[.string (B s)] w fun e w' => e = .returned (.bool (kwB s)) ∧ Below w.heap.size w w' := by
  go_enter Tryz.func87, Tryz.ntmps87
  go_wp2_with fail
  refine (refKeywords_calls _).mono ?_
  rintro e w1 ⟨rfl, hb, hc⟩
  have HB := Lib.hid hb
  have HC := Lib.hid hc
  clear hb hc
  go_wp2_with fail
  go_loop [4] (fun i => ∃ k : Nat, k ≤ 15 ∧ i = .int .i64 k ∧ ∀ j, j < k → kwsL.getD j [] ≠ s) (fun i => 15 - (intOf i).toNat)
  case atStart => exact ⟨0, by omega, rfl, fun j hj => by omega⟩
  case round =>
    obtain ⟨k, hk, rfl, hno⟩ := hrel
    have H := Lib.hid hno
    clear hno
    by_cases hlt : k < 15
    · have hi := HC.out k hlt
      go_wp2_with fail
      · rename_i h _
        go_ret
        exact ⟨by rw [kwB_yes' hlt h]; rfl, HB.out⟩
      · rename_i h
        go_round
        case rel =>
          refine ⟨k + 1, by omega, by go_num, fun j hj => ?_⟩
          rcases Nat.lt_or_ge j k with h1 | h1
          · exact H.out j h1
          · obtain rfl : j = k := by omega
            intro e
            rw [List.getD_eq_getElem?_getD] at e
            rw [e] at h
            simp at h
        case measure => simp [intOf]; omega
    · obtain rfl : k = 15 := by omega
      go_wp2_with fail
      go_ret
      exact ⟨by rw [kwB_no H.out]; rfl, HB.out⟩
end Go.Proofs.YtoldhocdfkndbaaGreatDoor.L4
