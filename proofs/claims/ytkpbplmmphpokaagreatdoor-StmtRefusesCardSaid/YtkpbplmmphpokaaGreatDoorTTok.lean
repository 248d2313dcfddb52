/-
  The law's own words: tokens of words: contract. Written by gen6_tok.py.
-/
import Derived.Test.YtkpbplmmphpokaaGreatDoorTRead
import Derived.Test.YtkpbplmmphpokaaGreatDoorEWk
namespace Go.Proofs.YtkpbplmmphpokaaGreatDoor.E6
open Go Go.RowKit Go.Proofs.YtkpbplmmphpokaaGreatDoor Go.Proofs.YtkpbplmmphpokaaGreatDoor.E5

/-- The kind of a word. -/
def kndB (s : Bytes) : Int := match s with
  | [] => 1
  | c :: _ => if 48 ≤ c.toNat ∧ c.toNat ≤ 57 then 2 else if (c.toNat < 97 ∨ 122 < c.toNat) ∧ (c.toNat < 65 ∨ 90 < c.toNat) then 4 else if L4.kwB s then 3 else 1
def wtk (s : Bytes) : Int × Bytes := (kndB s, s)
/-- A slice value that reads as these words, below block M. -/
def StrL (W : World) (M : Nat) (v : Value) (l : List Bytes) : Prop :=
  ∃ A c, v = .slice A l.length c ∧ l.length ≤ 1000000 ∧ ∀ (i : Nat) s, l[i]? = some s → s ≠ [] ∧ s.length ≤ 1000000 ∧ ∃ b o, A = some ⟨b, o, none⟩ ∧ b < M ∧ W.cell? ⟨b, o + i, none⟩ = some (.string (B s))
theorem StrL.bel {W W' : World} {M : Nat} {v : Value} {l : List Bytes} (h : StrL W M v l) (hb : Below M W W') : StrL W' M v l := by
  obtain ⟨A, c, h1, h2, h3⟩ := h
  refine ⟨A, c, h1, h2, fun i s hi => ?_⟩
  obtain ⟨e0, e1, b, o, e2, e3, e4⟩ := h3 i s hi
  exact ⟨e0, e1, b, o, e2, e3, (hb.cell (p := ⟨b, o + i, none⟩) e3).trans e4⟩
def tkRow (t : Int × Bytes) : List Value := [.int .i64 t.1, .string (B t.2), .int .i64 0]
def kT : S3.RowKind (Int × Bytes) Unit := ⟨26, 3, fun t _ => tkRow t, fun _ _ t _ => t.2.length ≤ 1000000, fun _ _ => rfl, fun h _ _ => h⟩
theorem tokL_gr {base : Nat} {v : Value} {wr : World} {l : TL} (h : S3.GrI kT base l v wr) (hl : l.length ≤ 1000000) : TokL wr wr.heap.size v l := by
  rcases h.done with ⟨rfl, A, c, rfl⟩ | ⟨g, cap, V, rfl, hg, hr, hp⟩
  · exact ⟨A, c, rfl, by decide, fun i t hi => by simp at hi⟩
  · refine ⟨some ⟨g, 0, none⟩, cap, rfl, by omega, fun i t hi => ⟨Nat.le_trans (hp i t hi) (by decide), g, 0, 0, rfl, hr.lt, ?_⟩⟩
    have hrow : (kT.rows l V)[i]? = some (tkRow t) := by simp [S3.RowKind.rows, List.getElem?_mapIdx, hi, kT]
    have c := fun j u hj => hr.cell (j := j) (u := u) hrow hj
    rw [Nat.zero_add]
    exact ⟨c 0 _ rfl, c 1 _ rfl, c 2 _ rfl⟩
/-- What has been made of some words. -/
structure WI (w : World) (l : List Bytes) (k : Nat) (x : Value) (wr : World) : Prop where
  gr : S3.GrI kT w.heap.size ((l.take k).map wtk) x wr
  bel : Below w.heap.size w wr
theorem WI.step {w wr w1 : World} {l : List Bytes} {k : Nat} {x : Value} {s : Bytes} (h : WI w l k x wr) (hs : l[k]? = some s) (hl : s.length ≤ 1000000) (hb : Below wr.heap.size wr w1) :
    ∃ xs, w1.ownsRow w.heap.size 26 3 x k xs ∧ (∀ o g cap w8, w8.ownsRow w.heap.size 26 3 (.slice (some ⟨g, 0, none⟩) (k + 1) cap) (k + 1) (xs ++ tkRow (wtk s)) → (w1.alloc o).grownBy w8 x.ownBlock → (x.ownBlock = some g ∨ g = (w1.alloc o).heap.size) →
      WI w l (k + 1) (.slice (some ⟨g, 0, none⟩) (k + 1) cap) w8) := by
  have hk : k < l.length := (List.getElem?_eq_some_iff.1 hs).1
  have hlen : ((l.take k).map wtk).length = k := by rw [List.length_map, List.length_take, Nat.min_eq_left (Nat.le_of_lt hk)]
  have htk : (l.take (k + 1)).map wtk = (l.take k).map wtk ++ [wtk s] := by
    rw [List.take_add_one, hs]; simp
  obtain ⟨xs, hown, hst⟩ := (h.gr.bel hb).own
  rw [hlen] at hown hst
  refine ⟨xs, hown, fun o g cap w8 h8 hg hat => ?_⟩
  obtain ⟨h1, h2⟩ := hst (wtk s) () o g cap w8 hl h8 hg hat
  refine ⟨?_, (h.bel.trans (hb.mono h.bel.size)).trans h2⟩
  rw [htk]; exact h1
theorem hd_at {s : Bytes} (h : s ≠ []) : ∃ c r, s = c :: r := by
  cases s with
  | nil => exact absurd rfl h
  | cons c r => exact ⟨c, r, rfl⟩
set_option maxRecDepth 100000 in
set_option maxHeartbeats 8000000 in
theorem tokens_calls {w : World} {v : Value} {l : List Bytes} (h : StrL w w.heap.size v l) :
    Calls Tryz.prog 59 #[v] w fun E w' => ∃ A c, E = .returned (.slice A l.length c) ∧ TokL w' w'.heap.size (.slice A l.length c) (l.map wtk) ∧ Below w.heap.size w w' := by
  obtain ⟨A0, c0, rfl, hl, hw⟩ := h
  obtain ⟨i0, hi0, hz0, hz1, hz2⟩ := L4.info_partsT L4.infoTok
  have HI0 := Lib.hid hi0
  have HZ0 := Lib.hid hz0
  have HZ1 := Lib.hid hz1
  have HZ2 := Lib.hid hz2
  have HW := Lib.hid hw
  clear hi0 hz0 hz1 hz2 hw
  go_enter Tryz.func59, Tryz.ntmps59
  go_wp2_with fail
  have HN := Lib.hid (show WI w l 0 (.slice none 0 0) w from ⟨by simpa using S3.GrI.start kT (Nat.le_refl _) (fun _ => ()), Below.refl _ _⟩)
  go_loopw [3, 4] (fun x i wr => ∃ k : Nat, k ≤ l.length ∧ i = .int .i64 k ∧ Hid (WI w l k x wr) ∧ ∃ Ax cx, Hid (x = .slice Ax k cx)) (fun _ i _ => l.length - (intOf i).toNat)
  case atStart => exact ⟨0, by omega, rfl, HN, none, 0, Lib.hid rfl⟩
  case round =>
    clear HN
    obtain ⟨k, hk, rfl, HI, Ax, cx, HX⟩ := hrel
    by_cases hlt : k < l.length
    · obtain ⟨s, hs⟩ : ∃ s, l[k]? = some s := ⟨_, List.getElem?_eq_getElem hlt⟩
      obtain ⟨hne, hsl, bw, ow, hA, hbw, hcell⟩ := HW.out k s hs
      subst hA
      have hcw := (HI.out.bel.cell (p := ⟨bw, ow + k, none⟩) hbw).trans hcell
      have HST := Lib.hid (fun (w1 : World) (hb : Below wr.heap.size wr w1) => HI.out.step hs hsl hb)
      have hszr := HI.out.bel.size
      obtain ⟨c, r, rfl⟩ := hd_at hne
      have hb0 : 0 < (B (c :: r)).size := by rw [L4.B_size]; simp
      have hcx : ((B (c :: r))[0]'hb0) = c := rfl
      have RS := Lib.hid (fun W => L4.refReserved_calls (c :: r) W)
      have bwr : bw < wr.heap.size := by omega
      clear hs hne hsl hcell
      have d1 : (k : Int) < (l.length : Int) := by omega
      by_cases hcdig : 48 ≤ c.toNat ∧ c.toNat ≤ 57
      · have hkd : kndB (c :: r) = 2 := by simp only [kndB]; rw [if_pos (by omega)]
        have g0 : 48 ≤ ((c.toNat : Nat) : Int) := by omega
        have g1 : ((c.toNat : Nat) : Int) ≤ 57 := by omega
        have g2 : ((c.toNat : Nat) : Int) < 97 := by omega
        have g3 : ¬ 122 < ((c.toNat : Nat) : Int) := by omega
        have g4 : ((c.toNat : Nat) : Int) < 65 := by omega
        have g5 : ¬ 90 < ((c.toNat : Nat) : Int) := by omega
        obtain ⟨ys, hown, hst⟩ := HST.out wr (Below.refl _ _)
        have HOW := Lib.hid hown
        simp only [wtk, hkd, tkRow] at hst
        have HSTP := Lib.hid hst
        have hz1 := hszr
        clear hown hst hkd
        clear HST RS HI
        go_wp2_with (at_builtin; go_loud (refine wpList_append_lies _ rfl (.tmp 46) (.tmp 53) 22 rfl w.heap.size 26 i0 _ 3 32 Tryz.underlying22 HI0.out HZ0.out HZ1.out HZ2.out rfl (by decide) u3 k ys rfl (HOW.out.alloc _) ⟨wr.heap.size, 0, none⟩ 1 1 [.int .i64 2, .string (B (c :: r)), .int .i64 0] rfl rfl (news_new _ _ _ _ rfl) (by intro u hu; simp at hu; rcases hu with rfl | rfl | rfl <;> rfl) (by decide) (by unfold maxLen; omega) (by omega) (by simp; omega) _ rfl ?_))
        intro g8 cap8 w8 hown8 hgr8 hat hlt8
        have HN := Lib.hid (HSTP.out _ g8 cap8 w8 hown8 hgr8 (by rcases hat with h | h; exact .inl h; exact .inr (by rw [h]; simp)))
        clear hown8 hgr8 hat hlt8 HOW HSTP
        go_wp2_with fail
        go_roundw
        case rel => exact ⟨k + 1, by omega, by go_num, HN, _, _, Lib.hid rfl⟩
        case measure => simp [intOf]; omega
      by_cases hclo : 0 ≤ c.toNat ∧ c.toNat ≤ 47
      · have hkd : kndB (c :: r) = 4 := by simp only [kndB]; rw [if_neg (by omega), if_pos (by omega)]
        have g0 : ¬ 48 ≤ ((c.toNat : Nat) : Int) := by omega
        have g1 : ((c.toNat : Nat) : Int) ≤ 57 := by omega
        have g2 : ((c.toNat : Nat) : Int) < 97 := by omega
        have g3 : ¬ 122 < ((c.toNat : Nat) : Int) := by omega
        have g4 : ((c.toNat : Nat) : Int) < 65 := by omega
        have g5 : ¬ 90 < ((c.toNat : Nat) : Int) := by omega
        obtain ⟨ys, hown, hst⟩ := HST.out wr (Below.refl _ _)
        have HOW := Lib.hid hown
        simp only [wtk, hkd, tkRow] at hst
        have HSTP := Lib.hid hst
        have hz1 := hszr
        clear hown hst hkd
        clear HST RS HI
        go_wp2_with (at_builtin; go_loud (refine wpList_append_lies _ rfl (.tmp 46) (.tmp 53) 22 rfl w.heap.size 26 i0 _ 3 32 Tryz.underlying22 HI0.out HZ0.out HZ1.out HZ2.out rfl (by decide) u3 k ys rfl (HOW.out.alloc _) ⟨wr.heap.size, 0, none⟩ 1 1 [.int .i64 4, .string (B (c :: r)), .int .i64 0] rfl rfl (news_new _ _ _ _ rfl) (by intro u hu; simp at hu; rcases hu with rfl | rfl | rfl <;> rfl) (by decide) (by unfold maxLen; omega) (by omega) (by simp; omega) _ rfl ?_))
        intro g8 cap8 w8 hown8 hgr8 hat hlt8
        have HN := Lib.hid (HSTP.out _ g8 cap8 w8 hown8 hgr8 (by rcases hat with h | h; exact .inl h; exact .inr (by rw [h]; simp)))
        clear hown8 hgr8 hat hlt8 HOW HSTP
        go_wp2_with fail
        go_roundw
        case rel => exact ⟨k + 1, by omega, by go_num, HN, _, _, Lib.hid rfl⟩
        case measure => simp [intOf]; omega
      by_cases hcmid : 58 ≤ c.toNat ∧ c.toNat ≤ 64
      · have hkd : kndB (c :: r) = 4 := by simp only [kndB]; rw [if_neg (by omega), if_pos (by omega)]
        have g0 : 48 ≤ ((c.toNat : Nat) : Int) := by omega
        have g1 : ¬ ((c.toNat : Nat) : Int) ≤ 57 := by omega
        have g2 : ((c.toNat : Nat) : Int) < 97 := by omega
        have g3 : ¬ 122 < ((c.toNat : Nat) : Int) := by omega
        have g4 : ((c.toNat : Nat) : Int) < 65 := by omega
        have g5 : ¬ 90 < ((c.toNat : Nat) : Int) := by omega
        obtain ⟨ys, hown, hst⟩ := HST.out wr (Below.refl _ _)
        have HOW := Lib.hid hown
        simp only [wtk, hkd, tkRow] at hst
        have HSTP := Lib.hid hst
        have hz1 := hszr
        clear hown hst hkd
        clear HST RS HI
        go_wp2_with (at_builtin; go_loud (refine wpList_append_lies _ rfl (.tmp 46) (.tmp 53) 22 rfl w.heap.size 26 i0 _ 3 32 Tryz.underlying22 HI0.out HZ0.out HZ1.out HZ2.out rfl (by decide) u3 k ys rfl (HOW.out.alloc _) ⟨wr.heap.size, 0, none⟩ 1 1 [.int .i64 4, .string (B (c :: r)), .int .i64 0] rfl rfl (news_new _ _ _ _ rfl) (by intro u hu; simp at hu; rcases hu with rfl | rfl | rfl <;> rfl) (by decide) (by unfold maxLen; omega) (by omega) (by simp; omega) _ rfl ?_))
        intro g8 cap8 w8 hown8 hgr8 hat hlt8
        have HN := Lib.hid (HSTP.out _ g8 cap8 w8 hown8 hgr8 (by rcases hat with h | h; exact .inl h; exact .inr (by rw [h]; simp)))
        clear hown8 hgr8 hat hlt8 HOW HSTP
        go_wp2_with fail
        go_roundw
        case rel => exact ⟨k + 1, by omega, by go_num, HN, _, _, Lib.hid rfl⟩
        case measure => simp [intOf]; omega
      by_cases hcmid2 : 91 ≤ c.toNat ∧ c.toNat ≤ 96
      · have hkd : kndB (c :: r) = 4 := by simp only [kndB]; rw [if_neg (by omega), if_pos (by omega)]
        have g0 : 48 ≤ ((c.toNat : Nat) : Int) := by omega
        have g1 : ¬ ((c.toNat : Nat) : Int) ≤ 57 := by omega
        have g2 : ((c.toNat : Nat) : Int) < 97 := by omega
        have g3 : ¬ 122 < ((c.toNat : Nat) : Int) := by omega
        have g4 : ¬ ((c.toNat : Nat) : Int) < 65 := by omega
        have g5 : 90 < ((c.toNat : Nat) : Int) := by omega
        obtain ⟨ys, hown, hst⟩ := HST.out wr (Below.refl _ _)
        have HOW := Lib.hid hown
        simp only [wtk, hkd, tkRow] at hst
        have HSTP := Lib.hid hst
        have hz1 := hszr
        clear hown hst hkd
        clear HST RS HI
        go_wp2_with (at_builtin; go_loud (refine wpList_append_lies _ rfl (.tmp 46) (.tmp 53) 22 rfl w.heap.size 26 i0 _ 3 32 Tryz.underlying22 HI0.out HZ0.out HZ1.out HZ2.out rfl (by decide) u3 k ys rfl (HOW.out.alloc _) ⟨wr.heap.size, 0, none⟩ 1 1 [.int .i64 4, .string (B (c :: r)), .int .i64 0] rfl rfl (news_new _ _ _ _ rfl) (by intro u hu; simp at hu; rcases hu with rfl | rfl | rfl <;> rfl) (by decide) (by unfold maxLen; omega) (by omega) (by simp; omega) _ rfl ?_))
        intro g8 cap8 w8 hown8 hgr8 hat hlt8
        have HN := Lib.hid (HSTP.out _ g8 cap8 w8 hown8 hgr8 (by rcases hat with h | h; exact .inl h; exact .inr (by rw [h]; simp)))
        clear hown8 hgr8 hat hlt8 HOW HSTP
        go_wp2_with fail
        go_roundw
        case rel => exact ⟨k + 1, by omega, by go_num, HN, _, _, Lib.hid rfl⟩
        case measure => simp [intOf]; omega
      by_cases hchi : 123 ≤ c.toNat ∧ c.toNat ≤ 255
      · have hkd : kndB (c :: r) = 4 := by simp only [kndB]; rw [if_neg (by omega), if_pos (by omega)]
        have g0 : 48 ≤ ((c.toNat : Nat) : Int) := by omega
        have g1 : ¬ ((c.toNat : Nat) : Int) ≤ 57 := by omega
        have g2 : ¬ ((c.toNat : Nat) : Int) < 97 := by omega
        have g3 : 122 < ((c.toNat : Nat) : Int) := by omega
        have g4 : ¬ ((c.toNat : Nat) : Int) < 65 := by omega
        have g5 : 90 < ((c.toNat : Nat) : Int) := by omega
        obtain ⟨ys, hown, hst⟩ := HST.out wr (Below.refl _ _)
        have HOW := Lib.hid hown
        simp only [wtk, hkd, tkRow] at hst
        have HSTP := Lib.hid hst
        have hz1 := hszr
        clear hown hst hkd
        clear HST RS HI
        go_wp2_with (at_builtin; go_loud (refine wpList_append_lies _ rfl (.tmp 46) (.tmp 53) 22 rfl w.heap.size 26 i0 _ 3 32 Tryz.underlying22 HI0.out HZ0.out HZ1.out HZ2.out rfl (by decide) u3 k ys rfl (HOW.out.alloc _) ⟨wr.heap.size, 0, none⟩ 1 1 [.int .i64 4, .string (B (c :: r)), .int .i64 0] rfl rfl (news_new _ _ _ _ rfl) (by intro u hu; simp at hu; rcases hu with rfl | rfl | rfl <;> rfl) (by decide) (by unfold maxLen; omega) (by omega) (by simp; omega) _ rfl ?_))
        intro g8 cap8 w8 hown8 hgr8 hat hlt8
        have HN := Lib.hid (HSTP.out _ g8 cap8 w8 hown8 hgr8 (by rcases hat with h | h; exact .inl h; exact .inr (by rw [h]; simp)))
        clear hown8 hgr8 hat hlt8 HOW HSTP
        go_wp2_with fail
        go_roundw
        case rel => exact ⟨k + 1, by omega, by go_num, HN, _, _, Lib.hid rfl⟩
        case measure => simp [intOf]; omega
      by_cases hcup : 65 ≤ c.toNat ∧ c.toNat ≤ 90
      · have g0 : 48 ≤ ((c.toNat : Nat) : Int) := by omega
        have g1 : ¬ ((c.toNat : Nat) : Int) ≤ 57 := by omega
        have g2 : ((c.toNat : Nat) : Int) < 97 := by omega
        have g3 : ¬ 122 < ((c.toNat : Nat) : Int) := by omega
        have g4 : ¬ ((c.toNat : Nat) : Int) < 65 := by omega
        have g5 : ¬ 90 < ((c.toNat : Nat) : Int) := by omega
        cases hkw : L4.kwB (c :: r) with
        | true =>
          have hkd : kndB (c :: r) = 3 := by simp only [kndB]; rw [if_neg (by omega), if_neg (by omega), hkw]; rfl
          have RK := Lib.hid (fun W => (hkw ▸ RS.out W : Calls Tryz.prog 100 #[.string (B (c :: r))] W fun e w' => e = .returned (.bool true) ∧ Below W.heap.size W w'))
          clear hkw RS
          go_wp2_with fail
          refine (RK.out _).mono ?_
          rintro E w1 ⟨rfl, hb1⟩
          obtain ⟨ys, hown, hst⟩ := HST.out w1 hb1
          simp only [wtk, hkd, tkRow] at hst
          have HOW := Lib.hid hown
          have HSTP := Lib.hid hst
          have hz1 := Nat.le_trans hszr hb1.size
          have hcw1 := (hb1.cell (p := ⟨bw, ow + k, none⟩) bwr).trans hcw
          clear hown hst hkd hb1 HST HI RK
          go_wp2_with (at_builtin; go_loud (refine wpList_append_lies _ rfl (.tmp 46) (.tmp 53) 22 rfl w.heap.size 26 i0 _ 3 32 Tryz.underlying22 HI0.out HZ0.out HZ1.out HZ2.out rfl (by decide) u3 k ys rfl (HOW.out.alloc _) ⟨w1.heap.size, 0, none⟩ 1 1 [.int .i64 3, .string (B (c :: r)), .int .i64 0] rfl rfl (news_new _ _ _ _ rfl) (by intro u hu; simp at hu; rcases hu with rfl | rfl | rfl <;> rfl) (by decide) (by unfold maxLen; omega) (by omega) (by simp; omega) _ rfl ?_))
          intro g8 cap8 w8 hown8 hgr8 hat hlt8
          have HN := Lib.hid (HSTP.out _ g8 cap8 w8 hown8 hgr8 (by rcases hat with h | h; exact .inl h; exact .inr (by rw [h]; simp)))
          clear hown8 hgr8 hat hlt8 HOW HSTP
          go_wp2_with fail
          go_roundw
          case rel => exact ⟨k + 1, by omega, by go_num, HN, _, _, Lib.hid rfl⟩
          case measure => simp [intOf]; omega
        | false =>
          have hkd : kndB (c :: r) = 1 := by simp only [kndB]; rw [if_neg (by omega), if_neg (by omega), hkw]; rfl
          have RK := Lib.hid (fun W => (hkw ▸ RS.out W : Calls Tryz.prog 100 #[.string (B (c :: r))] W fun e w' => e = .returned (.bool false) ∧ Below W.heap.size W w'))
          clear hkw RS
          go_wp2_with fail
          refine (RK.out _).mono ?_
          rintro E w1 ⟨rfl, hb1⟩
          obtain ⟨ys, hown, hst⟩ := HST.out w1 hb1
          simp only [wtk, hkd, tkRow] at hst
          have HOW := Lib.hid hown
          have HSTP := Lib.hid hst
          have hz1 := Nat.le_trans hszr hb1.size
          have hcw1 := (hb1.cell (p := ⟨bw, ow + k, none⟩) bwr).trans hcw
          clear hown hst hkd hb1 HST HI RK
          go_wp2_with (at_builtin; go_loud (refine wpList_append_lies _ rfl (.tmp 46) (.tmp 53) 22 rfl w.heap.size 26 i0 _ 3 32 Tryz.underlying22 HI0.out HZ0.out HZ1.out HZ2.out rfl (by decide) u3 k ys rfl (HOW.out.alloc _) ⟨w1.heap.size, 0, none⟩ 1 1 [.int .i64 1, .string (B (c :: r)), .int .i64 0] rfl rfl (news_new _ _ _ _ rfl) (by intro u hu; simp at hu; rcases hu with rfl | rfl | rfl <;> rfl) (by decide) (by unfold maxLen; omega) (by omega) (by simp; omega) _ rfl ?_))
          intro g8 cap8 w8 hown8 hgr8 hat hlt8
          have HN := Lib.hid (HSTP.out _ g8 cap8 w8 hown8 hgr8 (by rcases hat with h | h; exact .inl h; exact .inr (by rw [h]; simp)))
          clear hown8 hgr8 hat hlt8 HOW HSTP
          go_wp2_with fail
          go_roundw
          case rel => exact ⟨k + 1, by omega, by go_num, HN, _, _, Lib.hid rfl⟩
          case measure => simp [intOf]; omega
      by_cases hclw : 97 ≤ c.toNat ∧ c.toNat ≤ 122
      · have g0 : 48 ≤ ((c.toNat : Nat) : Int) := by omega
        have g1 : ¬ ((c.toNat : Nat) : Int) ≤ 57 := by omega
        have g2 : ¬ ((c.toNat : Nat) : Int) < 97 := by omega
        have g3 : ¬ 122 < ((c.toNat : Nat) : Int) := by omega
        have g4 : ¬ ((c.toNat : Nat) : Int) < 65 := by omega
        have g5 : 90 < ((c.toNat : Nat) : Int) := by omega
        cases hkw : L4.kwB (c :: r) with
        | true =>
          have hkd : kndB (c :: r) = 3 := by simp only [kndB]; rw [if_neg (by omega), if_neg (by omega), hkw]; rfl
          have RK := Lib.hid (fun W => (hkw ▸ RS.out W : Calls Tryz.prog 100 #[.string (B (c :: r))] W fun e w' => e = .returned (.bool true) ∧ Below W.heap.size W w'))
          clear hkw RS
          go_wp2_with fail
          refine (RK.out _).mono ?_
          rintro E w1 ⟨rfl, hb1⟩
          obtain ⟨ys, hown, hst⟩ := HST.out w1 hb1
          simp only [wtk, hkd, tkRow] at hst
          have HOW := Lib.hid hown
          have HSTP := Lib.hid hst
          have hz1 := Nat.le_trans hszr hb1.size
          have hcw1 := (hb1.cell (p := ⟨bw, ow + k, none⟩) bwr).trans hcw
          clear hown hst hkd hb1 HST HI RK
          go_wp2_with (at_builtin; go_loud (refine wpList_append_lies _ rfl (.tmp 46) (.tmp 53) 22 rfl w.heap.size 26 i0 _ 3 32 Tryz.underlying22 HI0.out HZ0.out HZ1.out HZ2.out rfl (by decide) u3 k ys rfl (HOW.out.alloc _) ⟨w1.heap.size, 0, none⟩ 1 1 [.int .i64 3, .string (B (c :: r)), .int .i64 0] rfl rfl (news_new _ _ _ _ rfl) (by intro u hu; simp at hu; rcases hu with rfl | rfl | rfl <;> rfl) (by decide) (by unfold maxLen; omega) (by omega) (by simp; omega) _ rfl ?_))
          intro g8 cap8 w8 hown8 hgr8 hat hlt8
          have HN := Lib.hid (HSTP.out _ g8 cap8 w8 hown8 hgr8 (by rcases hat with h | h; exact .inl h; exact .inr (by rw [h]; simp)))
          clear hown8 hgr8 hat hlt8 HOW HSTP
          go_wp2_with fail
          go_roundw
          case rel => exact ⟨k + 1, by omega, by go_num, HN, _, _, Lib.hid rfl⟩
          case measure => simp [intOf]; omega
        | false =>
          have hkd : kndB (c :: r) = 1 := by simp only [kndB]; rw [if_neg (by omega), if_neg (by omega), hkw]; rfl
          have RK := Lib.hid (fun W => (hkw ▸ RS.out W : Calls Tryz.prog 100 #[.string (B (c :: r))] W fun e w' => e = .returned (.bool false) ∧ Below W.heap.size W w'))
          clear hkw RS
          go_wp2_with fail
          refine (RK.out _).mono ?_
          rintro E w1 ⟨rfl, hb1⟩
          obtain ⟨ys, hown, hst⟩ := HST.out w1 hb1
          simp only [wtk, hkd, tkRow] at hst
          have HOW := Lib.hid hown
          have HSTP := Lib.hid hst
          have hz1 := Nat.le_trans hszr hb1.size
          have hcw1 := (hb1.cell (p := ⟨bw, ow + k, none⟩) bwr).trans hcw
          clear hown hst hkd hb1 HST HI RK
          go_wp2_with (at_builtin; go_loud (refine wpList_append_lies _ rfl (.tmp 46) (.tmp 53) 22 rfl w.heap.size 26 i0 _ 3 32 Tryz.underlying22 HI0.out HZ0.out HZ1.out HZ2.out rfl (by decide) u3 k ys rfl (HOW.out.alloc _) ⟨w1.heap.size, 0, none⟩ 1 1 [.int .i64 1, .string (B (c :: r)), .int .i64 0] rfl rfl (news_new _ _ _ _ rfl) (by intro u hu; simp at hu; rcases hu with rfl | rfl | rfl <;> rfl) (by decide) (by unfold maxLen; omega) (by omega) (by simp; omega) _ rfl ?_))
          intro g8 cap8 w8 hown8 hgr8 hat hlt8
          have HN := Lib.hid (HSTP.out _ g8 cap8 w8 hown8 hgr8 (by rcases hat with h | h; exact .inl h; exact .inr (by rw [h]; simp)))
          clear hown8 hgr8 hat hlt8 HOW HSTP
          go_wp2_with fail
          go_roundw
          case rel => exact ⟨k + 1, by omega, by go_num, HN, _, _, Lib.hid rfl⟩
          case measure => simp [intOf]; omega
      · exfalso; have := c.toNat_lt; omega
    · obtain rfl : k = l.length := by omega
      have HT := Lib.hid (show TokL wr wr.heap.size u3 (l.map wtk) by have := tokL_gr HI.out.gr (by rw [List.take_length, List.length_map]; omega); rwa [List.take_length] at this)
      have HB := Lib.hid HI.out.bel
      obtain rfl := HX.out
      go_wp2_with fail
      go_ret
      exact ⟨_, _, rfl, HT.out, HB.out⟩
end Go.Proofs.YtkpbplmmphpokaaGreatDoor.E6
