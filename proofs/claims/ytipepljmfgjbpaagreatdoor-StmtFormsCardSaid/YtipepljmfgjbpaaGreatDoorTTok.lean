/-
  The law's own words: tokens of words: contract. Written by gen6_tok.py.
  The law's is and wrong; what its examples read as: contracts. Written by gen6_wks.py.
  What each example of the laws of stage 6 asks. Written by gen6_works.py.
-/
import Derived.Test.YtipepljmfgjbpaaGreatDoorTRead
import Derived.Test.YtipepljmfgjbpaaGreatDoorEWk
namespace Go.Proofs.YtipepljmfgjbpaaGreatDoor.E6
open Go Go.RowKit Go.Proofs.YtipepljmfgjbpaaGreatDoor Go.Proofs.YtipepljmfgjbpaaGreatDoor.E5

/-- The kind of a word. -/
def kndB (s : Bytes) : Int := match s with
  | [] => 1
  | c :: _ => if 48 ≤ c.toNat ∧ c.toNat ≤ 57 then 2 else if (c.toNat < 97 ∨ 122 < c.toNat) ∧ (c.toNat < 65 ∨ 90 < c.toNat) then 4 else if L4.kwB s then 3 else 1
def wtk (s : Bytes) : Int × Bytes := (kndB s, s)
/-- A slice value that reads as these words, below block M. -/
def StrL (W : World) (M : Nat) (v : Value) (l : List Bytes) : Prop :=
  ∃ A c, v = .slice A l.length c ∧ l.length ≤ 1000000 ∧ ∀ (i : Nat) s, l[i]? = some s → s ≠ [] ∧ s.length ≤ 1000000 ∧ ∃ b o, A = some ⟨b, o, none⟩ ∧ b < M ∧ W.cell? ⟨b, o + i, none⟩ = some (.string (B s))
theorem StrL.bel {W W' : World} {M : Nat} {v : Value} {l : List Bytes} (h : StrL W M v l) (hb : Below M W W') : StrL W' M v l := by
  obtain ⟨A, c, h1, h2, h3⟩ := h
  refine ⟨A, c, h1, h2, fun i s hi => ?_⟩
  obtain ⟨e0, e1, b, o, e2, e3, e4⟩ := h3 i s hi
  exact ⟨e0, e1, b, o, e2, e3, (hb.cell (p := ⟨b, o + i, none⟩) e3).trans e4⟩
def tkRow (t : Int × Bytes) : List Value := [.int .i64 t.1, .string (B t.2), .int .i64 0]
def kT : S3.RowKind (Int × Bytes) Unit := ⟨33, 3, fun t _ => tkRow t, fun _ _ t _ => t.2.length ≤ 1000000, fun _ _ => rfl, fun h _ _ => h⟩
theorem tokL_gr {base : Nat} {v : Value} {wr : World} {l : TL} (h : S3.GrI kT base l v wr) (hl : l.length ≤ 1000000) : TokL wr wr.heap.size v l := by
  rcases h.done with ⟨rfl, A, c, rfl⟩ | ⟨g, cap, V, rfl, hg, hr, hp⟩
  · exact ⟨A, c, rfl, by decide, fun i t hi => by simp at hi⟩
  · refine ⟨some ⟨g, 0, none⟩, cap, rfl, by omega, fun i t hi => ⟨Nat.le_trans (hp i t hi) (by decide), g, 0, 0, rfl, hr.lt, ?_⟩⟩
    have hrow : (kT.rows l V)[i]? = some (tkRow t) := by simp [S3.RowKind.rows, List.getElem?_mapIdx, hi, kT]
    have c := fun j u hj => hr.cell (j := j) (u := u) hrow hj
    rw [Nat.zero_add]
    exact ⟨c 0 _ rfl, c 1 _ rfl, c 2 _ rfl⟩
/-- What has been made of some words. -/
structure WI (w : World) (l : List Bytes) (k : Nat) (x : Value) (wr : World) : Prop where
  gr : S3.GrI kT w.heap.size ((l.take k).map wtk) x wr
  bel : Below w.heap.size w wr
theorem WI.step {w wr w1 : World} {l : List Bytes} {k : Nat} {x : Value} {s : Bytes} (h : WI w l k x wr) (hs : l[k]? = some s) (hl : s.length ≤ 1000000) (hb : Below wr.heap.size wr w1) :
    ∃ xs, w1.ownsRow w.heap.size 33 3 x k xs ∧ (∀ o g cap w8, w8.ownsRow w.heap.size 33 3 (.slice (some ⟨g, 0, none⟩) (k + 1) cap) (k + 1) (xs ++ tkRow (wtk s)) → (w1.alloc o).grownBy w8 x.ownBlock → (x.ownBlock = some g ∨ g = (w1.alloc o).heap.size) →
      WI w l (k + 1) (.slice (some ⟨g, 0, none⟩) (k + 1) cap) w8) := by
  have hk : k < l.length := (List.getElem?_eq_some_iff.1 hs).1
  have hlen : ((l.take k).map wtk).length = k := by rw [List.length_map, List.length_take, Nat.min_eq_left (Nat.le_of_lt hk)]
  have htk : (l.take (k + 1)).map wtk = (l.take k).map wtk ++ [wtk s] := by
    rw [List.take_add_one, hs]; simp
  obtain ⟨xs, hown, hst⟩ := (h.gr.bel hb).own
  rw [hlen] at hown hst
  refine ⟨xs, hown, fun o g cap w8 h8 hg hat => ?_⟩
  obtain ⟨h1, h2⟩ := hst (wtk s) () o g cap w8 hl h8 hg hat
  refine ⟨?_, (h.bel.trans (hb.mono h.bel.size)).trans h2⟩
  rw [htk]; exact h1
theorem hd_at {s : Bytes} (h : s ≠ []) : ∃ c r, s = c :: r := by
  cases s with
  | nil => exact absurd rfl h
  | cons c r => exact ⟨c, r, rfl⟩
set_option maxRecDepth 100000 in
set_option maxHeartbeats 8000000 in
theorem tokens_own {w : World} {v : Value} {l : List Bytes} (h : StrL w w.heap.size v l) :
    Calls Tryz.prog 10 #[v] w fun E w' => ∃ A c, E = .returned (.slice A l.length c) ∧ S3.GrI kT w.heap.size (l.map wtk) (.slice A l.length c) w' ∧ Below w.heap.size w w' := by
  obtain ⟨A0, c0, rfl, hl, hw⟩ := h
  obtain ⟨i0, hi0, hz0, hz1, hz2⟩ := L4.info_partsT L4.infoTok
  have HI0 := Lib.hid hi0
  have HZ0 := Lib.hid hz0
  have HZ1 := Lib.hid hz1
  have HZ2 := Lib.hid hz2
  have HW := Lib.hid hw
  clear hi0 hz0 hz1 hz2 hw
  go_enter Tryz.func10, Tryz.ntmps10
  go_wp2_with fail
  have HN := Lib.hid (show WI w l 0 (.slice none 0 0) w from ⟨by simpa using S3.GrI.start kT (Nat.le_refl _) (fun _ => ()), Below.refl _ _⟩)
  go_loopw [3, 4] (fun x i wr => ∃ k : Nat, k ≤ l.length ∧ i = .int .i64 k ∧ Hid (WI w l k x wr) ∧ ∃ Ax cx, Hid (x = .slice Ax k cx)) (fun _ i _ => l.length - (intOf i).toNat)
  case atStart => exact ⟨0, by omega, rfl, HN, none, 0, Lib.hid rfl⟩
  case round =>
    clear HN
    obtain ⟨k, hk, rfl, HI, Ax, cx, HX⟩ := hrel
    by_cases hlt : k < l.length
    · obtain ⟨s, hs⟩ : ∃ s, l[k]? = some s := ⟨_, List.getElem?_eq_getElem hlt⟩
      obtain ⟨hne, hsl, bw, ow, hA, hbw, hcell⟩ := HW.out k s hs
      subst hA
      have hcw := (HI.out.bel.cell (p := ⟨bw, ow + k, none⟩) hbw).trans hcell
      have HST := Lib.hid (fun (w1 : World) (hb : Below wr.heap.size wr w1) => HI.out.step hs hsl hb)
      have hszr := HI.out.bel.size
      obtain ⟨c, r, rfl⟩ := hd_at hne
      have hb0 : 0 < (B (c :: r)).size := by rw [L4.B_size]; simp
      have hcx : ((B (c :: r))[0]'hb0) = c := rfl
      have RS := Lib.hid (fun W => L4.refReserved_calls (c :: r) W)
      have bwr : bw < wr.heap.size := by omega
      clear hs hne hsl hcell
      have d1 : (k : Int) < (l.length : Int) := by omega
      by_cases hcdig : 48 ≤ c.toNat ∧ c.toNat ≤ 57
      · have hkd : kndB (c :: r) = 2 := by simp only [kndB]; rw [if_pos (by omega)]
        have g0 : 48 ≤ ((c.toNat : Nat) : Int) := by omega
        have g1 : ((c.toNat : Nat) : Int) ≤ 57 := by omega
        have g2 : ((c.toNat : Nat) : Int) < 97 := by omega
        have g3 : ¬ 122 < ((c.toNat : Nat) : Int) := by omega
        have g4 : ((c.toNat : Nat) : Int) < 65 := by omega
        have g5 : ¬ 90 < ((c.toNat : Nat) : Int) := by omega
        obtain ⟨ys, hown, hst⟩ := HST.out wr (Below.refl _ _)
        have HOW := Lib.hid hown
        simp only [wtk, hkd, tkRow] at hst
        have HSTP := Lib.hid hst
        have hz1 := hszr
        clear hown hst hkd
        clear HST RS HI
        go_wp2_with (at_builtin; go_loud (refine wpList_append_lies _ rfl (.tmp 46) (.tmp 53) 23 rfl w.heap.size 33 i0 _ 3 32 Tryz.underlying23 HI0.out HZ0.out HZ1.out HZ2.out rfl (by decide) u3 k ys rfl (HOW.out.alloc _) ⟨wr.heap.size, 0, none⟩ 1 1 [.int .i64 2, .string (B (c :: r)), .int .i64 0] rfl rfl (news_new _ _ _ _ rfl) (by intro u hu; simp at hu; rcases hu with rfl | rfl | rfl <;> rfl) (by decide) (by unfold maxLen; omega) (by omega) (by simp; omega) _ rfl ?_))
        intro g8 cap8 w8 hown8 hgr8 hat hlt8
        have HN := Lib.hid (HSTP.out _ g8 cap8 w8 hown8 hgr8 (by rcases hat with h | h; exact .inl h; exact .inr (by rw [h]; simp)))
        clear hown8 hgr8 hat hlt8 HOW HSTP
        go_wp2_with fail
        go_roundw
        case rel => exact ⟨k + 1, by omega, by go_num, HN, _, _, Lib.hid rfl⟩
        case measure => simp [intOf]; omega
      by_cases hclo : 0 ≤ c.toNat ∧ c.toNat ≤ 47
      · have hkd : kndB (c :: r) = 4 := by simp only [kndB]; rw [if_neg (by omega), if_pos (by omega)]
        have g0 : ¬ 48 ≤ ((c.toNat : Nat) : Int) := by omega
        have g1 : ((c.toNat : Nat) : Int) ≤ 57 := by omega
        have g2 : ((c.toNat : Nat) : Int) < 97 := by omega
        have g3 : ¬ 122 < ((c.toNat : Nat) : Int) := by omega
        have g4 : ((c.toNat : Nat) : Int) < 65 := by omega
        have g5 : ¬ 90 < ((c.toNat : Nat) : Int) := by omega
        obtain ⟨ys, hown, hst⟩ := HST.out wr (Below.refl _ _)
        have HOW := Lib.hid hown
        simp only [wtk, hkd, tkRow] at hst
        have HSTP := Lib.hid hst
        have hz1 := hszr
        clear hown hst hkd
        clear HST RS HI
        go_wp2_with (at_builtin; go_loud (refine wpList_append_lies _ rfl (.tmp 46) (.tmp 53) 23 rfl w.heap.size 33 i0 _ 3 32 Tryz.underlying23 HI0.out HZ0.out HZ1.out HZ2.out rfl (by decide) u3 k ys rfl (HOW.out.alloc _) ⟨wr.heap.size, 0, none⟩ 1 1 [.int .i64 4, .string (B (c :: r)), .int .i64 0] rfl rfl (news_new _ _ _ _ rfl) (by intro u hu; simp at hu; rcases hu with rfl | rfl | rfl <;> rfl) (by decide) (by unfold maxLen; omega) (by omega) (by simp; omega) _ rfl ?_))
        intro g8 cap8 w8 hown8 hgr8 hat hlt8
        have HN := Lib.hid (HSTP.out _ g8 cap8 w8 hown8 hgr8 (by rcases hat with h | h; exact .inl h; exact .inr (by rw [h]; simp)))
        clear hown8 hgr8 hat hlt8 HOW HSTP
        go_wp2_with fail
        go_roundw
        case rel => exact ⟨k + 1, by omega, by go_num, HN, _, _, Lib.hid rfl⟩
        case measure => simp [intOf]; omega
      by_cases hcmid : 58 ≤ c.toNat ∧ c.toNat ≤ 64
      · have hkd : kndB (c :: r) = 4 := by simp only [kndB]; rw [if_neg (by omega), if_pos (by omega)]
        have g0 : 48 ≤ ((c.toNat : Nat) : Int) := by omega
        have g1 : ¬ ((c.toNat : Nat) : Int) ≤ 57 := by omega
        have g2 : ((c.toNat : Nat) : Int) < 97 := by omega
        have g3 : ¬ 122 < ((c.toNat : Nat) : Int) := by omega
        have g4 : ((c.toNat : Nat) : Int) < 65 := by omega
        have g5 : ¬ 90 < ((c.toNat : Nat) : Int) := by omega
        obtain ⟨ys, hown, hst⟩ := HST.out wr (Below.refl _ _)
        have HOW := Lib.hid hown
        simp only [wtk, hkd, tkRow] at hst
        have HSTP := Lib.hid hst
        have hz1 := hszr
        clear hown hst hkd
        clear HST RS HI
        go_wp2_with (at_builtin; go_loud (refine wpList_append_lies _ rfl (.tmp 46) (.tmp 53) 23 rfl w.heap.size 33 i0 _ 3 32 Tryz.underlying23 HI0.out HZ0.out HZ1.out HZ2.out rfl (by decide) u3 k ys rfl (HOW.out.alloc _) ⟨wr.heap.size, 0, none⟩ 1 1 [.int .i64 4, .string (B (c :: r)), .int .i64 0] rfl rfl (news_new _ _ _ _ rfl) (by intro u hu; simp at hu; rcases hu with rfl | rfl | rfl <;> rfl) (by decide) (by unfold maxLen; omega) (by omega) (by simp; omega) _ rfl ?_))
        intro g8 cap8 w8 hown8 hgr8 hat hlt8
        have HN := Lib.hid (HSTP.out _ g8 cap8 w8 hown8 hgr8 (by rcases hat with h | h; exact .inl h; exact .inr (by rw [h]; simp)))
        clear hown8 hgr8 hat hlt8 HOW HSTP
        go_wp2_with fail
        go_roundw
        case rel => exact ⟨k + 1, by omega, by go_num, HN, _, _, Lib.hid rfl⟩
        case measure => simp [intOf]; omega
      by_cases hcmid2 : 91 ≤ c.toNat ∧ c.toNat ≤ 96
      · have hkd : kndB (c :: r) = 4 := by simp only [kndB]; rw [if_neg (by omega), if_pos (by omega)]
        have g0 : 48 ≤ ((c.toNat : Nat) : Int) := by omega
        have g1 : ¬ ((c.toNat : Nat) : Int) ≤ 57 := by omega
        have g2 : ((c.toNat : Nat) : Int) < 97 := by omega
        have g3 : ¬ 122 < ((c.toNat : Nat) : Int) := by omega
        have g4 : ¬ ((c.toNat : Nat) : Int) < 65 := by omega
        have g5 : 90 < ((c.toNat : Nat) : Int) := by omega
        obtain ⟨ys, hown, hst⟩ := HST.out wr (Below.refl _ _)
        have HOW := Lib.hid hown
        simp only [wtk, hkd, tkRow] at hst
        have HSTP := Lib.hid hst
        have hz1 := hszr
        clear hown hst hkd
        clear HST RS HI
        go_wp2_with (at_builtin; go_loud (refine wpList_append_lies _ rfl (.tmp 46) (.tmp 53) 23 rfl w.heap.size 33 i0 _ 3 32 Tryz.underlying23 HI0.out HZ0.out HZ1.out HZ2.out rfl (by decide) u3 k ys rfl (HOW.out.alloc _) ⟨wr.heap.size, 0, none⟩ 1 1 [.int .i64 4, .string (B (c :: r)), .int .i64 0] rfl rfl (news_new _ _ _ _ rfl) (by intro u hu; simp at hu; rcases hu with rfl | rfl | rfl <;> rfl) (by decide) (by unfold maxLen; omega) (by omega) (by simp; omega) _ rfl ?_))
        intro g8 cap8 w8 hown8 hgr8 hat hlt8
        have HN := Lib.hid (HSTP.out _ g8 cap8 w8 hown8 hgr8 (by rcases hat with h | h; exact .inl h; exact .inr (by rw [h]; simp)))
        clear hown8 hgr8 hat hlt8 HOW HSTP
        go_wp2_with fail
        go_roundw
        case rel => exact ⟨k + 1, by omega, by go_num, HN, _, _, Lib.hid rfl⟩
        case measure => simp [intOf]; omega
      by_cases hchi : 123 ≤ c.toNat ∧ c.toNat ≤ 255
      · have hkd : kndB (c :: r) = 4 := by simp only [kndB]; rw [if_neg (by omega), if_pos (by omega)]
        have g0 : 48 ≤ ((c.toNat : Nat) : Int) := by omega
        have g1 : ¬ ((c.toNat : Nat) : Int) ≤ 57 := by omega
        have g2 : ¬ ((c.toNat : Nat) : Int) < 97 := by omega
        have g3 : 122 < ((c.toNat : Nat) : Int) := by omega
        have g4 : ¬ ((c.toNat : Nat) : Int) < 65 := by omega
        have g5 : 90 < ((c.toNat : Nat) : Int) := by omega
        obtain ⟨ys, hown, hst⟩ := HST.out wr (Below.refl _ _)
        have HOW := Lib.hid hown
        simp only [wtk, hkd, tkRow] at hst
        have HSTP := Lib.hid hst
        have hz1 := hszr
        clear hown hst hkd
        clear HST RS HI
        go_wp2_with (at_builtin; go_loud (refine wpList_append_lies _ rfl (.tmp 46) (.tmp 53) 23 rfl w.heap.size 33 i0 _ 3 32 Tryz.underlying23 HI0.out HZ0.out HZ1.out HZ2.out rfl (by decide) u3 k ys rfl (HOW.out.alloc _) ⟨wr.heap.size, 0, none⟩ 1 1 [.int .i64 4, .string (B (c :: r)), .int .i64 0] rfl rfl (news_new _ _ _ _ rfl) (by intro u hu; simp at hu; rcases hu with rfl | rfl | rfl <;> rfl) (by decide) (by unfold maxLen; omega) (by omega) (by simp; omega) _ rfl ?_))
        intro g8 cap8 w8 hown8 hgr8 hat hlt8
        have HN := Lib.hid (HSTP.out _ g8 cap8 w8 hown8 hgr8 (by rcases hat with h | h; exact .inl h; exact .inr (by rw [h]; simp)))
        clear hown8 hgr8 hat hlt8 HOW HSTP
        go_wp2_with fail
        go_roundw
        case rel => exact ⟨k + 1, by omega, by go_num, HN, _, _, Lib.hid rfl⟩
        case measure => simp [intOf]; omega
      by_cases hcup : 65 ≤ c.toNat ∧ c.toNat ≤ 90
      · have g0 : 48 ≤ ((c.toNat : Nat) : Int) := by omega
        have g1 : ¬ ((c.toNat : Nat) : Int) ≤ 57 := by omega
        have g2 : ((c.toNat : Nat) : Int) < 97 := by omega
        have g3 : ¬ 122 < ((c.toNat : Nat) : Int) := by omega
        have g4 : ¬ ((c.toNat : Nat) : Int) < 65 := by omega
        have g5 : ¬ 90 < ((c.toNat : Nat) : Int) := by omega
        cases hkw : L4.kwB (c :: r) with
        | true =>
          have hkd : kndB (c :: r) = 3 := by simp only [kndB]; rw [if_neg (by omega), if_neg (by omega), hkw]; rfl
          have RK := Lib.hid (fun W => (hkw ▸ RS.out W : Calls Tryz.prog 21 #[.string (B (c :: r))] W fun e w' => e = .returned (.bool true) ∧ Below W.heap.size W w'))
          clear hkw RS
          go_wp2_with fail
          refine (RK.out _).mono ?_
          rintro E w1 ⟨rfl, hb1⟩
          obtain ⟨ys, hown, hst⟩ := HST.out w1 hb1
          simp only [wtk, hkd, tkRow] at hst
          have HOW := Lib.hid hown
          have HSTP := Lib.hid hst
          have hz1 := Nat.le_trans hszr hb1.size
          have hcw1 := (hb1.cell (p := ⟨bw, ow + k, none⟩) bwr).trans hcw
          clear hown hst hkd hb1 HST HI RK
          go_wp2_with (at_builtin; go_loud (refine wpList_append_lies _ rfl (.tmp 46) (.tmp 53) 23 rfl w.heap.size 33 i0 _ 3 32 Tryz.underlying23 HI0.out HZ0.out HZ1.out HZ2.out rfl (by decide) u3 k ys rfl (HOW.out.alloc _) ⟨w1.heap.size, 0, none⟩ 1 1 [.int .i64 3, .string (B (c :: r)), .int .i64 0] rfl rfl (news_new _ _ _ _ rfl) (by intro u hu; simp at hu; rcases hu with rfl | rfl | rfl <;> rfl) (by decide) (by unfold maxLen; omega) (by omega) (by simp; omega) _ rfl ?_))
          intro g8 cap8 w8 hown8 hgr8 hat hlt8
          have HN := Lib.hid (HSTP.out _ g8 cap8 w8 hown8 hgr8 (by rcases hat with h | h; exact .inl h; exact .inr (by rw [h]; simp)))
          clear hown8 hgr8 hat hlt8 HOW HSTP
          go_wp2_with fail
          go_roundw
          case rel => exact ⟨k + 1, by omega, by go_num, HN, _, _, Lib.hid rfl⟩
          case measure => simp [intOf]; omega
        | false =>
          have hkd : kndB (c :: r) = 1 := by simp only [kndB]; rw [if_neg (by omega), if_neg (by omega), hkw]; rfl
          have RK := Lib.hid (fun W => (hkw ▸ RS.out W : Calls Tryz.prog 21 #[.string (B (c :: r))] W fun e w' => e = .returned (.bool false) ∧ Below W.heap.size W w'))
          clear hkw RS
          go_wp2_with fail
          refine (RK.out _).mono ?_
          rintro E w1 ⟨rfl, hb1⟩
          obtain ⟨ys, hown, hst⟩ := HST.out w1 hb1
          simp only [wtk, hkd, tkRow] at hst
          have HOW := Lib.hid hown
          have HSTP := Lib.hid hst
          have hz1 := Nat.le_trans hszr hb1.size
          have hcw1 := (hb1.cell (p := ⟨bw, ow + k, none⟩) bwr).trans hcw
          clear hown hst hkd hb1 HST HI RK
          go_wp2_with (at_builtin; go_loud (refine wpList_append_lies _ rfl (.tmp 46) (.tmp 53) 23 rfl w.heap.size 33 i0 _ 3 32 Tryz.underlying23 HI0.out HZ0.out HZ1.out HZ2.out rfl (by decide) u3 k ys rfl (HOW.out.alloc _) ⟨w1.heap.size, 0, none⟩ 1 1 [.int .i64 1, .string (B (c :: r)), .int .i64 0] rfl rfl (news_new _ _ _ _ rfl) (by intro u hu; simp at hu; rcases hu with rfl | rfl | rfl <;> rfl) (by decide) (by unfold maxLen; omega) (by omega) (by simp; omega) _ rfl ?_))
          intro g8 cap8 w8 hown8 hgr8 hat hlt8
          have HN := Lib.hid (HSTP.out _ g8 cap8 w8 hown8 hgr8 (by rcases hat with h | h; exact .inl h; exact .inr (by rw [h]; simp)))
          clear hown8 hgr8 hat hlt8 HOW HSTP
          go_wp2_with fail
          go_roundw
          case rel => exact ⟨k + 1, by omega, by go_num, HN, _, _, Lib.hid rfl⟩
          case measure => simp [intOf]; omega
      by_cases hclw : 97 ≤ c.toNat ∧ c.toNat ≤ 122
      · have g0 : 48 ≤ ((c.toNat : Nat) : Int) := by omega
        have g1 : ¬ ((c.toNat : Nat) : Int) ≤ 57 := by omega
        have g2 : ¬ ((c.toNat : Nat) : Int) < 97 := by omega
        have g3 : ¬ 122 < ((c.toNat : Nat) : Int) := by omega
        have g4 : ¬ ((c.toNat : Nat) : Int) < 65 := by omega
        have g5 : 90 < ((c.toNat : Nat) : Int) := by omega
        cases hkw : L4.kwB (c :: r) with
        | true =>
          have hkd : kndB (c :: r) = 3 := by simp only [kndB]; rw [if_neg (by omega), if_neg (by omega), hkw]; rfl
          have RK := Lib.hid (fun W => (hkw ▸ RS.out W : Calls Tryz.prog 21 #[.string (B (c :: r))] W fun e w' => e = .returned (.bool true) ∧ Below W.heap.size W w'))
          clear hkw RS
          go_wp2_with fail
          refine (RK.out _).mono ?_
          rintro E w1 ⟨rfl, hb1⟩
          obtain ⟨ys, hown, hst⟩ := HST.out w1 hb1
          simp only [wtk, hkd, tkRow] at hst
          have HOW := Lib.hid hown
          have HSTP := Lib.hid hst
          have hz1 := Nat.le_trans hszr hb1.size
          have hcw1 := (hb1.cell (p := ⟨bw, ow + k, none⟩) bwr).trans hcw
          clear hown hst hkd hb1 HST HI RK
          go_wp2_with (at_builtin; go_loud (refine wpList_append_lies _ rfl (.tmp 46) (.tmp 53) 23 rfl w.heap.size 33 i0 _ 3 32 Tryz.underlying23 HI0.out HZ0.out HZ1.out HZ2.out rfl (by decide) u3 k ys rfl (HOW.out.alloc _) ⟨w1.heap.size, 0, none⟩ 1 1 [.int .i64 3, .string (B (c :: r)), .int .i64 0] rfl rfl (news_new _ _ _ _ rfl) (by intro u hu; simp at hu; rcases hu with rfl | rfl | rfl <;> rfl) (by decide) (by unfold maxLen; omega) (by omega) (by simp; omega) _ rfl ?_))
          intro g8 cap8 w8 hown8 hgr8 hat hlt8
          have HN := Lib.hid (HSTP.out _ g8 cap8 w8 hown8 hgr8 (by rcases hat with h | h; exact .inl h; exact .inr (by rw [h]; simp)))
          clear hown8 hgr8 hat hlt8 HOW HSTP
          go_wp2_with fail
          go_roundw
          case rel => exact ⟨k + 1, by omega, by go_num, HN, _, _, Lib.hid rfl⟩
          case measure => simp [intOf]; omega
        | false =>
          have hkd : kndB (c :: r) = 1 := by simp only [kndB]; rw [if_neg (by omega), if_neg (by omega), hkw]; rfl
          have RK := Lib.hid (fun W => (hkw ▸ RS.out W : Calls Tryz.prog 21 #[.string (B (c :: r))] W fun e w' => e = .returned (.bool false) ∧ Below W.heap.size W w'))
          clear hkw RS
          go_wp2_with fail
          refine (RK.out _).mono ?_
          rintro E w1 ⟨rfl, hb1⟩
          obtain ⟨ys, hown, hst⟩ := HST.out w1 hb1
          simp only [wtk, hkd, tkRow] at hst
          have HOW := Lib.hid hown
          have HSTP := Lib.hid hst
          have hz1 := Nat.le_trans hszr hb1.size
          have hcw1 := (hb1.cell (p := ⟨bw, ow + k, none⟩) bwr).trans hcw
          clear hown hst hkd hb1 HST HI RK
          go_wp2_with (at_builtin; go_loud (refine wpList_append_lies _ rfl (.tmp 46) (.tmp 53) 23 rfl w.heap.size 33 i0 _ 3 32 Tryz.underlying23 HI0.out HZ0.out HZ1.out HZ2.out rfl (by decide) u3 k ys rfl (HOW.out.alloc _) ⟨w1.heap.size, 0, none⟩ 1 1 [.int .i64 1, .string (B (c :: r)), .int .i64 0] rfl rfl (news_new _ _ _ _ rfl) (by intro u hu; simp at hu; rcases hu with rfl | rfl | rfl <;> rfl) (by decide) (by unfold maxLen; omega) (by omega) (by simp; omega) _ rfl ?_))
          intro g8 cap8 w8 hown8 hgr8 hat hlt8
          have HN := Lib.hid (HSTP.out _ g8 cap8 w8 hown8 hgr8 (by rcases hat with h | h; exact .inl h; exact .inr (by rw [h]; simp)))
          clear hown8 hgr8 hat hlt8 HOW HSTP
          go_wp2_with fail
          go_roundw
          case rel => exact ⟨k + 1, by omega, by go_num, HN, _, _, Lib.hid rfl⟩
          case measure => simp [intOf]; omega
      · exfalso; have := c.toNat_lt; omega
    · obtain rfl : k = l.length := by omega
      have HT := Lib.hid (show S3.GrI kT w.heap.size (l.map wtk) u3 wr by have := HI.out.gr; rwa [List.take_length] at this)
      have HB := Lib.hid HI.out.bel
      obtain rfl := HX.out
      go_wp2_with fail
      go_ret
      exact ⟨_, _, rfl, HT.out, HB.out⟩
theorem tokens_calls {w : World} {v : Value} {l : List Bytes} (h : StrL w w.heap.size v l) :
    Calls Tryz.prog 10 #[v] w fun E w' => ∃ A c, E = .returned (.slice A l.length c) ∧ TokL w' w'.heap.size (.slice A l.length c) (l.map wtk) ∧ Below w.heap.size w w' := by
  have hl : l.length ≤ 1000000 := by obtain ⟨_, _, _, h1, _⟩ := h; exact h1
  exact (tokens_own h).mono fun E w' ⟨A, c, h1, h2, h3⟩ => ⟨A, c, h1, tokL_gr h2 (by rw [List.length_map]; exact hl), h3⟩
end Go.Proofs.YtipepljmfgjbpaaGreatDoor.E6

namespace Go.Proofs.YtipepljmfgjbpaaGreatDoor.E6
open Go Go.RowKit Go.Proofs.YtipepljmfgjbpaaGreatDoor Go.Proofs.YtipepljmfgjbpaaGreatDoor.E5

/-- The variables that the laws of statements lean on. -/
structure Glob6 (w : World) : Prop where
  e : GlobE w
  g : GlobW w
theorem Glob6.up {w w' : World} (h : Glob6 w) (hb : Below w.heap.size w w') : Glob6 w' := ⟨h.e.up hb, h.g.up hb⟩
theorem Glob6.al {w : World} (h : Glob6 w) (o : Obj) : Glob6 (w.alloc o) := h.up (S3.bal w o)
def okW (ws : List Bytes) : Bool := decide (ws.length ≤ 1000) && ws.all fun s => decide (s ≠ []) && decide (s.length ≤ 1000)
theorem strL_new (W : World) (ws : List Bytes) (T : TypeId) (h : okW ws = true) : StrL (W.alloc (.cells (ws.map fun s => Value.string (B s)).toArray T)) (W.alloc (.cells (ws.map fun s => Value.string (B s)).toArray T)).heap.size (.slice (some ⟨W.heap.size, 0, none⟩) ws.length ws.length) ws := by
  unfold okW at h
  simp only [Bool.and_eq_true, List.all_eq_true, decide_eq_true_eq] at h
  refine ⟨_, _, rfl, by omega, fun i s hi => ?_⟩
  obtain ⟨h1, h2⟩ := h.2 s (List.mem_of_getElem? hi)
  refine ⟨h1, by omega, W.heap.size, 0, rfl, by simp, ?_⟩
  rw [Nat.zero_add]
  exact S3.newCell W _ T i _ (by rw [List.getElem?_toArray, List.getElem?_map, hi]; rfl)
theorem strL_nil (W : World) : StrL W W.heap.size (.slice none 0 0) [] := ⟨none, 0, rfl, by decide, fun i s hi => by simp at hi⟩
theorem tokN {w : World} {v : Value} {ws : List Bytes} (h : StrL w w.heap.size v ws) :
    Calls Tryz.prog 10 #[v] w fun E w' => ∃ A c, E = .returned (.slice A ws.length c) ∧ TokL w' w'.heap.size (.slice A ws.length c) (ws.map wtk) ∧ Below w.heap.size w w' := tokens_calls h
set_option maxRecDepth 100000 in
set_option maxHeartbeats 2000000 in
theorem is_true {w : World} {v : Value} {ws : List Bytes} (h : StrL w w.heap.size v ws) (hl : ws.length ≤ 1000) (hG : Glob6 w) (kd : Int) (en : Nat) (s : St) (hp : stR (ws.map wtk) 0 1 = .ok s en) (hk : s.kind = kd) :
    Calls Tryz.prog 13 #[.int .i64 kd, .int .i64 (en : Int), v] w fun E w' => E = .returned (.bool true) ∧ Below w.heap.size w w' := by
  have T := Lib.hid (tokN h)
  have C := Lib.hid (fun W (hW : Glob6 W) A c (hT : TokL W W.heap.size (.slice A ws.length c) (ws.map wtk)) => (by have := sparse_calls (i := 0) (d := 1) hT hW.e (by simp) hW.g (by simpa using Nat.le_trans hl (by decide)) (Nat.le_refl _); rw [show depS 1 = 1 from rfl, hp] at this; exact this : Calls Tryz.prog 8 #[.slice A ws.length c, .int .i64 0, .int .i64 1] W (PostPS W (.ok s en))))
  have HG := Lib.hid hG
  have q : (s.kind == kd) = true := by rw [hk]; exact beq_self_eq_true _
  have q2 : ((en : Int) == (en : Int)) = true := beq_self_eq_true _
  clear h hl hG hp hk
  go_enter Tryz.func13, Tryz.ntmps13
  go_wp2_with fail
  refine T.out.mono ?_
  rintro E w1 ⟨A, c, rfl, hT, hb1⟩
  have HB1 := Lib.hid hb1
  have HT := Lib.hid hT
  clear hb1 hT
  go_wp2_with fail
  refine (C.out _ (HG.out.up HB1.out) _ _ HT.out).mono ?_
  rintro E w2 ⟨va, vb, ve, rfl, hS, hb2⟩
  obtain ⟨Aa, ca, rfl⟩ := hS.a.slice
  obtain ⟨Ab, cb, rfl⟩ := hS.b.slice
  obtain ⟨Ae, ce, rfl⟩ := hS.e.slice
  have HB2 := Lib.hid (after HB1.out hb2)
  clear hb2 hS
  go_wp2_with fail
  go_ret
  exact ⟨rfl, HB2.out.alloc HB2.out.size _⟩
set_option maxRecDepth 100000 in
set_option maxHeartbeats 2000000 in
theorem wrong_true {w : World} {v : Value} {ws : List Bytes} (h : StrL w w.heap.size v ws) (hl : ws.length ≤ 1000) (hG : Glob6 w) (at_ : Nat) (hp : stR (ws.map wtk) 0 1 = .bad at_ 7) :
    Calls Tryz.prog 14 #[.int .i64 (at_ : Int), v] w fun E w' => E = .returned (.bool true) ∧ Below w.heap.size w w' := by
  have T := Lib.hid (tokN h)
  have C := Lib.hid (fun W (hW : Glob6 W) A c (hT : TokL W W.heap.size (.slice A ws.length c) (ws.map wtk)) => (by have := sparse_calls (i := 0) (d := 1) hT hW.e (by simp) hW.g (by simpa using Nat.le_trans hl (by decide)) (Nat.le_refl _); rw [show depS 1 = 1 from rfl, hp] at this; exact this : Calls Tryz.prog 8 #[.slice A ws.length c, .int .i64 0, .int .i64 1] W (PostPS W (.bad at_ 7))))
  have HG := Lib.hid hG
  have q2 : ((at_ : Int) == (at_ : Int)) = true := beq_self_eq_true _
  clear h hl hG hp
  go_enter Tryz.func14, Tryz.ntmps14
  go_wp2_with fail
  refine T.out.mono ?_
  rintro E w1 ⟨A, c, rfl, hT, hb1⟩
  have HB1 := Lib.hid hb1
  have HT := Lib.hid hT
  clear hb1 hT
  go_wp2_with fail
  refine (C.out _ (HG.out.up HB1.out) _ _ HT.out).mono ?_
  rintro E w2 ⟨rfl, hb2⟩
  have HB2 := Lib.hid (after HB1.out hb2)
  clear hb2
  go_wp2_with fail
  go_ret
  exact ⟨rfl, HB2.out.alloc HB2.out.size _⟩
/-- The examples hold. -/
def WorksR6 : Prop := ∀ w : World, Glob6 w → Calls Tryz.prog 7 #[] w fun e w' => e = .returned (.bool true) ∧ Below w.heap.size w w'

def ws_a : List Bytes := [[123], [120], [61], [49], [59], [125]]
def ws_b : List Bytes := [[123], [125]]
def ws_d : List Bytes := [[105, 102], [97], [123], [125]]
def ws_i1 : List Bytes := [[118, 97, 114], [120], [105, 110, 116], [61], [49], [43], [50], [59]]
def ws_i2 : List Bytes := [[120], [91], [105], [93], [61], [121], [59]]
def ws_i3 : List Bytes := [[120], [61], [110, 101, 119], [51], [59]]
def ws_i4 : List Bytes := [[102], [40], [49], [44], [50], [41], [59]]
def ws_i5 : List Bytes := [[120], [61], [102], [40], [41], [59]]
def ws_i6 : List Bytes := [[105, 102], [97], [123], [112, 114, 105, 110, 116], [49], [59], [125], [101, 108, 115, 101], [123], [125]]
def ws_i7 : List Bytes := [[114, 101, 116, 117, 114, 110], [59], [120]]
def ws_w1 : List Bytes := [[118, 97, 114], [120], [59]]
def ws_w2 : List Bytes := [[120], [43], [49], [59]]
def ws_w3 : List Bytes := [[112, 114, 105, 110, 116], [49]]
def ws_w4 : List Bytes := []
def ws_w5 : List Bytes := [[105, 102], [97], [112, 114, 105, 110, 116], [49], [59]]
theorem ex_a : blR (ws_a.map wtk) 0 1 = .ok [sSet [120] ⟨1, 0, 1, [], []⟩] 6 := by kernel_rfl
theorem ex_b : blR (ws_b.map wtk) 0 21 = .bad 0 8 := by kernel_rfl
theorem ex_d : stR (ws_d.map wtk) 0 20 = .bad 2 8 := by kernel_rfl
theorem ex_i1 : stR (ws_i1.map wtk) 0 1 = .ok (sVar [120] 1 [⟨5, 1, 0, [], [⟨1, 0, 1, [], []⟩, ⟨1, 0, 2, [], []⟩]⟩]) 8 := by kernel_rfl
theorem ex_i2 : stR (ws_i2.map wtk) 0 1 = .ok (sStore [120] ⟨3, 0, 0, [105], []⟩ ⟨3, 0, 0, [121], []⟩) 7 := by kernel_rfl
theorem ex_i3 : stR (ws_i3.map wtk) 0 1 = .ok (sNew [120] ⟨1, 0, 3, [], []⟩) 5 := by kernel_rfl
theorem ex_i4 : stR (ws_i4.map wtk) 0 1 = .ok (sCall [] [102] [⟨1, 0, 1, [], []⟩, ⟨1, 0, 2, [], []⟩]) 7 := by kernel_rfl
theorem ex_i5 : stR (ws_i5.map wtk) 0 1 = .ok (sCall [120] [102] []) 6 := by kernel_rfl
theorem ex_i6 : stR (ws_i6.map wtk) 0 1 = .ok (sIf ⟨3, 0, 0, [97], []⟩ [sPrint ⟨1, 0, 1, [], []⟩] []) 10 := by kernel_rfl
theorem ex_i7 : stR (ws_i7.map wtk) 0 1 = .ok (sRet []) 2 := by kernel_rfl
theorem ex_w1 : stR (ws_w1.map wtk) 0 1 = .bad 2 7 := by kernel_rfl
theorem ex_w2 : stR (ws_w2.map wtk) 0 1 = .bad 1 7 := by kernel_rfl
theorem ex_w3 : stR (ws_w3.map wtk) 0 1 = .bad 2 7 := by kernel_rfl
theorem ex_w4 : stR (ws_w4.map wtk) 0 1 = .bad 0 7 := by kernel_rfl
theorem ex_w5 : stR (ws_w5.map wtk) 0 1 = .bad 2 7 := by kernel_rfl
end Go.Proofs.YtipepljmfgjbpaaGreatDoor.E6

namespace Go.Proofs.YtipepljmfgjbpaaGreatDoor.E6
open Go Go.RowKit Go.Proofs.YtipepljmfgjbpaaGreatDoor Go.Proofs.YtipepljmfgjbpaaGreatDoor.E5

theorem tk_a (W : World) : Calls Tryz.prog 10 #[(.slice (some ⟨W.heap.size, 0, none⟩) 6 6)] (W.alloc (.cells #[.string ⟨#[123]⟩, .string ⟨#[120]⟩, .string ⟨#[61]⟩, .string ⟨#[49]⟩, .string ⟨#[59]⟩, .string ⟨#[125]⟩] 9)) fun E w' => ∃ A c, E = .returned (.slice A 6 c) ∧ TokL w' w'.heap.size (.slice A 6 c) (ws_a.map wtk) ∧ Below W.heap.size W w' :=
  (tokN (strL_new W ws_a 9 (by decide +kernel))).mono fun _ _ hx => by
    obtain ⟨A, c, h1, h2, h3⟩ := hx
    exact ⟨A, c, h1, h2, after (S3.bal W _) h3⟩
theorem tk_b (W : World) : Calls Tryz.prog 10 #[(.slice (some ⟨W.heap.size, 0, none⟩) 2 2)] (W.alloc (.cells #[.string ⟨#[123]⟩, .string ⟨#[125]⟩] 9)) fun E w' => ∃ A c, E = .returned (.slice A 2 c) ∧ TokL w' w'.heap.size (.slice A 2 c) (ws_b.map wtk) ∧ Below W.heap.size W w' :=
  (tokN (strL_new W ws_b 9 (by decide +kernel))).mono fun _ _ hx => by
    obtain ⟨A, c, h1, h2, h3⟩ := hx
    exact ⟨A, c, h1, h2, after (S3.bal W _) h3⟩
theorem tk_d (W : World) : Calls Tryz.prog 10 #[(.slice (some ⟨W.heap.size, 0, none⟩) 4 4)] (W.alloc (.cells #[.string ⟨#[105, 102]⟩, .string ⟨#[97]⟩, .string ⟨#[123]⟩, .string ⟨#[125]⟩] 9)) fun E w' => ∃ A c, E = .returned (.slice A 4 c) ∧ TokL w' w'.heap.size (.slice A 4 c) (ws_d.map wtk) ∧ Below W.heap.size W w' :=
  (tokN (strL_new W ws_d 9 (by decide +kernel))).mono fun _ _ hx => by
    obtain ⟨A, c, h1, h2, h3⟩ := hx
    exact ⟨A, c, h1, h2, after (S3.bal W _) h3⟩
theorem is_i1 (W : World) (hG : Glob6 W) : Calls Tryz.prog 13 #[.int .i64 1, .int .i64 8, (.slice (some ⟨W.heap.size, 0, none⟩) 8 8)] (W.alloc (.cells #[.string ⟨#[118, 97, 114]⟩, .string ⟨#[120]⟩, .string ⟨#[105, 110, 116]⟩, .string ⟨#[61]⟩, .string ⟨#[49]⟩, .string ⟨#[43]⟩, .string ⟨#[50]⟩, .string ⟨#[59]⟩] 9)) fun E w' => E = .returned (.bool true) ∧ Below W.heap.size W w' :=
  (is_true (strL_new W ws_i1 9 (by decide +kernel)) (by decide +kernel) (hG.al _) 1 8 _ ex_i1 rfl).mono fun _ _ hx => ⟨hx.1, after (S3.bal W _) hx.2⟩
theorem is_i2 (W : World) (hG : Glob6 W) : Calls Tryz.prog 13 #[.int .i64 3, .int .i64 7, (.slice (some ⟨W.heap.size, 0, none⟩) 7 7)] (W.alloc (.cells #[.string ⟨#[120]⟩, .string ⟨#[91]⟩, .string ⟨#[105]⟩, .string ⟨#[93]⟩, .string ⟨#[61]⟩, .string ⟨#[121]⟩, .string ⟨#[59]⟩] 9)) fun E w' => E = .returned (.bool true) ∧ Below W.heap.size W w' :=
  (is_true (strL_new W ws_i2 9 (by decide +kernel)) (by decide +kernel) (hG.al _) 3 7 _ ex_i2 rfl).mono fun _ _ hx => ⟨hx.1, after (S3.bal W _) hx.2⟩
theorem is_i3 (W : World) (hG : Glob6 W) : Calls Tryz.prog 13 #[.int .i64 4, .int .i64 5, (.slice (some ⟨W.heap.size, 0, none⟩) 5 5)] (W.alloc (.cells #[.string ⟨#[120]⟩, .string ⟨#[61]⟩, .string ⟨#[110, 101, 119]⟩, .string ⟨#[51]⟩, .string ⟨#[59]⟩] 9)) fun E w' => E = .returned (.bool true) ∧ Below W.heap.size W w' :=
  (is_true (strL_new W ws_i3 9 (by decide +kernel)) (by decide +kernel) (hG.al _) 4 5 _ ex_i3 rfl).mono fun _ _ hx => ⟨hx.1, after (S3.bal W _) hx.2⟩
theorem is_i4 (W : World) (hG : Glob6 W) : Calls Tryz.prog 13 #[.int .i64 7, .int .i64 7, (.slice (some ⟨W.heap.size, 0, none⟩) 7 7)] (W.alloc (.cells #[.string ⟨#[102]⟩, .string ⟨#[40]⟩, .string ⟨#[49]⟩, .string ⟨#[44]⟩, .string ⟨#[50]⟩, .string ⟨#[41]⟩, .string ⟨#[59]⟩] 9)) fun E w' => E = .returned (.bool true) ∧ Below W.heap.size W w' :=
  (is_true (strL_new W ws_i4 9 (by decide +kernel)) (by decide +kernel) (hG.al _) 7 7 _ ex_i4 rfl).mono fun _ _ hx => ⟨hx.1, after (S3.bal W _) hx.2⟩
theorem is_i5 (W : World) (hG : Glob6 W) : Calls Tryz.prog 13 #[.int .i64 7, .int .i64 6, (.slice (some ⟨W.heap.size, 0, none⟩) 6 6)] (W.alloc (.cells #[.string ⟨#[120]⟩, .string ⟨#[61]⟩, .string ⟨#[102]⟩, .string ⟨#[40]⟩, .string ⟨#[41]⟩, .string ⟨#[59]⟩] 9)) fun E w' => E = .returned (.bool true) ∧ Below W.heap.size W w' :=
  (is_true (strL_new W ws_i5 9 (by decide +kernel)) (by decide +kernel) (hG.al _) 7 6 _ ex_i5 rfl).mono fun _ _ hx => ⟨hx.1, after (S3.bal W _) hx.2⟩
theorem is_i6 (W : World) (hG : Glob6 W) : Calls Tryz.prog 13 #[.int .i64 9, .int .i64 10, (.slice (some ⟨W.heap.size, 0, none⟩) 10 10)] (W.alloc (.cells #[.string ⟨#[105, 102]⟩, .string ⟨#[97]⟩, .string ⟨#[123]⟩, .string ⟨#[112, 114, 105, 110, 116]⟩, .string ⟨#[49]⟩, .string ⟨#[59]⟩, .string ⟨#[125]⟩, .string ⟨#[101, 108, 115, 101]⟩, .string ⟨#[123]⟩, .string ⟨#[125]⟩] 9)) fun E w' => E = .returned (.bool true) ∧ Below W.heap.size W w' :=
  (is_true (strL_new W ws_i6 9 (by decide +kernel)) (by decide +kernel) (hG.al _) 9 10 _ ex_i6 rfl).mono fun _ _ hx => ⟨hx.1, after (S3.bal W _) hx.2⟩
theorem is_i7 (W : World) (hG : Glob6 W) : Calls Tryz.prog 13 #[.int .i64 8, .int .i64 2, (.slice (some ⟨W.heap.size, 0, none⟩) 3 3)] (W.alloc (.cells #[.string ⟨#[114, 101, 116, 117, 114, 110]⟩, .string ⟨#[59]⟩, .string ⟨#[120]⟩] 9)) fun E w' => E = .returned (.bool true) ∧ Below W.heap.size W w' :=
  (is_true (strL_new W ws_i7 9 (by decide +kernel)) (by decide +kernel) (hG.al _) 8 2 _ ex_i7 rfl).mono fun _ _ hx => ⟨hx.1, after (S3.bal W _) hx.2⟩
theorem wr_w1 (W : World) (hG : Glob6 W) : Calls Tryz.prog 14 #[.int .i64 2, (.slice (some ⟨W.heap.size, 0, none⟩) 3 3)] (W.alloc (.cells #[.string ⟨#[118, 97, 114]⟩, .string ⟨#[120]⟩, .string ⟨#[59]⟩] 9)) fun E w' => E = .returned (.bool true) ∧ Below W.heap.size W w' :=
  (wrong_true (strL_new W ws_w1 9 (by decide +kernel)) (by decide +kernel) (hG.al _) 2 ex_w1).mono fun _ _ hx => ⟨hx.1, after (S3.bal W _) hx.2⟩
theorem wr_w2 (W : World) (hG : Glob6 W) : Calls Tryz.prog 14 #[.int .i64 1, (.slice (some ⟨W.heap.size, 0, none⟩) 4 4)] (W.alloc (.cells #[.string ⟨#[120]⟩, .string ⟨#[43]⟩, .string ⟨#[49]⟩, .string ⟨#[59]⟩] 9)) fun E w' => E = .returned (.bool true) ∧ Below W.heap.size W w' :=
  (wrong_true (strL_new W ws_w2 9 (by decide +kernel)) (by decide +kernel) (hG.al _) 1 ex_w2).mono fun _ _ hx => ⟨hx.1, after (S3.bal W _) hx.2⟩
theorem wr_w3 (W : World) (hG : Glob6 W) : Calls Tryz.prog 14 #[.int .i64 2, (.slice (some ⟨W.heap.size, 0, none⟩) 2 2)] (W.alloc (.cells #[.string ⟨#[112, 114, 105, 110, 116]⟩, .string ⟨#[49]⟩] 9)) fun E w' => E = .returned (.bool true) ∧ Below W.heap.size W w' :=
  (wrong_true (strL_new W ws_w3 9 (by decide +kernel)) (by decide +kernel) (hG.al _) 2 ex_w3).mono fun _ _ hx => ⟨hx.1, after (S3.bal W _) hx.2⟩
theorem wr_w5 (W : World) (hG : Glob6 W) : Calls Tryz.prog 14 #[.int .i64 2, (.slice (some ⟨W.heap.size, 0, none⟩) 5 5)] (W.alloc (.cells #[.string ⟨#[105, 102]⟩, .string ⟨#[97]⟩, .string ⟨#[112, 114, 105, 110, 116]⟩, .string ⟨#[49]⟩, .string ⟨#[59]⟩] 9)) fun E w' => E = .returned (.bool true) ∧ Below W.heap.size W w' :=
  (wrong_true (strL_new W ws_w5 9 (by decide +kernel)) (by decide +kernel) (hG.al _) 2 ex_w5).mono fun _ _ hx => ⟨hx.1, after (S3.bal W _) hx.2⟩
theorem wr_w4 (W : World) (hG : Glob6 W) : Calls Tryz.prog 14 #[.int .i64 0, .slice none 0 0] W fun E w' => E = .returned (.bool true) ∧ Below W.heap.size W w' :=
  wrong_true (strL_nil W) (by decide) hG 0 ex_w4
theorem bk_a (W : World) (A : Option Addr) (c : Nat) (hT : TokL W W.heap.size (.slice A 6 c) (ws_a.map wtk)) (hG : Glob6 W) : Calls Tryz.prog 11 #[.slice A 6 c, .int .i64 0, .int .i64 1] W fun E w' => ∃ A c, E = .returned (.tuple #[.slice A 1 c, .int .i64 6, .int .i64 0]) ∧ Below W.heap.size W w' := by
  have h := sblock_calls (i := 0) (d := 1) hT hG.e (by simp) hG.g (by decide) (Nat.le_refl _)
  rw [show depS 1 = 1 from rfl, ex_a] at h
  exact h.mono fun _ _ hx => by obtain ⟨A, c, h1, _, h3⟩ := hx; exact ⟨A, c, h1, h3⟩
theorem bk_b (W : World) (A : Option Addr) (c : Nat) (hT : TokL W W.heap.size (.slice A 2 c) (ws_b.map wtk)) (hG : Glob6 W) : Calls Tryz.prog 11 #[.slice A 2 c, .int .i64 0, .int .i64 21] W fun E w' => E = .returned (.tuple #[.slice none 0 0, .int .i64 0, .int .i64 8]) ∧ Below W.heap.size W w' := by
  have h := sblock_calls (i := 0) (d := 21) hT hG.e (by simp) hG.g (by decide) (by decide)
  rw [show depS 21 = 21 from rfl, ex_b] at h
  exact h
theorem bk_c (W : World) (A : Option Addr) (c : Nat) : Calls Tryz.prog 11 #[.slice A 2 c, .int .i64 0, .int .i64 0] W fun E w' => E = .returned (.tuple #[.slice none 0 0, .int .i64 0, .int .i64 3]) ∧ Below W.heap.size W w' := sblock_range 0 0 (by omega)
theorem ps_d (W : World) (A : Option Addr) (c : Nat) (hT : TokL W W.heap.size (.slice A 4 c) (ws_d.map wtk)) (hG : Glob6 W) : Calls Tryz.prog 8 #[.slice A 4 c, .int .i64 0, .int .i64 20] W fun E w' => E = .returned (.tuple #[S3.sV zS (.slice none 0 0) (.slice none 0 0) (.slice none 0 0), .int .i64 2, .int .i64 8]) ∧ Below W.heap.size W w' := by
  have h := sparse_calls (i := 0) (d := 20) hT hG.e (by simp) hG.g (by decide) (by decide)
  rw [show depS 20 = 20 from rfl, ex_d] at h
  exact h
theorem ty_bool (W : World) (hG : Glob6 W) : Calls Tryz.prog 15 #[.string ⟨#[98, 111, 111, 108]⟩] W fun E w' => E = .returned (.int .i64 2) ∧ Below W.heap.size W w' := type_calls [98, 111, 111, 108] W hG.g
theorem ty_len (W : World) (hG : Glob6 W) : Calls Tryz.prog 15 #[.string ⟨#[108, 101, 110]⟩] W fun E w' => E = .returned (.int .i64 0) ∧ Below W.heap.size W w' := type_calls [108, 101, 110] W hG.g
theorem wd_arr (W : World) (hG : Glob6 W) : Calls Tryz.prog 16 #[.int .i64 3] W fun E w' => E = .returned (.string ⟨#[97, 114, 114, 97, 121]⟩) ∧ Below W.heap.size W w' := word_calls 3 W hG.g
theorem wd_no (W : World) (hG : Glob6 W) : Calls Tryz.prog 16 #[.int .i64 0] W fun E w' => E = .returned (.string ⟨#[]⟩) ∧ Below W.heap.size W w' := word_calls 0 W hG.g
end Go.Proofs.YtipepljmfgjbpaaGreatDoor.E6
