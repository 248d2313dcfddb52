/-
  Statements with their tokens: they are read as themselves; cut off, they end there, or their next token is missing. No program is named here.
  Each kind of statement with its tokens. No program is named here.
  Statements that begin with a name; blocks; if and while. No program is named here.
  Blocks in blocks: what they are read as, and where they are too deep. No program is named here.
-/
import Derived.Test.YtipepljmfgjbpaaGreatDoorTMath
import Derived.Test.YtipepljmfgjbpaaGreatDoorEScan
namespace Go.Proofs.YtipepljmfgjbpaaGreatDoor.E6
open Go Go.Proofs.YtipepljmfgjbpaaGreatDoor Go.Proofs.YtipepljmfgjbpaaGreatDoor.E5

/-- Nothing, or the keyword func. -/
def StopF (r : TL) : Prop := r = [] ∨ ∃ x, r = (3, [102, 117, 110, 99]) :: x
theorem StopF.l {r : TL} (h : StopF r) : StopL r := by
  rcases h with rfl | ⟨x, rfl⟩
  · exact .inl rfl
  · exact .inr ⟨_, x, rfl, .inr rfl⟩
theorem StopF.tk {l rest : TL} {i : Nat} (h : StopF rest) (hd : l.drop i = rest) : tkAt l i = (0, []) ∨ tkAt l i = (3, [102, 117, 110, 99]) := by
  rcases h with rfl | ⟨x, rfl⟩
  · left
    unfold tkAt
    rw [List.getElem?_eq_none (by simpa using List.drop_eq_nil_iff.1 hd)]; rfl
  · right; exact (tk_at hd).1
theorem StopF.sg {l rest : TL} {i : Nat} (h : StopF rest) (hd : l.drop i = rest) : sgAt l i = [] := by
  unfold sgAt
  rcases h.tk hd with h | h <;> rw [h] <;> simp
theorem StopF.no {l rest : TL} {i : Nat} (h : StopF rest) (hd : l.drop i = rest) {s : Bytes} (h1 : s ≠ []) : sgAt l i ≠ s := by
  rw [h.sg hd]; exact fun e => h1 e.symm
theorem StopF.kw {l rest : TL} {i : Nat} (h : StopF rest) (hd : l.drop i = rest) {s : Bytes} (h1 : s ≠ []) (h2 : s ≠ [102, 117, 110, 99]) : kwAt l i ≠ s := by
  unfold kwAt
  rcases h.tk hd with h | h <;> rw [h]
  · exact fun e => h1 e.symm
  · exact fun e => h2 e.symm
theorem StopF.nm {l rest : TL} {i : Nat} (h : StopF rest) (hd : l.drop i = rest) : nmTok (tkAt l i) = false := by
  rcases h.tk hd with h | h <;> rw [h] <;> simp [nmTok]
theorem StopF.kind {l rest : TL} {i : Nat} (h : StopF rest) (hd : l.drop i = rest) : (tkAt l i).1 ≠ 1 := by
  rcases h.tk hd with h | h <;> rw [h] <;> simp
theorem StopF.typ {l rest : TL} {i : Nat} (h : StopF rest) (hd : l.drop i = rest) : typW (kwAt l i) = 0 := by
  unfold kwAt
  rcases h.tk hd with h | h <;> rw [h] <;> decide

/-! ### tokens at a place -/
theorem kw_at {l : TL} {i : Nat} {s : Bytes} {r : TL} (h : l.drop i = (3, s) :: r) : kwAt l i = s := by
  unfold kwAt; rw [(tk_at h).1]; simp
theorem kw_other {l : TL} {i : Nat} {k : Int} {s : Bytes} {r : TL} (h : l.drop i = (k, s) :: r) (hk : k ≠ 3) : kwAt l i = [] := by
  unfold kwAt; rw [(tk_at h).1]; simp [hk]
theorem drop_take {l a rest : TL} {i c : Nat} (h : l.drop i = a.take c ++ rest) (hc : c ≤ a.length) : l.drop (i + c) = rest := by
  have := drop_add h
  rwa [List.length_take, Nat.min_eq_left hc] at this
/-! ### expressions in statements -/
structure OkT (t : Tr) : Prop where
  ok : t.ok
  lev : t.lev ≤ 20
theorem OkT.nest {t : Tr} (h : OkT t) : t.nest ≤ 40 := by have := nest_lev t; have := h.lev; omega
/-- What an expression may begin with. -/
def HeadT (x : Int × Bytes) : Prop := x.1 = 1 ∨ x.1 = 2 ∨ (x.1 = 3 ∧ (x.2 = [116, 114, 117, 101] ∨ x.2 = [102, 97, 108, 115, 101] ∨ x.2 = [108, 101, 110])) ∨ (x.1 = 4 ∧ (x.2 = [40] ∨ x.2 = [45] ∨ x.2 = [33]))
theorem tk_head (t : Tr) : t.ok → ∃ x r, t.tk = x :: r ∧ HeadT x := by
  induction t with
  | num n => intro _; exact ⟨_, _, rfl, .inr (.inl rfl)⟩
  | bool b => intro _; exact ⟨_, _, rfl, .inr (.inr (.inl ⟨rfl, by cases b <;> simp⟩))⟩
  | len s => intro _; exact ⟨_, _, rfl, .inr (.inr (.inl ⟨rfl, .inr (.inr rfl)⟩))⟩
  | var s => intro _; exact ⟨_, _, rfl, .inl rfl⟩
  | un op a _ => intro h; refine ⟨_, _, rfl, .inr (.inr (.inr ⟨rfl, ?_⟩))⟩; rcases h.1 with rfl | rfl <;> decide
  | idx s a _ => intro _; exact ⟨_, _, rfl, .inl rfl⟩
  | bin op a b iha _ =>
    intro h
    obtain ⟨x, r, h1, h2⟩ := iha h.2.1
    cases hc : a.comp with
    | true => exact ⟨tOpen, _, by rw [Tr.tk, parT, hc]; rfl, .inr (.inr (.inr ⟨rfl, .inl rfl⟩))⟩
    | false => exact ⟨x, _, by rw [Tr.tk, parT, hc, if_neg (by simp), h1]; rfl, h2⟩
/-- A name with a parenthesis behind it begins no expression. -/
def NoCall (ts : TL) : Prop := ∀ x y r, ts = x :: y :: r → x.1 = 1 → y ≠ (4, [40])
theorem tk_nocall (t : Tr) : t.ok → ∀ (s : Bytes) (post : TL), s ≠ [40] → NoCall (t.tk ++ (4, s) :: post) := by
  induction t with
  | num n => intro _ s post _ x y r h h1; cases h; cases h1
  | bool b => intro _ s post _ x y r h h1; cases h; cases h1
  | len n => intro _ s post _ x y r h h1; cases h; cases h1
  | var n => intro _ s post hs x y r h h1 e; cases h; exact hs (Prod.mk.inj e).2
  | un op a _ =>
    intro _ s post _ x y r h h1
    have h : ((4, signB op) :: (parT a.comp a.tk ++ (4, s) :: post) : TL) = x :: y :: r := h
    rw [← (List.cons.inj h).1] at h1; cases h1
  | idx n a _ => intro _ s post _ x y r h h1 e; cases h; cases e
  | bin op a b iha _ =>
    intro h s post hs x y r hh h1
    cases hc : a.comp with
    | true =>
      rw [Tr.tk, parT, hc] at hh
      have hh : (tOpen :: ((a.tk ++ [tShut]) ++ (4, signB op) :: parT b.comp b.tk ++ (4, s) :: post) : TL) = x :: y :: r := hh
      rw [← (List.cons.inj hh).1] at h1; cases h1
    | false =>
      have : signB op ≠ [40] := by
        obtain ⟨q1, q2, q3, q4⟩ := signB_bin h.1
        intro e; rw [e] at q2; exact absurd q2 (by decide)
      refine iha h.2.1 (signB op) (parT b.comp b.tk ++ (4, s) :: post) this x y r ?_ h1
      have e : parT a.comp a.tk = a.tk := by rw [hc]; rfl
      rw [← hh, Tr.tk, e]; simp
theorem parse_ok {l : TL} {t : Tr} (h : OkT t) {i : Nat} {post : TL} (hd : l.drop i = t.tk ++ post) (he : endB l (i + t.tk.length)) (hs : sgAt l (i + t.tk.length) ≠ [91]) : parseR l i 0 = .ok t.ex (i + t.tk.length) := by
  rw [parseR_is]
  exact (parse_tree l t h.ok h.lev).2 i 0 post 1 (by omega) hd (by have := h.nest; omega) (.inl rfl) he hs
/-- Behind an expression stands a sign that is no operator, nor a bracket that opens. -/
theorem parse_sg {l : TL} {t : Tr} (h : OkT t) {i : Nat} {s : Bytes} {post : TL} (hd : l.drop i = t.tk ++ (4, s) :: post) (h1 : (opB s).2 < 1) (h2 : s ≠ [91]) :
    parseR l i 0 = .ok t.ex (i + t.tk.length) ∧ l.drop (i + t.tk.length) = (4, s) :: post ∧ sgAt l (i + t.tk.length) = s := by
  have h3 := drop_add hd
  have h4 := sg_at h3
  exact ⟨parse_ok h hd (by unfold E5.endB; rw [h4]; exact h1) (by rw [h4]; exact h2), h3, h4⟩
theorem parse_cut {t : Tr} (h : OkT t) (i c : Nat) (hc : c < t.tk.length) : ∃ r, (r = .bad (i + c) 7 ∨ ∃ e, r = .ok e (i + c)) ∧ ∀ l rest, StopL rest → i ≤ l.length → l.drop i = t.tk.take c ++ rest → parseR l i 0 = r := by
  obtain ⟨r, hr, hf⟩ := (cut_tree t h.ok h.lev).2 i 0 c 1 (by omega) hc (by have := h.nest; omega) (.inl rfl)
  refine ⟨r, ?_, fun l rest hs hi hd => by rw [parseR_is]; exact hf l rest hs hi hd⟩
  rcases hr with h | ⟨e, h, _⟩
  · exact .inl h
  · exact .inr ⟨e, h⟩
/-- .. whole, but what stands behind is missing. -/
theorem parse_miss {l rest : TL} {t : Tr} (h : OkT t) {i : Nat} (hs : StopL rest) (hd : l.drop i = t.tk ++ rest) : parseR l i 0 = .ok t.ex (i + t.tk.length) :=
  parse_ok h hd (hs.endB (drop_add hd)) (hs.no (drop_add hd) (by simp) (by decide))
/-- An expression at the end of what was cut, or whole: the place that is wrong is where the cut is, if a sign has to follow. -/
theorem val_cut {l rest : TL} {t : Tr} (h : OkT t) {i c : Nat} (hc : c ≤ t.tk.length) (hs : StopF rest) (hi : i ≤ l.length) (hd : l.drop i = t.tk.take c ++ rest) (f : Ex → Nat → RS) (hf : ∀ e, sgAt l (i + c) = [] → kwAt l (i + c) = kwAt l (i + c) → f e (i + c) = .bad (i + c) 7) :
    (match parseR l i 0 with | .ok e n => f e n | .bad j c => .bad j c) = .bad (i + c) 7 := by
  have hk := drop_take hd hc
  have hf := fun e => hf e (hs.sg hk) rfl
  rcases Nat.lt_or_ge c t.tk.length with hlt | hge
  · obtain ⟨r, hr, hq⟩ := parse_cut h i c hlt
    rw [hq l rest hs.l hi hd]
    rcases hr with rfl | ⟨e, rfl⟩
    · rfl
    · exact hf e
  · obtain rfl : c = t.tk.length := by omega
    rw [List.take_length] at hd
    rw [parse_miss h hs.l hd]
    exact hf _
theorem valS_is {l : TL} {mk : Ex → St} {t : Tr} (h : OkT t) {i : Nat} {post : TL} (hd : l.drop i = t.tk ++ (4, [59]) :: post) : valS l mk i = .ok (mk t.ex) (i + t.tk.length + 1) := by
  obtain ⟨h1, h2, h3⟩ := parse_sg h hd (by decide) (by decide)
  unfold valS
  rw [h1]
  simp only [endS]
  rw [if_pos h3]
theorem valS_cut {l rest : TL} {mk : Ex → St} {t : Tr} (h : OkT t) {i c : Nat} (hc : c ≤ t.tk.length) (hs : StopF rest) (hi : i ≤ l.length) (hd : l.drop i = t.tk.take c ++ rest) : valS l mk i = .bad (i + c) 7 := by
  unfold valS
  exact val_cut h hc hs hi hd (fun e n => endS l (mk e) n) (fun e h _ => by unfold endS; rw [if_neg (by rw [h]; simp)])

/-! ### arguments -/
def tComma : Int × Bytes := (4, [44])
/-- Behind the parenthesis. -/
def restT : List Tr → TL
  | [] => [tShut]
  | [t] => t.tk ++ [tShut]
  | t :: ts => t.tk ++ tComma :: restT ts
def argsT (ts : List Tr) : TL := tOpen :: restT ts
theorem restT_two (t : Tr) (u : Tr) (ts : List Tr) : restT (t :: u :: ts) = t.tk ++ tComma :: restT (u :: ts) := rfl
theorem restT_pos (ts : List Tr) : 0 < (restT ts).length := by
  match ts with
  | [] => simp [restT]
  | [t] => simp [restT]
  | t :: u :: ts => simp [restT]; omega
theorem lst_ok {l : TL} : ∀ (ts : List Tr) (acc : List Ex) (i f : Nat) (post : TL), ts ≠ [] → (∀ t ∈ ts, OkT t) → ts.length ≤ f → l.drop i = restT ts ++ post → lstR l 0 f acc i = .ok (acc ++ ts.map Tr.ex) (i + (restT ts).length) := by
  intro ts
  induction ts with
  | nil => intro acc i f post h; exact absurd rfl h
  | cons t ts ih =>
    intro acc i f post _ hok hf hd
    obtain ⟨f, rfl⟩ : ∃ k, f = k + 1 := ⟨f - 1, by simp at hf; omega⟩
    cases ts with
    | nil =>
      have hd : l.drop i = t.tk ++ (4, [41]) :: post := by rw [hd]; simp [restT, tShut]
      obtain ⟨h1, h2, h3⟩ := parse_sg (hok t (by simp)) hd (by decide) (by decide)
      rw [lstR, h1]
      simp only
      rw [h3, if_neg (by decide), if_pos rfl]
      simp [restT]; omega
    | cons u ts =>
      have hd : l.drop i = t.tk ++ (4, [44]) :: (restT (u :: ts) ++ post) := by rw [hd, restT_two]; simp [tComma]
      obtain ⟨h1, h2, h3⟩ := parse_sg (hok t (by simp)) hd (by decide) (by decide)
      rw [lstR, h1]
      simp only
      rw [h3, if_pos rfl, ih (acc ++ [t.ex]) (i + t.tk.length + 1) f post (by simp) (fun x hx => hok x (List.mem_cons_of_mem _ hx)) (by simp at hf ⊢; omega) (tk_at h2).2.2]
      rw [restT_two]
      simp; omega
theorem lst_cut {l rest : TL} (hs : StopF rest) : ∀ (ts : List Tr) (acc : List Ex) (i f c : Nat), ts ≠ [] → (∀ t ∈ ts, OkT t) → c < f → i ≤ l.length → c < (restT ts).length → l.drop i = (restT ts).take c ++ rest → lstR l 0 f acc i = .bad (i + c) 7 := by
  intro ts
  induction ts with
  | nil => intro acc i f c h; exact absurd rfl h
  | cons t ts ih =>
    intro acc i f c _ hok hf hi hc hd
    obtain ⟨f, rfl⟩ : ∃ k, f = k + 1 := ⟨f - 1, by omega⟩
    have hot := hok t (by simp)
    rw [lstR]
    by_cases hct : c ≤ t.tk.length
    · have hd : l.drop i = t.tk.take c ++ rest := by
        rw [hd]
        congr 1
        cases ts with
        | nil => exact List.take_append_of_le_length hct
        | cons u ts => rw [restT_two]; exact List.take_append_of_le_length hct
      have hk := drop_take hd hct
      rcases Nat.lt_or_ge c t.tk.length with hlt | hge
      · obtain ⟨r, hr, hq⟩ := parse_cut hot i c hlt
        rw [hq l rest hs.l hi hd]
        rcases hr with rfl | ⟨e, rfl⟩
        · rfl
        · simp only
          rw [if_neg (hs.no hk (by simp)), if_neg (hs.no hk (by simp))]
      · obtain rfl : c = t.tk.length := by omega
        rw [List.take_length] at hd
        rw [parse_miss hot hs.l hd]
        simp only
        rw [if_neg (hs.no hk (by simp)), if_neg (hs.no hk (by simp))]
    · cases ts with
      | nil => simp [restT] at hc; omega
      | cons u ts =>
        obtain ⟨c, rfl⟩ : ∃ k, c = t.tk.length + (k + 1) := ⟨c - t.tk.length - 1, by omega⟩
        have hd : l.drop i = t.tk ++ (4, [44]) :: ((restT (u :: ts)).take c ++ rest) := by
          rw [hd, restT_two, take_long (by omega), show t.tk.length + (c + 1) - t.tk.length = c + 1 by omega, List.take_succ_cons]; simp [tComma]
        obtain ⟨h1, h2, h3⟩ := parse_sg hot hd (by decide) (by decide)
        have hi2 := (tk_at h2).2.1
        rw [h1]
        simp only
        rw [h3, if_pos rfl]
        have hc2 : c < (restT (u :: ts)).length := by rw [restT_two] at hc; simp at hc; omega
        rw [ih (acc ++ [t.ex]) (i + t.tk.length + 1) f c (by simp) (fun x hx => hok x (List.mem_cons_of_mem _ hx)) (by omega) hi2 hc2 (tk_at h2).2.2]
        congr 1; omega
theorem list_ok {l : TL} {ts : List Tr} (hok : ∀ t ∈ ts, OkT t) {i : Nat} {post : TL} (hd : l.drop i = argsT ts ++ post) : listR l i 0 = .ok (ts.map Tr.ex) (i + (argsT ts).length) := by
  have hd : l.drop i = (4, [40]) :: (restT ts ++ post) := hd
  obtain ⟨h1, h2, h3⟩ := tk_at hd
  unfold listR
  rw [if_pos (sg_at hd)]
  cases ts with
  | nil =>
    have h3 : l.drop (i + 1) = (4, [41]) :: post := h3
    rw [if_pos (sg_at h3)]; rfl
  | cons t ts =>
    have hne : sgAt l (i + 1) ≠ [41] := by
      obtain ⟨x, r, h4, h5⟩ := tk_head t (hok t (by simp)).ok
      have : l.drop (i + 1) = x :: (r ++ ((restT (t :: ts)).drop t.tk.length ++ post)) := by
        rw [h3]
        cases ts with
        | nil => simp [restT, h4]
        | cons u ts => rw [restT_two]; simp [h4]
      unfold sgAt
      rw [(tk_at this).1]
      rcases h5 with h5 | h5 | ⟨h5, _⟩ | ⟨h5, h6⟩
      · rw [h5]; simp
      · rw [h5]; simp
      · rw [h5]; simp
      · rw [h5, if_pos rfl]; rcases h6 with h6 | h6 | h6 <;> rw [h6] <;> decide
    rw [if_neg hne]
    have hl : (t :: ts).length ≤ l.length + 1 := by
      have : (t :: ts).length ≤ (restT (t :: ts)).length := by
        have : ∀ ts : List Tr, ts.length ≤ (restT ts).length := by
          intro ts
          induction ts with
          | nil => simp
          | cons t ts ih =>
            cases ts with
            | nil => simp [restT]
            | cons u ts => rw [restT_two]; simp at ih ⊢; omega
        exact this _
      have h6 := congrArg List.length h3
      rw [List.length_drop, List.length_append] at h6
      omega
    rw [lst_ok (t :: ts) [] (i + 1) (l.length + 1) post (by simp) hok hl h3]
    simp [argsT]; omega
theorem list_cut {l rest : TL} {ts : List Tr} (hok : ∀ t ∈ ts, OkT t) (hs : StopF rest) {i c : Nat} (_hi : i ≤ l.length) (hc : c < (argsT ts).length) (hd : l.drop i = (argsT ts).take c ++ rest) : listR l i 0 = .bad (i + c) 7 := by
  have hk := drop_take hd (Nat.le_of_lt hc)
  unfold listR
  cases c with
  | zero => rw [if_neg (hs.no (i := i) hk (by simp))]; rfl
  | succ c =>
    have hd : l.drop i = (4, [40]) :: ((restT ts).take c ++ rest) := hd
    have hc : c < (restT ts).length := by simpa [argsT] using hc
    obtain ⟨h1, h2, h3⟩ := tk_at hd
    rw [if_pos (sg_at hd)]
    cases ts with
    | nil =>
      obtain rfl : c = 0 := by simp [restT] at hc; omega
      have hk : l.drop (i + 1) = rest := hk
      rw [if_neg (hs.no hk (by simp))]
      have hB := hs.l.bin hk h2 0 1 (by omega)
      rw [lstR, parseR_is, hB]
    | cons t ts =>
      have hne : sgAt l (i + 1) ≠ [41] := by
        cases c with
        | zero => exact hs.no (i := i + 1) (by simpa using h3) (by simp)
        | succ c =>
          obtain ⟨x, r, h4, h5⟩ := tk_head t (hok t (by simp)).ok
          have : ∃ r', restT (t :: ts) = x :: r' := by
            cases ts with
            | nil => exact ⟨r ++ [tShut], by simp [restT, h4]⟩
            | cons u ts => exact ⟨r ++ tComma :: restT (u :: ts), by rw [restT_two, h4]; rfl⟩
          obtain ⟨r', hr'⟩ := this
          rw [hr', List.take_succ_cons] at h3
          unfold sgAt
          rw [(tk_at h3).1]
          rcases h5 with h5 | h5 | ⟨h5, _⟩ | ⟨h5, h6⟩
          · rw [h5]; simp
          · rw [h5]; simp
          · rw [h5]; simp
          · rw [h5, if_pos rfl]; rcases h6 with h6 | h6 | h6 <;> rw [h6] <;> decide
      have hcl : c ≤ l.length := by
        have h6 := congrArg List.length h3
        rw [List.length_drop, List.length_append, List.length_take, Nat.min_eq_left (by omega)] at h6
        omega
      rw [if_neg hne, lst_cut hs (t :: ts) [] (i + 1) (l.length + 1) c (by simp) hok (by omega) h2 hc h3]
      congr 1; omega
/-- .. whole, and what has to follow is missing. -/
theorem list_miss {l rest : TL} {ts : List Tr} (hok : ∀ t ∈ ts, OkT t) {i : Nat} (hd : l.drop i = argsT ts ++ rest) : listR l i 0 = .ok (ts.map Tr.ex) (i + (argsT ts).length) := list_ok hok hd
theorem argS_is {l : TL} {mk : List Ex → St} {ts : List Tr} (hok : ∀ t ∈ ts, OkT t) {i : Nat} {post : TL} (hd : l.drop i = argsT ts ++ (4, [59]) :: post) : argS l mk i = .ok (mk (ts.map Tr.ex)) (i + (argsT ts).length + 1) := by
  unfold argS
  rw [list_ok hok hd]
  simp only [endS]
  rw [if_pos (sg_at (drop_add hd))]
theorem argS_cut {l rest : TL} {mk : List Ex → St} {ts : List Tr} (hok : ∀ t ∈ ts, OkT t) (hs : StopF rest) {i c : Nat} (hi : i ≤ l.length) (hc : c ≤ (argsT ts).length) (hd : l.drop i = (argsT ts).take c ++ rest) : argS l mk i = .bad (i + c) 7 := by
  unfold argS
  rcases Nat.lt_or_ge c (argsT ts).length with hlt | hge
  · rw [list_cut hok hs hi hlt hd]
  · obtain rfl : c = (argsT ts).length := by omega
    rw [List.take_length] at hd
    rw [list_miss hok hd]
    simp only [endS]
    rw [if_neg (hs.no (drop_add hd) (by simp))]
end Go.Proofs.YtipepljmfgjbpaaGreatDoor.E6

namespace Go.Proofs.YtipepljmfgjbpaaGreatDoor.E6
open Go Go.Proofs.YtipepljmfgjbpaaGreatDoor Go.Proofs.YtipepljmfgjbpaaGreatDoor.E5

def tSemi : Int × Bytes := (4, [59])
def tEq : Int × Bytes := (4, [61])
def HeadS (x : Int × Bytes) : Prop := x.1 = 1 ∨ (x.1 = 3 ∧ x.2 ≠ wElse)
/-- A statement and its tokens, with blocks at most so deep. -/
structure FS (deep : Nat) (s : St) (ts : TL) : Prop where
  head : ∃ x r, ts = x :: r ∧ HeadS x
  back : ∀ (l : TL) (i d : Nat) (post : TL), l.drop i = ts ++ post → d + deep ≤ 20 → (s.kind = 9 → s.els = [] → kwAt l (i + ts.length) ≠ wElse) → stR l i d = .ok s (i + ts.length)
  cut : ∀ c, c < ts.length → ∀ i, ∃ r, (r = .bad (i + c) 7 ∨ (s.kind = 9 ∧ r = .ok { s with els := [] } (i + c))) ∧ ∀ (l : TL) (d : Nat) (rest : TL), StopF rest → i ≤ l.length → d + deep ≤ 20 → l.drop i = ts.take c ++ rest → stR l i d = r
theorem FS.mono {d d' : Nat} {s : St} {ts : TL} (h : FS d s ts) (hd : d ≤ d') : FS d' s ts :=
  ⟨h.head, fun l i k post h1 h2 h3 => h.back l i k post h1 (by omega) h3, fun c hc i => by
    obtain ⟨r, h1, h2⟩ := h.cut c hc i
    exact ⟨r, h1, fun l k rest h3 h4 h5 h6 => h2 l k rest h3 h4 (by omega) h6⟩⟩
/-- A statement that is no if. -/
theorem FS.simple {deep : Nat} {s : St} {ts : TL} (head : ∃ x r, ts = x :: r ∧ HeadS x)
    (back : ∀ (l : TL) (i d : Nat) (post : TL), l.drop i = ts ++ post → i < l.length → d + deep ≤ 20 → oneS l (fun n => blR l n (d + 1)) i = .ok s (i + ts.length))
    (cut : ∀ c, c < ts.length → ∀ (i : Nat) (l : TL) (d : Nat) (rest : TL), StopF rest → i ≤ l.length → d + deep ≤ 20 → l.drop i = ts.take c ++ rest → oneS l (fun n => blR l n (d + 1)) i = .bad (i + c) 7) : FS deep s ts := by
  refine ⟨head, fun l i d post hd h2 _ => ?_, fun c hc i => ⟨_, .inl rfl, fun l d rest h1 h2 h3 h4 => ?_⟩⟩
  · obtain ⟨x, r, rfl, _⟩ := head
    have hi := (tk_at (x := x) (r := r ++ post) hd).2.1
    rw [stR_eq l i d (by omega)]
    exact back l i d post hd hi h2
  · rw [stR_eq l i d h2]
    exact cut c hc i l d rest h1 h2 h3 h4

theorem one_var {l : TL} {B : Nat → RBl} {i : Nat} (h : kwAt l i = wVar) : oneS l B i = varS l (i + 1) := by unfold oneS; rw [if_pos h]
theorem one_read {l : TL} {B : Nat → RBl} {i : Nat} (h : kwAt l i = wRead) : oneS l B i = readS l (i + 1) := by unfold oneS; rw [if_neg (by rw [h]; decide), if_pos h]
theorem one_print {l : TL} {B : Nat → RBl} {i : Nat} (h : kwAt l i = wPrint) : oneS l B i = valS l sPrint (i + 1) := by unfold oneS; rw [if_neg (by rw [h]; decide), if_neg (by rw [h]; decide), if_pos h]
theorem one_return {l : TL} {B : Nat → RBl} {i : Nat} (h : kwAt l i = wReturn) : oneS l B i = retS l (i + 1) := by unfold oneS; rw [if_neg (by rw [h]; decide), if_neg (by rw [h]; decide), if_neg (by rw [h]; decide), if_pos h]
theorem one_if {l : TL} {B : Nat → RBl} {i : Nat} (h : kwAt l i = wIf) : oneS l B i = ifS l B (i + 1) := by unfold oneS; rw [if_neg (by rw [h]; decide), if_neg (by rw [h]; decide), if_neg (by rw [h]; decide), if_neg (by rw [h]; decide), if_pos h]
theorem one_while {l : TL} {B : Nat → RBl} {i : Nat} (h : kwAt l i = wWhile) : oneS l B i = whS l B (i + 1) := by unfold oneS; rw [if_neg (by rw [h]; decide), if_neg (by rw [h]; decide), if_neg (by rw [h]; decide), if_neg (by rw [h]; decide), if_neg (by rw [h]; decide), if_pos h]
theorem one_name {l : TL} {B : Nat → RBl} {i : Nat} (h : kwAt l i = [] ∨ kwAt l i = [102, 117, 110, 99]) : oneS l B i = namS l i := by
  unfold oneS
  rcases h with h | h <;> rw [h, if_neg (by decide), if_neg (by decide), if_neg (by decide), if_neg (by decide), if_neg (by decide), if_neg (by decide)]
theorem StopF.one {l rest : TL} {B : Nat → RBl} {i : Nat} (hs : StopF rest) (hd : l.drop i = rest) : oneS l B i = .bad i 7 := by
  have hk : kwAt l i = [] ∨ kwAt l i = [102, 117, 110, 99] := by
    unfold kwAt
    rcases hs.tk hd with h | h <;> rw [h] <;> simp
  rw [one_name hk]
  unfold namS
  rw [if_neg (by rw [hs.nm hd]; simp)]
theorem StopF.end_ {l rest : TL} {s : St} {i : Nat} (hs : StopF rest) (hd : l.drop i = rest) : endS l s i = .bad i 7 := by unfold endS; rw [if_neg (hs.no hd (by simp))]
theorem nm_of {x : Bytes} (h : S3.nameB x = true) : nmTok (1, x) = true := by simp [nmTok, h]
theorem typ_word {t : Int} (h : 1 ≤ t ∧ t ≤ 3) : typW (wordT t) = t := by
  have : t = 1 ∨ t = 2 ∨ t = 3 := by omega
  rcases this with rfl | rfl | rfl <;> decide

theorem fs_read {x : Bytes} (hx : S3.nameB x = true) (deep : Nat) : FS deep (sRead x) [(3, wRead), (1, x), tSemi] := by
  refine FS.simple ⟨_, _, rfl, .inr ⟨rfl, by decide⟩⟩ (fun l i d post hd hi _ => ?_) fun c hc i l d rest hs hi _ hd => ?_
  · obtain ⟨_, _, h1⟩ := tk_at (x := (3, wRead)) (r := (1, x) :: tSemi :: post) hd
    obtain ⟨t1, _, h2⟩ := tk_at h1
    have h2 : l.drop (i + 2) = (4, [59]) :: post := h2
    rw [one_read (kw_at (r := (1, x) :: tSemi :: post) hd)]
    unfold readS
    rw [t1, if_pos (nm_of hx)]
    unfold endS
    rw [if_pos (sg_at h2)]; rfl
  · match c, hc with
    | 0, _ => exact hs.one (by simpa using hd)
    | 1, _ =>
      have hd : l.drop i = (3, wRead) :: rest := hd
      obtain ⟨_, _, h1⟩ := tk_at hd
      rw [one_read (kw_at hd)]
      unfold readS
      rw [if_neg (by rw [hs.nm h1]; simp)]
    | 2, _ =>
      have hd : l.drop i = (3, wRead) :: (1, x) :: rest := hd
      obtain ⟨_, _, h1⟩ := tk_at hd
      obtain ⟨t1, _, h2⟩ := tk_at h1
      rw [one_read (kw_at hd)]
      unfold readS
      rw [t1, if_pos (nm_of hx), hs.end_ h2]
theorem fs_print {t : Tr} (ht : OkT t) (deep : Nat) : FS deep (sPrint t.ex) ((3, wPrint) :: (t.tk ++ [tSemi])) := by
  refine FS.simple ⟨_, _, rfl, .inr ⟨rfl, by decide⟩⟩ (fun l i d post hd hi _ => ?_) fun c hc i l d rest hs hi _ hd => ?_
  · have hd : l.drop i = (3, wPrint) :: (t.tk ++ (4, [59]) :: post) := by rw [hd]; simp [tSemi]
    obtain ⟨_, _, h1⟩ := tk_at hd
    rw [one_print (kw_at hd), valS_is ht h1]
    congr 1; simp; omega
  · cases c with
    | zero => exact hs.one (by simpa using hd)
    | succ c =>
      have hc : c ≤ t.tk.length := by simp at hc; omega
      have hd : l.drop i = (3, wPrint) :: (t.tk.take c ++ rest) := by rw [hd, List.take_succ_cons, take_short hc]; rfl
      obtain ⟨_, h0, h1⟩ := tk_at hd
      rw [one_print (kw_at hd), valS_cut ht hc hs h0 h1]
      congr 1; omega
theorem fs_ret0 (deep : Nat) : FS deep (sRet []) [(3, wReturn), tSemi] := by
  refine FS.simple ⟨_, _, rfl, .inr ⟨rfl, by decide⟩⟩ (fun l i d post hd hi _ => ?_) fun c hc i l d rest hs hi _ hd => ?_
  · have hd : l.drop i = (3, wReturn) :: (4, [59]) :: post := hd
    obtain ⟨_, _, h1⟩ := tk_at hd
    rw [one_return (kw_at hd)]
    unfold retS
    rw [if_pos (sg_at h1)]; rfl
  · match c, hc with
    | 0, _ => exact hs.one (by simpa using hd)
    | 1, _ =>
      have hd : l.drop i = (3, wReturn) :: rest := hd
      obtain ⟨_, h0, h1⟩ := tk_at hd
      rw [one_return (kw_at hd)]
      unfold retS valS
      rw [if_neg (hs.no h1 (by simp)), parseR_is, hs.l.bin h1 h0 0 1 (by omega)]
/-- An expression does not begin with such a sign. -/
theorem head_sg {l : TL} {i : Nat} {x : Int × Bytes} {r : TL} (h : HeadT x) (hd : l.drop i = x :: r) {s : Bytes} (h0 : s ≠ []) (h1 : s ≠ [40]) (h2 : s ≠ [45]) (h3 : s ≠ [33]) : sgAt l i ≠ s := by
  unfold sgAt
  rw [(tk_at hd).1]
  rcases h with h | h | ⟨h, _⟩ | ⟨h, h6⟩
  · rw [h]; simpa using h0.symm
  · rw [h]; simpa using h0.symm
  · rw [h]; simpa using h0.symm
  · rw [h, if_pos rfl]; rcases h6 with h6 | h6 | h6 <;> rw [h6]
    · exact h1.symm
    · exact h2.symm
    · exact h3.symm
theorem head_kw {l : TL} {i : Nat} {x : Int × Bytes} {r : TL} (h : HeadT x) (hd : l.drop i = x :: r) : kwAt l i ≠ wNew := by
  unfold kwAt
  rw [(tk_at hd).1]
  rcases h with h | h | ⟨h, h6⟩ | ⟨h, _⟩
  · rw [h]; simp [wNew]
  · rw [h]; simp [wNew]
  · rw [h, if_pos rfl]; rcases h6 with h6 | h6 | h6 <;> rw [h6] <;> decide
  · rw [h]; simp [wNew]
/-- The first token of an expression that is cut, if it has one left. -/
theorem cut_head {t : Tr} (ht : OkT t) {c : Nat} {rest : TL} : (∃ x r, HeadT x ∧ t.tk.take (c + 1) ++ rest = x :: r) := by
  obtain ⟨x, r, h1, h2⟩ := tk_head t ht.ok
  exact ⟨x, r.take c ++ rest, h2, by rw [h1]; rfl⟩
theorem fs_ret {t : Tr} (ht : OkT t) (deep : Nat) : FS deep (sRet [t.ex]) ((3, wReturn) :: (t.tk ++ [tSemi])) := by
  refine FS.simple ⟨_, _, rfl, .inr ⟨rfl, by decide⟩⟩ (fun l i d post hd hi _ => ?_) fun c hc i l d rest hs hi _ hd => ?_
  · have hd : l.drop i = (3, wReturn) :: (t.tk ++ (4, [59]) :: post) := by rw [hd]; simp [tSemi]
    obtain ⟨_, _, h1⟩ := tk_at hd
    obtain ⟨x, r, h2, h3⟩ := tk_head t ht.ok
    have h4 : l.drop (i + 1) = x :: (r ++ (4, [59]) :: post) := by rw [h1, h2]; rfl
    rw [one_return (kw_at hd)]
    unfold retS
    rw [if_neg (head_sg h3 h4 (by simp) (by decide) (by decide) (by decide)), valS_is ht h1]
    congr 1; simp; omega
  · cases c with
    | zero => exact hs.one (by simpa using hd)
    | succ c =>
      have hc : c ≤ t.tk.length := by simp at hc; omega
      have hd : l.drop i = (3, wReturn) :: (t.tk.take c ++ rest) := by rw [hd, List.take_succ_cons, take_short hc]; rfl
      obtain ⟨_, h0, h1⟩ := tk_at hd
      have hne : sgAt l (i + 1) ≠ [59] := by
        cases c with
        | zero => exact hs.no (by simpa using h1) (by simp)
        | succ c =>
          obtain ⟨x, r, h3, h4⟩ := cut_head (c := c) (rest := rest) ht
          rw [h4] at h1
          exact head_sg h3 h1 (by simp) (by decide) (by decide) (by decide)
      rw [one_return (kw_at hd)]
      unfold retS
      rw [if_neg hne, valS_cut ht hc hs h0 h1]
      congr 1; omega
theorem fs_var0 {x : Bytes} (hx : S3.nameB x = true) {t : Int} (ht : 1 ≤ t ∧ t ≤ 3) (deep : Nat) : FS deep (sVar x t []) [(3, wVar), (1, x), (3, wordT t), tSemi] := by
  have h0 : ∀ l i, kwAt l i = wordT t → ¬ typW (kwAt l i) = 0 := fun l i h => by rw [h, typ_word ht]; omega
  refine FS.simple ⟨_, _, rfl, .inr ⟨rfl, by decide⟩⟩ (fun l i d post hd hi _ => ?_) fun c hc i l d rest hs hi _ hd => ?_
  · have hd : l.drop i = (3, wVar) :: (1, x) :: (3, wordT t) :: (4, [59]) :: post := hd
    obtain ⟨_, _, h1⟩ := tk_at hd
    obtain ⟨t1, _, h2⟩ := tk_at h1
    obtain ⟨_, _, h3⟩ := tk_at h2
    rw [one_var (kw_at hd)]
    unfold varS
    rw [t1, if_pos (nm_of hx), if_neg (h0 _ _ (kw_at h2)), if_neg (by rw [sg_at h3]; decide), kw_at h2, typ_word ht]
    unfold endS
    rw [if_pos (sg_at h3)]; rfl
  · match c, hc with
    | 0, _ => exact hs.one (by simpa using hd)
    | 1, _ =>
      have hd : l.drop i = (3, wVar) :: rest := hd
      obtain ⟨_, _, h1⟩ := tk_at hd
      rw [one_var (kw_at hd)]
      unfold varS
      rw [if_neg (by rw [hs.nm h1]; simp)]
    | 2, _ =>
      have hd : l.drop i = (3, wVar) :: (1, x) :: rest := hd
      obtain ⟨_, _, h1⟩ := tk_at hd
      obtain ⟨t1, _, h2⟩ := tk_at h1
      rw [one_var (kw_at hd)]
      unfold varS
      rw [t1, if_pos (nm_of hx), if_pos (hs.typ h2)]
    | 3, _ =>
      have hd : l.drop i = (3, wVar) :: (1, x) :: (3, wordT t) :: rest := hd
      obtain ⟨_, _, h1⟩ := tk_at hd
      obtain ⟨t1, _, h2⟩ := tk_at h1
      obtain ⟨_, _, h3⟩ := tk_at h2
      rw [one_var (kw_at hd)]
      unfold varS
      rw [t1, if_pos (nm_of hx), if_neg (h0 _ _ (kw_at h2)), if_neg (hs.no h3 (by simp)), hs.end_ h3]
theorem fs_var {x : Bytes} (hx : S3.nameB x = true) {t : Int} (ht : 1 ≤ t ∧ t ≤ 3) {a : Tr} (ha : OkT a) (deep : Nat) : FS deep (sVar x t [a.ex]) ((3, wVar) :: (1, x) :: (3, wordT t) :: tEq :: (a.tk ++ [tSemi])) := by
  have h0 : ∀ l i, kwAt l i = wordT t → ¬ typW (kwAt l i) = 0 := fun l i h => by rw [h, typ_word ht]; omega
  refine FS.simple ⟨_, _, rfl, .inr ⟨rfl, by decide⟩⟩ (fun l i d post hd hi _ => ?_) fun c hc i l d rest hs hi _ hd => ?_
  · have hd : l.drop i = (3, wVar) :: (1, x) :: (3, wordT t) :: (4, [61]) :: (a.tk ++ (4, [59]) :: post) := by rw [hd]; simp [tSemi, tEq]
    obtain ⟨_, _, h1⟩ := tk_at hd
    obtain ⟨t1, _, h2⟩ := tk_at h1
    obtain ⟨_, _, h3⟩ := tk_at h2
    obtain ⟨_, _, h4⟩ := tk_at h3
    rw [one_var (kw_at hd)]
    unfold varS
    rw [t1, if_pos (nm_of hx), if_neg (h0 _ _ (kw_at h2)), if_pos (sg_at h3), kw_at h2, typ_word ht, valS_is ha h4]
    congr 1; simp; omega
  · match c, hc with
    | 0, _ => exact hs.one (by simpa using hd)
    | 1, _ =>
      have hd : l.drop i = (3, wVar) :: rest := hd
      obtain ⟨_, _, h1⟩ := tk_at hd
      rw [one_var (kw_at hd)]
      unfold varS
      rw [if_neg (by rw [hs.nm h1]; simp)]
    | 2, _ =>
      have hd : l.drop i = (3, wVar) :: (1, x) :: rest := hd
      obtain ⟨_, _, h1⟩ := tk_at hd
      obtain ⟨t1, _, h2⟩ := tk_at h1
      rw [one_var (kw_at hd)]
      unfold varS
      rw [t1, if_pos (nm_of hx), if_pos (hs.typ h2)]
    | 3, _ =>
      have hd : l.drop i = (3, wVar) :: (1, x) :: (3, wordT t) :: rest := hd
      obtain ⟨_, _, h1⟩ := tk_at hd
      obtain ⟨t1, _, h2⟩ := tk_at h1
      obtain ⟨_, _, h3⟩ := tk_at h2
      rw [one_var (kw_at hd)]
      unfold varS
      rw [t1, if_pos (nm_of hx), if_neg (h0 _ _ (kw_at h2)), if_neg (hs.no h3 (by simp)), hs.end_ h3]
    | c + 4, hc =>
      have hc : c ≤ a.tk.length := by simp at hc; omega
      have hd : l.drop i = (3, wVar) :: (1, x) :: (3, wordT t) :: (4, [61]) :: (a.tk.take c ++ rest) := by
        rw [hd, List.take_succ_cons, List.take_succ_cons, List.take_succ_cons, List.take_succ_cons, take_short hc]; rfl
      obtain ⟨_, _, h1⟩ := tk_at hd
      obtain ⟨t1, _, h2⟩ := tk_at h1
      obtain ⟨_, _, h3⟩ := tk_at h2
      obtain ⟨_, h0', h4⟩ := tk_at h3
      rw [one_var (kw_at hd)]
      unfold varS
      rw [t1, if_pos (nm_of hx), if_neg (h0 _ _ (kw_at h2)), if_pos (sg_at h3), valS_cut ha hc hs h0' h4]
      congr 1; omega
end Go.Proofs.YtipepljmfgjbpaaGreatDoor.E6

namespace Go.Proofs.YtipepljmfgjbpaaGreatDoor.E6
open Go Go.Proofs.YtipepljmfgjbpaaGreatDoor Go.Proofs.YtipepljmfgjbpaaGreatDoor.E5

theorem kw_name {l : TL} {i : Nat} {x : Bytes} {r : TL} (h : l.drop i = (1, x) :: r) : kwAt l i = [] := kw_other h (by decide)
theorem nam_at {l : TL} {B : Nat → RBl} {i : Nat} {x : Bytes} {r : TL} (hx : S3.nameB x = true) (h : l.drop i = (1, x) :: r) : oneS l B i =
    if sgAt l (i + 1) = [61] then asgS l x (i + 2) else if sgAt l (i + 1) = [91] then storS l x (i + 2) else argS l (fun a => sCall [] x a) (i + 1) := by
  rw [one_name (.inl (kw_name h))]
  unfold namS
  rw [(tk_at h).1, if_pos (nm_of hx)]
theorem listR_stop {l rest : TL} {i : Nat} (hs : StopF rest) (hd : l.drop i = rest) : listR l i 0 = .bad i 7 := by
  unfold listR
  rw [if_neg (hs.no hd (by simp))]
theorem argS_stop {l rest : TL} {mk : List Ex → St} {i : Nat} (hs : StopF rest) (hd : l.drop i = rest) : argS l mk i = .bad i 7 := by
  unfold argS
  rw [listR_stop hs hd]

/-- No assignment of new memory or of a call, but an expression. -/
theorem asg_expr {l : TL} {x : Bytes} {i : Nat} (h1 : kwAt l i ≠ wNew) (h2 : ¬ ((tkAt l i).1 = 1 ∧ sgAt l (i + 1) = [40])) : asgS l x i = valS l (fun e => sSet x e) i := by
  unfold asgS
  rw [if_neg h1, if_neg h2]
theorem nocall_at {l : TL} {i : Nat} {ts : TL} (h : NoCall ts) (hd : l.drop i = ts) : ¬ ((tkAt l i).1 = 1 ∧ sgAt l (i + 1) = [40]) := by
  rintro ⟨h1, h2⟩
  have hi := kind_lt (l := l) (i := i) (by omega)
  have hi2 := sgAt_lt h2 (by simp)
  have e1 := List.drop_eq_getElem_cons hi
  have e2 := List.drop_eq_getElem_cons hi2
  rw [e2] at e1
  rw [hd] at e1
  have t1 : tkAt l i = l[i] := by unfold tkAt; rw [List.getElem?_eq_getElem hi]; rfl
  have t2 : tkAt l (i + 1) = l[i + 1] := by unfold tkAt; rw [List.getElem?_eq_getElem hi2]; rfl
  refine h _ _ _ e1 (by rw [← t1]; exact h1) ?_
  unfold sgAt at h2
  rw [t2] at h2
  by_cases h4 : (l[i + 1]).1 = 4
  · rw [if_pos h4] at h2
    exact Prod.ext h4 h2
  · rw [if_neg h4] at h2; cases h2
theorem nocall_cut {t : Tr} (ht : OkT t) {c : Nat} {rest : TL} (hs : StopF rest) (hc : c ≤ t.tk.length) : NoCall (t.tk.take c ++ rest) := by
  intro x y r h h1 e
  match c, hc with
  | 0, _ =>
    have h : rest = x :: y :: r := h
    rcases hs with rfl | ⟨q, rfl⟩
    · cases h
    · rw [← (List.cons.inj h).1] at h1; cases h1
  | c + 1, hc =>
    obtain ⟨x', r', h2, h3⟩ := tk_head t ht.ok
    rw [h2, List.take_succ_cons, List.cons_append] at h
    obtain ⟨rfl, h5⟩ := List.cons.inj h
    clear h
    cases c with
    | zero =>
      rw [List.take_zero, List.nil_append] at h5
      rcases hs with rfl | ⟨q, rfl⟩
      · cases h5
      · rw [← (List.cons.inj h5).1] at e; cases e
    | succ c =>
      cases r' with
      | nil => rw [h2] at hc; simp at hc
      | cons z r' =>
        rw [List.take_succ_cons, List.cons_append] at h5
        obtain ⟨rfl, h6⟩ := List.cons.inj h5
        exact tk_nocall t ht.ok [59] [] (by decide) x' z (r' ++ [(4, [59])]) (by rw [h2]; rfl) h1 e

theorem fs_set {x : Bytes} (hx : S3.nameB x = true) {a : Tr} (ha : OkT a) (deep : Nat) : FS deep (sSet x a.ex) ((1, x) :: tEq :: (a.tk ++ [tSemi])) := by
  refine FS.simple ⟨_, _, rfl, .inl rfl⟩ (fun l i d post hd hi _ => ?_) fun c hc i l d rest hs hi _ hd => ?_
  · have hd : l.drop i = (1, x) :: (4, [61]) :: (a.tk ++ (4, [59]) :: post) := by rw [hd]; simp [tSemi, tEq]
    obtain ⟨_, _, h1⟩ := tk_at hd
    obtain ⟨_, _, h2⟩ := tk_at h1
    obtain ⟨y, r, h3, h4⟩ := tk_head a ha.ok
    have h5 : l.drop (i + 2) = y :: (r ++ (4, [59]) :: post) := by rw [show i + 2 = i + 1 + 1 from rfl, h2, h3]; rfl
    rw [nam_at hx hd, if_pos (sg_at h1), asg_expr (head_kw h4 h5) (nocall_at (tk_nocall a ha.ok [59] post (by decide)) h2), valS_is ha h2]
    congr 1; simp; omega
  · match c, hc with
    | 0, _ => exact hs.one (by simpa using hd)
    | 1, _ =>
      have hd : l.drop i = (1, x) :: rest := hd
      obtain ⟨_, _, h1⟩ := tk_at hd
      rw [nam_at hx hd, if_neg (hs.no h1 (by simp)), if_neg (hs.no h1 (by simp)), argS_stop hs h1]
    | c + 2, hc =>
      have hc : c ≤ a.tk.length := by simp at hc; omega
      have hd : l.drop i = (1, x) :: (4, [61]) :: (a.tk.take c ++ rest) := by rw [hd, List.take_succ_cons, List.take_succ_cons, take_short hc]; rfl
      obtain ⟨_, _, h1⟩ := tk_at hd
      obtain ⟨_, h0, h2⟩ := tk_at h1
      have hnew : kwAt l (i + 2) ≠ wNew := by
        cases c with
        | zero => exact hs.kw (i := i + 2) (by simpa using h2) (by decide) (by decide)
        | succ c =>
          obtain ⟨y, r, h3, h4⟩ := cut_head (c := c) (rest := rest) ha
          rw [h4] at h2
          exact head_kw h3 h2
      rw [nam_at hx hd, if_pos (sg_at h1), asg_expr hnew (nocall_at (nocall_cut ha hs hc) h2), valS_cut ha hc hs h0 h2]
      congr 1; omega
theorem fs_new {x : Bytes} (hx : S3.nameB x = true) {a : Tr} (ha : OkT a) (deep : Nat) : FS deep (sNew x a.ex) ((1, x) :: tEq :: (3, wNew) :: (a.tk ++ [tSemi])) := by
  refine FS.simple ⟨_, _, rfl, .inl rfl⟩ (fun l i d post hd hi _ => ?_) fun c hc i l d rest hs hi _ hd => ?_
  · have hd : l.drop i = (1, x) :: (4, [61]) :: (3, wNew) :: (a.tk ++ (4, [59]) :: post) := by rw [hd]; simp [tSemi, tEq]
    obtain ⟨_, _, h1⟩ := tk_at hd
    obtain ⟨_, _, h2⟩ := tk_at h1
    obtain ⟨_, _, h3⟩ := tk_at h2
    rw [nam_at hx hd, if_pos (sg_at h1)]
    unfold asgS
    rw [if_pos (kw_at h2), valS_is ha h3]
    congr 1; simp; omega
  · match c, hc with
    | 0, _ => exact hs.one (by simpa using hd)
    | 1, _ =>
      have hd : l.drop i = (1, x) :: rest := hd
      obtain ⟨_, _, h1⟩ := tk_at hd
      rw [nam_at hx hd, if_neg (hs.no h1 (by simp)), if_neg (hs.no h1 (by simp)), argS_stop hs h1]
    | 2, _ =>
      have hd : l.drop i = (1, x) :: (4, [61]) :: rest := hd
      obtain ⟨_, _, h1⟩ := tk_at hd
      obtain ⟨_, h0, h2⟩ := tk_at h1
      rw [nam_at hx hd, if_pos (sg_at h1), asg_expr (hs.kw h2 (by decide) (by decide)) (fun h => hs.kind h2 h.1)]
      unfold valS
      rw [parseR_is, hs.l.bin h2 h0 0 1 (by omega)]
    | c + 3, hc =>
      have hc : c ≤ a.tk.length := by simp at hc; omega
      have hd : l.drop i = (1, x) :: (4, [61]) :: (3, wNew) :: (a.tk.take c ++ rest) := by rw [hd, List.take_succ_cons, List.take_succ_cons, List.take_succ_cons, take_short hc]; rfl
      obtain ⟨_, _, h1⟩ := tk_at hd
      obtain ⟨_, _, h2⟩ := tk_at h1
      obtain ⟨_, h0, h3⟩ := tk_at h2
      rw [nam_at hx hd, if_pos (sg_at h1)]
      unfold asgS
      rw [if_pos (kw_at h2), valS_cut ha hc hs h0 h3]
      congr 1; omega
theorem fs_store {x : Bytes} (hx : S3.nameB x = true) {a b : Tr} (ha : OkT a) (hb : OkT b) (deep : Nat) : FS deep (sStore x a.ex b.ex) ((1, x) :: (4, [91]) :: (a.tk ++ (4, [93]) :: tEq :: (b.tk ++ [tSemi]))) := by
  refine FS.simple ⟨_, _, rfl, .inl rfl⟩ (fun l i d post hd hi _ => ?_) fun c hc i l d rest hs hi _ hd => ?_
  · have hd : l.drop i = (1, x) :: (4, [91]) :: (a.tk ++ (4, [93]) :: ((4, [61]) :: (b.tk ++ (4, [59]) :: post))) := by rw [hd]; simp [tSemi, tEq]
    obtain ⟨_, _, h1⟩ := tk_at hd
    obtain ⟨_, _, h2⟩ := tk_at h1
    obtain ⟨p1, h3, p3⟩ := parse_sg ha h2 (by decide) (by decide)
    obtain ⟨_, _, h4⟩ := tk_at h3
    obtain ⟨_, _, h5⟩ := tk_at h4
    rw [nam_at hx hd, if_neg (by rw [sg_at h1]; decide), if_pos (sg_at h1)]
    unfold storS
    rw [show i + 2 = i + 1 + 1 from rfl, p1]
    simp only
    rw [if_pos p3, if_pos (sg_at h4), valS_is hb h5]
    congr 1; simp; omega
  · match c, hc with
    | 0, _ => exact hs.one (by simpa using hd)
    | 1, _ =>
      have hd : l.drop i = (1, x) :: rest := hd
      obtain ⟨_, _, h1⟩ := tk_at hd
      rw [nam_at hx hd, if_neg (hs.no h1 (by simp)), if_neg (hs.no h1 (by simp)), argS_stop hs h1]
    | c + 2, hc =>
      by_cases hca : c ≤ a.tk.length
      · have hd : l.drop i = (1, x) :: (4, [91]) :: (a.tk.take c ++ rest) := by rw [hd, List.take_succ_cons, List.take_succ_cons, take_short hca]; rfl
        obtain ⟨_, _, h1⟩ := tk_at hd
        obtain ⟨_, h0, h2⟩ := tk_at h1
        rw [nam_at hx hd, if_neg (by rw [sg_at h1]; decide), if_pos (sg_at h1)]
        have hk := drop_take h2 hca
        unfold storS
        have he : i + 1 + 1 + c = i + (c + 2) := by omega
        rw [he] at hk
        rcases Nat.lt_or_ge c a.tk.length with hlt | hge
        · obtain ⟨r, hr, hq⟩ := parse_cut ha (i + 2) c hlt
          rw [hq l rest hs.l h0 h2]
          rcases hr with rfl | ⟨e, rfl⟩
          · simp only
            congr 1
          · simp only
            rw [show i + 2 + c = i + (c + 2) by omega, if_neg (hs.no hk (by simp))]
        · obtain rfl : c = a.tk.length := by omega
          rw [List.take_length] at h2
          have h2' : l.drop (i + 2) = a.tk ++ rest := h2
          rw [parse_miss ha hs.l h2']
          simp only
          rw [show i + 2 + a.tk.length = i + (a.tk.length + 2) by omega, if_neg (hs.no hk (by simp))]
      · obtain ⟨c, rfl⟩ : ∃ k, c = a.tk.length + (k + 1) := ⟨c - a.tk.length - 1, by omega⟩
        have hd : l.drop i = (1, x) :: (4, [91]) :: (a.tk ++ (4, [93]) :: ((tEq :: (b.tk ++ [tSemi])).take c ++ rest)) := by
          rw [hd, List.take_succ_cons, List.take_succ_cons, take_long (by omega), show a.tk.length + (c + 1) - a.tk.length = c + 1 by omega, List.take_succ_cons]; simp
        obtain ⟨_, _, h1⟩ := tk_at hd
        obtain ⟨_, _, h2⟩ := tk_at h1
        obtain ⟨p1, h3, p3⟩ := parse_sg ha h2 (by decide) (by decide)
        obtain ⟨_, _, h4⟩ := tk_at h3
        rw [nam_at hx hd, if_neg (by rw [sg_at h1]; decide), if_pos (sg_at h1)]
        unfold storS
        rw [show i + 2 = i + 1 + 1 from rfl, p1]
        simp only
        rw [if_pos p3]
        cases c with
        | zero => rw [if_neg (hs.no (by simpa using h4) (by simp))]; congr 1; omega
        | succ c =>
          have hcb : c ≤ b.tk.length := by simp at hc; omega
          have h4 : l.drop (i + 1 + 1 + a.tk.length + 1) = (4, [61]) :: (b.tk.take c ++ rest) := by rw [h4, List.take_succ_cons, take_short hcb]; rfl
          obtain ⟨_, h0, h5⟩ := tk_at h4
          rw [if_pos (sg_at h4), valS_cut hb hcb hs h0 h5]
          congr 1; omega
theorem fs_call0 {f : Bytes} (hf : S3.nameB f = true) {ts : List Tr} (ha : ∀ t ∈ ts, OkT t) (deep : Nat) : FS deep (sCall [] f (ts.map Tr.ex)) ((1, f) :: (argsT ts ++ [tSemi])) := by
  refine FS.simple ⟨_, _, rfl, .inl rfl⟩ (fun l i d post hd hi _ => ?_) fun c hc i l d rest hs hi _ hd => ?_
  · have hd : l.drop i = (1, f) :: (argsT ts ++ (4, [59]) :: post) := by rw [hd]; simp [tSemi]
    obtain ⟨_, _, h1⟩ := tk_at hd
    have h2 : l.drop (i + 1) = (4, [40]) :: (restT ts ++ (4, [59]) :: post) := h1
    rw [nam_at hf hd, if_neg (by rw [sg_at h2]; decide), if_neg (by rw [sg_at h2]; decide), argS_is ha h1]
    congr 1; simp; omega
  · cases c with
    | zero => exact hs.one (by simpa using hd)
    | succ c =>
      have hc : c ≤ (argsT ts).length := by simp at hc; omega
      have hd : l.drop i = (1, f) :: ((argsT ts).take c ++ rest) := by rw [hd, List.take_succ_cons, take_short hc]; rfl
      obtain ⟨_, h0, h1⟩ := tk_at hd
      have hne : ∀ s : Bytes, s ≠ [] → s ≠ [40] → sgAt l (i + 1) ≠ s := by
        intro s e1 e2
        cases c with
        | zero => exact hs.no (by simpa using h1) e1
        | succ c =>
          have h1 : l.drop (i + 1) = (4, [40]) :: ((restT ts).take c ++ rest) := h1
          rw [sg_at h1]; exact e2.symm
      rw [nam_at hf hd, if_neg (hne [61] (by simp) (by decide)), if_neg (hne [91] (by simp) (by decide)), argS_cut ha hs h0 hc h1]
      congr 1; omega
theorem fs_call {x f : Bytes} (hx : S3.nameB x = true) (hf : S3.nameB f = true) {ts : List Tr} (ha : ∀ t ∈ ts, OkT t) (deep : Nat) : FS deep (sCall x f (ts.map Tr.ex)) ((1, x) :: tEq :: (1, f) :: (argsT ts ++ [tSemi])) := by
  refine FS.simple ⟨_, _, rfl, .inl rfl⟩ (fun l i d post hd hi _ => ?_) fun c hc i l d rest hs hi _ hd => ?_
  · have hd : l.drop i = (1, x) :: (4, [61]) :: (1, f) :: (argsT ts ++ (4, [59]) :: post) := by rw [hd]; simp [tSemi, tEq]
    obtain ⟨_, _, h1⟩ := tk_at hd
    obtain ⟨_, _, h2⟩ := tk_at h1
    obtain ⟨t3, _, h3⟩ := tk_at h2
    have h4 : l.drop (i + 2 + 1) = (4, [40]) :: (restT ts ++ (4, [59]) :: post) := h3
    rw [nam_at hx hd, if_pos (sg_at h1)]
    unfold asgS
    have t3 : tkAt l (i + 2) = (1, f) := t3
    rw [if_neg (by rw [show kwAt l (i + 2) = [] from kw_name h2]; decide), if_pos ⟨by rw [t3], sg_at h4⟩, t3, if_pos (nm_of hf), argS_is ha h3]
    congr 1; simp; omega
  · match c, hc with
    | 0, _ => exact hs.one (by simpa using hd)
    | 1, _ =>
      have hd : l.drop i = (1, x) :: rest := hd
      obtain ⟨_, _, h1⟩ := tk_at hd
      rw [nam_at hx hd, if_neg (hs.no h1 (by simp)), if_neg (hs.no h1 (by simp)), argS_stop hs h1]
    | 2, _ =>
      have hd : l.drop i = (1, x) :: (4, [61]) :: rest := hd
      obtain ⟨_, _, h1⟩ := tk_at hd
      obtain ⟨_, h0, h2⟩ := tk_at h1
      rw [nam_at hx hd, if_pos (sg_at h1), asg_expr (hs.kw h2 (by decide) (by decide)) (fun h => hs.kind h2 h.1)]
      unfold valS
      rw [parseR_is, hs.l.bin h2 h0 0 1 (by omega)]
    | 3, _ =>
      have hd : l.drop i = (1, x) :: (4, [61]) :: (1, f) :: rest := hd
      obtain ⟨_, _, h1⟩ := tk_at hd
      obtain ⟨_, h0, h2⟩ := tk_at h1
      obtain ⟨_, _, h3⟩ := tk_at h2
      have hv : OkT (.var f) := ⟨hf, by show 1 ≤ 20; decide⟩
      have h2' : l.drop (i + 1 + 1) = (Tr.var f).tk ++ rest := h2
      rw [nam_at hx hd, if_pos (sg_at h1), asg_expr (by rw [show kwAt l (i + 2) = [] from kw_name h2]; decide) (fun h => hs.no h3 (by simp) h.2)]
      unfold valS
      rw [show i + 2 = i + 1 + 1 from rfl, parse_miss hv hs.l h2']
      exact hs.end_ h3
    | c + 4, hc =>
      have hc : c + 1 ≤ (argsT ts).length := by simp at hc; omega
      have hd : l.drop i = (1, x) :: (4, [61]) :: (1, f) :: ((argsT ts).take (c + 1) ++ rest) := by rw [hd, List.take_succ_cons, List.take_succ_cons, List.take_succ_cons, take_short hc]; rfl
      obtain ⟨_, _, h1⟩ := tk_at hd
      obtain ⟨_, _, h2⟩ := tk_at h1
      obtain ⟨t3, h0, h3⟩ := tk_at h2
      have h4 : l.drop (i + 2 + 1) = (4, [40]) :: ((restT ts).take c ++ rest) := h3
      have t3 : tkAt l (i + 2) = (1, f) := t3
      rw [nam_at hx hd, if_pos (sg_at h1)]
      unfold asgS
      rw [if_neg (by rw [show kwAt l (i + 2) = [] from kw_name h2]; decide), if_pos ⟨by rw [t3], sg_at h4⟩, t3, if_pos (nm_of hf), argS_cut ha hs h0 hc h3]
      congr 1; omega

/-! ### blocks -/
abbrev PL := List (St × TL)
/-- Statements of a block, each with its tokens. -/
def Blk (deep : Nat) (ps : PL) : Prop := ∀ p ∈ ps, FS deep p.1 p.2
def PL.st (ps : PL) : List St := ps.map (·.1)
def PL.tk (ps : PL) : TL := ps.flatMap (·.2)
theorem Blk.mono {d d' : Nat} {ps : PL} (h : Blk d ps) (hd : d ≤ d') : Blk d' ps := fun p hp => (h p hp).mono hd
theorem PL.st_snoc (ps : PL) (s : St) (ts : TL) : PL.st (ps ++ [(s, ts)]) = PL.st ps ++ [s] := by simp [PL.st]
theorem PL.tk_snoc (ps : PL) (s : St) (ts : TL) : PL.tk (ps ++ [(s, ts)]) = PL.tk ps ++ ts := by simp [PL.tk]
theorem PL.tk_cons (p : St × TL) (ps : PL) : PL.tk (p :: ps) = p.2 ++ PL.tk ps := by simp [PL.tk]
def tOpC : Int × Bytes := (4, [123])
def tShC : Int × Bytes := (4, [125])
def blkT (ps : PL) : TL := tOpC :: (PL.tk ps ++ [tShC])
theorem FS.no_shut {d : Nat} {s : St} {ts : TL} (h : FS d s ts) {l : TL} {i : Nat} {post : TL} (hd : l.drop i = ts ++ post) : sgAt l i ≠ [125] ∧ kwAt l i ≠ wElse := by
  obtain ⟨x, r, rfl, hx⟩ := h.head
  have hd : l.drop i = x :: (r ++ post) := hd
  unfold sgAt kwAt
  rw [(tk_at hd).1]
  rcases hx with h | ⟨h, h2⟩
  · rw [h]; simp [wElse]
  · rw [h]; simpa using h2
theorem next_no {d : Nat} {ps : PL} (h : Blk d ps) {l : TL} {i : Nat} {post : TL} (hd : l.drop i = PL.tk ps ++ tShC :: post) : kwAt l i ≠ wElse := by
  cases ps with
  | nil => have hd : l.drop i = (4, [125]) :: post := hd; rw [kw_other hd (by decide)]; decide
  | cons p ps =>
    rw [PL.tk_cons, List.append_assoc] at hd
    exact ((h p (by simp)).no_shut hd).2
theorem ls_ok {l : TL} {d deep : Nat} (hdd : d + deep ≤ 20) : ∀ (ps : PL) (acc : List St) (i : Nat) (post : TL), Blk deep ps → l.drop i = PL.tk ps ++ tShC :: post → lsR l acc i d = .ok (acc ++ PL.st ps) (i + (PL.tk ps).length + 1) := by
  intro ps
  induction ps with
  | nil =>
    intro acc i post _ hd
    have hd : l.drop i = (4, [125]) :: post := hd
    rw [lsR_eq l acc i d (Nat.le_of_lt (tk_at hd).2.1), if_pos (sg_at hd)]
    simp [PL.st, PL.tk]
  | cons p ps ih =>
    intro acc i post h hd
    have hd : l.drop i = p.2 ++ (PL.tk ps ++ tShC :: post) := by rw [hd, PL.tk_cons, List.append_assoc]
    have hp := h p (by simp)
    have hps : Blk deep ps := fun q hq => h q (List.mem_cons_of_mem _ hq)
    have h1 := drop_add hd
    have hi : i ≤ l.length := by
      obtain ⟨x, r, e, _⟩ := hp.head
      rw [e] at hd
      exact Nat.le_of_lt (tk_at (x := x) (r := r ++ (PL.tk ps ++ tShC :: post)) hd).2.1
    rw [lsR_eq l acc i d hi, if_neg (hp.no_shut hd).1, hp.back l i d _ hd hdd fun _ _ => next_no hps h1]
    simp only
    rw [ih (acc ++ [p.1]) _ post hps h1]
    simp [PL.st, PL.tk_cons]; omega
theorem ls_cut {l rest : TL} {d deep : Nat} (hdd : d + deep ≤ 20) (hs : StopF rest) : ∀ (ps : PL) (acc : List St) (i c : Nat), Blk deep ps → c ≤ (PL.tk ps).length → i ≤ l.length → l.drop i = (PL.tk ps).take c ++ rest → lsR l acc i d = .bad (i + c) 7 := by
  have stop : ∀ (acc : List St) (i : Nat), i ≤ l.length → l.drop i = rest → lsR l acc i d = .bad i 7 := by
    intro acc i hi hd
    rw [lsR_eq l acc i d hi, if_neg (hs.no hd (by simp)), stR_eq l i d hi, hs.one hd]
  intro ps
  induction ps with
  | nil =>
    intro acc i c _ hc hi hd
    obtain rfl : c = 0 := by simp [PL.tk] at hc; omega
    exact stop acc i hi (by simpa using hd)
  | cons p ps ih =>
    intro acc i c h hc hi hd
    have hp := h p (by simp)
    have hps : Blk deep ps := fun q hq => h q (List.mem_cons_of_mem _ hq)
    rw [PL.tk_cons] at hd hc
    by_cases hlt : c < p.2.length
    · rw [take_short (Nat.le_of_lt hlt)] at hd
      obtain ⟨r, hr, hq⟩ := hp.cut c hlt i
      have hq := hq l d rest hs hi hdd hd
      have hk := drop_take hd (Nat.le_of_lt hlt)
      have hic : i + c ≤ l.length := by
        have := stR_within l i d hi
        rw [hq] at this
        rcases hr with rfl | ⟨_, rfl⟩ <;> simp only [RS.within] at this <;> omega
      have hns : sgAt l i ≠ [125] := by
        cases c with
        | zero => exact hs.no (i := i) (by simpa using hd) (by simp)
        | succ c =>
          obtain ⟨x, r', e, hx⟩ := hp.head
          rw [e, List.take_succ_cons] at hd
          have hd : l.drop i = x :: (r'.take c ++ rest) := hd
          unfold sgAt
          rw [(tk_at hd).1]
          rcases hx with h | ⟨h, _⟩ <;> rw [h] <;> simp
      rw [lsR_eq l acc i d hi, if_neg hns, hq]
      rcases hr with rfl | ⟨_, rfl⟩
      · rfl
      · exact stop _ (i + c) hic hk
    · obtain ⟨c, rfl⟩ : ∃ k, c = p.2.length + k := ⟨c - p.2.length, by omega⟩
      have hd : l.drop i = p.2 ++ ((PL.tk ps).take c ++ rest) := by rw [hd, take_long (by omega), show p.2.length + c - p.2.length = c by omega]; simp
      have h1 := drop_add hd
      have hc : c ≤ (PL.tk ps).length := by simp at hc; omega
      have hne : kwAt l (i + p.2.length) ≠ wElse := by
        cases ps with
        | nil =>
          have hc0 : c = 0 := by simp [PL.tk] at hc; omega
          subst hc0
          exact hs.kw (by simpa using h1) (by decide) (by decide)
        | cons q ps =>
          cases c with
          | zero => exact hs.kw (by simpa using h1) (by decide) (by decide)
          | succ c =>
            obtain ⟨x, r', e, hx⟩ := (hps q (by simp)).head
            rw [PL.tk_cons, e, List.cons_append, List.take_succ_cons] at h1
            have h1 : l.drop (i + p.2.length) = x :: ((r' ++ PL.tk ps).take c ++ rest) := h1
            unfold kwAt
            rw [(tk_at h1).1]
            rcases hx with h | ⟨h, h2⟩
            · rw [h]; simp [wElse]
            · rw [h]; simpa using h2
      have hb := hp.back l i d _ hd hdd fun _ _ => hne
      have hwin := stR_within l i d hi
      rw [hb] at hwin
      simp only [RS.within] at hwin
      rw [lsR_eq l acc i d hi, if_neg (hp.no_shut hd).1, hb]
      simp only
      rw [ih (acc ++ [p.1]) _ c hps hc (by omega) h1]
      congr 1; omega
theorem bl_ok {l : TL} {d deep : Nat} (hdd : d + deep ≤ 20) {ps : PL} (h : Blk deep ps) {i : Nat} {post : TL} (hd : l.drop i = blkT ps ++ post) : blR l i d = .ok (PL.st ps) (i + (blkT ps).length) := by
  have hd : l.drop i = (4, [123]) :: (PL.tk ps ++ tShC :: post) := by rw [hd]; simp [blkT, tOpC]
  obtain ⟨_, h0, h1⟩ := tk_at hd
  rw [blR_eq l i d (by omega), if_pos (sg_at hd), if_neg (by omega), ls_ok hdd ps [] (i + 1) post h h1]
  simp [blkT]; omega
theorem bl_cut {l rest : TL} {d deep : Nat} (hdd : d + deep ≤ 20) (hs : StopF rest) {ps : PL} (h : Blk deep ps) {i c : Nat} (hi : i ≤ l.length) (hc : c < (blkT ps).length) (hd : l.drop i = (blkT ps).take c ++ rest) : blR l i d = .bad (i + c) 7 := by
  cases c with
  | zero => rw [blR_eq l i d hi, if_neg (hs.no (i := i) (by simpa using hd) (by simp))]; rfl
  | succ c =>
    have hc : c ≤ (PL.tk ps).length := by simp [blkT] at hc; omega
    have hd : l.drop i = (4, [123]) :: ((PL.tk ps).take c ++ rest) := by rw [hd, blkT, List.take_succ_cons, take_short hc]; rfl
    obtain ⟨_, h0, h1⟩ := tk_at hd
    rw [blR_eq l i d (by omega), if_pos (sg_at hd), if_neg (by omega), ls_cut hdd hs ps [] (i + 1) c h hc h0 h1]
    congr 1; omega

/-! ### if and while -/
/-- A condition is cut, or the block behind it. -/
theorem whS_cut {l rest : TL} {B : Nat → RBl} {t : Tr} (ht : OkT t) {ps : PL} {i c : Nat} (hs : StopF rest) (hi : i ≤ l.length) (hc : c < (t.tk ++ blkT ps).length) (hd : l.drop i = (t.tk ++ blkT ps).take c ++ rest)
    (hB : ∀ c', i + t.tk.length ≤ l.length → c' < (blkT ps).length → l.drop (i + t.tk.length) = (blkT ps).take c' ++ rest → B (i + t.tk.length) = .bad (i + t.tk.length + c') 7) (h0 : ∀ n, n ≤ l.length → l.drop n = rest → B n = .bad n 7) :
    whS l B i = .bad (i + c) 7 ∧ ifS l B i = .bad (i + c) 7 := by
  by_cases hct : c < t.tk.length
  · rw [take_short (Nat.le_of_lt hct)] at hd
    have hk := drop_take hd (Nat.le_of_lt hct)
    obtain ⟨r, hr, hq⟩ := parse_cut ht i c hct
    have hq := hq l rest hs.l hi hd
    have hwin := parseR_within l i 0 hi
    unfold whS ifS
    rw [hq] at hwin ⊢
    rcases hr with rfl | ⟨e, rfl⟩
    · exact ⟨rfl, rfl⟩
    · simp only [Res.within] at hwin
      simp only
      rw [h0 _ hwin.2 hk]
      exact ⟨rfl, rfl⟩
  · obtain ⟨c, rfl⟩ : ∃ k, c = t.tk.length + k := ⟨c - t.tk.length, by omega⟩
    have hc : c < (blkT ps).length := by simp at hc; omega
    have hd : l.drop i = t.tk ++ ((blkT ps).take c ++ rest) := by rw [hd, take_long (by omega), show t.tk.length + c - t.tk.length = c by omega]; simp
    have h1 := drop_add hd
    have hp : parseR l i 0 = .ok t.ex (i + t.tk.length) := by
      cases c with
      | zero => exact parse_miss ht hs.l (by simpa using hd)
      | succ c =>
        have h2 : l.drop i = t.tk ++ (4, [123]) :: ((PL.tk ps ++ [tShC]).take c ++ rest) := hd
        exact (parse_sg ht h2 (by decide) (by decide)).1
    have hwin := parseR_within l i 0 hi
    rw [hp] at hwin
    simp only [Res.within] at hwin
    unfold whS ifS
    rw [hp]
    simp only
    rw [hB c hwin.2 hc h1]
    exact ⟨by simp only; congr 1; omega, by simp only; congr 1; omega⟩
theorem cond_ok {l : TL} {t : Tr} (ht : OkT t) {ps : PL} {i : Nat} {post : TL} (hd : l.drop i = t.tk ++ (blkT ps ++ post)) : parseR l i 0 = .ok t.ex (i + t.tk.length) ∧ l.drop (i + t.tk.length) = blkT ps ++ post := by
  have hd : l.drop i = t.tk ++ (4, [123]) :: (PL.tk ps ++ [tShC] ++ post) := hd
  obtain ⟨h1, h2, _⟩ := parse_sg ht hd (by decide) (by decide)
  exact ⟨h1, h2⟩
theorem bl_stop {l rest : TL} {d n : Nat} (hs : StopF rest) (hn : n ≤ l.length) (hd : l.drop n = rest) : blR l n d = .bad n 7 := by
  rw [blR_eq l n d hn, if_neg (hs.no hd (by simp))]
theorem fs_while {t : Tr} (ht : OkT t) {deep : Nat} {ps : PL} (h : Blk deep ps) : FS (deep + 1) (sWhile t.ex (PL.st ps)) ((3, wWhile) :: (t.tk ++ blkT ps)) := by
  refine FS.simple ⟨_, _, rfl, .inr ⟨rfl, by decide⟩⟩ (fun l i d post hd hi hdd => ?_) fun c hc i l d rest hs hi hdd hd => ?_
  · have hd : l.drop i = (3, wWhile) :: (t.tk ++ (blkT ps ++ post)) := by rw [hd]; simp
    obtain ⟨_, _, h1⟩ := tk_at hd
    obtain ⟨h2, h3⟩ := cond_ok ht h1
    rw [one_while (kw_at hd)]
    unfold whS
    rw [h2]
    simp only
    rw [bl_ok (deep := deep) (d := d + 1) (by omega) h h3]
    simp only
    congr 1; simp; omega
  · cases c with
    | zero => exact hs.one (by simpa using hd)
    | succ c =>
      have hc : c < (t.tk ++ blkT ps).length := by simp at hc ⊢; omega
      have hd : l.drop i = (3, wWhile) :: ((t.tk ++ blkT ps).take c ++ rest) := hd
      obtain ⟨_, h0, h1⟩ := tk_at hd
      rw [one_while (kw_at hd), (whS_cut ht hs h0 hc h1 (fun c' hl hc' h2 => bl_cut (deep := deep) (d := d + 1) (by omega) hs h hl hc' h2) (fun n hl hn => bl_stop hs hl hn)).1]
      congr 1; omega
theorem ifS_ok {l : TL} {t : Tr} (ht : OkT t) {ps : PL} {deep d : Nat} (hdd : d + 1 + deep ≤ 20) (h : Blk deep ps) {i : Nat} {post : TL} (hd : l.drop i = t.tk ++ (blkT ps ++ post)) :
    ifS l (fun n => blR l n (d + 1)) i = if kwAt l (i + t.tk.length + (blkT ps).length) = wElse then match blR l (i + t.tk.length + (blkT ps).length + 1) (d + 1) with
        | .bad j c => .bad j c
        | .ok b' k => .ok (sIf t.ex (PL.st ps) b') k
      else .ok (sIf t.ex (PL.st ps) []) (i + t.tk.length + (blkT ps).length) := by
  obtain ⟨h2, h3⟩ := cond_ok ht hd
  unfold ifS
  rw [h2]
  simp only
  rw [bl_ok (deep := deep) (d := d + 1) (by omega) h h3]
  rfl
theorem fs_if {t : Tr} (ht : OkT t) {deep : Nat} {ps : PL} (h : Blk deep ps) : FS (deep + 1) (sIf t.ex (PL.st ps) []) ((3, wIf) :: (t.tk ++ blkT ps)) := by
  refine ⟨⟨_, _, rfl, .inr ⟨rfl, by decide⟩⟩, fun l i d post hd hdd hne => ?_, fun c hc i => ⟨.bad (i + c) 7, .inl rfl, fun l d rest hs hi hdd hd => ?_⟩⟩
  · have hd : l.drop i = (3, wIf) :: (t.tk ++ (blkT ps ++ post)) := by rw [hd]; simp
    obtain ⟨_, hi, h1⟩ := tk_at hd
    have hlen : i + ((3, wIf) :: (t.tk ++ blkT ps) : TL).length = i + 1 + t.tk.length + (blkT ps).length := by simp; omega
    rw [hlen] at hne ⊢
    rw [stR_eq l i d (by omega), one_if (kw_at hd), ifS_ok ht (d := d) (deep := deep) (by omega) h h1, if_neg (hne rfl rfl)]
  · rw [stR_eq l i d hi]
    cases c with
    | zero => exact hs.one (by simpa using hd)
    | succ c =>
      have hc : c < (t.tk ++ blkT ps).length := by simp at hc ⊢; omega
      have hd : l.drop i = (3, wIf) :: ((t.tk ++ blkT ps).take c ++ rest) := hd
      obtain ⟨_, h0, h1⟩ := tk_at hd
      rw [one_if (kw_at hd), (whS_cut ht hs h0 hc h1 (fun c' hl hc' h2 => bl_cut (deep := deep) (d := d + 1) (by omega) hs h hl hc' h2) (fun n hl hn => bl_stop hs hl hn)).2]
      congr 1; omega
theorem fs_ifelse {t : Tr} (ht : OkT t) {deep : Nat} {ps qs : PL} (h : Blk deep ps) (hq : Blk deep qs) : FS (deep + 1) (sIf t.ex (PL.st ps) (PL.st qs)) ((3, wIf) :: (t.tk ++ blkT ps ++ (3, wElse) :: blkT qs)) := by
  refine ⟨⟨_, _, rfl, .inr ⟨rfl, by decide⟩⟩, fun l i d post hd hdd _ => ?_, fun c hc i => ?_⟩
  · have hd : l.drop i = (3, wIf) :: (t.tk ++ (blkT ps ++ ((3, wElse) :: (blkT qs ++ post)))) := by rw [hd]; simp
    obtain ⟨_, hi, h1⟩ := tk_at hd
    obtain ⟨_, h3⟩ := cond_ok ht h1
    have h4 := drop_add h3
    obtain ⟨_, _, h5⟩ := tk_at h4
    rw [stR_eq l i d (by omega), one_if (kw_at hd), ifS_ok ht (d := d) (deep := deep) (by omega) h h1, if_pos (kw_at h4), bl_ok (deep := deep) (d := d + 1) (by omega) hq h5]
    simp only
    congr 1; simp; omega
  · by_cases hc1 : c ≤ (t.tk ++ blkT ps).length
    · refine ⟨.bad (i + c) 7, .inl rfl, fun l d rest hs hi hdd hd => ?_⟩
      rw [stR_eq l i d hi]
      cases c with
      | zero => exact hs.one (by simpa using hd)
      | succ c =>
        have hd : l.drop i = (3, wIf) :: ((t.tk ++ blkT ps).take c ++ rest) := by
          rw [hd, List.take_succ_cons, take_short (by omega)]; rfl
        obtain ⟨_, h0, h1⟩ := tk_at hd
        rw [one_if (kw_at hd), (whS_cut ht hs h0 (by omega) h1 (fun c' hl hc' h2 => bl_cut (deep := deep) (d := d + 1) (by omega) hs h hl hc' h2) (fun n hl hn => bl_stop hs hl hn)).2]
        congr 1; omega
    · obtain ⟨c, rfl⟩ : ∃ k, c = (t.tk ++ blkT ps).length + 1 + k := ⟨c - (t.tk ++ blkT ps).length - 1, by omega⟩
      cases c with
      | zero =>
        refine ⟨.ok (sIf t.ex (PL.st ps) []) (i + ((t.tk ++ blkT ps).length + 1)), .inr ⟨rfl, rfl⟩, fun l d rest hs hi hdd hd => ?_⟩
        have hd : l.drop i = (3, wIf) :: (t.tk ++ (blkT ps ++ rest)) := by
          rw [hd, Nat.add_zero, List.take_succ_cons, take_short (Nat.le_refl _), List.take_length]; simp
        obtain ⟨_, h0, h1⟩ := tk_at hd
        obtain ⟨_, h3⟩ := cond_ok ht h1
        have h4 := drop_add h3
        rw [stR_eq l i d hi, one_if (kw_at hd), ifS_ok ht (d := d) (deep := deep) (by omega) h h1, if_neg (hs.kw h4 (by decide) (by decide))]
        congr 1; simp; omega
      | succ c =>
        refine ⟨.bad (i + ((t.tk ++ blkT ps).length + 1 + (c + 1))) 7, .inl rfl, fun l d rest hs hi hdd hd => ?_⟩
        have hc : c < (blkT qs).length := by simp at hc; omega
        have hd : l.drop i = (3, wIf) :: (t.tk ++ (blkT ps ++ ((3, wElse) :: ((blkT qs).take c ++ rest)))) := by
          rw [hd, show (t.tk ++ blkT ps).length + 1 + (c + 1) = (t.tk ++ blkT ps).length + (c + 1) + 1 by omega, List.take_succ_cons, take_long (by omega), show (t.tk ++ blkT ps).length + (c + 1) - (t.tk ++ blkT ps).length = c + 1 by omega, List.take_succ_cons]; simp
        obtain ⟨_, h0, h1⟩ := tk_at hd
        obtain ⟨_, h3⟩ := cond_ok ht h1
        have h4 := drop_add h3
        obtain ⟨_, h6, h5⟩ := tk_at h4
        rw [stR_eq l i d hi, one_if (kw_at hd), ifS_ok ht (d := d) (deep := deep) (by omega) h h1, if_pos (kw_at h4), bl_cut (deep := deep) (d := d + 1) (by omega) hs hq h6 hc h5]
        simp only
        congr 1; simp; omega
end Go.Proofs.YtipepljmfgjbpaaGreatDoor.E6

namespace Go.Proofs.YtipepljmfgjbpaaGreatDoor.E6
open Go Go.Proofs.YtipepljmfgjbpaaGreatDoor Go.Proofs.YtipepljmfgjbpaaGreatDoor.E5

end Go.Proofs.YtipepljmfgjbpaaGreatDoor.E6
