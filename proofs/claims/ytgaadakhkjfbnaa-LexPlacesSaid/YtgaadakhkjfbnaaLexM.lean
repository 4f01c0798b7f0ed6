/-
  Layer 9: tokens of a text, as plain lists of bytes.
-/
import Derived.Lib.Bytealg
namespace Go.Proofs.Ytgaadakhkjfbnaa
set_option linter.unusedVariables false
set_option linter.unusedSimpArgs false
/-- a byte that may stand in a word -/
def isW (c : UInt8) : Bool := [48, 49, 50, 51, 52, 53, 54, 55, 56, 57, 88, 45, 115, 100, 99].contains c
def wl (l : List UInt8) : Nat := (l.takeWhile isW).length
/-- the kind of a sign; 0: none -/
def sgn (b : List UInt8) : Int :=
  if b = [47] then 1 else if b = [46, 46] then 2 else if b = [42] then 3 else if b = [91] then 4 else if b = [93] then 5 else if b = [44] then 6 else if b = [63] then 7 else if b = [126] then 8 else 0
def sl (l : List UInt8) : Nat := if 1 ≤ l.length ∧ sgn (l.take 1) ≠ 0 then 1 else if 2 ≤ l.length ∧ sgn (l.take 2) ≠ 0 then 2 else 0
abbrev Tk := Int × Int × List UInt8
/-- the token that a text begins with: its kind, how many bytes it has, what a word's text is -/
def tok (l : List UInt8) : Option (Int × Nat × List UInt8) :=
  if 0 < wl l then some (0, wl l, l.take (wl l)) else if sl l = 0 then none else some (sgn (l.take (sl l)), sl l, [])
/-- a text from a place on: its tokens, and where it is wrong -/
inductive Lx : List UInt8 → Nat → List Tk → Option Nat → Prop
  | nil {p} : Lx [] p [] none
  | blank {t p ts e} : Lx t (p + 1) ts e → Lx (32 :: t) p ts e
  | bad {c t p} : c ≠ 32 → tok (c :: t) = none → Lx (c :: t) p [] (some p)
  | step {c t p k n x ts e} : c ≠ 32 → tok (c :: t) = some (k, n, x) → Lx ((c :: t).drop n) (p + n) ts e → Lx (c :: t) p ((k, (p : Int), x) :: ts) e
theorem wl_le (l : List UInt8) : wl l ≤ l.length := by unfold wl; exact (List.takeWhile_prefix _).length_le
theorem sl_le (l : List UInt8) : sl l ≤ l.length ∧ sl l ≤ 2 := by unfold sl; split <;> (try split) <;> omega
theorem tok_pos {l : List UInt8} {k : Int} {n : Nat} {x : List UInt8} (h : tok l = some (k, n, x)) : 1 ≤ n ∧ n ≤ l.length := by
  have h1 := wl_le l
  have h2 := sl_le l
  unfold tok at h
  split at h
  · simp only [Option.some.injEq, Prod.mk.injEq] at h; omega
  · split at h
    · cases h
    · simp only [Option.some.injEq, Prod.mk.injEq] at h; omega
theorem lx_total : ∀ (n : Nat) (l : List UInt8), l.length ≤ n → ∀ p, ∃ ts e, Lx l p ts e := by
  intro n
  induction n with
  | zero => intro l h p; obtain rfl : l = [] := List.length_eq_zero_iff.1 (by omega); exact ⟨_, _, .nil⟩
  | succ n ih =>
    intro l h p
    cases l with
    | nil => exact ⟨_, _, .nil⟩
    | cons c t =>
      by_cases hc : c = 32
      · subst hc
        obtain ⟨ts, e, g⟩ := ih t (by simp at h; omega) (p + 1)
        exact ⟨_, _, .blank g⟩
      · cases ht : tok (c :: t) with
        | none => exact ⟨_, _, .bad hc ht⟩
        | some q =>
          obtain ⟨k, n', x⟩ := q
          obtain ⟨g1, g2⟩ := tok_pos ht
          obtain ⟨ts, e, g⟩ := ih ((c :: t).drop n') (by rw [List.length_drop]; simp at h ⊢; omega) (p + n')
          exact ⟨_, _, .step hc ht g⟩
theorem lx_ex (l : List UInt8) (p : Nat) : ∃ ts e, Lx l p ts e := lx_total l.length l (Nat.le_refl _) p
theorem lx_nil {p : Nat} {ts : List Tk} {e : Option Nat} (h : Lx [] p ts e) : ts = [] ∧ e = none := by cases h; exact ⟨rfl, rfl⟩
theorem lx_blank {t : List UInt8} {p : Nat} {ts : List Tk} {e : Option Nat} (h : Lx (32 :: t) p ts e) : Lx t (p + 1) ts e := by
  cases h with
  | blank h => exact h
  | bad h => exact absurd rfl h
  | step h => exact absurd rfl h
theorem lx_bad {c : UInt8} {t : List UInt8} {p : Nat} {ts : List Tk} {e : Option Nat} (h : Lx (c :: t) p ts e) (hc : c ≠ 32) (ht : tok (c :: t) = none) : ts = [] ∧ e = some p := by
  cases h with
  | blank h => exact absurd rfl hc
  | bad _ _ => exact ⟨rfl, rfl⟩
  | step _ h => rw [ht] at h; cases h
theorem lx_step {c : UInt8} {t : List UInt8} {p : Nat} {ts : List Tk} {e : Option Nat} {k : Int} {n : Nat} {x : List UInt8} (h : Lx (c :: t) p ts e) (hc : c ≠ 32) (ht : tok (c :: t) = some (k, n, x)) :
    ∃ r, ts = (k, (p : Int), x) :: r ∧ Lx ((c :: t).drop n) (p + n) r e := by
  cases h with
  | blank h => exact absurd rfl hc
  | bad _ h => rw [ht] at h; cases h
  | step _ h g => rw [ht] at h; cases h; exact ⟨_, rfl, g⟩
theorem lx_one {l : List UInt8} {p : Nat} {ts ts' : List Tk} {e e' : Option Nat} (h : Lx l p ts e) : Lx l p ts' e' → ts = ts' ∧ e = e' := by
  induction h generalizing ts' e' with
  | nil => intro g; obtain ⟨rfl, rfl⟩ := lx_nil g; exact ⟨rfl, rfl⟩
  | blank _ ih => intro g; exact ih (lx_blank g)
  | bad hc ht => intro g; obtain ⟨rfl, rfl⟩ := lx_bad g hc ht; exact ⟨rfl, rfl⟩
  | step hc ht _ ih =>
    intro g
    obtain ⟨r, rfl, g2⟩ := lx_step g hc ht
    obtain ⟨rfl, rfl⟩ := ih g2
    exact ⟨rfl, rfl⟩
theorem sgn_rng (b : List UInt8) : 0 ≤ sgn b ∧ sgn b ≤ 8 := by
  unfold sgn; repeat' split
  all_goals omega
/-- a token as it may be -/
def goodT (t : Tk) : Prop := (t.1 = 0 ∧ t.2.2 ≠ [] ∧ ∀ c ∈ t.2.2, isW c = true) ∨ (1 ≤ t.1 ∧ t.1 ≤ 8 ∧ t.2.2 = [])
theorem takeWhile_all (l : List UInt8) : ∀ c ∈ l.take (wl l), isW c = true := by
  intro c hc
  have e : l.take (wl l) = l.takeWhile isW := by unfold wl; exact (List.prefix_iff_eq_take.1 (List.takeWhile_prefix (p := isW))).symm
  rw [e] at hc
  clear e
  induction l with
  | nil => cases hc
  | cons d u ih =>
    cases hd : isW d with
    | false => simp [List.takeWhile, hd] at hc
    | true =>
      simp only [List.takeWhile, hd, List.mem_cons] at hc
      rcases hc with rfl | hc
      · exact hd
      · exact ih hc
theorem tok_good {l : List UInt8} {k p : Int} {n : Nat} {x : List UInt8} (h : tok l = some (k, n, x)) : goodT (k, p, x) := by
  unfold tok at h
  split at h
  · simp only [Option.some.injEq, Prod.mk.injEq] at h
    obtain ⟨rfl, rfl, rfl⟩ := h
    refine .inl ⟨rfl, fun e => ?_, takeWhile_all l⟩
    have := wl_le l
    simp only at e
    have : (l.take (wl l)).length = 0 := by rw [e]; rfl
    rw [List.length_take] at this
    omega
  · split at h
    · cases h
    · simp only [Option.some.injEq, Prod.mk.injEq] at h
      obtain ⟨rfl, rfl, rfl⟩ := h
      have := sgn_rng (l.take (sl l))
      refine .inr ⟨?_, this.2, rfl⟩
      have : sgn (l.take (sl l)) ≠ 0 := by
        rename_i h2
        revert h2
        unfold sl
        split
        · intro _; exact (‹_ ∧ _›).2
        · split
          · intro _; exact (‹2 ≤ l.length ∧ _›).2
          · intro h; exact absurd rfl h
      omega
theorem lx_good {l : List UInt8} {p : Nat} {ts : List Tk} {e : Option Nat} (h : Lx l p ts e) : ∀ t ∈ ts, goodT t := by
  induction h with
  | nil => intro t ht; cases ht
  | blank _ ih => exact ih
  | bad => intro t ht; cases ht
  | step _ h _ ih =>
    intro t ht
    rcases List.mem_cons.1 ht with rfl | ht
    · exact tok_good h
    · exact ih t ht
theorem lx_len {l : List UInt8} {p : Nat} {ts : List Tk} {e : Option Nat} (h : Lx l p ts e) : ts.length ≤ l.length := by
  induction h with
  | nil => simp
  | blank _ ih => simp; omega
  | bad => simp
  | step _ h _ ih => have := tok_pos h; rw [List.length_drop] at ih; simp at ih ⊢; omega
/-- what is written for a kind -/
def shw (k : Int) : List UInt8 :=
  if k = 1 then [47] else if k = 2 then [46, 46] else if k = 3 then [42] else if k = 4 then [91] else if k = 5 then [93] else if k = 6 then [44] else if k = 7 then [63] else if k = 8 then [126] else []
/-- tokens as a text, behind a word or not -/
def sh : Bool → List Tk → List UInt8
  | _, [] => []
  | b, t :: r => (if t.1 = 0 then (if b then [32] else []) ++ t.2.2 else shw t.1) ++ sh (t.1 == 0) r
theorem shw_sgn {k : Int} (h1 : 1 ≤ k) (h2 : k ≤ 8) : sgn (shw k) = k ∧ shw k ≠ [] ∧ (∀ c ∈ shw k, isW c = false ∧ c ≠ 32) ∧ (shw k).length = sl (shw k) ∧ 1 ≤ (shw k).length := by
  obtain rfl | rfl | rfl | rfl | rfl | rfl | rfl | rfl : k = 1 ∨ k = 2 ∨ k = 3 ∨ k = 4 ∨ k = 5 ∨ k = 6 ∨ k = 7 ∨ k = 8 := by omega
  all_goals decide
theorem sl_append {k : Int} (h1 : 1 ≤ k) (h2 : k ≤ 8) (r : List UInt8) : wl (shw k ++ r) = 0 ∧ sl (shw k ++ r) = (shw k).length ∧ (shw k ++ r).take (shw k).length = shw k := by
  obtain rfl | rfl | rfl | rfl | rfl | rfl | rfl | rfl : k = 1 ∨ k = 2 ∨ k = 3 ∨ k = 4 ∨ k = 5 ∨ k = 6 ∨ k = 7 ∨ k = 8 := by omega
  all_goals
    refine ⟨?_, ?_, by simp⟩
    · simp [wl, shw, isW, List.takeWhile]
    · simp [sl, shw, sgn]
theorem tok_sign {k : Int} (h1 : 1 ≤ k) (h2 : k ≤ 8) (r : List UInt8) : tok (shw k ++ r) = some (k, (shw k).length, []) := by
  obtain ⟨g1, g2, g3⟩ := sl_append h1 h2 r
  have g := shw_sgn h1 h2
  unfold tok
  rw [g1, g2, g3, if_neg (by omega), if_neg (by have := g.2.2.2.2; omega), g.1]
def startsW (l : List UInt8) : Bool := match l with | [] => false | c :: _ => isW c
theorem wl_word {x r : List UInt8} (h : ∀ c ∈ x, isW c = true) (hr : startsW r = false) : wl (x ++ r) = x.length := by
  unfold wl
  rw [List.takeWhile_append_of_pos h]
  cases r with
  | nil => simp
  | cons c t =>
    unfold startsW at hr
    simp only at hr
    simp [List.takeWhile, hr]
theorem tok_word {x r : List UInt8} (h : ∀ c ∈ x, isW c = true) (h0 : x ≠ []) (hr : startsW r = false) : tok (x ++ r) = some (0, x.length, x) := by
  have e := wl_word h hr
  have : 0 < x.length := List.length_pos_iff.2 h0
  unfold tok
  rw [e, if_pos this]
  simp
theorem sh_starts {ts : List Tk} (h : ∀ t ∈ ts, goodT t) : startsW (sh true ts) = false := by
  cases ts with
  | nil => rfl
  | cons t r =>
    unfold sh
    rcases h t (by simp) with ⟨e, _, _⟩ | ⟨g1, g2, _⟩
    · rw [if_pos e]; rfl
    · rw [if_neg (by omega)]
      have g := shw_sgn g1 g2
      cases hs : shw t.1 with
      | nil => exact absurd hs g.2.1
      | cons c u => have := g.2.2.1 c (by rw [hs]; simp); simp [startsW, this.1]
/-- the same but for their places -/
def SameKS (a b : List Tk) : Prop := a.map (fun t => (t.1, t.2.2)) = b.map (fun t => (t.1, t.2.2))
theorem relex : ∀ (ts : List Tk), (∀ t ∈ ts, goodT t) → ∀ b p, ∃ ts', Lx (sh b ts) p ts' none ∧ SameKS ts ts' := by
  intro ts
  induction ts with
  | nil => intro _ b p; exact ⟨[], .nil, rfl⟩
  | cons t r ih =>
    intro h b p
    have hr := ih (fun u hu => h u (by simp [hu]))
    rcases h t (by simp) with ⟨e, e2, e3⟩ | ⟨g1, g2, g3⟩
    · have key : ∀ q, ∃ ts', Lx (t.2.2 ++ sh true r) q ts' none ∧ SameKS (t :: r) ts' := by
        intro q
        have ht := tok_word e3 e2 (sh_starts (ts := r) (fun u hu => h u (by simp [hu])))
        obtain ⟨c, u, hx⟩ := List.exists_cons_of_ne_nil e2
        obtain ⟨ts', l1, l2⟩ := hr true (q + t.2.2.length)
        refine ⟨(0, (q : Int), t.2.2) :: ts', ?_, ?_⟩
        · have hc : c ≠ 32 := by
            intro h32
            have := e3 c (by rw [hx]; simp)
            rw [h32] at this
            exact absurd this (by decide)
          have s : Lx (c :: (u ++ sh true r)) q ((0, (q : Int), t.2.2) :: ts') none := by
            refine .step (n := t.2.2.length) hc ?_ ?_
            · rw [← List.cons_append, ← hx]; exact ht
            · rw [← List.cons_append, ← hx]; simpa using l1
          have e5 : t.2.2 ++ sh true r = c :: (u ++ sh true r) := by rw [hx]; rfl
          rw [e5]; exact s
        · unfold SameKS at l2 ⊢
          simp [l2, e]
      have e4 : (t.1 == 0) = true := by simp [e]
      unfold sh
      rw [if_pos e, e4]
      cases b with
      | false => simpa using key p
      | true =>
        obtain ⟨ts', l1, l2⟩ := key (p + 1)
        exact ⟨ts', by simpa using Lx.blank l1, l2⟩
    · have e4 : (t.1 == 0) = false := by simp; omega
      unfold sh
      rw [if_neg (by omega), e4]
      have ht := tok_sign g1 g2 (sh false r)
      have gs := shw_sgn g1 g2
      obtain ⟨c, u, hx⟩ := List.exists_cons_of_ne_nil gs.2.1
      obtain ⟨ts', l1, l2⟩ := hr false (p + (shw t.1).length)
      refine ⟨(t.1, (p : Int), []) :: ts', ?_, ?_⟩
      · have hc : c ≠ 32 := (gs.2.2.1 c (by rw [hx]; simp)).2
        have s : Lx (c :: (u ++ sh false r)) p ((t.1, (p : Int), []) :: ts') none := by
          refine .step (n := (shw t.1).length) hc ?_ ?_
          · rw [← List.cons_append, ← hx]; exact ht
          · rw [← List.cons_append, ← hx]; simpa using l1
        rw [hx]; exact s
      · unfold SameKS at l2 ⊢
        simp [l2, g3]
theorem sh_same : ∀ {a b : List Tk}, SameKS a b → ∀ q, sh q a = sh q b := by
  intro a
  induction a with
  | nil => intro b h q; cases b with | nil => rfl | cons => simp [SameKS] at h
  | cons t r ih =>
    intro b h q
    cases b with
    | nil => simp [SameKS] at h
    | cons u v =>
      simp only [SameKS, List.map_cons, List.cons.injEq, Prod.mk.injEq] at h
      unfold sh
      rw [h.1.1, h.1.2, ih h.2]
theorem sh_snoc_end : ∀ (ts : List Tk) (q : Bool) (n : Int), sh q (ts ++ [(9, n, [])]) = sh q ts := by
  intro ts
  induction ts with
  | nil => intro q n; simp [sh, shw]
  | cons t r ih => intro q n; rw [List.cons_append, sh, sh, ih]
/-- bytes of a token -/
def tlen (t : Tk) : Nat := if t.1 = 0 then t.2.2.length else (shw t.1).length
theorem tok_len {l : List UInt8} {k p : Int} {n : Nat} {x : List UInt8} (h : tok l = some (k, n, x)) : tlen (k, p, x) = n ∧ l.take n = (if k = 0 then x else shw k) := by
  have hp := tok_pos h
  unfold tok at h
  split at h
  · simp only [Option.some.injEq, Prod.mk.injEq] at h
    obtain ⟨rfl, rfl, rfl⟩ := h
    exact ⟨by simp [tlen]; omega, by simp⟩
  · split at h
    · cases h
    · simp only [Option.some.injEq, Prod.mk.injEq] at h
      obtain ⟨rfl, rfl, rfl⟩ := h
      have key : ∀ b : List UInt8, sgn b ≠ 0 → shw (sgn b) = b := by
        intro b hb
        unfold sgn at hb ⊢
        repeat' split at hb
        all_goals first | (subst_vars; simp [shw, *]; done) | exact absurd rfl hb
      have hs : sgn (l.take (sl l)) ≠ 0 := by
        rename_i h2
        revert h2
        unfold sl
        split
        · intro _; exact (‹_ ∧ _›).2
        · split
          · intro _; exact (‹2 ≤ l.length ∧ _›).2
          · intro h; exact absurd rfl h
      refine ⟨?_, ?_⟩
      · unfold tlen
        simp only
        rw [if_neg hs, key _ hs, List.length_take]
        omega
      · rw [if_neg hs, key _ hs]
theorem sh_len {l : List UInt8} {p : Nat} {ts : List Tk} {e : Option Nat} (h : Lx l p ts e) : ∀ b, (sh b ts).length ≤ 2 * l.length := by
  induction h with
  | nil => intro b; simp [sh]
  | blank _ ih => intro b; have := ih b; simp; omega
  | bad => intro b; simp [sh]
  | @step c t p k n x ts e _ h _ ih =>
    intro b
    have hp := tok_pos h
    have hl := (tok_len (p := (p : Int)) h).1
    have := ih ((k : Int) == 0)
    rw [List.length_drop] at this
    have e : (sh b ((k, (p : Int), x) :: ts)).length ≤ tlen (k, (p : Int), x) + 1 + (sh (k == 0) ts).length := by
      rw [show sh b ((k, (p : Int), x) :: ts) = (if k = 0 then (if b then [32] else []) ++ x else shw k) ++ sh (k == 0) ts from rfl, List.length_append]
      generalize sh (k == 0) ts = y
      unfold tlen
      simp only
      split
      · rw [List.length_append]; split <;> simp <;> omega
      · omega
    rw [hl] at e
    omega
/-- with something behind that goes on no token -/
theorem wl_more {l m : List UInt8} (hm : startsW m = false) : wl (l ++ m) = wl l := by
  have e : m.takeWhile isW = [] := by
    cases m with
    | nil => rfl
    | cons c t => unfold startsW at hm; simp only at hm; simp [List.takeWhile, hm]
  unfold wl
  rw [List.takeWhile_append, e, List.append_nil]
  split
  · rename_i h; exact h.symm
  · rfl
theorem sl_some {l m : List UInt8} (h : sl l ≠ 0) : sl (l ++ m) = sl l := by
  unfold sl at h ⊢
  by_cases h1 : 1 ≤ l.length ∧ sgn (l.take 1) ≠ 0
  · have e : (l ++ m).take 1 = l.take 1 := by rw [List.take_append_of_le_length h1.1]
    rw [if_pos h1, e, if_pos ⟨by rw [List.length_append]; omega, h1.2⟩]
  · rw [if_neg h1] at h ⊢
    by_cases h2 : 2 ≤ l.length ∧ sgn (l.take 2) ≠ 0
    · have e : (l ++ m).take 2 = l.take 2 := by rw [List.take_append_of_le_length h2.1]
      have e1 : (l ++ m).take 1 = l.take 1 := by rw [List.take_append_of_le_length (by omega)]
      rw [if_pos h2, e, e1, if_neg (fun g => h1 ⟨by omega, g.2⟩), if_pos ⟨by rw [List.length_append]; omega, h2.2⟩]
    · rw [if_neg h2] at h; exact absurd rfl h
theorem tok_more {l m : List UInt8} {k : Int} {n : Nat} {x : List UInt8} (h : tok l = some (k, n, x)) (hm : startsW m = false) : tok (l ++ m) = some (k, n, x) := by
  have hp := tok_pos h
  unfold tok at h ⊢
  rw [wl_more hm]
  by_cases h1 : 0 < wl l
  · have := wl_le l
    rw [if_pos h1] at h ⊢
    rw [List.take_append_of_le_length this]; exact h
  · rw [if_neg h1] at h ⊢
    by_cases h2 : sl l = 0
    · rw [if_pos h2] at h; cases h
    · have := sl_le l
      rw [if_neg h2] at h
      rw [sl_some h2, if_neg h2, List.take_append_of_le_length this.1]; exact h
theorem sgn_two (c d : UInt8) : sgn [c, d] ≠ 0 → c = 46 ∧ d = 46 := by
  intro h
  unfold sgn at h
  simp at h
  exact h
theorem tok_none {l t : List UInt8} (h : tok l = none) (h0 : l ≠ []) : tok (l ++ 32 :: t) = none := by
  unfold tok at h ⊢
  rw [wl_more rfl]
  by_cases h1 : 0 < wl l
  · rw [if_pos h1] at h; cases h
  · rw [if_neg h1] at h ⊢
    by_cases h2 : sl l = 0
    · have e : sl (l ++ 32 :: t) = 0 := by
        unfold sl at h2 ⊢
        match l, h0 with
        | [c], _ =>
          have g1 : sgn [c] = 0 := by
            by_cases g : sgn [c] = 0
            · exact g
            · simp [g] at h2
          have g2 : sgn [c, 32] = 0 := by
            by_cases g : sgn [c, 32] = 0
            · exact g
            · exact absurd (sgn_two c 32 g).2 (by decide)
          simp [g1, g2]
        | c :: d :: u, _ => simpa using h2
      rw [e]; rfl
    · rw [if_neg h2] at h; cases h
theorem lx_more {l m : List UInt8} {p : Nat} {ts ts2 : List Tk} {e e2 : Option Nat} (h : Lx l p ts e) (he : e = none) (hm : startsW m = false) : Lx m (p + l.length) ts2 e2 → Lx (l ++ m) p (ts ++ ts2) e2 := by
  induction h with
  | nil => intro g; simpa using g
  | @blank t p ts e _ ih =>
    intro g
    exact .blank (ih he (by rw [show p + 1 + t.length = p + (32 :: t).length by simp; omega]; exact g))
  | bad => cases he
  | @step c t p k n x ts e hc ht _ ih =>
    intro g
    have hp := tok_pos ht
    refine .step (c := c) (t := t ++ m) (n := n) hc (tok_more ht hm) ?_
    rw [← List.cons_append, List.drop_append_of_le_length hp.2]
    refine ih he ?_
    rw [List.length_drop, show p + n + ((c :: t).length - n) = p + (c :: t).length by omega]
    exact g
theorem lx_err {l t : List UInt8} {p q : Nat} {ts : List Tk} {e : Option Nat} (h : Lx l p ts e) : e = some q → Lx (l ++ 32 :: t) p ts (some q) := by
  induction h with
  | nil => intro g; cases g
  | blank _ ih => intro g; exact .blank (ih g)
  | bad hc ht => intro g; cases g; exact .bad hc (tok_none ht (by simp))
  | @step c u p k n x ts e hc ht _ ih =>
    intro g
    have hp := tok_pos ht
    refine .step (c := c) (t := u ++ 32 :: t) (n := n) hc (tok_more ht rfl) ?_
    rw [← List.cons_append, List.drop_append_of_le_length hp.2]
    exact ih g
def mv (d : Nat) (t : Tk) : Tk := (t.1, t.2.1 + (d : Int), t.2.2)
theorem lx_shift {l : List UInt8} {p : Nat} {ts : List Tk} {e : Option Nat} (d : Nat) (h : Lx l p ts e) : Lx l (p + d) (ts.map (mv d)) (e.map (· + d)) := by
  induction h with
  | nil => exact .nil
  | @blank t p ts e _ ih => exact .blank (by rw [show p + d + 1 = p + 1 + d by omega]; exact ih)
  | bad hc ht => exact .bad hc ht
  | @step c u p k n x ts e hc ht _ ih =>
    have g := Lx.step (p := p + d) hc ht (by rw [show p + d + n = p + n + d by omega]; exact ih)
    rw [List.map_cons]
    unfold mv
    simp only
    rw [← Int.natCast_add]
    exact g
/-- two texts with a blank between -/
theorem lx_join {l t : List UInt8} {ts ts2 : List Tk} {e2 : Option Nat} (h : Lx l 0 ts none) (g : Lx t 0 ts2 e2) : Lx (l ++ 32 :: t) 0 (ts ++ ts2.map (mv (l.length + 1))) (e2.map (· + (l.length + 1))) := by
  refine lx_more h rfl rfl (.blank ?_)
  have := lx_shift (l.length + 1) g
  rw [show 0 + l.length + 1 = 0 + (l.length + 1) by omega]
  exact this
def txt (t : Tk) : List UInt8 := if t.1 = 0 then t.2.2 else shw t.1
theorem txt_len (t : Tk) : (txt t).length = tlen t := by unfold txt tlen; split <;> rfl
theorem sh_txt (t : Tk) : sh false [t] = txt t := by unfold sh txt; simp [sh]
theorem lx_next {l : List UInt8} {p : Nat} {ts : List Tk} {e : Option Nat} (h : Lx l p ts e) : ∀ t r, ts = t :: r → ∃ b : Nat, b + tlen t ≤ l.length ∧ (∀ i, i < b → l[i]? = some 32) ∧ t.2.1 = ((p + b : Nat) : Int) ∧ (l.drop b).take (tlen t) = txt t ∧ Lx (l.drop (b + tlen t)) (p + (b + tlen t)) r e := by
  induction h with
  | nil => intro t r h; cases h
  | @blank u p ts e _ ih =>
    intro t r h
    obtain ⟨b, g1, g2, g3, g4, g5⟩ := ih t r h
    refine ⟨b + 1, by simp; omega, fun i hi => ?_, by rw [g3]; congr 1; omega, by simpa using g4, ?_⟩
    · cases i with
      | zero => rfl
      | succ i => simpa using g2 i (by omega)
    · rw [show b + 1 + tlen t = (b + tlen t) + 1 by omega, List.drop_succ_cons, show p + (b + tlen t + 1) = p + 1 + (b + tlen t) by omega]
      exact g5
  | bad => intro t r h; cases h
  | @step c u p k n x ts e hc ht g ih =>
    intro t r h
    cases h
    have hp := tok_pos ht
    obtain ⟨h1, h2⟩ := tok_len (p := (p : Int)) ht
    refine ⟨0, by rw [h1]; omega, fun i hi => by omega, by simp, ?_, ?_⟩
    · rw [h1, List.drop_zero, h2]; rfl
    · rw [h1, Nat.zero_add]; exact g
theorem lx_end {l : List UInt8} {p : Nat} {ts : List Tk} {e : Option Nat} (h : Lx l p ts e) : ts = [] → e = none → ∀ i, i < l.length → l[i]? = some 32 := by
  induction h with
  | nil => intro _ _ i hi; simp at hi
  | blank _ ih =>
    intro h1 h2 i hi
    cases i with
    | zero => rfl
    | succ i => simpa using ih h1 h2 i (by simpa using hi)
  | bad => intro _ h; cases h
  | step => intro h; cases h
theorem lx_place {l : List UInt8} {p : Nat} {ts : List Tk} {e : Option Nat} (h : Lx l p ts e) : ∀ q, e = some q → p ≤ q ∧ q < p + l.length := by
  induction h with
  | nil => intro q h; cases h
  | blank _ ih => intro q h; have := ih q h; simp; omega
  | bad => intro q h; cases h; simp
  | step _ ht _ ih => intro q h; have := ih q h; have := tok_pos ht; rw [List.length_drop] at *; omega
theorem lx_at {l : List UInt8} {p : Nat} {ts : List Tk} {e : Option Nat} (h : Lx l p ts e) : ∀ t ∈ ts, (p : Int) ≤ t.2.1 ∧ t.2.1 ≤ ((p + l.length : Nat) : Int) := by
  induction h with
  | nil => intro t h; cases h
  | blank _ ih => intro t h; have := ih t h; simp at *; omega
  | bad => intro t h; cases h
  | step _ ht _ ih =>
    intro t h
    have := tok_pos ht
    rcases List.mem_cons.1 h with rfl | h
    · simp only; omega
    · have := ih t h; rw [List.length_drop] at this; omega
theorem lx_txt {l : List UInt8} {p : Nat} {ts : List Tk} {e : Option Nat} (h : Lx l p ts e) : ∀ t ∈ ts, t.2.2.length ≤ l.length := by
  induction h with
  | nil => intro t h; cases h
  | blank _ ih => intro t h; have := ih t h; simp; omega
  | bad => intro t h; cases h
  | @step c u p k n x ts e _ ht _ ih =>
    intro t h
    have hp := tok_pos ht
    rcases List.mem_cons.1 h with rfl | h
    · have h1 := (tok_len (p := (p : Int)) ht).1
      have h2 := tok_good (p := (p : Int)) ht
      simp only
      rcases h2 with ⟨a, _, _⟩ | ⟨_, _, a⟩
      · simp only [tlen] at h1; simp only at a; rw [if_pos a] at h1; omega
      · simp only at a; rw [a]; simp
    · have := ih t h; rw [List.length_drop] at this; omega
theorem startsW_of {c : UInt8} (h : isW c = false) (t : List UInt8) : startsW (c :: t) = false := h
theorem tok_odd {c : UInt8} (t : List UInt8) (h : isW c = false) (h2 : sgn [c] = 0) (h3 : c ≠ 46) : tok (c :: t) = none := by
  have e : wl (c :: t) = 0 := by simp [wl, List.takeWhile, h]
  have e2 : sl (c :: t) = 0 := by
    unfold sl
    rw [if_neg (by simp [h2])]
    split
    · rename_i g
      cases t with
      | nil => simp at g
      | cons d u => exact absurd (sgn_two c d g.2).1 h3
    · rfl
  unfold tok
  rw [e, e2]
  rfl
theorem tok_dot : tok [46] = none := by decide
end Go.Proofs.Ytgaadakhkjfbnaa
