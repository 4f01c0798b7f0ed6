/-
  Joined: LexA, LexM, LexB, LexC, LexD, LexE, LexF, LexG, Bld, LexH, L9A.
-/
import Derived.Test.YtndmohamjffpcaaDoorMaskM
import Derived.Test.YtndmohamjffpcaaDoorChecked
import Derived.LoopTactic
import Derived.Lib.Bytealg
import Derived.Shelf.Strings.Search1
import Derived.Test.YtndmohamjffpcaaDoorApp
import Derived.Maps.OwnOps
import Derived.Maps.OwnSet
import Derived.Maps.StringElems
import Derived.StringKeys
import Derived.Shelf.Strings.BuilderK
import Derived.Maps.RangeWalk
namespace Go.Proofs.YtndmohamjffpcaaDoor
open Go.RowKit Go.Shelf
set_option linter.unusedVariables false
set_option maxRecDepth 100000 in
theorem ixb_any (s : ByteArray) (c : Int) (w : World) :
    Calls Tryd.prog 44 #[.string s, .int .u8 c] w fun e w' => e = .returned (.int .i64 (Lib.indexByte s.data.toList c.toNat.toUInt8)) ∧ w = w' := by
  have C : ∀ w, Calls Tryd.prog 53 #[.string s, .int .u8 c] w fun e w' => e = .returned (.int .i64 (Lib.indexByte s.data.toList c.toNat.toUInt8)) ∧ w = w' := by
    intro w
    go_enter Tryd.func53, Tryd.ntmps53
    go_wp2
    rw [run_callFunc_extern Tryd.func63 (by kernel_rfl) (by kernel_rfl) (by kernel_rfl) (e := Extern.BytealgIndexByte.indexByte) (by kernel_rfl), Lib.run_indexByteString]
    simp only [Result.andThen]
    rw [Oper.upon_value]
    go_wp2
    go_ret
    exact ⟨rfl, rfl⟩
  have C := Lib.hid C
  go_enter Tryd.func44, Tryd.ntmps44
  go_wp2_with fail; refine ((C.out _)).mono ?_; rintro e w' ⟨rfl, rfl⟩
  go_wp2
  go_ret
  exact ⟨rfl, rfl⟩
end Go.Proofs.YtndmohamjffpcaaDoor

namespace Go.Proofs.YtndmohamjffpcaaDoor
set_option linter.unusedVariables false
set_option linter.unusedSimpArgs false
/-- a byte that may stand in a word -/
def isW (c : UInt8) : Bool := [48, 49, 50, 51, 52, 53, 54, 55, 56, 57, 88, 45, 115, 100, 99].contains c
def wl (l : List UInt8) : Nat := (l.takeWhile isW).length
/-- the kind of a sign; 0: none -/
def sgn (b : List UInt8) : Int :=
  if b = [47] then 1 else if b = [46, 46] then 2 else if b = [42] then 3 else if b = [91] then 4 else if b = [93] then 5 else if b = [44] then 6 else if b = [63] then 7 else if b = [126] then 8 else 0
def sl (l : List UInt8) : Nat := if 1 ≤ l.length ∧ sgn (l.take 1) ≠ 0 then 1 else if 2 ≤ l.length ∧ sgn (l.take 2) ≠ 0 then 2 else 0
abbrev Tk := Int × Int × List UInt8
/-- the token that a text begins with: its kind, how many bytes it has, what a word's text is -/
def tok (l : List UInt8) : Option (Int × Nat × List UInt8) :=
  if 0 < wl l then some (0, wl l, l.take (wl l)) else if sl l = 0 then none else some (sgn (l.take (sl l)), sl l, [])
/-- a text from a place on: its tokens, and where it is wrong -/
inductive Lx : List UInt8 → Nat → List Tk → Option Nat → Prop
  | nil {p} : Lx [] p [] none
  | blank {t p ts e} : Lx t (p + 1) ts e → Lx (32 :: t) p ts e
  | bad {c t p} : c ≠ 32 → tok (c :: t) = none → Lx (c :: t) p [] (some p)
  | step {c t p k n x ts e} : c ≠ 32 → tok (c :: t) = some (k, n, x) → Lx ((c :: t).drop n) (p + n) ts e → Lx (c :: t) p ((k, (p : Int), x) :: ts) e
theorem wl_le (l : List UInt8) : wl l ≤ l.length := by unfold wl; exact (List.takeWhile_prefix _).length_le
theorem sl_le (l : List UInt8) : sl l ≤ l.length ∧ sl l ≤ 2 := by unfold sl; split <;> (try split) <;> omega
theorem tok_pos {l : List UInt8} {k : Int} {n : Nat} {x : List UInt8} (h : tok l = some (k, n, x)) : 1 ≤ n ∧ n ≤ l.length := by
  have h1 := wl_le l
  have h2 := sl_le l
  unfold tok at h
  split at h
  · simp only [Option.some.injEq, Prod.mk.injEq] at h; omega
  · split at h
    · cases h
    · simp only [Option.some.injEq, Prod.mk.injEq] at h; omega
theorem lx_total : ∀ (n : Nat) (l : List UInt8), l.length ≤ n → ∀ p, ∃ ts e, Lx l p ts e := by
  intro n
  induction n with
  | zero => intro l h p; obtain rfl : l = [] := List.length_eq_zero_iff.1 (by omega); exact ⟨_, _, .nil⟩
  | succ n ih =>
    intro l h p
    cases l with
    | nil => exact ⟨_, _, .nil⟩
    | cons c t =>
      by_cases hc : c = 32
      · subst hc
        obtain ⟨ts, e, g⟩ := ih t (by simp at h; omega) (p + 1)
        exact ⟨_, _, .blank g⟩
      · cases ht : tok (c :: t) with
        | none => exact ⟨_, _, .bad hc ht⟩
        | some q =>
          obtain ⟨k, n', x⟩ := q
          obtain ⟨g1, g2⟩ := tok_pos ht
          obtain ⟨ts, e, g⟩ := ih ((c :: t).drop n') (by rw [List.length_drop]; simp at h ⊢; omega) (p + n')
          exact ⟨_, _, .step hc ht g⟩
theorem lx_ex (l : List UInt8) (p : Nat) : ∃ ts e, Lx l p ts e := lx_total l.length l (Nat.le_refl _) p
theorem lx_nil {p : Nat} {ts : List Tk} {e : Option Nat} (h : Lx [] p ts e) : ts = [] ∧ e = none := by cases h; exact ⟨rfl, rfl⟩
theorem lx_blank {t : List UInt8} {p : Nat} {ts : List Tk} {e : Option Nat} (h : Lx (32 :: t) p ts e) : Lx t (p + 1) ts e := by
  cases h with
  | blank h => exact h
  | bad h => exact absurd rfl h
  | step h => exact absurd rfl h
theorem lx_bad {c : UInt8} {t : List UInt8} {p : Nat} {ts : List Tk} {e : Option Nat} (h : Lx (c :: t) p ts e) (hc : c ≠ 32) (ht : tok (c :: t) = none) : ts = [] ∧ e = some p := by
  cases h with
  | blank h => exact absurd rfl hc
  | bad _ _ => exact ⟨rfl, rfl⟩
  | step _ h => rw [ht] at h; cases h
theorem lx_step {c : UInt8} {t : List UInt8} {p : Nat} {ts : List Tk} {e : Option Nat} {k : Int} {n : Nat} {x : List UInt8} (h : Lx (c :: t) p ts e) (hc : c ≠ 32) (ht : tok (c :: t) = some (k, n, x)) :
    ∃ r, ts = (k, (p : Int), x) :: r ∧ Lx ((c :: t).drop n) (p + n) r e := by
  cases h with
  | blank h => exact absurd rfl hc
  | bad _ h => rw [ht] at h; cases h
  | step _ h g => rw [ht] at h; cases h; exact ⟨_, rfl, g⟩
theorem lx_one {l : List UInt8} {p : Nat} {ts ts' : List Tk} {e e' : Option Nat} (h : Lx l p ts e) : Lx l p ts' e' → ts = ts' ∧ e = e' := by
  induction h generalizing ts' e' with
  | nil => intro g; obtain ⟨rfl, rfl⟩ := lx_nil g; exact ⟨rfl, rfl⟩
  | blank _ ih => intro g; exact ih (lx_blank g)
  | bad hc ht => intro g; obtain ⟨rfl, rfl⟩ := lx_bad g hc ht; exact ⟨rfl, rfl⟩
  | step hc ht _ ih =>
    intro g
    obtain ⟨r, rfl, g2⟩ := lx_step g hc ht
    obtain ⟨rfl, rfl⟩ := ih g2
    exact ⟨rfl, rfl⟩
theorem sgn_rng (b : List UInt8) : 0 ≤ sgn b ∧ sgn b ≤ 8 := by
  unfold sgn; repeat' split
  all_goals omega
/-- a token as it may be -/
def goodT (t : Tk) : Prop := (t.1 = 0 ∧ t.2.2 ≠ [] ∧ ∀ c ∈ t.2.2, isW c = true) ∨ (1 ≤ t.1 ∧ t.1 ≤ 8 ∧ t.2.2 = [])
theorem takeWhile_all (l : List UInt8) : ∀ c ∈ l.take (wl l), isW c = true := by
  intro c hc
  have e : l.take (wl l) = l.takeWhile isW := by unfold wl; exact (List.prefix_iff_eq_take.1 (List.takeWhile_prefix (p := isW))).symm
  rw [e] at hc
  clear e
  induction l with
  | nil => cases hc
  | cons d u ih =>
    cases hd : isW d with
    | false => simp [List.takeWhile, hd] at hc
    | true =>
      simp only [List.takeWhile, hd, List.mem_cons] at hc
      rcases hc with rfl | hc
      · exact hd
      · exact ih hc
theorem tok_good {l : List UInt8} {k p : Int} {n : Nat} {x : List UInt8} (h : tok l = some (k, n, x)) : goodT (k, p, x) := by
  unfold tok at h
  split at h
  · simp only [Option.some.injEq, Prod.mk.injEq] at h
    obtain ⟨rfl, rfl, rfl⟩ := h
    refine .inl ⟨rfl, fun e => ?_, takeWhile_all l⟩
    have := wl_le l
    simp only at e
    have : (l.take (wl l)).length = 0 := by rw [e]; rfl
    rw [List.length_take] at this
    omega
  · split at h
    · cases h
    · simp only [Option.some.injEq, Prod.mk.injEq] at h
      obtain ⟨rfl, rfl, rfl⟩ := h
      have := sgn_rng (l.take (sl l))
      refine .inr ⟨?_, this.2, rfl⟩
      have : sgn (l.take (sl l)) ≠ 0 := by
        rename_i h2
        revert h2
        unfold sl
        split
        · intro _; exact (‹_ ∧ _›).2
        · split
          · intro _; exact (‹2 ≤ l.length ∧ _›).2
          · intro h; exact absurd rfl h
      omega
theorem lx_good {l : List UInt8} {p : Nat} {ts : List Tk} {e : Option Nat} (h : Lx l p ts e) : ∀ t ∈ ts, goodT t := by
  induction h with
  | nil => intro t ht; cases ht
  | blank _ ih => exact ih
  | bad => intro t ht; cases ht
  | step _ h _ ih =>
    intro t ht
    rcases List.mem_cons.1 ht with rfl | ht
    · exact tok_good h
    · exact ih t ht
theorem lx_len {l : List UInt8} {p : Nat} {ts : List Tk} {e : Option Nat} (h : Lx l p ts e) : ts.length ≤ l.length := by
  induction h with
  | nil => simp
  | blank _ ih => simp; omega
  | bad => simp
  | step _ h _ ih => have := tok_pos h; rw [List.length_drop] at ih; simp at ih ⊢; omega
/-- what is written for a kind -/
def shw (k : Int) : List UInt8 :=
  if k = 1 then [47] else if k = 2 then [46, 46] else if k = 3 then [42] else if k = 4 then [91] else if k = 5 then [93] else if k = 6 then [44] else if k = 7 then [63] else if k = 8 then [126] else []
/-- tokens as a text, behind a word or not -/
def sh : Bool → List Tk → List UInt8
  | _, [] => []
  | b, t :: r => (if t.1 = 0 then (if b then [32] else []) ++ t.2.2 else shw t.1) ++ sh (t.1 == 0) r
theorem shw_sgn {k : Int} (h1 : 1 ≤ k) (h2 : k ≤ 8) : sgn (shw k) = k ∧ shw k ≠ [] ∧ (∀ c ∈ shw k, isW c = false ∧ c ≠ 32) ∧ (shw k).length = sl (shw k) ∧ 1 ≤ (shw k).length := by
  obtain rfl | rfl | rfl | rfl | rfl | rfl | rfl | rfl : k = 1 ∨ k = 2 ∨ k = 3 ∨ k = 4 ∨ k = 5 ∨ k = 6 ∨ k = 7 ∨ k = 8 := by omega
  all_goals decide
theorem sl_append {k : Int} (h1 : 1 ≤ k) (h2 : k ≤ 8) (r : List UInt8) : wl (shw k ++ r) = 0 ∧ sl (shw k ++ r) = (shw k).length ∧ (shw k ++ r).take (shw k).length = shw k := by
  obtain rfl | rfl | rfl | rfl | rfl | rfl | rfl | rfl : k = 1 ∨ k = 2 ∨ k = 3 ∨ k = 4 ∨ k = 5 ∨ k = 6 ∨ k = 7 ∨ k = 8 := by omega
  all_goals
    refine ⟨?_, ?_, by simp⟩
    · simp [wl, shw, isW, List.takeWhile]
    · simp [sl, shw, sgn]
theorem tok_sign {k : Int} (h1 : 1 ≤ k) (h2 : k ≤ 8) (r : List UInt8) : tok (shw k ++ r) = some (k, (shw k).length, []) := by
  obtain ⟨g1, g2, g3⟩ := sl_append h1 h2 r
  have g := shw_sgn h1 h2
  unfold tok
  rw [g1, g2, g3, if_neg (by omega), if_neg (by have := g.2.2.2.2; omega), g.1]
def startsW (l : List UInt8) : Bool := match l with | [] => false | c :: _ => isW c
theorem wl_word {x r : List UInt8} (h : ∀ c ∈ x, isW c = true) (hr : startsW r = false) : wl (x ++ r) = x.length := by
  unfold wl
  rw [List.takeWhile_append_of_pos h]
  cases r with
  | nil => simp
  | cons c t =>
    unfold startsW at hr
    simp only at hr
    simp [List.takeWhile, hr]
theorem tok_word {x r : List UInt8} (h : ∀ c ∈ x, isW c = true) (h0 : x ≠ []) (hr : startsW r = false) : tok (x ++ r) = some (0, x.length, x) := by
  have e := wl_word h hr
  have : 0 < x.length := List.length_pos_iff.2 h0
  unfold tok
  rw [e, if_pos this]
  simp
theorem sh_starts {ts : List Tk} (h : ∀ t ∈ ts, goodT t) : startsW (sh true ts) = false := by
  cases ts with
  | nil => rfl
  | cons t r =>
    unfold sh
    rcases h t (by simp) with ⟨e, _, _⟩ | ⟨g1, g2, _⟩
    · rw [if_pos e]; rfl
    · rw [if_neg (by omega)]
      have g := shw_sgn g1 g2
      cases hs : shw t.1 with
      | nil => exact absurd hs g.2.1
      | cons c u => have := g.2.2.1 c (by rw [hs]; simp); simp [startsW, this.1]
/-- the same but for their places -/
def SameKS (a b : List Tk) : Prop := a.map (fun t => (t.1, t.2.2)) = b.map (fun t => (t.1, t.2.2))
theorem relex : ∀ (ts : List Tk), (∀ t ∈ ts, goodT t) → ∀ b p, ∃ ts', Lx (sh b ts) p ts' none ∧ SameKS ts ts' := by
  intro ts
  induction ts with
  | nil => intro _ b p; exact ⟨[], .nil, rfl⟩
  | cons t r ih =>
    intro h b p
    have hr := ih (fun u hu => h u (by simp [hu]))
    rcases h t (by simp) with ⟨e, e2, e3⟩ | ⟨g1, g2, g3⟩
    · have key : ∀ q, ∃ ts', Lx (t.2.2 ++ sh true r) q ts' none ∧ SameKS (t :: r) ts' := by
        intro q
        have ht := tok_word e3 e2 (sh_starts (ts := r) (fun u hu => h u (by simp [hu])))
        obtain ⟨c, u, hx⟩ := List.exists_cons_of_ne_nil e2
        obtain ⟨ts', l1, l2⟩ := hr true (q + t.2.2.length)
        refine ⟨(0, (q : Int), t.2.2) :: ts', ?_, ?_⟩
        · have hc : c ≠ 32 := by
            intro h32
            have := e3 c (by rw [hx]; simp)
            rw [h32] at this
            exact absurd this (by decide)
          have s : Lx (c :: (u ++ sh true r)) q ((0, (q : Int), t.2.2) :: ts') none := by
            refine .step (n := t.2.2.length) hc ?_ ?_
            · rw [← List.cons_append, ← hx]; exact ht
            · rw [← List.cons_append, ← hx]; simpa using l1
          have e5 : t.2.2 ++ sh true r = c :: (u ++ sh true r) := by rw [hx]; rfl
          rw [e5]; exact s
        · unfold SameKS at l2 ⊢
          simp [l2, e]
      have e4 : (t.1 == 0) = true := by simp [e]
      unfold sh
      rw [if_pos e, e4]
      cases b with
      | false => simpa using key p
      | true =>
        obtain ⟨ts', l1, l2⟩ := key (p + 1)
        exact ⟨ts', by simpa using Lx.blank l1, l2⟩
    · have e4 : (t.1 == 0) = false := by simp; omega
      unfold sh
      rw [if_neg (by omega), e4]
      have ht := tok_sign g1 g2 (sh false r)
      have gs := shw_sgn g1 g2
      obtain ⟨c, u, hx⟩ := List.exists_cons_of_ne_nil gs.2.1
      obtain ⟨ts', l1, l2⟩ := hr false (p + (shw t.1).length)
      refine ⟨(t.1, (p : Int), []) :: ts', ?_, ?_⟩
      · have hc : c ≠ 32 := (gs.2.2.1 c (by rw [hx]; simp)).2
        have s : Lx (c :: (u ++ sh false r)) p ((t.1, (p : Int), []) :: ts') none := by
          refine .step (n := (shw t.1).length) hc ?_ ?_
          · rw [← List.cons_append, ← hx]; exact ht
          · rw [← List.cons_append, ← hx]; simpa using l1
        rw [hx]; exact s
      · unfold SameKS at l2 ⊢
        simp [l2, g3]
theorem sh_same : ∀ {a b : List Tk}, SameKS a b → ∀ q, sh q a = sh q b := by
  intro a
  induction a with
  | nil => intro b h q; cases b with | nil => rfl | cons => simp [SameKS] at h
  | cons t r ih =>
    intro b h q
    cases b with
    | nil => simp [SameKS] at h
    | cons u v =>
      simp only [SameKS, List.map_cons, List.cons.injEq, Prod.mk.injEq] at h
      unfold sh
      rw [h.1.1, h.1.2, ih h.2]
theorem sh_snoc_end : ∀ (ts : List Tk) (q : Bool) (n : Int), sh q (ts ++ [(9, n, [])]) = sh q ts := by
  intro ts
  induction ts with
  | nil => intro q n; simp [sh, shw]
  | cons t r ih => intro q n; rw [List.cons_append, sh, sh, ih]
/-- bytes of a token -/
def tlen (t : Tk) : Nat := if t.1 = 0 then t.2.2.length else (shw t.1).length
theorem tok_len {l : List UInt8} {k p : Int} {n : Nat} {x : List UInt8} (h : tok l = some (k, n, x)) : tlen (k, p, x) = n ∧ l.take n = (if k = 0 then x else shw k) := by
  have hp := tok_pos h
  unfold tok at h
  split at h
  · simp only [Option.some.injEq, Prod.mk.injEq] at h
    obtain ⟨rfl, rfl, rfl⟩ := h
    exact ⟨by simp [tlen]; omega, by simp⟩
  · split at h
    · cases h
    · simp only [Option.some.injEq, Prod.mk.injEq] at h
      obtain ⟨rfl, rfl, rfl⟩ := h
      have key : ∀ b : List UInt8, sgn b ≠ 0 → shw (sgn b) = b := by
        intro b hb
        unfold sgn at hb ⊢
        repeat' split at hb
        all_goals first | (subst_vars; simp [shw, *]; done) | exact absurd rfl hb
      have hs : sgn (l.take (sl l)) ≠ 0 := by
        rename_i h2
        revert h2
        unfold sl
        split
        · intro _; exact (‹_ ∧ _›).2
        · split
          · intro _; exact (‹2 ≤ l.length ∧ _›).2
          · intro h; exact absurd rfl h
      refine ⟨?_, ?_⟩
      · unfold tlen
        simp only
        rw [if_neg hs, key _ hs, List.length_take]
        omega
      · rw [if_neg hs, key _ hs]
theorem sh_len {l : List UInt8} {p : Nat} {ts : List Tk} {e : Option Nat} (h : Lx l p ts e) : ∀ b, (sh b ts).length ≤ 2 * l.length := by
  induction h with
  | nil => intro b; simp [sh]
  | blank _ ih => intro b; have := ih b; simp; omega
  | bad => intro b; simp [sh]
  | @step c t p k n x ts e _ h _ ih =>
    intro b
    have hp := tok_pos h
    have hl := (tok_len (p := (p : Int)) h).1
    have := ih ((k : Int) == 0)
    rw [List.length_drop] at this
    have e : (sh b ((k, (p : Int), x) :: ts)).length ≤ tlen (k, (p : Int), x) + 1 + (sh (k == 0) ts).length := by
      rw [show sh b ((k, (p : Int), x) :: ts) = (if k = 0 then (if b then [32] else []) ++ x else shw k) ++ sh (k == 0) ts from rfl, List.length_append]
      generalize sh (k == 0) ts = y
      unfold tlen
      simp only
      split
      · rw [List.length_append]; split <;> simp <;> omega
      · omega
    rw [hl] at e
    omega
/-- with something behind that goes on no token -/
theorem wl_more {l m : List UInt8} (hm : startsW m = false) : wl (l ++ m) = wl l := by
  have e : m.takeWhile isW = [] := by
    cases m with
    | nil => rfl
    | cons c t => unfold startsW at hm; simp only at hm; simp [List.takeWhile, hm]
  unfold wl
  rw [List.takeWhile_append, e, List.append_nil]
  split
  · rename_i h; exact h.symm
  · rfl
theorem sl_some {l m : List UInt8} (h : sl l ≠ 0) : sl (l ++ m) = sl l := by
  unfold sl at h ⊢
  by_cases h1 : 1 ≤ l.length ∧ sgn (l.take 1) ≠ 0
  · have e : (l ++ m).take 1 = l.take 1 := by rw [List.take_append_of_le_length h1.1]
    rw [if_pos h1, e, if_pos ⟨by rw [List.length_append]; omega, h1.2⟩]
  · rw [if_neg h1] at h ⊢
    by_cases h2 : 2 ≤ l.length ∧ sgn (l.take 2) ≠ 0
    · have e : (l ++ m).take 2 = l.take 2 := by rw [List.take_append_of_le_length h2.1]
      have e1 : (l ++ m).take 1 = l.take 1 := by rw [List.take_append_of_le_length (by omega)]
      rw [if_pos h2, e, e1, if_neg (fun g => h1 ⟨by omega, g.2⟩), if_pos ⟨by rw [List.length_append]; omega, h2.2⟩]
    · rw [if_neg h2] at h; exact absurd rfl h
theorem tok_more {l m : List UInt8} {k : Int} {n : Nat} {x : List UInt8} (h : tok l = some (k, n, x)) (hm : startsW m = false) : tok (l ++ m) = some (k, n, x) := by
  have hp := tok_pos h
  unfold tok at h ⊢
  rw [wl_more hm]
  by_cases h1 : 0 < wl l
  · have := wl_le l
    rw [if_pos h1] at h ⊢
    rw [List.take_append_of_le_length this]; exact h
  · rw [if_neg h1] at h ⊢
    by_cases h2 : sl l = 0
    · rw [if_pos h2] at h; cases h
    · have := sl_le l
      rw [if_neg h2] at h
      rw [sl_some h2, if_neg h2, List.take_append_of_le_length this.1]; exact h
theorem sgn_two (c d : UInt8) : sgn [c, d] ≠ 0 → c = 46 ∧ d = 46 := by
  intro h
  unfold sgn at h
  simp at h
  exact h
theorem tok_none {l t : List UInt8} (h : tok l = none) (h0 : l ≠ []) : tok (l ++ 32 :: t) = none := by
  unfold tok at h ⊢
  rw [wl_more rfl]
  by_cases h1 : 0 < wl l
  · rw [if_pos h1] at h; cases h
  · rw [if_neg h1] at h ⊢
    by_cases h2 : sl l = 0
    · have e : sl (l ++ 32 :: t) = 0 := by
        unfold sl at h2 ⊢
        match l, h0 with
        | [c], _ =>
          have g1 : sgn [c] = 0 := by
            by_cases g : sgn [c] = 0
            · exact g
            · simp [g] at h2
          have g2 : sgn [c, 32] = 0 := by
            by_cases g : sgn [c, 32] = 0
            · exact g
            · exact absurd (sgn_two c 32 g).2 (by decide)
          simp [g1, g2]
        | c :: d :: u, _ => simpa using h2
      rw [e]; rfl
    · rw [if_neg h2] at h; cases h
theorem lx_more {l m : List UInt8} {p : Nat} {ts ts2 : List Tk} {e e2 : Option Nat} (h : Lx l p ts e) (he : e = none) (hm : startsW m = false) : Lx m (p + l.length) ts2 e2 → Lx (l ++ m) p (ts ++ ts2) e2 := by
  induction h with
  | nil => intro g; simpa using g
  | @blank t p ts e _ ih =>
    intro g
    exact .blank (ih he (by rw [show p + 1 + t.length = p + (32 :: t).length by simp; omega]; exact g))
  | bad => cases he
  | @step c t p k n x ts e hc ht _ ih =>
    intro g
    have hp := tok_pos ht
    refine .step (c := c) (t := t ++ m) (n := n) hc (tok_more ht hm) ?_
    rw [← List.cons_append, List.drop_append_of_le_length hp.2]
    refine ih he ?_
    rw [List.length_drop, show p + n + ((c :: t).length - n) = p + (c :: t).length by omega]
    exact g
theorem lx_err {l t : List UInt8} {p q : Nat} {ts : List Tk} {e : Option Nat} (h : Lx l p ts e) : e = some q → Lx (l ++ 32 :: t) p ts (some q) := by
  induction h with
  | nil => intro g; cases g
  | blank _ ih => intro g; exact .blank (ih g)
  | bad hc ht => intro g; cases g; exact .bad hc (tok_none ht (by simp))
  | @step c u p k n x ts e hc ht _ ih =>
    intro g
    have hp := tok_pos ht
    refine .step (c := c) (t := u ++ 32 :: t) (n := n) hc (tok_more ht rfl) ?_
    rw [← List.cons_append, List.drop_append_of_le_length hp.2]
    exact ih g
def mv (d : Nat) (t : Tk) : Tk := (t.1, t.2.1 + (d : Int), t.2.2)
theorem lx_shift {l : List UInt8} {p : Nat} {ts : List Tk} {e : Option Nat} (d : Nat) (h : Lx l p ts e) : Lx l (p + d) (ts.map (mv d)) (e.map (· + d)) := by
  induction h with
  | nil => exact .nil
  | @blank t p ts e _ ih => exact .blank (by rw [show p + d + 1 = p + 1 + d by omega]; exact ih)
  | bad hc ht => exact .bad hc ht
  | @step c u p k n x ts e hc ht _ ih =>
    have g := Lx.step (p := p + d) hc ht (by rw [show p + d + n = p + n + d by omega]; exact ih)
    rw [List.map_cons]
    unfold mv
    simp only
    rw [← Int.natCast_add]
    exact g
/-- two texts with a blank between -/
theorem lx_join {l t : List UInt8} {ts ts2 : List Tk} {e2 : Option Nat} (h : Lx l 0 ts none) (g : Lx t 0 ts2 e2) : Lx (l ++ 32 :: t) 0 (ts ++ ts2.map (mv (l.length + 1))) (e2.map (· + (l.length + 1))) := by
  refine lx_more h rfl rfl (.blank ?_)
  have := lx_shift (l.length + 1) g
  rw [show 0 + l.length + 1 = 0 + (l.length + 1) by omega]
  exact this
def txt (t : Tk) : List UInt8 := if t.1 = 0 then t.2.2 else shw t.1
theorem txt_len (t : Tk) : (txt t).length = tlen t := by unfold txt tlen; split <;> rfl
theorem sh_txt (t : Tk) : sh false [t] = txt t := by unfold sh txt; simp [sh]
theorem lx_next {l : List UInt8} {p : Nat} {ts : List Tk} {e : Option Nat} (h : Lx l p ts e) : ∀ t r, ts = t :: r → ∃ b : Nat, b + tlen t ≤ l.length ∧ (∀ i, i < b → l[i]? = some 32) ∧ t.2.1 = ((p + b : Nat) : Int) ∧ (l.drop b).take (tlen t) = txt t ∧ Lx (l.drop (b + tlen t)) (p + (b + tlen t)) r e := by
  induction h with
  | nil => intro t r h; cases h
  | @blank u p ts e _ ih =>
    intro t r h
    obtain ⟨b, g1, g2, g3, g4, g5⟩ := ih t r h
    refine ⟨b + 1, by simp; omega, fun i hi => ?_, by rw [g3]; congr 1; omega, by simpa using g4, ?_⟩
    · cases i with
      | zero => rfl
      | succ i => simpa using g2 i (by omega)
    · rw [show b + 1 + tlen t = (b + tlen t) + 1 by omega, List.drop_succ_cons, show p + (b + tlen t + 1) = p + 1 + (b + tlen t) by omega]
      exact g5
  | bad => intro t r h; cases h
  | @step c u p k n x ts e hc ht g ih =>
    intro t r h
    cases h
    have hp := tok_pos ht
    obtain ⟨h1, h2⟩ := tok_len (p := (p : Int)) ht
    refine ⟨0, by rw [h1]; omega, fun i hi => by omega, by simp, ?_, ?_⟩
    · rw [h1, List.drop_zero, h2]; rfl
    · rw [h1, Nat.zero_add]; exact g
theorem lx_end {l : List UInt8} {p : Nat} {ts : List Tk} {e : Option Nat} (h : Lx l p ts e) : ts = [] → e = none → ∀ i, i < l.length → l[i]? = some 32 := by
  induction h with
  | nil => intro _ _ i hi; simp at hi
  | blank _ ih =>
    intro h1 h2 i hi
    cases i with
    | zero => rfl
    | succ i => simpa using ih h1 h2 i (by simpa using hi)
  | bad => intro _ h; cases h
  | step => intro h; cases h
theorem lx_place {l : List UInt8} {p : Nat} {ts : List Tk} {e : Option Nat} (h : Lx l p ts e) : ∀ q, e = some q → p ≤ q ∧ q < p + l.length := by
  induction h with
  | nil => intro q h; cases h
  | blank _ ih => intro q h; have := ih q h; simp; omega
  | bad => intro q h; cases h; simp
  | step _ ht _ ih => intro q h; have := ih q h; have := tok_pos ht; rw [List.length_drop] at *; omega
theorem lx_at {l : List UInt8} {p : Nat} {ts : List Tk} {e : Option Nat} (h : Lx l p ts e) : ∀ t ∈ ts, (p : Int) ≤ t.2.1 ∧ t.2.1 ≤ ((p + l.length : Nat) : Int) := by
  induction h with
  | nil => intro t h; cases h
  | blank _ ih => intro t h; have := ih t h; simp at *; omega
  | bad => intro t h; cases h
  | step _ ht _ ih =>
    intro t h
    have := tok_pos ht
    rcases List.mem_cons.1 h with rfl | h
    · simp only; omega
    · have := ih t h; rw [List.length_drop] at this; omega
theorem lx_txt {l : List UInt8} {p : Nat} {ts : List Tk} {e : Option Nat} (h : Lx l p ts e) : ∀ t ∈ ts, t.2.2.length ≤ l.length := by
  induction h with
  | nil => intro t h; cases h
  | blank _ ih => intro t h; have := ih t h; simp; omega
  | bad => intro t h; cases h
  | @step c u p k n x ts e _ ht _ ih =>
    intro t h
    have hp := tok_pos ht
    rcases List.mem_cons.1 h with rfl | h
    · have h1 := (tok_len (p := (p : Int)) ht).1
      have h2 := tok_good (p := (p : Int)) ht
      simp only
      rcases h2 with ⟨a, _, _⟩ | ⟨_, _, a⟩
      · simp only [tlen] at h1; simp only at a; rw [if_pos a] at h1; omega
      · simp only at a; rw [a]; simp
    · have := ih t h; rw [List.length_drop] at this; omega
theorem startsW_of {c : UInt8} (h : isW c = false) (t : List UInt8) : startsW (c :: t) = false := h
theorem tok_odd {c : UInt8} (t : List UInt8) (h : isW c = false) (h2 : sgn [c] = 0) (h3 : c ≠ 46) : tok (c :: t) = none := by
  have e : wl (c :: t) = 0 := by simp [wl, List.takeWhile, h]
  have e2 : sl (c :: t) = 0 := by
    unfold sl
    rw [if_neg (by simp [h2])]
    split
    · rename_i g
      cases t with
      | nil => simp at g
      | cons d u => exact absurd (sgn_two c d g.2).1 h3
    · rfl
  unfold tok
  rw [e, e2]
  rfl
theorem tok_dot : tok [46] = none := by decide
end Go.Proofs.YtndmohamjffpcaaDoor

namespace Go.Proofs.YtndmohamjffpcaaDoor
open Go.RowKit Go.Shelf
open Go.Maps (Keyed)
set_option linter.unusedVariables false
set_option linter.unusedSimpArgs false
theorem ex_list (s : ByteArray) (a b : Nat) : (s.extract a b).data.toList = (s.data.toList.drop a).take (b - a) := by
  simp [ByteArray.data_extract, Array.toList_extract, List.extract]
theorem ix_w (c : UInt8) : decide (0 ≤ Lib.indexByte [48, 49, 50, 51, 52, 53, 54, 55, 56, 57, 88, 45, 115, 100, 99] c) = isW c := by
  have h : ∀ n : Fin 256, decide (0 ≤ Lib.indexByte [48, 49, 50, 51, 52, 53, 54, 55, 56, 57, 88, 45, 115, 100, 99] ⟨⟨n⟩⟩) = isW ⟨⟨n⟩⟩ := by decide +kernel
  exact h c.toBitVec.toFin
theorem ixw_any (c : UInt8) (w : World) :
    Calls Tryd.prog 44 #[.string { data := #[48, 49, 50, 51, 52, 53, 54, 55, 56, 57, 88, 45, 115, 100, 99] }, .int .u8 (c.toNat : Int)] w fun e w' => ∃ n : Int, e = .returned (.int .i64 n) ∧ decide (0 ≤ n) = isW c ∧ w = w' := by
  refine (ixb_any _ _ w).mono ?_
  rintro e w' ⟨rfl, rfl⟩
  refine ⟨_, rfl, ?_, rfl⟩
  have e1 : ((c.toNat : Int)).toNat.toUInt8 = c := by simp
  rw [e1]
  exact ix_w c
theorem takeW_lt {l : List UInt8} {k : Nat} (hk : k ≤ wl l) (h : k < l.length) : (isW l[k] = true → k + 1 ≤ wl l) ∧ (isW l[k] = false → k = wl l) := by
  unfold wl at hk ⊢
  induction l generalizing k with
  | nil => simp at h
  | cons c t ih =>
    cases hc : isW c with
    | false =>
      simp only [List.takeWhile, hc, List.length_nil] at hk ⊢
      obtain rfl : k = 0 := by omega
      simp [hc]
    | true =>
      simp only [List.takeWhile, hc, List.length_cons] at hk ⊢
      cases k with
      | zero => simp [hc]
      | succ k =>
        have := ih (k := k) (by omega) (by simpa using h)
        simp only [List.getElem_cons_succ]
        exact ⟨fun h => by have := this.1 h; omega, fun h => by have := this.2 h; omega⟩
theorem wl_all {l : List UInt8} (h : wl l ≤ l.length) (k : Nat) (hk : k ≤ wl l) (h2 : ¬ k < l.length) : k = wl l := by omega
set_option maxHeartbeats 1000000 in
theorem wlen_any (s : ByteArray) (w : World) (hs : s.size ≤ 9223372036854775807) :
    Calls Tryd.prog 32 #[.string s] w fun e w' => e = .returned (.int .i64 (wl s.data.toList : Nat)) ∧ w = w' := by
  have HL : s.data.toList.length = s.size := by simp
  have W0 := wl_le s.data.toList
  go_enter Tryd.func32, Tryd.ntmps32
  go_wp2
  go_loop [3] (fun i => ∃ k : Nat, k ≤ wl s.data.toList ∧ i = .int .i64 k) (fun i => s.size - (intOf i).toNat)
  case atStart => exact ⟨0, Nat.zero_le _, rfl⟩
  case round =>
    obtain ⟨k, hk, rfl⟩ := hrel
    by_cases hlt : k < s.size
    · have T := takeW_lt hk (by omega)
      have eb : (s[k]'hlt) = s.data.toList[k]'(by omega) := by rfl
      rw [← eb] at T
      have T1 := Lib.hid T
      have C := Lib.hid (ixw_any (s[k]'hlt))
      have HK := Lib.hid (And.intro hk W0)
      clear T eb hk W0
      have z0 : (0 : Int) ≤ (k : Int) := by omega
      have z1 : (k : Int) < (s.size : Int) := by omega
      rcases Bool.eq_false_or_eq_true (isW (s[k]'hlt)) with h | h
      · rw [h] at T1 C
        have T2 := T1.out.1 rfl
        go_wp2_with fail
        refine (C.out _).mono ?_
        rintro e w' ⟨n, rfl, hn, rfl⟩
        go_wp2
        go_round
        case rel => exact ⟨k + 1, T2, by go_num⟩
        case measure => simp [intOf]; omega
      · rw [h] at T1 C
        have T2 := Lib.hid (T1.out.2 rfl)
        go_wp2_with fail
        refine (C.out _).mono ?_
        rintro e w' ⟨n, rfl, hn, rfl⟩
        go_wp2
        go_ret
        exact ⟨ret_int (by rw [← T2.out]), rfl⟩
    · have T2 := Lib.hid (wl_all W0 k hk (by omega))
      have q : decide ((k : Int) < s.size) = false := by simp; omega
      clear hk W0
      go_wp2
      go_ret
      exact ⟨ret_int (by rw [← T2.out]), rfl⟩
theorem keyS : Keyed Tryd.prog 9 := Go.Maps.string_keyed Tryd.underlying9
theorem keyI : Keyed Tryd.prog 3 := Go.Maps.int_keyed Tryd.underlying3
def sD (D : DataW Unit) (b : List UInt8) (k : Int) : DataW Unit := D.put (.string b) (.lit (.int .i64 k))
/-- what the map of signs reads as -/
def signsD : DataW Unit := sD (sD (sD (sD (sD (sD (sD (sD (.map []) [47] 1) [46, 46] 2) [42] 3) [91] 4) [93] 5) [44] 6) [63] 7) [126] 8
theorem sD_map {D : DataW Unit} (h : Go.Maps.IsMap D) (b : List UInt8) (k : Int) : Go.Maps.IsMap (sD D b k) := Go.Maps.IsMap.put h _ _
theorem sD_at {D : DataW Unit} (h : Go.Maps.IsMap D) (b : List UInt8) (k : Int) (c : List UInt8) (z : DataW Unit) : (sD D b k).atKey (.string c) z = if c = b then .lit (.int .i64 k) else D.atKey (.string c) z := by
  unfold sD
  split
  · subst_vars; exact Go.Maps.atKey_put_same h (show WideAt.IsKeyLit (.string c) from trivial) _ _
  · exact Go.Maps.atKey_put_other (by intro e; cases e; contradiction) _ _
theorem sD_has {D : DataW Unit} (h : Go.Maps.IsMap D) (b : List UInt8) (k : Int) (c : List UInt8) : Go.Maps.has (sD D b k) (.string c) = (decide (c = b) || Go.Maps.has D (.string c)) := by
  unfold sD
  by_cases e : c = b
  · subst e; rw [Go.Maps.has_put_same h (show WideAt.IsKeyLit (.string c) from trivial)]; simp
  · rw [Go.Maps.has_put_other (by intro g; cases g; contradiction)]; simp [e]
theorem signsD_map : Go.Maps.IsMap signsD := by
  unfold signsD
  repeat' apply sD_map
  exact Go.Maps.isMap_empty
theorem signsD_at (c : List UInt8) : signsD.atKey (.string c) (.lit (.int .i64 0)) = .lit (.int .i64 (sgn c)) := by
  have m0 : Go.Maps.IsMap (.map [] : DataW Unit) := Go.Maps.isMap_empty
  have m1 := sD_map m0 [47] 1
  have m2 := sD_map m1 [46, 46] 2
  have m3 := sD_map m2 [42] 3
  have m4 := sD_map m3 [91] 4
  have m5 := sD_map m4 [93] 5
  have m6 := sD_map m5 [44] 6
  have m7 := sD_map m6 [63] 7
  unfold signsD
  rw [sD_at m7, sD_at m6, sD_at m5, sD_at m4, sD_at m3, sD_at m2, sD_at m1, sD_at m0]
  have e0 : (.map [] : DataW Unit).atKey (.string c) (.lit (.int .i64 0)) = .lit (.int .i64 0) := rfl
  rw [e0]
  unfold sgn
  by_cases h1 : c = [126]
  · subst h1; rfl
  by_cases h2 : c = [63]
  · subst h2; rfl
  by_cases h3 : c = [44]
  · subst h3; rfl
  by_cases h4 : c = [93]
  · subst h4; rfl
  by_cases h5 : c = [91]
  · subst h5; rfl
  by_cases h6 : c = [42]
  · subst h6; rfl
  by_cases h7 : c = [46, 46]
  · subst h7; rfl
  by_cases h8 : c = [47]
  · subst h8; rfl
  simp only [h1, h2, h3, h4, h5, h6, h7, h8, if_false]
theorem signsD_has (c : List UInt8) : Go.Maps.has signsD (.string c) = decide (sgn c ≠ 0) := by
  have m0 : Go.Maps.IsMap (.map [] : DataW Unit) := Go.Maps.isMap_empty
  have m1 := sD_map m0 [47] 1
  have m2 := sD_map m1 [46, 46] 2
  have m3 := sD_map m2 [42] 3
  have m4 := sD_map m3 [91] 4
  have m5 := sD_map m4 [93] 5
  have m6 := sD_map m5 [44] 6
  have m7 := sD_map m6 [63] 7
  unfold signsD
  rw [sD_has m7, sD_has m6, sD_has m5, sD_has m4, sD_has m3, sD_has m2, sD_has m1, sD_has m0]
  have e0 : Go.Maps.has (.map [] : DataW Unit) (.string c) = false := rfl
  rw [e0]
  unfold sgn
  by_cases h1 : c = [126]
  · subst h1; rfl
  by_cases h2 : c = [63]
  · subst h2; rfl
  by_cases h3 : c = [44]
  · subst h3; rfl
  by_cases h4 : c = [93]
  · subst h4; rfl
  by_cases h5 : c = [91]
  · subst h5; rfl
  by_cases h6 : c = [42]
  · subst h6; rfl
  by_cases h7 : c = [46, 46]
  · subst h7; rfl
  by_cases h8 : c = [47]
  · subst h8; rfl
  simp only [h1, h2, h3, h4, h5, h6, h7, h8, if_false]
  rfl
abbrev SM (w : World) (m n : Nat) (D : DataW Unit) : Prop := w.ownsMap Tryd.prog 9 (plainElem Tryd.prog 3) m n D
set_option maxHeartbeats 2000000 in
set_option maxRecDepth 100000 in
theorem signs_any (w : World) :
    Calls Tryd.prog 31 #[] w fun e w' => ∃ m, e = .returned (.map (some m)) ∧ SM w' m 8 signsD ∧ w.heap.size ≤ m ∧ Kp w w' := by
  have hmm := @run_makeMap Tryd.prog
  have HO := Lib.hid (World.ownsMap_made (H := Unit) w Tryd.prog 9 (plainElem Tryd.prog 3))
  have KK := Lib.hid (Kp.alloc w (.map #[] 0))
  go_enter Tryd.func31, Tryd.ntmps31
  go_wp2
  obtain ⟨w1, hrun, hown, hgrow⟩ := HO.out.update keyS Tryd.underlying60 (by unfold maxLen; omega) (Go.WideMaps.keyOf_string_mk Tryd.underlying9 (s := { data := #[47] }) (by unfold maxLen; decide)) (plainElem_int Tryd.underlying3 (a := 1) (by decide)); rw [hrun]; simp only [Result.andThen]; rw [Oper.upon_skip]; have HO := Lib.hid hown; have KK := Lib.hid (Kp.grown KK.out hgrow (fun j hj => by cases hj; exact Nat.le_refl _)); clear hown hgrow hrun; go_wp2
  obtain ⟨w1, hrun, hown, hgrow⟩ := HO.out.update keyS Tryd.underlying60 (by unfold maxLen; omega) (Go.WideMaps.keyOf_string_mk Tryd.underlying9 (s := { data := #[46, 46] }) (by unfold maxLen; decide)) (plainElem_int Tryd.underlying3 (a := 2) (by decide)); rw [hrun]; simp only [Result.andThen]; rw [Oper.upon_skip]; have HO := Lib.hid hown; have KK := Lib.hid (Kp.grown KK.out hgrow (fun j hj => by cases hj; exact Nat.le_refl _)); clear hown hgrow hrun; go_wp2
  obtain ⟨w1, hrun, hown, hgrow⟩ := HO.out.update keyS Tryd.underlying60 (by unfold maxLen; omega) (Go.WideMaps.keyOf_string_mk Tryd.underlying9 (s := { data := #[42] }) (by unfold maxLen; decide)) (plainElem_int Tryd.underlying3 (a := 3) (by decide)); rw [hrun]; simp only [Result.andThen]; rw [Oper.upon_skip]; have HO := Lib.hid hown; have KK := Lib.hid (Kp.grown KK.out hgrow (fun j hj => by cases hj; exact Nat.le_refl _)); clear hown hgrow hrun; go_wp2
  obtain ⟨w1, hrun, hown, hgrow⟩ := HO.out.update keyS Tryd.underlying60 (by unfold maxLen; omega) (Go.WideMaps.keyOf_string_mk Tryd.underlying9 (s := { data := #[91] }) (by unfold maxLen; decide)) (plainElem_int Tryd.underlying3 (a := 4) (by decide)); rw [hrun]; simp only [Result.andThen]; rw [Oper.upon_skip]; have HO := Lib.hid hown; have KK := Lib.hid (Kp.grown KK.out hgrow (fun j hj => by cases hj; exact Nat.le_refl _)); clear hown hgrow hrun; go_wp2
  obtain ⟨w1, hrun, hown, hgrow⟩ := HO.out.update keyS Tryd.underlying60 (by unfold maxLen; omega) (Go.WideMaps.keyOf_string_mk Tryd.underlying9 (s := { data := #[93] }) (by unfold maxLen; decide)) (plainElem_int Tryd.underlying3 (a := 5) (by decide)); rw [hrun]; simp only [Result.andThen]; rw [Oper.upon_skip]; have HO := Lib.hid hown; have KK := Lib.hid (Kp.grown KK.out hgrow (fun j hj => by cases hj; exact Nat.le_refl _)); clear hown hgrow hrun; go_wp2
  obtain ⟨w1, hrun, hown, hgrow⟩ := HO.out.update keyS Tryd.underlying60 (by unfold maxLen; omega) (Go.WideMaps.keyOf_string_mk Tryd.underlying9 (s := { data := #[44] }) (by unfold maxLen; decide)) (plainElem_int Tryd.underlying3 (a := 6) (by decide)); rw [hrun]; simp only [Result.andThen]; rw [Oper.upon_skip]; have HO := Lib.hid hown; have KK := Lib.hid (Kp.grown KK.out hgrow (fun j hj => by cases hj; exact Nat.le_refl _)); clear hown hgrow hrun; go_wp2
  obtain ⟨w1, hrun, hown, hgrow⟩ := HO.out.update keyS Tryd.underlying60 (by unfold maxLen; omega) (Go.WideMaps.keyOf_string_mk Tryd.underlying9 (s := { data := #[63] }) (by unfold maxLen; decide)) (plainElem_int Tryd.underlying3 (a := 7) (by decide)); rw [hrun]; simp only [Result.andThen]; rw [Oper.upon_skip]; have HO := Lib.hid hown; have KK := Lib.hid (Kp.grown KK.out hgrow (fun j hj => by cases hj; exact Nat.le_refl _)); clear hown hgrow hrun; go_wp2
  obtain ⟨w1, hrun, hown, hgrow⟩ := HO.out.update keyS Tryd.underlying60 (by unfold maxLen; omega) (Go.WideMaps.keyOf_string_mk Tryd.underlying9 (s := { data := #[126] }) (by unfold maxLen; decide)) (plainElem_int Tryd.underlying3 (a := 8) (by decide)); rw [hrun]; simp only [Result.andThen]; rw [Oper.upon_skip]; have HO := Lib.hid hown; have KK := Lib.hid (Kp.grown KK.out hgrow (fun j hj => by cases hj; exact Nat.le_refl _)); clear hown hgrow hrun; go_wp2
  go_ret
  exact ⟨_, rfl, HO.out, Nat.le_refl _, KK.out⟩
theorem SM.kp {w w' : World} {m n : Nat} {D : DataW Unit} (h : SM w m n D) (k : Kp w w') : SM w' m n D := by
  have hm := World.ownsMap.lt h
  obtain ⟨es, c, h1, h2⟩ := h
  exact ⟨es, c, (k.block m hm).trans h1, h2⟩
theorem sl_cases (l : List UInt8) : (1 ≤ l.length ∧ sgn (l.take 1) ≠ 0 ∧ sl l = 1) ∨ (l = [] ∧ sl l = 0) ∨ (l.length = 1 ∧ sgn (l.take 1) = 0 ∧ sl l = 0) ∨ (2 ≤ l.length ∧ sgn (l.take 1) = 0 ∧ sgn (l.take 2) ≠ 0 ∧ sl l = 2) ∨ (2 ≤ l.length ∧ sgn (l.take 1) = 0 ∧ sgn (l.take 2) = 0 ∧ sl l = 0) := by
  unfold sl
  by_cases h0 : l = []
  · subst h0; simp
  have : 1 ≤ l.length := List.length_pos_iff.2 h0
  by_cases h1 : sgn (l.take 1) = 0
  · by_cases h2 : 2 ≤ l.length
    · by_cases h3 : sgn (l.take 2) = 0
      · simp [h1, h2, h3]
      · simp [h1, h2, h3]
    · have : l.length = 1 := by omega
      simp [h0, h1, h2, this]
  · simp [h0, h1, this]
  all_goals omega
set_option maxHeartbeats 2000000 in
set_option maxRecDepth 100000 in
theorem slen_any (s : ByteArray) (m : Nat) (w : World) (hs : s.size ≤ maxLen) (hm : SM w m 8 signsD) :
    Calls Tryd.prog 33 #[.string s, .map (some m)] w fun e w' => e = .returned (.int .i64 (sl s.data.toList : Nat)) ∧ w = w' := by
  have HM := Lib.hid hm
  have HL : s.data.toList.length = s.size := by simp
  have hs' : s.size ≤ 9223372036854775807 := by unfold maxLen at hs; omega
  have E1 := Lib.hid (show (s.extract 0 1).data.toList = s.data.toList.take 1 by rw [ex_list]; simp)
  have E2 := Lib.hid (show (s.extract 0 2).data.toList = s.data.toList.take 2 by rw [ex_list]; simp)
  have H1 := Lib.hid (signsD_has (s.data.toList.take 1))
  have H2 := Lib.hid (signsD_has (s.data.toList.take 2))
  have hc := sl_cases s.data.toList
  rw [HL] at hc
  generalize sl s.data.toList = R at *
  clear hm HL
  obtain ⟨h1, e1⟩ : ∃ h1, h1 = decide (sgn (s.data.toList.take 1) ≠ 0) := ⟨_, rfl⟩
  obtain ⟨h2, e2⟩ : ∃ h2, h2 = decide (sgn (s.data.toList.take 2) ≠ 0) := ⟨_, rfl⟩
  rw [← e1, ← E1.out] at H1
  rw [← e2, ← E2.out] at H2
  have c' : (1 ≤ s.size ∧ h1 = true ∧ R = 1) ∨ (s.size = 0 ∧ R = 0) ∨ (s.size = 1 ∧ h1 = false ∧ R = 0) ∨ (2 ≤ s.size ∧ h1 = false ∧ h2 = true ∧ R = 2) ∨ (2 ≤ s.size ∧ h1 = false ∧ h2 = false ∧ R = 0) := by
    rcases hc with ⟨a, b, c⟩ | ⟨a, c⟩ | ⟨a, b, c⟩ | ⟨a, b, b', c⟩ | ⟨a, b, b', c⟩
    · exact .inl ⟨a, by rw [e1]; simpa using b, c⟩
    · exact .inr (.inl ⟨by have := congrArg List.length a; simpa using this, c⟩)
    · exact .inr (.inr (.inl ⟨a, by rw [e1]; simpa using b, c⟩))
    · exact .inr (.inr (.inr (.inl ⟨a, by rw [e1]; simpa using b, by rw [e2]; simpa using b', c⟩)))
    · exact .inr (.inr (.inr (.inr ⟨a, by rw [e1]; simpa using b, by rw [e2]; simpa using b', c⟩)))
  have K1 := Lib.hid (Go.WideMaps.keyOf_string_mk Tryd.underlying9 (s := s.extract 0 1) (by rw [ByteArray.size_extract]; unfold maxLen; omega))
  have K2 := Lib.hid (Go.WideMaps.keyOf_string_mk Tryd.underlying9 (s := s.extract 0 2) (by rw [ByteArray.size_extract]; unfold maxLen; omega))
  clear hc e1 e2 E1 E2 hs
  go_enter Tryd.func33, Tryd.ntmps33
  go_wp2
  go_loop [5] (fun u5 => (u5 = .int .i64 1) ∨ (u5 = .int .i64 2 ∧ 1 ≤ s.size ∧ h1 = false) ∨ (u5 = .int .i64 3 ∧ 2 ≤ s.size ∧ h1 = false ∧ h2 = false)) (fun u5 => (3 - intOf u5).toNat)
  case atStart => exact .inl rfl
  case round =>
    rcases hrel with rfl | ⟨rfl, g1, g2⟩ | ⟨rfl, g1, g2, g3⟩
    · by_cases z : s.size = 0
      · obtain rfl : R = 0 := by omega
        have q : decide ((1 : Int) ≤ min 2 (s.size : Int)) = false := decide_eq_false (by omega)
        have q' : ¬ ((1 : Int) ≤ (s.size : Int)) := by omega
        clear c'
        go_wp2
        go_ret
        exact ⟨rfl, rfl⟩
      · have q : decide ((1 : Int) ≤ min 2 (s.size : Int)) = true := decide_eq_true (by omega)
        have q' : ((1 : Int) ≤ (s.size : Int)) := by omega
        have q2 : 1 ≤ s.size := by omega
        cases h1 with
        | true =>
          obtain rfl : R = 1 := by rcases c' with ⟨_, _, c⟩ | ⟨a, c⟩ | ⟨_, c, _⟩ | ⟨_, c, _⟩ | ⟨_, c, _⟩ <;> first | exact c | omega | cases c
          clear c'
          go_wp2_with (at_lookup; refine wpList_lookup_own_ok_int _ rfl _ _ 60 rfl 9 3 .i64 keyS Tryd.underlying60 Tryd.underlying3 (Tryd.zeroValue3 _) m 8 signsD rfl HM.out _ _ rfl K1.out ?_; intro c hat hwc; rw [H1])
          go_ret
          exact ⟨rfl, rfl⟩
        | false =>
          have c2 := Lib.hid c'
          clear c'
          go_wp2_with (at_lookup; refine wpList_lookup_own_ok_int _ rfl _ _ 60 rfl 9 3 .i64 keyS Tryd.underlying60 Tryd.underlying3 (Tryd.zeroValue3 _) m 8 signsD rfl HM.out _ _ rfl K1.out ?_; intro c hat hwc; rw [H1])
          go_round
          case rel => exact .inr (.inl ⟨by go_num, by simp [q2]⟩)
          case measure => simp [intOf]
    · by_cases z : s.size = 1
      · obtain rfl : R = 0 := by
          rcases c' with ⟨_, c, _⟩ | ⟨_, c⟩ | ⟨_, _, c⟩ | ⟨a, _⟩ | ⟨a, _⟩ <;> first | exact c | omega | (rw [c] at g2; cases g2)
        have q : decide ((2 : Int) ≤ min 2 (s.size : Int)) = false := decide_eq_false (by omega)
        have q' : ¬ ((2 : Int) ≤ (s.size : Int)) := by omega
        clear c'
        go_wp2
        go_ret
        exact ⟨rfl, rfl⟩
      · have q : decide ((2 : Int) ≤ min 2 (s.size : Int)) = true := decide_eq_true (by omega)
        have q' : ((2 : Int) ≤ (s.size : Int)) := by omega
        have q2 : 2 ≤ s.size := by omega
        subst g2
        cases h2 with
        | true =>
          obtain rfl : R = 2 := by rcases c' with ⟨_, c, _⟩ | ⟨a, c⟩ | ⟨a, c, _⟩ | ⟨_, _, _, c⟩ | ⟨_, _, c, _⟩ <;> first | exact c | omega | cases c
          clear c'
          go_wp2_with (at_lookup; refine wpList_lookup_own_ok_int _ rfl _ _ 60 rfl 9 3 .i64 keyS Tryd.underlying60 Tryd.underlying3 (Tryd.zeroValue3 _) m 8 signsD rfl HM.out _ _ rfl K2.out ?_; intro c hat hwc; rw [H2])
          go_ret
          exact ⟨rfl, rfl⟩
        | false =>
          have c2 := Lib.hid c'
          clear c'
          go_wp2_with (at_lookup; refine wpList_lookup_own_ok_int _ rfl _ _ 60 rfl 9 3 .i64 keyS Tryd.underlying60 Tryd.underlying3 (Tryd.zeroValue3 _) m 8 signsD rfl HM.out _ _ rfl K2.out ?_; intro c hat hwc; rw [H2])
          go_round
          case rel => exact .inr (.inr ⟨by go_num, by simp [q2]⟩)
          case measure => simp [intOf]
    · obtain rfl : R = 0 := by
        subst g2 g3
        rcases c' with ⟨_, c, _⟩ | ⟨a, c⟩ | ⟨a, _, c⟩ | ⟨_, _, c, _⟩ | ⟨_, _, _, c⟩ <;> first | exact c | omega | cases c
      have q : decide ((3 : Int) ≤ min 2 (s.size : Int)) = false := decide_eq_false (by omega)
      clear c'
      go_wp2
      go_ret
      exact ⟨rfl, rfl⟩
end Go.Proofs.YtndmohamjffpcaaDoor

namespace Go.Proofs.YtndmohamjffpcaaDoor
open Go.RowKit Go.Shelf
set_option linter.unusedVariables false
set_option linter.unusedSimpArgs false
theorem infoT : (Tryd.prog.info? 56).map (fun i => (i.zero, i.size, i.bytes)) = some (some (.agg #[.int .i64 0, .int .i64 0, .string { data := #[] }]), 3, 32) := by kernel_rfl
def bs (l : List UInt8) : ByteArray := ⟨l.toArray⟩
theorem bs_list (s : ByteArray) : bs s.data.toList = s := by unfold bs; simp
theorem list_bs (l : List UInt8) : (bs l).data.toList = l := by unfold bs; simp
theorem bs_size (l : List UInt8) : (bs l).size = l.length := by unfold bs; simp [ByteArray.size]
def cellsT (l : List Tk) : List Value := l.flatMap fun t => [.int .i64 t.1, .int .i64 t.2.1, .string (bs t.2.2)]
theorem cellsT_append (a b : List Tk) : cellsT (a ++ b) = cellsT a ++ cellsT b := by unfold cellsT; simp
theorem cellsT_length (l : List Tk) : (cellsT l).length = l.length * 3 := by unfold cellsT; induction l with | nil => rfl | cons r t ih => simp at ih ⊢; omega
def tk (l : List Tk) (i : Nat) : Tk := l.getD i (0, 0, [])
theorem tk_mem {l : List Tk} {i : Nat} (h : i < l.length) : tk l i ∈ l := by
  have : tk l i = l[i] := by unfold tk; simp [List.getD, h]
  rw [this]; exact List.getElem_mem h
theorem tk_take (l : List Tk) (k : Nat) (h : k < l.length) : l.take (k + 1) = l.take k ++ [tk l k] := by
  rw [List.take_succ_eq_append_getElem h]; unfold tk; simp [List.getD, h]
/-- a slice of tokens reads as this list -/
def ToksAt (w : World) (v : Value) (l : List Tk) : Prop :=
  (∃ ad cp, v = .slice ad 0 cp ∧ l = []) ∨ ∃ b off cap, v = .slice (some ⟨b, off, none⟩) l.length cap ∧ l.length ≤ cap ∧ cap ≤ maxLen ∧
    ∀ i, i < l.length → w.cell? ⟨b, off + i * 3, none⟩ = some (.int .i64 (tk l i).1) ∧ w.cell? ⟨b, off + i * 3 + 1, none⟩ = some (.int .i64 (tk l i).2.1) ∧ w.cell? ⟨b, off + i * 3 + 2, none⟩ = some (.string (bs (tk l i).2.2))
theorem ToksAt.slice {w : World} {v : Value} {l : List Tk} (h : ToksAt w v l) : ∃ ad c, v = .slice ad l.length c := by
  rcases h with ⟨ad, cp, rfl, rfl⟩ | ⟨b, off, cap, rfl, _⟩
  · exact ⟨_, _, rfl⟩
  · exact ⟨_, _, rfl⟩
theorem rd_tok {w wr : World} {b off : Nat} {l : List Tk} (hx : ∀ i, i < l.length → w.cell? ⟨b, off + i * 3, none⟩ = some (.int .i64 (tk l i).1) ∧ w.cell? ⟨b, off + i * 3 + 1, none⟩ = some (.int .i64 (tk l i).2.1) ∧ w.cell? ⟨b, off + i * 3 + 2, none⟩ = some (.string (bs (tk l i).2.2))) (k : Kp w wr) (i : Nat) (hi : i < l.length) :
    wr.cell? ⟨b, off + i * 3, none⟩ = some (.int .i64 (tk l i).1) ∧ wr.cell? ⟨b, off + i * 3 + 1, none⟩ = some (.int .i64 (tk l i).2.1) ∧ wr.cell? ⟨b, off + i * 3 + 2, none⟩ = some (.string (bs (tk l i).2.2)) := by
  obtain ⟨c1, c2, c3⟩ := hx i hi
  exact ⟨(Below.cell (p := ⟨b, off + i * 3, none⟩) k (World.block_lt_of_cell? _ _ c1)).trans c1, (Below.cell (p := ⟨b, off + i * 3 + 1, none⟩) k (World.block_lt_of_cell? _ _ c2)).trans c2, (Below.cell (p := ⟨b, off + i * 3 + 2, none⟩) k (World.block_lt_of_cell? _ _ c3)).trans c3⟩
theorem ToksAt.kp {w w' : World} {v : Value} {l : List Tk} (h : ToksAt w v l) (k : Kp w w') : ToksAt w' v l := by
  rcases h with h | ⟨b, off, cap, e, h1, h2, h3⟩
  · exact .inl h
  · exact .inr ⟨b, off, cap, e, h1, h2, fun i hi => rd_tok h3 k i hi⟩
theorem ToksAt.len {w : World} {v : Value} {l : List Tk} (h : ToksAt w v l) : l.length ≤ maxLen := by
  rcases h with ⟨_, _, _, rfl⟩ | ⟨_, _, _, _, h1, h2, _⟩
  · simp
  · omega
theorem cellsT_idx : ∀ (m : List Tk) (k : Nat), k < m.length → (cellsT m)[k * 3]? = some (.int .i64 (tk m k).1) ∧ (cellsT m)[k * 3 + 1]? = some (.int .i64 (tk m k).2.1) ∧ (cellsT m)[k * 3 + 2]? = some (.string (bs (tk m k).2.2)) := by
  intro m
  induction m with
  | nil => intro k hk; simp at hk
  | cons r t ih =>
    intro k hk
    have e : cellsT (r :: t) = .int .i64 r.1 :: .int .i64 r.2.1 :: .string (bs r.2.2) :: cellsT t := by unfold cellsT; simp
    cases k with
    | zero => rw [e]; exact ⟨rfl, rfl, rfl⟩
    | succ k =>
      have g := ih k (by simpa using hk)
      rw [e, show (k + 1) * 3 = k * 3 + 3 by omega]
      exact g
theorem toksAt_own {w : World} {base : Nat} {e : TypeId} {v : Value} {l : List Tk} (h : w.ownsRow base e 3 v l.length (cellsT l)) : ToksAt w v l := by
  rcases h.2 with ⟨e1, h0⟩ | ⟨g, cp, cur, rfl, h2, h3, h4, h5, h6, h7⟩
  · exact .inl ⟨_, _, e1, List.length_eq_zero_iff.1 h0⟩
  · refine .inr ⟨g, 0, cp, rfl, h4, h5, fun i hi => ?_⟩
    obtain ⟨c1, c2, c3⟩ := cellsT_idx l i hi
    rw [Nat.zero_add, h.cellAt _ (by omega), h.cellAt _ (by omega), h.cellAt _ (by omega)]
    exact ⟨c1, c2, c3⟩
theorem ownT_len {w : World} {base : Nat} {e : TypeId} {v : Value} {l m : List Tk} (h : w.ownsRow base e 3 v (l.length + m.length) (cellsT l ++ cellsT m)) : w.ownsRow base e 3 v (l ++ m).length (cellsT (l ++ m)) := by
  rw [cellsT_append, List.length_append]; exact h
theorem ownT_snoc {w : World} {base : Nat} {e : TypeId} {v : Value} {l : List Tk} {k a : Int} {s : ByteArray} (h : w.ownsRow base e 3 v (l.length + 1) (cellsT l ++ [.int .i64 k, .int .i64 a, .string s])) : w.ownsRow base e 3 v (l ++ [(k, a, s.data.toList)]).length (cellsT (l ++ [(k, a, s.data.toList)])) := by
  refine ownT_len (m := [(k, a, s.data.toList)]) ?_
  have e : cellsT [(k, a, s.data.toList)] = [.int .i64 k, .int .i64 a, .string s] := by unfold cellsT; simp [bs_list]
  rw [e]; exact h
theorem oneT_src (w : World) (k a : Int) (s : ByteArray) (t : TypeId) : SrcAt (w.alloc (.cells #[.int .i64 k, .int .i64 a, .string s] t)) (.slice (some ⟨w.heap.size, 0, none⟩) 1 1) 1 [.int .i64 k, .int .i64 a, .string s] := by
  refine .inr ⟨_, _, rfl, fun j u hu => ?_⟩
  match j, hu with
  | 0, hu => simp at hu; subst hu; simp [Addr.add]
  | 1, hu => simp at hu; subst hu; simp [Addr.add]
  | 2, hu => simp at hu; subst hu; simp [Addr.add]
theorem oneT_cell {k a : Int} {s : ByteArray} : ∀ u ∈ [Value.int .i64 k, .int .i64 a, .string s], u.oneCell' = true := by
  intro u hu; simp at hu; rcases hu with rfl | rfl | rfl <;> rfl
theorem cut_str (s : ByteArray) (a n : Nat) (h : a + n ≤ s.size) (wx : World) : (Instr.slice 9 (.string s) (some (.int .i64 (a : Int))) (some (.int .i64 ((a : Int) + (n : Int)))) none).run Tryd.prog wx = .ok (.string (s.extract a (a + n))) wx := by
  rw [run_slice_string _ _ _ _ _ _ _ Tryd.underlying9 (by omega) (by omega) (by omega)]
  rw [show ((a : Int) + (n : Int)).toNat = a + n by omega, Int.toNat_natCast]
theorem drop_at (s : ByteArray) (k : Nat) (h : k < s.size) : s.data.toList.drop k = (s[k]'h) :: s.data.toList.drop (k + 1) := by
  have h' : k < s.data.toList.length := by simpa using h
  rw [List.drop_eq_getElem_cons h']; rfl
/-- what lex.All tells -/
def AllOut (s : ByteArray) (ts : List Tk) (e : Option Nat) (w : World) (en : Ending) (w' : World) : Prop :=
  Kp w w' ∧ ((2000 < s.size ∧ en = .returned (.tuple #[.slice none 0 0, .int .i64 2000, .int .i64 7])) ∨
    (s.size ≤ 2000 ∧ ∃ q, e = some q ∧ en = .returned (.tuple #[.slice none 0 0, .int .i64 (q : Nat), .int .i64 1])) ∨
    (s.size ≤ 2000 ∧ e = none ∧ ∃ v, en = .returned (.tuple #[v, .int .i64 (s.size : Nat), .int .i64 0]) ∧ w'.ownsRow w.heap.size 56 3 v (ts ++ [(9, (s.size : Int), [])]).length (cellsT (ts ++ [(9, (s.size : Int), [])]))))
set_option maxHeartbeats 8000000 in
set_option maxRecDepth 100000 in
theorem lall_any (s : ByteArray) (ts : List Tk) (e : Option Nat) (w : World) (hs : s.size ≤ maxLen) (hx : Lx s.data.toList 0 ts e) :
    Calls Tryd.prog 16 #[.string s] w (AllOut s ts e w) := by
  obtain ⟨i0, hi, hz0, hz1, hz2⟩ := info_parts infoT
  have HL : s.data.toList.length = s.size := by simp
  have hs' : s.size ≤ 9223372036854775807 := by unfold maxLen at hs; omega
  by_cases h2000 : 2000 < s.size
  · have q : decide ((2000 : Int) < s.size) = true := decide_eq_true (by omega)
    clear hx
    go_enter Tryd.func16, Tryd.ntmps16
    go_wp2
    go_ret3
    exact ⟨Kp.refl _, .inl ⟨h2000, rfl⟩⟩
  · have q : decide ((2000 : Int) < s.size) = false := decide_eq_false (by omega)
    have hs2 : s.size ≤ 2000 := by omega
    have HX := Lib.hid hx
    have CS := Lib.hid signs_any
    clear hx hs h2000
    go_enter Tryd.func16, Tryd.ntmps16
    go_wp2_with fail
    refine (CS.out _).mono ?_
    rintro en w1 ⟨m, rfl, hm, hm2, kk⟩
    have K1 := Lib.hid kk
    have HM := Lib.hid hm
    clear kk hm CS
    go_wp2
    go_loopw [5, 7] (fun u5 u7 wr => ∃ (k : Nat) (acc rest : List Tk), k ≤ s.size ∧ u7 = .int .i64 k ∧ Hid (Lx (s.data.toList.drop k) k rest e) ∧ Hid (acc ++ rest = ts) ∧ acc.length ≤ k ∧
      Hid (wr.ownsRow w1.heap.size 56 3 u5 acc.length (cellsT acc)) ∧ Hid (Kp w1 wr)) (fun _ u7 _ => s.size - (intOf u7).toNat)
    case atStart => exact ⟨0, [], ts, Nat.zero_le _, rfl, HX, Lib.hid rfl, Nat.le_refl _, Lib.hid (World.ownsRow_nil _ _ _ _), Lib.hid (Kp.refl _)⟩
    case round =>
      clear HX
      obtain ⟨k, acc, rest, hk, rfl, HX, HA, hl, O, K2⟩ := hrel
      by_cases hlt : k < s.size
      · have z0 : (0 : Int) ≤ (k : Int) := by omega
        have z1 : (k : Int) < (s.size : Int) := by omega
        have hx := HX.out
        rw [drop_at s k hlt] at hx
        by_cases h32 : (s[k]'hlt) = 32
        · have eb : (s[k]'hlt).toNat = 32 := by rw [h32]; rfl
          rw [h32] at hx
          have HX2 := Lib.hid (lx_blank hx)
          clear HX hx h32
          go_wp2
          refine ⟨⟨k + 1, acc, rest, by omega, by go_num, HX2, HA, by omega, O, K2⟩, by simp only [intOf]; omega⟩
        · obtain ⟨b, eb⟩ : ∃ b : Nat, (s[k]'hlt).toNat = b := ⟨_, rfl⟩
          have hb0 : b ≠ 32 := fun h => h32 (UInt8.toNat_inj.1 (by rw [eb, h]; rfl))
          have hb : ((b : Int) == 32) = false := by simp; omega
          have E1 := Lib.hid (show (s.extract k s.size).data.toList = s.data.toList.drop k by rw [ex_list]; exact List.take_of_length_le (by simp))
          have EX := Lib.hid (fun n => show (s.extract k (k + n)).data.toList = (s.data.toList.drop k).take n by rw [ex_list]; congr 1; omega)
          have W1 := wl_le (s.data.toList.drop k)
          have S1 := sl_le (s.data.toList.drop k)
          rw [List.length_drop, HL] at W1 S1
          have C1 := Lib.hid (wlen_any (s.extract k s.size))
          have C2 := Lib.hid (fun (wx : World) (h : SM wx m 8 signsD) => slen_any (s.extract k s.size) m wx (by rw [ByteArray.size_extract]; unfold maxLen; omega) h)
          rw [E1.out] at C1 C2
          have TK := Lib.hid (show tok (s.data.toList.drop k) = if 0 < wl (s.data.toList.drop k) then some (0, wl (s.data.toList.drop k), (s.data.toList.drop k).take (wl (s.data.toList.drop k))) else if sl (s.data.toList.drop k) = 0 then none else some (sgn ((s.data.toList.drop k).take (sl (s.data.toList.drop k))), sl (s.data.toList.drop k), []) from rfl)
          have STEP := Lib.hid (fun kd n x (h : tok (s.data.toList.drop k) = some (kd, n, x)) => (show ∃ r, rest = (kd, (k : Int), x) :: r ∧ Lx (s.data.toList.drop (k + n)) (k + n) r e by
            have h2 := h
            rw [drop_at s k hlt] at h2
            obtain ⟨r, e1, e2⟩ := lx_step hx h32 h2
            refine ⟨r, e1, ?_⟩
            rw [← drop_at s k hlt, List.drop_drop] at e2
            exact e2))
          have BAD := Lib.hid (fun (h : tok (s.data.toList.drop k) = none) => (show e = some k by
            rw [drop_at s k hlt] at h
            exact (lx_bad hx h32 h).2))
          have hsz := K2.out.size
          have hsE : (s.extract k s.size).size ≤ 9223372036854775807 := by rw [ByteArray.size_extract]; omega
          have HMK := Lib.hid (HM.out.kp K2.out)
          have TKS := Lib.hid (fun n => Go.WideMaps.keyOf_string_mk Tryd.underlying9 (s := s.extract k (k + n)) (by rw [ByteArray.size_extract]; unfold maxLen; omega))
          generalize wl (s.data.toList.drop k) = n at *
          generalize sl (s.data.toList.drop k) = n2 at *
          generalize s.data.toList.drop k = L at *
          clear hx h32 HX
          by_cases hn : n = 0
          · subst hn
            by_cases hn2 : n2 = 0
            · subst hn2
              have B := Lib.hid (BAD.out (by rw [TK.out, if_neg (by omega), if_pos rfl]))
              go_wp2_with fail
              refine (C1.out _ hsE).mono ?_
              rintro en w' ⟨rfl, rfl⟩
              go_wp2_with fail
              refine (C2.out _ HMK.out).mono ?_
              rintro en w' ⟨rfl, rfl⟩
              go_wp2
              go_ret3
              exact ⟨K1.out.trans K2.out, .inr (.inl ⟨hs2, k, B.out, rfl⟩)⟩
            · obtain ⟨r, er, B⟩ := STEP.out _ _ _ (by rw [TK.out, if_neg (by omega), if_neg hn2])
              subst er
              have B2 := Lib.hid B
              have q2 : ((n2 : Int) == 0) = false := by simp; omega
              have n0 : (0 : Int) ≤ n2 := by omega
              have n1 : (k : Int) + n2 ≤ s.size := by omega
              have hcut := cut_str s k n2 (by omega)
              clear B TK STEP BAD
              go_wp2_with fail
              refine (C1.out _ hsE).mono ?_
              rintro en w' ⟨rfl, rfl⟩
              go_wp2_with fail
              refine (C2.out _ HMK.out).mono ?_
              rintro en w' ⟨rfl, rfl⟩
              have ek := EX.out n2
              go_wp2_with (first
                | (at_lookup; refine wpList_lookup_own_int _ rfl _ _ 60 rfl 9 3 .i64 keyS Tryd.underlying60 Tryd.underlying3 (Tryd.zeroValue3 _) m 8 signsD rfl HMK.out _ _ rfl (TKS.out n2) ?_; intro c hat hwc; rw [signsD_at, EX.out n2] at hat; have hc := Lib.hid (show c = sgn (L.take n2) by simpa using hat.symm); clear hat hwc)
                | (at_builtin; refine wpList_app rfl (.tmp 51) (.tmp 62) 36 rfl w1.heap.size 56 i0 (.agg #[.int .i64 0, .int .i64 0, .string { data := #[] }]) 3 32 Tryd.underlying36 hi hz0 hz1 hz2 rfl (by decide) _ _ _ rfl (O.out.alloc _) _ _ _ rfl (oneT_src _ _ _ _ _) rfl oneT_cell (by unfold maxLen; omega) (by omega) (by simp; omega) ?_; intro v4 w4 hown4 hgrow4 hat4))
              refine ⟨⟨k + n2, acc ++ [(c, (k : Int), [])], r, by omega, by go_num, B2, Lib.hid (by rw [List.append_assoc, hc.out]; exact HA.out), by simp; omega, Lib.hid (by have h := ownT_snoc hown4; exact h), Lib.hid (Kp.grown (K2.out.trans (Kp.alloc _ _)) hgrow4 (fun j hj => (O.out.lt j hj).1))⟩, by simp only [intOf]; omega⟩
          · obtain ⟨r, er, B⟩ := STEP.out _ _ _ (by rw [TK.out, if_pos (by omega)])
            subst er
            have B2 := Lib.hid B
            have q2 : decide ((0 : Int) < n) = true := by simp; omega
            have n0 : (0 : Int) ≤ n := by omega
            have n1 : (k : Int) + n ≤ s.size := by omega
            have hcut := cut_str s k n (by omega)
            clear B TK STEP BAD
            go_wp2_with fail
            refine (C1.out _ hsE).mono ?_
            rintro en w' ⟨rfl, rfl⟩
            go_wp2_with (at_builtin; refine wpList_app rfl (.tmp 29) (.tmp 38) 36 rfl w1.heap.size 56 i0 (.agg #[.int .i64 0, .int .i64 0, .string { data := #[] }]) 3 32 Tryd.underlying36 hi hz0 hz1 hz2 rfl (by decide) _ _ _ rfl (O.out.alloc _) _ _ _ rfl (oneT_src _ _ _ _ _) rfl oneT_cell (by unfold maxLen; omega) (by omega) (by simp; omega) ?_; intro v4 w4 hown4 hgrow4 hat4)
            refine ⟨⟨k + n, acc ++ [(0, (k : Int), L.take n)], r, by omega, by go_num, B2, Lib.hid (by rw [List.append_assoc]; exact HA.out), by simp; omega, Lib.hid (by have h := ownT_snoc hown4; rw [EX.out n] at h; exact h), Lib.hid (Kp.grown (K2.out.trans (Kp.alloc _ _)) hgrow4 (fun j hj => (O.out.lt j hj).1))⟩, by simp only [intOf]; omega⟩
      · obtain rfl : k = s.size := by omega
        have qk : decide ((s.size : Int) < s.size) = false := by simp
        have hx := HX.out
        rw [List.drop_of_length_le (by omega)] at hx
        obtain ⟨rfl, he⟩ := lx_nil hx
        rw [List.append_nil] at HA
        have HE := Lib.hid he
        have hsz := K2.out.size
        clear hx HX he
        go_wp2_with (at_builtin; refine wpList_app rfl (.tmp 67) (.tmp 71) 36 rfl w1.heap.size 56 i0 (.agg #[.int .i64 0, .int .i64 0, .string { data := #[] }]) 3 32 Tryd.underlying36 hi hz0 hz1 hz2 rfl (by decide) _ _ _ rfl (O.out.alloc _) _ _ _ rfl (oneT_src _ _ _ _ _) rfl oneT_cell (by unfold maxLen; omega) (by omega) (by simp; omega) ?_; intro v4 w4 hown4 hgrow4 hat4)
        go_ret3
        refine ⟨K1.out.trans (Kp.grown (K2.out.trans (Kp.alloc _ _)) hgrow4 (fun j hj => (O.out.lt j hj).1)), .inr (.inr ⟨hs2, HE.out, _, rfl, ?_⟩)⟩
        have h := ownT_snoc hown4
        rw [HA.out] at h
        exact own_mono h K1.out.size
end Go.Proofs.YtndmohamjffpcaaDoor

namespace Go.Proofs.YtndmohamjffpcaaDoor
open Go.RowKit Go.Shelf
set_option linter.unusedVariables false
set_option linter.unusedSimpArgs false
theorem isW_n (c : UInt8) : isW c = ((decide (48 ≤ (c.toNat : Int)) && decide ((c.toNat : Int) ≤ 57)) || ((c.toNat : Int) == 88) || ((c.toNat : Int) == 45) || ((c.toNat : Int) == 115) || ((c.toNat : Int) == 100) || ((c.toNat : Int) == 99)) := by
  have h : ∀ n : Fin 256, isW ⟨⟨n⟩⟩ = ((decide (48 ≤ ((⟨⟨n⟩⟩ : UInt8).toNat : Int)) && decide (((⟨⟨n⟩⟩ : UInt8).toNat : Int) ≤ 57)) || (((⟨⟨n⟩⟩ : UInt8).toNat : Int) == 88) || (((⟨⟨n⟩⟩ : UInt8).toNat : Int) == 45) || (((⟨⟨n⟩⟩ : UInt8).toNat : Int) == 115) || (((⟨⟨n⟩⟩ : UInt8).toNat : Int) == 100) || (((⟨⟨n⟩⟩ : UInt8).toNat : Int) == 99)) := by decide +kernel
  exact h c.toBitVec.toFin
def sg1 (c : UInt8) : Int := if sgn [c] = 0 then -1 else sgn [c]
theorem sg1_n (c : UInt8) : sg1 c = if (c.toNat : Int) = 47 then 1 else if (c.toNat : Int) = 42 then 3 else if (c.toNat : Int) = 91 then 4 else if (c.toNat : Int) = 93 then 5 else if (c.toNat : Int) = 44 then 6 else if (c.toNat : Int) = 63 then 7 else if (c.toNat : Int) = 126 then 8 else -1 := by
  have h : ∀ n : Fin 256, sg1 ⟨⟨n⟩⟩ = if ((⟨⟨n⟩⟩ : UInt8).toNat : Int) = 47 then 1 else if ((⟨⟨n⟩⟩ : UInt8).toNat : Int) = 42 then 3 else if ((⟨⟨n⟩⟩ : UInt8).toNat : Int) = 91 then 4 else if ((⟨⟨n⟩⟩ : UInt8).toNat : Int) = 93 then 5 else if ((⟨⟨n⟩⟩ : UInt8).toNat : Int) = 44 then 6 else if ((⟨⟨n⟩⟩ : UInt8).toNat : Int) = 63 then 7 else if ((⟨⟨n⟩⟩ : UInt8).toNat : Int) = 126 then 8 else -1 := by decide +kernel
  exact h c.toBitVec.toFin
end Go.Proofs.YtndmohamjffpcaaDoor

namespace Go.Proofs.YtndmohamjffpcaaDoor
open Go.RowKit Go.Shelf
set_option linter.unusedVariables false
set_option linter.unusedSimpArgs false
/-- what one tells at a place -/
def OneOut (l : List UInt8) (k : Nat) (w : World) (en : Ending) (w' : World) : Prop :=
  Kp w w' ∧ match tok l with
    | none => en = .returned (.tuple #[.agg #[.int .i64 0, .int .i64 0, .string { data := #[] }], .int .i64 0])
    | some (kd, n, x) => en = .returned (.tuple #[.agg #[.int .i64 kd, .int .i64 (k : Int), .string (bs x)], .int .i64 (n : Nat)])
theorem tok_sign1 {c : UInt8} {t : List UInt8} (h : isW c = false) (h46 : c ≠ 46) : tok (c :: t) = if sgn [c] = 0 then none else some (sgn [c], 1, []) := by
  split
  · rename_i h2; exact tok_odd t h h2 h46
  · rename_i h2
    have e : wl (c :: t) = 0 := by simp [wl, List.takeWhile, h]
    have e2 : sl (c :: t) = 1 := by unfold sl; rw [if_pos ⟨by simp, by simpa using h2⟩]
    unfold tok
    rw [e, e2, if_neg (by omega), if_neg (by omega)]
    simp
theorem tok_dots (d : UInt8) (t : List UInt8) : tok (46 :: d :: t) = if d = 46 then some (2, 2, []) else none := by
  have e : wl (46 :: d :: t) = 0 := by simp [wl, List.takeWhile, show isW 46 = false by decide]
  unfold tok
  rw [e, if_neg (by omega)]
  by_cases h : d = 46
  · subst h
    have e2 : sl (46 :: 46 :: t) = 2 := by unfold sl; simp [show sgn [46] = 0 by decide, show sgn [46, 46] = 2 by decide]
    rw [e2, if_neg (by omega), if_pos rfl]; rfl
  · have e2 : sl (46 :: d :: t) = 0 := by
      unfold sl
      have : sgn [46, d] = 0 := by
        by_cases g : sgn [46, d] = 0
        · exact g
        · exact absurd (sgn_two 46 d g).2 h
      simp [show sgn [46] = 0 by decide, this]
    rw [e2, if_pos rfl, if_neg h]
theorem ix_str (s : ByteArray) (k n : Nat) (h : k + n < s.size) (wx : World) : (Instr.index 9 (.string s) (.int .i64 ((k : Int) + (n : Int)))).run Tryd.prog wx = .ok (.int .u8 ((s[k + n]'h).toNat : Int)) wx := by
  rw [run_index_string _ _ _ _ _ Tryd.underlying9]
  have e : ((k : Int) + (n : Int)).toNat = k + n := by omega
  rw [dif_pos ⟨by omega, by omega⟩]
  simp only [e]
end Go.Proofs.YtndmohamjffpcaaDoor

namespace Go.Proofs.YtndmohamjffpcaaDoor
open Go.RowKit Go.Shelf
set_option linter.unusedVariables false
set_option linter.unusedSimpArgs false
theorem oneT_src2 (w : World) (o : Obj) (k a : Int) (s : ByteArray) (t : TypeId) : SrcAt ((w.alloc o).alloc (.cells #[.int .i64 k, .int .i64 a, .string s] t)) (.slice (some ⟨w.heap.size + 1, 0, none⟩) 1 1) 1 [.int .i64 k, .int .i64 a, .string s] := by
  have h := oneT_src (w.alloc o) k a s t
  simpa using h
/-- what the document's All tells -/
def RAllOut (s : ByteArray) (ts : List Tk) (e : Option Nat) (w : World) (en : Ending) (w' : World) : Prop :=
  Kp w w' ∧ ((2000 < s.size ∧ en = .returned (.tuple #[.slice none 0 0, .int .i64 2000, .int .i64 7])) ∨
    (s.size ≤ 2000 ∧ ∃ q, e = some q ∧ en = .returned (.tuple #[.slice none 0 0, .int .i64 (q : Nat), .int .i64 1])) ∨
    (s.size ≤ 2000 ∧ e = none ∧ ∃ v, en = .returned (.tuple #[v, .int .i64 (s.size : Nat), .int .i64 0]) ∧ ToksAt w' v (ts ++ [(9, (s.size : Int), [])])))
def fewB (l : List Tk) : Bool := l.all (fun t => decide (t.2.2.length ≤ 40)) && decide (l.length ≤ 60)
theorem few_no {l : List Tk} {k : Nat} (h : k < l.length) (g : 40 < (tk l k).2.2.length) : fewB l = false := by
  unfold fewB
  have : l.all (fun t => decide (t.2.2.length ≤ 40)) = false := by
    rw [List.all_eq_false]
    exact ⟨tk l k, tk_mem h, by simp; omega⟩
  rw [this]; rfl
theorem few_yes {l : List Tk} (h : ∀ i, i < l.length → (tk l i).2.2.length ≤ 40) : fewB l = decide (l.length ≤ 60) := by
  unfold fewB
  have : l.all (fun t => decide (t.2.2.length ≤ 40)) = true := by
    rw [List.all_eq_true]
    intro t ht
    obtain ⟨i, hi, e⟩ := List.getElem_of_mem ht
    have := h i hi
    rw [show tk l i = t by unfold tk; simp [List.getD, hi, e]] at this
    simpa using this
  rw [this]; rfl
end Go.Proofs.YtndmohamjffpcaaDoor

namespace Go.Proofs.YtndmohamjffpcaaDoor
open Go.RowKit Go.Shelf
set_option linter.unusedVariables false
set_option linter.unusedSimpArgs false
theorem bs_append (a b : List UInt8) : bs (a ++ b) = bs a ++ bs b := by
  unfold bs; apply ByteArray.ext; simp [ByteArray.data_append]
theorem shw_no {k : Int} (h : k < 0 ∨ 8 < k) : shw k = [] := by
  unfold shw
  repeat' split
  all_goals first | omega | rfl
/-- the part of a token, behind a word or not -/
def pc (p : Bool) (t : Tk) : List UInt8 := if t.1 = 0 then (if p then [32] else []) ++ t.2.2 else shw t.1
theorem sh_cons (b : Bool) (t : Tk) (r : List Tk) : sh b (t :: r) = pc b t ++ sh (t.1 == 0) r := rfl
def lw (b : Bool) (l : List Tk) : Bool := match l.getLast? with | none => b | some u => u.1 == 0
theorem sh_snoc : ∀ (l : List Tk) (b : Bool) (t : Tk), sh b (l ++ [t]) = sh b l ++ pc (lw b l) t := by
  intro l
  induction l with
  | nil => intro b t; show pc b t ++ [] = [] ++ pc b t; simp
  | cons u r ih =>
    intro b t
    have e : lw b (u :: r) = lw (u.1 == 0) r := by
      unfold lw
      cases r with
      | nil => rfl
      | cons v r' =>
        rw [List.getLast?_cons_cons]
        cases h : (v :: r').getLast? with
        | none => simp at h
        | some u => rfl
    rw [List.cons_append, sh_cons, sh_cons, ih, e, List.append_assoc]
theorem lw_take (l : List Tk) (k : Nat) (h : k < l.length) : lw false (l.take k) = (decide (0 < k) && ((tk l (k - 1)).1 == 0)) := by
  cases k with
  | zero => rfl
  | succ k =>
    have e : (l.take (k + 1)).getLast? = some (tk l k) := by
      rw [tk_take l k (by omega)]; simp
    unfold lw
    rw [e]
    simp
theorem sh_take (l : List Tk) (k : Nat) (h : k < l.length) : sh false (l.take (k + 1)) = sh false (l.take k) ++ pc (decide (0 < k) && ((tk l (k - 1)).1 == 0)) (tk l k) := by
  rw [tk_take l k h, sh_snoc, lw_take l k h]
theorem shw_len (k : Int) : (shw k).length ≤ 2 := by
  unfold shw
  repeat' split
  all_goals simp
theorem pc_len (p : Bool) (t : Tk) (n : Nat) (h : t.2.2.length ≤ n) : (pc p t).length ≤ n + 2 := by
  have := shw_len t.1
  unfold pc
  split
  · rw [List.length_append]; split <;> simp <;> omega
  · omega
theorem sh_bd : ∀ (l : List Tk) (b : Bool) (n : Nat), (∀ t ∈ l, t.2.2.length ≤ n) → (sh b l).length ≤ l.length * (n + 2) := by
  intro l
  induction l with
  | nil => intro b n _; simp [sh]
  | cons t r ih =>
    intro b n h
    have h1 := ih (t.1 == 0) n (fun u hu => h u (by simp [hu]))
    have h2 := pc_len b t n (h t (by simp))
    rw [sh_cons, List.length_append, List.length_cons, Nat.succ_mul]
    omega
end Go.Proofs.YtndmohamjffpcaaDoor

namespace Go.Proofs.YtndmohamjffpcaaDoor
open Go.RowKit Go.Shelf
set_option linter.unusedVariables false
set_option linter.unusedSimpArgs false
theorem bldSize : (Tryd.prog.info? 47).map (·.size) = some 2 := by kernel_rfl
theorem bldLies : liesAt Tryd.prog Tryd.prog.depth 47 (2 / Tryd.prog.cellsOf 47) 0 47 1 = true := by kernel_rfl
theorem infoByte : (Tryd.prog.info? 5).map (fun i => (i.zero, i.size, i.bytes)) = some (some (.int .u8 0), 1, 1) := by kernel_rfl
abbrev Bld (B b : Nat) (l : List Value) (w : World) : Prop := Lib.IsBuilderF 47 5 B b l w
abbrev BldAt (B b : Nat) (l : List Value) (w : World) : Prop := Lib.BuilderAtF 47 5 B b (.pointer (some ⟨b, 0, none⟩)) l w
abbrev Oth (b : Nat) (w w' : World) : Prop := Lib.OthersKept 5 (some b) w w'
set_option maxHeartbeats 1000000 in
set_option maxRecDepth 100000 in
theorem bcheck_any (B b : Nat) (l : List Value) (w : World) (h : Bld B b l w) :
    Calls Tryd.prog 45 #[.pointer (some ⟨b, 0, none⟩)] w fun e w' => e = .returned (.tuple #[]) ∧ BldAt B b l w' ∧ Below B w w' ∧ Oth b w w' := by
  obtain ⟨j, hj, hjs⟩ := Option.map_eq_some_iff.1 bldSize
  rcases h with h | h
  · have h0 := h.cell0
    have hsh := h.shape
    have hfz := h.frozen0
    go_enter Tryd.func45, Tryd.ntmps45
    go_wp2
    rw [Lib.run_to_unsafe w ⟨b, 0, none⟩ Tryd.underlying44 Tryd.underlying100 hj (by rw [hjs]; decide) hsh (Nat.zero_lt_succ 1)]
    simp only [Result.andThen]
    rw [Oper.upon_value]
    go_wp2
    rw [run_callFunc_extern Tryd.func54 (by kernel_rfl) (by kernel_rfl) (by kernel_rfl) (e := Extern.AbiNoEscape.same) (by kernel_rfl)]
    rw [Lib.run_noEscape]
    simp only [Result.andThen]
    rw [Oper.upon_value]
    go_wp2
    rw [Lib.run_from_unsafe w ⟨b, 0, none⟩ Tryd.underlying100 Tryd.underlying44 hj hsh bldLies]
    simp only [Result.andThen]
    rw [Oper.upon_value]
    go_wp2
    try rw [Lib.run_neq_ptr_same _ _ Tryd.underlying44 hj]
    try go_wp2
    go_end0
    exact ⟨rfl, h.used _, (Below.refl B w).setCell (p := ⟨b, 0, none⟩) h.1 _, (Lib.OthersKept.refl _ _ w).setCell ⟨b, 0, none⟩ rfl _⟩
  · have h0 := h.cell0
    go_enter Tryd.func45, Tryd.ntmps45
    go_wp2
    try rw [Lib.run_neq_ptr_same _ _ Tryd.underlying44 hj]
    try go_wp2
    go_end0
    exact ⟨rfl, h, Below.refl B _, Lib.OthersKept.refl _ _ _⟩
theorem blt {b : Nat} {w : World} {o : Obj} (h : w.heap[b]? = some o) : b < w.heap.size := by
  rcases Nat.lt_or_ge b w.heap.size with h' | h'
  · exact h'
  · simp [Array.getElem?_eq_none h'] at h
set_option maxHeartbeats 2000000 in
set_option maxRecDepth 100000 in
theorem bstr_any (B b : Nat) (l : List Value) (s : ByteArray) (w : World) (h : Bld B b l w) (hlen : l.length + s.size ≤ 140737488355328) (hBw : B ≤ w.heap.size) :
    Calls Tryd.prog 34 #[.pointer (some ⟨b, 0, none⟩), .string s] w fun e w' => e = .returned (.tuple #[.int .i64 s.size, .nilIface]) ∧ BldAt B b (l ++ Lib.strCells s) w' ∧ Below B w w' ∧ Oth b w w' := by
  obtain ⟨i0, hi, hz0, hz1, hz2⟩ := info_parts infoByte
  have C := Lib.hid (bcheck_any B b l w h)
  clear h
  go_enter Tryd.func34, Tryd.ntmps34
  go_wp2_with fail
  refine (C.out).mono ?_
  rintro e w1 ⟨rfl, h1, hb1, hk1⟩
  obtain ⟨hB, v, hbk, hown, hne⟩ := h1
  have hlt := blt hbk
  have c0 : w1.cell? ⟨b, 0, none⟩ = some (.pointer (some ⟨b, 0, none⟩)) := by rw [Lib.cell_of_heap hbk]; rfl
  have c1 : w1.cell? ⟨b, 1, none⟩ = some v := by rw [Lib.cell_of_heap hbk]; rfl
  have hsz := hb1.size
  go_wp2_with (at_builtin; refine Lib.wpList_append_own_stringF _ rfl _ _ 45 9 rfl B 5 i0 Tryd.underlying45 Tryd.underlying9 hi hz0 hz1 hz2 _ _ _ rfl hown s rfl ?c3 ?c4 ?c5 ?_)
  case c3 => unfold maxLen; omega
  case c4 => omega
  case c5 => omega
  intro v' w2 hown' hgrow _
  have hb2 : w2.heap[b]? = some (.cells #[.pointer (some ⟨b, 0, none⟩), v] 47 (0, 0)) := (hgrow.block b hlt (fun e => hne e.symm)).trans hbk
  have d0 : w2.cell? ⟨b, 0, none⟩ = some (.pointer (some ⟨b, 0, none⟩)) := by rw [Lib.cell_of_heap hb2]; rfl
  have d1 : w2.cell? ⟨b, 1, none⟩ = some v := by rw [Lib.cell_of_heap hb2]; rfl
  have f1 : w2.frozen? ⟨b, 1, none⟩ = false := Lib.frozen_of_heap hb2 1
  obtain ⟨ao, n', cap, rfl⟩ : ∃ ao n' cap, v' = .slice ao n' cap := by
    rcases hown'.2 with ⟨hv, _⟩ | ⟨g, cap, cur, fz, hv, _⟩
    · exact ⟨_, _, _, hv⟩
    · exact ⟨_, _, _, hv⟩
  go_wp2
  go_ret2
  refine ⟨rfl, ?_, ?_, (hk1.grown hgrow (Lib.ownsRowF_kind hown)).setCell ⟨b, 1, none⟩ rfl _⟩
  · exact Lib.BuilderAtF.put (T := 47) (e := 5) hB hb2 (bs' := l ++ Lib.strCells s) (by simpa [Lib.strCells_length] using hown') (by decide)
  · exact (hb1.grown hgrow (by omega) (fun k hk => (hown.lt k hk).1)).setCell (p := ⟨b, 1, none⟩) hB _
set_option maxHeartbeats 2000000 in
set_option maxRecDepth 100000 in
theorem bbyte_any (B b : Nat) (l : List Value) (c : Int) (w : World) (h : Bld B b l w) (hlen : l.length + 1 ≤ 140737488355328) (hBw : B ≤ w.heap.size) :
    Calls Tryd.prog 35 #[.pointer (some ⟨b, 0, none⟩), .int .u8 c] w fun e w' => e = .returned .nilIface ∧ BldAt B b (l ++ [.int .u8 c]) w' ∧ Below B w w' ∧ Oth b w w' := by
  obtain ⟨i0, hi, hz0, hz1, hz2⟩ := info_parts infoByte
  have C := Lib.hid (bcheck_any B b l w h)
  clear h
  go_enter Tryd.func35, Tryd.ntmps35
  go_wp2_with fail
  refine (C.out).mono ?_
  rintro e w1 ⟨rfl, h1, hb1, hk1⟩
  obtain ⟨hB, v, hbk, hown, hne⟩ := h1
  have hlt := blt hbk
  have c0 : w1.cell? ⟨b, 0, none⟩ = some (.pointer (some ⟨b, 0, none⟩)) := by rw [Lib.cell_of_heap hbk]; rfl
  have c1 : w1.cell? ⟨b, 1, none⟩ = some v := by rw [Lib.cell_of_heap hbk]; rfl
  have hsz := hb1.size
  go_wp2_with (at_builtin; refine wpList_append_ownF _ rfl _ _ 45 rfl B 5 i0 (.int .u8 0) 1 1 Tryd.underlying45 hi hz0 hz1 hz2 rfl (by decide) _ _ _ rfl (hown.alloc _) ⟨w1.heap.size, 0, none⟩ 1 1 [.int .u8 c] rfl rfl ?c1 ?c2 ?c3 ?c4 ?c5 ?_)
  case c1 =>
    intro j u hj
    match j, hj with
    | 0, hj => simp at hj; subst hj; simp [Addr.add]
  case c2 => intro u hu; simp at hu; subst hu; rfl
  case c3 => unfold maxLen; omega
  case c4 => omega
  case c5 => simp; omega
  intro v' w2 hown' hgrow _
  have hb2 : w2.heap[b]? = some (.cells #[.pointer (some ⟨b, 0, none⟩), v] 47 (0, 0)) := by
    rw [hgrow.block b (by simp; omega) (fun e => hne e.symm), Lib.alloc_old w1 _ b hlt]
    exact hbk
  have d0 : w2.cell? ⟨b, 0, none⟩ = some (.pointer (some ⟨b, 0, none⟩)) := by rw [Lib.cell_of_heap hb2]; rfl
  have d1 : w2.cell? ⟨b, 1, none⟩ = some v := by rw [Lib.cell_of_heap hb2]; rfl
  have f1 : w2.frozen? ⟨b, 1, none⟩ = false := Lib.frozen_of_heap hb2 1
  obtain ⟨g, cap, rfl⟩ : ∃ g cap, v' = .slice (some ⟨g, 0, none⟩) (l.length + 1) cap := by
    rcases hown'.2 with ⟨_, h0⟩ | ⟨g, cap, cur, fz, hv, _⟩
    · omega
    · exact ⟨g, cap, hv⟩
  go_wp2
  go_ret
  refine ⟨rfl, ?_, ?_, ((hk1.alloc _).grown hgrow (Lib.ownsRowF_kind (hown.alloc _))).setCell ⟨b, 1, none⟩ rfl _⟩
  · exact Lib.BuilderAtF.put (T := 47) (e := 5) hB hb2 (bs' := l ++ [.int .u8 c]) (by simpa using hown') (by decide)
  · exact ((hb1.alloc (by omega) _).grown hgrow (by simp; omega) (fun k hk => (hown.lt k hk).1)).setCell (p := ⟨b, 1, none⟩) hB _
def bldRen : Go.Shelf.Ren := ⟨fun | 169 => 25 | n => n, fun | 70 => 44 | 9 => 9 | 0 => 0 | 72 => 47 | 37 => 45 | 127 => 74 | 3 => 3 | 5 => 5 | n => n, fun | n => n⟩
theorem bldLays : Lays.n169 Tryd.prog bldRen := {
  mixed := by kernel_rfl
  f169 := Tryd.func25.trans (congrArg some (by kernel_rfl))
  t0 := Tryd.underlying0
  a0 := Tryd.isAgg0
  z0 := Tryd.sizeOf0
  v0 := Tryd.zeroValue0
  t3 := Tryd.underlying3
  a3 := Tryd.isAgg3
  z3 := Tryd.sizeOf3
  v3 := Tryd.zeroValue3
  t9 := Tryd.underlying9
  a9 := Tryd.isAgg9
  z9 := Tryd.sizeOf9
  v9 := Tryd.zeroValue9
  t37 := Tryd.underlying45
  a37 := Tryd.isAgg45
  z37 := Tryd.sizeOf45
  v37 := Tryd.zeroValue45
  t70 := Tryd.underlying44
  a70 := Tryd.isAgg44
  z70 := Tryd.sizeOf44
  v70 := Tryd.zeroValue44
  t72 := Tryd.underlying47
  a72 := Tryd.isAgg47
  z72 := Tryd.sizeOf47
  v72 := Tryd.zeroValue47
  t127 := Tryd.underlying74
  a127 := Tryd.isAgg74
  z127 := Tryd.sizeOf74
  v127 := Tryd.zeroValue74 }
theorem bldExtra : Builder.Extra Tryd.prog bldRen := {
  sizeBuilder := by kernel_rfl
  liesBuilder := by kernel_rfl
  t5 := Tryd.underlying5
  a5 := Tryd.isAgg5
  z5 := Tryd.sizeOf5
  v5 := Tryd.zeroValue5
  infoByte := by kernel_rfl
  cellsByte := by kernel_rfl
  sizeByte := by kernel_rfl
  neB5 := by decide }
theorem bstring_any (B b : Nat) (l : List UInt8) (w : World) (h : Bld B b (Lib.byteCells l) w) (hBw : B ≤ w.heap.size) :
    Calls Tryd.prog 25 #[.pointer (some ⟨b, 0, none⟩)] w fun e w' => e = .returned (.string ⟨l.toArray⟩) ∧ Below B w w' := by
  refine (Any.Builder_String_any_k bldLays bldExtra B b l w h hBw).mono ?_
  rintro e w' ⟨rfl, _, h2, _⟩
  exact ⟨rfl, h2⟩
end Go.Proofs.YtndmohamjffpcaaDoor

namespace Go.Proofs.YtndmohamjffpcaaDoor
open Go.RowKit Go.Shelf
open Go.Maps (Keyed)
set_option linter.unusedVariables false
set_option linter.unusedSimpArgs false
theorem shw_of {b : List UInt8} (hb : sgn b ≠ 0) : shw (sgn b) = b := by
  unfold sgn at hb ⊢
  repeat' split at hb
  all_goals first | (subst_vars; simp [shw, *]; done) | exact absurd rfl hb
theorem sgn_shw {k : Int} (h : sgn (shw k) ≠ 0) : sgn (shw k) = k := by
  by_cases h1 : k < 1 ∨ 8 < k
  · have : shw k = [] := by unfold shw; repeat' split
                            all_goals first | omega | rfl
    rw [this] at h; exact absurd (by decide) h
  · exact (shw_sgn (by omega) (by omega)).1
/-- how a written sign reads -/
def wz : DataW Unit := .lit (.string [])
/-- the map of what is written, when the signs that are left have not come -/
structure WrM (left : Lit → Bool) (D : DataW Unit) : Prop where
  m : Go.Maps.IsMap D
  l : ∀ b, left (.string b) = true → sgn b ≠ 0
  a : ∀ k : Int, D.atKey (.int .i64 k) wz = .lit (.string (if left (.string (shw k)) = true then [] else shw k))
theorem WrM.start : WrM (Go.Maps.has signsD) (.map []) := by
  refine ⟨Go.Maps.isMap_empty, fun b h => ?_, fun k => ?_⟩
  · rw [signsD_has] at h; simpa using h
  · rw [signsD_has]
    have e : (.map [] : DataW Unit).atKey (.int .i64 k) wz = .lit (.string []) := rfl
    rw [e]
    split
    · rfl
    · rename_i h
      have h2 : sgn (shw k) = 0 := by simpa using h
      by_cases h1 : k < 1 ∨ 8 < k
      · have : shw k = [] := by unfold shw; repeat' split
                                all_goals first | omega | rfl
        rw [this]
      · have := (shw_sgn (k := k) (by omega) (by omega)).1
        omega
theorem WrM.step {left : Lit → Bool} {D : DataW Unit} (h : WrM left D) {b : List UInt8} (hb : left (.string b) = true) :
    WrM (fun z => left z && !z.sameKey (.string b)) (D.put (.int .i64 (sgn b)) (.lit (.string b))) := by
  have hs := h.l b hb
  refine ⟨Go.Maps.IsMap.put h.m _ _, fun c hc => h.l c (by simp only [Bool.and_eq_true] at hc; exact hc.1), fun k => ?_⟩
  have same : ∀ c : List UInt8, ((Lit.string c).sameKey (.string b)) = decide (c = b) := by
    intro c
    by_cases e : c = b
    · subst e; simp [Lit.sameKey]
    · rw [Go.Maps.sameKey_ne (by intro g; cases g; exact e rfl)]; simp [e]
  simp only [same]
  by_cases e : k = sgn b
  · subst e
    rw [Go.Maps.atKey_put_same h.m (show WideAt.IsKeyLit (.int .i64 (sgn b)) from trivial), shw_of hs]
    simp
  · rw [Go.Maps.atKey_put_other (by intro g; cases g; exact e rfl), h.a]
    by_cases e2 : shw k = b
    · have := sgn_shw (k := k) (by rw [e2]; exact hs)
      rw [e2] at this
      exact absurd this.symm e
    · simp [e2]
theorem WrM.done {left : Lit → Bool} {D : DataW Unit} (h : WrM left D) (hl : ∀ kl, left kl = false) (k : Int) : D.atKey (.int .i64 k) wz = .lit (.string (shw k)) := by
  rw [h.a, hl]; simp
abbrev WM (w : World) (m n : Nat) (D : DataW Unit) : Prop := w.ownsMap Tryd.prog 3 (plainElem Tryd.prog 9) m n D
theorem WM.kp {w w' : World} {m n : Nat} {D : DataW Unit} (h : WM w m n D) (k : Kp w w') : WM w' m n D := by
  have hm := World.ownsMap.lt h
  obtain ⟨es, c, h1, h2⟩ := h
  exact ⟨es, c, (k.block m hm).trans h1, h2⟩
theorem WM.below {w w' : World} {b m n : Nat} {D : DataW Unit} (h : WM w m n D) (k : Below b w w') (hb : m < b) : WM w' m n D := by
  obtain ⟨es, c, h1, h2⟩ := h
  exact ⟨es, c, (k.block m hb).trans h1, h2⟩
theorem bld_new (w : World) : Bld w.heap.size w.heap.size (Lib.byteCells []) (w.alloc (.cells #[.pointer none, .slice none 0 0] 47)) :=
  .inl ⟨Nat.le_refl _, _, heap_alloc_new w _, World.ownsRowF_of (World.ownsRow_nil _ _ _ _), by simp [Value.ownBlock]⟩
theorem bc_append (a b : List UInt8) : Lib.byteCells (a ++ b) = Lib.byteCells a ++ Lib.byteCells b := by unfold Lib.byteCells; simp
theorem bc_str (l : List UInt8) : Lib.strCells (bs l) = Lib.byteCells l := by
  unfold Lib.strCells Lib.byteCells bs; simp
theorem Bld.alloc {B b : Nat} {l : List Value} {w : World} (h : Bld B b l w) (o : Obj) : Bld B b l (w.alloc o) := by
  rcases h with h | h
  · exact .inl (h.alloc o)
  · exact .inr (h.alloc o)
theorem Bld.lt {B b : Nat} {l : List Value} {w : World} (h : Bld B b l w) : b < w.heap.size := by
  rcases h with h | h
  · exact h.lt
  · exact h.lt
theorem wm_look {w : World} {m n : Nat} {D : DataW Unit} (h : WM w m n D) (hd : ∀ k : Int, D.atKey (.int .i64 k) wz = .lit (.string (shw k))) (k : Int) (hk : (Lit.int .i64 k).wf = true) :
    (Instr.lookup 64 (.map (some m)) (.int .i64 k) false).run Tryd.prog w = .ok (.string (bs (shw k))) w := by
  obtain ⟨v, ps, h1, h2⟩ := World.ownsMap.lookup h keyI Tryd.underlying64 (Tryd.zeroValue9 w) (zd := wz) (zp := []) (plainElem_string (H := Unit) Tryd.underlying9 (s := { data := #[] }) (by unfold maxLen; decide)) (Go.Maps.keyOf_int_mk Tryd.underlying3 hk)
  rw [h1]
  obtain ⟨s, rfl, e, _⟩ := plainElem_string_inv Tryd.underlying9 h2
  rw [hd] at e
  have e2 : s.data.toList = shw k := by
    have := (Prod.mk.inj e).1
    simpa using this.symm
  rw [← e2, bs_list]
/-- the parts of a token's text, as cells -/
def toWr (p : Bool) (t : Tk) : List Value := Lib.byteCells (pc p t)
set_option maxHeartbeats 8000000 in
set_option maxRecDepth 100000 in
theorem lshow_any (v : Value) (l : List Tk) (w : World) (hv : ToksAt w v l) (hl : l.length ≤ 1000) (hx : ∀ t ∈ l, t.2.2.length ≤ 1000) (hi : ∀ t ∈ l, (Lit.int .i64 t.1).wf = true) :
    Calls Tryd.prog 17 #[v] w fun e w' => e = .returned (.string (bs (sh false l))) ∧ Kp w w' := by
  obtain ⟨ad, c, rfl⟩ := hv.slice
  have hmm := @run_makeMap Tryd.prog
  have HV := Lib.hid hv
  have HX := Lib.hid hx
  have HI := Lib.hid hi
  have CS := Lib.hid signs_any
  clear hv hx hi
  go_enter Tryd.func17, Tryd.ntmps17
  go_wp2_with fail
  refine (CS.out _).mono ?_
  rintro e w1 ⟨m1, rfl, hm1, hm2, kk⟩
  have K1 := Lib.hid ((Kp.alloc w _).trans kk)
  have HM := Lib.hid hm1
  have HW0 := Lib.hid (WM.kp (World.ownsMap_made w Tryd.prog 3 (plainElem Tryd.prog 9)) kk)
  have hsz := kk.size
  have hm3 : w.heap.size + 1 ≤ m1 := by simpa using hm2
  have hsz1 : w.heap.size + 1 ≤ w1.heap.size := by simpa using hsz
  have hmlt := World.ownsMap.lt hm1
  clear kk hm1 CS hm2 hsz
  go_wp2_with (first
    | (at_range; refine wpList_range_own _ rfl _ 60 rfl 9 3 keyS Tryd.underlying60 _ m1 8 signsD rfl HM.out ?_; intro w2 hrg0 hg0 hs0))
  go_frame
  have KR := Lib.hid (Kp.grown K1.out (hg0.but none) (fun j hj => by cases hj))
  have HW1 := Lib.hid (World.ownsMap.kept HW0.out hg0 (by simp))
  have RG := Lib.hid hrg0
  clear hrg0 hg0
  go_loopw [4, 5] (fun _ _ wr => ∃ (left : Lit → Bool) (cnt n : Nat) (D : DataW Unit), Hid (wr.ranges Tryd.prog 9 (plainElem Tryd.prog 3) m1 w1.heap.size 8 signsD left cnt) ∧ n + cnt ≤ Go.Maps.size signsD ∧ Hid (WM wr w.heap.size n D) ∧ Hid (WrM left D) ∧ Hid (Kp w wr))
    (fun _ _ wr => wr.rangeLeft m1 w1.heap.size)
  case atStart => exact ⟨_, _, 0, _, RG, by omega, HW1, Lib.hid WrM.start, KR⟩
  case round =>
    clear HW1 RG KR HW0
    obtain ⟨left, cnt, n, D, RG, hn, HW, WR, K2⟩ := hrel
    have hs8 : Go.Maps.size signsD = 8 := by rfl
    go_wp2_with (first
      | (at_next; refine wpList_next_ranges _ rfl _ rfl 9 keyS (plainElem Tryd.prog 3) Value.string (Value.int .i64) (fun key kl h => by obtain ⟨s, e, _⟩ := Go.WideMaps.string_of_keyOf Tryd.underlying9 h; exact ⟨s, e⟩) (fun v y h => by obtain ⟨a, e, _⟩ := plainElem_int_inv Tryd.underlying3 h; exact ⟨a, e⟩) m1 w1.heap.size 8 _ _ _ rfl RG.out ?_ ?_))
    · intro _ hl0
      have WD := Lib.hid (fun k => WR.out.done hl0 k)
      clear hl0 WR
      obtain ⟨wo, hwo⟩ : ∃ x : World, x = wr := ⟨wr, rfl⟩
      subst hwo
      have HB0 := Lib.hid (bld_new wo)
      have HW0 := Lib.hid (HW.out.kp (Kp.alloc wo (.cells #[.pointer none, .slice none 0 0] 47)))
      have K0 := Lib.hid (K2.out.trans (Kp.alloc wo (.cells #[.pointer none, .slice none 0 0] 47)))
      have hwr := K2.out.size
      have hmw := World.ownsMap.lt HW.out
      clear HW K2 RG
      go_wp2_with fail
      go_loopw [22] (fun u22 wq => ∃ k : Nat, k ≤ l.length ∧ u22 = .int .i64 k ∧ Hid (Bld wo.heap.size wo.heap.size (Lib.byteCells (sh false (l.take k))) wq) ∧ Hid (WM wq w.heap.size n D) ∧ Hid (Kp w wq)) (fun u22 _ => l.length - (intOf u22).toNat)
      case atStart => exact ⟨0, Nat.zero_le _, rfl, HB0, HW0, K0⟩
      case round =>
        clear HB0 HW0 K0
        obtain ⟨k, hk, rfl, HB, HW, K2⟩ := hrel
        by_cases hlt : k < l.length
        · rcases HV.out with ⟨_, _, _, e⟩ | ⟨b, off, cap, ev, hc, hm, hx⟩
          · rw [e] at hlt; simp at hlt
          cases ev
          obtain ⟨d1, d2, d3⟩ := rd_tok hx K2.out k hlt
          have D0 := Lib.hid (fun (w' : World) (kk : Kp w w') (h : k - 1 < l.length) => (rd_tok hx kk (k - 1) h).1)
          clear hx hc hm
          have z1 : (0 : Int) ≤ (k : Int) := by omega
          have z2 : (k : Int) < l.length := by omega
          have ST := Lib.hid (sh_take l k hlt)
          have SB := sh_bd (l.take k) false 1000 (fun t ht => HX.out t (List.mem_of_mem_take ht))
          have SL : (sh false (l.take k)).length ≤ 1002000 := by
            have : (l.take k).length ≤ 1000 := by rw [List.length_take]; omega
            have := Nat.mul_le_mul_right (1000 + 2) this
            omega
          have TL := HX.out _ (tk_mem hlt)
          have TI := HI.out _ (tk_mem hlt)
          obtain ⟨kd, a, x, ee⟩ : ∃ kd a x, tk l k = (kd, a, x) := ⟨_, _, _, rfl⟩
          rw [ee] at d1 d2 d3 ST TL TI
          simp only at d1 d2 d3 TL TI
          clear ee SB
          have SWL := shw_len kd
          have BL := Lib.byteCells_length (sh false (l.take k))
          generalize sh false (l.take k) = S at *
          have TCELL : ∀ wx : World, wx.heap[wr.heap.size]? = some (.cells #[.int .i64 kd, .int .i64 a, .string (bs x)] 56) → wx.cell? ⟨wr.heap.size, 2, none⟩ = some (.string (bs x)) := fun wx h => by rw [Lib.cell_of_heap h]; rfl
          have TC := Lib.hid TCELL
          clear TCELL
          have hB := HB.out.lt
          have CSTR := Lib.hid (fun (wx : World) (L : List UInt8) (y : List UInt8) (hb : Bld wo.heap.size wo.heap.size (Lib.byteCells L) wx) (h1 : L.length ≤ 2000000) (h2 : y.length ≤ 2000) => (show Calls Tryd.prog 34 #[.pointer (some ⟨wo.heap.size, 0, none⟩), .string (bs y)] wx fun e w' => e = .returned (.tuple #[.int .i64 (bs y).size, .nilIface]) ∧ Bld wo.heap.size wo.heap.size (Lib.byteCells (L ++ y)) w' ∧ Below wo.heap.size wx w' from by
            refine (bstr_any wo.heap.size wo.heap.size (Lib.byteCells L) (bs y) wx hb (by rw [Lib.byteCells_length, bs_size]; omega) (Nat.le_of_lt hb.lt)).mono ?_
            rintro e w' ⟨rfl, g1, g2, _⟩
            refine ⟨rfl, .inr ?_, g2⟩
            rw [bc_append, ← bc_str y]; exact g1))
          by_cases hkd : kd = 0
          · subst hkd
            have CB := Lib.hid (fun (o : Obj) => (show Calls Tryd.prog 35 #[.pointer (some ⟨wo.heap.size, 0, none⟩), .int .u8 32] (wr.alloc o) fun e w' => e = .returned .nilIface ∧ Bld wo.heap.size wo.heap.size (Lib.byteCells (S ++ [32])) w' ∧ Below wo.heap.size (wr.alloc o) w' ∧ Oth wo.heap.size (wr.alloc o) w' from by
              refine (bbyte_any wo.heap.size wo.heap.size (Lib.byteCells S) 32 (wr.alloc o) (HB.out.alloc o) (by rw [Lib.byteCells_length]; omega) (Nat.le_of_lt (HB.out.alloc o).lt)).mono ?_
              rintro e w' ⟨rfl, g1, g2, g3⟩
              refine ⟨rfl, .inr ?_, g2, g3⟩
              rw [bc_append]; exact g1))
            by_cases hk0 : k = 0
            · have g1 : decide (0 < k) = false := by simp; omega
              have g1' : decide ((0 : Int) < k) = false := by simp; omega
              have F := Lib.hid (show sh false (l.take (k + 1)) = S ++ x by rw [ST.out, g1]; unfold pc; simp)
              have C := Lib.hid (fun o => CSTR.out (wr.alloc o) S x (HB.out.alloc o) (by omega) (by omega))
              have HK0 := Lib.hid hk0
              clear hk0 ST CSTR CB
              go_wp2_with fail
              refine (C.out _).mono ?_
              rintro e w3 ⟨rfl, h1, h2⟩
              have K3 := Lib.hid (show Kp w w3 from Below.trans (K2.out.trans (Kp.alloc _ _)) (Below.mono h2 hwr))
              have W3 := Lib.hid (WM.below (HW.out.kp (Kp.alloc wr _)) h2 hmw)
              have B3 := Lib.hid h1
              clear h1 h2
              go_wp2
              refine ⟨⟨k + 1, by omega, by go_num, by rw [F.out]; exact B3, W3, K3⟩, by simp only [intOf]; omega⟩
            · obtain ⟨j, rfl⟩ : ∃ j, k = j + 1 := ⟨k - 1, by omega⟩
              have g1 : decide (0 < j + 1) = true := by simp
              have d0 := D0.out wr K2.out (by omega)
              have D1 := Lib.hid (fun o => (D0.out (wr.alloc o) (K2.out.trans (Kp.alloc _ _)) (by omega)))
              rw [show j + 1 - 1 = j by omega] at d0 ST D1
              rw [g1, Bool.true_and] at ST
              generalize (tk l j).1 = pk at *
              have b1 : (j : Int) + 1 ≤ 1000 := by omega
              have b2 : (j : Int) < l.length := by omega
              have b3 : (0 : Int) ≤ j := by omega
              have b4 : (j : Int) + 1 < l.length := by omega
              clear hk0 D0 g1 z1 z2
              by_cases hpk : pk = 0
              · have e2 : (pk == 0) = true := by simpa using hpk
                have F := Lib.hid (show sh false (l.take (j + 1 + 1)) = (S ++ [32]) ++ x by rw [ST.out, e2]; unfold pc; simp)
                have HPK := Lib.hid hpk
                have C := Lib.hid (fun wx hb => CSTR.out wx (S ++ [32]) x hb (by simp; omega) (by omega))
                have DD := D1.out
                clear hpk ST CSTR D1
                go_wp2_with fail
                refine (CB.out _).mono ?_
                rintro e w3 ⟨rfl, h1, h2, h3⟩
                have c3 := TC.out w3 (h3 wr.heap.size _ (heap_alloc_new wr _) (by simp; omega) (by intro c fz h; injection h with _ h2; exact absurd h2 (by decide)))
                have K3 := Lib.hid (show Kp w w3 from Below.trans (K2.out.trans (Kp.alloc _ _)) (Below.mono h2 hwr))
                have W3 := Lib.hid (WM.below (HW.out.kp (Kp.alloc wr _)) h2 hmw)
                have C2 := Lib.hid (C.out w3 h1)
                clear h1 h2 h3 DD
                go_wp2_with fail
                refine (C2.out).mono ?_
                rintro e w4 ⟨rfl, h1, h2⟩
                have K4 := Lib.hid (show Kp w w4 from Below.trans K3.out (Below.mono h2 hwr))
                have W4 := Lib.hid (WM.below W3.out h2 hmw)
                have B4 := Lib.hid h1
                clear h1 h2
                go_wp2
                refine ⟨⟨j + 1 + 1, by omega, by go_num, by rw [F.out]; exact B4, W4, K4⟩, by simp only [intOf]; omega⟩
              · have e2 : (pk == 0) = false := by simpa using hpk
                have F := Lib.hid (show sh false (l.take (j + 1 + 1)) = S ++ x by rw [ST.out, e2]; unfold pc; simp)
                have HPK := Lib.hid hpk
                have C := Lib.hid (fun o => CSTR.out (wr.alloc o) S x (HB.out.alloc o) (by omega) (by omega))
                have DD := D1.out
                clear hpk ST CSTR D1 CB
                go_wp2_with fail
                refine (C.out _).mono ?_
                rintro e w3 ⟨rfl, h1, h2⟩
                have K3 := Lib.hid (show Kp w w3 from Below.trans (K2.out.trans (Kp.alloc _ _)) (Below.mono h2 hwr))
                have W3 := Lib.hid (WM.below (HW.out.kp (Kp.alloc wr _)) h2 hmw)
                have B3 := Lib.hid h1
                clear h1 h2 DD
                go_wp2
                refine ⟨⟨j + 1 + 1, by omega, by go_num, by rw [F.out]; exact B3, W3, K3⟩, by simp only [intOf]; omega⟩
          · have e1 : (kd != 0) = true := by simpa using hkd
            have hlk := fun o => wm_look (HW.out.kp (Kp.alloc wr o)) WD.out kd TI
            have F := Lib.hid (show sh false (l.take (k + 1)) = S ++ shw kd by rw [ST.out]; unfold pc; simp only; rw [if_neg hkd])
            have HKD := Lib.hid hkd
            have C := Lib.hid (fun o => CSTR.out (wr.alloc o) S (shw kd) (HB.out.alloc o) (by omega) (by omega))
            clear hkd ST CSTR
            go_wp2_with fail
            refine (C.out _).mono ?_
            rintro e w3 ⟨rfl, g1, g2⟩
            have K3 := Lib.hid (show Kp w w3 from Below.trans (K2.out.trans (Kp.alloc _ _)) (Below.mono g2 hwr))
            have W3 := Lib.hid (WM.below (HW.out.kp (Kp.alloc wr _)) g2 hmw)
            have B3 := Lib.hid g1
            clear g1 g2 hlk
            go_wp2
            refine ⟨⟨k + 1, by omega, by go_num, by rw [F.out]; exact B3, W3, K3⟩, by simp only [intOf]; omega⟩
        · have q : decide ((k : Int) < l.length) = false := by simp; omega
          have A : l.take k = l := by rw [show k = l.length by omega, List.take_length]
          rw [A] at HB
          have C := Lib.hid (bstring_any wo.heap.size wo.heap.size (sh false l) wr HB.out (Nat.le_of_lt HB.out.lt))
          clear A
          go_wp2_with fail
          refine (C.out).mono ?_
          rintro e w3 ⟨rfl, g2⟩
          have K3 := Lib.hid (show Kp w w3 from Below.trans K2.out (Below.mono g2 hwr))
          clear g2
          go_wp2
          go_ret
          exact ⟨rfl, K3.out⟩
    · intro x c kl y1 y2 w3 cnt3 hkey hlx hval hat hrg1 hlt hg1 hs1 hen
      obtain ⟨x', ex, rfl, hxs⟩ := Go.WideMaps.string_of_keyOf Tryd.underlying9 hkey
      cases ex
      obtain ⟨c', ec, ey, hwc⟩ := plainElem_int_inv Tryd.underlying3 hval
      cases ec
      cases ey
      have hc : c = sgn x.data.toList := by
        have := hat (.lit (.int .i64 0))
        rw [signsD_at] at this
        simpa using this.symm
      have WR2 := Lib.hid (WR.out.step hlx)
      rw [← hc] at WR2
      have HW3 := Lib.hid (World.ownsMap.kept HW.out hg1 (by simp; omega))
      have KK := Lib.hid (Kp.grown K2.out hg1 (fun j hj => by cases hj; omega))
      have R3 := Lib.hid hrg1
      have HEN := Lib.hid hen
      have RO := Lib.hid RG.out.left_eq
      have hnm : n < maxLen := by unfold maxLen; omega
      have KI := Lib.hid (Go.Maps.keyOf_int_mk Tryd.underlying3 hwc)
      have PS := Lib.hid (plainElem_string (H := Unit) Tryd.underlying9 hxs)
      clear hc hg1 hrg1 hkey hval hat hwc HW K2 RG hlx WR
      go_wp2_with (first
        | (at_mapUpdate; refine wpList_mapUpdate_own _ rfl _ _ _ 64 rfl 3 9 keyI Tryd.underlying64 _ w.heap.size n D rfl HW3.out hnm _ _ _ rfl rfl KI.out _ [] PS.out ?_; intro w4 hown4 hgrow4))
      have R4 := Lib.hid (R3.out.kept hgrow4 (by simp; omega) (by simp; omega))
      have K4 := Lib.hid (Kp.grown KK.out hgrow4 (fun j hj => by cases hj; exact Nat.le_refl _))
      have H4 := Lib.hid hown4
      clear hgrow4 hown4
      go_frame
      go_roundw
      case rel => exact ⟨_, cnt3, n + 1, _, R4, by omega, H4, WR2, K4⟩
      case measure => rw [R4.out.left_eq, RO.out]; exact hlt
end Go.Proofs.YtndmohamjffpcaaDoor

namespace Go.Proofs.YtndmohamjffpcaaDoor
open Go.RowKit Go.Shelf
set_option linter.unusedVariables false
set_option linter.unusedSimpArgs false
def endT (s : ByteArray) : Tk := (9, (s.size : Int), [])
theorem lallN (s : ByteArray) (ts : List Tk) (w : World) (hs : s.size ≤ 2000) (hx : Lx s.data.toList 0 ts none) :
    Calls Tryd.prog 16 #[.string s] w fun en w' => ∃ v, en = .returned (.tuple #[v, .int .i64 (s.size : Nat), .int .i64 0]) ∧ ToksAt w' v (ts ++ [endT s]) ∧ Kp w w' := by
  refine (lall_any s ts none w (by unfold maxLen; omega) hx).mono ?_
  rintro en w' ⟨kk, ⟨h, _⟩ | ⟨_, q, h, _⟩ | ⟨_, _, v, rfl, h⟩⟩
  · omega
  · cases h
  · exact ⟨v, rfl, toksAt_own h, kk⟩
theorem lallS (s : ByteArray) (ts : List Tk) (q : Nat) (w : World) (hs : s.size ≤ 2000) (hx : Lx s.data.toList 0 ts (some q)) :
    Calls Tryd.prog 16 #[.string s] w fun en w' => en = .returned (.tuple #[.slice none 0 0, .int .i64 (q : Nat), .int .i64 1]) ∧ Kp w w' := by
  refine (lall_any s ts (some q) w (by unfold maxLen; omega) hx).mono ?_
  rintro en w' ⟨kk, ⟨h, _⟩ | ⟨_, q', h, rfl⟩ | ⟨_, h, _⟩⟩
  · omega
  · cases h; exact ⟨rfl, kk⟩
  · cases h
theorem lallW (s : ByteArray) (w : World) (hs : 2000 < s.size) (hs2 : s.size ≤ maxLen) :
    Calls Tryd.prog 16 #[.string s] w fun en w' => en = .returned (.tuple #[.slice none 0 0, .int .i64 2000, .int .i64 7]) ∧ Kp w w' := by
  obtain ⟨ts, e, hx⟩ := lx_ex s.data.toList 0
  refine (lall_any s ts e w hs2 hx).mono ?_
  rintro en w' ⟨kk, ⟨_, rfl⟩ | ⟨h, _⟩ | ⟨h, _⟩⟩
  · exact ⟨rfl, kk⟩
  · omega
  · omega
/-- tokens of a text that is read may be shown -/
theorem good_wf {t : Tk} (h : goodT t) : (Lit.int .i64 t.1).wf = true := by
  have : 0 ≤ t.1 ∧ t.1 ≤ 8 := by rcases h with ⟨a, _⟩ | ⟨a, b, _⟩ <;> omega
  rw [show (Lit.int .i64 t.1).wf = (decide (-9223372036854775808 ≤ t.1) && decide (t.1 ≤ 9223372036854775807)) from rfl]
  simp
  omega
theorem lx_show {l : List UInt8} {ts : List Tk} {e : Option Nat} (s : ByteArray) (h : Lx l 0 ts e) (hl : l.length ≤ 900) : (ts ++ [endT s]).length ≤ 1000 ∧ (∀ t ∈ ts ++ [endT s], t.2.2.length ≤ 1000) ∧ ∀ t ∈ ts ++ [endT s], (Lit.int .i64 t.1).wf = true := by
  have h1 := lx_len h
  have h2 := lx_txt h
  have h3 := lx_good h
  refine ⟨by simp; omega, fun t ht => ?_, fun t ht => ?_⟩
  · rcases List.mem_append.1 ht with g | g
    · have := h2 t g; omega
    · rw [List.mem_singleton] at g; subst g; simp [endT]
  · rcases List.mem_append.1 ht with g | g
    · exact good_wf (h3 t g)
    · rw [List.mem_singleton] at g; subst g; rfl
/-- what is shown of a text that is read -/
theorem lshowT (s : ByteArray) (v : Value) (l : List UInt8) (ts : List Tk) (e : Option Nat) (w : World) (hv : ToksAt w v (ts ++ [endT s])) (hx : Lx l 0 ts e) (hl : l.length ≤ 900) :
    Calls Tryd.prog 17 #[v] w fun e w' => e = .returned (.string (bs (sh false ts))) ∧ Kp w w' := by
  obtain ⟨a, b, c⟩ := lx_show s hx hl
  have h := lshow_any v _ w hv a b c
  rwa [show sh false (ts ++ [endT s]) = sh false ts from sh_snoc_end ts false _] at h
theorem ex_lx : Lx [49, 57, 56, 52, 32, 47, 32, 46, 46] 0 [(0, 0, [49, 57, 56, 52]), (1, 5, []), (2, 7, [])] none :=
  .step (n := 4) (by decide) (by decide) (.blank (.step (n := 1) (by decide) (by decide) (.blank (.step (n := 2) (by decide) (by decide) .nil))))
end Go.Proofs.YtndmohamjffpcaaDoor
