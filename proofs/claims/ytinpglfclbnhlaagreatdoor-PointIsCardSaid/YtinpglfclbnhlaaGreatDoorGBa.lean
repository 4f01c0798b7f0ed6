/-
  Joined: Kit, Kp, RunsM, RunsA, RunsB, RunsC, Row, App, 4A, RunsJ, RunsD, RunsS, 4B, 4C.
-/
import Derived.WalkKit
import Derived.WalkMore
import Derived.ScopeJumps
import Derived.ProofKit
import Derived.WalkLawsBesides
import Derived.Lib.Hide
import Derived.Deep.QuietTactic
import Derived.BigQuiet
import Derived.Outline
import Derived.Below
import Derived.WalkSmall
import Derived.LoopTactic
import Derived.Laws.AppendOwn
import Derived.Laws.OwnMore
import Derived.Test.YtinpglfclbnhlaaGreatDoorChecked
import Derived.OwnWalk
import Derived.Deep.AppendLies
import Derived.RegionTactic
import Derived.ChangeAlike
import Derived.Shelf.Abstract
import Derived.Deep.RegionHeld3
namespace Go.Proofs.YtinpglfclbnhlaaGreatDoor
open Go.RowKit

theorem ret_int {k : IntKind} {a b : Int} (h : a = b) : Ending.returned (.int k a) = .returned (.int k b) := by rw [h]
theorem ret_bool {a b : Bool} (h : a = b) : Ending.returned (.bool a) = .returned (.bool b) := by rw [h]
theorem ret_two {k : IntKind} {a b : Int} {x y : Bool} (h : a = b) (g : x = y) : Ending.returned (.tuple #[.int k a, .bool x]) = .returned (.tuple #[.int k b, .bool y]) := by rw [h, g]

/-- A scope in which every jump goes ahead to one label, and none is left behind it. -/
theorem wp_scope_fwd {P : Program} {a : Act} {w : World} {Q : Exit → Act → World → Prop} {c rest : Code} (l : Nat) (hf : findLabel c l = some rest)
    (first : c.wp P (Exit.jump l (fun a' w' => rest.wp P (Exit.jump l (fun _ _ => False) Q) a' w') Q) a w) : (Code.scope c).wp P Q a w := by
  refine wp_scope_jumps l (fun a' w' => rest.wp P (Exit.jump l (fun _ _ => False) Q) a' w') (fun _ _ => 0) hf first ?_
  intro a1 w1 h
  refine wp_mono h ?_
  intro e a2 w2 h2
  cases e with
  | goto l' => exact absurd h2.2 id
  | normal => exact h2
  | exit id => exact h2
  | ret => exact h2
  | panic ch => exact h2
  | outgrown => exact h2
theorem jump_ret {l : Nat} {J : Act → World → Prop} {Q : Exit → Act → World → Prop} {a : Act} {w : World} (h : Q .ret a w) : Exit.jump l J Q .ret a w := h
theorem jump_goto {l : Nat} {J : Act → World → Prop} {Q : Exit → Act → World → Prop} {a : Act} {w : World} (h : J a w) : Exit.jump l J Q (.goto l) a w := ⟨rfl, h⟩

/-- A callee that leaves the world alone, met inside a region that draws its order. -/
theorem quiet_same {P : Program} {f : FuncId} {args : Array Value} {w : World} {n : Nat} {v : Value}
    (h : Calls P f args (w.drewN n) fun e w' => e = .returned v ∧ w.drewN n = w') : Calls P f args (w.drewN n) fun e w'' => e = .returned v ∧ ∃ m, w'' = w.drewN m :=
  h.mono fun _ _ ⟨he, hm⟩ => ⟨he, n, hm.symm⟩
theorem quiet_add {P : Program} {f : FuncId} {args : Array Value} {w : World} {a n : Nat} {v : Value}
    (h : Calls P f args (w.drewN (a + n)) fun e w' => e = .returned v ∧ w.drewN (a + n) = w') : Calls P f args (w.drewN (a + n)) fun e w'' => e = .returned v ∧ ∃ m, w'' = w.drewN (a + m) :=
  h.mono fun _ _ ⟨he, hm⟩ => ⟨he, n, hm.symm⟩

def fitsB (a : Int) : Bool := decide (-9223372036854775808 ≤ a ∧ a ≤ 9223372036854775807)
def only (a : Int) : Int := if fitsB a then a else 0
theorem fitsB_yes {a : Int} (h : -9223372036854775808 ≤ a) (h' : a ≤ 9223372036854775807) : fitsB a = true := by unfold fitsB; simp; omega
theorem fitsB_no {a : Int} (h : a < -9223372036854775808 ∨ 9223372036854775807 < a) : fitsB a = false := by unfold fitsB; simp; omega
theorem only_yes {a : Int} (h : fitsB a = true) : only a = a := by unfold only; rw [if_pos h]
theorem only_no {a : Int} (h : fitsB a = false) : only a = 0 := by unfold only; rw [h]; rfl
theorem fitsB_bd {a : Int} (h : fitsB a = true) : -9223372036854775808 ≤ a ∧ a ≤ 9223372036854775807 := by unfold fitsB at h; simpa using h
theorem fitsB_bd' {a : Int} (h : fitsB a = false) : a < -9223372036854775808 ∨ 9223372036854775807 < a := by unfold fitsB at h; simp at h; omega
theorem wf_bd {a : Int} (h : (Lit.int .i64 a).wf = true) : -9223372036854775808 ≤ a ∧ a ≤ 9223372036854775807 := by
  simp only [Lit.wf, Bool.and_eq_true, decide_eq_true_eq] at h; exact h
theorem only_bd (a : Int) : -9223372036854775808 ≤ only a ∧ only a ≤ 9223372036854775807 := by
  unfold only; by_cases h : fitsB a = true
  · rw [if_pos h]; exact fitsB_bd h
  · rw [if_neg h]; omega
end Go.Proofs.YtinpglfclbnhlaaGreatDoor

namespace Go.Proofs.YtinpglfclbnhlaaGreatDoor
open Go.RowKit
set_option linter.unusedVariables false
/-- what was there is as it was -/
def Kp (w w' : World) : Prop := Below w.heap.size w w'
theorem Kp.refl (w : World) : Kp w w := Below.refl _ _
theorem Kp.trans {a b c : World} (h : Kp a b) (g : Kp b c) : Kp a c := Below.trans h (Below.mono g h.size)
theorem Kp.alloc (w : World) (o : Obj) : Kp w (w.alloc o) := (Below.refl _ _).alloc (Nat.le_refl _) o
theorem Kp.drewN (w : World) (n : Nat) : Kp w (w.drewN n) := below_drewN (Below.refl _ _) n
theorem Kp.drew (w : World) : Kp w w.drew := (Below.refl _ _).drew
theorem var_lt {P : Program} {g : Nat} {w : World} {n : String} {cs : Array Value} (hg : P.globalNamed n = some g) (hv : w.var? P n = some cs) : g < w.heap.size := by
  unfold World.var? at hv
  simp only [hg, Option.bind_some] at hv
  rcases Nat.lt_or_ge g w.heap.size with h | h
  · exact h
  · rw [Array.getElem?_eq_none h] at hv; cases hv
end Go.Proofs.YtinpglfclbnhlaaGreatDoor

/-
  Sets of whole numbers as runs, in plain lists: what a set is, that there is one set of the same numbers, and how a run is laid into one.
-/
namespace Go.Proofs.YtinpglfclbnhlaaGreatDoor
set_option linter.unusedVariables false
abbrev R := Int × Int
def lim : Int := 1099511627776
/-- a run is there, and within bounds -/
def okR (r : R) : Prop := r.1 ≤ r.2 ∧ -1099511627776 ≤ r.1 ∧ r.2 ≤ 1099511627776
instance (r : R) : Decidable (okR r) := inferInstanceAs (Decidable (_ ∧ _ ∧ _))
/-- it is a set: behind each run a number is missing -/
def sane : List R → Prop
  | [] => True
  | r :: t => okR r ∧ (match t with | [] => True | s :: _ => r.2 + 1 < s.1) ∧ sane t
instance saneDec : (l : List R) → Decidable (sane l)
  | [] => isTrue trivial
  | [r] => inferInstanceAs (Decidable (okR r ∧ True ∧ True))
  | r :: s :: t => @instDecidableAnd _ _ _ (@instDecidableAnd _ _ _ (saneDec (s :: t)))
def saneB (l : List R) : Bool := decide (sane l)
/-- a number is in one of the runs, and within bounds -/
def memR (l : List R) (n : Int) : Prop := ∃ r ∈ l, r.1 ≤ n ∧ n ≤ r.2 ∧ -1099511627776 ≤ n ∧ n ≤ 1099511627776
theorem memR_nil (n : Int) : ¬ memR [] n := by rintro ⟨r, h, _⟩; cases h
theorem memR_cons (r : R) (t : List R) (n : Int) : memR (r :: t) n ↔ (r.1 ≤ n ∧ n ≤ r.2 ∧ -1099511627776 ≤ n ∧ n ≤ 1099511627776) ∨ memR t n := by
  constructor
  · rintro ⟨q, hq, g⟩
    rcases List.mem_cons.1 hq with rfl | hq
    · exact .inl g
    · exact .inr ⟨q, hq, g⟩
  · rintro (g | ⟨q, hq, g⟩)
    · exact ⟨r, List.mem_cons_self .., g⟩
    · exact ⟨q, List.mem_cons_of_mem _ hq, g⟩
theorem memR_append (a b : List R) (n : Int) : memR (a ++ b) n ↔ memR a n ∨ memR b n := by
  induction a with
  | nil => simp [memR_nil]
  | cons r t ih => rw [List.cons_append, memR_cons, memR_cons, ih, or_assoc]
theorem sane_tail {r : R} {t : List R} (h : sane (r :: t)) : sane t := h.2.2
theorem sane_head {r : R} {t : List R} (h : sane (r :: t)) : okR r := h.1
theorem sane_cons {r : R} {t : List R} (h : okR r) (g : ∀ s t', t = s :: t' → r.2 + 1 < s.1) (k : sane t) : sane (r :: t) := by
  cases t with
  | nil => exact ⟨h, trivial, k⟩
  | cons s t' => exact ⟨h, g s t' rfl, k⟩
/-- all numbers of a set's tail lie beyond the gap -/
theorem sane_beyond {r : R} {t : List R} (h : sane (r :: t)) : ∀ n, memR t n → r.2 + 1 < n := by
  induction t generalizing r with
  | nil => intro n hn; exact absurd hn (memR_nil n)
  | cons s t ih =>
    intro n hn
    have g : r.2 + 1 < s.1 := h.2.1
    rcases (memR_cons _ _ _).1 hn with q | q
    · omega
    · have := ih h.2.2 n q
      have o := (sane_head h.2.2).1
      omega
theorem sane_mem_head {r : R} {t : List R} (h : sane (r :: t)) (n : Int) : memR (r :: t) n ↔ (r.1 ≤ n ∧ n ≤ r.2) ∨ memR t n := by
  rw [memR_cons]
  obtain ⟨a, b, c⟩ := sane_head h
  constructor
  · rintro (q | q)
    · exact .inl ⟨q.1, q.2.1⟩
    · exact .inr q
  · rintro (q | q)
    · exact .inl ⟨q.1, q.2, by omega, by omega⟩
    · exact .inr q
/-- THERE IS ONE SET OF THE SAME NUMBERS. -/
theorem sane_ext : ∀ {a b : List R}, sane a → sane b → (∀ n, memR a n ↔ memR b n) → a = b := by
  intro a
  induction a with
  | nil =>
    intro b _ hb h
    cases b with
    | nil => rfl
    | cons s t =>
      have := (h s.1).2 ((sane_mem_head hb _).2 (.inl ⟨Int.le_refl _, (sane_head hb).1⟩))
      exact absurd this (memR_nil _)
  | cons r t ih =>
    intro b ha hb h
    cases b with
    | nil =>
      have := (h r.1).1 ((sane_mem_head ha _).2 (.inl ⟨Int.le_refl _, (sane_head ha).1⟩))
      exact absurd this (memR_nil _)
    | cons s u =>
      have ra := (sane_head ha).1
      have sb := (sane_head hb).1
      have bt := sane_beyond ha
      have bu := sane_beyond hb
      -- the least numbers are the same
      have e1 : r.1 = s.1 := by
        have h1 := (sane_mem_head hb _).1 ((h r.1).1 ((sane_mem_head ha _).2 (.inl ⟨Int.le_refl _, ra⟩)))
        have h2 := (sane_mem_head ha _).1 ((h s.1).2 ((sane_mem_head hb _).2 (.inl ⟨Int.le_refl _, sb⟩)))
        rcases h1 with h1 | h1
        · rcases h2 with h2 | h2
          · omega
          · have := bt _ h2; omega
        · have := bu _ h1
          rcases h2 with h2 | h2
          · omega
          · have := bt _ h2; omega
      have e2 : r.2 = s.2 := by
        have n1 : ¬ memR (r :: t) (r.2 + 1) := by
          rw [sane_mem_head ha]; rintro (q | q)
          · omega
          · have := bt _ q; omega
        have n2 : ¬ memR (s :: u) (s.2 + 1) := by
          rw [sane_mem_head hb]; rintro (q | q)
          · omega
          · have := bu _ q; omega
        rcases Int.lt_trichotomy r.2 s.2 with c | c | c
        · exact absurd ((h _).2 ((sane_mem_head hb _).2 (.inl ⟨by omega, by omega⟩))) n1
        · exact c
        · exact absurd ((h _).1 ((sane_mem_head ha _).2 (.inl ⟨by omega, by omega⟩))) n2
      have er : r = s := Prod.ext e1 e2
      subst er
      congr 1
      apply ih ha.2.2 hb.2.2
      intro n
      constructor
      · intro q
        have := bt n q
        rcases (sane_mem_head hb n).1 ((h n).1 ((sane_mem_head ha n).2 (.inr q))) with g | g
        · omega
        · exact g
      · intro q
        have := bu n q
        rcases (sane_mem_head ha n).1 ((h n).2 ((sane_mem_head hb n).2 (.inr q))) with g | g
        · omega
        · exact g
/-- a run within bounds, laid into a set -/
def put1 (x : R) : List R → List R
  | [] => [x]
  | y :: t => if y.2 < x.1 - 1 then y :: put1 x t else if x.2 + 1 < y.1 then x :: y :: t else put1 (min x.1 y.1, max x.2 y.2) t
theorem okR_join {x y : R} (hx : okR x) (hy : okR y) : okR (min x.1 y.1, max x.2 y.2) := by
  obtain ⟨a, b, c⟩ := hx
  obtain ⟨d, e, f⟩ := hy
  refine ⟨?_, ?_, ?_⟩ <;> show _ ≤ _ <;> simp only <;> omega
theorem put1_sane : ∀ {s : List R} {x : R}, sane s → okR x → sane (put1 x s) ∧ (∀ l, l + 1 < x.1 → (∀ y t, s = y :: t → l + 1 < y.1) → ∀ y t, put1 x s = y :: t → l + 1 < y.1) := by
  intro s
  induction s with
  | nil =>
    intro x _ hx
    refine ⟨⟨hx, trivial, trivial⟩, ?_⟩
    intro l hl _ y t e
    simp [put1] at e
    rw [← e.1]; exact hl
  | cons y t ih =>
    intro x hs hx
    have hy := sane_head hs
    have gy := hs.2.1
    unfold put1
    by_cases c1 : y.2 < x.1 - 1
    · rw [if_pos c1]
      obtain ⟨i1, i2⟩ := ih (x := x) hs.2.2 hx
      refine ⟨sane_cons hy ?_ i1, ?_⟩
      · intro z u e
        refine i2 y.2 (by omega) ?_ z u e
        intro y' t' e'
        subst e'
        exact gy
      · intro l hl h2 z u e
        simp at e
        rw [← e.1]; exact h2 y t rfl
    · rw [if_neg c1]
      by_cases c2 : x.2 + 1 < y.1
      · rw [if_pos c2]
        refine ⟨sane_cons hx ?_ hs, ?_⟩
        · intro z u e
          simp at e
          rw [← e.1]; exact c2
        · intro l hl _ z u e
          simp at e
          rw [← e.1]; exact hl
      · rw [if_neg c2]
        obtain ⟨i1, i2⟩ := ih (x := (min x.1 y.1, max x.2 y.2)) hs.2.2 (okR_join hx hy)
        refine ⟨i1, ?_⟩
        intro l hl h2 z u e
        have hly := h2 y t rfl
        refine i2 l (by show l + 1 < min x.1 y.1; omega) ?_ z u e
        intro y' t' e'
        subst e'
        have : y.2 + 1 < y'.1 := gy
        have := hy.1
        omega
theorem put1_mem : ∀ {s : List R} {x : R}, sane s → okR x → ∀ n, memR (put1 x s) n ↔ (x.1 ≤ n ∧ n ≤ x.2) ∨ memR s n := by
  intro s
  induction s with
  | nil =>
    intro x _ hx n
    obtain ⟨a, b, c⟩ := hx
    rw [put1, memR_cons]
    constructor
    · rintro (q | q)
      · exact .inl ⟨q.1, q.2.1⟩
      · exact .inr q
    · rintro (q | q)
      · exact .inl ⟨q.1, q.2, by omega, by omega⟩
      · exact .inr q
  | cons y t ih =>
    intro x hs hx n
    have hy := sane_head hs
    unfold put1
    by_cases c1 : y.2 < x.1 - 1
    · rw [if_pos c1, memR_cons, ih hs.2.2 hx, memR_cons]
      constructor
      · rintro (q | q | q) <;> simp [q]
      · rintro (q | q | q) <;> simp [q]
    · rw [if_neg c1]
      by_cases c2 : x.2 + 1 < y.1
      · rw [if_pos c2, memR_cons]
        obtain ⟨a, b, c⟩ := hx
        constructor
        · rintro (q | q)
          · exact .inl ⟨q.1, q.2.1⟩
          · exact .inr q
        · rintro (q | q)
          · exact .inl ⟨q.1, q.2, by omega, by omega⟩
          · exact .inr q
      · rw [if_neg c2, ih hs.2.2 (okR_join hx hy), memR_cons]
        obtain ⟨a, b, c⟩ := hx
        obtain ⟨d, e, f⟩ := hy
        simp only
        constructor
        · rintro (q | q)
          · by_cases k : x.1 ≤ n ∧ n ≤ x.2
            · exact .inl k
            · exact .inr (.inl (by omega))
          · exact .inr (.inr q)
        · rintro (q | q | q)
          · exact .inl (by omega)
          · exact .inl (by omega)
          · exact .inr q
def clipR (r : R) : R := (max r.1 (-1099511627776), min r.2 1099511627776)
def putR (s : List R) (r : R) : List R := if (clipR r).2 < (clipR r).1 then s else put1 (clipR r) s
def nf (l : List R) : List R := l.foldl putR []
theorem clip_mem (r : R) (n : Int) : ((clipR r).1 ≤ n ∧ n ≤ (clipR r).2) ↔ (r.1 ≤ n ∧ n ≤ r.2 ∧ -1099511627776 ≤ n ∧ n ≤ 1099511627776) := by
  unfold clipR; simp only; omega
theorem putR_ok {s : List R} (h : sane s) (r : R) : sane (putR s r) ∧ ∀ n, memR (putR s r) n ↔ memR s n ∨ (r.1 ≤ n ∧ n ≤ r.2 ∧ -1099511627776 ≤ n ∧ n ≤ 1099511627776) := by
  unfold putR
  by_cases c : (clipR r).2 < (clipR r).1
  · rw [if_pos c]
    refine ⟨h, fun n => ⟨.inl, ?_⟩⟩
    rintro (q | q)
    · exact q
    · have := (clip_mem r n).2 q; omega
  · rw [if_neg c]
    have o : okR (clipR r) := ⟨by omega, by unfold clipR; simp only; omega, by unfold clipR; simp only; omega⟩
    refine ⟨(put1_sane h o).1, fun n => ?_⟩
    rw [put1_mem h o, clip_mem]
    exact ⟨fun q => q.elim .inr .inl, fun q => q.elim .inr .inl⟩
theorem foldl_putR : ∀ (l : List R) {s : List R}, sane s → sane (l.foldl putR s) ∧ ∀ n, memR (l.foldl putR s) n ↔ memR s n ∨ memR l n := by
  intro l
  induction l with
  | nil => intro s h; exact ⟨h, fun n => ⟨.inl, fun q => q.elim id fun q => absurd q (memR_nil n)⟩⟩
  | cons r t ih =>
    intro s h
    obtain ⟨a, b⟩ := putR_ok h r
    obtain ⟨c, d⟩ := ih a
    refine ⟨c, fun n => ?_⟩
    rw [List.foldl_cons, d, b, memR_cons]
    constructor
    · rintro ((q | q) | q)
      · exact .inl q
      · exact .inr (.inl q)
      · exact .inr (.inr q)
    · rintro (q | q | q)
      · exact .inl (.inl q)
      · exact .inl (.inr q)
      · exact .inr q
theorem nf_sane (l : List R) : sane (nf l) := (foldl_putR l (s := []) trivial).1
theorem nf_mem (l : List R) (n : Int) : memR (nf l) n ↔ memR l n := by
  rw [show nf l = l.foldl putR [] from rfl, (foldl_putR l (s := []) trivial).2]
  exact ⟨fun q => q.elim (fun q => absurd q (memR_nil n)) id, .inr⟩
theorem nf_eq {l s : List R} (h : sane s) (g : ∀ n, memR s n ↔ memR l n) : nf l = s := sane_ext (nf_sane l) h fun n => by rw [nf_mem, g]
theorem nf_of_sane {l : List R} (h : sane l) : nf l = l := nf_eq h fun _ => Iff.rfl
theorem nf_congr {a b : List R} (g : ∀ n, memR a n ↔ memR b n) : nf a = nf b := nf_eq (nf_sane b) fun n => by rw [nf_mem, g]
end Go.Proofs.YtinpglfclbnhlaaGreatDoor

namespace Go.Proofs.YtinpglfclbnhlaaGreatDoor
open Go.RowKit
set_option linter.unusedVariables false
def at_ (l : List R) (i : Nat) : R := l.getD i (0, 0)
/-- all numbers are ints -/
def I64R (l : List R) : Prop := ∀ r ∈ l, -9223372036854775808 ≤ r.1 ∧ r.1 ≤ 9223372036854775807 ∧ -9223372036854775808 ≤ r.2 ∧ r.2 ≤ 9223372036854775807
/-- a slice of runs reads as this list -/
def RunsAt (w : World) (v : Value) (l : List R) : Prop :=
  (∃ ad cp, v = .slice ad 0 cp ∧ l = []) ∨ ∃ b off cap, v = .slice (some ⟨b, off, none⟩) l.length cap ∧ l.length ≤ cap ∧ cap ≤ maxLen ∧
    ∀ i, i < l.length → w.cell? ⟨b, off + i * 2, none⟩ = some (.int .i64 (at_ l i).1) ∧ w.cell? ⟨b, off + i * 2 + 1, none⟩ = some (.int .i64 (at_ l i).2)
theorem RunsAt.kp {w w' : World} {v : Value} {l : List R} (h : RunsAt w v l) (k : Kp w w') : RunsAt w' v l := by
  rcases h with h | ⟨b, off, cap, e, h1, h2, h3⟩
  · exact .inl h
  · refine .inr ⟨b, off, cap, e, h1, h2, fun i hi => ?_⟩
    obtain ⟨c1, c2⟩ := h3 i hi
    have b1 := World.block_lt_of_cell? _ _ c1
    exact ⟨(Below.cell (p := ⟨b, off + i * 2, none⟩) k b1).trans c1, (Below.cell (p := ⟨b, off + i * 2 + 1, none⟩) k b1).trans c2⟩
theorem I64R.at_ {l : List R} (h : I64R l) {i : Nat} (hi : i < l.length) : -9223372036854775808 ≤ (at_ l i).1 ∧ (at_ l i).1 ≤ 9223372036854775807 ∧ -9223372036854775808 ≤ (at_ l i).2 ∧ (at_ l i).2 ≤ 9223372036854775807 := by
  have e : Proofs.YtinpglfclbnhlaaGreatDoor.at_ l i = l[i] := by unfold Proofs.YtinpglfclbnhlaaGreatDoor.at_; simp [List.getD, hi]
  rw [e]; exact h _ (List.getElem_mem hi)
theorem sane_idx : ∀ (l : List R), sane l ↔ ∀ i, i < l.length → okR (at_ l i) ∧ (0 < i → (at_ l (i - 1)).2 + 1 < (at_ l i).1) := by
  intro l
  induction l with
  | nil => exact ⟨fun _ i hi => by simp at hi, fun _ => trivial⟩
  | cons r t ih =>
    constructor
    · intro h i hi
      cases i with
      | zero => exact ⟨sane_head h, fun h => by omega⟩
      | succ j =>
        have hj : j < t.length := by simpa using hi
        have g := (ih.1 h.2.2) j hj
        refine ⟨by simpa [at_] using g.1, fun _ => ?_⟩
        cases j with
        | zero =>
          cases t with
          | nil => simp at hj
          | cons s u => simpa [at_] using h.2.1
        | succ m => simpa [at_] using g.2 (by omega)
    · intro h
      refine sane_cons (by simpa [at_] using (h 0 (by simp)).1) ?_ (ih.2 fun i hi => ?_)
      · intro s u e
        subst e
        simpa [at_] using (h 1 (by simp)).2 (by omega)
      · have g := h (i + 1) (by simpa using hi)
        refine ⟨by simpa [at_] using g.1, fun hp => ?_⟩
        have g2 := g.2 (by omega)
        obtain ⟨m, rfl⟩ : ∃ m, i = m + 1 := ⟨i - 1, by omega⟩
        simpa [at_] using g2
end Go.Proofs.YtinpglfclbnhlaaGreatDoor

namespace Go.Proofs.YtinpglfclbnhlaaGreatDoor
open Go.RowKit
set_option linter.unusedVariables false
theorem saneB_yes {l : List R} (h : sane l) : saneB l = true := by unfold saneB; exact decide_eq_true h
theorem saneB_no {l : List R} (h : ¬ sane l) : saneB l = false := by unfold saneB; exact decide_eq_false h
/-- the first runs are a set's -/
def Pre (l : List R) (k : Nat) : Prop := ∀ i, i < k → okR (at_ l i) ∧ (0 < i → (at_ l (i - 1)).2 + 1 < (at_ l i).1)
theorem Pre.all {l : List R} (h : Pre l l.length) : sane l := (sane_idx l).2 h
theorem Pre.next {l : List R} {k : Nat} (h : Pre l k) (g : okR (at_ l k) ∧ (0 < k → (at_ l (k - 1)).2 + 1 < (at_ l k).1)) : Pre l (k + 1) := by
  intro i hi
  by_cases c : i < k
  · exact h i c
  · obtain rfl : i = k := by omega
    exact g
theorem not_sane {l : List R} {k : Nat} (hk : k < l.length) (h : ¬ (okR (at_ l k) ∧ (0 < k → (at_ l (k - 1)).2 + 1 < (at_ l k).1))) : saneB l = false :=
  saneB_no fun g => h ((sane_idx l).1 g k hk)

set_option maxHeartbeats 1000000 in
theorem sane_any (v : Value) (l : List R) (w : World) (hv : RunsAt w v l) (hl : I64R l) :
    Calls Tryz.prog 77 #[v] w fun e w' => e = .returned (.bool (saneB l)) ∧ Kp w w' := by
  rcases hv with ⟨ad0, cp0, rfl, rfl⟩ | ⟨b, off, cap, rfl, hc, hm, hx⟩
  · rw [saneB_yes (l := []) trivial]
    go_enter Tryz.func77, Tryz.ntmps77
    go_wp2
    go_loopw [7] (fun i wr => i = .int .i64 0 ∧ Kp w wr) (fun _ _ => 0)
    case atStart => exact ⟨rfl, Kp.refl _⟩
    case round =>
      obtain ⟨rfl, k1⟩ := hrel
      go_wp2
      go_ret
      exact ⟨rfl, k1⟩
  · have hm2 : l.length ≤ 9223372036854775807 := by unfold maxLen at hm; omega
    have HX := Lib.hid hx
    have HL := Lib.hid hl
    clear hx hl
    go_enter Tryz.func77, Tryz.ntmps77
    go_wp2
    go_loopw [7] (fun i wr => ∃ k : Nat, k ≤ l.length ∧ i = .int .i64 k ∧ Hid (Pre l k) ∧ Kp w wr) (fun i _ => l.length - (intOf i).toNat)
    case atStart => exact ⟨0, Nat.zero_le _, rfl, fun i hi => absurd hi (Nat.not_lt_zero _), Kp.refl _⟩
    case round =>
      obtain ⟨k, hk, rfl, P, k1⟩ := hrel
      have K1 := Lib.hid k1
      clear k1
      by_cases hlt : k < l.length
      · obtain ⟨c1, c2⟩ := HX.out k hlt
        have d1 := (Below.cell (p := ⟨b, off + k * 2, none⟩) K1.out (World.block_lt_of_cell? _ _ c1)).trans c1
        have d2 := (Below.cell (p := ⟨b, off + k * 2 + 1, none⟩) K1.out (World.block_lt_of_cell? _ _ c2)).trans c2
        clear c1 c2
        have bd := I64R.at_ HL.out hlt
        have N := Lib.hid (not_sane (l := l) hlt)
        have NX := Lib.hid (fun g => Pre.next P.out (k := k) (l := l) g)
        obtain ⟨lo, elo⟩ : ∃ x, x = (at_ l k).1 := ⟨_, rfl⟩
        obtain ⟨hi, ehi⟩ : ∃ x, x = (at_ l k).2 := ⟨_, rfl⟩
        rw [← elo] at d1 bd
        rw [← ehi] at d2 bd
        have E := Lib.hid (And.intro elo ehi)
        clear elo ehi
        by_cases ok : lo ≤ hi ∧ -1099511627776 ≤ lo ∧ hi ≤ 1099511627776
        · have okk : Hid (okR (at_ l k)) := by unfold Hid okR; rw [← E.out.1, ← E.out.2]; exact ok
          obtain ⟨o1, o2, o3⟩ := ok
          by_cases k0 : k = 0
          · have P2 := Lib.hid (NX.out ⟨okk.out, fun h => by omega⟩)
            have g1 : decide (0 < k) = false := by simp; omega
            have K0 := Lib.hid k0
            clear k0
            go_wp2
            go_quiet (fail)
            go_wp2
            go_roundw
            case rel => exact ⟨k + 1, by omega, by go_num, P2.out, K1.out.trans ((Kp.alloc _ _).trans (Kp.drewN _ _))⟩
            case measure => simp [intOf]; omega
          · have hlt2 : k - 1 < l.length := by omega
            obtain ⟨c1, c2⟩ := HX.out (k - 1) hlt2
            have d3 := (Below.cell (p := ⟨b, off + (k - 1) * 2 + 1, none⟩) K1.out (World.block_lt_of_cell? _ _ c2)).trans c2
            clear c1 c2
            have bd2 := (P.out (k - 1) (by omega)).1
            have bl : b < wr.heap.size := World.block_lt_of_cell? _ _ d3
            have bne : ¬ b = wr.heap.size := by omega
            obtain ⟨ph, eph⟩ : ∃ x, x = (at_ l (k - 1)).2 := ⟨_, rfl⟩
            obtain ⟨b1, b2, b3⟩ := bd2
            have b4 : -1099511627776 ≤ ph := by omega
            have b5 : ph ≤ 1099511627776 := by omega
            rw [← eph] at d3
            have E2 := Lib.hid eph
            clear eph b1 b2 b3
            have g1 : decide (0 < k) = true := by simp; omega
            have g0 : 0 < k := by omega
            have wr1 : IntKind.i64.wrap (ph + 1) = ph + 1 := by rw [IntKind.wrap_i64]; omega
            have wr0 : IntKind.i64.wrap ((k : Int) - 1) = ((k - 1 : Nat) : Int) := by rw [IntKind.wrap_i64]; omega
            have hlt3 : ((k - 1 : Nat) : Int) < l.length := by omega
            by_cases gp : ph + 1 < lo
            · have P2 := Lib.hid (NX.out ⟨okk.out, fun h => by rw [← E.out.1, ← E2.out]; exact gp⟩)
              have g2 : decide (lo ≤ ph + 1) = false := by simp; omega
              go_wp2
              go_quiet (fail)
              go_wp2
              go_roundw
              case rel => exact ⟨k + 1, by omega, by go_num, P2.out, K1.out.trans ((Kp.alloc _ _).trans (Kp.drewN _ _))⟩
              case measure => simp [intOf]; omega
            · have g2 : decide (lo ≤ ph + 1) = true := by simp; omega
              have bad : Hid (saneB l = false) := N.out fun g => gp (by have := g.2 (by omega); rw [E.out.1, E2.out]; exact this)
              go_wp2
              go_quiet (fail)
              go_wp2
              go_ret
              exact ⟨ret_bool bad.out.symm, K1.out.trans ((Kp.alloc _ _).trans (Kp.drewN _ _))⟩
        · have bad : Hid (saneB l = false) := N.out fun g => ok (by have := g.1; unfold okR at this; rw [← E.out.1, ← E.out.2] at this; exact this)
          have o : hi < lo ∨ (lo ≤ hi ∧ lo < -1099511627776) ∨ (lo ≤ hi ∧ -1099511627776 ≤ lo ∧ 1099511627776 < hi) := by omega
          clear ok
          rcases o with o1 | ⟨o1, o2⟩ | ⟨o1, o2, o3⟩
          all_goals
            go_wp2
            go_ret
            exact ⟨ret_bool bad.out.symm, K1.out.trans (Kp.alloc _ _)⟩
      · have A := Lib.hid (saneB_yes (Pre.all (l := l) (by have := P.out; rwa [show k = l.length by omega] at this)))
        go_wp2
        go_ret
        exact ⟨ret_bool A.out.symm, K1.out⟩
end Go.Proofs.YtinpglfclbnhlaaGreatDoor

namespace Go.Proofs.YtinpglfclbnhlaaGreatDoor
open Go.RowKit
set_option linter.unusedVariables false
def cellsR (l : List R) : List Value := l.flatMap fun r => [.int .i64 r.1, .int .i64 r.2]
theorem cellsR_append (a b : List R) : cellsR (a ++ b) = cellsR a ++ cellsR b := by unfold cellsR; simp
theorem cellsR_length (l : List R) : (cellsR l).length = l.length * 2 := by unfold cellsR; induction l with | nil => rfl | cons r t ih => simp at ih ⊢; omega
def wi (l : List R) : List R := (l.map clipR).filter fun r => decide (r.1 ≤ r.2)
theorem take_at (l : List R) (k : Nat) (h : k < l.length) : l.take (k + 1) = l.take k ++ [at_ l k] := by
  rw [List.take_succ_eq_append_getElem h]; unfold at_; simp [List.getD, h]
theorem wi_yes (l : List R) (k : Nat) (h : k < l.length) (g : (clipR (at_ l k)).1 ≤ (clipR (at_ l k)).2) : wi (l.take (k + 1)) = wi (l.take k) ++ [clipR (at_ l k)] := by
  rw [take_at l k h]; unfold wi; simp [g]
theorem wi_no (l : List R) (k : Nat) (h : k < l.length) (g : ¬ (clipR (at_ l k)).1 ≤ (clipR (at_ l k)).2) : wi (l.take (k + 1)) = wi (l.take k) := by
  rw [take_at l k h]; unfold wi; simp [g]
theorem wi_len (l : List R) : (wi l).length ≤ l.length := by
  unfold wi; have := List.length_filter_le (fun r : R => decide (r.1 ≤ r.2)) (l.map clipR); simpa using this
theorem infoR : (Tryz.prog.info? 37).map (fun i => (i.zero, i.size, i.bytes)) = some (some (.agg #[.int .i64 0, .int .i64 0]), 2, 16) := by kernel_rfl

theorem cell_two_next (w : World) (o : Obj) (a b : Value) (t : TypeId) : ∀ j u, [a, b][j]? = some u → ((w.alloc o).alloc (.cells #[a, b] t)).cell? ((⟨w.heap.size + 1, 0, none⟩ : Addr).add j) = some u := by
  have h := cell_two_new (w.alloc o) a b t
  simpa using h
/-- behind two new blocks, one row of the call's own has grown -/
theorem kp_grown {w wr w1 : World} {v : Value} {o1 o2 : Obj} (k : Kp w wr) (g : ((wr.alloc o1).alloc o2).grownBy w1 v.ownBlock) (h : ∀ j, v.ownBlock = some j → w.heap.size ≤ j) : Kp w w1 := by
  have s : w.heap.size ≤ wr.heap.size := k.size
  have k2 : Below w.heap.size w ((wr.alloc o1).alloc o2) := (Below.alloc k s o1).alloc (by simp; omega) o2
  exact k2.grown g (by simp; omega) h
set_option maxHeartbeats 2000000 in
set_option maxRecDepth 100000 in
theorem within_any (v : Value) (l : List R) (w : World) (hv : RunsAt w v l) (hl : I64R l) (hn : l.length ≤ 1000000) :
    Calls Tryz.prog 76 #[v] w fun e w' => ∃ v' : Value, e = .returned v' ∧ w'.ownsRow w.heap.size 37 2 v' (wi l).length (cellsR (wi l)) ∧ Kp w w' := by
  obtain ⟨i0, hi, hz0, hz1, hz2⟩ := info_parts infoR
  rcases hv with ⟨ad0, cp0, rfl, rfl⟩ | ⟨b, off, cap, rfl, hc, hm, hx⟩
  · go_enter Tryz.func76, Tryz.ntmps76
    go_wp2_with (at_make; refine wpList_make_own _ rfl _ _ 28 rfl w.heap.size 37 i0 (.agg #[.int .i64 0, .int .i64 0]) 2 Tryz.underlying28 hi hz0 hz1 .i64 .i64 _ 0 rfl rfl rfl (by rw [hz2]; omega) (by unfold maxLen; omega) (Nat.le_refl _) ?_; intro w0 hown0 hgrow0)
    go_loopw [3, 11] (fun v i wr => i = .int .i64 0 ∧ wr.ownsRow w.heap.size 37 2 v 0 [] ∧ Kp w wr) (fun _ _ _ => 0)
    case atStart => exact ⟨rfl, hown0, (Below.refl _ _).grown hgrow0 (Nat.le_refl _) (fun k h => by cases h)⟩
    case round =>
      obtain ⟨rfl, hown, k1⟩ := hrel
      go_wp2
      go_ret
      exact ⟨_, rfl, hown, k1⟩
  · have hm2 : l.length ≤ 9223372036854775807 := by unfold maxLen at hm; omega
    have HX := Lib.hid hx
    have HL := Lib.hid hl
    clear hx hl
    go_enter Tryz.func76, Tryz.ntmps76
    go_wp2_with (at_make; refine wpList_make_own _ rfl _ _ 28 rfl w.heap.size 37 i0 (.agg #[.int .i64 0, .int .i64 0]) 2 Tryz.underlying28 hi hz0 hz1 .i64 .i64 _ l.length rfl rfl rfl (by rw [hz2]; omega) (by unfold maxLen; omega) (Nat.le_refl _) ?_; intro w0 hown0 hgrow0)
    go_loopw [3, 11] (fun v i wr => ∃ k : Nat, k ≤ l.length ∧ i = .int .i64 k ∧ wr.ownsRow w.heap.size 37 2 v (wi (l.take k)).length (cellsR (wi (l.take k))) ∧ Kp w wr) (fun _ i _ => l.length - (intOf i).toNat)
    case atStart => exact ⟨0, Nat.zero_le _, rfl, hown0, (Below.refl _ _).grown hgrow0 (Nat.le_refl _) (fun k h => by cases h)⟩
    case round =>
      obtain ⟨k, hk, rfl, hown, k1⟩ := hrel
      have K1 := Lib.hid k1
      have hsz := k1.size
      clear k1
      by_cases hlt : k < l.length
      · obtain ⟨c1, c2⟩ := HX.out k hlt
        have d1 := (Below.cell (p := ⟨b, off + k * 2, none⟩) K1.out (World.block_lt_of_cell? _ _ c1)).trans c1
        have d2 := (Below.cell (p := ⟨b, off + k * 2 + 1, none⟩) K1.out (World.block_lt_of_cell? _ _ c2)).trans c2
        clear c1 c2
        have bd := I64R.at_ HL.out hlt
        have Y := Lib.hid (wi_yes l k hlt)
        have NN := Lib.hid (wi_no l k hlt)
        have wl := wi_len (l.take k)
        have tl : (l.take k).length ≤ k := List.length_take_le _ _
        have wl2 : (wi (l.take k)).length ≤ 1000000 := by omega
        obtain ⟨lo, elo⟩ : ∃ x, x = (at_ l k).1 := ⟨_, rfl⟩
        obtain ⟨hi', ehi⟩ : ∃ x, x = (at_ l k).2 := ⟨_, rfl⟩
        have EC : Hid (clipR (at_ l k) = (max lo (-1099511627776), min hi' 1099511627776)) := by rw [elo, ehi]; rfl
        rw [← elo] at d1 bd
        rw [← ehi] at d2 bd
        clear elo ehi wl tl
        by_cases a1 : -1099511627776 ≤ lo <;> by_cases a2 : hi' ≤ 1099511627776
        · have e : clipR (at_ l k) = (lo, hi') := by rw [EC.out, Int.max_eq_left a1, Int.min_eq_left a2]
          rw [e] at Y NN
          clear e EC
          by_cases g : ((lo, hi') : R).1 ≤ ((lo, hi') : R).2
          · have g' : lo ≤ hi' := g
            have Z := Lib.hid (Y.out g)
            clear Y NN
            go_wp2_with (at_builtin; refine wpList_append_own _ rfl (.tmp 27) (.tmp 29) 28 rfl w.heap.size 37 i0 (.agg #[.int .i64 0, .int .i64 0]) 2 16 Tryz.underlying28 hi hz0 hz1 hz2 rfl (by decide) _ _ _ rfl ((hown.alloc _).alloc _) ⟨wr.heap.size + 1, 0, none⟩ 1 1 [.int .i64 lo, .int .i64 hi'] rfl rfl (cell_two_next _ _ _ _ _) (by intro u hu; simp at hu; rcases hu with rfl | rfl <;> rfl) (by unfold maxLen; omega) (by omega) (by simp; omega) ?_; intro v1 w1 hown1 hgrow1 hnil1)
            go_roundw
            case rel =>
              exact ⟨k + 1, by omega, by go_num, by rw [Z.out, cellsR_append, List.length_append]; exact hown1, kp_grown K1.out hgrow1 (fun j hj => (hown.lt j hj).1)⟩
            case measure => simp [intOf]; omega
          · have g' : ¬ lo ≤ hi' := g
            have Z := Lib.hid (NN.out g)
            clear Y NN
            go_wp2
            go_roundw
            case rel => exact ⟨k + 1, by omega, by go_num, by rw [Z.out]; exact hown.alloc _, K1.out.trans (Kp.alloc _ _)⟩
            case measure => simp [intOf]; omega
        · have e : clipR (at_ l k) = (lo, 1099511627776) := by rw [EC.out, Int.max_eq_left a1, Int.min_eq_right (by omega)]
          rw [e] at Y NN
          clear e EC
          by_cases g : ((lo, 1099511627776) : R).1 ≤ ((lo, 1099511627776) : R).2
          · have g' : lo ≤ 1099511627776 := g
            have Z := Lib.hid (Y.out g)
            clear Y NN
            go_wp2_with (at_builtin; refine wpList_append_own _ rfl (.tmp 27) (.tmp 29) 28 rfl w.heap.size 37 i0 (.agg #[.int .i64 0, .int .i64 0]) 2 16 Tryz.underlying28 hi hz0 hz1 hz2 rfl (by decide) _ _ _ rfl ((hown.alloc _).alloc _) ⟨wr.heap.size + 1, 0, none⟩ 1 1 [.int .i64 lo, .int .i64 1099511627776] rfl rfl (cell_two_next _ _ _ _ _) (by intro u hu; simp at hu; rcases hu with rfl | rfl <;> rfl) (by unfold maxLen; omega) (by omega) (by simp; omega) ?_; intro v1 w1 hown1 hgrow1 hnil1)
            go_roundw
            case rel =>
              exact ⟨k + 1, by omega, by go_num, by rw [Z.out, cellsR_append, List.length_append]; exact hown1, kp_grown K1.out hgrow1 (fun j hj => (hown.lt j hj).1)⟩
            case measure => simp [intOf]; omega
          · have g' : ¬ lo ≤ 1099511627776 := g
            have Z := Lib.hid (NN.out g)
            clear Y NN
            go_wp2
            go_roundw
            case rel => exact ⟨k + 1, by omega, by go_num, by rw [Z.out]; exact hown.alloc _, K1.out.trans (Kp.alloc _ _)⟩
            case measure => simp [intOf]; omega
        · have e : clipR (at_ l k) = ((-1099511627776), hi') := by rw [EC.out, Int.max_eq_right (by omega), Int.min_eq_left a2]
          rw [e] at Y NN
          clear e EC
          by_cases g : (((-1099511627776), hi') : R).1 ≤ (((-1099511627776), hi') : R).2
          · have g' : (-1099511627776) ≤ hi' := g
            have Z := Lib.hid (Y.out g)
            clear Y NN
            go_wp2_with (at_builtin; refine wpList_append_own _ rfl (.tmp 27) (.tmp 29) 28 rfl w.heap.size 37 i0 (.agg #[.int .i64 0, .int .i64 0]) 2 16 Tryz.underlying28 hi hz0 hz1 hz2 rfl (by decide) _ _ _ rfl ((hown.alloc _).alloc _) ⟨wr.heap.size + 1, 0, none⟩ 1 1 [.int .i64 (-1099511627776), .int .i64 hi'] rfl rfl (cell_two_next _ _ _ _ _) (by intro u hu; simp at hu; rcases hu with rfl | rfl <;> rfl) (by unfold maxLen; omega) (by omega) (by simp; omega) ?_; intro v1 w1 hown1 hgrow1 hnil1)
            go_roundw
            case rel =>
              exact ⟨k + 1, by omega, by go_num, by rw [Z.out, cellsR_append, List.length_append]; exact hown1, kp_grown K1.out hgrow1 (fun j hj => (hown.lt j hj).1)⟩
            case measure => simp [intOf]; omega
          · have g' : ¬ (-1099511627776) ≤ hi' := g
            have Z := Lib.hid (NN.out g)
            clear Y NN
            go_wp2
            go_roundw
            case rel => exact ⟨k + 1, by omega, by go_num, by rw [Z.out]; exact hown.alloc _, K1.out.trans (Kp.alloc _ _)⟩
            case measure => simp [intOf]; omega
        · have e : clipR (at_ l k) = ((-1099511627776), 1099511627776) := by rw [EC.out, Int.max_eq_right (by omega), Int.min_eq_right (by omega)]
          rw [e] at Y NN
          clear e EC
          have g : ((-1099511627776, 1099511627776) : R).1 ≤ ((-1099511627776, 1099511627776) : R).2 := by decide
          have Z := Lib.hid (Y.out g)
          clear Y NN
          go_wp2_with (at_builtin; refine wpList_append_own _ rfl (.tmp 27) (.tmp 29) 28 rfl w.heap.size 37 i0 (.agg #[.int .i64 0, .int .i64 0]) 2 16 Tryz.underlying28 hi hz0 hz1 hz2 rfl (by decide) _ _ _ rfl ((hown.alloc _).alloc _) ⟨wr.heap.size + 1, 0, none⟩ 1 1 [.int .i64 (-1099511627776), .int .i64 1099511627776] rfl rfl (cell_two_next _ _ _ _ _) (by intro u hu; simp at hu; rcases hu with rfl | rfl <;> rfl) (by unfold maxLen; omega) (by omega) (by simp; omega) ?_; intro v1 w1 hown1 hgrow1 hnil1)
          go_roundw
          case rel =>
            exact ⟨k + 1, by omega, by go_num, by rw [Z.out, cellsR_append, List.length_append]; exact hown1, kp_grown K1.out hgrow1 (fun j hj => (hown.lt j hj).1)⟩
          case measure => simp [intOf]; omega
      · have A : wi (l.take k) = wi l := by rw [show k = l.length by omega, List.take_length]
        rw [A] at hown
        clear A
        go_wp2
        go_ret
        exact ⟨_, rfl, hown, K1.out⟩
end Go.Proofs.YtinpglfclbnhlaaGreatDoor

namespace Go.Proofs.YtinpglfclbnhlaaGreatDoor
open Go.RowKit
set_option linter.unusedVariables false
set_option linter.unusedSimpArgs false
theorem runsAt_own {w : World} {base : Nat} {e : TypeId} {v : Value} {l : List R} (h : w.ownsRow base e 2 v l.length (cellsR l)) : RunsAt w v l := by
  rcases h.2 with ⟨e1, h0⟩ | ⟨g, cp, cur, rfl, h2, h3, h4, h5, h6, h7⟩
  · exact .inl ⟨_, _, e1, List.length_eq_zero_iff.1 h0⟩
  · refine .inr ⟨g, 0, cp, rfl, h4, h5, fun i hi => ?_⟩
    have c : ∀ (m : List R) (k : Nat), k < m.length → (cellsR m)[k * 2]? = some (.int .i64 (at_ m k).1) ∧ (cellsR m)[k * 2 + 1]? = some (.int .i64 (at_ m k).2) := by
      intro m
      induction m with
      | nil => intro k hk; simp at hk
      | cons r t ih =>
        intro k hk
        have e : cellsR (r :: t) = [.int .i64 r.1, .int .i64 r.2] ++ cellsR t := by unfold cellsR; simp
        cases k with
        | zero => rw [e]; exact ⟨rfl, rfl⟩
        | succ k =>
          have g := ih k (by simpa using hk)
          rw [e, List.getElem?_append_right (by simp; omega), List.getElem?_append_right (by simp; omega)]
          rw [show (k + 1) * 2 - [Value.int .i64 r.1, Value.int .i64 r.2].length = k * 2 by simp; omega, show (k + 1) * 2 + 1 - [Value.int .i64 r.1, Value.int .i64 r.2].length = k * 2 + 1 by simp; omega]
          exact g
    obtain ⟨c1, c2⟩ := c l i hi
    rw [Nat.zero_add, h.cellAt _ (by omega), h.cellAt _ (by omega)]
    exact ⟨c1, c2⟩
theorem own_mono {w : World} {base base' : Nat} {e : TypeId} {size : Nat} {v : Value} {n : Nat} {xs : List Value} (h : w.ownsRow base e size v n xs) (hb : base' ≤ base) : w.ownsRow base' e size v n xs :=
  ⟨h.1, h.2.imp id fun ⟨g, cap, cur, e1, h1, r⟩ => ⟨g, cap, cur, e1, Nat.le_trans hb h1, r⟩⟩
theorem own_kp {w w' : World} {base : Nat} {e : TypeId} {size : Nat} {v : Value} {n : Nat} {xs : List Value} (h : w.ownsRow base e size v n xs) (k : Kp w w') : w'.ownsRow base e size v n xs := by
  refine ⟨h.1, ?_⟩
  rcases h.2 with h2 | ⟨g, cap, cur, e1, hb, hg, rest⟩
  · exact .inl h2
  · exact .inr ⟨g, cap, cur, e1, hb, (k.block g (h.lt g (by rw [e1]; rfl)).2).trans hg, rest⟩
theorem cells_idx : ∀ (m : List R) (j : Nat), j < m.length * 2 → (cellsR m)[j]? = some (.int .i64 (if j % 2 = 0 then (at_ m (j / 2)).1 else (at_ m (j / 2)).2)) := by
  intro m
  induction m with
  | nil => intro j hj; simp at hj
  | cons r t ih =>
    intro j hj
    have e : cellsR (r :: t) = .int .i64 r.1 :: .int .i64 r.2 :: cellsR t := by unfold cellsR; simp
    rw [e]
    match j with
    | 0 => rfl
    | 1 => rfl
    | j + 2 =>
      have g := ih j (by simp at hj; omega)
      rw [List.getElem?_cons_succ, List.getElem?_cons_succ, g, show (j + 2) / 2 = j / 2 + 1 by omega, show (j + 2) % 2 = j % 2 by omega]
      rfl
theorem wi_ok {l : List R} : ∀ r ∈ wi l, okR r := by
  intro r hr
  unfold wi at hr
  simp only [List.mem_filter, List.mem_map, decide_eq_true_eq] at hr
  obtain ⟨⟨q, _, rfl⟩, h⟩ := hr
  exact ⟨h, by unfold clipR; simp only; omega, by unfold clipR; simp only; omega⟩
theorem wi_mem (l : List R) (n : Int) : memR (wi l) n ↔ memR l n := by
  unfold memR wi
  constructor
  · rintro ⟨r, hr, g1, g2, g3⟩
    simp only [List.mem_filter, List.mem_map, decide_eq_true_eq] at hr
    obtain ⟨⟨q, hq, rfl⟩, h⟩ := hr
    have := (clip_mem q n).1 ⟨g1, g2⟩
    exact ⟨q, hq, this.1, this.2.1, g3⟩
  · rintro ⟨q, hq, g1, g2, g3⟩
    have := (clip_mem q n).2 ⟨g1, g2, g3⟩
    refine ⟨clipR q, ?_, this.1, this.2, g3⟩
    simp only [List.mem_filter, List.mem_map, decide_eq_true_eq]
    exact ⟨⟨q, hq, rfl⟩, by omega⟩
theorem ok_i64 {l : List R} (h : ∀ r ∈ l, okR r) : I64R l := by
  intro r hr
  obtain ⟨a, b, c⟩ := h r hr
  omega
theorem sane_ok {l : List R} (h : sane l) : ∀ r ∈ l, okR r := by
  intro r hr
  obtain ⟨i, hi, e⟩ := List.getElem_of_mem hr
  have := ((sane_idx l).1 h i hi).1
  unfold at_ at this
  simp [List.getD, hi, e] at this
  exact this
theorem own_slice {w : World} {base : Nat} {e : TypeId} {size : Nat} {v : Value} {n : Nat} {xs : List Value} (h : w.ownsRow base e size v n xs) : ∃ ad c, v = .slice ad n c := by
  rcases h.2 with ⟨rfl, rfl⟩ | ⟨g, cp, cur, rfl, _⟩
  · exact ⟨_, _, rfl⟩
  · exact ⟨_, _, rfl⟩
theorem cell_up {w w' : World} (k : Kp w w') {b o : Nat} {x : Value} (c : w.cell? ⟨b, o, none⟩ = some x) : w'.cell? ⟨b, o, none⟩ = some x :=
  (Below.cell (p := ⟨b, o, none⟩) k (World.block_lt_of_cell? _ _ c)).trans c
theorem heap_at (W : World) (o : Obj) (B : Nat) (h : W.heap.size = B) : (W.alloc o).heap[B]? = some o := by subst h; show (W.heap.push o)[W.heap.size]? = some o; simp
theorem heap_block {w w' : World} (k : Kp w w') {b : Nat} {o : Obj} (h : w.heap[b]? = some o) : w'.heap[b]? = some o := (k.block b (Array.getElem?_eq_some_iff.1 h).1).trans h
end Go.Proofs.YtinpglfclbnhlaaGreatDoor

namespace Go.Proofs.YtinpglfclbnhlaaGreatDoor
open Go.RowKit
set_option linter.unusedVariables false
set_option linter.unusedSimpArgs false
/-- a slice whose elements' cells are these -/
def SrcAt (w : World) (sv : Value) (m : Nat) (news : List Value) : Prop :=
  (∃ ad cp, sv = .slice ad 0 cp ∧ m = 0 ∧ news = []) ∨ ∃ ad c, sv = .slice (some ad) m c ∧ ∀ j u, news[j]? = some u → w.cell? (ad.add j) = some u
theorem run_append_zero {P : Program} (w : World) (base : Nat) (t ty e : TypeId) (i : TypeInfo) (size : Nat) (ht : P.underlying t = some (.slice e)) (hi : P.info? e = some i)
    (v : Value) (n : Nat) (xs : List Value) (hown : w.ownsRow base e size v n xs) (ad : Option Addr) (cp : Nat) :
    (Builtin.append_ #[t, t] ty #[v, .slice ad 0 cp]).run P w = .ok v w := by
  rcases hown.2 with ⟨rfl, rfl⟩ | ⟨g, cap, cur, rfl, _, _, hnc, _⟩
  · cases ad <;> simp [Builtin.append_, run_underlying ht, sizeOf, typeInfo, hi, Builtin.lenOf, Builtin.firstCells, loadCells, loadCellsFrom]
  · cases ad <;> simp [Builtin.append_, run_underlying ht, sizeOf, typeInfo, hi, Builtin.lenOf, Builtin.firstCells, hnc, storeCells, loadCells, loadCellsFrom]
theorem wpList_app {P : Program} {w : World} {ops : Array Oper} {rest : List Oper} {o : Oper} {a : Act} {Q : Exit → Act → World → Prop} (hgd : o.guard = none) (s x : Operand) (t : TypeId)
    (ho : o.op = .call { callee := .builtin .append, args := #[s, x], argTypes := #[t, t] })
    (base : Nat) (e : TypeId) (i : TypeInfo) (z : Value) (size bytes : Nat) (ht : P.underlying t = some (.slice e)) (hi : P.info? e = some i) (hz : i.zero = some z)
    (hsize : i.size = size) (hby : i.bytes = bytes) (hzs : z.cells.size = size) (hsz : 0 < size)
    (v : Value) (n : Nat) (xs : List Value) (hs : a.eval s = v) (hown : w.ownsRow base e size v n xs)
    (sv : Value) (m : Nat) (news : List Value) (hx : a.eval x = sv) (hsrc : SrcAt w sv m news) (hl : news.length = m * size) (h1 : ∀ u ∈ news, u.oneCell' = true)
    (h63 : n + m ≤ maxLen) (hbytes : (n + m) * bytes ≤ 140737488355328) (hbase : base ≤ w.heap.size)
    (h : ∀ v' w', w'.ownsRow base e size v' (n + m) (xs ++ news) → w.grownBy w' v.ownBlock → (v'.ownBlock = v.ownBlock ∨ v'.ownBlock = some w.heap.size) → wpList P ops Q rest (a.put o.dst v') w') : wpList P ops Q (o :: rest) a w := by
  refine wpList_plain hgd fun K hK => ?_
  have : ∃ v' w', (Builtin.append_ #[t, t] o.type #[v, sv]).run P w = .ok v' w' ∧ w'.ownsRow base e size v' (n + m) (xs ++ news) ∧ w.grownBy w' v.ownBlock ∧ (v'.ownBlock = v.ownBlock ∨ v'.ownBlock = some w.heap.size) := by
    rcases hsrc with ⟨ad, cp, rfl, rfl, rfl⟩ | ⟨ad, c, rfl, hn⟩
    · exact ⟨v, w, run_append_zero w base t o.type e i size ht hi v n xs hown ad cp, by simpa using hown, ⟨rfl, rfl, rfl, Nat.le_refl _, fun _ _ _ => rfl⟩, .inl rfl⟩
    · obtain ⟨v', w', hr, h2, h3, _, h5⟩ := run_append_own_at (P := P) w base t o.type e i z size bytes ht hi hz hsize hby hzs hsz v n xs hown ad m c news hl hn h1 h63 hbytes hbase
      exact ⟨v', w', hr, h2, h3, h5⟩
  obtain ⟨v', w', hr, h2, h3, h4⟩ := this
  unfold Oper.wp execOp
  simp only [ho, resolve, invoke, builtin, Sem.run_bind, Sem.run_pure, Result.andThen_ok, List.map_toArray, List.map_cons, List.map_nil, hs, hx, hr]
  exact hK _ _ (h v' w' h2 h3 h4)
theorem RunsAt.src {w : World} {v : Value} {l : List R} (h : RunsAt w v l) : SrcAt w v l.length (cellsR l) := by
  rcases h with ⟨ad, cp, rfl, rfl⟩ | ⟨b, off, cap, rfl, _, _, hx⟩
  · exact .inl ⟨_, _, rfl, rfl, rfl⟩
  · refine .inr ⟨_, _, rfl, fun j u hu => ?_⟩
    have hj : j < l.length * 2 := by
      have := (List.getElem?_eq_some_iff.1 hu).1
      rwa [cellsR_length] at this
    rw [cells_idx l j hj] at hu
    cases hu
    obtain ⟨c1, c2⟩ := hx (j / 2) (by omega)
    rw [Addr.add_lit]
    by_cases e : j % 2 = 0
    · rw [if_pos e, show off + j = off + j / 2 * 2 by omega]; exact c1
    · rw [if_neg e, show off + j = off + j / 2 * 2 + 1 by omega]; exact c2
theorem cells_one (l : List R) : ∀ u ∈ cellsR l, u.oneCell' = true := by
  intro u hu
  unfold cellsR at hu
  simp only [List.mem_flatMap, List.mem_cons, List.not_mem_nil, or_false] at hu
  obtain ⟨r, _, h | h⟩ := hu <;> subst h <;> rfl
/-- a run that is built: the slice of it -/
theorem one_at (w : World) (lo hi' : Int) (t : TypeId) : RunsAt (w.alloc (.cells #[.int .i64 lo, .int .i64 hi'] t)) (.slice (some ⟨w.heap.size, 0, none⟩) 1 1) [(lo, hi')] := by
  refine .inr ⟨w.heap.size, 0, 1, rfl, Nat.le_refl _, by unfold maxLen; omega, fun i hi => ?_⟩
  obtain rfl : i = 0 := by simp at hi; omega
  exact ⟨by simp [at_], by simp [at_]⟩
theorem one_src (w : World) (lo hi' : Int) (t : TypeId) : SrcAt (w.alloc (.cells #[.int .i64 lo, .int .i64 hi'] t)) (.slice (some ⟨w.heap.size, 0, none⟩) 1 1) 1 [.int .i64 lo, .int .i64 hi'] := (one_at w lo hi' t).src
theorem own_len {w : World} {base : Nat} {e : TypeId} {v : Value} {l m : List R} (h : w.ownsRow base e 2 v (l.length + m.length) (cellsR l ++ cellsR m)) : w.ownsRow base e 2 v (l ++ m).length (cellsR (l ++ m)) := by
  rw [cellsR_append, List.length_append]; exact h
theorem own_snoc {w : World} {base : Nat} {e : TypeId} {v : Value} {l : List R} {lo hi' : Int} (h : w.ownsRow base e 2 v (l.length + 1) (cellsR l ++ [.int .i64 lo, .int .i64 hi'])) : w.ownsRow base e 2 v (l ++ [(lo, hi')]).length (cellsR (l ++ [(lo, hi')])) := own_len (m := [(lo, hi')]) h
/-- what else lies there stays -/
theorem grown_cell {w w1 : World} {row : Option Nat} {B o : Nat} (g : w.grownBy w1 row) (hB : B < w.heap.size) (hn : ∀ j, row = some j → j ≠ B) : w1.cell? ⟨B, o, none⟩ = w.cell? ⟨B, o, none⟩ :=
  World.cell?_of_block (w := w) (g.block B hB (fun c => hn B c.symm rfl))
theorem grown_frozen {w w1 : World} {row : Option Nat} {B o : Nat} (g : w.grownBy w1 row) (hB : B < w.heap.size) (hn : ∀ j, row = some j → j ≠ B) : w1.frozen? ⟨B, o, none⟩ = w.frozen? ⟨B, o, none⟩ :=
  World.frozen?_of_block (w := w) (g.block B hB (fun c => hn B c.symm rfl))
/-- two rows that lie apart -/
def Apart (v u : Value) : Prop := ∀ g, v.ownBlock = some g → u.ownBlock ≠ some g
theorem Apart.symm {v u : Value} (h : Apart v u) : Apart u v := fun g a b => h g b a
theorem Apart.nil (u : Value) : Apart (.slice none 0 0) u := fun g h => by cases h
theorem own_apart {w w1 : World} {base : Nat} {e : TypeId} {size : Nat} {v u : Value} {n : Nat} {xs : List Value} (hu : w.ownsRow base e size u n xs) (g : w.grownBy w1 v.ownBlock) (h : Apart v u) : w1.ownsRow base e size u n xs := by
  refine hu.kept g ?_
  cases hv : u.ownBlock with
  | none => exact .inl rfl
  | some k => exact .inr fun c => h k c.symm hv
theorem apart_step {w : World} {base : Nat} {e : TypeId} {size : Nat} {v v' u : Value} {n : Nat} {xs : List Value} (h : Apart v u) (hu : w.ownsRow base e size u n xs) (at' : v'.ownBlock = v.ownBlock ∨ v'.ownBlock = some w.heap.size) : Apart v' u := by
  intro g hg hc
  rcases at' with a | a
  · exact h g (by rw [← a]; exact hg) hc
  · rw [a] at hg
    have := (hu.lt g hc).2
    cases hg
    omega
theorem Kp.grown {w wr w1 : World} {row : Option Nat} (k : Kp w wr) (g : wr.grownBy w1 row) (h : ∀ j, row = some j → w.heap.size ≤ j) : Kp w w1 :=
  Below.grown k g k.size h
end Go.Proofs.YtinpglfclbnhlaaGreatDoor

namespace Go.Proofs.YtinpglfclbnhlaaGreatDoor
open Go.RowKit
set_option linter.unusedVariables false
set_option linter.unusedSimpArgs false
theorem rd_at {w wr : World} {b off : Nat} {l : List R} (hx : ∀ i, i < l.length → w.cell? ⟨b, off + i * 2, none⟩ = some (.int .i64 (at_ l i).1) ∧ w.cell? ⟨b, off + i * 2 + 1, none⟩ = some (.int .i64 (at_ l i).2)) (k : Kp w wr) (i : Nat) (hi : i < l.length) :
    wr.cell? ⟨b, off + i * 2, none⟩ = some (.int .i64 (at_ l i).1) ∧ wr.cell? ⟨b, off + i * 2 + 1, none⟩ = some (.int .i64 (at_ l i).2) := by
  obtain ⟨c1, c2⟩ := hx i hi
  exact ⟨(Below.cell (p := ⟨b, off + i * 2, none⟩) k (World.block_lt_of_cell? _ _ c1)).trans c1, (Below.cell (p := ⟨b, off + i * 2 + 1, none⟩) k (World.block_lt_of_cell? _ _ c2)).trans c2⟩
set_option maxHeartbeats 1000000 in
theorem rsane_any (v : Value) (l : List R) (w : World) (hv : RunsAt w v l) (hl : I64R l) :
    Calls Tryz.prog 53 #[v] w fun e w' => e = .returned (.bool (saneB l)) ∧ Kp w w' := by
  rcases hv with ⟨ad0, cp0, rfl, rfl⟩ | ⟨b, off, cap, rfl, hc, hm, hx⟩
  · rw [saneB_yes (l := []) trivial]
    go_enter Tryz.func53, Tryz.ntmps53
    go_wp2
    go_loopw [3] (fun i wr => i = .int .i64 0 ∧ Kp w wr) (fun _ _ => 0)
    case atStart => exact ⟨rfl, Kp.refl _⟩
    case round =>
      obtain ⟨rfl, k1⟩ := hrel
      go_wp2
      go_ret
      exact ⟨rfl, k1⟩
  · have hm2 : l.length ≤ 9223372036854775807 := by unfold maxLen at hm; omega
    have HX := Lib.hid hx
    have HL := Lib.hid hl
    clear hx hl
    go_enter Tryz.func53, Tryz.ntmps53
    go_wp2
    go_loopw [3] (fun i wr => ∃ k : Nat, k ≤ l.length ∧ i = .int .i64 k ∧ Hid (Pre l k) ∧ Kp w wr) (fun i _ => l.length - (intOf i).toNat)
    case atStart => exact ⟨0, Nat.zero_le _, rfl, fun i hi => absurd hi (Nat.not_lt_zero _), Kp.refl _⟩
    case round =>
      obtain ⟨k, hk, rfl, P, k1⟩ := hrel
      have K1 := Lib.hid k1
      clear k1
      by_cases hlt : k < l.length
      · obtain ⟨d1, d2⟩ := rd_at HX.out K1.out k hlt
        have bd := I64R.at_ HL.out hlt
        have N := Lib.hid (not_sane (l := l) hlt)
        have NX := Lib.hid (fun g => Pre.next P.out (k := k) (l := l) g)
        obtain ⟨lo, elo⟩ : ∃ x, x = (at_ l k).1 := ⟨_, rfl⟩
        obtain ⟨hi, ehi⟩ : ∃ x, x = (at_ l k).2 := ⟨_, rfl⟩
        rw [← elo] at d1 bd
        rw [← ehi] at d2 bd
        have E := Lib.hid (And.intro elo ehi)
        clear elo ehi
        have z0 : (0 : Int) ≤ (k : Int) := by omega
        have z1 : (k : Int) < (l.length : Int) := by omega
        by_cases ok : lo ≤ hi ∧ -1099511627776 ≤ lo ∧ hi ≤ 1099511627776
        · have okk : Hid (okR (at_ l k)) := by unfold Hid okR; rw [← E.out.1, ← E.out.2]; exact ok
          obtain ⟨o1, o2, o3⟩ := ok
          have q1 : decide (hi < lo) = false := decide_eq_false (by omega)
          have q2 : decide (lo < -1099511627776) = false := decide_eq_false (by omega)
          have q3 : decide (1099511627776 < hi) = false := decide_eq_false (by omega)
          by_cases k0 : k = 0
          · have P2 := Lib.hid (NX.out ⟨okk.out, fun h => by omega⟩)
            have g1 : decide (0 < k) = false := by simp; omega
            have K0 := Lib.hid k0
            clear k0
            go_wp2
            go_quiet (fail)
            go_wp2
            go_roundw
            case rel => exact ⟨k + 1, by omega, by go_num, P2.out, K1.out.trans (Kp.drewN _ _)⟩
            case measure => simp [intOf]; omega
          · have hlt2 : k - 1 < l.length := by omega
            obtain ⟨_, d3⟩ := rd_at HX.out K1.out (k - 1) hlt2
            have bd2 := (P.out (k - 1) (by omega)).1
            obtain ⟨ph, eph⟩ : ∃ x, x = (at_ l (k - 1)).2 := ⟨_, rfl⟩
            obtain ⟨b1, b2, b3⟩ := bd2
            have b4 : -1099511627776 ≤ ph := by omega
            have b5 : ph ≤ 1099511627776 := by omega
            rw [← eph] at d3
            have E2 := Lib.hid eph
            clear eph b1 b2 b3
            have g1 : decide (0 < k) = true := by simp; omega
            have g0 : 0 < k := by omega
            have wr1 : IntKind.i64.wrap (lo - 1) = lo - 1 := by rw [IntKind.wrap_i64]; omega
            have wr0 : IntKind.i64.wrap ((k : Int) - 1) = ((k - 1 : Nat) : Int) := by rw [IntKind.wrap_i64]; omega
            have hlt3 : ((k - 1 : Nat) : Int) < l.length := by omega
            by_cases gp : ph + 1 < lo
            · have P2 := Lib.hid (NX.out ⟨okk.out, fun h => by rw [← E.out.1, ← E2.out]; exact gp⟩)
              have g2 : decide (lo - 1 ≤ ph) = false := by simp; omega
              go_wp2
              go_quiet (fail)
              go_wp2
              go_roundw
              case rel => exact ⟨k + 1, by omega, by go_num, P2.out, K1.out.trans (Kp.drewN _ _)⟩
              case measure => simp [intOf]; omega
            · have g2 : decide (lo - 1 ≤ ph) = true := by simp; omega
              have bad : Hid (saneB l = false) := N.out fun g => gp (by have := g.2 (by omega); rw [E.out.1, E2.out]; exact this)
              go_wp2
              go_quiet (fail)
              go_wp2
              go_ret
              exact ⟨ret_bool bad.out.symm, K1.out.trans (Kp.drewN _ _)⟩
        · have bad : Hid (saneB l = false) := N.out fun g => ok (by have := g.1; unfold okR at this; rw [← E.out.1, ← E.out.2] at this; exact this)
          have o : (hi < lo) ∨ (lo ≤ hi ∧ lo < -1099511627776) ∨ (lo ≤ hi ∧ -1099511627776 ≤ lo ∧ 1099511627776 < hi) := by omega
          clear ok
          rcases o with o1 | ⟨o1, o2⟩ | ⟨o1, o2, o3⟩
          · have q1 : decide (hi < lo) = true := decide_eq_true (by omega)
            go_wp2
            go_quiet (fail)
            go_wp2
            go_ret
            exact ⟨ret_bool bad.out.symm, K1.out.trans (Kp.drewN _ _)⟩
          · have q1 : decide (hi < lo) = false := decide_eq_false (by omega)
            have q2 : decide (lo < -1099511627776) = true := decide_eq_true (by omega)
            go_wp2
            go_quiet (fail)
            go_wp2
            go_ret
            exact ⟨ret_bool bad.out.symm, K1.out.trans (Kp.drewN _ _)⟩
          · have q1 : decide (hi < lo) = false := decide_eq_false (by omega)
            have q2 : decide (lo < -1099511627776) = false := decide_eq_false (by omega)
            have q3 : decide (1099511627776 < hi) = true := decide_eq_true (by omega)
            go_wp2
            go_quiet (fail)
            go_wp2
            go_ret
            exact ⟨ret_bool bad.out.symm, K1.out.trans (Kp.drewN _ _)⟩
      · have A := Lib.hid (saneB_yes (Pre.all (l := l) (by have := P.out; rwa [show k = l.length by omega] at this)))
        go_wp2
        go_ret
        exact ⟨ret_bool A.out.symm, K1.out⟩
end Go.Proofs.YtinpglfclbnhlaaGreatDoor

namespace Go.Proofs.YtinpglfclbnhlaaGreatDoor
set_option linter.unusedVariables false
def jstep (a : List R) (r : R) : List R :=
  if a = [] then [r] else if r.1 ≤ (a.getLastD (0, 0)).2 + 1 then a.dropLast ++ [((a.getLastD (0, 0)).1, max (a.getLastD (0, 0)).2 r.2)] else a ++ [r]
def jn (l : List R) : List R := l.foldl jstep []
theorem jn_snoc (l : List R) (r : R) : jn (l ++ [r]) = jstep (jn l) r := by unfold jn; simp
/-- a list that ends in q -/
theorem snoc_cases (a : List R) : a = [] ∨ ∃ b q, a = b ++ [q] := by
  rcases List.eq_nil_or_concat a with h | ⟨b, q, h⟩
  · exact .inl h
  · exact .inr ⟨b, q, by simpa using h⟩
theorem jstep_snoc (b : List R) (q r : R) : jstep (b ++ [q]) r = if r.1 ≤ q.2 + 1 then b ++ [(q.1, max q.2 r.2)] else b ++ [q] ++ [r] := by
  unfold jstep; simp
theorem jstep_len (a : List R) (r : R) : (jstep a r).length ≤ a.length + 1 := by
  rcases snoc_cases a with rfl | ⟨b, q, rfl⟩
  · simp [jstep]
  · rw [jstep_snoc]; split <;> simp
theorem jn_len (l : List R) : (jn l).length ≤ l.length := by
  have : ∀ (t a : List R), (t.foldl jstep a).length ≤ a.length + t.length := by
    intro t
    induction t with
    | nil => intro a; simp
    | cons r t ih => intro a; have := ih (jstep a r); have := jstep_len a r; simp at *; omega
  simpa [jn] using this l []
/-- a set with a run behind it -/
theorem sane_snoc {a : List R} {r : R} : sane (a ++ [r]) ↔ sane a ∧ okR r ∧ ∀ b q, a = b ++ [q] → q.2 + 1 < r.1 := by
  induction a with
  | nil => exact ⟨fun h => ⟨trivial, sane_head h, fun b q e => by cases b <;> simp at e⟩, fun h => ⟨h.2.1, trivial, trivial⟩⟩
  | cons s t ih =>
    constructor
    · intro h
      have h2 : sane (t ++ [r]) := sane_tail h
      obtain ⟨a1, a2, a3⟩ := ih.1 h2
      cases t with
      | nil =>
        refine ⟨⟨sane_head h, trivial, trivial⟩, a2, ?_⟩
        intro b q e
        cases b with
        | nil => simp at e; rw [← e]; exact h.2.1
        | cons c d => cases d <;> simp at e
      | cons u v =>
        refine ⟨⟨sane_head h, h.2.1, a1⟩, a2, ?_⟩
        intro b q e
        cases b with
        | nil => simp at e
        | cons c d => simp at e; exact a3 d q e.2
    · rintro ⟨a1, a2, a3⟩
      have h2 : sane (t ++ [r]) := ih.2 ⟨sane_tail a1, a2, fun b q e => a3 (s :: b) q (by rw [e]; rfl)⟩
      refine sane_cons (sane_head a1) ?_ h2
      intro x y e
      cases t with
      | nil => simp at e; rw [← e.1]; exact a3 [] s rfl
      | cons u v => simp at e; rw [← e.1]; exact a1.2.1
theorem snoc_ind {P : List R → Prop} (h0 : P []) (h1 : ∀ l r, P l → P (l ++ [r])) : ∀ l, P l := by
  have : ∀ (n : Nat) (l : List R), l.length = n → P l := by
    intro n
    induction n with
    | zero => intro l e; rw [List.eq_nil_of_length_eq_zero e]; exact h0
    | succ n ih =>
      intro l e
      rcases snoc_cases l with rfl | ⟨b, q, rfl⟩
      · simp at e
      · exact h1 b q (ih b (by simpa using e))
  exact fun l => this l.length l rfl
/-- by rising least numbers -/
def rises (l : List R) : Prop := l.Pairwise fun a b => a.1 ≤ b.1
/-- the state of the joining: a set, no run of which begins later -/
theorem jn_ok : ∀ (l : List R), (∀ r ∈ l, okR r) → rises l → sane (jn l) ∧ (∀ n, memR (jn l) n ↔ memR l n) ∧ (∀ q ∈ jn l, ∃ r ∈ l, q.1 = r.1) := by
  refine snoc_ind ?_ ?_
  · intro _ _; exact ⟨trivial, fun _ => Iff.rfl, fun q h => by cases h⟩
  · intro l r ih ho hs
    have hs2 := List.pairwise_append.1 hs
    obtain ⟨i1, i2, i3⟩ := ih (fun x hx => ho x (List.mem_append_left _ hx)) hs2.1
    have or_ := ho r (by simp)
    rw [jn_snoc]
    rcases snoc_cases (jn l) with e | ⟨b, q, e⟩
    · rw [e]
      have : jstep [] r = [r] := by simp [jstep]
      rw [this]
      refine ⟨⟨or_, trivial, trivial⟩, fun n => ?_, fun x hx => ⟨r, by simp, by simp at hx; rw [hx]⟩⟩
      rw [memR_append, ← i2 n, e]
      exact ⟨.inr, fun h => h.elim (fun h => absurd h (memR_nil n)) id⟩
    · rw [e, jstep_snoc]
      rw [e] at i1 i2 i3
      obtain ⟨s1, s2, s3⟩ := sane_snoc.1 i1
      obtain ⟨y, hy, ey⟩ := i3 q (by simp)
      have lo : q.1 ≤ r.1 := by rw [ey]; exact hs2.2.2 y hy r (by simp)
      have oq := s2
      obtain ⟨o1, o2, o3⟩ := or_
      obtain ⟨p1, p2, p3⟩ := oq
      by_cases c : r.1 ≤ q.2 + 1
      · rw [if_pos c]
        refine ⟨sane_snoc.2 ⟨s1, ⟨by show q.1 ≤ max q.2 r.2; omega, p2, by show max q.2 r.2 ≤ _; omega⟩, s3⟩, fun n => ?_, ?_⟩
        · rw [memR_append, memR_append, ← i2 n, memR_append, memR_cons, memR_cons, memR_cons]
          have := memR_nil n
          simp only
          constructor
          · rintro (h | h | h)
            · exact .inl (.inl h)
            · by_cases k : n ≤ q.2
              · exact .inl (.inr (.inl ⟨h.1, k, h.2.2⟩))
              · exact .inr (.inl ⟨by omega, by omega, h.2.2⟩)
            · exact absurd h this
          · rintro ((h | h | h) | h | h)
            · exact .inl h
            · exact .inr (.inl ⟨h.1, by omega, h.2.2⟩)
            · exact absurd h this
            · exact .inr (.inl ⟨by omega, by omega, h.2.2⟩)
            · exact absurd h this
        · intro x hx
          simp at hx
          rcases hx with hx | rfl
          · obtain ⟨z, hz, ez⟩ := i3 x (by simp [hx]); exact ⟨z, by simp [hz], ez⟩
          · exact ⟨y, by simp [hy], ey⟩
      · rw [if_neg c]
        refine ⟨sane_snoc.2 ⟨i1, ⟨o1, o2, o3⟩, ?_⟩, fun n => ?_, ?_⟩
        · intro b' q' e'
          have := List.append_inj_right' e' rfl
          simp at this
          rw [← this]; omega
        · rw [memR_append _ [r], memR_append l, i2 n]
        · intro x hx
          simp at hx
          rcases hx with hx | rfl | rfl
          · obtain ⟨z, hz, ez⟩ := i3 x (by simp [hx]); exact ⟨z, by simp [hz], ez⟩
          · exact ⟨y, by simp [hy], ey⟩
          · exact ⟨x, by simp, rfl⟩
theorem jn_all : ∀ (l : List R), (∀ r ∈ l, okR r) → ∀ q ∈ jn l, okR q := by
  refine snoc_ind ?_ ?_
  · intro _ q h; cases h
  · intro l r ih ho
    have i := ih (fun x hx => ho x (List.mem_append_left _ hx))
    have o := ho r (by simp)
    rw [jn_snoc]
    rcases snoc_cases (jn l) with e | ⟨b, q, e⟩
    · rw [e, show jstep [] r = [r] by simp [jstep]]
      intro x hx
      simp at hx; rw [hx]; exact o
    · rw [e] at i
      rw [e, jstep_snoc]
      obtain ⟨o1, o2, o3⟩ := o
      obtain ⟨p1, p2, p3⟩ := i q (by simp)
      intro x hx
      split at hx
      · simp at hx
        rcases hx with hx | rfl
        · exact i x (by simp [hx])
        · exact ⟨by show q.1 ≤ max q.2 r.2; omega, p2, by show max q.2 r.2 ≤ _; omega⟩
      · simp at hx
        rcases hx with hx | rfl | rfl
        · exact i x (by simp [hx])
        · exact i x (by simp)
        · exact ⟨o1, o2, o3⟩
end Go.Proofs.YtinpglfclbnhlaaGreatDoor

namespace Go.Proofs.YtinpglfclbnhlaaGreatDoor
open Go.RowKit
set_option linter.unusedVariables false
theorem cells_set (bb : List R) (q1 q2 x : Int) : (cellsR (bb ++ [(q1, q2)])).set (bb.length * 2 + 1) (.int .i64 x) = cellsR (bb ++ [(q1, x)]) := by
  rw [cellsR_append, cellsR_append, List.set_append_right _ _ (by rw [cellsR_length]; omega), cellsR_length]
  congr 1
  rw [show bb.length * 2 + 1 - bb.length * 2 = 1 by omega]
  rfl
theorem own_drewN {w : World} {base : Nat} {e : TypeId} {size : Nat} {v : Value} {n : Nat} {xs : List Value} (h : w.ownsRow base e size v n xs) (k : Nat) : (w.drewN k).ownsRow base e size v n xs := h
theorem own_two {w : World} {base : Nat} {e : TypeId} {size : Nat} {v : Value} {n : Nat} {xs : List Value} (h : w.ownsRow base e size v n xs) (o1 : Obj) (k : Nat) (o2 : Obj) : (((w.alloc o1).drewN k).alloc o2).ownsRow base e size v n xs :=
  (own_drewN (h.alloc o1) k).alloc o2
theorem cell_two_last (w : World) (o : Obj) (k : Nat) (a b : Value) (t : TypeId) : ∀ j u, [a, b][j]? = some u → (((w.alloc o).drewN k).alloc (.cells #[a, b] t)).cell? ((⟨w.heap.size + 1, 0, none⟩ : Addr).add j) = some u := by
  have h := cell_two_new ((w.alloc o).drewN k) a b t
  simpa using h
theorem kp_grown_d {w wr w1 : World} {v : Value} {o1 o2 : Obj} {n : Nat} (k : Kp w wr) (g : (((wr.alloc o1).drewN n).alloc o2).grownBy w1 v.ownBlock) (h : ∀ j, v.ownBlock = some j → w.heap.size ≤ j) : Kp w w1 := by
  have s : w.heap.size ≤ wr.heap.size := k.size
  have k2 : Below w.heap.size w (((wr.alloc o1).drewN n).alloc o2) := (below_drewN (Below.alloc k s o1) n).alloc (by simp; omega) o2
  exact k2.grown g (by simp; omega) h
set_option maxHeartbeats 2000000 in
set_option maxRecDepth 100000 in
theorem joined_any (v : Value) (l : List R) (w : World) (hv : RunsAt w v l) (hl : ∀ r ∈ l, okR r) (hn : l.length ≤ 1000000) :
    Calls Tryz.prog 80 #[v] w fun e w' => ∃ v' : Value, e = .returned v' ∧ w'.ownsRow w.heap.size 37 2 v' (jn l).length (cellsR (jn l)) ∧ Kp w w' := by
  obtain ⟨i0, hi, hz0, hz1, hz2⟩ := info_parts infoR
  rcases hv with ⟨ad0, cp0, rfl, rfl⟩ | ⟨b, off, cap, rfl, hc, hm, hx⟩
  · go_enter Tryz.func80, Tryz.ntmps80
    go_wp2
    go_loopw [3, 9] (fun v i wr => i = .int .i64 0 ∧ v = .slice none 0 0 ∧ Kp w wr) (fun _ _ _ => 0)
    case atStart => exact ⟨rfl, rfl, Kp.refl _⟩
    case round =>
      obtain ⟨rfl, rfl, k1⟩ := hrel
      go_wp2
      go_ret
      exact ⟨_, rfl, World.ownsRow_nil _ _ _ _, k1⟩
  · have hm2 : l.length ≤ 9223372036854775807 := by unfold maxLen at hm; omega
    have HX := Lib.hid hx
    have HL := Lib.hid hl
    clear hx hl
    go_enter Tryz.func80, Tryz.ntmps80
    go_wp2
    go_loopw [3, 9] (fun v i wr => ∃ k : Nat, k ≤ l.length ∧ i = .int .i64 k ∧ wr.ownsRow w.heap.size 37 2 v (jn (l.take k)).length (cellsR (jn (l.take k))) ∧ Kp w wr) (fun _ i _ => l.length - (intOf i).toNat)
    case atStart => exact ⟨0, Nat.zero_le _, rfl, World.ownsRow_nil _ _ _ _, Kp.refl _⟩
    case round =>
      obtain ⟨k, hk, rfl, hown, k1⟩ := hrel
      have K1 := Lib.hid k1
      have hsz := k1.size
      clear k1
      by_cases hlt : k < l.length
      · obtain ⟨c1, c2⟩ := HX.out k hlt
        have d1 := (Below.cell (p := ⟨b, off + k * 2, none⟩) K1.out (World.block_lt_of_cell? _ _ c1)).trans c1
        have d2 := (Below.cell (p := ⟨b, off + k * 2 + 1, none⟩) K1.out (World.block_lt_of_cell? _ _ c2)).trans c2
        clear c1 c2
        have mem : at_ l k ∈ l := by
          have : at_ l k = l[k] := by unfold at_; simp [List.getD, hlt]
          rw [this]; exact List.getElem_mem hlt
        obtain ⟨o1, o2, o3⟩ := HL.out _ mem
        have S := Lib.hid (show jn (l.take (k + 1)) = jstep (jn (l.take k)) (at_ l k) by rw [take_at l k hlt, jn_snoc])
        have al := jn_len (l.take k)
        have tl : (l.take k).length ≤ k := List.length_take_le _ _
        have al2 : (jn (l.take k)).length ≤ 1000000 := by omega
        obtain ⟨lo, hi', ee⟩ : ∃ x y, at_ l k = (x, y) := ⟨_, _, rfl⟩
        rw [ee] at d1 d2 o1 o2 o3 S
        simp only at d1 d2 o1 o2 o3
        clear ee mem al tl
        have OK := Lib.hid (jn_all (l.take k) (fun r hr => HL.out r (List.mem_of_mem_take hr)))
        obtain ⟨a, ea⟩ : ∃ a, jn (l.take k) = a := ⟨_, rfl⟩
        rw [ea] at hown S al2 OK
        clear ea
        rcases snoc_cases a with rfl | ⟨bb, q, rfl⟩
        · have e : jstep [] (lo, hi') = [(lo, hi')] := by simp [jstep]
          rw [e] at S
          clear e
          simp only [List.length_nil] at hown
          obtain ⟨ad, cp, rfl⟩ : ∃ ad cp, u3 = .slice ad 0 cp := by
            rcases hown.2 with ⟨h, _⟩ | ⟨g, cp, cur, h, _⟩
            · exact ⟨_, _, h⟩
            · exact ⟨_, _, h⟩
          clear al2
          have g1 : decide ((0 : Int) ≤ -1) = false := by decide
          go_wp2
          go_quiet (fail)
          go_wp2_with (at_builtin; refine wpList_append_own _ rfl (.tmp 41) (.tmp 43) 28 rfl w.heap.size 37 i0 (.agg #[.int .i64 0, .int .i64 0]) 2 16 Tryz.underlying28 hi hz0 hz1 hz2 rfl (by decide) _ _ _ rfl (own_two hown _ _ _) ⟨wr.heap.size + 1, 0, none⟩ 1 1 [.int .i64 lo, .int .i64 hi'] rfl rfl (cell_two_last _ _ _ _ _ _) (by intro u hu; simp at hu; rcases hu with rfl | rfl <;> rfl) (by unfold maxLen; omega) (by omega) (by simp; omega) ?_; intro v1 w1 hown1 hgrow1 hnil1)
          go_roundw
          case rel => exact ⟨k + 1, by omega, by go_num, by rw [S.out]; exact hown1, kp_grown_d K1.out hgrow1 (fun j hj => (hown.lt j hj).1)⟩
          case measure => simp [intOf]; omega
        · rw [jstep_snoc] at S
          have S2 := S
          clear S
          obtain ⟨g, cp, rfl, gb, gl⟩ := World.ownsRow.form hown (by simp)
          have gne : ¬ g = wr.heap.size := by omega
          have cq : wr.cell? ⟨g, bb.length * 2 + 1, none⟩ = some (.int .i64 q.2) := by
            rw [hown.cellAt _ (by simp; omega), cellsR_append, List.getElem?_append_right (by rw [cellsR_length]; omega), cellsR_length]
            simp [cellsR]
          have fz := hown.frozenAt (bb.length * 2 + 1)
          obtain ⟨q1, q2⟩ := q
          have al3 := al2
          simp only [List.length_append, List.length_singleton] at al2
          simp only at cq S2
          have H := Lib.hid hown
          clear hown
          have ql : -1099511627776 ≤ q2 ∧ q2 ≤ 1099511627776 := by
            have := OK.out (q1, q2) (by simp)
            obtain ⟨p1, p2, p3⟩ := this
            simp only at p1 p2 p3; omega
          obtain ⟨ql1, ql2⟩ := ql
          have wr1 : IntKind.i64.wrap (q2 + 1) = q2 + 1 := by rw [IntKind.wrap_i64]; omega
          obtain ⟨m, em⟩ : ∃ m, bb.length = m := ⟨_, rfl⟩
          rw [em] at cq fz al2
          have EM := Lib.hid em
          by_cases c : lo ≤ q2 + 1
          · rw [if_pos c] at S2
            have g2 : decide (lo ≤ q2 + 1) = true := by simpa using c
            go_wp2
            go_quiet (fail)
            go_wp2
            go_region
            go_wp2
            have hs := (World.ownsRow.stored (own_drewN (H.out.alloc (.cells #[.int .i64 lo, .int .i64 hi'] 37)) (nq + 1)) (m * 2 + 1) (.int .i64 (if q2 < hi' then hi' else q2))).1
            rw [← em, cells_set] at hs
            rw [show (if q2 < hi' then hi' else q2) = max q2 hi' by split <;> omega] at hs ⊢
            rw [← em]
            refine ⟨⟨k + 1, by omega, by go_num, ?_, ?_⟩, by simp [intOf]; omega⟩
            · rw [S2.out]
              simpa using hs
            · exact Below.setCell (K1.out.trans ((Kp.alloc _ _).trans (Kp.drewN _ _))) gb _
          · rw [if_neg c] at S2
            have g2 : decide (lo ≤ q2 + 1) = false := by simpa using c
            go_wp2
            go_quiet (fail)
            have hown := H.out
            simp only [List.length_append, List.length_singleton, em] at hown
            go_wp2_with (at_builtin; refine wpList_append_own _ rfl (.tmp 41) (.tmp 43) 28 rfl w.heap.size 37 i0 (.agg #[.int .i64 0, .int .i64 0]) 2 16 Tryz.underlying28 hi hz0 hz1 hz2 rfl (by decide) _ (m + 1) _ rfl (own_two hown _ _ _) ⟨wr.heap.size + 1, 0, none⟩ 1 1 [.int .i64 lo, .int .i64 hi'] rfl rfl (cell_two_last _ _ _ _ _ _) (by intro u hu; simp at hu; rcases hu with rfl | rfl <;> rfl) (by unfold maxLen; omega) (by omega) (by simp; omega) ?_; intro v1 w1 hown1 hgrow1 hnil1)
            go_roundw
            case rel => exact ⟨k + 1, by omega, by go_num, by rw [S2.out, cellsR_append, List.length_append, List.length_append, List.length_singleton, em]; exact hown1, kp_grown_d K1.out hgrow1 (fun j hj => (hown.lt j hj).1)⟩
            case measure => simp [intOf]; omega
      · have A : jn (l.take k) = jn l := by rw [show k = l.length by omega, List.take_length]
        rw [A] at hown
        clear A
        go_wp2
        go_ret
        exact ⟨_, rfl, hown, K1.out⟩
end Go.Proofs.YtinpglfclbnhlaaGreatDoor

namespace Go.Proofs.YtinpglfclbnhlaaGreatDoor
open Go.RowKit
set_option linter.unusedVariables false
def sumR : List R → Int
  | [] => 0
  | r :: t => r.2 - r.1 + 1 + sumR t
theorem sumR_append (a b : List R) : sumR (a ++ b) = sumR a + sumR b := by
  induction a with
  | nil => simp [sumR]
  | cons r t ih => rw [List.cons_append, sumR, sumR, ih]; omega
theorem sumR_take (l : List R) (k : Nat) (h : k < l.length) : sumR (l.take (k + 1)) = sumR (l.take k) + ((at_ l k).2 - (at_ l k).1 + 1) := by
  rw [take_at l k h, sumR_append, sumR, sumR]; omega
theorem sumR_bd : ∀ (l : List R) (lo : Int), sane l → (∀ r t, l = r :: t → lo ≤ r.1) → lo ≤ 1099511627777 → 0 ≤ sumR l ∧ sumR l ≤ 1099511627777 - lo := by
  intro l
  induction l with
  | nil => intro lo _ _ h; simp [sumR]; omega
  | cons r t ih =>
    intro lo hs hl hlo
    have g := sane_head hs
    have t' := sane_tail hs
    have l0 := hl r t rfl
    obtain ⟨g1, g2, g3⟩ := g
    have i := ih (r.2 + 1) t' (fun s u e => by
      subst e
      have := hs.2.1
      omega) (by omega)
    rw [sumR]
    omega
theorem sumR_take_bd (l : List R) (k : Nat) (h : sane l) : 0 ≤ sumR (l.take k) ∧ sumR (l.take k) ≤ sumR l := by
  have e := sumR_append (l.take k) (l.drop k)
  rw [List.take_append_drop] at e
  have pos : ∀ m : List R, (∀ r ∈ m, okR r) → 0 ≤ sumR m := by
    intro m
    induction m with
    | nil => intro _; simp [sumR]
    | cons r t ih =>
      intro hm
      have := hm r (by simp)
      have i := ih (fun x hx => hm x (by simp [hx]))
      obtain ⟨g1, _⟩ := this
      rw [sumR]; omega
  have al : ∀ r ∈ l, okR r := by
    intro r hr
    obtain ⟨i, hi, e⟩ := List.getElem_of_mem hr
    have := ((sane_idx l).1 h i hi).1
    unfold at_ at this
    simp [List.getD, hi, e] at this
    exact this
  have p1 := pos (l.take k) (fun r hr => al r (List.mem_of_mem_take hr))
  have p2 := pos (l.drop k) (fun r hr => al r (List.mem_of_mem_drop hr))
  omega
/-- the first place from which on all hold -/
def Cut (F : Nat → Bool) (N i : Nat) : Prop := i ≤ N ∧ (∀ k, k < i → F k = false) ∧ ∀ k, i ≤ k → k < N → F k = true
/-- the least number that is not below n -/
def nxt : List R → Int → Int × Bool
  | [], _ => (0, false)
  | r :: t, n => if n ≤ r.2 then (max n r.1, true) else nxt t n
theorem nxt_at : ∀ (l : List R) (n : Int) (i : Nat), i ≤ l.length → (∀ k, k < i → (at_ l k).2 < n) → (i < l.length → n ≤ (at_ l i).2) → nxt l n = if i = l.length then (0, false) else (max n (at_ l i).1, true) := by
  intro l
  induction l with
  | nil => intro n i hi _ _; simp at hi; subst hi; rfl
  | cons r t ih =>
    intro n i hi h1 h2
    rw [nxt]
    cases i with
    | zero =>
      have g := h2 (by simp)
      simp only [at_, List.getD_cons_zero] at g
      rw [if_pos g, if_neg (by simp)]
      simp [at_]
    | succ j =>
      have g := h1 0 (by omega)
      simp only [at_, List.getD_cons_zero] at g
      rw [if_neg (by omega)]
      have e : ∀ k, at_ (r :: t) (k + 1) = at_ t k := fun k => by unfold at_; simp
      rw [ih n j (by simpa using hi) (fun k hk => by have := h1 (k + 1) (by omega); rwa [e] at this) (fun hj => by have := h2 (by simpa using hj); rwa [e] at this), e]
      simp
def fB (l : List R) (n : Int) (k : Nat) : Bool := decide (l.length ≤ k) || decide (n ≤ (at_ l k).2)
theorem sane_up {l : List R} (h : sane l) : ∀ a b, a ≤ b → b < l.length → (at_ l a).2 ≤ (at_ l b).2 := by
  intro a b hab
  induction b with
  | zero =>
    intro _
    have e : a = 0 := by omega
    rw [e]
    exact Int.le_refl _
  | succ b ih =>
    intro hb
    by_cases e : a = b + 1
    · subst e; exact Int.le_refl _
    · have g := ih (by omega) (by omega)
      have s := (sane_idx l).1 h (b + 1) hb
      have := s.2 (by omega)
      obtain ⟨o1, _⟩ := s.1
      simp only [Nat.add_sub_cancel] at this
      omega
theorem fB_mono {l : List R} (h : sane l) (n : Int) : ∀ a b, a ≤ b → fB l n a = true → fB l n b = true := by
  intro a b hab ha
  unfold fB at ha ⊢
  simp only [Bool.or_eq_true, decide_eq_true_eq] at ha ⊢
  by_cases c : l.length ≤ b
  · exact .inl c
  · right
    rcases ha with ha | ha
    · omega
    · have := sane_up h a b hab (by omega); omega
theorem RunsAt.set {w : World} {v : Value} {l : List R} (h : RunsAt w v l) {B : Nat} {ad : Option Addr} {ln cp : Nat} {u : Value} (c : w.cell? ⟨B, 0, none⟩ = some (.slice ad ln cp)) : RunsAt (w.setCell ⟨B, 0, none⟩ u) v l := by
  rcases h with h | ⟨b, off, cap, e, h1, h2, h3⟩
  · exact .inl h
  · refine .inr ⟨b, off, cap, e, h1, h2, fun i hi => ?_⟩
    obtain ⟨c1, c2⟩ := h3 i hi
    constructor
    · rw [World.cell?_setCell_other _ _ _ _ (fun q => by rw [← q, c] at c1; cases c1)]; exact c1
    · rw [World.cell?_setCell_other _ _ _ _ (fun q => by rw [← q, c] at c2; cases c2)]; exact c2
theorem RunsAt.slice {w : World} {v : Value} {l : List R} (h : RunsAt w v l) : ∃ ad c, v = .slice ad l.length c := by
  rcases h with ⟨ad0, cp0, rfl, rfl⟩ | ⟨b, off, cap, rfl, _⟩
  · exact ⟨_, _, rfl⟩
  · exact ⟨_, _, rfl⟩
def hasB (l : List R) (n : Int) : Bool := (nxt l n).2 && ((nxt l n).1 == n)
theorem has_sane : ∀ {l : List R}, sane l → ∀ n, hasB l n = true ↔ ∃ r ∈ l, r.1 ≤ n ∧ n ≤ r.2 := by
  intro l
  induction l with
  | nil => intro _ n; unfold hasB; simp [nxt]
  | cons r t ih =>
    intro hs n
    have i := ih (sane_tail hs) n
    unfold hasB at i ⊢
    rw [nxt]
    by_cases c : n ≤ r.2
    · rw [if_pos c]
      simp only [Bool.true_and, beq_iff_eq]
      constructor
      · intro h
        exact ⟨r, by simp, by omega, c⟩
      · rintro ⟨q, hq, q1, q2⟩
        rcases List.mem_cons.1 hq with rfl | hq
        · omega
        · exfalso
          obtain ⟨k, hk, e⟩ := List.getElem_of_mem hq
          have b := sane_beyond hs q.1 ⟨q, hq, Int.le_refl _, by omega, by
            have g := ((sane_idx t).1 (sane_tail hs) k hk).1
            unfold at_ at g
            simp [List.getD, hk, e] at g
            exact ⟨g.2.1, by have := g.1; have := g.2.2; omega⟩⟩
          omega
    · rw [if_neg c, i]
      constructor
      · rintro ⟨q, hq, h⟩; exact ⟨q, by simp [hq], h⟩
      · rintro ⟨q, hq, q1, q2⟩
        rcases List.mem_cons.1 hq with rfl | hq
        · omega
        · exact ⟨q, hq, q1, q2⟩
end Go.Proofs.YtinpglfclbnhlaaGreatDoor

namespace Go.Proofs.YtinpglfclbnhlaaGreatDoor
open Go.RowKit
set_option linter.unusedVariables false
set_option linter.unusedSimpArgs false
def pst (st : List R × R × List R) (y : R) : List R × R × List R :=
  if y.2 < st.2.1.1 - 1 then (st.1 ++ [y], st.2.1, st.2.2) else if st.2.1.2 + 1 < y.1 then (st.1, st.2.1, st.2.2 ++ [y]) else (st.1, (min st.2.1.1 y.1, max st.2.1.2 y.2), st.2.2)
theorem pst_after : ∀ (s bf : List R) (x : R) (af : List R), sane s → okR x → (∀ y t, s = y :: t → x.2 + 1 < y.1) → s.foldl pst (bf, x, af) = (bf, x, af ++ s) := by
  intro s
  induction s with
  | nil => intro bf x af _ _ _; simp
  | cons y t ih =>
    intro bf x af hs hx hy
    have h1 := hy y t rfl
    have h2 := (sane_head hs).1
    have h3 := hx.1
    rw [List.foldl_cons]
    have e : pst (bf, x, af) y = (bf, x, af ++ [y]) := by
      unfold pst; simp only; rw [if_neg (by omega), if_pos h1]
    rw [e, ih bf x (af ++ [y]) (sane_tail hs) hx (fun z u e => by subst e; have : y.2 + 1 < z.1 := hs.2.1; omega), List.append_assoc]
    rfl
theorem pst_put : ∀ (s bf : List R) (x : R), sane s → okR x → (s.foldl pst (bf, x, [])).1 ++ (s.foldl pst (bf, x, [])).2.1 :: (s.foldl pst (bf, x, [])).2.2 = bf ++ put1 x s := by
  intro s
  induction s with
  | nil => intro bf x _ _; rfl
  | cons y t ih =>
    intro bf x hs hx
    rw [List.foldl_cons, put1]
    by_cases c1 : y.2 < x.1 - 1
    · have e : pst (bf, x, []) y = (bf ++ [y], x, []) := by unfold pst; simp only; rw [if_pos c1]
      rw [e, if_pos c1, ih (bf ++ [y]) x (sane_tail hs) hx, List.append_assoc]
      rfl
    · rw [if_neg c1]
      by_cases c2 : x.2 + 1 < y.1
      · have e : pst (bf, x, []) y = (bf, x, [y]) := by unfold pst; simp only; rw [if_neg c1, if_pos c2]; rfl
        rw [e, if_pos c2, pst_after t bf x [y] (sane_tail hs) hx (fun z u e => by subst e; have h : y.2 + 1 < z.1 := hs.2.1; have := (sane_head hs).1; omega)]
        rfl
      · have e : pst (bf, x, []) y = (bf, (min x.1 y.1, max x.2 y.2), []) := by unfold pst; simp only; rw [if_neg c1, if_neg c2]
        rw [e, if_neg c2, ih bf _ (sane_tail hs) (okR_join hx (sane_head hs))]
theorem grown_cell1 {wr w1 : World} {row : Option Nat} {o1 : Obj} {B o : Nat} (g : (wr.alloc o1).grownBy w1 row) (hB : B < wr.heap.size) (hn : ∀ j, row = some j → j ≠ B) : w1.cell? ⟨B, o, none⟩ = wr.cell? ⟨B, o, none⟩ :=
  (grown_cell g (by simp; omega) hn).trans ((Kp.alloc wr o1).cell hB)
theorem grown_frozen1 {wr w1 : World} {row : Option Nat} {o1 : Obj} {B o : Nat} (g : (wr.alloc o1).grownBy w1 row) (hB : B < wr.heap.size) (hn : ∀ j, row = some j → j ≠ B) : w1.frozen? ⟨B, o, none⟩ = wr.frozen? ⟨B, o, none⟩ :=
  (grown_frozen g (by simp; omega) hn).trans ((Kp.alloc wr o1).frozen hB)
theorem at_mem {l : List R} {k : Nat} (h : k < l.length) : at_ l k ∈ l := by
  have : at_ l k = l[k] := by unfold at_; simp [List.getD, h]
  rw [this]; exact List.getElem_mem h
theorem own_ge {w : World} {base : Nat} {e : TypeId} {size : Nat} {v : Value} {n : Nat} {xs : List Value} (h : w.ownsRow base e size v n xs) {B : Nat} (hB : B < base) : ∀ j, v.ownBlock = some j → j ≠ B := fun j hj => by
  have := (h.lt j hj).1
  omega
set_option maxHeartbeats 4000000 in
set_option maxRecDepth 100000 in
theorem rput_any (v : Value) (s : List R) (r : R) (w : World) (hv : RunsAt w v s) (hs : sane s) (hn : s.length ≤ 1000000) (b1 : -9223372036854775808 ≤ r.1) (b2 : r.2 ≤ 9223372036854775807) :
    Calls Tryz.prog 70 #[v, .agg #[.int .i64 r.1, .int .i64 r.2]] w fun e w' => ∃ v' : Value, e = .returned v' ∧ RunsAt w' v' (putR s r) ∧ Kp w w' := by
  obtain ⟨i0, hi, hz0, hz1, hz2⟩ := info_parts infoR
  obtain ⟨ad, c, rfl⟩ := hv.slice
  obtain ⟨lo, hi'⟩ := r
  simp only at b1 b2
  obtain ⟨xl, hxl⟩ : ∃ x, (if lo < -1099511627776 then -1099511627776 else lo) = x := ⟨_, rfl⟩
  obtain ⟨xh, hxh⟩ : ∃ x, (if 1099511627776 < hi' then 1099511627776 else hi') = x := ⟨_, rfl⟩
  have CL : clipR (lo, hi') = (xl, xh) := by
    unfold clipR; simp only; rw [← hxl, ← hxh]; congr 1 <;> split <;> omega
  have c1 : -1099511627776 ≤ xl := by rw [← hxl]; split <;> omega
  have c2 : xh ≤ 1099511627776 := by rw [← hxh]; split <;> omega
  have HV := Lib.hid hv
  clear hv
  by_cases hx : xl ≤ xh
  · have E : putR s (lo, hi') = (s.foldl pst ([], (xl, xh), [])).1 ++ (s.foldl pst ([], (xl, xh), [])).2.1 :: (s.foldl pst ([], (xl, xh), [])).2.2 := by
      unfold putR
      rw [CL, if_neg (by simp only; omega), pst_put s [] (xl, xh) hs ⟨hx, c1, c2⟩]
      rfl
    rw [E]
    clear E CL
    have OK := Lib.hid (sane_ok hs)
    have g0 : decide (xh < xl) = false := decide_eq_false (by omega)
    have g0' : ¬ xh < xl := by omega
    clear hs
    have hsl : (s.length : Int) ≤ 1000000 := by omega
    go_enter Tryz.func70, Tryz.ntmps70
    go_wp2
    go_loopw [6, 7, 8] (fun u6 u7 u8 wr => ∃ (k : Nat) (bf af : List R) (yl yh : Int), k ≤ s.length ∧ u8 = .int .i64 k ∧ Hid ((s.take k).foldl pst ([], (xl, xh), []) = (bf, (yl, yh), af)) ∧ yl ≤ yh ∧ -1099511627776 ≤ yl ∧ yh ≤ 1099511627776 ∧ bf.length + af.length ≤ k ∧
      Hid (wr.ownsRow (w.heap.size + 2) 37 2 u6 bf.length (cellsR bf)) ∧ Hid (wr.ownsRow (w.heap.size + 2) 37 2 u7 af.length (cellsR af)) ∧ Hid (Apart u6 u7) ∧
      wr.cell? ⟨w.heap.size + 1, 0, none⟩ = some (.int .i64 yl) ∧ wr.cell? ⟨w.heap.size + 1, 1, none⟩ = some (.int .i64 yh) ∧ wr.frozen? ⟨w.heap.size + 1, 0, none⟩ = false ∧ wr.frozen? ⟨w.heap.size + 1, 1, none⟩ = false ∧ w.heap.size + 2 ≤ wr.heap.size ∧ Hid (Kp w wr)) (fun _ _ u8 _ => s.length - (intOf u8).toNat)
    case atStart => exact ⟨0, [], [], xl, xh, Nat.zero_le _, rfl, Lib.hid rfl, hx, c1, c2, Nat.le_refl _, Lib.hid (World.ownsRow_nil _ _ _ _), Lib.hid (World.ownsRow_nil _ _ _ _), Lib.hid (Apart.nil _), by simp, by simp, by simp, by simp, by simp, Lib.hid ((Kp.alloc _ _).trans (Kp.alloc _ _))⟩
    case round =>
      clear hx c1 c2 g0 g0' hxl hxh b1 b2
      obtain ⟨k, bf, af, yl, yh, hk, rfl, ST, hy, y1, y2, hlen, O6, O7, AP, k1, k2, k3, k4, hsz, K1⟩ := hrel
      by_cases hlt : k < s.length
      · rcases HV.out with ⟨_, _, _, e⟩ | ⟨b, off, cap, ev, hc, hm, hx⟩
        · rw [e] at hlt; simp at hlt
        cases ev
        obtain ⟨d1, d2⟩ := rd_at hx K1.out k hlt
        clear hx
        obtain ⟨o1, o2, o3⟩ := OK.out _ (at_mem hlt)
        have S := Lib.hid (show (s.take (k + 1)).foldl pst ([], (xl, xh), []) = pst (bf, (yl, yh), af) (at_ s k) by rw [take_at s k hlt, List.foldl_append, ST.out]; rfl)
        obtain ⟨lo1, hi1, ee⟩ : ∃ x y, at_ s k = (x, y) := ⟨_, _, rfl⟩
        rw [ee] at d1 d2 o1 o2 o3 S
        simp only at d1 d2 o1 o2 o3
        clear ee ST
        have z0 : (0 : Int) ≤ (k : Int) := by omega
        have z1 : (k : Int) < (s.length : Int) := by omega
        have w1' : IntKind.i64.wrap (yl - 1) = yl - 1 := by rw [IntKind.wrap_i64]; omega
        have w2' : IntKind.i64.wrap (yh + 1) = yh + 1 := by rw [IntKind.wrap_i64]; omega
        have ne6 := Lib.hid (own_ge O6.out (B := w.heap.size + 1) (by omega))
        have ne7 := Lib.hid (own_ge O7.out (B := w.heap.size + 1) (by omega))
        have ge6 := Lib.hid (fun j (hj : u6.ownBlock = some j) => (show w.heap.size ≤ j by have := (O6.out.lt j hj).1; omega))
        have ge7 := Lib.hid (fun j (hj : u7.ownBlock = some j) => (show w.heap.size ≤ j by have := (O7.out.lt j hj).1; omega))
        by_cases q1 : hi1 < yl - 1
        · have S2 := Lib.hid (S.out.trans (show pst (bf, (yl, yh), af) (lo1, hi1) = (bf ++ [(lo1, hi1)], (yl, yh), af) by unfold pst; simp only; rw [if_pos q1]))
          have q1d : decide (hi1 < yl - 1) = true := decide_eq_true q1
          go_wp2_with fail
          go_quiet (fail)
          go_wp2_with (at_builtin; refine wpList_app rfl (.tmp 55) (.tmp 60) 28 rfl (w.heap.size + 2) 37 i0 (.agg #[.int .i64 0, .int .i64 0]) 2 16 Tryz.underlying28 hi hz0 hz1 hz2 rfl (by decide) _ _ _ rfl ((own_drewN O6.out _).alloc _) _ _ _ rfl (one_src _ _ _ _) (by simp [cellsR_length]) (by first | exact cells_one _ | (intro u hu; simp at hu; rcases hu with rfl | rfl <;> rfl)) (by unfold maxLen; omega) (by omega) (by first | omega | (simp; omega)) ?_; intro v1 w1 hown1 hgrow1 hat1)
          go_roundw
          case rel => exact ⟨k + 1, bf ++ [(lo1, hi1)], af, yl, yh, by omega, by go_num, S2, hy, y1, y2, by simp; omega, Lib.hid (own_snoc hown1), Lib.hid (own_apart ((own_drewN O7.out _).alloc _) hgrow1 AP.out), Lib.hid (apart_step AP.out ((own_drewN O7.out _).alloc _) hat1), (grown_cell1 hgrow1 (show w.heap.size + 1 < wr.heap.size by omega) ne6.out).trans k1, (grown_cell1 hgrow1 (show w.heap.size + 1 < wr.heap.size by omega) ne6.out).trans k2, (grown_frozen1 hgrow1 (show w.heap.size + 1 < wr.heap.size by omega) ne6.out).trans k3, (grown_frozen1 hgrow1 (show w.heap.size + 1 < wr.heap.size by omega) ne6.out).trans k4, by have := hgrow1.size; simp at this; omega, Lib.hid (Kp.grown (K1.out.trans ((Kp.drewN _ _).trans (Kp.alloc _ _))) hgrow1 ge6.out)⟩
          case measure => simp [intOf]; omega
        · have q1d : decide (hi1 < yl - 1) = false := decide_eq_false q1
          by_cases q2 : yh + 1 < lo1
          · have S2 := Lib.hid (S.out.trans (show pst (bf, (yl, yh), af) (lo1, hi1) = (bf, (yl, yh), af ++ [(lo1, hi1)]) by unfold pst; simp only; rw [if_neg q1, if_pos q2]))
            have q2d : decide (yh + 1 < lo1) = true := decide_eq_true q2
            go_wp2_with fail
            go_quiet (fail)
            go_wp2_with fail
            go_quiet (fail)
            go_wp2_with (at_builtin; refine wpList_app rfl (.tmp 72) (.tmp 77) 28 rfl (w.heap.size + 2) 37 i0 (.agg #[.int .i64 0, .int .i64 0]) 2 16 Tryz.underlying28 hi hz0 hz1 hz2 rfl (by decide) _ _ _ rfl ((own_drewN O7.out _).alloc _) _ _ _ rfl (one_src _ _ _ _) (by simp [cellsR_length]) (by first | exact cells_one _ | (intro u hu; simp at hu; rcases hu with rfl | rfl <;> rfl)) (by unfold maxLen; omega) (by omega) (by first | omega | (simp; omega)) ?_; intro v1 w1 hown1 hgrow1 hat1)
            go_roundw
            case rel => exact ⟨k + 1, bf, af ++ [(lo1, hi1)], yl, yh, by omega, by go_num, S2, hy, y1, y2, by simp; omega, Lib.hid (own_apart ((own_drewN O6.out _).alloc _) hgrow1 AP.out.symm), Lib.hid (own_snoc hown1), Lib.hid (apart_step AP.out.symm ((own_drewN O6.out _).alloc _) hat1).symm, (grown_cell1 hgrow1 (show w.heap.size + 1 < wr.heap.size by omega) ne7.out).trans k1, (grown_cell1 hgrow1 (show w.heap.size + 1 < wr.heap.size by omega) ne7.out).trans k2, (grown_frozen1 hgrow1 (show w.heap.size + 1 < wr.heap.size by omega) ne7.out).trans k3, (grown_frozen1 hgrow1 (show w.heap.size + 1 < wr.heap.size by omega) ne7.out).trans k4, by have := hgrow1.size; simp at this; omega, Lib.hid (Kp.grown (K1.out.trans ((Kp.drewN _ _).trans (Kp.alloc _ _))) hgrow1 ge7.out)⟩
            case measure => simp [intOf]; omega
          · have q2d : decide (yh + 1 < lo1) = false := decide_eq_false q2
            obtain ⟨nl, hnl⟩ : ∃ x, (if lo1 < yl then lo1 else yl) = x := ⟨_, rfl⟩
            obtain ⟨nh, hnh⟩ : ∃ x, (if yh < hi1 then hi1 else yh) = x := ⟨_, rfl⟩
            have S2 := Lib.hid (S.out.trans (show pst (bf, (yl, yh), af) (lo1, hi1) = (bf, (nl, nh), af) by unfold pst; simp only; rw [if_neg q1, if_neg q2, ← hnl, ← hnh]; congr 2; congr 1 <;> split <;> omega))
            have m1 : -1099511627776 ≤ nl ∧ nl ≤ yl := by rw [← hnl]; split <;> omega
            have m2 : nh ≤ 1099511627776 ∧ yh ≤ nh := by rw [← hnh]; split <;> omega
            go_wp2_with fail
            go_quiet (fail)
            go_wp2_with fail
            go_quiet (fail)
            go_wp2_with fail
            go_region
            all_goals go_wp2
            refine ⟨⟨k + 1, bf, af, nl, nh, by omega, by go_num, S2, by omega, m1.1, m2.1, by omega, Lib.hid (ownsRow_setCell_below (ownsRow_setCell_below (own_drewN O6.out _) (by show w.heap.size + 1 < _; omega) _) (by show w.heap.size + 1 < _; omega) _), Lib.hid (ownsRow_setCell_below (ownsRow_setCell_below (own_drewN O7.out _) (by show w.heap.size + 1 < _; omega) _) (by show w.heap.size + 1 < _; omega) _), AP, ?_, ?_, ?_, ?_, ?_, ?_⟩, by simp only [intOf]; omega⟩
            · rw [World.cell?_setCell_other _ _ _ _ (by simp)]
              exact World.cell?_setCell_same' _ _ _ (by rw [show (World.cell? (wr.drewN _) _) = _ from k1]; rfl)
            · refine World.cell?_setCell_same' _ _ _ ?_
              rw [World.cell?_setCell_other _ _ _ _ (by simp), show (World.cell? (wr.drewN _) _) = _ from k2]
              rfl
            · rw [World.frozen?_setCell, World.frozen?_setCell]; exact k3
            · rw [World.frozen?_setCell, World.frozen?_setCell]; exact k4
            · simp [World.setCell]; omega
            · exact Lib.hid (Below.setCell (Below.setCell (K1.out.trans (Kp.drewN _ _)) (by show w.heap.size ≤ w.heap.size + 1; omega) _) (by show w.heap.size ≤ w.heap.size + 1; omega) _)
      · obtain rfl : k = s.length := by omega
        rw [List.take_length] at ST
        have ge6 := Lib.hid (fun j (hj : u6.ownBlock = some j) => (show w.heap.size ≤ j by have := (O6.out.lt j hj).1; omega))
        have q : decide ((s.length : Int) < s.length) = false := by simp
        go_wp2_with (first | (at_builtin; refine wpList_app rfl (.tmp 79) (.tmp 81) 28 rfl (w.heap.size + 2) 37 i0 (.agg #[.int .i64 0, .int .i64 0]) 2 16 Tryz.underlying28 hi hz0 hz1 hz2 rfl (by decide) _ _ _ rfl (O6.out.alloc _) _ _ _ rfl (one_src _ _ _ _) (by simp [cellsR_length]) (by intro u hu; simp at hu; rcases hu with rfl | rfl <;> rfl) (by unfold maxLen; omega) (by omega) (by simp; omega) ?_; intro v1 w1 hown1 hgrow1 hat1) | (at_builtin; refine wpList_app rfl (.tmp 83) (.tmp 84) 28 rfl (w.heap.size + 2) 37 i0 (.agg #[.int .i64 0, .int .i64 0]) 2 16 Tryz.underlying28 hi hz0 hz1 hz2 rfl (by decide) _ _ _ rfl (own_snoc hown1) _ _ _ rfl (runsAt_own (own_apart (O7.out.alloc _) hgrow1 AP.out)).src (cellsR_length _) (cells_one _) (by simp; unfold maxLen; omega) (by simp; omega) (by have := hgrow1.size; simp at this; omega) ?_; intro v2 w2 hown2 hgrow2 hat2))
        go_ret
        refine ⟨_, rfl, ?_, ?_⟩
        · rw [ST.out]
          have := runsAt_own (own_len hown2)
          rw [List.append_assoc] at this
          exact this
        · exact Kp.grown (Kp.grown (K1.out.trans (Kp.alloc _ _)) hgrow1 ge6.out) hgrow2 (fun j hj => by have := (hown1.lt j hj).1; omega)
  · have E : putR s (lo, hi') = s := by
      unfold putR
      rw [CL, if_pos (by simp only; omega)]
    rw [E]
    have g0 : decide (xh < xl) = true := decide_eq_true (by omega)
    clear E CL hs c1 c2
    go_enter Tryz.func70, Tryz.ntmps70
    go_wp2
    go_ret
    exact ⟨_, rfl, HV.out.kp ((Kp.alloc _ _).trans (Kp.alloc _ _)), (Kp.alloc _ _).trans (Kp.alloc _ _)⟩
end Go.Proofs.YtinpglfclbnhlaaGreatDoor

namespace Go.Proofs.YtinpglfclbnhlaaGreatDoor
open Go.RowKit
set_option linter.unusedVariables false
set_option linter.unusedSimpArgs false
theorem put1_len : ∀ (s : List R) (x : R), (put1 x s).length ≤ s.length + 1 := by
  intro s
  induction s with
  | nil => intro x; simp [put1]
  | cons y t ih =>
    intro x
    rw [put1]
    split
    · have := ih x; simp; omega
    · split
      · simp
      · have := ih (min x.1 y.1, max x.2 y.2); simp; omega
theorem putR_len (s : List R) (r : R) : (putR s r).length ≤ s.length + 1 := by
  unfold putR; split
  · omega
  · exact put1_len _ _
theorem nf_snoc (l : List R) (r : R) : nf (l ++ [r]) = putR (nf l) r := by unfold nf; simp
theorem nf_len (l : List R) : (nf l).length ≤ l.length := by
  have : ∀ (t s : List R), (t.foldl putR s).length ≤ s.length + t.length := by
    intro t
    induction t with
    | nil => intro s; simp
    | cons r t ih => intro s; have := ih (putR s r); have := putR_len s r; simp at *; omega
  simpa [nf] using this l []
theorem nf_next (l : List R) (k : Nat) (h : k < l.length) : nf (l.take (k + 1)) = putR (nf (l.take k)) (at_ l k) := by rw [take_at l k h, nf_snoc]
theorem nf_take_len (l : List R) (k : Nat) : (nf (l.take k)).length ≤ k := Nat.le_trans (nf_len _) (List.length_take_le _ _)
set_option maxHeartbeats 1000000 in
theorem rmake_any (v : Value) (l : List R) (w : World) (hv : RunsAt w v l) (hl : I64R l) (hn : l.length ≤ 1000000) :
    Calls Tryz.prog 52 #[v] w fun e w' => ∃ v' : Value, e = .returned v' ∧ RunsAt w' v' (nf l) ∧ Kp w w' := by
  obtain ⟨ad, c, rfl⟩ := hv.slice
  have HV := Lib.hid hv
  have HL := Lib.hid hl
  clear hv hl
  have hsl : (l.length : Int) ≤ 1000000 := by omega
  go_enter Tryz.func52, Tryz.ntmps52
  go_wp2
  go_loopw [3, 4] (fun u3 u4 wr => ∃ (k : Nat), k ≤ l.length ∧ u4 = .int .i64 k ∧ Hid (RunsAt wr u3 (nf (l.take k))) ∧ Hid (Kp w wr)) (fun _ u4 _ => l.length - (intOf u4).toNat)
  case atStart => exact ⟨0, Nat.zero_le _, rfl, Lib.hid (.inl ⟨_, _, rfl, rfl⟩), Lib.hid (Kp.refl _)⟩
  case round =>
    obtain ⟨k, hk, rfl, RA, K1⟩ := hrel
    by_cases hlt : k < l.length
    · rcases HV.out with ⟨_, _, _, e⟩ | ⟨b, off, cap, ev, hc, hm, hx⟩
      · rw [e] at hlt; simp at hlt
      cases ev
      obtain ⟨d1, d2⟩ := rd_at hx K1.out k hlt
      clear hx
      have bd := I64R.at_ HL.out hlt
      have tl := nf_take_len l k
      have C := Lib.hid (rput_any u3 (nf (l.take k)) (at_ l k) wr RA.out (nf_sane _) (by omega) bd.1 bd.2.2.2)
      rw [← nf_next l k hlt] at C
      obtain ⟨lo1, hi1, ee⟩ : ∃ x y, at_ l k = (x, y) := ⟨_, _, rfl⟩
      rw [ee] at d1 d2 C
      simp only at d1 d2 C
      clear ee tl bd
      have z0 : (0 : Int) ≤ (k : Int) := by omega
      have z1 : (k : Int) < (l.length : Int) := by omega
      go_wp2_with fail
      refine (C.out).mono ?_
      rintro e w1 ⟨v1, rfl, hv1, k1⟩
      have KK := Lib.hid (K1.out.trans k1)
      clear k1
      go_wp2
      go_roundw
      case rel => exact ⟨k + 1, by omega, by go_num, Lib.hid hv1, KK⟩
      case measure => simp [intOf]; omega
    · have A : l.take k = l := by rw [show k = l.length by omega, List.take_length]
      rw [A] at RA
      clear A
      have q : decide ((k : Int) < l.length) = false := by simp; omega
      go_wp2
      go_ret
      exact ⟨_, rfl, RA.out, K1.out⟩
def AsR (v : Value) (l' : List R) (w : World) : Prop := ∀ w1, Kp w w1 → Calls Tryz.prog 30 #[v] w1 fun e w' => ∃ v' : Value, e = .returned v' ∧ RunsAt w' v' l' ∧ Kp w1 w'
theorem asR_any (v : Value) (l : List R) (w : World) (hv : RunsAt w v l) (hl : I64R l) (hn : l.length ≤ 1000000) : AsR v (nf l) w := by
  intro w1 kk
  have hv1 := hv.kp kk
  clear hv kk w
  have C := Lib.hid (fun w => fun (h : RunsAt w v l) => rsane_any v l w h hl)
  have D := Lib.hid (fun w => fun (h : RunsAt w v l) => rmake_any v l w h hl hn)
  have HV := Lib.hid hv1
  rcases Bool.eq_false_or_eq_true (saneB l) with h | h
  · have E : nf l = l := nf_of_sane (by unfold saneB at h; exact of_decide_eq_true h)
    rw [h] at C
    rw [E]
    have C1 := Lib.hid (C.out _ hv1)
    clear hv1 E h C D
    go_enter Tryz.func30, Tryz.ntmps30
    go_wp2_with fail
    refine (C1.out).mono ?_
    rintro e w2 ⟨rfl, k1⟩
    have K1 := Lib.hid k1
    clear k1
    go_wp2
    go_ret
    exact ⟨_, rfl, HV.out.kp K1.out, K1.out⟩
  · rw [h] at C
    have C1 := Lib.hid (C.out _ hv1)
    clear hv1 h C
    go_enter Tryz.func30, Tryz.ntmps30
    go_wp2_with fail
    refine (C1.out).mono ?_
    rintro e w2 ⟨rfl, k1⟩
    have K1 := Lib.hid k1
    have D1 := Lib.hid (D.out _ (HV.out.kp k1))
    clear k1
    go_wp2_with fail
    refine (D1.out).mono ?_
    rintro e w3 ⟨v3, rfl, hv3, k3⟩
    have K3 := Lib.hid k3
    have H3 := Lib.hid hv3
    clear k3 hv3
    go_wp2
    go_ret
    exact ⟨_, rfl, H3.out, K1.out.trans K3.out⟩
/-- a slice of ints reads as this list -/
def IntsAt (w : World) (v : Value) (l : List Int) : Prop :=
  (∃ ad cp, v = .slice ad 0 cp ∧ l = []) ∨ ∃ b off cap, v = .slice (some ⟨b, off, none⟩) l.length cap ∧ l.length ≤ cap ∧ cap ≤ maxLen ∧
    ∀ i, i < l.length → w.cell? ⟨b, off + i, none⟩ = some (.int .i64 (l.getD i 0))
def I64 (l : List Int) : Prop := ∀ n ∈ l, -9223372036854775808 ≤ n ∧ n ≤ 9223372036854775807
theorem IntsAt.slice {w : World} {v : Value} {l : List Int} (h : IntsAt w v l) : ∃ ad c, v = .slice ad l.length c := by
  rcases h with ⟨ad, cp, rfl, rfl⟩ | ⟨b, off, cap, rfl, _⟩
  · exact ⟨_, _, rfl⟩
  · exact ⟨_, _, rfl⟩
theorem IntsAt.kp {w w' : World} {v : Value} {l : List Int} (h : IntsAt w v l) (k : Kp w w') : IntsAt w' v l := by
  rcases h with h | ⟨b, off, cap, e, h1, h2, h3⟩
  · exact .inl h
  · refine .inr ⟨b, off, cap, e, h1, h2, fun i hi => ?_⟩
    have c := h3 i hi
    exact (Below.cell (p := ⟨b, off + i, none⟩) k (World.block_lt_of_cell? _ _ c)).trans c
theorem rd_int {w wr : World} {b off : Nat} {l : List Int} (hx : ∀ i, i < l.length → w.cell? ⟨b, off + i, none⟩ = some (.int .i64 (l.getD i 0))) (k : Kp w wr) (i : Nat) (hi : i < l.length) :
    wr.cell? ⟨b, off + i, none⟩ = some (.int .i64 (l.getD i 0)) := by
  have c := hx i hi
  exact (Below.cell (p := ⟨b, off + i, none⟩) k (World.block_lt_of_cell? _ _ c)).trans c
def sing (l : List Int) : List R := l.map fun n => (n, n)
theorem sing_at (l : List Int) (k : Nat) (h : k < l.length) : at_ (sing l) k = (l.getD k 0, l.getD k 0) := by
  unfold at_ sing; simp [List.getD, h]
theorem sing_take (l : List Int) (k : Nat) : sing (l.take k) = (sing l).take k := by unfold sing; simp
theorem sing_len (l : List Int) : (sing l).length = l.length := by unfold sing; simp
theorem getD_mem {l : List Int} {k : Nat} (h : k < l.length) : l.getD k 0 ∈ l := by
  have : l.getD k 0 = l[k] := by simp [List.getD, h]
  rw [this]; exact List.getElem_mem h
end Go.Proofs.YtinpglfclbnhlaaGreatDoor
