/-
  Layer 4: the walk of RunsOf.
-/
import Derived.Test.YtehpngppdcnohaaDoorCnt
namespace Go.Proofs.YtehpngppdcnohaaDoor
open Go.RowKit
set_option linter.unusedVariables false
set_option linter.unusedSimpArgs false
theorem infoI : (Tryd.prog.info? 3).map (fun i => (i.zero, i.size, i.bytes)) = some (some (.int .i64 0), 1, 8) := by kernel_rfl
def cellsI (l : List Int) : List Value := l.map (Value.int .i64)
theorem ints_own {w : World} {base : Nat} {e : TypeId} {v : Value} {l : List Int} (h : w.ownsRow base e 1 v l.length (cellsI l)) : IntsAt w v l := by
  rcases h.2 with ⟨e1, h0⟩ | ⟨g, cp, cur, rfl, h2, h3, h4, h5, h6, h7⟩
  · exact .inl ⟨_, _, e1, List.length_eq_zero_iff.1 h0⟩
  · refine .inr ⟨g, 0, cp, rfl, h4, h5, fun i hi => ?_⟩
    rw [Nat.zero_add, h.cellAt _ (by omega)]
    unfold cellsI
    simp [List.getD, hi]
theorem int_src (w : World) (x : Int) (t : TypeId) : SrcAt (w.alloc (.cells #[.int .i64 x] t)) (.slice (some ⟨w.heap.size, 0, none⟩) 1 1) 1 [.int .i64 x] := by
  refine .inr ⟨_, _, rfl, fun j u hu => ?_⟩
  rcases j with _ | j
  · simp at hu; subst hu; simp [Addr.add]
  · simp at hu
theorem iown_snoc {w : World} {base : Nat} {e : TypeId} {v : Value} {l : List Int} {x : Int} (h : w.ownsRow base e 1 v (l.length + 1) (cellsI l ++ [.int .i64 x])) : w.ownsRow base e 1 v (l ++ [x]).length (cellsI (l ++ [x])) := by
  have : cellsI (l ++ [x]) = cellsI l ++ [.int .i64 x] := by unfold cellsI; simp
  rw [this, List.length_append]; exact h
/-- the last ones, the last one first -/
def backF (l : List Int) : Nat → List Int
  | 0 => []
  | j + 1 => backF l j ++ [l.getD (l.length - 1 - j) 0]
theorem backF_len (l : List Int) : ∀ j, (backF l j).length = j := by
  intro j
  induction j with
  | zero => rfl
  | succ j ih => rw [backF, List.length_append, ih]; rfl
theorem backF_mem (l : List Int) (n : Int) : ∀ j, j ≤ l.length → (n ∈ backF l j ↔ ∃ i, l.length - j ≤ i ∧ i < l.length ∧ l.getD i 0 = n) := by
  intro j
  induction j with
  | zero => intro _; rw [backF]; exact ⟨fun g => absurd g (List.not_mem_nil), fun ⟨i, h1, h2, _⟩ => by omega⟩
  | succ j ih =>
    intro hj
    rw [backF, List.mem_append, ih (by omega), List.mem_singleton]
    constructor
    · rintro (⟨i, h1, h2, g⟩ | g)
      · exact ⟨i, by omega, h2, g⟩
      · exact ⟨l.length - 1 - j, by omega, by omega, g.symm⟩
    · rintro ⟨i, h1, h2, g⟩
      by_cases c : l.length - j ≤ i
      · exact .inl ⟨i, c, h2, g⟩
      · obtain rfl : i = l.length - 1 - j := by omega
        exact .inr g.symm
theorem mem_getD {l : List Int} {n : Int} : n ∈ l ↔ ∃ i, i < l.length ∧ l.getD i 0 = n := by
  constructor
  · intro h
    obtain ⟨i, hi, e⟩ := List.getElem_of_mem h
    exact ⟨i, hi, by simp [List.getD, hi, e]⟩
  · rintro ⟨i, hi, rfl⟩; exact getD_mem hi
theorem backF_nf (l : List Int) : nf (sing (backF l l.length)) = nf (sing l) := by
  refine nf_congr fun n => ?_
  rw [sing_mem, sing_mem, backF_mem l n l.length (Nat.le_refl _), mem_getD]
  constructor
  · rintro ⟨⟨i, _, h2, g⟩, h⟩; exact ⟨⟨i, h2, g⟩, h⟩
  · rintro ⟨⟨i, h2, g⟩, h⟩; exact ⟨⟨i, by omega, h2, g⟩, h⟩
theorem backF_i64 (l : List Int) (hl : I64 l) : ∀ j, j ≤ l.length → I64 (backF l j) := by
  intro j hj n hn
  obtain ⟨i, _, h2, g⟩ := (backF_mem l n j hj).1 hn
  rw [← g]; exact hl _ (getD_mem h2)
theorem not_mem_take {l : List Int} {k : Nat} {x : Int} (hk : k ≤ l.length) : x ∉ l.take k ↔ ∀ i, i < k → l.getD i 0 ≠ x := by
  constructor
  · intro h i hi e
    refine h (mem_getD.2 ⟨i, by rw [List.length_take]; omega, ?_⟩)
    rw [← e]
    have h1 : i < l.length := by omega
    simp [List.getD, hi, h1]
  · intro h hm
    obtain ⟨i, hi, e⟩ := mem_getD.1 hm
    rw [List.length_take] at hi
    refine h i (by omega) ?_
    rw [← e]
    have h1 : i < l.length := by omega
    have h2 : i < k := by omega
    simp [List.getD, h2, h1]
/-- a bool that tells whether something holds -/
def Tells (q : Bool) (P : Prop) : Prop := q = true ↔ P
theorem Tells.mk {q : Bool} {P : Prop} (h : q = true ↔ P) : Tells q P := h
theorem Tells.out {q : Bool} {P : Prop} (h : Tells q P) : q = true ↔ P := h
/-- is one of the last ones within bounds, and n -/
def lastIn (l : List Int) (n : Int) (j : Nat) : Prop := ∃ i, l.length - j ≤ i ∧ i < l.length ∧ l.getD i 0 = n ∧ -1099511627776 ≤ n ∧ n ≤ 1099511627776
theorem lastIn_next (l : List Int) (n : Int) (j : Nat) (hj : j < l.length) : lastIn l n (j + 1) ↔ lastIn l n j ∨ (l.getD (l.length - 1 - j) 0 = n ∧ -1099511627776 ≤ n ∧ n ≤ 1099511627776) := by
  constructor
  · rintro ⟨i, h1, h2, g⟩
    by_cases c : l.length - j ≤ i
    · exact .inl ⟨i, c, h2, g⟩
    · obtain rfl : i = l.length - 1 - j := by omega
      exact .inr g
  · rintro (⟨i, h1, h2, g⟩ | g)
    · exact ⟨i, by omega, h2, g⟩
    · exact ⟨l.length - 1 - j, by omega, by omega, g⟩
theorem lastIn_all (l : List Int) (n : Int) : lastIn l n l.length ↔ hasB (nf (sing l)) n = true := by
  rw [hasB_nf, sing_mem, mem_getD]
  constructor
  · rintro ⟨i, _, h2, g, h⟩; exact ⟨⟨i, h2, g⟩, h⟩
  · rintro ⟨⟨i, h2, g⟩, h⟩; exact ⟨i, by omega, h2, g, h⟩
end Go.Proofs.YtehpngppdcnohaaDoor
