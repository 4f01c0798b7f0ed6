/-
  Contracts of package compose: what a closure may change; the boxed question.
-/
import Derived.Test.YteneoimkfddhpaaDoorComposeA
namespace Go.Proofs.YteneoimkfddhpaaDoor
open Go.RowKit
set_option linter.unusedVariables false
/-- block B alone of what was there may have turned -/
structure But (B : Nat) (w w' : World) : Prop where
  os : w'.os = w.os
  tape : w'.tape = w.tape
  output : w'.output = w.output
  size : w.heap.size ≤ w'.heap.size
  block : ∀ k, k < w.heap.size → k ≠ B → w'.heap[k]? = w.heap[k]?
theorem But.refl (B : Nat) (w : World) : But B w w := ⟨rfl, rfl, rfl, Nat.le_refl _, fun _ _ _ => rfl⟩
theorem But.trans {B : Nat} {a b c : World} (h : But B a b) (k : But B b c) : But B a c :=
  ⟨k.os.trans h.os, k.tape.trans h.tape, k.output.trans h.output, Nat.le_trans h.size k.size, fun i hi hn => (k.block i (Nat.lt_of_lt_of_le hi h.size) hn).trans (h.block i hi hn)⟩
theorem But.kp {w w' : World} (k : Kp w w') (B : Nat) : But B w w' := ⟨k.os, k.tape, k.output, k.size, fun i hi _ => k.block i hi⟩
theorem But.set (B o : Nat) (w : World) (v : Value) : But B w (w.setCell ⟨B, o, none⟩ v) :=
  ⟨rfl, rfl, rfl, by simp [World.setCell], fun k _ hn => Below.heap_setCell _ _ _ _ hn⟩
theorem But.below {B m : Nat} {w w' : World} (h : But B w w') (hB : m ≤ B) (hm : m ≤ w.heap.size) : Below m w w' :=
  ⟨h.os, h.tape, h.output, h.size, fun k hk => h.block k (by omega) (by omega)⟩
theorem But.cell {B b o : Nat} {w w' : World} (h : But B w w') (hb : b < w.heap.size) (hn : b ≠ B) : w'.cell? ⟨b, o, none⟩ = w.cell? ⟨b, o, none⟩ := World.cell?_of_block (w := w) (h.block b hb hn)
theorem But.frozen {B b o : Nat} {w w' : World} (h : But B w w') (hb : b < w.heap.size) (hn : b ≠ B) : w'.frozen? ⟨b, o, none⟩ = w.frozen? ⟨b, o, none⟩ := World.frozen?_of_block (w := w) (h.block b hb hn)
/-- the nine cells of the question in block B -/
def qL (a b c d e f m n k : Int) : List Int := [a, b, c, d, e, f, m, n, k]
def Qc (w : World) (B : Nat) (a b c d e f m n k : Int) : Prop := B < w.heap.size ∧ ∀ j x, (qL a b c d e f m n k)[j]? = some x → w.cell? ⟨B, j, none⟩ = some (.int .i64 x) ∧ w.frozen? ⟨B, j, none⟩ = false
theorem Qc.kp {w w' : World} {B : Nat} {a b c d e f m n k : Int} (h : Qc w B a b c d e f m n k) (g : Kp w w') : Qc w' B a b c d e f m n k :=
  ⟨Nat.lt_of_lt_of_le h.1 g.size, fun j x hj => by
    have := h.2 j x hj
    rw [g.cell (p := ⟨B, j, none⟩) h.1, g.frozen (p := ⟨B, j, none⟩) h.1]
    exact this⟩
theorem Qc.cells {w : World} {B : Nat} {a b c d e f m n k : Int} (h : Qc w B a b c d e f m n k) :
    (w.cell? ⟨B, 0, none⟩ = some (.int .i64 a) ∧ w.cell? ⟨B, 1, none⟩ = some (.int .i64 b) ∧ w.cell? ⟨B, 2, none⟩ = some (.int .i64 c) ∧ w.cell? ⟨B, 3, none⟩ = some (.int .i64 d) ∧ w.cell? ⟨B, 4, none⟩ = some (.int .i64 e) ∧ w.cell? ⟨B, 5, none⟩ = some (.int .i64 f) ∧ w.cell? ⟨B, 6, none⟩ = some (.int .i64 m) ∧ w.cell? ⟨B, 7, none⟩ = some (.int .i64 n) ∧ w.cell? ⟨B, 8, none⟩ = some (.int .i64 k)) :=
  ⟨(h.2 0 _ rfl).1, (h.2 1 _ rfl).1, (h.2 2 _ rfl).1, (h.2 3 _ rfl).1, (h.2 4 _ rfl).1, (h.2 5 _ rfl).1, (h.2 6 _ rfl).1, (h.2 7 _ rfl).1, (h.2 8 _ rfl).1⟩
theorem Qc.free {w : World} {B : Nat} {a b c d e f m n k : Int} (h : Qc w B a b c d e f m n k) :
    (w.frozen? ⟨B, 0, none⟩ = false ∧ w.frozen? ⟨B, 1, none⟩ = false ∧ w.frozen? ⟨B, 2, none⟩ = false ∧ w.frozen? ⟨B, 3, none⟩ = false ∧ w.frozen? ⟨B, 4, none⟩ = false ∧ w.frozen? ⟨B, 5, none⟩ = false ∧ w.frozen? ⟨B, 8, none⟩ = false) :=
  ⟨(h.2 0 _ rfl).2, (h.2 1 _ rfl).2, (h.2 2 _ rfl).2, (h.2 3 _ rfl).2, (h.2 4 _ rfl).2, (h.2 5 _ rfl).2, (h.2 8 _ rfl).2⟩
theorem Qc.set {w : World} {B i : Nat} {a b c d e f m n k a' b' c' d' e' f' m' n' k' v : Int} (h : Qc w B a b c d e f m n k)
    (hi : i < 9) (hL : qL a' b' c' d' e' f' m' n' k' = (qL a b c d e f m n k).set i v) : Qc (w.setCell ⟨B, i, none⟩ (.int .i64 v)) B a' b' c' d' e' f' m' n' k' := by
  refine ⟨by simpa [World.setCell] using h.1, fun j x hj => ?_⟩
  rw [hL, List.getElem?_set] at hj
  by_cases e : i = j
  · subst e
    rw [if_pos rfl] at hj
    have hl : i < (qL a b c d e f m n k).length := by simpa [qL] using hi
    rw [if_pos hl] at hj
    simp only [Option.some.injEq] at hj
    subst hj
    obtain ⟨y, hy⟩ : ∃ y, (qL a b c d e f m n k)[i]? = some y := ⟨_, List.getElem?_eq_getElem hl⟩
    have := h.2 i y hy
    exact ⟨World.cell?_setCell_same' _ _ _ (by rw [this.1]; rfl), by rw [World.frozen?_setCell]; exact this.2⟩
  · rw [if_neg e] at hj
    have := h.2 j x hj
    refine ⟨?_, by rw [World.frozen?_setCell]; exact this.2⟩
    rw [← this.1]
    exact World.cell?_setCell_other _ _ _ _ (by simp)
theorem kpc {w w' : World} (k : Kp w w') : ∀ b o, b < w.heap.size → w'.cell? ⟨b, o, none⟩ = w.cell? ⟨b, o, none⟩ := fun b o h => k.cell (p := ⟨b, o, none⟩) h
end Go.Proofs.YteneoimkfddhpaaDoor
