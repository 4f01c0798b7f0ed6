/-
  Contracts of the document's answer for layer 4: Make, As, Of.
-/
import Derived.Test.YtndmohamjffpcaaDoor4B
import Derived.Deep.RegionHeld3
namespace Go.Proofs.YtndmohamjffpcaaDoor
open Go.RowKit
set_option linter.unusedVariables false
set_option linter.unusedSimpArgs false
theorem put1_len : ∀ (s : List R) (x : R), (put1 x s).length ≤ s.length + 1 := by
  intro s
  induction s with
  | nil => intro x; simp [put1]
  | cons y t ih =>
    intro x
    rw [put1]
    split
    · have := ih x; simp; omega
    · split
      · simp
      · have := ih (min x.1 y.1, max x.2 y.2); simp; omega
theorem putR_len (s : List R) (r : R) : (putR s r).length ≤ s.length + 1 := by
  unfold putR; split
  · omega
  · exact put1_len _ _
theorem nf_snoc (l : List R) (r : R) : nf (l ++ [r]) = putR (nf l) r := by unfold nf; simp
theorem nf_len (l : List R) : (nf l).length ≤ l.length := by
  have : ∀ (t s : List R), (t.foldl putR s).length ≤ s.length + t.length := by
    intro t
    induction t with
    | nil => intro s; simp
    | cons r t ih => intro s; have := ih (putR s r); have := putR_len s r; simp at *; omega
  simpa [nf] using this l []
theorem nf_next (l : List R) (k : Nat) (h : k < l.length) : nf (l.take (k + 1)) = putR (nf (l.take k)) (at_ l k) := by rw [take_at l k h, nf_snoc]
theorem nf_take_len (l : List R) (k : Nat) : (nf (l.take k)).length ≤ k := Nat.le_trans (nf_len _) (List.length_take_le _ _)
/-- a slice of ints reads as this list -/
def IntsAt (w : World) (v : Value) (l : List Int) : Prop :=
  (∃ ad cp, v = .slice ad 0 cp ∧ l = []) ∨ ∃ b off cap, v = .slice (some ⟨b, off, none⟩) l.length cap ∧ l.length ≤ cap ∧ cap ≤ maxLen ∧
    ∀ i, i < l.length → w.cell? ⟨b, off + i, none⟩ = some (.int .i64 (l.getD i 0))
def I64 (l : List Int) : Prop := ∀ n ∈ l, -9223372036854775808 ≤ n ∧ n ≤ 9223372036854775807
theorem IntsAt.slice {w : World} {v : Value} {l : List Int} (h : IntsAt w v l) : ∃ ad c, v = .slice ad l.length c := by
  rcases h with ⟨ad, cp, rfl, rfl⟩ | ⟨b, off, cap, rfl, _⟩
  · exact ⟨_, _, rfl⟩
  · exact ⟨_, _, rfl⟩
theorem IntsAt.kp {w w' : World} {v : Value} {l : List Int} (h : IntsAt w v l) (k : Kp w w') : IntsAt w' v l := by
  rcases h with h | ⟨b, off, cap, e, h1, h2, h3⟩
  · exact .inl h
  · refine .inr ⟨b, off, cap, e, h1, h2, fun i hi => ?_⟩
    have c := h3 i hi
    exact (Below.cell (p := ⟨b, off + i, none⟩) k (World.block_lt_of_cell? _ _ c)).trans c
theorem rd_int {w wr : World} {b off : Nat} {l : List Int} (hx : ∀ i, i < l.length → w.cell? ⟨b, off + i, none⟩ = some (.int .i64 (l.getD i 0))) (k : Kp w wr) (i : Nat) (hi : i < l.length) :
    wr.cell? ⟨b, off + i, none⟩ = some (.int .i64 (l.getD i 0)) := by
  have c := hx i hi
  exact (Below.cell (p := ⟨b, off + i, none⟩) k (World.block_lt_of_cell? _ _ c)).trans c
def sing (l : List Int) : List R := l.map fun n => (n, n)
theorem sing_at (l : List Int) (k : Nat) (h : k < l.length) : at_ (sing l) k = (l.getD k 0, l.getD k 0) := by
  unfold at_ sing; simp [List.getD, h]
theorem sing_take (l : List Int) (k : Nat) : sing (l.take k) = (sing l).take k := by unfold sing; simp
theorem sing_len (l : List Int) : (sing l).length = l.length := by unfold sing; simp
theorem getD_mem {l : List Int} {k : Nat} (h : k < l.length) : l.getD k 0 ∈ l := by
  have : l.getD k 0 = l[k] := by simp [List.getD, h]
  rw [this]; exact List.getElem_mem h
end Go.Proofs.YtndmohamjffpcaaDoor
