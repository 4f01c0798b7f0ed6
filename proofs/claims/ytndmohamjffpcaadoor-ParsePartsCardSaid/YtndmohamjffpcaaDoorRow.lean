/-
  Rows that a call owns, and what they read as.
-/
import Derived.Test.YtndmohamjffpcaaDoorRunsC
namespace Go.Proofs.YtndmohamjffpcaaDoor
open Go.RowKit
set_option linter.unusedVariables false
set_option linter.unusedSimpArgs false
theorem runsAt_own {w : World} {base : Nat} {e : TypeId} {v : Value} {l : List R} (h : w.ownsRow base e 2 v l.length (cellsR l)) : RunsAt w v l := by
  rcases h.2 with ⟨e1, h0⟩ | ⟨g, cp, cur, rfl, h2, h3, h4, h5, h6, h7⟩
  · exact .inl ⟨_, _, e1, List.length_eq_zero_iff.1 h0⟩
  · refine .inr ⟨g, 0, cp, rfl, h4, h5, fun i hi => ?_⟩
    have c : ∀ (m : List R) (k : Nat), k < m.length → (cellsR m)[k * 2]? = some (.int .i64 (at_ m k).1) ∧ (cellsR m)[k * 2 + 1]? = some (.int .i64 (at_ m k).2) := by
      intro m
      induction m with
      | nil => intro k hk; simp at hk
      | cons r t ih =>
        intro k hk
        have e : cellsR (r :: t) = [.int .i64 r.1, .int .i64 r.2] ++ cellsR t := by unfold cellsR; simp
        cases k with
        | zero => rw [e]; exact ⟨rfl, rfl⟩
        | succ k =>
          have g := ih k (by simpa using hk)
          rw [e, List.getElem?_append_right (by simp; omega), List.getElem?_append_right (by simp; omega)]
          rw [show (k + 1) * 2 - [Value.int .i64 r.1, Value.int .i64 r.2].length = k * 2 by simp; omega, show (k + 1) * 2 + 1 - [Value.int .i64 r.1, Value.int .i64 r.2].length = k * 2 + 1 by simp; omega]
          exact g
    obtain ⟨c1, c2⟩ := c l i hi
    rw [Nat.zero_add, h.cellAt _ (by omega), h.cellAt _ (by omega)]
    exact ⟨c1, c2⟩
theorem own_mono {w : World} {base base' : Nat} {e : TypeId} {size : Nat} {v : Value} {n : Nat} {xs : List Value} (h : w.ownsRow base e size v n xs) (hb : base' ≤ base) : w.ownsRow base' e size v n xs :=
  ⟨h.1, h.2.imp id fun ⟨g, cap, cur, e1, h1, r⟩ => ⟨g, cap, cur, e1, Nat.le_trans hb h1, r⟩⟩
theorem own_kp {w w' : World} {base : Nat} {e : TypeId} {size : Nat} {v : Value} {n : Nat} {xs : List Value} (h : w.ownsRow base e size v n xs) (k : Kp w w') : w'.ownsRow base e size v n xs := by
  refine ⟨h.1, ?_⟩
  rcases h.2 with h2 | ⟨g, cap, cur, e1, hb, hg, rest⟩
  · exact .inl h2
  · exact .inr ⟨g, cap, cur, e1, hb, (k.block g (h.lt g (by rw [e1]; rfl)).2).trans hg, rest⟩
theorem cells_idx : ∀ (m : List R) (j : Nat), j < m.length * 2 → (cellsR m)[j]? = some (.int .i64 (if j % 2 = 0 then (at_ m (j / 2)).1 else (at_ m (j / 2)).2)) := by
  intro m
  induction m with
  | nil => intro j hj; simp at hj
  | cons r t ih =>
    intro j hj
    have e : cellsR (r :: t) = .int .i64 r.1 :: .int .i64 r.2 :: cellsR t := by unfold cellsR; simp
    rw [e]
    match j with
    | 0 => rfl
    | 1 => rfl
    | j + 2 =>
      have g := ih j (by simp at hj; omega)
      rw [List.getElem?_cons_succ, List.getElem?_cons_succ, g, show (j + 2) / 2 = j / 2 + 1 by omega, show (j + 2) % 2 = j % 2 by omega]
      rfl
theorem wi_ok {l : List R} : ∀ r ∈ wi l, okR r := by
  intro r hr
  unfold wi at hr
  simp only [List.mem_filter, List.mem_map, decide_eq_true_eq] at hr
  obtain ⟨⟨q, _, rfl⟩, h⟩ := hr
  exact ⟨h, by unfold clipR; simp only; omega, by unfold clipR; simp only; omega⟩
theorem wi_mem (l : List R) (n : Int) : memR (wi l) n ↔ memR l n := by
  unfold memR wi
  constructor
  · rintro ⟨r, hr, g1, g2, g3⟩
    simp only [List.mem_filter, List.mem_map, decide_eq_true_eq] at hr
    obtain ⟨⟨q, hq, rfl⟩, h⟩ := hr
    have := (clip_mem q n).1 ⟨g1, g2⟩
    exact ⟨q, hq, this.1, this.2.1, g3⟩
  · rintro ⟨q, hq, g1, g2, g3⟩
    have := (clip_mem q n).2 ⟨g1, g2, g3⟩
    refine ⟨clipR q, ?_, this.1, this.2, g3⟩
    simp only [List.mem_filter, List.mem_map, decide_eq_true_eq]
    exact ⟨⟨q, hq, rfl⟩, by omega⟩
theorem ok_i64 {l : List R} (h : ∀ r ∈ l, okR r) : I64R l := by
  intro r hr
  obtain ⟨a, b, c⟩ := h r hr
  omega
theorem sane_ok {l : List R} (h : sane l) : ∀ r ∈ l, okR r := by
  intro r hr
  obtain ⟨i, hi, e⟩ := List.getElem_of_mem hr
  have := ((sane_idx l).1 h i hi).1
  unfold at_ at this
  simp [List.getD, hi, e] at this
  exact this
theorem own_slice {w : World} {base : Nat} {e : TypeId} {size : Nat} {v : Value} {n : Nat} {xs : List Value} (h : w.ownsRow base e size v n xs) : ∃ ad c, v = .slice ad n c := by
  rcases h.2 with ⟨rfl, rfl⟩ | ⟨g, cp, cur, rfl, _⟩
  · exact ⟨_, _, rfl⟩
  · exact ⟨_, _, rfl⟩
theorem cell_up {w w' : World} (k : Kp w w') {b o : Nat} {x : Value} (c : w.cell? ⟨b, o, none⟩ = some x) : w'.cell? ⟨b, o, none⟩ = some x :=
  (Below.cell (p := ⟨b, o, none⟩) k (World.block_lt_of_cell? _ _ c)).trans c
theorem heap_at (W : World) (o : Obj) (B : Nat) (h : W.heap.size = B) : (W.alloc o).heap[B]? = some o := by subst h; show (W.heap.push o)[W.heap.size]? = some o; simp
theorem heap_block {w w' : World} (k : Kp w w') {b : Nat} {o : Obj} (h : w.heap[b]? = some o) : w'.heap[b]? = some o := (k.block b (Array.getElem?_eq_some_iff.1 h).1).trans h
end Go.Proofs.YtndmohamjffpcaaDoor
