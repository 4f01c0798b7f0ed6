/-
  Layer 4: the document's example (awake), and the walk of RunsMake.
-/
import Derived.Test.YtehpngppdcnohaaDoor4D
import Derived.Test.YtehpngppdcnohaaDoor4E
namespace Go.Proofs.YtehpngppdcnohaaDoor
open Go.RowKit
set_option linter.unusedVariables false
set_option linter.unusedSimpArgs false
theorem lit_at (w : World) (l : List R) (cs : Array Value) (t : TypeId) (hc : cs.toList = cellsR l) (hn : l.length ≤ maxLen) : RunsAt (w.alloc (.cells cs t)) (.slice (some ⟨w.heap.size, 0, none⟩) l.length l.length) l := by
  refine .inr ⟨w.heap.size, 0, l.length, rfl, Nat.le_refl _, hn, fun i hi => ?_⟩
  have c : ∀ j, j < l.length * 2 → (w.alloc (.cells cs t)).cell? ⟨w.heap.size, j, none⟩ = (cellsR l)[j]? := by
    intro j hj
    rw [← hc]
    have : j < cs.size := by rw [← Array.length_toList, hc, cellsR_length]; exact hj
    unfold World.cell?
    rw [heap_alloc_new]
    simp [this]
  rw [Nat.zero_add, c _ (by omega), c _ (by omega), cells_idx l _ (by omega), cells_idx l _ (by omega)]
  have e1 : i * 2 / 2 = i := by omega
  have e2 : (i * 2 + 1) / 2 = i := by omega
  have e3 : i * 2 % 2 = 0 := by omega
  have e4 : ¬ (i * 2 + 1) % 2 = 0 := by omega
  rw [e1, e2, if_pos e3, if_neg e4]
  exact ⟨rfl, rfl⟩
theorem ilit_at (w : World) (l : List Int) (cs : Array Value) (t : TypeId) (hc : cs.toList = l.map (Value.int .i64)) (hn : l.length ≤ maxLen) : IntsAt (w.alloc (.cells cs t)) (.slice (some ⟨w.heap.size, 0, none⟩) l.length l.length) l := by
  refine .inr ⟨w.heap.size, 0, l.length, rfl, Nat.le_refl _, hn, fun i hi => ?_⟩
  have : i < cs.size := by rw [← Array.length_toList, hc]; simpa using hi
  rw [Nat.zero_add]
  have e : cs[i]? = (l.map (Value.int .i64))[i]? := by rw [← hc]; simp
  unfold World.cell?
  rw [heap_alloc_new]
  simp [e, hi, List.getD]
theorem sane_list {l : List R} (h : saneB l = true) : sane l := by unfold saneB at h; exact of_decide_eq_true h
end Go.Proofs.YtehpngppdcnohaaDoor
