/-
  Rows of ints of a call's own.
-/
import Derived.Test.YtinpglfclbnhlaaGreatDoorGSetA
import Derived.Test.YtinpglfclbnhlaaGreatDoorImgE
namespace Go.Proofs.YtinpglfclbnhlaaGreatDoor
open Go.RowKit
set_option linter.unusedVariables false
set_option linter.unusedSimpArgs false
def cellsZ (l : List Int) : List Value := l.map (Value.int .i64)
theorem infoZ : (Tryz.prog.info? 3).map (fun i => (i.zero, i.size, i.bytes)) = some (some (.int .i64 0), 1, 8) := by kernel_rfl
theorem cellsZ_length (l : List Int) : (cellsZ l).length = l.length := by unfold cellsZ; simp
theorem cellsZ_append (a b : List Int) : cellsZ (a ++ b) = cellsZ a ++ cellsZ b := by unfold cellsZ; simp
theorem cellsZ_one (l : List Int) : ∀ u ∈ cellsZ l, u.oneCell' = true := by
  intro u hu
  unfold cellsZ at hu
  obtain ⟨n, _, rfl⟩ := List.mem_map.1 hu
  rfl
theorem cellsZ_at (l : List Int) {i : Nat} (h : i < l.length) : (cellsZ l)[i]? = some (.int .i64 (l.getD i 0)) := by
  unfold cellsZ; simp [List.getD, h]
theorem intsAt_ownZ {w : World} {base : Nat} {e : TypeId} {v : Value} {l : List Int} (h : w.ownsRow base e 1 v l.length (cellsZ l)) : IntsAt w v l := by
  rcases h.2 with ⟨e1, h0⟩ | ⟨g, cp, cur, e1, h2, h3, h4, h5, h6, h7⟩
  · exact .inl ⟨_, _, e1, List.length_eq_zero_iff.1 h0⟩
  · subst e1
    refine .inr ⟨g, 0, cp, rfl, h4, h5, fun i hi => ?_⟩
    rw [Nat.zero_add, h.cellAt i (by omega)]
    exact cellsZ_at l hi
theorem IntsAt.src {w : World} {v : Value} {l : List Int} (h : IntsAt w v l) : SrcAt w v l.length (cellsZ l) := by
  rcases h with ⟨ad, cp, rfl, rfl⟩ | ⟨b, off, cap, rfl, _, _, hx⟩
  · exact .inl ⟨_, _, rfl, rfl, rfl⟩
  · refine .inr ⟨_, _, rfl, fun j u hu => ?_⟩
    have hj : j < l.length := by
      have := (List.getElem?_eq_some_iff.1 hu).1
      rwa [cellsZ_length] at this
    rw [cellsZ_at l hj] at hu
    cases hu
    rw [Addr.add_lit]
    exact hx j hj
theorem one_srcZ (w : World) (x : Int) (t : TypeId) : SrcAt (w.alloc (.cells #[.int .i64 x] t)) (.slice (some ⟨w.heap.size, 0, none⟩) 1 1) 1 [.int .i64 x] := by
  refine .inr ⟨_, _, rfl, fun j u hu => ?_⟩
  match j, hu with
  | 0, hu => cases hu; simp [Addr.add]
theorem two_srcZ (w : World) (x y : Int) (t : TypeId) : SrcAt (w.alloc (.cells #[.int .i64 x, .int .i64 y] t)) (.slice (some ⟨w.heap.size, 0, none⟩) 2 2) 2 [.int .i64 x, .int .i64 y] := by
  refine .inr ⟨_, _, rfl, fun j u hu => ?_⟩
  match j, hu with
  | 0, hu => cases hu; simp [Addr.add]
  | 1, hu => cases hu; simp [Addr.add]
theorem own_lenZ {w : World} {base : Nat} {e : TypeId} {v : Value} {l m : List Int} (h : w.ownsRow base e 1 v (l.length + m.length) (cellsZ l ++ cellsZ m)) : w.ownsRow base e 1 v (l ++ m).length (cellsZ (l ++ m)) := by
  rw [cellsZ_append, List.length_append]; exact h
theorem own_snocZ {w : World} {base : Nat} {e : TypeId} {v : Value} {l : List Int} {x : Int} (h : w.ownsRow base e 1 v (l.length + 1) (cellsZ l ++ [.int .i64 x])) : w.ownsRow base e 1 v (l ++ [x]).length (cellsZ (l ++ [x])) := own_lenZ (m := [x]) h
theorem own_snoc2Z {w : World} {base : Nat} {e : TypeId} {v : Value} {l : List Int} {x y : Int} (h : w.ownsRow base e 1 v (l.length + 2) (cellsZ l ++ [.int .i64 x, .int .i64 y])) : w.ownsRow base e 1 v (l ++ [x, y]).length (cellsZ (l ++ [x, y])) := own_lenZ (m := [x, y]) h
theorem own_sliceZ {w : World} {base : Nat} {e : TypeId} {v : Value} {n : Nat} {xs : List Value} (h : w.ownsRow base e 1 v n xs) : ∃ ad c, v = .slice ad n c := by
  rcases h.2 with ⟨e1, h0⟩ | ⟨g, cp, cur, e1, _⟩
  · subst h0; exact ⟨_, _, e1⟩
  · exact ⟨_, _, e1⟩
end Go.Proofs.YtinpglfclbnhlaaGreatDoor
