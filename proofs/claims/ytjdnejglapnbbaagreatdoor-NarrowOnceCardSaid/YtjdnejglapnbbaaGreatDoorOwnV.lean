/-
  Rows of leaves whose slices are rows of their own.
-/
import Derived.Test.YtjdnejglapnbbaaGreatDoorGEnv
import Derived.Test.YtjdnejglapnbbaaGreatDoorGBa
namespace Go.Proofs.YtjdnejglapnbbaaGreatDoor
open Go.RowKit
set_option linter.unusedVariables false
set_option linter.unusedSimpArgs false
/-- the slices of leaves are rows of their own -/
def OwnV (w : World) (base : Nat) (l : List (LF × VV)) : Prop := ∀ p ∈ l, w.ownsRow base 53 2 p.2.1 p.1.a.length (cellsR p.1.a) ∧ w.ownsRow base 53 2 p.2.2 p.1.b.length (cellsR p.1.b)
theorem OwnV.reads {w : World} {base : Nat} {l : List (LF × VV)} (h : OwnV w base l) : ReadsV w l := fun p hp => ⟨runsAt_own (h p hp).1, runsAt_own (h p hp).2⟩
theorem OwnV.kp {w w' : World} {base : Nat} {l : List (LF × VV)} (h : OwnV w base l) (k : Kp w w') : OwnV w' base l := fun p hp => ⟨own_kp (h p hp).1 k, own_kp (h p hp).2 k⟩
theorem OwnV.mono {w : World} {base base' : Nat} {l : List (LF × VV)} (h : OwnV w base l) (hb : base' ≤ base) : OwnV w base' l := fun p hp => ⟨own_mono (h p hp).1 hb, own_mono (h p hp).2 hb⟩
theorem OwnV.append {w : World} {base : Nat} {l m : List (LF × VV)} (h : OwnV w base l) (g : OwnV w base m) : OwnV w base (l ++ m) := fun p hp => (List.mem_append.1 hp).elim (h p) (g p)
/-- rows of unlike types lie apart -/
theorem own_types {w : World} {b b' s s' n n' : Nat} {e e' : TypeId} {v u : Value} {xs ys : List Value} (h : w.ownsRow b e s v n xs) (g : w.ownsRow b' e' s' u n' ys) (ne : e ≠ e') : Apart v u := by
  intro k hv hu
  rcases h.2 with ⟨rfl, _⟩ | ⟨i, c, cur, rfl, _, h1, _⟩
  · cases hv
  · rcases g.2 with ⟨rfl, _⟩ | ⟨j, c', cur', rfl, _, g1, _⟩
    · cases hu
    · simp only [Value.ownBlock, Option.some.injEq] at hv hu
      subst hv
      subst hu
      rw [h1] at g1
      simp only [Option.some.injEq, Obj.cells.injEq] at g1
      exact ne g1.2.1
theorem OwnV.grown {w w1 : World} {base b s n : Nat} {v : Value} {xs : List Value} {l : List (LF × VV)} (h : OwnV w base l) (g : w.grownBy w1 v.ownBlock) (hv : w.ownsRow b 47 s v n xs) : OwnV w1 base l :=
  fun p hp => ⟨own_apart (h p hp).1 g (own_types hv (h p hp).1 (by decide)), own_apart (h p hp).2 g (own_types hv (h p hp).2 (by decide))⟩
theorem own_srcV {w : World} {base : Nat} {e : TypeId} {v : Value} {m : List (LF × VV)} (h : w.ownsRow base e 4 v m.length (cellsV m)) : SrcAt w v m.length (cellsV m) := by
  rcases h.2 with ⟨e1, h0⟩ | ⟨g, cp, cur, rfl, _⟩
  · have : m = [] := List.length_eq_zero_iff.1 h0
    subst this
    exact .inl ⟨_, _, e1, rfl, rfl⟩
  · refine .inr ⟨_, _, rfl, fun j u hu => ?_⟩
    have hj : j < m.length * 4 := by
      have := (List.getElem?_eq_some_iff.1 hu).1
      rwa [cellsV_length] at this
    rw [Addr.add_lit, Nat.zero_add, h.cellAt _ hj]
    exact hu
theorem own_leaf (w : World) (f : LF) (va vb : Value) : (w.alloc (.cells #[.bool f.sp, .int .i64 f.u, va, vb] 47)).ownsRow w.heap.size 47 4 (.slice (some ⟨w.heap.size, 0, none⟩) 1 1) [(f, (va, vb))].length (cellsV [(f, (va, vb))]) :=
  ⟨rfl, .inr ⟨w.heap.size, 1, #[.bool f.sp, .int .i64 f.u, va, vb], rfl, Nat.le_refl _, heap_at _ _ _ rfl, Nat.le_refl _, by decide, rfl, rfl⟩⟩
theorem own_slice4 {w : World} {base : Nat} {e : TypeId} {v : Value} {n : Nat} {xs : List Value} (h : w.ownsRow base e 4 v n xs) : ∃ ad c, v = .slice ad n c := by
  rcases h.2 with ⟨e1, h0⟩ | ⟨g, cp, cur, rfl, _⟩
  · exact ⟨none, 0, by rw [e1, h0]⟩
  · exact ⟨_, _, rfl⟩
end Go.Proofs.YtjdnejglapnbbaaGreatDoor
