/-
  An append to a row of the call's own, out of whatever reads as a list: what it leaves, and where the row lies behind it.
-/
import Derived.Test.YtndmohamjffpcaaDoorRow
import Derived.Deep.AppendLies
namespace Go.Proofs.YtndmohamjffpcaaDoor
open Go.RowKit
set_option linter.unusedVariables false
set_option linter.unusedSimpArgs false
/-- a slice whose elements' cells are these -/
def SrcAt (w : World) (sv : Value) (m : Nat) (news : List Value) : Prop :=
  (∃ ad cp, sv = .slice ad 0 cp ∧ m = 0 ∧ news = []) ∨ ∃ ad c, sv = .slice (some ad) m c ∧ ∀ j u, news[j]? = some u → w.cell? (ad.add j) = some u
theorem run_append_zero {P : Program} (w : World) (base : Nat) (t ty e : TypeId) (i : TypeInfo) (size : Nat) (ht : P.underlying t = some (.slice e)) (hi : P.info? e = some i)
    (v : Value) (n : Nat) (xs : List Value) (hown : w.ownsRow base e size v n xs) (ad : Option Addr) (cp : Nat) :
    (Builtin.append_ #[t, t] ty #[v, .slice ad 0 cp]).run P w = .ok v w := by
  rcases hown.2 with ⟨rfl, rfl⟩ | ⟨g, cap, cur, rfl, _, _, hnc, _⟩
  · cases ad <;> simp [Builtin.append_, run_underlying ht, sizeOf, typeInfo, hi, Builtin.lenOf, Builtin.firstCells, loadCells, loadCellsFrom]
  · cases ad <;> simp [Builtin.append_, run_underlying ht, sizeOf, typeInfo, hi, Builtin.lenOf, Builtin.firstCells, hnc, storeCells, loadCells, loadCellsFrom]
theorem wpList_app {P : Program} {w : World} {ops : Array Oper} {rest : List Oper} {o : Oper} {a : Act} {Q : Exit → Act → World → Prop} (hgd : o.guard = none) (s x : Operand) (t : TypeId)
    (ho : o.op = .call { callee := .builtin .append, args := #[s, x], argTypes := #[t, t] })
    (base : Nat) (e : TypeId) (i : TypeInfo) (z : Value) (size bytes : Nat) (ht : P.underlying t = some (.slice e)) (hi : P.info? e = some i) (hz : i.zero = some z)
    (hsize : i.size = size) (hby : i.bytes = bytes) (hzs : z.cells.size = size) (hsz : 0 < size)
    (v : Value) (n : Nat) (xs : List Value) (hs : a.eval s = v) (hown : w.ownsRow base e size v n xs)
    (sv : Value) (m : Nat) (news : List Value) (hx : a.eval x = sv) (hsrc : SrcAt w sv m news) (hl : news.length = m * size) (h1 : ∀ u ∈ news, u.oneCell' = true)
    (h63 : n + m ≤ maxLen) (hbytes : (n + m) * bytes ≤ 140737488355328) (hbase : base ≤ w.heap.size)
    (h : ∀ v' w', w'.ownsRow base e size v' (n + m) (xs ++ news) → w.grownBy w' v.ownBlock → (v'.ownBlock = v.ownBlock ∨ v'.ownBlock = some w.heap.size) → wpList P ops Q rest (a.put o.dst v') w') : wpList P ops Q (o :: rest) a w := by
  refine wpList_plain hgd fun K hK => ?_
  have : ∃ v' w', (Builtin.append_ #[t, t] o.type #[v, sv]).run P w = .ok v' w' ∧ w'.ownsRow base e size v' (n + m) (xs ++ news) ∧ w.grownBy w' v.ownBlock ∧ (v'.ownBlock = v.ownBlock ∨ v'.ownBlock = some w.heap.size) := by
    rcases hsrc with ⟨ad, cp, rfl, rfl, rfl⟩ | ⟨ad, c, rfl, hn⟩
    · exact ⟨v, w, run_append_zero w base t o.type e i size ht hi v n xs hown ad cp, by simpa using hown, ⟨rfl, rfl, rfl, Nat.le_refl _, fun _ _ _ => rfl⟩, .inl rfl⟩
    · obtain ⟨v', w', hr, h2, h3, _, h5⟩ := run_append_own_at (P := P) w base t o.type e i z size bytes ht hi hz hsize hby hzs hsz v n xs hown ad m c news hl hn h1 h63 hbytes hbase
      exact ⟨v', w', hr, h2, h3, h5⟩
  obtain ⟨v', w', hr, h2, h3, h4⟩ := this
  unfold Oper.wp execOp
  simp only [ho, resolve, invoke, builtin, Sem.run_bind, Sem.run_pure, Result.andThen_ok, List.map_toArray, List.map_cons, List.map_nil, hs, hx, hr]
  exact hK _ _ (h v' w' h2 h3 h4)
theorem RunsAt.src {w : World} {v : Value} {l : List R} (h : RunsAt w v l) : SrcAt w v l.length (cellsR l) := by
  rcases h with ⟨ad, cp, rfl, rfl⟩ | ⟨b, off, cap, rfl, _, _, hx⟩
  · exact .inl ⟨_, _, rfl, rfl, rfl⟩
  · refine .inr ⟨_, _, rfl, fun j u hu => ?_⟩
    have hj : j < l.length * 2 := by
      have := (List.getElem?_eq_some_iff.1 hu).1
      rwa [cellsR_length] at this
    rw [cells_idx l j hj] at hu
    cases hu
    obtain ⟨c1, c2⟩ := hx (j / 2) (by omega)
    rw [Addr.add_lit]
    by_cases e : j % 2 = 0
    · rw [if_pos e, show off + j = off + j / 2 * 2 by omega]; exact c1
    · rw [if_neg e, show off + j = off + j / 2 * 2 + 1 by omega]; exact c2
theorem cells_one (l : List R) : ∀ u ∈ cellsR l, u.oneCell' = true := by
  intro u hu
  unfold cellsR at hu
  simp only [List.mem_flatMap, List.mem_cons, List.not_mem_nil, or_false] at hu
  obtain ⟨r, _, h | h⟩ := hu <;> subst h <;> rfl
/-- a run that is built: the slice of it -/
theorem one_at (w : World) (lo hi' : Int) (t : TypeId) : RunsAt (w.alloc (.cells #[.int .i64 lo, .int .i64 hi'] t)) (.slice (some ⟨w.heap.size, 0, none⟩) 1 1) [(lo, hi')] := by
  refine .inr ⟨w.heap.size, 0, 1, rfl, Nat.le_refl _, by unfold maxLen; omega, fun i hi => ?_⟩
  obtain rfl : i = 0 := by simp at hi; omega
  exact ⟨by simp [at_], by simp [at_]⟩
theorem one_src (w : World) (lo hi' : Int) (t : TypeId) : SrcAt (w.alloc (.cells #[.int .i64 lo, .int .i64 hi'] t)) (.slice (some ⟨w.heap.size, 0, none⟩) 1 1) 1 [.int .i64 lo, .int .i64 hi'] := (one_at w lo hi' t).src
theorem own_len {w : World} {base : Nat} {e : TypeId} {v : Value} {l m : List R} (h : w.ownsRow base e 2 v (l.length + m.length) (cellsR l ++ cellsR m)) : w.ownsRow base e 2 v (l ++ m).length (cellsR (l ++ m)) := by
  rw [cellsR_append, List.length_append]; exact h
theorem own_snoc {w : World} {base : Nat} {e : TypeId} {v : Value} {l : List R} {lo hi' : Int} (h : w.ownsRow base e 2 v (l.length + 1) (cellsR l ++ [.int .i64 lo, .int .i64 hi'])) : w.ownsRow base e 2 v (l ++ [(lo, hi')]).length (cellsR (l ++ [(lo, hi')])) := own_len (m := [(lo, hi')]) h
/-- what else lies there stays -/
theorem grown_cell {w w1 : World} {row : Option Nat} {B o : Nat} (g : w.grownBy w1 row) (hB : B < w.heap.size) (hn : ∀ j, row = some j → j ≠ B) : w1.cell? ⟨B, o, none⟩ = w.cell? ⟨B, o, none⟩ :=
  World.cell?_of_block (w := w) (g.block B hB (fun c => hn B c.symm rfl))
theorem grown_frozen {w w1 : World} {row : Option Nat} {B o : Nat} (g : w.grownBy w1 row) (hB : B < w.heap.size) (hn : ∀ j, row = some j → j ≠ B) : w1.frozen? ⟨B, o, none⟩ = w.frozen? ⟨B, o, none⟩ :=
  World.frozen?_of_block (w := w) (g.block B hB (fun c => hn B c.symm rfl))
/-- two rows that lie apart -/
def Apart (v u : Value) : Prop := ∀ g, v.ownBlock = some g → u.ownBlock ≠ some g
theorem Apart.symm {v u : Value} (h : Apart v u) : Apart u v := fun g a b => h g b a
theorem Apart.nil (u : Value) : Apart (.slice none 0 0) u := fun g h => by cases h
theorem own_apart {w w1 : World} {base : Nat} {e : TypeId} {size : Nat} {v u : Value} {n : Nat} {xs : List Value} (hu : w.ownsRow base e size u n xs) (g : w.grownBy w1 v.ownBlock) (h : Apart v u) : w1.ownsRow base e size u n xs := by
  refine hu.kept g ?_
  cases hv : u.ownBlock with
  | none => exact .inl rfl
  | some k => exact .inr fun c => h k c.symm hv
theorem apart_step {w : World} {base : Nat} {e : TypeId} {size : Nat} {v v' u : Value} {n : Nat} {xs : List Value} (h : Apart v u) (hu : w.ownsRow base e size u n xs) (at' : v'.ownBlock = v.ownBlock ∨ v'.ownBlock = some w.heap.size) : Apart v' u := by
  intro g hg hc
  rcases at' with a | a
  · exact h g (by rw [← a]; exact hg) hc
  · rw [a] at hg
    have := (hu.lt g hc).2
    cases hg
    omega
theorem Kp.grown {w wr w1 : World} {row : Option Nat} (k : Kp w wr) (g : wr.grownBy w1 row) (h : ∀ j, row = some j → w.heap.size ≤ j) : Kp w w1 :=
  Below.grown k g k.size h
end Go.Proofs.YtndmohamjffpcaaDoor
