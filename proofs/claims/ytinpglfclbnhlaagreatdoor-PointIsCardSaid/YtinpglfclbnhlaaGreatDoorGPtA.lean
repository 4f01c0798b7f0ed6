/-
  Joined: PtB, PtC, PtA, PtH, PtI, PtD, PtE, PtF, PtG.
-/
import Derived.Test.YtinpglfclbnhlaaGreatDoorGOrdA
import Derived.Test.YtinpglfclbnhlaaGreatDoorPtP
import Derived.Laws.EntriesVeiled
import Derived.Test.YtinpglfclbnhlaaGreatDoorGSetC
import Derived.Test.YtinpglfclbnhlaaGreatDoorGMask
import Derived.Test.YtinpglfclbnhlaaGreatDoorGUnit
import Derived.Test.YtinpglfclbnhlaaGreatDoorGImgB
import Derived.LoopTactic
import Derived.Test.YtinpglfclbnhlaaGreatDoorGLeafA
namespace Go.Proofs.YtinpglfclbnhlaaGreatDoor
open Go.RowKit
set_option linter.unusedVariables false
set_option linter.unusedSimpArgs false
theorem ps_heap {w : World} {B : Nat} {t : TypeId} {c : Array Value} {fr : Nat × Nat} (hB : w.heap[B]? = some (.cells c t fr)) (o : Nat) (x : Value) : (w.setCell ⟨B, o, none⟩ x).heap[B]? = some (.cells (c.setIfInBounds o x) t fr) := by
  unfold World.setCell
  simp only
  rw [Array.getElem?_modify, if_pos rfl, hB]
  rfl
theorem ps_other {w : World} {B C : Nat} (h : C ≠ B) (o : Nat) (x : Value) : (w.setCell ⟨B, o, none⟩ x).heap[C]? = w.heap[C]? := by
  unfold World.setCell
  simp only
  rw [Array.getElem?_modify, if_neg (Ne.symm h)]
/-- the set grows in a box -/
def GJ (w0 : World) (B : Nat) (S : List R) (w : World) : Prop :=
  Kp w0 w ∧ w0.heap.size ≤ B ∧ ∃ v, w.heap[B]? = some (.cells #[v] 76 (0, 0)) ∧ w.ownsRow w0.heap.size 37 2 v S.length (cellsR S)
theorem GJ.kp {w0 w w' : World} {B : Nat} {S : List R} (h : GJ w0 B S w) (k : Kp w w') : GJ w0 B S w' := by
  obtain ⟨h1, h2, v, h3, h4⟩ := h
  exact ⟨h1.trans k, h2, v, heap_block k h3, own_kp h4 k⟩
/-- which blocks the growing set may write: the box, and the row that it tells -/
def dirty (B : Nat) (W : World) (k : Nat) : Prop := k = B ∨ ∃ v t fr, W.heap[B]? = some (.cells #[v] t fr) ∧ v.ownBlock = some k
/-- the row that the box tells is there -/
def WFB (B : Nat) (W : World) : Prop := ∀ k, dirty B W k → ∃ c t fr, W.heap[k]? = some (.cells c t fr)
theorem dirty_same {B k : Nat} {W W' : World} (e : W'.heap[B]? = W.heap[B]?) (h : dirty B W' k) : dirty B W k := by
  rcases h with h | ⟨v, t, fr, a, b⟩
  · exact .inl h
  · exact .inr ⟨v, t, fr, by rw [← e]; exact a, b⟩
/-- all others stay, and stay others -/
structure IKB (B : Nat) (W W' : World) : Prop where
  size : W.heap.size ≤ W'.heap.size
  wf : WFB B W → WFB B W'
  same : ∀ (k : Nat) (o : Obj), W.heap[k]? = some o → ¬ dirty B W k → W'.heap[k]? = some o ∧ ¬ dirty B W' k
theorem IKB.refl (B : Nat) (W : World) : IKB B W W := ⟨Nat.le_refl _, fun h => h, fun _ _ h d => ⟨h, d⟩⟩
theorem IKB.trans {B : Nat} {X Y Z : World} (h : IKB B X Y) (k : IKB B Y Z) : IKB B X Z :=
  ⟨Nat.le_trans h.size k.size, fun q => k.wf (h.wf q), fun i o hi hd => by obtain ⟨a, b⟩ := h.same i o hi hd; exact k.same i o a b⟩
theorem IKB.kp {B : Nat} {W W' : World} (h : Kp W W') (hB : B < W.heap.size) : IKB B W W' := by
  refine ⟨h.size, fun q k d => by obtain ⟨c, t, fr, a⟩ := q k (dirty_same (h.block B hB) d); exact ⟨c, t, fr, (h.block k (Array.getElem?_eq_some_iff.1 a).1).trans a⟩, fun k o hk hd => ⟨(h.block k (Array.getElem?_eq_some_iff.1 hk).1).trans hk, fun hd' => hd ?_⟩⟩
  rcases hd' with e | ⟨v, t, fr, a, b⟩
  · exact .inl e
  · exact .inr ⟨v, t, fr, by rw [← h.block B hB]; exact a, b⟩
theorem GJ.wf {w0 w : World} {B : Nat} {S : List R} (h : GJ w0 B S w) : WFB B w := by
  obtain ⟨h1, h2, v, h3, h4⟩ := h
  rintro k (rfl | ⟨u, t, fr, a, b⟩)
  · exact ⟨_, _, _, h3⟩
  · rw [h3] at a
    cases a
    rcases h4.2 with ⟨rfl, _⟩ | ⟨g, cap, cur, rfl, _, hgb, _⟩
    · cases b
    · cases b
      exact ⟨_, _, _, hgb⟩
/-- what is made anew is none of them -/
theorem fresh_clean {B : Nat} {W : World} (q : WFB B W) (hB : B < W.heap.size) (o : Obj) : ¬ dirty B (W.alloc o) W.heap.size := by
  rintro (e | ⟨v, t, fr, a, b⟩)
  · omega
  · rw [(Kp.alloc W o).block B hB] at a
    obtain ⟨_, _, _, hx⟩ := q _ (.inr ⟨v, t, fr, a, b⟩)
    have := (Array.getElem?_eq_some_iff.1 hx).1
    omega
theorem IKB.obj {B : Nat} {W W' : World} (h : IKB B W W') {k : Nat} {o : Obj} (hk : W.heap[k]? = some o) (hd : ¬ dirty B W k) : W'.heap[k]? = some o := (h.same k o hk hd).1
/-- what a set that grows leaves -/
theorem GJ.dirty {w0 w : World} {B : Nat} {S : List R} (h : GJ w0 B S w) {k : Nat} (hk : k < w0.heap.size) : ¬ dirty B w k := by
  obtain ⟨h1, h2, v, h3, h4⟩ := h
  rintro (rfl | ⟨u, t, fr, a, b⟩)
  · omega
  · rw [h3] at a
    cases a
    have := (h4.lt k b).1
    omega
/-- a row and its box change: nothing else -/
theorem IKB.put {B : Nat} {W W' : World} {t : TypeId} {v v' : Value} (hb : W.heap[B]? = some (.cells #[v] t (0, 0))) (hb' : W'.heap[B]? = some (.cells #[v'] t (0, 0))) (hs : W.heap.size ≤ W'.heap.size)
    (hsame : ∀ k, k < W.heap.size → k ≠ B → v.ownBlock ≠ some k → W'.heap[k]? = W.heap[k]?) (hv : v'.ownBlock = v.ownBlock ∨ ∃ g, v'.ownBlock = some g ∧ W.heap.size ≤ g) (hwf : WFB B W') : IKB B W W' := by
  refine ⟨hs, fun _ => hwf, fun k o hk hd => ?_⟩
  have hlt := (Array.getElem?_eq_some_iff.1 hk).1
  have n1 : k ≠ B := fun e => hd (.inl e)
  have n2 : v.ownBlock ≠ some k := fun e => hd (.inr ⟨v, t, (0, 0), hb, e⟩)
  refine ⟨(hsame k hlt n1 n2).trans hk, ?_⟩
  rintro (e | ⟨u, t', fr, a, b⟩)
  · exact n1 e
  · rw [hb'] at a
    cases a
    rcases hv with e | ⟨g, e, hg⟩
    · rw [e] at b; exact n2 b
    · rw [e] at b
      cases b
      omega
end Go.Proofs.YtinpglfclbnhlaaGreatDoor

namespace Go.Proofs.YtinpglfclbnhlaaGreatDoor
open Go.RowKit
set_option linter.unusedVariables false
set_option linter.unusedSimpArgs false
theorem step_app2 {P : Program} {w : World} {ops : Array Oper} {o : Oper} {a : Act} {K : Act → World → Prop} {Q : Exit → Act → World → Prop} {E : Prop} (hgd : o.guard = none) (s x : Operand) (t : TypeId)
    (ho : o.op = .call { callee := .builtin .append, args := #[s, x], argTypes := #[t, t] })
    (base : Nat) (e : TypeId) (i : TypeInfo) (z : Value) (size bytes : Nat) (ht : P.underlying t = some (.slice e)) (hi : P.info? e = some i) (hz : i.zero = some z)
    (hsize : i.size = size) (hby : i.bytes = bytes) (hzs : z.cells.size = size) (hsz : 0 < size)
    (v : Value) (n : Nat) (xs : List Value) (hs : a.eval s = v) (hown : w.ownsRow base e size v n xs)
    (sv : Value) (m : Nat) (news : List Value) (hx : a.eval x = sv) (hsrc : SrcAt w sv m news) (hl : news.length = m * size) (h1 : ∀ u ∈ news, u.oneCell' = true)
    (h63 : n + m ≤ maxLen) (hbytes : (n + m) * bytes ≤ 140737488355328) (hbase : base ≤ w.heap.size)
    (h : ∀ v' w', w'.ownsRow base e size v' (n + m) (xs ++ news) → w.grownBy w' v.ownBlock → (v'.ownBlock = v.ownBlock ∨ v'.ownBlock = some w.heap.size) → K (a.put o.dst v') w') :
    if Region.wanted o (yielded ops a.tmps) = true then Oper.wp P o a w K Q else E := by
  have hw : Region.wanted o (yielded ops a.tmps) = true := by simp [Region.wanted, hgd]
  rw [if_pos hw]
  have : ∃ v' w', (Builtin.append_ #[t, t] o.type #[v, sv]).run P w = .ok v' w' ∧ w'.ownsRow base e size v' (n + m) (xs ++ news) ∧ w.grownBy w' v.ownBlock ∧ (v'.ownBlock = v.ownBlock ∨ v'.ownBlock = some w.heap.size) := by
    rcases hsrc with ⟨ad, cp, rfl, rfl, rfl⟩ | ⟨ad, c, rfl, hn⟩
    · exact ⟨v, w, run_append_zero w base t o.type e i size ht hi v n xs hown ad cp, by simpa using hown, ⟨rfl, rfl, rfl, Nat.le_refl _, fun _ _ _ => rfl⟩, .inl rfl⟩
    · obtain ⟨v', w', hr, h2, h3, _, h5⟩ := run_append_own_at (P := P) w base t o.type e i z size bytes ht hi hz hsize hby hzs hsz v n xs hown ad m c news hl hn h1 h63 hbytes hbase
      exact ⟨v', w', hr, h2, h3, h5⟩
  obtain ⟨v', w', hr, h2, h3, h5⟩ := this
  unfold Oper.wp execOp
  simp only [ho, resolve, invoke, builtin, Sem.run_bind, Sem.run_pure, Result.andThen_ok, List.map_toArray, List.map_cons, List.map_nil, hs, hx, hr]
  exact h v' w' h2 h3 h5
theorem pt_blk_ne {w : World} {base : Nat} {e t : TypeId} {size n B : Nat} {v : Value} {y : Array Value} {xs : List Value} {fr : Nat × Nat} (h : w.ownsRow base e size v n xs) (hB : w.heap[B]? = some (.cells y t fr)) (ht : (t == e) = false) : ∀ j, v.ownBlock = some j → j ≠ B := by
  intro j hj e1
  subst e1
  rcases h.2 with ⟨rfl, _⟩ | ⟨g, cap, cur, rfl, hb, hg, rest⟩
  · cases hj
  · cases hj
    rw [hB] at hg
    cases hg
    simp at ht
theorem pt_setc {w : World} {base : Nat} {e t : TypeId} {size n B : Nat} {v y x : Value} {xs : List Value} {fr : Nat × Nat} (h : w.ownsRow base e size v n xs) (hB : w.heap[B]? = some (.cells #[y] t fr)) (ht : (t == e) = false) : (w.setCell ⟨B, 0, none⟩ x).ownsRow base e size v n xs := by
  have hn := pt_blk_ne h hB ht
  refine ⟨h.1, ?_⟩
  rcases h.2 with h2 | ⟨g, cap, cur, e1, hb, hg, rest⟩
  · exact .inl h2
  · exact .inr ⟨g, cap, cur, e1, hb, (ps_other (hn g (by rw [e1]; rfl)) _ _).trans hg, rest⟩
/-- a place is laid behind the others: what holds then -/
theorem GJ.appended {w0 w X w6 : World} {B n : Nat} {S : List R} {r : R} {ad ad6 : Option Addr} {c c6 : Nat} (hn : n = S.length) (k0 : Kp w0 w) (hB : w0.heap.size ≤ B)
    (bx : w.heap[B]? = some (.cells #[.slice ad n c] 76 (0, 0))) (own : w.ownsRow w0.heap.size 37 2 (.slice ad n c) n (cellsR S)) (kx : Kp w X)
    (own6 : w6.ownsRow w0.heap.size 37 2 (.slice ad6 (n + 1) c6) (n + 1) (cellsR S ++ [.int .i64 r.1, .int .i64 r.2])) (grow6 : X.grownBy w6 (Value.slice ad n c).ownBlock)
    (at6 : (Value.slice ad6 (n + 1) c6).ownBlock = (Value.slice ad n c).ownBlock ∨ (Value.slice ad6 (n + 1) c6).ownBlock = some X.heap.size) :
    GJ w0 B (S ++ [r]) (w6.setCell ⟨B, 0, none⟩ (.slice ad6 (n + 1) c6)) ∧ IKB B w (w6.setCell ⟨B, 0, none⟩ (.slice ad6 (n + 1) c6)) ∧ w6.heap[B]? = some (.cells #[.slice ad n c] 76 (0, 0)) := by
  subst hn
  have own5 := own_kp own kx
  have bx5 := heap_block kx bx
  have lt5 := (Array.getElem?_eq_some_iff.1 bx5).1
  have ne5 := pt_blk_ne own5 bx5 (by decide)
  have bx6 : w6.heap[B]? = some (.cells #[.slice ad S.length c] 76 (0, 0)) := (grow6.block B lt5 (fun e => ne5 B e.symm rfl)).trans bx5
  have O6 : w6.ownsRow w0.heap.size 37 2 (.slice ad6 (S.length + 1) c6) (S ++ [r]).length (cellsR (S ++ [r])) := own_snoc own6
  have K6 : Kp w0 w6 := (k0.trans kx).grown grow6 (fun j hj => (own5.lt j hj).1)
  have bx9 := ps_heap bx6 0 (.slice ad6 (S.length + 1) c6)
  have gj : GJ w0 B (S ++ [r]) (w6.setCell ⟨B, 0, none⟩ (.slice ad6 (S.length + 1) c6)) := ⟨Below.setCell K6 (p := ⟨B, 0, none⟩) hB _, hB, _, bx9, pt_setc O6 bx6 (by decide)⟩
  refine ⟨gj, ?_, bx6⟩
  refine IKB.put bx bx9 ?_ ?_ ?_ gj.wf
  · exact Nat.le_trans (Nat.le_trans kx.size grow6.size) (by unfold World.setCell; simp)
  · intro k hk h1 h2
    rw [ps_other h1, grow6.block k (Nat.lt_of_lt_of_le hk kx.size) (fun e => h2 e.symm), kx.block k hk]
  · rcases at6 with e | e
    · exact .inl e
    · exact .inr ⟨_, e, kx.size⟩
abbrev gA0 : Oper := { dst := some 12, op := Go.Op.move (Go.Operand.tmp 5), type := 3, pos := "numbers.go:21", after := #[], guard := none }
abbrev gA1 : Oper := { dst := some 13, op := Go.Op.binOp Go.BinOp.geq 3 (Go.Operand.tmp 12) (Go.Operand.const (Go.Value.int Go.IntKind.i64 0)) 3, type := 4, pos := "numbers.go:21", after := #[{ on := 0, ground := Go.Ground.data }], guard := none }
abbrev gA2 : Oper := { dst := some 14, op := Go.Op.move (Go.Operand.tmp 13), type := 4, pos := "numbers.go:21", after := #[{ on := 1, ground := Go.Ground.data }], guard := none }
abbrev gA3 : Oper := { dst := some 15, op := Go.Op.fieldAddr 37 (Go.Operand.tmp 3) 0, type := 0, pos := "numbers.go:21", after := #[{ on := 2, ground := Go.Ground.guard }], guard := some (2, true) }
abbrev gA4 : Oper := { dst := some 16, op := Go.Op.load 3 (Go.Operand.tmp 15), type := 3, pos := "numbers.go:21", after := #[{ on := 3, ground := Go.Ground.data }, { on := 2, ground := Go.Ground.guard }], guard := some (2, true) }
abbrev gA5 : Oper := { dst := some 17, op := Go.Op.move (Go.Operand.tmp 0), type := 85, pos := "numbers.go:21", after := #[{ on := 2, ground := Go.Ground.guard }], guard := some (2, true) }
abbrev gA6 : Oper := { dst := some 18, op := Go.Op.nilCheck (Go.Operand.tmp 17), type := 0, pos := "numbers.go:21", after := #[{ on := 5, ground := Go.Ground.data }, { on := 2, ground := Go.Ground.guard }], guard := some (2, true) }
abbrev gA7 : Oper := { dst := some 19, op := Go.Op.fieldAddr 76 (Go.Operand.tmp 18) 0, type := 0, pos := "numbers.go:21", after := #[{ on := 6, ground := Go.Ground.data }, { on := 2, ground := Go.Ground.guard }], guard := some (2, true) }
abbrev gA8 : Oper := { dst := some 20, op := Go.Op.load 28 (Go.Operand.tmp 19), type := 28, pos := "numbers.go:21", after := #[{ on := 7, ground := Go.Ground.data }, { on := 2, ground := Go.Ground.guard }], guard := some (2, true) }
abbrev gA9 : Oper := { dst := some 21, op := Go.Op.move (Go.Operand.tmp 5), type := 3, pos := "numbers.go:21", after := #[{ on := 2, ground := Go.Ground.guard }], guard := some (2, true) }
abbrev gA10 : Oper := { dst := some 22, op := Go.Op.indexAddr 28 (Go.Operand.tmp 20) (Go.Operand.tmp 21), type := 0, pos := "numbers.go:21", after := #[{ on := 8, ground := Go.Ground.data }, { on := 9, ground := Go.Ground.data }, { on := 2, ground := Go.Ground.guard }], guard := some (2, true) }
abbrev gA11 : Oper := { dst := some 23, op := Go.Op.fieldAddr 37 (Go.Operand.tmp 22) 1, type := 0, pos := "numbers.go:21", after := #[{ on := 10, ground := Go.Ground.data }, { on := 2, ground := Go.Ground.guard }], guard := some (2, true) }
abbrev gA12 : Oper := { dst := some 24, op := Go.Op.load 3 (Go.Operand.tmp 23), type := 3, pos := "numbers.go:21", after := #[{ on := 11, ground := Go.Ground.data }, { on := 2, ground := Go.Ground.guard }], guard := some (2, true) }
abbrev gA13 : Oper := { dst := some 25, op := Go.Op.binOp Go.BinOp.add 3 (Go.Operand.tmp 24) (Go.Operand.const (Go.Value.int Go.IntKind.i64 1)) 3, type := 3, pos := "numbers.go:21", after := #[{ on := 12, ground := Go.Ground.data }, { on := 2, ground := Go.Ground.guard }], guard := some (2, true) }
abbrev gA14 : Oper := { dst := some 26, op := Go.Op.binOp Go.BinOp.leq 3 (Go.Operand.tmp 16) (Go.Operand.tmp 25) 3, type := 4, pos := "numbers.go:21", after := #[{ on := 4, ground := Go.Ground.data }, { on := 13, ground := Go.Ground.data }, { on := 2, ground := Go.Ground.guard }], guard := some (2, true) }
abbrev gA15 : Oper := { dst := some 27, op := Go.Op.pick (Go.Operand.tmp 14) (Go.Operand.tmp 26) (Go.Operand.const (Go.Value.bool false)), type := 4, pos := "numbers.go:21", after := #[{ on := 2, ground := Go.Ground.data }, { on := 14, ground := Go.Ground.data }], guard := none }
abbrev gB0 : Oper := { dst := some 28, op := Go.Op.move (Go.Operand.tmp 0), type := 85, pos := "numbers.go:22", after := #[], guard := none }
abbrev gB1 : Oper := { dst := some 29, op := Go.Op.nilCheck (Go.Operand.tmp 28), type := 0, pos := "numbers.go:22", after := #[{ on := 0, ground := Go.Ground.data }], guard := none }
abbrev gB2 : Oper := { dst := some 30, op := Go.Op.fieldAddr 76 (Go.Operand.tmp 29) 0, type := 0, pos := "numbers.go:22", after := #[{ on := 1, ground := Go.Ground.data }], guard := none }
abbrev gB3 : Oper := { dst := some 31, op := Go.Op.load 28 (Go.Operand.tmp 30), type := 28, pos := "numbers.go:22", after := #[{ on := 2, ground := Go.Ground.data }], guard := none }
abbrev gB4 : Oper := { dst := some 32, op := Go.Op.move (Go.Operand.tmp 5), type := 3, pos := "numbers.go:22", after := #[], guard := none }
abbrev gB5 : Oper := { dst := some 33, op := Go.Op.fieldAddr 37 (Go.Operand.tmp 3) 1, type := 0, pos := "numbers.go:22", after := #[], guard := none }
abbrev gB6 : Oper := { dst := some 34, op := Go.Op.load 3 (Go.Operand.tmp 33), type := 3, pos := "numbers.go:22", after := #[{ on := 5, ground := Go.Ground.data }], guard := none }
abbrev gB7 : Oper := { dst := some 35, op := Go.Op.indexAddr 28 (Go.Operand.tmp 31) (Go.Operand.tmp 32), type := 0, pos := "numbers.go:22", after := #[{ on := 3, ground := Go.Ground.data }, { on := 4, ground := Go.Ground.data }, { on := 0, ground := Go.Ground.phase }, { on := 1, ground := Go.Ground.phase }, { on := 2, ground := Go.Ground.phase }, { on := 3, ground := Go.Ground.phase }, { on := 4, ground := Go.Ground.phase }, { on := 5, ground := Go.Ground.phase }, { on := 6, ground := Go.Ground.phase }], guard := none }
abbrev gB8 : Oper := { dst := some 36, op := Go.Op.fieldAddr 37 (Go.Operand.tmp 35) 1, type := 0, pos := "numbers.go:22", after := #[{ on := 7, ground := Go.Ground.data }, { on := 0, ground := Go.Ground.phase }, { on := 1, ground := Go.Ground.phase }, { on := 2, ground := Go.Ground.phase }, { on := 3, ground := Go.Ground.phase }, { on := 4, ground := Go.Ground.phase }, { on := 5, ground := Go.Ground.phase }, { on := 6, ground := Go.Ground.phase }], guard := none }
abbrev gB9 : Oper := { dst := none, op := Go.Op.store 3 (Go.Operand.tmp 36) (Go.Operand.tmp 34), type := 0, pos := "numbers.go:22", after := #[{ on := 8, ground := Go.Ground.data }, { on := 6, ground := Go.Ground.data }, { on := 0, ground := Go.Ground.phase }, { on := 1, ground := Go.Ground.phase }, { on := 2, ground := Go.Ground.phase }, { on := 3, ground := Go.Ground.phase }, { on := 4, ground := Go.Ground.phase }, { on := 5, ground := Go.Ground.phase }, { on := 6, ground := Go.Ground.phase }], guard := none }
abbrev gC0 : Oper := { dst := some 37, op := Go.Op.move (Go.Operand.tmp 0), type := 85, pos := "numbers.go:24", after := #[], guard := none }
abbrev gC1 : Oper := { dst := some 38, op := Go.Op.move (Go.Operand.tmp 0), type := 85, pos := "numbers.go:24", after := #[], guard := none }
abbrev gC2 : Oper := { dst := some 39, op := Go.Op.nilCheck (Go.Operand.tmp 38), type := 0, pos := "numbers.go:24", after := #[{ on := 1, ground := Go.Ground.data }], guard := none }
abbrev gC3 : Oper := { dst := some 40, op := Go.Op.fieldAddr 76 (Go.Operand.tmp 39) 0, type := 0, pos := "numbers.go:24", after := #[{ on := 2, ground := Go.Ground.data }], guard := none }
abbrev gC4 : Oper := { dst := some 41, op := Go.Op.load 28 (Go.Operand.tmp 40), type := 28, pos := "numbers.go:24", after := #[{ on := 3, ground := Go.Ground.data }], guard := none }
abbrev gC5 : Oper := { dst := some 42, op := Go.Op.load 37 (Go.Operand.tmp 3), type := 37, pos := "numbers.go:24", after := #[], guard := none }
abbrev gC6 : Oper := { dst := some 43, op := Go.Op.buildSlice 28 1 #[(0, Go.Operand.tmp 42)], type := 28, pos := "numbers.go:24", after := #[{ on := 5, ground := Go.Ground.data }], guard := none }
abbrev gC7 : Oper := { dst := some 44, op := Go.Op.call { callee := Go.Callee.builtin Go.Builtin.append, args := #[Go.Operand.tmp 41, Go.Operand.tmp 43], argTypes := #[28, 28] }, type := 28, pos := "numbers.go:24", after := #[{ on := 4, ground := Go.Ground.data }, { on := 6, ground := Go.Ground.data }], guard := none }
abbrev gC8 : Oper := { dst := some 45, op := Go.Op.nilCheck (Go.Operand.tmp 37), type := 0, pos := "numbers.go:24", after := #[{ on := 0, ground := Go.Ground.data }, { on := 0, ground := Go.Ground.phase }, { on := 1, ground := Go.Ground.phase }, { on := 2, ground := Go.Ground.phase }, { on := 3, ground := Go.Ground.phase }, { on := 4, ground := Go.Ground.phase }, { on := 5, ground := Go.Ground.phase }, { on := 6, ground := Go.Ground.phase }, { on := 7, ground := Go.Ground.phase }], guard := none }
abbrev gC9 : Oper := { dst := some 46, op := Go.Op.fieldAddr 76 (Go.Operand.tmp 45) 0, type := 0, pos := "numbers.go:24", after := #[{ on := 8, ground := Go.Ground.data }, { on := 0, ground := Go.Ground.phase }, { on := 1, ground := Go.Ground.phase }, { on := 2, ground := Go.Ground.phase }, { on := 3, ground := Go.Ground.phase }, { on := 4, ground := Go.Ground.phase }, { on := 5, ground := Go.Ground.phase }, { on := 6, ground := Go.Ground.phase }, { on := 7, ground := Go.Ground.phase }], guard := none }
abbrev gC10 : Oper := { dst := none, op := Go.Op.store 28 (Go.Operand.tmp 46) (Go.Operand.tmp 44), type := 0, pos := "numbers.go:24", after := #[{ on := 9, ground := Go.Ground.data }, { on := 7, ground := Go.Ground.data }, { on := 7, ground := Go.Ground.chain }, { on := 0, ground := Go.Ground.phase }, { on := 1, ground := Go.Ground.phase }, { on := 2, ground := Go.Ground.phase }, { on := 3, ground := Go.Ground.phase }, { on := 4, ground := Go.Ground.phase }, { on := 5, ground := Go.Ground.phase }, { on := 6, ground := Go.Ground.phase }, { on := 7, ground := Go.Ground.phase }], guard := none }
set_option maxHeartbeats 16000000 in
set_option maxRecDepth 100000 in
theorem add_nil (w0 : World) (B : Nat) (S : List R) (r1 r2 : Int) (w : World) (h : GJ w0 B S w) (hn : S.length ≤ 1000) (hs : S = []) :
    Calls Tryz.prog 60 #[.pointer (some ⟨B, 0, none⟩), .agg #[.int .i64 r1, .int .i64 r2]] w fun e w' => e = .returned (.bool (decide (([] ++ [(r1, r2)]).length ≤ 400))) ∧ GJ w0 B ([] ++ [(r1, r2)]) w' ∧ IKB B w w' := by
  obtain ⟨i0, hi, hz0, hz1, hz2⟩ := info_parts infoR
  obtain ⟨k0, hB, v0, bx, own⟩ := h
  obtain ⟨ad, c, rfl⟩ := own_slice own
  obtain ⟨n, hnS⟩ : ∃ n, n = S.length := ⟨_, rfl⟩
  rw [← hnS] at bx own
  obtain ⟨V, hV⟩ : ∃ x, x = w.alloc (.cells #[.int .i64 r1, .int .i64 r2] 37) := ⟨_, rfl⟩
  have kv : Kp w V := by rw [hV]; exact Kp.alloc _ _
  have hgq : V.heap[w.heap.size]? = some (.cells #[.int .i64 r1, .int .i64 r2] 37 (0, 0)) := by rw [hV]; exact heap_at _ _ _ rfl
  have gB := (Array.getElem?_eq_some_iff.1 bx).1
  have neB : (⟨B, 0, none⟩ : Addr).block ≠ w.heap.size := by simp only; omega
  have HS := Lib.hid (fun w' (k : Kp V w') => show w'.cell? ⟨w.heap.size, 0, none⟩ = some (.int .i64 r1) ∧ w'.cell? ⟨w.heap.size, 1, none⟩ = some (.int .i64 r2) ∧ w'.cell? ⟨B, 0, none⟩ = some (.slice ad n c) from ⟨cell_up k (by simp [World.cell?, hgq]), cell_up k (by simp [World.cell?, hgq]), cell_up k (by simp [World.cell?, heap_block kv bx])⟩)
  have HVV := Lib.hid hV
  have KV := Lib.hid kv
  have BXW := Lib.hid bx
  have OWW := Lib.hid own
  have NEB := Lib.hid (fun j (hj : (Value.slice ad n c).ownBlock = some j) => (fun (e : j = w.heap.size) => by have := (own.lt j hj).2; omega : j ≠ w.heap.size))
  have LB := Lib.hid ((Array.getElem?_eq_some_iff.1 hgq).1)
  have LE := Lib.hid (Nat.le_trans k0.size kv.size)
  have cw : w.cell? ⟨B, 0, none⟩ = some (.slice ad n c) := by simp [World.cell?, bx]
  have neB2 : ¬ B = w.heap.size := by omega
  subst hs
  simp only [List.length_nil] at hnS
  subst hnS
  rw [show decide (([] ++ [(r1, r2)] : List R).length ≤ 400) = decide (0 + 1 ≤ 400) from rfl]
  have HNS := Lib.hid (show 0 = ([] : List R).length from rfl)
  have K00 := Lib.hid k0
  clear k0 bx own hV kv hgq
  go_enter Tryz.func60, Tryz.ntmps60
  go_wp2_with fail
  rw [← HVV.out]
  clear cw
  have KS2 := Lib.hid (fun w' (k : Kp V w') => HS.out w' k)
  refine wp_region_held_drew (S := fun w' => w'.cell? ⟨w.heap.size, 0, none⟩ = some (.int .i64 r1) ∧ w'.cell? ⟨w.heap.size, 1, none⟩ = some (.int .i64 r2) ∧ w'.cell? ⟨B, 0, none⟩ = some (.slice ad 0 c)) (by kernel_rfl) ?_ (fun hHeld0 => ?_)
  · (try dsimp only); first | with_reducible exact HS.out _ (Kp.drew _) | with_reducible exact HS.out _ (Kp.refl _)
  refine tkW (v := ?_) 0 gA0 rfl (by kernel_rfl) (by kernel_rfl) (by kernel_rfl) (fun _ _ _ h => h) (by rfl) ?_ (by assumption) ?_
  rotate_left
  · intro w hSw; (try dsimp only at hSw); go_simp; (try with_reducible rfl)
  (try simp only [Act.put, gA0, List.setIfInBounds_toArray, List.set_cons_zero, List.set_cons_succ])
  refine tkW (v := ?_) 1 gA1 rfl (by kernel_rfl) (by kernel_rfl) (by kernel_rfl) (fun _ _ _ h => h) (by rfl) ?_ (by assumption) ?_
  rotate_left
  · intro w hSw; (try dsimp only at hSw); go_simp; (try with_reducible rfl)
  (try simp only [Act.put, gA1, List.setIfInBounds_toArray, List.set_cons_zero, List.set_cons_succ])
  refine tkW (v := ?_) 2 gA2 rfl (by kernel_rfl) (by kernel_rfl) (by kernel_rfl) (fun _ _ _ h => h) (by rfl) ?_ (by assumption) ?_
  rotate_left
  · intro w hSw; (try dsimp only at hSw); go_simp; (try with_reducible rfl)
  (try simp only [Act.put, gA2, List.setIfInBounds_toArray, List.set_cons_zero, List.set_cons_succ])
  refine tkU 3 gA3 rfl (by kernel_rfl) (by kernel_rfl) (by kernel_rfl) (fun _ _ _ h => h) (by rfl) (by assumption) ?_
  (try simp only [Act.put, gA3, List.setIfInBounds_toArray, List.set_cons_zero, List.set_cons_succ])
  refine tkU 4 gA4 rfl (by kernel_rfl) (by kernel_rfl) (by kernel_rfl) (fun _ _ _ h => h) (by rfl) (by assumption) ?_
  (try simp only [Act.put, gA4, List.setIfInBounds_toArray, List.set_cons_zero, List.set_cons_succ])
  refine tkU 5 gA5 rfl (by kernel_rfl) (by kernel_rfl) (by kernel_rfl) (fun _ _ _ h => h) (by rfl) (by assumption) ?_
  (try simp only [Act.put, gA5, List.setIfInBounds_toArray, List.set_cons_zero, List.set_cons_succ])
  refine tkU 6 gA6 rfl (by kernel_rfl) (by kernel_rfl) (by kernel_rfl) (fun _ _ _ h => h) (by rfl) (by assumption) ?_
  (try simp only [Act.put, gA6, List.setIfInBounds_toArray, List.set_cons_zero, List.set_cons_succ])
  refine tkU 7 gA7 rfl (by kernel_rfl) (by kernel_rfl) (by kernel_rfl) (fun _ _ _ h => h) (by rfl) (by assumption) ?_
  (try simp only [Act.put, gA7, List.setIfInBounds_toArray, List.set_cons_zero, List.set_cons_succ])
  refine tkU 8 gA8 rfl (by kernel_rfl) (by kernel_rfl) (by kernel_rfl) (fun _ _ _ h => h) (by rfl) (by assumption) ?_
  (try simp only [Act.put, gA8, List.setIfInBounds_toArray, List.set_cons_zero, List.set_cons_succ])
  refine tkU 9 gA9 rfl (by kernel_rfl) (by kernel_rfl) (by kernel_rfl) (fun _ _ _ h => h) (by rfl) (by assumption) ?_
  (try simp only [Act.put, gA9, List.setIfInBounds_toArray, List.set_cons_zero, List.set_cons_succ])
  refine tkU 10 gA10 rfl (by kernel_rfl) (by kernel_rfl) (by kernel_rfl) (fun _ _ _ h => h) (by rfl) (by assumption) ?_
  (try simp only [Act.put, gA10, List.setIfInBounds_toArray, List.set_cons_zero, List.set_cons_succ])
  refine tkU 11 gA11 rfl (by kernel_rfl) (by kernel_rfl) (by kernel_rfl) (fun _ _ _ h => h) (by rfl) (by assumption) ?_
  (try simp only [Act.put, gA11, List.setIfInBounds_toArray, List.set_cons_zero, List.set_cons_succ])
  refine tkU 12 gA12 rfl (by kernel_rfl) (by kernel_rfl) (by kernel_rfl) (fun _ _ _ h => h) (by rfl) (by assumption) ?_
  (try simp only [Act.put, gA12, List.setIfInBounds_toArray, List.set_cons_zero, List.set_cons_succ])
  refine tkU 13 gA13 rfl (by kernel_rfl) (by kernel_rfl) (by kernel_rfl) (fun _ _ _ h => h) (by rfl) (by assumption) ?_
  (try simp only [Act.put, gA13, List.setIfInBounds_toArray, List.set_cons_zero, List.set_cons_succ])
  refine tkU 14 gA14 rfl (by kernel_rfl) (by kernel_rfl) (by kernel_rfl) (fun _ _ _ h => h) (by rfl) (by assumption) ?_
  (try simp only [Act.put, gA14, List.setIfInBounds_toArray, List.set_cons_zero, List.set_cons_succ])
  refine tkW (v := ?_) 15 gA15 rfl (by kernel_rfl) (by kernel_rfl) (by kernel_rfl) (fun _ _ _ h => h) (by rfl) ?_ (by assumption) ?_
  rotate_left
  · intro w hSw; (try dsimp only at hSw); go_simp; (try with_reducible rfl)
  (try simp only [Act.put, gA15, List.setIfInBounds_toArray, List.set_cons_zero, List.set_cons_succ])
  refine wpAnyH_done (by kernel_rfl) ?_ _
  go_wp2_with fail
  obtain ⟨X, hX⟩ : ∃ z, z = V.drew := ⟨_, rfl⟩
  rw [← hX]
  have kvx : Kp V X := by rw [hX]; exact Kp.drew _
  have HX := Lib.hid (fun w' (k : Kp X w') => HS.out w' (kvx.trans k))
  obtain ⟨c0, c1, cB⟩ := HX.out X (Kp.refl _)
  have kx := (KV.out.trans kvx).trans ((Kp.alloc _ _).trans (Kp.drew _) : Kp X (X.alloc (.cells #[.int .i64 r1, .int .i64 r2] 37)).drew)
  have K5 := Lib.hid kx
  have own5 := Lib.hid (own_kp OWW.out kx)
  have SRC := Lib.hid (show SrcAt (X.alloc (.cells #[.int .i64 r1, .int .i64 r2] 37)).drew (.slice (some ⟨X.heap.size, 0, none⟩) 1 1) 1 [.int .i64 r1, .int .i64 r2] from RunsAt.src (l := [(r1, r2)]) ((one_at X r1 r2 37).kp (Kp.drew _)))
  have LB5 := Lib.hid (Nat.lt_of_lt_of_le LB.out (Nat.le_trans kvx.size (((Kp.alloc _ _).trans (Kp.drew _) : Kp X (X.alloc (.cells #[.int .i64 r1, .int .i64 r2] 37)).drew)).size))
  have LE5 := Lib.hid (Nat.le_trans LE.out (Nat.le_trans kvx.size (((Kp.alloc _ _).trans (Kp.drew _) : Kp X (X.alloc (.cells #[.int .i64 r1, .int .i64 r2] 37)).drew)).size))
  have hS5 := Lib.hid (HX.out _ ((Kp.alloc _ _).trans (Kp.drew _) : Kp X (X.alloc (.cells #[.int .i64 r1, .int .i64 r2] 37)).drew))
  clear hX kx kvx
  have gBX := World.block_lt_of_cell? _ _ cB
  go_wp2_with fail
  refine wp_region_held_drew (S := fun w' => w'.cell? ⟨w.heap.size, 0, none⟩ = some (.int .i64 r1) ∧ w'.cell? ⟨w.heap.size, 1, none⟩ = some (.int .i64 r2)) (by kernel_rfl) ?_ (fun hHeld0 => ?_)
  · (try dsimp only); first | with_reducible exact ⟨(HX.out _ (Kp.drew _)).1, (HX.out _ (Kp.drew _)).2.1⟩ | with_reducible exact ⟨(HX.out _ ((Kp.alloc _ _).trans (Kp.drew _))).1, (HX.out _ ((Kp.alloc _ _).trans (Kp.drew _))).2.1⟩ | with_reducible exact hS6 | exact ⟨by rw [World.cell?_setCell_far _ _ _ _ neB]; exact hS6.1, by rw [World.cell?_setCell_far _ _ _ _ neB]; exact hS6.2⟩
  refine tkW (v := ?_) 0 gC0 rfl (by kernel_rfl) (by kernel_rfl) (by kernel_rfl) (fun _ _ _ h => h) (by rfl) ?_ (by assumption) ?_
  rotate_left
  · intro w hSw; (try dsimp only at hSw); go_simp; (try with_reducible rfl)
  (try simp only [Act.put, gC0, List.setIfInBounds_toArray, List.set_cons_zero, List.set_cons_succ])
  refine tkW (v := ?_) 1 gC1 rfl (by kernel_rfl) (by kernel_rfl) (by kernel_rfl) (fun _ _ _ h => h) (by rfl) ?_ (by assumption) ?_
  rotate_left
  · intro w hSw; (try dsimp only at hSw); go_simp; (try with_reducible rfl)
  (try simp only [Act.put, gC1, List.setIfInBounds_toArray, List.set_cons_zero, List.set_cons_succ])
  refine tkW (v := ?_) 2 gC2 rfl (by kernel_rfl) (by kernel_rfl) (by kernel_rfl) (fun _ _ _ h => h) (by rfl) ?_ (by assumption) ?_
  rotate_left
  · intro w hSw; (try dsimp only at hSw); go_simp; (try with_reducible rfl)
  (try simp only [Act.put, gC2, List.setIfInBounds_toArray, List.set_cons_zero, List.set_cons_succ])
  refine tkW (v := ?_) 3 gC3 rfl (by kernel_rfl) (by kernel_rfl) (by kernel_rfl) (fun _ _ _ h => h) (by rfl) ?_ (by assumption) ?_
  rotate_left
  · intro w hSw; (try dsimp only at hSw); go_simp; (try with_reducible rfl)
  (try simp only [Act.put, gC3, List.setIfInBounds_toArray, List.set_cons_zero, List.set_cons_succ])
  refine tkW (v := ?_) 5 gC5 rfl (by kernel_rfl) (by kernel_rfl) (by kernel_rfl) (fun _ _ _ h => h) (by rfl) ?_ (by assumption) ?_
  rotate_left
  · intro w hSw; (try dsimp only at hSw); go_simp; (try with_reducible rfl)
  (try simp only [Act.put, gC5, List.setIfInBounds_toArray, List.set_cons_zero, List.set_cons_succ])
  refine tkE2 4 6 gC4 gC6 rfl rfl (by kernel_rfl) (fun K hK => ?_) (fun K hK => ?_)
  · go_simp
    skip
    (try go_wp2_with fail)
    refine hK.out _ _ ?_ (fun hHeld1 => ?_)
    · (try dsimp only); first | with_reducible exact ⟨(HX.out _ (Kp.drew _)).1, (HX.out _ (Kp.drew _)).2.1⟩ | with_reducible exact ⟨(HX.out _ ((Kp.alloc _ _).trans (Kp.drew _))).1, (HX.out _ ((Kp.alloc _ _).trans (Kp.drew _))).2.1⟩ | with_reducible exact hS6 | exact ⟨by rw [World.cell?_setCell_far _ _ _ _ neB]; exact hS6.1, by rw [World.cell?_setCell_far _ _ _ _ neB]; exact hS6.2⟩
    clear hK K hHeld0
    (try simp only [Act.put, gC4, List.setIfInBounds_toArray, List.set_cons_zero, List.set_cons_succ])
    refine tkE 6 gC6 rfl (by kernel_rfl) (fun K hK => ?_)
    go_simp
    skip
    (try go_wp2_with fail)
    refine hK.out _ _ ?_ (fun hHeld2 => ?_)
    · (try dsimp only); first | with_reducible exact ⟨(HX.out _ (Kp.drew _)).1, (HX.out _ (Kp.drew _)).2.1⟩ | with_reducible exact ⟨(HX.out _ ((Kp.alloc _ _).trans (Kp.drew _))).1, (HX.out _ ((Kp.alloc _ _).trans (Kp.drew _))).2.1⟩ | with_reducible exact hS6 | exact ⟨by rw [World.cell?_setCell_far _ _ _ _ neB]; exact hS6.1, by rw [World.cell?_setCell_far _ _ _ _ neB]; exact hS6.2⟩
    clear hK K hHeld1
    (try simp only [Act.put, gC6, List.setIfInBounds_toArray, List.set_cons_zero, List.set_cons_succ])
    refine tkE 7 gC7 rfl (by kernel_rfl) (fun K hK => ?_)
    (refine step_app2 rfl (.tmp 41) (.tmp 43) 28 rfl w0.heap.size 37 i0 (.agg #[.int .i64 0, .int .i64 0]) 2 16 Tryz.underlying28 hi hz0 hz1 hz2 rfl (by decide) _ _ _ (by simp [Act.eval, Act.put]) own5.out _ _ _ (by simp [Act.eval, Act.put]) SRC.out rfl (by intro u hu; simp only [List.mem_cons, List.not_mem_nil, or_false] at hu; rcases hu with rfl | rfl <;> rfl) (by unfold maxLen; omega) (by omega) LE5.out ?_; intro v6 w6 own6 grow6 at6; obtain ⟨ad6, c6, rfl⟩ := own_slice own6; obtain ⟨gj, ik, bx6⟩ := GJ.appended (r := (r1, r2)) HNS.out K00.out hB BXW.out OWW.out K5.out own6 grow6 at6; have GJ9 := Lib.hid gj; have IK9 := Lib.hid ik; have hS6 : w6.cell? ⟨w.heap.size, 0, none⟩ = some (.int .i64 r1) ∧ w6.cell? ⟨w.heap.size, 1, none⟩ = some (.int .i64 r2) := ⟨(grown_cell grow6 LB5.out NEB.out).trans hS5.out.1, (grown_cell grow6 LB5.out NEB.out).trans hS5.out.2.1⟩; have cB6 : w6.cell? ⟨B, 0, none⟩ = some (.slice ad 0 c) := (by simp [World.cell?, bx6]); have fB6 : w6.frozen? ⟨B, 0, none⟩ = false := (by simp [World.frozen?, bx6]); clear gj ik bx6 own6 grow6 at6)
    (try go_wp2_with fail)
    refine hK.out _ _ ?_ (fun hHeld3 => ?_)
    · (try dsimp only); first | with_reducible exact ⟨(HX.out _ (Kp.drew _)).1, (HX.out _ (Kp.drew _)).2.1⟩ | with_reducible exact ⟨(HX.out _ ((Kp.alloc _ _).trans (Kp.drew _))).1, (HX.out _ ((Kp.alloc _ _).trans (Kp.drew _))).2.1⟩ | with_reducible exact hS6 | exact ⟨by rw [World.cell?_setCell_far _ _ _ _ neB]; exact hS6.1, by rw [World.cell?_setCell_far _ _ _ _ neB]; exact hS6.2⟩
    clear hK K hHeld2
    (try simp only [Act.put, gC7, List.setIfInBounds_toArray, List.set_cons_zero, List.set_cons_succ])
    refine tkW (v := ?_) 8 gC8 rfl (by kernel_rfl) (by kernel_rfl) (by kernel_rfl) (fun _ _ _ h => h) (by rfl) ?_ (by assumption) ?_
    rotate_left
    · intro w hSw; (try dsimp only at hSw); go_simp; (try with_reducible rfl)
    (try simp only [Act.put, gC8, List.setIfInBounds_toArray, List.set_cons_zero, List.set_cons_succ])
    refine tkW (v := ?_) 9 gC9 rfl (by kernel_rfl) (by kernel_rfl) (by kernel_rfl) (fun _ _ _ h => h) (by rfl) ?_ (by assumption) ?_
    rotate_left
    · intro w hSw; (try dsimp only at hSw); go_simp; (try with_reducible rfl)
    (try simp only [Act.put, gC9, List.setIfInBounds_toArray, List.set_cons_zero, List.set_cons_succ])
    refine tkE 10 gC10 rfl (by kernel_rfl) (fun K hK => ?_)
    go_simp
    skip
    (try go_wp2_with fail)
    refine hK.out _ _ ?_ (fun hHeld4 => ?_)
    · (try dsimp only); first | with_reducible exact ⟨(HX.out _ (Kp.drew _)).1, (HX.out _ (Kp.drew _)).2.1⟩ | with_reducible exact ⟨(HX.out _ ((Kp.alloc _ _).trans (Kp.drew _))).1, (HX.out _ ((Kp.alloc _ _).trans (Kp.drew _))).2.1⟩ | with_reducible exact hS6 | exact ⟨by rw [World.cell?_setCell_far _ _ _ _ neB]; exact hS6.1, by rw [World.cell?_setCell_far _ _ _ _ neB]; exact hS6.2⟩
    clear hK K hHeld3
    (try simp only [Act.put, gC10, List.setIfInBounds_toArray, List.set_cons_zero, List.set_cons_succ])
    refine wpAnyH_done (by kernel_rfl) ?_ _
    have q9 : decide (((0 : Int) + 1) ≤ 400) = decide (0 + 1 ≤ 400) := by by_cases h : 0 + 1 ≤ 400; rw [decide_eq_true h, decide_eq_true (by omega)]; rw [decide_eq_false h, decide_eq_false (by omega)]
    have Q9 := Lib.hid q9
    clear q9
    go_wp2
    go_ret
    exact ⟨by first | rfl | (rewrite [← Q9.out]; rfl), GJ9.out, IK9.out⟩
  · go_simp
    skip
    (try go_wp2_with fail)
    refine hK.out _ _ ?_ (fun hHeld1 => ?_)
    · (try dsimp only); first | with_reducible exact ⟨(HX.out _ (Kp.drew _)).1, (HX.out _ (Kp.drew _)).2.1⟩ | with_reducible exact ⟨(HX.out _ ((Kp.alloc _ _).trans (Kp.drew _))).1, (HX.out _ ((Kp.alloc _ _).trans (Kp.drew _))).2.1⟩ | with_reducible exact hS6 | exact ⟨by rw [World.cell?_setCell_far _ _ _ _ neB]; exact hS6.1, by rw [World.cell?_setCell_far _ _ _ _ neB]; exact hS6.2⟩
    clear hK K hHeld0
    (try simp only [Act.put, gC6, List.setIfInBounds_toArray, List.set_cons_zero, List.set_cons_succ])
    refine tkE 4 gC4 rfl (by kernel_rfl) (fun K hK => ?_)
    go_simp
    skip
    (try go_wp2_with fail)
    refine hK.out _ _ ?_ (fun hHeld2 => ?_)
    · (try dsimp only); first | with_reducible exact ⟨(HX.out _ (Kp.drew _)).1, (HX.out _ (Kp.drew _)).2.1⟩ | with_reducible exact ⟨(HX.out _ ((Kp.alloc _ _).trans (Kp.drew _))).1, (HX.out _ ((Kp.alloc _ _).trans (Kp.drew _))).2.1⟩ | with_reducible exact hS6 | exact ⟨by rw [World.cell?_setCell_far _ _ _ _ neB]; exact hS6.1, by rw [World.cell?_setCell_far _ _ _ _ neB]; exact hS6.2⟩
    clear hK K hHeld1
    (try simp only [Act.put, gC4, List.setIfInBounds_toArray, List.set_cons_zero, List.set_cons_succ])
    refine tkE 7 gC7 rfl (by kernel_rfl) (fun K hK => ?_)
    (refine step_app2 rfl (.tmp 41) (.tmp 43) 28 rfl w0.heap.size 37 i0 (.agg #[.int .i64 0, .int .i64 0]) 2 16 Tryz.underlying28 hi hz0 hz1 hz2 rfl (by decide) _ _ _ (by simp [Act.eval, Act.put]) own5.out _ _ _ (by simp [Act.eval, Act.put]) SRC.out rfl (by intro u hu; simp only [List.mem_cons, List.not_mem_nil, or_false] at hu; rcases hu with rfl | rfl <;> rfl) (by unfold maxLen; omega) (by omega) LE5.out ?_; intro v6 w6 own6 grow6 at6; obtain ⟨ad6, c6, rfl⟩ := own_slice own6; obtain ⟨gj, ik, bx6⟩ := GJ.appended (r := (r1, r2)) HNS.out K00.out hB BXW.out OWW.out K5.out own6 grow6 at6; have GJ9 := Lib.hid gj; have IK9 := Lib.hid ik; have hS6 : w6.cell? ⟨w.heap.size, 0, none⟩ = some (.int .i64 r1) ∧ w6.cell? ⟨w.heap.size, 1, none⟩ = some (.int .i64 r2) := ⟨(grown_cell grow6 LB5.out NEB.out).trans hS5.out.1, (grown_cell grow6 LB5.out NEB.out).trans hS5.out.2.1⟩; have cB6 : w6.cell? ⟨B, 0, none⟩ = some (.slice ad 0 c) := (by simp [World.cell?, bx6]); have fB6 : w6.frozen? ⟨B, 0, none⟩ = false := (by simp [World.frozen?, bx6]); clear gj ik bx6 own6 grow6 at6)
    (try go_wp2_with fail)
    refine hK.out _ _ ?_ (fun hHeld3 => ?_)
    · (try dsimp only); first | with_reducible exact ⟨(HX.out _ (Kp.drew _)).1, (HX.out _ (Kp.drew _)).2.1⟩ | with_reducible exact ⟨(HX.out _ ((Kp.alloc _ _).trans (Kp.drew _))).1, (HX.out _ ((Kp.alloc _ _).trans (Kp.drew _))).2.1⟩ | with_reducible exact hS6 | exact ⟨by rw [World.cell?_setCell_far _ _ _ _ neB]; exact hS6.1, by rw [World.cell?_setCell_far _ _ _ _ neB]; exact hS6.2⟩
    clear hK K hHeld2
    (try simp only [Act.put, gC7, List.setIfInBounds_toArray, List.set_cons_zero, List.set_cons_succ])
    refine tkW (v := ?_) 8 gC8 rfl (by kernel_rfl) (by kernel_rfl) (by kernel_rfl) (fun _ _ _ h => h) (by rfl) ?_ (by assumption) ?_
    rotate_left
    · intro w hSw; (try dsimp only at hSw); go_simp; (try with_reducible rfl)
    (try simp only [Act.put, gC8, List.setIfInBounds_toArray, List.set_cons_zero, List.set_cons_succ])
    refine tkW (v := ?_) 9 gC9 rfl (by kernel_rfl) (by kernel_rfl) (by kernel_rfl) (fun _ _ _ h => h) (by rfl) ?_ (by assumption) ?_
    rotate_left
    · intro w hSw; (try dsimp only at hSw); go_simp; (try with_reducible rfl)
    (try simp only [Act.put, gC9, List.setIfInBounds_toArray, List.set_cons_zero, List.set_cons_succ])
    refine tkE 10 gC10 rfl (by kernel_rfl) (fun K hK => ?_)
    go_simp
    skip
    (try go_wp2_with fail)
    refine hK.out _ _ ?_ (fun hHeld4 => ?_)
    · (try dsimp only); first | with_reducible exact ⟨(HX.out _ (Kp.drew _)).1, (HX.out _ (Kp.drew _)).2.1⟩ | with_reducible exact ⟨(HX.out _ ((Kp.alloc _ _).trans (Kp.drew _))).1, (HX.out _ ((Kp.alloc _ _).trans (Kp.drew _))).2.1⟩ | with_reducible exact hS6 | exact ⟨by rw [World.cell?_setCell_far _ _ _ _ neB]; exact hS6.1, by rw [World.cell?_setCell_far _ _ _ _ neB]; exact hS6.2⟩
    clear hK K hHeld3
    (try simp only [Act.put, gC10, List.setIfInBounds_toArray, List.set_cons_zero, List.set_cons_succ])
    refine wpAnyH_done (by kernel_rfl) ?_ _
    have q9 : decide (((0 : Int) + 1) ≤ 400) = decide (0 + 1 ≤ 400) := by by_cases h : 0 + 1 ≤ 400; rw [decide_eq_true h, decide_eq_true (by omega)]; rw [decide_eq_false h, decide_eq_false (by omega)]
    have Q9 := Lib.hid q9
    clear q9
    go_wp2
    go_ret
    exact ⟨by first | rfl | (rewrite [← Q9.out]; rfl), GJ9.out, IK9.out⟩
theorem frozen_up {w w' : World} (k : Kp w w') {b f : Nat} (hb : b < w.heap.size) (h : w.frozen? ⟨b, f, none⟩ = false) : w'.frozen? ⟨b, f, none⟩ = false := by
  rw [← h]
  exact World.frozen?_of_block (w := w) (k.block b hb)
theorem last_hi (b : List R) (q : R) : (cellsR (b ++ [q]))[b.length * 2 + 1]? = some (.int .i64 q.2) := by
  rw [cellsR_append, List.getElem?_append_right (by rw [cellsR_length]; omega), cellsR_length, show b.length * 2 + 1 - b.length * 2 = 1 by omega]
  rfl
theorem last_set (b : List R) (q : R) (r2 : Int) : (cellsR (b ++ [q])).set (b.length * 2 + 1) (.int .i64 r2) = cellsR (b ++ [(q.1, r2)]) := by
  rw [cellsR_append, cellsR_append, List.set_append_right _ _ (by rw [cellsR_length]; omega), cellsR_length, show b.length * 2 + 1 - b.length * 2 = 1 by omega]
  rfl
theorem GJ.joined {w0 w X : World} {B g m c : Nat} {b : List R} {q : R} (r2 : Int) (hm : m = b.length) (k0 : Kp w0 w) (hB : w0.heap.size ≤ B) (hg : w0.heap.size ≤ g) (hgB : g ≠ B) (hgw : g < w.heap.size)
    (bx : w.heap[B]? = some (.cells #[.slice (some ⟨g, 0, none⟩) (m + 1) c] 76 (0, 0))) (own : w.ownsRow w0.heap.size 37 2 (.slice (some ⟨g, 0, none⟩) (m + 1) c) (m + 1) (cellsR (b ++ [q]))) (kx : Kp w X) :
    GJ w0 B (b ++ [(q.1, r2)]) (X.setCell ⟨g, m * 2 + 1, none⟩ (.int .i64 r2)) ∧ IKB B w (X.setCell ⟨g, m * 2 + 1, none⟩ (.int .i64 r2)) := by
  subst hm
  have own5 := own_kp own kx
  have bx5 := heap_block kx bx
  have o9 := (own5.stored (b.length * 2 + 1) (.int .i64 r2)).1
  rw [last_set] at o9
  have bx9 : (X.setCell ⟨g, b.length * 2 + 1, none⟩ (.int .i64 r2)).heap[B]? = some (.cells #[.slice (some ⟨g, 0, none⟩) (b.length + 1) c] 76 (0, 0)) := (ps_other (Ne.symm hgB) _ _).trans bx5
  have gj : GJ w0 B (b ++ [(q.1, r2)]) (X.setCell ⟨g, b.length * 2 + 1, none⟩ (.int .i64 r2)) := ⟨Below.setCell (k0.trans kx) (p := ⟨g, b.length * 2 + 1, none⟩) hg _, hB, _, bx9, by rw [List.length_append, List.length_singleton]; exact o9⟩
  refine ⟨gj, IKB.put bx bx9 (Nat.le_trans kx.size (by unfold World.setCell; simp)) ?_ (.inl rfl) gj.wf⟩
  · intro k hk h1 h2
    rw [ps_other (fun e => h2 (by rw [e]; rfl)), kx.block k hk]
set_option maxHeartbeats 16000000 in
set_option maxRecDepth 100000 in
theorem add_far (w0 : World) (B : Nat) (S b : List R) (q : R) (r1 r2 : Int) (w : World) (h : GJ w0 B S w) (hn : S.length ≤ 1000) (hs : S = b ++ [q]) (hq1 : -4611686018427387904 ≤ q.2) (hq2 : q.2 ≤ 4611686018427387904) (hle : ¬ r1 ≤ q.2 + 1) :
    Calls Tryz.prog 60 #[.pointer (some ⟨B, 0, none⟩), .agg #[.int .i64 r1, .int .i64 r2]] w fun e w' => e = .returned (.bool (decide ((b ++ [q] ++ [(r1, r2)]).length ≤ 400))) ∧ GJ w0 B (b ++ [q] ++ [(r1, r2)]) w' ∧ IKB B w w' := by
  obtain ⟨i0, hi, hz0, hz1, hz2⟩ := info_parts infoR
  obtain ⟨k0, hB, v0, bx, own⟩ := h
  obtain ⟨ad, c, rfl⟩ := own_slice own
  obtain ⟨n, hnS⟩ : ∃ n, n = S.length := ⟨_, rfl⟩
  rw [← hnS] at bx own
  obtain ⟨V, hV⟩ : ∃ x, x = w.alloc (.cells #[.int .i64 r1, .int .i64 r2] 37) := ⟨_, rfl⟩
  have kv : Kp w V := by rw [hV]; exact Kp.alloc _ _
  have hgq : V.heap[w.heap.size]? = some (.cells #[.int .i64 r1, .int .i64 r2] 37 (0, 0)) := by rw [hV]; exact heap_at _ _ _ rfl
  have gB := (Array.getElem?_eq_some_iff.1 bx).1
  have neB : (⟨B, 0, none⟩ : Addr).block ≠ w.heap.size := by simp only; omega
  have HS := Lib.hid (fun w' (k : Kp V w') => show w'.cell? ⟨w.heap.size, 0, none⟩ = some (.int .i64 r1) ∧ w'.cell? ⟨w.heap.size, 1, none⟩ = some (.int .i64 r2) ∧ w'.cell? ⟨B, 0, none⟩ = some (.slice ad n c) from ⟨cell_up k (by simp [World.cell?, hgq]), cell_up k (by simp [World.cell?, hgq]), cell_up k (by simp [World.cell?, heap_block kv bx])⟩)
  have HVV := Lib.hid hV
  have KV := Lib.hid kv
  have BXW := Lib.hid bx
  have OWW := Lib.hid own
  have NEB := Lib.hid (fun j (hj : (Value.slice ad n c).ownBlock = some j) => (fun (e : j = w.heap.size) => by have := (own.lt j hj).2; omega : j ≠ w.heap.size))
  have LB := Lib.hid ((Array.getElem?_eq_some_iff.1 hgq).1)
  have LE := Lib.hid (Nat.le_trans k0.size kv.size)
  subst hs
  obtain ⟨q1, q2⟩ := q
  simp only at hq1 hq2 hle
  obtain ⟨m, hm⟩ : ∃ m, m = b.length := ⟨_, rfl⟩
  obtain rfl : n = m + 1 := by rw [hnS, List.length_append, List.length_singleton, hm]
  rcases own.2 with ⟨_, e⟩ | ⟨g, cap, cur, e, hgb, hgh, hnc, hcm, _, _⟩
  · cases e
  cases e
  have hgB : g ≠ B := fun e => by subst e; rw [bx] at hgh; cases hgh
  have hgw := (Array.getElem?_eq_some_iff.1 hgh).1
  have hl0 : w.cell? ⟨g, m * 2 + 1, none⟩ = some (.int .i64 q2) := by rw [own.cellAt _ (by omega), hm]; exact last_hi b (q1, q2)
  have hl1 : w.frozen? ⟨g, m * 2 + 1, none⟩ = false := own.frozenAt _
  have FZ := Lib.hid hl1
  have LHV := Lib.hid (fun w' (k : Kp V w') => (cell_up (kv.trans k) hl0 : w'.cell? ⟨g, m * 2 + 1, none⟩ = some (.int .i64 q2)))
  have wq : IntKind.i64.wrap (q2 + 1) = q2 + 1 := by rw [IntKind.wrap_i64]; omega
  have HM := Lib.hid hm
  have HL := Lib.hid (show m + 1 = (b ++ [(q1, q2)]).length by rw [List.length_append, List.length_singleton, hm])
  have HNC := Lib.hid (show m + 1 ≤ 1000 by rw [List.length_append, List.length_singleton] at hn; omega)
  have hm9 := HNC.out
  have cw : w.cell? ⟨B, 0, none⟩ = some (.slice (some ⟨g, 0, none⟩) (m + 1) c) := by simp [World.cell?, bx]
  have neB2 : ¬ B = w.heap.size := by omega
  have qle : decide (r1 ≤ q2 + 1) = false := decide_eq_false hle
  rw [show decide ((b ++ [(q1, q2)] ++ [(r1, r2)]).length ≤ 400) = decide (m + 1 + 1 ≤ 400) by rw [List.length_append, ← HL.out]; rfl]
  have HNS := HL
  have K00 := Lib.hid k0
  have GH := Lib.hid (fun (X : World) (kx : Kp w X) => GJ.joined r2 hm k0 hB hgb hgB hgw bx own kx)
  clear k0 bx own hV kv hgq hl0 hl1 hnS hm hn hgh hgb hcm
  go_enter Tryz.func60, Tryz.ntmps60
  go_wp2_with fail
  rw [← HVV.out]
  clear cw
  have KS2 := Lib.hid (fun w' (k : Kp V w') => show w'.cell? ⟨w.heap.size, 0, none⟩ = some (.int .i64 r1) ∧ w'.cell? ⟨w.heap.size, 1, none⟩ = some (.int .i64 r2) ∧ w'.cell? ⟨B, 0, none⟩ = some (.slice (some ⟨g, 0, none⟩) (m + 1) c) ∧ w'.cell? ⟨g, m * 2 + 1, none⟩ = some (.int .i64 q2) from ⟨(HS.out w' k).1, (HS.out w' k).2.1, (HS.out w' k).2.2, LHV.out w' k⟩)
  have zm1 : (m : Int) < (m : Int) + 1 := by omega
  have zm2 : (0 : Int) ≤ (m : Int) := by omega
  have zm3 : decide ((0 : Int) ≤ (m : Int)) = true := decide_eq_true zm2
  refine wp_region_held_drew (S := fun w' => w'.cell? ⟨w.heap.size, 0, none⟩ = some (.int .i64 r1) ∧ w'.cell? ⟨w.heap.size, 1, none⟩ = some (.int .i64 r2) ∧ w'.cell? ⟨B, 0, none⟩ = some (.slice (some ⟨g, 0, none⟩) (m + 1) c) ∧ w'.cell? ⟨g, m * 2 + 1, none⟩ = some (.int .i64 q2)) (by kernel_rfl) ?_ (fun hHeld0 => ?_)
  · (try dsimp only); (first | with_reducible exact KS2.out _ (Kp.drew _) | with_reducible exact KS2.out _ (Kp.refl _))
  refine tkW (v := ?_) 0 gA0 rfl (by kernel_rfl) (by kernel_rfl) (by kernel_rfl) (fun _ _ _ h => h) (by rfl) ?_ (by assumption) ?_
  rotate_left
  · intro w hSw; (try dsimp only at hSw); go_simp; (try with_reducible rfl)
  (try simp only [Act.put, gA0, List.setIfInBounds_toArray, List.set_cons_zero, List.set_cons_succ])
  refine tkW (v := ?_) 1 gA1 rfl (by kernel_rfl) (by kernel_rfl) (by kernel_rfl) (fun _ _ _ h => h) (by rfl) ?_ (by assumption) ?_
  rotate_left
  · intro w hSw; (try dsimp only at hSw); go_simp; (try with_reducible rfl)
  (try simp only [Act.put, gA1, List.setIfInBounds_toArray, List.set_cons_zero, List.set_cons_succ])
  refine tkW (v := ?_) 2 gA2 rfl (by kernel_rfl) (by kernel_rfl) (by kernel_rfl) (fun _ _ _ h => h) (by rfl) ?_ (by assumption) ?_
  rotate_left
  · intro w hSw; (try dsimp only at hSw); go_simp; (try with_reducible rfl)
  (try simp only [Act.put, gA2, List.setIfInBounds_toArray, List.set_cons_zero, List.set_cons_succ])
  refine tkW (v := ?_) 3 gA3 rfl (by kernel_rfl) (by kernel_rfl) (by kernel_rfl) (fun _ _ _ h => h) (by rfl) ?_ (by assumption) ?_
  rotate_left
  · intro w hSw; (try dsimp only at hSw); go_simp; (try with_reducible rfl)
  (try simp only [Act.put, gA3, List.setIfInBounds_toArray, List.set_cons_zero, List.set_cons_succ])
  refine tkW (v := ?_) 4 gA4 rfl (by kernel_rfl) (by kernel_rfl) (by kernel_rfl) (fun _ _ _ h => h) (by rfl) ?_ (by assumption) ?_
  rotate_left
  · intro w hSw; (try dsimp only at hSw); go_simp; (try with_reducible rfl)
  (try simp only [Act.put, gA4, List.setIfInBounds_toArray, List.set_cons_zero, List.set_cons_succ])
  refine tkW (v := ?_) 5 gA5 rfl (by kernel_rfl) (by kernel_rfl) (by kernel_rfl) (fun _ _ _ h => h) (by rfl) ?_ (by assumption) ?_
  rotate_left
  · intro w hSw; (try dsimp only at hSw); go_simp; (try with_reducible rfl)
  (try simp only [Act.put, gA5, List.setIfInBounds_toArray, List.set_cons_zero, List.set_cons_succ])
  refine tkW (v := ?_) 6 gA6 rfl (by kernel_rfl) (by kernel_rfl) (by kernel_rfl) (fun _ _ _ h => h) (by rfl) ?_ (by assumption) ?_
  rotate_left
  · intro w hSw; (try dsimp only at hSw); go_simp; (try with_reducible rfl)
  (try simp only [Act.put, gA6, List.setIfInBounds_toArray, List.set_cons_zero, List.set_cons_succ])
  refine tkW (v := ?_) 7 gA7 rfl (by kernel_rfl) (by kernel_rfl) (by kernel_rfl) (fun _ _ _ h => h) (by rfl) ?_ (by assumption) ?_
  rotate_left
  · intro w hSw; (try dsimp only at hSw); go_simp; (try with_reducible rfl)
  (try simp only [Act.put, gA7, List.setIfInBounds_toArray, List.set_cons_zero, List.set_cons_succ])
  refine tkW (v := ?_) 8 gA8 rfl (by kernel_rfl) (by kernel_rfl) (by kernel_rfl) (fun _ _ _ h => h) (by rfl) ?_ (by assumption) ?_
  rotate_left
  · intro w hSw; (try dsimp only at hSw); go_simp; (try with_reducible rfl)
  (try simp only [Act.put, gA8, List.setIfInBounds_toArray, List.set_cons_zero, List.set_cons_succ])
  refine tkW (v := ?_) 9 gA9 rfl (by kernel_rfl) (by kernel_rfl) (by kernel_rfl) (fun _ _ _ h => h) (by rfl) ?_ (by assumption) ?_
  rotate_left
  · intro w hSw; (try dsimp only at hSw); go_simp; (try with_reducible rfl)
  (try simp only [Act.put, gA9, List.setIfInBounds_toArray, List.set_cons_zero, List.set_cons_succ])
  refine tkW (v := ?_) 10 gA10 rfl (by kernel_rfl) (by kernel_rfl) (by kernel_rfl) (fun _ _ _ h => h) (by rfl) ?_ (by assumption) ?_
  rotate_left
  · intro w hSw; (try dsimp only at hSw); go_simp; (try with_reducible rfl)
  (try simp only [Act.put, gA10, List.setIfInBounds_toArray, List.set_cons_zero, List.set_cons_succ])
  refine tkW (v := ?_) 11 gA11 rfl (by kernel_rfl) (by kernel_rfl) (by kernel_rfl) (fun _ _ _ h => h) (by rfl) ?_ (by assumption) ?_
  rotate_left
  · intro w hSw; (try dsimp only at hSw); go_simp; (try with_reducible rfl)
  (try simp only [Act.put, gA11, List.setIfInBounds_toArray, List.set_cons_zero, List.set_cons_succ])
  refine tkW (v := ?_) 12 gA12 rfl (by kernel_rfl) (by kernel_rfl) (by kernel_rfl) (fun _ _ _ h => h) (by rfl) ?_ (by assumption) ?_
  rotate_left
  · intro w hSw; (try dsimp only at hSw); go_simp; (try with_reducible rfl)
  (try simp only [Act.put, gA12, List.setIfInBounds_toArray, List.set_cons_zero, List.set_cons_succ])
  refine tkW (v := ?_) 13 gA13 rfl (by kernel_rfl) (by kernel_rfl) (by kernel_rfl) (fun _ _ _ h => h) (by rfl) ?_ (by assumption) ?_
  rotate_left
  · intro w hSw; (try dsimp only at hSw); go_simp; (try with_reducible rfl)
  (try simp only [Act.put, gA13, List.setIfInBounds_toArray, List.set_cons_zero, List.set_cons_succ])
  refine tkW (v := ?_) 14 gA14 rfl (by kernel_rfl) (by kernel_rfl) (by kernel_rfl) (fun _ _ _ h => h) (by rfl) ?_ (by assumption) ?_
  rotate_left
  · intro w hSw; (try dsimp only at hSw); go_simp; (try with_reducible rfl)
  (try simp only [Act.put, gA14, List.setIfInBounds_toArray, List.set_cons_zero, List.set_cons_succ])
  refine tkW (v := ?_) 15 gA15 rfl (by kernel_rfl) (by kernel_rfl) (by kernel_rfl) (fun _ _ _ h => h) (by rfl) ?_ (by assumption) ?_
  rotate_left
  · intro w hSw; (try dsimp only at hSw); go_simp; (try with_reducible rfl)
  (try simp only [Act.put, gA15, List.setIfInBounds_toArray, List.set_cons_zero, List.set_cons_succ])
  refine wpAnyH_done (by kernel_rfl) ?_ _
  go_wp2_with fail
  obtain ⟨X, hX⟩ : ∃ z, z = V.drew := ⟨_, rfl⟩
  rw [← hX]
  have kvx : Kp V X := by rw [hX]; exact Kp.drew _
  have HX := Lib.hid (fun w' (k : Kp X w') => HS.out w' (kvx.trans k))
  obtain ⟨c0, c1, cB⟩ := HX.out X (Kp.refl _)
  have kx := (KV.out.trans kvx).trans ((Kp.alloc _ _).trans (Kp.drew _) : Kp X (X.alloc (.cells #[.int .i64 r1, .int .i64 r2] 37)).drew)
  have K5 := Lib.hid kx
  have own5 := Lib.hid (own_kp OWW.out kx)
  have SRC := Lib.hid (show SrcAt (X.alloc (.cells #[.int .i64 r1, .int .i64 r2] 37)).drew (.slice (some ⟨X.heap.size, 0, none⟩) 1 1) 1 [.int .i64 r1, .int .i64 r2] from RunsAt.src (l := [(r1, r2)]) ((one_at X r1 r2 37).kp (Kp.drew _)))
  have LB5 := Lib.hid (Nat.lt_of_lt_of_le LB.out (Nat.le_trans kvx.size (((Kp.alloc _ _).trans (Kp.drew _) : Kp X (X.alloc (.cells #[.int .i64 r1, .int .i64 r2] 37)).drew)).size))
  have LE5 := Lib.hid (Nat.le_trans LE.out (Nat.le_trans kvx.size (((Kp.alloc _ _).trans (Kp.drew _) : Kp X (X.alloc (.cells #[.int .i64 r1, .int .i64 r2] 37)).drew)).size))
  have hS5 := Lib.hid (HX.out _ ((Kp.alloc _ _).trans (Kp.drew _) : Kp X (X.alloc (.cells #[.int .i64 r1, .int .i64 r2] 37)).drew))
  clear hX kx kvx
  have gBX := World.block_lt_of_cell? _ _ cB
  go_wp2_with fail
  refine wp_region_held_drew (S := fun w' => w'.cell? ⟨w.heap.size, 0, none⟩ = some (.int .i64 r1) ∧ w'.cell? ⟨w.heap.size, 1, none⟩ = some (.int .i64 r2)) (by kernel_rfl) ?_ (fun hHeld0 => ?_)
  · (try dsimp only); first | with_reducible exact ⟨(HX.out _ (Kp.drew _)).1, (HX.out _ (Kp.drew _)).2.1⟩ | with_reducible exact ⟨(HX.out _ ((Kp.alloc _ _).trans (Kp.drew _))).1, (HX.out _ ((Kp.alloc _ _).trans (Kp.drew _))).2.1⟩ | with_reducible exact hS6 | exact ⟨by rw [World.cell?_setCell_far _ _ _ _ neB]; exact hS6.1, by rw [World.cell?_setCell_far _ _ _ _ neB]; exact hS6.2⟩
  refine tkW (v := ?_) 0 gC0 rfl (by kernel_rfl) (by kernel_rfl) (by kernel_rfl) (fun _ _ _ h => h) (by rfl) ?_ (by assumption) ?_
  rotate_left
  · intro w hSw; (try dsimp only at hSw); go_simp; (try with_reducible rfl)
  (try simp only [Act.put, gC0, List.setIfInBounds_toArray, List.set_cons_zero, List.set_cons_succ])
  refine tkW (v := ?_) 1 gC1 rfl (by kernel_rfl) (by kernel_rfl) (by kernel_rfl) (fun _ _ _ h => h) (by rfl) ?_ (by assumption) ?_
  rotate_left
  · intro w hSw; (try dsimp only at hSw); go_simp; (try with_reducible rfl)
  (try simp only [Act.put, gC1, List.setIfInBounds_toArray, List.set_cons_zero, List.set_cons_succ])
  refine tkW (v := ?_) 2 gC2 rfl (by kernel_rfl) (by kernel_rfl) (by kernel_rfl) (fun _ _ _ h => h) (by rfl) ?_ (by assumption) ?_
  rotate_left
  · intro w hSw; (try dsimp only at hSw); go_simp; (try with_reducible rfl)
  (try simp only [Act.put, gC2, List.setIfInBounds_toArray, List.set_cons_zero, List.set_cons_succ])
  refine tkW (v := ?_) 3 gC3 rfl (by kernel_rfl) (by kernel_rfl) (by kernel_rfl) (fun _ _ _ h => h) (by rfl) ?_ (by assumption) ?_
  rotate_left
  · intro w hSw; (try dsimp only at hSw); go_simp; (try with_reducible rfl)
  (try simp only [Act.put, gC3, List.setIfInBounds_toArray, List.set_cons_zero, List.set_cons_succ])
  refine tkW (v := ?_) 5 gC5 rfl (by kernel_rfl) (by kernel_rfl) (by kernel_rfl) (fun _ _ _ h => h) (by rfl) ?_ (by assumption) ?_
  rotate_left
  · intro w hSw; (try dsimp only at hSw); go_simp; (try with_reducible rfl)
  (try simp only [Act.put, gC5, List.setIfInBounds_toArray, List.set_cons_zero, List.set_cons_succ])
  refine tkE2 4 6 gC4 gC6 rfl rfl (by kernel_rfl) (fun K hK => ?_) (fun K hK => ?_)
  · go_simp
    skip
    (try go_wp2_with fail)
    refine hK.out _ _ ?_ (fun hHeld1 => ?_)
    · (try dsimp only); first | with_reducible exact ⟨(HX.out _ (Kp.drew _)).1, (HX.out _ (Kp.drew _)).2.1⟩ | with_reducible exact ⟨(HX.out _ ((Kp.alloc _ _).trans (Kp.drew _))).1, (HX.out _ ((Kp.alloc _ _).trans (Kp.drew _))).2.1⟩ | with_reducible exact hS6 | exact ⟨by rw [World.cell?_setCell_far _ _ _ _ neB]; exact hS6.1, by rw [World.cell?_setCell_far _ _ _ _ neB]; exact hS6.2⟩
    clear hK K hHeld0
    (try simp only [Act.put, gC4, List.setIfInBounds_toArray, List.set_cons_zero, List.set_cons_succ])
    refine tkE 6 gC6 rfl (by kernel_rfl) (fun K hK => ?_)
    go_simp
    skip
    (try go_wp2_with fail)
    refine hK.out _ _ ?_ (fun hHeld2 => ?_)
    · (try dsimp only); first | with_reducible exact ⟨(HX.out _ (Kp.drew _)).1, (HX.out _ (Kp.drew _)).2.1⟩ | with_reducible exact ⟨(HX.out _ ((Kp.alloc _ _).trans (Kp.drew _))).1, (HX.out _ ((Kp.alloc _ _).trans (Kp.drew _))).2.1⟩ | with_reducible exact hS6 | exact ⟨by rw [World.cell?_setCell_far _ _ _ _ neB]; exact hS6.1, by rw [World.cell?_setCell_far _ _ _ _ neB]; exact hS6.2⟩
    clear hK K hHeld1
    (try simp only [Act.put, gC6, List.setIfInBounds_toArray, List.set_cons_zero, List.set_cons_succ])
    refine tkE 7 gC7 rfl (by kernel_rfl) (fun K hK => ?_)
    (refine step_app2 rfl (.tmp 41) (.tmp 43) 28 rfl w0.heap.size 37 i0 (.agg #[.int .i64 0, .int .i64 0]) 2 16 Tryz.underlying28 hi hz0 hz1 hz2 rfl (by decide) _ _ _ (by simp [Act.eval, Act.put]) own5.out _ _ _ (by simp [Act.eval, Act.put]) SRC.out rfl (by intro u hu; simp only [List.mem_cons, List.not_mem_nil, or_false] at hu; rcases hu with rfl | rfl <;> rfl) (by unfold maxLen; omega) (by omega) LE5.out ?_; intro v6 w6 own6 grow6 at6; obtain ⟨ad6, c6, rfl⟩ := own_slice own6; obtain ⟨gj, ik, bx6⟩ := GJ.appended (r := (r1, r2)) HNS.out K00.out hB BXW.out OWW.out K5.out own6 grow6 at6; have GJ9 := Lib.hid gj; have IK9 := Lib.hid ik; have hS6 : w6.cell? ⟨w.heap.size, 0, none⟩ = some (.int .i64 r1) ∧ w6.cell? ⟨w.heap.size, 1, none⟩ = some (.int .i64 r2) := ⟨(grown_cell grow6 LB5.out NEB.out).trans hS5.out.1, (grown_cell grow6 LB5.out NEB.out).trans hS5.out.2.1⟩; have cB6 : w6.cell? ⟨B, 0, none⟩ = some (.slice (some ⟨g, 0, none⟩) (m + 1) c) := (by simp [World.cell?, bx6]); have fB6 : w6.frozen? ⟨B, 0, none⟩ = false := (by simp [World.frozen?, bx6]); clear gj ik bx6 own6 grow6 at6)
    (try go_wp2_with fail)
    refine hK.out _ _ ?_ (fun hHeld3 => ?_)
    · (try dsimp only); first | with_reducible exact ⟨(HX.out _ (Kp.drew _)).1, (HX.out _ (Kp.drew _)).2.1⟩ | with_reducible exact ⟨(HX.out _ ((Kp.alloc _ _).trans (Kp.drew _))).1, (HX.out _ ((Kp.alloc _ _).trans (Kp.drew _))).2.1⟩ | with_reducible exact hS6 | exact ⟨by rw [World.cell?_setCell_far _ _ _ _ neB]; exact hS6.1, by rw [World.cell?_setCell_far _ _ _ _ neB]; exact hS6.2⟩
    clear hK K hHeld2
    (try simp only [Act.put, gC7, List.setIfInBounds_toArray, List.set_cons_zero, List.set_cons_succ])
    refine tkW (v := ?_) 8 gC8 rfl (by kernel_rfl) (by kernel_rfl) (by kernel_rfl) (fun _ _ _ h => h) (by rfl) ?_ (by assumption) ?_
    rotate_left
    · intro w hSw; (try dsimp only at hSw); go_simp; (try with_reducible rfl)
    (try simp only [Act.put, gC8, List.setIfInBounds_toArray, List.set_cons_zero, List.set_cons_succ])
    refine tkW (v := ?_) 9 gC9 rfl (by kernel_rfl) (by kernel_rfl) (by kernel_rfl) (fun _ _ _ h => h) (by rfl) ?_ (by assumption) ?_
    rotate_left
    · intro w hSw; (try dsimp only at hSw); go_simp; (try with_reducible rfl)
    (try simp only [Act.put, gC9, List.setIfInBounds_toArray, List.set_cons_zero, List.set_cons_succ])
    refine tkE 10 gC10 rfl (by kernel_rfl) (fun K hK => ?_)
    go_simp
    skip
    (try go_wp2_with fail)
    refine hK.out _ _ ?_ (fun hHeld4 => ?_)
    · (try dsimp only); first | with_reducible exact ⟨(HX.out _ (Kp.drew _)).1, (HX.out _ (Kp.drew _)).2.1⟩ | with_reducible exact ⟨(HX.out _ ((Kp.alloc _ _).trans (Kp.drew _))).1, (HX.out _ ((Kp.alloc _ _).trans (Kp.drew _))).2.1⟩ | with_reducible exact hS6 | exact ⟨by rw [World.cell?_setCell_far _ _ _ _ neB]; exact hS6.1, by rw [World.cell?_setCell_far _ _ _ _ neB]; exact hS6.2⟩
    clear hK K hHeld3
    (try simp only [Act.put, gC10, List.setIfInBounds_toArray, List.set_cons_zero, List.set_cons_succ])
    refine wpAnyH_done (by kernel_rfl) ?_ _
    have q9 : decide (((m : Int) + 1 + 1) ≤ 400) = decide (m + 1 + 1 ≤ 400) := by by_cases h : m + 1 + 1 ≤ 400; rw [decide_eq_true h, decide_eq_true (by omega)]; rw [decide_eq_false h, decide_eq_false (by omega)]
    have Q9 := Lib.hid q9
    clear q9
    go_wp2
    go_ret
    exact ⟨by first | rfl | (rewrite [← Q9.out]; rfl), GJ9.out, IK9.out⟩
  · go_simp
    skip
    (try go_wp2_with fail)
    refine hK.out _ _ ?_ (fun hHeld1 => ?_)
    · (try dsimp only); first | with_reducible exact ⟨(HX.out _ (Kp.drew _)).1, (HX.out _ (Kp.drew _)).2.1⟩ | with_reducible exact ⟨(HX.out _ ((Kp.alloc _ _).trans (Kp.drew _))).1, (HX.out _ ((Kp.alloc _ _).trans (Kp.drew _))).2.1⟩ | with_reducible exact hS6 | exact ⟨by rw [World.cell?_setCell_far _ _ _ _ neB]; exact hS6.1, by rw [World.cell?_setCell_far _ _ _ _ neB]; exact hS6.2⟩
    clear hK K hHeld0
    (try simp only [Act.put, gC6, List.setIfInBounds_toArray, List.set_cons_zero, List.set_cons_succ])
    refine tkE 4 gC4 rfl (by kernel_rfl) (fun K hK => ?_)
    go_simp
    skip
    (try go_wp2_with fail)
    refine hK.out _ _ ?_ (fun hHeld2 => ?_)
    · (try dsimp only); first | with_reducible exact ⟨(HX.out _ (Kp.drew _)).1, (HX.out _ (Kp.drew _)).2.1⟩ | with_reducible exact ⟨(HX.out _ ((Kp.alloc _ _).trans (Kp.drew _))).1, (HX.out _ ((Kp.alloc _ _).trans (Kp.drew _))).2.1⟩ | with_reducible exact hS6 | exact ⟨by rw [World.cell?_setCell_far _ _ _ _ neB]; exact hS6.1, by rw [World.cell?_setCell_far _ _ _ _ neB]; exact hS6.2⟩
    clear hK K hHeld1
    (try simp only [Act.put, gC4, List.setIfInBounds_toArray, List.set_cons_zero, List.set_cons_succ])
    refine tkE 7 gC7 rfl (by kernel_rfl) (fun K hK => ?_)
    (refine step_app2 rfl (.tmp 41) (.tmp 43) 28 rfl w0.heap.size 37 i0 (.agg #[.int .i64 0, .int .i64 0]) 2 16 Tryz.underlying28 hi hz0 hz1 hz2 rfl (by decide) _ _ _ (by simp [Act.eval, Act.put]) own5.out _ _ _ (by simp [Act.eval, Act.put]) SRC.out rfl (by intro u hu; simp only [List.mem_cons, List.not_mem_nil, or_false] at hu; rcases hu with rfl | rfl <;> rfl) (by unfold maxLen; omega) (by omega) LE5.out ?_; intro v6 w6 own6 grow6 at6; obtain ⟨ad6, c6, rfl⟩ := own_slice own6; obtain ⟨gj, ik, bx6⟩ := GJ.appended (r := (r1, r2)) HNS.out K00.out hB BXW.out OWW.out K5.out own6 grow6 at6; have GJ9 := Lib.hid gj; have IK9 := Lib.hid ik; have hS6 : w6.cell? ⟨w.heap.size, 0, none⟩ = some (.int .i64 r1) ∧ w6.cell? ⟨w.heap.size, 1, none⟩ = some (.int .i64 r2) := ⟨(grown_cell grow6 LB5.out NEB.out).trans hS5.out.1, (grown_cell grow6 LB5.out NEB.out).trans hS5.out.2.1⟩; have cB6 : w6.cell? ⟨B, 0, none⟩ = some (.slice (some ⟨g, 0, none⟩) (m + 1) c) := (by simp [World.cell?, bx6]); have fB6 : w6.frozen? ⟨B, 0, none⟩ = false := (by simp [World.frozen?, bx6]); clear gj ik bx6 own6 grow6 at6)
    (try go_wp2_with fail)
    refine hK.out _ _ ?_ (fun hHeld3 => ?_)
    · (try dsimp only); first | with_reducible exact ⟨(HX.out _ (Kp.drew _)).1, (HX.out _ (Kp.drew _)).2.1⟩ | with_reducible exact ⟨(HX.out _ ((Kp.alloc _ _).trans (Kp.drew _))).1, (HX.out _ ((Kp.alloc _ _).trans (Kp.drew _))).2.1⟩ | with_reducible exact hS6 | exact ⟨by rw [World.cell?_setCell_far _ _ _ _ neB]; exact hS6.1, by rw [World.cell?_setCell_far _ _ _ _ neB]; exact hS6.2⟩
    clear hK K hHeld2
    (try simp only [Act.put, gC7, List.setIfInBounds_toArray, List.set_cons_zero, List.set_cons_succ])
    refine tkW (v := ?_) 8 gC8 rfl (by kernel_rfl) (by kernel_rfl) (by kernel_rfl) (fun _ _ _ h => h) (by rfl) ?_ (by assumption) ?_
    rotate_left
    · intro w hSw; (try dsimp only at hSw); go_simp; (try with_reducible rfl)
    (try simp only [Act.put, gC8, List.setIfInBounds_toArray, List.set_cons_zero, List.set_cons_succ])
    refine tkW (v := ?_) 9 gC9 rfl (by kernel_rfl) (by kernel_rfl) (by kernel_rfl) (fun _ _ _ h => h) (by rfl) ?_ (by assumption) ?_
    rotate_left
    · intro w hSw; (try dsimp only at hSw); go_simp; (try with_reducible rfl)
    (try simp only [Act.put, gC9, List.setIfInBounds_toArray, List.set_cons_zero, List.set_cons_succ])
    refine tkE 10 gC10 rfl (by kernel_rfl) (fun K hK => ?_)
    go_simp
    skip
    (try go_wp2_with fail)
    refine hK.out _ _ ?_ (fun hHeld4 => ?_)
    · (try dsimp only); first | with_reducible exact ⟨(HX.out _ (Kp.drew _)).1, (HX.out _ (Kp.drew _)).2.1⟩ | with_reducible exact ⟨(HX.out _ ((Kp.alloc _ _).trans (Kp.drew _))).1, (HX.out _ ((Kp.alloc _ _).trans (Kp.drew _))).2.1⟩ | with_reducible exact hS6 | exact ⟨by rw [World.cell?_setCell_far _ _ _ _ neB]; exact hS6.1, by rw [World.cell?_setCell_far _ _ _ _ neB]; exact hS6.2⟩
    clear hK K hHeld3
    (try simp only [Act.put, gC10, List.setIfInBounds_toArray, List.set_cons_zero, List.set_cons_succ])
    refine wpAnyH_done (by kernel_rfl) ?_ _
    have q9 : decide (((m : Int) + 1 + 1) ≤ 400) = decide (m + 1 + 1 ≤ 400) := by by_cases h : m + 1 + 1 ≤ 400; rw [decide_eq_true h, decide_eq_true (by omega)]; rw [decide_eq_false h, decide_eq_false (by omega)]
    have Q9 := Lib.hid q9
    clear q9
    go_wp2
    go_ret
    exact ⟨by first | rfl | (rewrite [← Q9.out]; rfl), GJ9.out, IK9.out⟩
set_option maxHeartbeats 16000000 in
set_option maxRecDepth 100000 in
theorem add_join (w0 : World) (B : Nat) (S b : List R) (q : R) (r1 r2 : Int) (w : World) (h : GJ w0 B S w) (hn : S.length ≤ 1000) (hs : S = b ++ [q]) (hq1 : -4611686018427387904 ≤ q.2) (hq2 : q.2 ≤ 4611686018427387904) (hle : r1 ≤ q.2 + 1) :
    Calls Tryz.prog 60 #[.pointer (some ⟨B, 0, none⟩), .agg #[.int .i64 r1, .int .i64 r2]] w fun e w' => e = .returned (.bool (decide ((b ++ [(q.1, r2)]).length ≤ 400))) ∧ GJ w0 B (b ++ [(q.1, r2)]) w' ∧ IKB B w w' := by
  obtain ⟨i0, hi, hz0, hz1, hz2⟩ := info_parts infoR
  obtain ⟨k0, hB, v0, bx, own⟩ := h
  obtain ⟨ad, c, rfl⟩ := own_slice own
  obtain ⟨n, hnS⟩ : ∃ n, n = S.length := ⟨_, rfl⟩
  rw [← hnS] at bx own
  obtain ⟨V, hV⟩ : ∃ x, x = w.alloc (.cells #[.int .i64 r1, .int .i64 r2] 37) := ⟨_, rfl⟩
  have kv : Kp w V := by rw [hV]; exact Kp.alloc _ _
  have hgq : V.heap[w.heap.size]? = some (.cells #[.int .i64 r1, .int .i64 r2] 37 (0, 0)) := by rw [hV]; exact heap_at _ _ _ rfl
  have gB := (Array.getElem?_eq_some_iff.1 bx).1
  have neB : (⟨B, 0, none⟩ : Addr).block ≠ w.heap.size := by simp only; omega
  have HS := Lib.hid (fun w' (k : Kp V w') => show w'.cell? ⟨w.heap.size, 0, none⟩ = some (.int .i64 r1) ∧ w'.cell? ⟨w.heap.size, 1, none⟩ = some (.int .i64 r2) ∧ w'.cell? ⟨B, 0, none⟩ = some (.slice ad n c) from ⟨cell_up k (by simp [World.cell?, hgq]), cell_up k (by simp [World.cell?, hgq]), cell_up k (by simp [World.cell?, heap_block kv bx])⟩)
  have HVV := Lib.hid hV
  have KV := Lib.hid kv
  have BXW := Lib.hid bx
  have OWW := Lib.hid own
  have NEB := Lib.hid (fun j (hj : (Value.slice ad n c).ownBlock = some j) => (fun (e : j = w.heap.size) => by have := (own.lt j hj).2; omega : j ≠ w.heap.size))
  have LB := Lib.hid ((Array.getElem?_eq_some_iff.1 hgq).1)
  have LE := Lib.hid (Nat.le_trans k0.size kv.size)
  subst hs
  obtain ⟨q1, q2⟩ := q
  simp only at hq1 hq2 hle
  obtain ⟨m, hm⟩ : ∃ m, m = b.length := ⟨_, rfl⟩
  obtain rfl : n = m + 1 := by rw [hnS, List.length_append, List.length_singleton, hm]
  rcases own.2 with ⟨_, e⟩ | ⟨g, cap, cur, e, hgb, hgh, hnc, hcm, _, _⟩
  · cases e
  cases e
  have hgB : g ≠ B := fun e => by subst e; rw [bx] at hgh; cases hgh
  have hgw := (Array.getElem?_eq_some_iff.1 hgh).1
  have hl0 : w.cell? ⟨g, m * 2 + 1, none⟩ = some (.int .i64 q2) := by rw [own.cellAt _ (by omega), hm]; exact last_hi b (q1, q2)
  have hl1 : w.frozen? ⟨g, m * 2 + 1, none⟩ = false := own.frozenAt _
  have FZ := Lib.hid hl1
  have LHV := Lib.hid (fun w' (k : Kp V w') => (cell_up (kv.trans k) hl0 : w'.cell? ⟨g, m * 2 + 1, none⟩ = some (.int .i64 q2)))
  have wq : IntKind.i64.wrap (q2 + 1) = q2 + 1 := by rw [IntKind.wrap_i64]; omega
  have HM := Lib.hid hm
  have HL := Lib.hid (show m + 1 = (b ++ [(q1, q2)]).length by rw [List.length_append, List.length_singleton, hm])
  have HNC := Lib.hid (show m + 1 ≤ 1000 by rw [List.length_append, List.length_singleton] at hn; omega)
  have hm9 := HNC.out
  have cw : w.cell? ⟨B, 0, none⟩ = some (.slice (some ⟨g, 0, none⟩) (m + 1) c) := by simp [World.cell?, bx]
  have neB2 : ¬ B = w.heap.size := by omega
  have qle : decide (r1 ≤ q2 + 1) = true := decide_eq_true hle
  rw [show decide ((b ++ [(q1, r2)]).length ≤ 400) = decide (m + 1 ≤ 400) by rw [List.length_append, HM.out]; rfl]
  have neg1 : (⟨w.heap.size, 0, none⟩ : Addr).block ≠ g := by simp only; omega
  have neg2 : (⟨B, 0, none⟩ : Addr).block ≠ g := by simp only; omega
  have HNS := HL
  have K00 := Lib.hid k0
  have GH := Lib.hid (fun (X : World) (kx : Kp w X) => GJ.joined r2 hm k0 hB hgb hgB hgw bx own kx)
  clear k0 bx own hV kv hgq hl0 hl1 hnS hm hn hgh hgb hcm
  go_enter Tryz.func60, Tryz.ntmps60
  go_wp2_with fail
  rw [← HVV.out]
  clear cw
  have KS2 := Lib.hid (fun w' (k : Kp V w') => show w'.cell? ⟨w.heap.size, 0, none⟩ = some (.int .i64 r1) ∧ w'.cell? ⟨w.heap.size, 1, none⟩ = some (.int .i64 r2) ∧ w'.cell? ⟨B, 0, none⟩ = some (.slice (some ⟨g, 0, none⟩) (m + 1) c) ∧ w'.cell? ⟨g, m * 2 + 1, none⟩ = some (.int .i64 q2) from ⟨(HS.out w' k).1, (HS.out w' k).2.1, (HS.out w' k).2.2, LHV.out w' k⟩)
  have zm1 : (m : Int) < (m : Int) + 1 := by omega
  have zm2 : (0 : Int) ≤ (m : Int) := by omega
  have zm3 : decide ((0 : Int) ≤ (m : Int)) = true := decide_eq_true zm2
  refine wp_region_held_drew (S := fun w' => w'.cell? ⟨w.heap.size, 0, none⟩ = some (.int .i64 r1) ∧ w'.cell? ⟨w.heap.size, 1, none⟩ = some (.int .i64 r2) ∧ w'.cell? ⟨B, 0, none⟩ = some (.slice (some ⟨g, 0, none⟩) (m + 1) c) ∧ w'.cell? ⟨g, m * 2 + 1, none⟩ = some (.int .i64 q2)) (by kernel_rfl) ?_ (fun hHeld0 => ?_)
  · (try dsimp only); (first | with_reducible exact KS2.out _ (Kp.drew _) | with_reducible exact KS2.out _ (Kp.refl _))
  refine tkW (v := ?_) 0 gA0 rfl (by kernel_rfl) (by kernel_rfl) (by kernel_rfl) (fun _ _ _ h => h) (by rfl) ?_ (by assumption) ?_
  rotate_left
  · intro w hSw; (try dsimp only at hSw); go_simp; (try with_reducible rfl)
  (try simp only [Act.put, gA0, List.setIfInBounds_toArray, List.set_cons_zero, List.set_cons_succ])
  refine tkW (v := ?_) 1 gA1 rfl (by kernel_rfl) (by kernel_rfl) (by kernel_rfl) (fun _ _ _ h => h) (by rfl) ?_ (by assumption) ?_
  rotate_left
  · intro w hSw; (try dsimp only at hSw); go_simp; (try with_reducible rfl)
  (try simp only [Act.put, gA1, List.setIfInBounds_toArray, List.set_cons_zero, List.set_cons_succ])
  refine tkW (v := ?_) 2 gA2 rfl (by kernel_rfl) (by kernel_rfl) (by kernel_rfl) (fun _ _ _ h => h) (by rfl) ?_ (by assumption) ?_
  rotate_left
  · intro w hSw; (try dsimp only at hSw); go_simp; (try with_reducible rfl)
  (try simp only [Act.put, gA2, List.setIfInBounds_toArray, List.set_cons_zero, List.set_cons_succ])
  refine tkW (v := ?_) 3 gA3 rfl (by kernel_rfl) (by kernel_rfl) (by kernel_rfl) (fun _ _ _ h => h) (by rfl) ?_ (by assumption) ?_
  rotate_left
  · intro w hSw; (try dsimp only at hSw); go_simp; (try with_reducible rfl)
  (try simp only [Act.put, gA3, List.setIfInBounds_toArray, List.set_cons_zero, List.set_cons_succ])
  refine tkW (v := ?_) 4 gA4 rfl (by kernel_rfl) (by kernel_rfl) (by kernel_rfl) (fun _ _ _ h => h) (by rfl) ?_ (by assumption) ?_
  rotate_left
  · intro w hSw; (try dsimp only at hSw); go_simp; (try with_reducible rfl)
  (try simp only [Act.put, gA4, List.setIfInBounds_toArray, List.set_cons_zero, List.set_cons_succ])
  refine tkW (v := ?_) 5 gA5 rfl (by kernel_rfl) (by kernel_rfl) (by kernel_rfl) (fun _ _ _ h => h) (by rfl) ?_ (by assumption) ?_
  rotate_left
  · intro w hSw; (try dsimp only at hSw); go_simp; (try with_reducible rfl)
  (try simp only [Act.put, gA5, List.setIfInBounds_toArray, List.set_cons_zero, List.set_cons_succ])
  refine tkW (v := ?_) 6 gA6 rfl (by kernel_rfl) (by kernel_rfl) (by kernel_rfl) (fun _ _ _ h => h) (by rfl) ?_ (by assumption) ?_
  rotate_left
  · intro w hSw; (try dsimp only at hSw); go_simp; (try with_reducible rfl)
  (try simp only [Act.put, gA6, List.setIfInBounds_toArray, List.set_cons_zero, List.set_cons_succ])
  refine tkW (v := ?_) 7 gA7 rfl (by kernel_rfl) (by kernel_rfl) (by kernel_rfl) (fun _ _ _ h => h) (by rfl) ?_ (by assumption) ?_
  rotate_left
  · intro w hSw; (try dsimp only at hSw); go_simp; (try with_reducible rfl)
  (try simp only [Act.put, gA7, List.setIfInBounds_toArray, List.set_cons_zero, List.set_cons_succ])
  refine tkW (v := ?_) 8 gA8 rfl (by kernel_rfl) (by kernel_rfl) (by kernel_rfl) (fun _ _ _ h => h) (by rfl) ?_ (by assumption) ?_
  rotate_left
  · intro w hSw; (try dsimp only at hSw); go_simp; (try with_reducible rfl)
  (try simp only [Act.put, gA8, List.setIfInBounds_toArray, List.set_cons_zero, List.set_cons_succ])
  refine tkW (v := ?_) 9 gA9 rfl (by kernel_rfl) (by kernel_rfl) (by kernel_rfl) (fun _ _ _ h => h) (by rfl) ?_ (by assumption) ?_
  rotate_left
  · intro w hSw; (try dsimp only at hSw); go_simp; (try with_reducible rfl)
  (try simp only [Act.put, gA9, List.setIfInBounds_toArray, List.set_cons_zero, List.set_cons_succ])
  refine tkW (v := ?_) 10 gA10 rfl (by kernel_rfl) (by kernel_rfl) (by kernel_rfl) (fun _ _ _ h => h) (by rfl) ?_ (by assumption) ?_
  rotate_left
  · intro w hSw; (try dsimp only at hSw); go_simp; (try with_reducible rfl)
  (try simp only [Act.put, gA10, List.setIfInBounds_toArray, List.set_cons_zero, List.set_cons_succ])
  refine tkW (v := ?_) 11 gA11 rfl (by kernel_rfl) (by kernel_rfl) (by kernel_rfl) (fun _ _ _ h => h) (by rfl) ?_ (by assumption) ?_
  rotate_left
  · intro w hSw; (try dsimp only at hSw); go_simp; (try with_reducible rfl)
  (try simp only [Act.put, gA11, List.setIfInBounds_toArray, List.set_cons_zero, List.set_cons_succ])
  refine tkW (v := ?_) 12 gA12 rfl (by kernel_rfl) (by kernel_rfl) (by kernel_rfl) (fun _ _ _ h => h) (by rfl) ?_ (by assumption) ?_
  rotate_left
  · intro w hSw; (try dsimp only at hSw); go_simp; (try with_reducible rfl)
  (try simp only [Act.put, gA12, List.setIfInBounds_toArray, List.set_cons_zero, List.set_cons_succ])
  refine tkW (v := ?_) 13 gA13 rfl (by kernel_rfl) (by kernel_rfl) (by kernel_rfl) (fun _ _ _ h => h) (by rfl) ?_ (by assumption) ?_
  rotate_left
  · intro w hSw; (try dsimp only at hSw); go_simp; (try with_reducible rfl)
  (try simp only [Act.put, gA13, List.setIfInBounds_toArray, List.set_cons_zero, List.set_cons_succ])
  refine tkW (v := ?_) 14 gA14 rfl (by kernel_rfl) (by kernel_rfl) (by kernel_rfl) (fun _ _ _ h => h) (by rfl) ?_ (by assumption) ?_
  rotate_left
  · intro w hSw; (try dsimp only at hSw); go_simp; (try with_reducible rfl)
  (try simp only [Act.put, gA14, List.setIfInBounds_toArray, List.set_cons_zero, List.set_cons_succ])
  refine tkW (v := ?_) 15 gA15 rfl (by kernel_rfl) (by kernel_rfl) (by kernel_rfl) (fun _ _ _ h => h) (by rfl) ?_ (by assumption) ?_
  rotate_left
  · intro w hSw; (try dsimp only at hSw); go_simp; (try with_reducible rfl)
  (try simp only [Act.put, gA15, List.setIfInBounds_toArray, List.set_cons_zero, List.set_cons_succ])
  refine wpAnyH_done (by kernel_rfl) ?_ _
  have gBX0 := gB
  obtain ⟨X, hX⟩ : ∃ z, z = V.drew := ⟨_, rfl⟩
  rw [← hX]
  have kvx : Kp V X := by rw [hX]; exact Kp.drew _
  have kx2 : Kp V X.drew := kvx.trans (Kp.drew _)
  have FX : X.drew.frozen? ⟨g, m * 2 + 1, none⟩ = false := by
    have := frozen_up (KV.out.trans kx2) hgw FZ.out
    exact this
  have LX := (KS2.out _ kx2).2.2.2
  have gx := GH.out X (KV.out.trans kvx)
  have kq := KS2.out X kvx
  have SY := Lib.hid (show (X.setCell ⟨g, m * 2 + 1, none⟩ (.int .i64 r2)).drew.cell? ⟨w.heap.size, 0, none⟩ = some (.int .i64 r1) ∧ (X.setCell ⟨g, m * 2 + 1, none⟩ (.int .i64 r2)).drew.cell? ⟨w.heap.size, 1, none⟩ = some (.int .i64 r2) ∧ (X.setCell ⟨g, m * 2 + 1, none⟩ (.int .i64 r2)).drew.cell? ⟨B, 0, none⟩ = some (.slice (some ⟨g, 0, none⟩) (m + 1) c) from ⟨cell_up (Kp.drew _) (by rw [World.cell?_setCell_far _ _ _ _ (Ne.symm neg1)]; exact kq.1), cell_up (Kp.drew _) (by rw [World.cell?_setCell_far _ _ _ _ (Ne.symm neg1)]; exact kq.2.1), cell_up (Kp.drew _) (by rw [World.cell?_setCell_far _ _ _ _ (Ne.symm neg2)]; exact kq.2.2.1)⟩)
  have GX := Lib.hid (show GJ w0 B (b ++ [(q1, r2)]) (X.setCell ⟨g, m * 2 + 1, none⟩ (.int .i64 r2)).drew ∧ IKB B w (X.setCell ⟨g, m * 2 + 1, none⟩ (.int .i64 r2)).drew from ⟨gx.1.kp (Kp.drew _), gx.2.trans (IKB.kp (Kp.drew _) (Nat.lt_of_lt_of_le gBX0 gx.2.size))⟩)
  clear hX kvx gx kq
  go_wp2_with fail
  refine wp_region_held_drew (S := fun w' => w'.cell? ⟨w.heap.size, 0, none⟩ = some (.int .i64 r1) ∧ w'.cell? ⟨w.heap.size, 1, none⟩ = some (.int .i64 r2) ∧ w'.cell? ⟨B, 0, none⟩ = some (.slice (some ⟨g, 0, none⟩) (m + 1) c)) (by kernel_rfl) ?_ (fun hHeld0 => ?_)
  · (try dsimp only); first | with_reducible exact ⟨(KS2.out _ (kx2)).1, (KS2.out _ (kx2)).2.1, (KS2.out _ (kx2)).2.2.1⟩ | with_reducible exact SY.out
  refine tkW (v := ?_) 0 gB0 rfl (by kernel_rfl) (by kernel_rfl) (by kernel_rfl) (fun _ _ _ h => h) (by rfl) ?_ (by assumption) ?_
  rotate_left
  · intro w hSw; (try dsimp only at hSw); go_simp; (try with_reducible rfl)
  (try simp only [Act.put, gB0, List.setIfInBounds_toArray, List.set_cons_zero, List.set_cons_succ])
  refine tkW (v := ?_) 1 gB1 rfl (by kernel_rfl) (by kernel_rfl) (by kernel_rfl) (fun _ _ _ h => h) (by rfl) ?_ (by assumption) ?_
  rotate_left
  · intro w hSw; (try dsimp only at hSw); go_simp; (try with_reducible rfl)
  (try simp only [Act.put, gB1, List.setIfInBounds_toArray, List.set_cons_zero, List.set_cons_succ])
  refine tkW (v := ?_) 2 gB2 rfl (by kernel_rfl) (by kernel_rfl) (by kernel_rfl) (fun _ _ _ h => h) (by rfl) ?_ (by assumption) ?_
  rotate_left
  · intro w hSw; (try dsimp only at hSw); go_simp; (try with_reducible rfl)
  (try simp only [Act.put, gB2, List.setIfInBounds_toArray, List.set_cons_zero, List.set_cons_succ])
  refine tkW (v := ?_) 3 gB3 rfl (by kernel_rfl) (by kernel_rfl) (by kernel_rfl) (fun _ _ _ h => h) (by rfl) ?_ (by assumption) ?_
  rotate_left
  · intro w hSw; (try dsimp only at hSw); go_simp; (try with_reducible rfl)
  (try simp only [Act.put, gB3, List.setIfInBounds_toArray, List.set_cons_zero, List.set_cons_succ])
  refine tkW (v := ?_) 4 gB4 rfl (by kernel_rfl) (by kernel_rfl) (by kernel_rfl) (fun _ _ _ h => h) (by rfl) ?_ (by assumption) ?_
  rotate_left
  · intro w hSw; (try dsimp only at hSw); go_simp; (try with_reducible rfl)
  (try simp only [Act.put, gB4, List.setIfInBounds_toArray, List.set_cons_zero, List.set_cons_succ])
  refine tkW (v := ?_) 5 gB5 rfl (by kernel_rfl) (by kernel_rfl) (by kernel_rfl) (fun _ _ _ h => h) (by rfl) ?_ (by assumption) ?_
  rotate_left
  · intro w hSw; (try dsimp only at hSw); go_simp; (try with_reducible rfl)
  (try simp only [Act.put, gB5, List.setIfInBounds_toArray, List.set_cons_zero, List.set_cons_succ])
  refine tkW (v := ?_) 6 gB6 rfl (by kernel_rfl) (by kernel_rfl) (by kernel_rfl) (fun _ _ _ h => h) (by rfl) ?_ (by assumption) ?_
  rotate_left
  · intro w hSw; (try dsimp only at hSw); go_simp; (try with_reducible rfl)
  (try simp only [Act.put, gB6, List.setIfInBounds_toArray, List.set_cons_zero, List.set_cons_succ])
  refine tkW (v := ?_) 7 gB7 rfl (by kernel_rfl) (by kernel_rfl) (by kernel_rfl) (fun _ _ _ h => h) (by rfl) ?_ (by assumption) ?_
  rotate_left
  · intro w hSw; (try dsimp only at hSw); go_simp; (try with_reducible rfl)
  (try simp only [Act.put, gB7, List.setIfInBounds_toArray, List.set_cons_zero, List.set_cons_succ])
  refine tkW (v := ?_) 8 gB8 rfl (by kernel_rfl) (by kernel_rfl) (by kernel_rfl) (fun _ _ _ h => h) (by rfl) ?_ (by assumption) ?_
  rotate_left
  · intro w hSw; (try dsimp only at hSw); go_simp; (try with_reducible rfl)
  (try simp only [Act.put, gB8, List.setIfInBounds_toArray, List.set_cons_zero, List.set_cons_succ])
  refine tkE 9 gB9 rfl (by kernel_rfl) (fun K hK => ?_)
  go_simp
  skip
  (try go_wp2_with fail)
  refine hK.out _ _ ?_ (fun hHeld1 => ?_)
  · (try dsimp only); first | with_reducible exact ⟨(KS2.out _ (kx2)).1, (KS2.out _ (kx2)).2.1, (KS2.out _ (kx2)).2.2.1⟩ | with_reducible exact SY.out
  clear hK K hHeld0
  (try simp only [Act.put, gB9, List.setIfInBounds_toArray, List.set_cons_zero, List.set_cons_succ])
  refine wpAnyH_done (by kernel_rfl) ?_ _
  have q9 : decide (((m : Int) + 1) ≤ 400) = decide (m + 1 ≤ 400) := by by_cases h : m + 1 ≤ 400; rw [decide_eq_true h, decide_eq_true (by omega)]; rw [decide_eq_false h, decide_eq_false (by omega)]
  have Q9 := Lib.hid q9
  have cY := SY.out.2.2
  clear q9
  go_wp2
  go_ret
  exact ⟨by first | rfl | (rewrite [← Q9.out]; rfl), GX.out.1, GX.out.2⟩
theorem add_any (w0 : World) (B : Nat) (S : List R) (r1 r2 : Int) (w : World) (h : GJ w0 B S w) (hn : S.length ≤ 1000) (hq : ∀ q ∈ S, -4611686018427387904 ≤ q.2 ∧ q.2 ≤ 4611686018427387904) :
    Calls Tryz.prog 60 #[.pointer (some ⟨B, 0, none⟩), .agg #[.int .i64 r1, .int .i64 r2]] w fun e w' => e = .returned (.bool (decide ((gstep S (r1, r2)).length ≤ 400))) ∧ GJ w0 B (gstep S (r1, r2)) w' ∧ IKB B w w' := by
  rcases snoc_cases S with e | ⟨b, q, e⟩
  · rw [show gstep S (r1, r2) = [] ++ [(r1, r2)] by rw [e]; rfl]
    exact add_nil w0 B S r1 r2 w h hn e
  · have hb := hq q (by rw [e]; simp)
    by_cases hle : r1 ≤ q.2 + 1
    · rw [show gstep S (r1, r2) = b ++ [(q.1, r2)] by rw [e, gstep_snoc, if_pos hle]]
      exact add_join w0 B S b q r1 r2 w h hn e hb.1 hb.2 hle
    · rw [show gstep S (r1, r2) = b ++ [q] ++ [(r1, r2)] by rw [e, gstep_snoc, if_neg hle]]
      exact add_far w0 B S b q r1 r2 w h hn e hb.1 hb.2 hle
end Go.Proofs.YtinpglfclbnhlaaGreatDoor

namespace Go.Proofs.YtinpglfclbnhlaaGreatDoor
open Go.RowKit
set_option linter.unusedVariables false
set_option linter.unusedSimpArgs false
/-- a row of the shapes -/
structure SHP where
  y : Int
  p : Int
  d : Int
  n : Int
  e : ByteArray
def shp (k : Int) : SHP := if k = 0 then ⟨4, 2, 2, 12, ⟨#[]⟩⟩ else if k = 1 then ⟨4, 2, 0, 12, ⟨#[]⟩⟩ else if k = 2 then ⟨4, 1, 0, 4, ⟨#[]⟩⟩ else if k = 3 then ⟨4, 0, 0, 0, ⟨#[]⟩⟩ else if k = 4 then ⟨3, 0, 0, 0, ⟨#[100]⟩⟩ else ⟨2, 0, 0, 0, ⟨#[99]⟩⟩
def shpCells : List Value := [.int .i64 4, .int .i64 2, .int .i64 2, .int .i64 12, .string ⟨#[]⟩, .int .i64 4, .int .i64 2, .int .i64 0, .int .i64 12, .string ⟨#[]⟩, .int .i64 4, .int .i64 1, .int .i64 0, .int .i64 4, .string ⟨#[]⟩,
  .int .i64 4, .int .i64 0, .int .i64 0, .int .i64 0, .string ⟨#[]⟩, .int .i64 3, .int .i64 0, .int .i64 0, .int .i64 0, .string ⟨#[100]⟩, .int .i64 2, .int .i64 0, .int .i64 0, .int .i64 0, .string ⟨#[99]⟩]
def TabSH (w : World) : Prop := w.var? Tryz.prog "lustrum/point.shapes" = some shpCells.toArray
theorem gSH : Tryz.prog.globalNamed "lustrum/point.shapes" = some 0 := by kernel_rfl
theorem TabSH.kp {w w' : World} (h : TabSH w) (k : Kp w w') : TabSH w' := var?_below k gSH (var_lt gSH h) h
theorem TabSH.cell {w : World} (h : TabSH w) (i : Nat) (hi : i < 30) : w.cell? ⟨0, i, none⟩ = shpCells[i]? := by
  unfold TabSH World.var? at h
  simp only [gSH, Option.bind_some] at h
  unfold World.cell?
  cases hq : w.heap[0]? with
  | none => rw [hq] at h; cases h
  | some o =>
    rw [hq] at h
    cases o with
    | cells c t fr =>
      simp only [Option.some.injEq] at h
      subst h
      simp
    | _ => simp at h
def TabRD (w : World) : Prop := Lib.TabIs Tryz.prog w "lustrum/point.radii" .i64 [3, 1, 1, 2, 1, 1]
theorem gRD : Tryz.prog.globalNamed "lustrum/point.radii" = some 1 := by kernel_rfl
theorem TabRD.cell {w : World} (h : TabRD w) (i : Nat) (hi : i < 6) : w.cell? ⟨1, i, none⟩ = some (.int .i64 ([3, 1, 1, 2, 1, 1].getD i 0)) := Lib.TabIs.cell h gRD i hi
theorem TabRD.kp {w w' : World} (h : TabRD w) (k : Kp w w') : TabRD w' := var?_below k gRD (var_lt gRD h) h
def Tabs8 (w : World) : Prop := Tabs w ∧ TabSH w ∧ TabRD w
theorem Tabs8.kp {w w' : World} (h : Tabs8 w) (k : Kp w w') : Tabs8 w' := ⟨Tabs.kp h.1 k, TabSH.kp h.2.1 k, TabRD.kp h.2.2 k⟩
theorem setM_gd (s : ByteArray) : Gd 10000 (setM s) ∧ (setM s).length ≤ 10000 := by
  unfold setM
  rcases Bool.eq_false_or_eq_true (saneM s) with h | h
  · rw [if_pos h]
    have m := mk_of h
    have k := setK_ok s m.ok s.size (Nat.le_refl _)
    have hs : s.size ≤ 4 := by
      unfold saneM at h
      rw [Bool.and_eq_true, decide_eq_true_eq] at h
      exact h.1.2
    have p := P10_le s.size hs
    have t := T10_le s.size hs
    have l := k.1.tot
    exact ⟨fun r hr => by have := k.1 r hr; omega, by omega⟩
  · rw [if_neg (by rw [h]; decide)]
    exact ⟨fun r hr => (by cases hr), by simp⟩
theorem setM_i64 (s : ByteArray) : I64R (setM s) := fun r hr => by have := (setM_gd s).1 r hr; omega
theorem bl_len (s : ByteArray) : ∀ (n i : Nat) (r : List UInt8), s.size - i = n → (ByteArray.toList.loop s i r).length = r.length + n := by
  intro n
  induction n with
  | zero =>
    intro i r h
    unfold ByteArray.toList.loop
    rw [if_neg (by omega)]
    simp
  | succ n ih =>
    intro i r h
    unfold ByteArray.toList.loop
    rw [if_pos (by omega), ih (i + 1) _ (by omega)]
    simp only [List.length_cons]
    omega
theorem str_empty (s : ByteArray) : s.toList.isEmpty = decide (s.size = 0) := by
  have h : s.toList.length = s.size := by
    unfold ByteArray.toList
    rw [bl_len s s.size 0 [] (by omega)]
    simp
  by_cases e : s.size = 0
  · rw [decide_eq_true e, List.isEmpty_iff, ← List.length_eq_zero_iff, h]
    exact e
  · rw [decide_eq_false e]
    cases hq : s.toList with
    | nil => rw [hq] at h; exact absurd h.symm e
    | cons a b => rfl
/-- the set of the numbers from 1 to most that match -/
def matR (s : ByteArray) (most : Int) : List R := interR (setM s) [(1, most)]
def fitP (s : ByteArray) (len most : Int) : Bool := if len = 0 then decide (s.size = 0) else decide ((s.size : Int) = len) && decide (0 < (matR s most).length)
theorem kind_any (k : Int) (w : World) : Calls Tryz.prog 31 #[.int .i64 k] w fun e w' => e = .returned (.bool (decide (0 ≤ k ∧ k < 6))) ∧ w = w' := by
  by_cases h : 0 ≤ k
  · rw [show decide (0 ≤ k ∧ k < 6) = decide (k < 6) by simp [h]]
    go_enter Tryz.func31, Tryz.ntmps31
    go_wp2
    go_ret
    exact ⟨rfl, rfl⟩
  · rw [show decide (0 ≤ k ∧ k < 6) = false by simp [h]]
    go_enter Tryz.func31, Tryz.ntmps31
    go_wp2
    go_ret
    exact ⟨rfl, rfl⟩
set_option maxHeartbeats 4000000 in
set_option maxRecDepth 100000 in
theorem matching_any (s : ByteArray) (most : Int) (w : World) (h0 : 0 ≤ most) (h9 : most ≤ 100) :
    Calls Tryz.prog 41 #[.string s, .int .i64 most] w fun e w' => ∃ v : Value, e = .returned v ∧ w'.ownsRow w.heap.size 37 2 v (matR s most).length (cellsR (matR s most)) ∧ Kp w w' := by
  have C1 := Lib.hid (mset_any s w)
  have C2 := Lib.hid (fun v w1 (hv : RunsAt w1 v (setM s)) => clip_any v (setM s) 1 most w1 hv (setM_i64 s) (by have := (setM_gd s).2; omega) (by intro r hr; rw [List.mem_singleton.1 hr]; exact ⟨by simp only; omega, by simp only; omega, by simp only; omega, by simp only; omega⟩))
  unfold matR
  generalize interR (setM s) [(1, most)] = L at *
  go_enter Tryz.func41, Tryz.ntmps41
  go_wp2_with fail
  refine C1.out.mono ?_
  rintro e w1 ⟨v1, rfl, own1, kk⟩
  have R1 := Lib.hid (runsAt_own own1)
  have K1 := Lib.hid kk
  obtain ⟨ad, c, rfl⟩ := own_slice own1
  clear own1 kk
  go_wp2_with fail
  refine (C2.out _ _ R1.out).mono ?_
  rintro e w2 ⟨v2, rfl, own2, kk⟩
  have O2 := Lib.hid (own_mono own2 K1.out.size)
  have K2 := Lib.hid (K1.out.trans kk)
  clear own2 kk
  go_wp2
  go_ret
  exact ⟨_, rfl, O2.out, K2.out⟩
set_option maxHeartbeats 4000000 in
set_option maxRecDepth 100000 in
theorem fits_any (s : ByteArray) (len most : Int) (w : World) (h0 : 0 ≤ most) (h9 : most ≤ 100) :
    Calls Tryz.prog 33 #[.string s, .int .i64 len, .int .i64 most] w fun e w' => e = .returned (.bool (fitP s len most)) ∧ Kp w w' := by
  have C1 := Lib.hid (matching_any s most w h0 h9)
  unfold fitP
  by_cases hl : len = 0
  · subst hl
    rw [if_pos rfl]
    have E := Lib.hid (str_empty s)
    go_enter Tryz.func33, Tryz.ntmps33
    go_wp2
    go_ret
    exact ⟨by rewrite [E.out]; rfl, Kp.refl _⟩
  · rw [if_neg hl]
    have ql : (len == 0) = false := beq_eq_false_iff_ne.2 hl
    by_cases hs : (s.size : Int) = len
    · rw [decide_eq_true hs, Bool.true_and]
      have qs : ((s.size : Int) == len) = true := by rw [hs]; simp
      generalize matR s most = L at *
      have E : decide ((0 : Int) < (L.length : Int)) = decide (0 < L.length) := by
        by_cases h : 0 < L.length
        · rw [decide_eq_true h, decide_eq_true (by omega)]
        · rw [decide_eq_false h, decide_eq_false (by omega)]
      have E2 := Lib.hid E
      clear E hs hl h0 h9
      go_enter Tryz.func33, Tryz.ntmps33
      go_wp2_with fail
      refine C1.out.mono ?_
      rintro e w1 ⟨v1, rfl, own1, kk⟩
      obtain ⟨ad, c, rfl⟩ := own_slice own1
      have K1 := Lib.hid kk
      clear own1 kk
      go_wp2
      go_ret
      exact ⟨by first | rfl | (rewrite [← E2.out]; rfl), K1.out⟩
    · rw [decide_eq_false hs, Bool.false_and]
      have qs : ((s.size : Int) == len) = false := beq_eq_false_iff_ne.2 hs
      clear hs hl C1
      go_enter Tryz.func33, Tryz.ntmps33
      go_wp2
      go_ret
      exact ⟨rfl, Kp.refl _⟩
/-- a point -/
structure PT where
  k : Int
  y : ByteArray
  m : ByteArray
  d : ByteArray
def ptV (p : PT) : Value := .agg #[.int .i64 p.k, .string p.y, .string p.m, .string p.d]
def saneP (p : PT) : Bool := decide (0 ≤ p.k ∧ p.k < 6) && (decide ((p.y.size : Int) = (shp p.k).y) && (saneM p.y && (fitP p.m (shp p.k).p (shp p.k).n && fitP p.d (shp p.k).d 31)))
theorem shp_cells {w : World} (T : TabSH w) {k : Int} (h : 0 ≤ k ∧ k < 6) : ∃ i : Nat, (i : Int) = k ∧ i < 6 ∧
    w.cell? ⟨0, i * 5, none⟩ = some (.int .i64 (shp k).y) ∧ w.cell? ⟨0, i * 5 + 1, none⟩ = some (.int .i64 (shp k).p) ∧ w.cell? ⟨0, i * 5 + 2, none⟩ = some (.int .i64 (shp k).d) ∧
    w.cell? ⟨0, i * 5 + 3, none⟩ = some (.int .i64 (shp k).n) ∧ w.cell? ⟨0, i * 5 + 4, none⟩ = some (.string (shp k).e) := by
  have hk : k = 0 ∨ k = 1 ∨ k = 2 ∨ k = 3 ∨ k = 4 ∨ k = 5 := by omega
  rcases hk with rfl | rfl | rfl | rfl | rfl | rfl
  · exact ⟨0, rfl, by omega, T.cell 0 (by omega), T.cell 1 (by omega), T.cell 2 (by omega), T.cell 3 (by omega), T.cell 4 (by omega)⟩
  · exact ⟨1, rfl, by omega, T.cell 5 (by omega), T.cell 6 (by omega), T.cell 7 (by omega), T.cell 8 (by omega), T.cell 9 (by omega)⟩
  · exact ⟨2, rfl, by omega, T.cell 10 (by omega), T.cell 11 (by omega), T.cell 12 (by omega), T.cell 13 (by omega), T.cell 14 (by omega)⟩
  · exact ⟨3, rfl, by omega, T.cell 15 (by omega), T.cell 16 (by omega), T.cell 17 (by omega), T.cell 18 (by omega), T.cell 19 (by omega)⟩
  · exact ⟨4, rfl, by omega, T.cell 20 (by omega), T.cell 21 (by omega), T.cell 22 (by omega), T.cell 23 (by omega), T.cell 24 (by omega)⟩
  · exact ⟨5, rfl, by omega, T.cell 25 (by omega), T.cell 26 (by omega), T.cell 27 (by omega), T.cell 28 (by omega), T.cell 29 (by omega)⟩
theorem shp_bd (k : Int) : 0 ≤ (shp k).n ∧ (shp k).n ≤ 100 := by unfold shp; (repeat' split) <;> decide
theorem pt_dest (p : PT) : ∃ k y m d, p = ⟨k, y, m, d⟩ := ⟨p.k, p.y, p.m, p.d, rfl⟩
set_option maxHeartbeats 16000000 in
set_option maxRecDepth 100000 in
theorem ptSane_any (p : PT) (w : World) (T : TabSH w) : Calls Tryz.prog 13 #[ptV p] w fun e w' => e = .returned (.bool (saneP p)) ∧ Kp w w' := by
  obtain ⟨k, y, m, d, rfl⟩ := pt_dest p
  unfold ptV saneP
  simp only
  obtain ⟨W0, hW⟩ : ∃ x, x = w.alloc (.cells #[.int .i64 k, .string y, .string m, .string d] 23) := ⟨_, rfl⟩
  have k0 : Kp w W0 := by rw [hW]; exact Kp.alloc _ _
  have hg : W0.heap[w.heap.size]? = some (.cells #[.int .i64 k, .string y, .string m, .string d] 23 (0, 0)) := by rw [hW]; exact heap_at _ _ _ rfl
  have HB := Lib.hid (fun w1 (q : Kp W0 w1) => show w1.cell? ⟨w.heap.size, 0, none⟩ = some (.int .i64 k) ∧ w1.cell? ⟨w.heap.size, 1, none⟩ = some (.string y) ∧ w1.cell? ⟨w.heap.size, 2, none⟩ = some (.string m) ∧ w1.cell? ⟨w.heap.size, 3, none⟩ = some (.string d) from ⟨cell_up q (by simp [World.cell?, hg]), cell_up q (by simp [World.cell?, hg]), cell_up q (by simp [World.cell?, hg]), cell_up q (by simp [World.cell?, hg])⟩)
  have HW := Lib.hid hW
  have K0 := Lib.hid k0
  have J0 := Lib.hid (Kp.refl W0)
  have C0 := Lib.hid (fun w1 => kind_any k w1)
  by_cases hk : 0 ≤ k ∧ k < 6
  · rw [decide_eq_true hk] at C0 ⊢
    rw [Bool.true_and]
    obtain ⟨i, hi, hi6, t0, t1, t2, t3, t4⟩ := shp_cells (T.kp k0) hk
    have bd := shp_bd k
    have C1 := Lib.hid (fun w1 => msane_any y w1)
    have C2 := Lib.hid (fun w1 => fits_any m (shp k).p (shp k).n w1 bd.1 bd.2)
    have C3 := Lib.hid (fun w1 => fits_any d (shp k).d 31 w1 (by decide) (by decide))
    generalize shp k = F at *
    obtain ⟨fy, fp, fd, fn, fe⟩ := F
    simp only at *
    generalize saneM y = b1 at *
    generalize fitP m fp fn = b2 at *
    generalize fitP d fd 31 = b3 at *
    subst hi
    clear hk bd hW k0 hg T
    obtain ⟨V, hV⟩ : ∃ x, x = W0.alloc (.cells #[.int .i64 fy, .int .i64 fp, .int .i64 fd, .int .i64 fn, .string fe] 39) := ⟨_, rfl⟩
    have kv : Kp W0 V := by rw [hV]; exact Kp.alloc _ _
    have hgv : V.heap[W0.heap.size]? = some (.cells #[.int .i64 fy, .int .i64 fp, .int .i64 fd, .int .i64 fn, .string fe] 39 (0, 0)) := by rw [hV]; exact heap_at _ _ _ rfl
    have HC := Lib.hid (fun w1 (q : Kp V w1) => show w1.cell? ⟨W0.heap.size, 0, none⟩ = some (.int .i64 fy) ∧ w1.cell? ⟨W0.heap.size, 1, none⟩ = some (.int .i64 fp) ∧ w1.cell? ⟨W0.heap.size, 2, none⟩ = some (.int .i64 fd) ∧ w1.cell? ⟨W0.heap.size, 3, none⟩ = some (.int .i64 fn) from ⟨cell_up q (by simp [World.cell?, hgv]), cell_up q (by simp [World.cell?, hgv]), cell_up q (by simp [World.cell?, hgv]), cell_up q (by simp [World.cell?, hgv])⟩)
    have HB2 := Lib.hid (fun w1 (q : Kp V w1) => HB.out w1 (kv.trans q))
    have HVV := Lib.hid hV
    have KV := Lib.hid (K0.out.trans kv)
    have z1 : (i : Int) < 6 := by omega
    have z2 : (0 : Int) ≤ (i : Int) := by omega
    clear hV kv hgv
    have c00 := (HB.out W0 (Kp.refl _)).1
    have lt1 : w.heap.size < W0.heap.size := World.block_lt_of_cell? _ _ c00
    have ne1 : ¬ w.heap.size = W0.heap.size := by omega
    clear c00
    by_cases hy : (y.size : Int) = fy
    · have qy : ((y.size : Int) == fy) = true := by rw [hy]; simp
      rw [decide_eq_true hy, Bool.true_and]
      have I0 := Lib.hid (Kp.refl V)
      cases b1 with
      | false =>
        go_enter Tryz.func13, Tryz.ntmps13
        go_wp2_with fail
        rw [← HW.out]
        obtain ⟨c0, c1, c2, c3⟩ := HB.out W0 (Kp.refl _)
        refine (C0.out _).mono ?_
        rintro e w1 ⟨rfl, rfl⟩
        go_wp2_with fail
        rw [← HVV.out]
        clear c0 c1 c2 c3 t0 t1 t2 t3 t4
        refine (C1.out _).mono ?_
        rintro e w2 ⟨rfl, kk⟩
        have I1 := Lib.hid (I0.out.trans kk)
        clear kk
        obtain ⟨c0, c1, c2, c3⟩ := HB2.out w2 I1.out
        obtain ⟨d0, d1, d2, d3⟩ := HC.out w2 I1.out
        go_wp2
        go_ret
        exact ⟨rfl, KV.out.trans I1.out⟩
      | true =>
        rw [Bool.true_and]
        cases b2 with
        | false =>
          go_enter Tryz.func13, Tryz.ntmps13
          go_wp2_with fail
          rw [← HW.out]
          obtain ⟨c0, c1, c2, c3⟩ := HB.out W0 (Kp.refl _)
          refine (C0.out _).mono ?_
          rintro e w1 ⟨rfl, rfl⟩
          go_wp2_with fail
          rw [← HVV.out]
          clear c0 c1 c2 c3 t0 t1 t2 t3 t4
          refine (C1.out _).mono ?_
          rintro e w2 ⟨rfl, kk⟩
          have I1 := Lib.hid (I0.out.trans kk)
          clear kk
          obtain ⟨c0, c1, c2, c3⟩ := HB2.out w2 I1.out
          obtain ⟨d0, d1, d2, d3⟩ := HC.out w2 I1.out
          go_wp2_with fail
          refine (C2.out _).mono ?_
          rintro e w3 ⟨rfl, kk⟩
          have I2 := Lib.hid (I1.out.trans kk)
          clear kk
          clear c0 c1 c2 c3 d0 d1 d2 d3
          obtain ⟨c0, c1, c2, c3⟩ := HB2.out w3 I2.out
          obtain ⟨d0, d1, d2, d3⟩ := HC.out w3 I2.out
          go_wp2
          go_ret
          exact ⟨rfl, KV.out.trans I2.out⟩
        | true =>
          rw [Bool.true_and]
          go_enter Tryz.func13, Tryz.ntmps13
          go_wp2_with fail
          rw [← HW.out]
          obtain ⟨c0, c1, c2, c3⟩ := HB.out W0 (Kp.refl _)
          refine (C0.out _).mono ?_
          rintro e w1 ⟨rfl, rfl⟩
          go_wp2_with fail
          rw [← HVV.out]
          clear c0 c1 c2 c3 t0 t1 t2 t3 t4
          refine (C1.out _).mono ?_
          rintro e w2 ⟨rfl, kk⟩
          have I1 := Lib.hid (I0.out.trans kk)
          clear kk
          obtain ⟨c0, c1, c2, c3⟩ := HB2.out w2 I1.out
          obtain ⟨d0, d1, d2, d3⟩ := HC.out w2 I1.out
          go_wp2_with fail
          refine (C2.out _).mono ?_
          rintro e w3 ⟨rfl, kk⟩
          have I2 := Lib.hid (I1.out.trans kk)
          clear kk
          clear c0 c1 c2 c3 d0 d1 d2 d3
          obtain ⟨c0, c1, c2, c3⟩ := HB2.out w3 I2.out
          obtain ⟨d0, d1, d2, d3⟩ := HC.out w3 I2.out
          go_wp2_with fail
          refine (C3.out _).mono ?_
          rintro e w4 ⟨rfl, kk⟩
          have I3 := Lib.hid (I2.out.trans kk)
          clear kk
          clear c0 c1 c2 c3 d0 d1 d2 d3
          obtain ⟨c0, c1, c2, c3⟩ := HB2.out w4 I3.out
          obtain ⟨d0, d1, d2, d3⟩ := HC.out w4 I3.out
          go_wp2
          go_ret
          exact ⟨rfl, KV.out.trans I3.out⟩
    · have qy : ((y.size : Int) == fy) = false := beq_eq_false_iff_ne.2 hy
      rw [decide_eq_false hy, Bool.false_and]
      go_enter Tryz.func13, Tryz.ntmps13
      go_wp2_with fail
      rw [← HW.out]
      obtain ⟨c0, c1, c2, c3⟩ := HB.out W0 (Kp.refl _)
      refine (C0.out _).mono ?_
      rintro e w1 ⟨rfl, rfl⟩
      go_wp2
      go_ret
      exact ⟨rfl, by first | exact KV.out | exact K0.out.trans (Kp.alloc _ _)⟩
  · rw [decide_eq_false hk] at C0 ⊢
    clear hk hW k0 hg T
    go_enter Tryz.func13, Tryz.ntmps13
    go_wp2_with fail
    rw [← HW.out]
    obtain ⟨c0, c1, c2, c3⟩ := HB.out W0 (Kp.refl _)
    refine (C0.out _).mono ?_
    rintro e w1 ⟨rfl, rfl⟩
    go_wp2
    go_ret
    exact ⟨rfl, K0.out⟩
end Go.Proofs.YtinpglfclbnhlaaGreatDoor

namespace Go.Proofs.YtinpglfclbnhlaaGreatDoor
open Go.RowKit
set_option linter.unusedVariables false
set_option linter.unusedSimpArgs false
def radV (k : Int) : Int := if k = 0 then 3 else if k = 3 then 2 else if k = 1 ∨ k = 2 ∨ k = 4 ∨ k = 5 then 1 else 0
theorem radius_any (k : Int) (w : World) (T : Tabs8 w) : Calls Tryz.prog 17 #[.int .i64 k] w fun e w' => e = .returned (.int .i64 (radV k)) ∧ w = w' := by
  have C0 := Lib.hid (fun w1 => kind_any k w1)
  by_cases hk : 0 ≤ k ∧ k < 6
  · rw [decide_eq_true hk] at C0
    have h6 : k = 0 ∨ k = 1 ∨ k = 2 ∨ k = 3 ∨ k = 4 ∨ k = 5 := by omega
    have t0 := T.2.2.cell 0 (by omega)
    have t1 := T.2.2.cell 1 (by omega)
    have t2 := T.2.2.cell 2 (by omega)
    have t3 := T.2.2.cell 3 (by omega)
    have t4 := T.2.2.cell 4 (by omega)
    have t5 := T.2.2.cell 5 (by omega)
    simp only [List.getD_cons_zero, List.getD_cons_succ] at t0 t1 t2 t3 t4 t5
    clear hk T
    rcases h6 with rfl | rfl | rfl | rfl | rfl | rfl
    all_goals
      go_enter Tryz.func17, Tryz.ntmps17
      go_wp2_with fail
      refine (C0.out _).mono ?_
      rintro e w1 ⟨rfl, rfl⟩
      go_wp2
      go_ret
      exact ⟨rfl, rfl⟩
  · rw [decide_eq_false hk] at C0
    rw [show radV k = 0 by unfold radV; (repeat' split) <;> omega]
    clear hk T
    go_enter Tryz.func17, Tryz.ntmps17
    go_wp2_with fail
    refine (C0.out _).mono ?_
    rintro e w1 ⟨rfl, rfl⟩
    go_wp2
    go_ret
    exact ⟨rfl, rfl⟩
/-- a set of which the first days are not too many runs -/
theorem narrowP_any (k : Int) (v : Value) (s : List R) (w : World) (hv : RunsAt w v s) (hl : I64R s) (hn : s.length ≤ 1000000) (T : Tabs w) :
    Calls Tryz.prog 22 #[.int .i64 k, v] w fun e w' => e = .returned (.tuple #[if edgB k s = true then v else .slice none 0 0, .int .i64 (if edgB k s = true then 0 else 8)]) ∧ Kp w w' := by
  have C := Lib.hid (starts_any k v s w hv hl hn T)
  obtain ⟨ad, c, rfl⟩ := hv.slice
  clear hv hl T
  generalize edgB k s = b at *
  cases b with
  | true =>
    rw [if_pos rfl, if_pos rfl]
    go_enter Tryz.func22, Tryz.ntmps22
    go_wp2_with fail
    refine C.out.mono ?_
    rintro e w1 ⟨v1, rfl, _, kk⟩
    have K1 := Lib.hid kk
    clear kk
    go_wp2
    exact bodyPost_ret (results_tmp2 rfl _ _ _) rfl ⟨rfl, K1.out⟩
  | false =>
    rw [if_neg (by decide), if_neg (by decide)]
    go_enter Tryz.func22, Tryz.ntmps22
    go_wp2_with fail
    refine C.out.mono ?_
    rintro e w1 ⟨v1, rfl, _, kk⟩
    have K1 := Lib.hid kk
    clear kk
    go_wp2
    exact bodyPost_ret (results_tmp2 rfl _ _ _) rfl ⟨rfl, K1.out⟩
end Go.Proofs.YtinpglfclbnhlaaGreatDoor

namespace Go.Proofs.YtinpglfclbnhlaaGreatDoor
open Go.RowKit
set_option linter.unusedVariables false
set_option linter.unusedSimpArgs false
def upL (lo : Int) (j : Nat) : List Int := (List.range j).map fun (i : Nat) => lo + (i : Int)
theorem upL_succ (lo : Int) (j : Nat) : upL lo (j + 1) = upL lo j ++ [lo + (j : Int)] := by unfold upL; rw [List.range_succ]; simp
theorem ofR_upL (r : R) : ofR r = upL r.1 (r.2 - r.1 + 1).toNat := rfl
theorem longR_next (parts : List R) (d : Int) (k : Nat) (h : k < parts.length) : longR (parts.take (k + 1)) d = longR (parts.take k) d ++ (ofR (at_ parts k)).flatMap (longM d) := by
  unfold longR
  rw [take_at parts k h]
  simp
theorem longM_len (d m : Int) : (longM d m).length ≤ 1 := by unfold longM; split <;> simp
theorem mon_val {m : Int} (h0 : 1 ≤ m) (h9 : m ≤ 12) : firV 1 (m - 1) = mon (m - 1) ∧ lasV 1 (m - 1) = mon m - 1 := by
  have c : cnt 1 = 120000 := by decide
  have q := months (k := 1) (i := m - 1) (by omega) (by omega) (by decide)
  rw [firV_yes (by omega) (by omega), lasV_yes (by omega) (by omega)]
  obtain ⟨_, _, _, a, b⟩ := q
  have e1 : sm 1 (m - 1) = m - 1 := by unfold sm; rw [if_pos rfl]
  have e2 : em 1 (m - 1) = m := by unfold em; rw [if_neg (by omega)]; unfold sm; rw [if_pos rfl]; omega
  rw [a, b, e1, e2]
  exact ⟨rfl, rfl⟩
theorem mon_small {m : Int} (h0 : 0 ≤ m) (h9 : m ≤ 12) : 0 ≤ mon m ∧ mon m ≤ 366 := by
  have a := mon_le 0 m (Int.le_refl _) h0
  have b := mon_le m 12 h0 h9
  rw [mon_0] at a
  rw [show mon 12 = 366 by decide] at b
  exact ⟨a, b⟩
theorem long_nb {v v' : Value} {B n : Nat} (h : ∀ g, v.ownBlock = some g → g ≠ B) (a : v'.ownBlock = v.ownBlock ∨ v'.ownBlock = some n) (hB : B < n) : ∀ g, v'.ownBlock = some g → g ≠ B := by
  intro g hg
  rcases a with a | a
  · exact h g (by rw [← a]; exact hg)
  · rw [a] at hg
    cases hg
    omega
set_option maxHeartbeats 16000000 in
set_option maxRecDepth 100000 in
theorem long_any (v : Value) (parts : List R) (d : Int) (w : World) (hv : RunsAt w v parts) (hp : Inn 1 12 parts) (ap : apt parts) (hn : parts.length ≤ 1000) (hd1 : -1000 ≤ d) (hd2 : d ≤ 1000) (T : Tabs w) :
    Calls Tryz.prog 58 #[v, .int .i64 d] w fun e w' => ∃ v' : Value, e = .returned v' ∧ w'.ownsRow w.heap.size 37 2 v' (longR parts d).length (cellsR (longR parts d)) ∧ Kp w w' := by
  obtain ⟨i0, hi, hz0, hz1, hz2⟩ := info_parts infoR
  have CF := Lib.hid (fun i w1 (q : Kp w w1) => firstC 1 i w1 (T.kp q))
  have CL := Lib.hid (fun i w1 (q : Kp w w1) => lastC 1 i w1 (T.kp q))
  have HV := Lib.hid hv
  obtain ⟨ad0, cp0, rfl⟩ := hv.slice
  have NX := Lib.hid (fun k (h : k < parts.length) => longR_next parts d k h)
  have IN := Lib.hid (fun k (h : k < parts.length) => hp (at_ parts k) (by unfold at_; simp [List.getD, h]))
  have AP := Lib.hid (fun k (h : k + 1 < parts.length) => (by
    have := List.pairwise_iff_getElem.1 ap k (k + 1) (by omega) h (by omega)
    unfold at_
    simpa [List.getD, h, show k < parts.length by omega] using this : (at_ parts k).2 < (at_ parts (k + 1)).1))
  have K0 := Lib.hid (Kp.refl w)
  have Z0 := Lib.hid (show longR (parts.take 0) d = [] from rfl)
  have ZE := Lib.hid (show longR (parts.take parts.length) d = longR parts d by rw [List.take_length])
  clear hv hp ap T
  generalize hE : (fun k => longR (parts.take k) d) = E at *
  have NXE := Lib.hid (fun k (h : k < parts.length) => (by rw [← hE]; exact NX.out k h : E (k + 1) = E k ++ (ofR (at_ parts k)).flatMap (longM d)))
  have Z0E := Lib.hid (show E 0 = [] by rw [← hE]; exact Z0.out)
  have ZEE := Lib.hid (show E parts.length = longR parts d by rw [← hE]; exact ZE.out)
  clear NX Z0 ZE hE
  go_enter Tryz.func58, Tryz.ntmps58
  go_wp2
  go_loopw [5, 15] (fun s i wr => ∃ k : Nat, k ≤ parts.length ∧ i = .int .i64 k ∧ Hid (wr.ownsRow w.heap.size 37 2 s (E k).length (cellsR (E k))) ∧ Hid ((E k).length ≤ 12 ∧ (k < parts.length → ((E k).length : Int) < (at_ parts k).1)) ∧ Hid (Kp w wr)) (fun _ i _ => parts.length - (intOf i).toNat)
  case atStart => exact ⟨0, Nat.zero_le _, rfl, Lib.hid (by rw [Z0E.out]; exact World.ownsRow_nil _ _ _ _), Lib.hid (by rw [Z0E.out]; exact ⟨by simp, fun h => by have := (IN.out 0 h).1; simp; omega⟩), K0⟩
  case round =>
    obtain ⟨k, hk, rfl, OW, LN, J⟩ := hrel
    by_cases hlt : k < parts.length
    · rcases HV.out.kp J.out with ⟨_, _, _, e⟩ | ⟨b0, off, cap, ev, hc, hm, hx⟩
      · rw [e] at hlt; simp at hlt
      cases ev
      obtain ⟨d1, d2⟩ := hx k hlt
      have NE := NXE.out k hlt
      have LK := LN.out.2 hlt
      have IK := IN.out k hlt
      have LQ := Lib.hid (fun (h : k + 1 < parts.length) => AP.out k h)
      obtain ⟨lo, hi', ee⟩ : ∃ x y, at_ parts k = (x, y) := ⟨_, _, rfl⟩
      rw [ee] at d1 d2 NE LK IK LQ
      rw [ofR_upL] at NE
      simp only at d1 d2 NE LK IK LQ
      have LNK := LN.out.1
      obtain ⟨W1, hW1⟩ : ∃ x, x = wr.alloc (.cells #[.int .i64 lo, .int .i64 hi'] 37) := ⟨_, rfl⟩
      have kv : Kp wr W1 := by rw [hW1]; exact Kp.alloc _ _
      have hg : W1.heap[wr.heap.size]? = some (.cells #[.int .i64 lo, .int .i64 hi'] 37 (0, 0)) := by rw [hW1]; exact heap_at _ _ _ rfl
      have O1 := Lib.hid (own_kp OW.out kv)
      have J1 := Lib.hid (J.out.trans kv)
      have HG1 := Lib.hid hg
      obtain ⟨sa, sc, rfl⟩ := own_slice OW.out
      have NB1 := Lib.hid (fun g (h : (Value.slice sa (E k).length sc).ownBlock = some g) => (fun e => by have := (OW.out.lt g h).2; omega : g ≠ wr.heap.size))
      obtain ⟨BB, hBB⟩ : ∃ b, wr.heap.size = b := ⟨_, rfl⟩
      rw [hBB] at HG1 NB1
      have HBB := Lib.hid hBB
      have HW1 := Lib.hid hW1
      have z1 : (k : Int) < (parts.length : Int) := by omega
      have z2 : (0 : Int) ≤ (k : Int) := by omega
      have NEH := Lib.hid NE
      have HK1 := Lib.hid (show k + 1 ≤ parts.length by omega)
      have HKV := Lib.hid (show Value.int IntKind.i64 ((k : Int) + 1) = Value.int IntKind.i64 ((k + 1 : Nat) : Int) from by simp)
      have HLT := Lib.hid hlt
      generalize E k = A at *
      clear hx hc hm ee NE hW1 kv hg hBB
      go_wp2_with fail
      rw [← HW1.out, HBB.out]
      go_loopw [5, 8] (fun s mv wr => ∃ (j : Nat) (L : List R), j ≤ (hi' - lo + 1).toNat ∧ mv = .int .i64 (lo + (j : Int)) ∧ Hid (L = A ++ (upL lo j).flatMap (longM d)) ∧ Hid (wr.ownsRow w.heap.size 37 2 s L.length (cellsR L)) ∧ Hid ((L.length : Int) < lo + (j : Int)) ∧ Hid (wr.heap[BB]? = some (.cells #[.int .i64 lo, .int .i64 hi'] 37 (0, 0))) ∧ Hid (∀ g, s.ownBlock = some g → g ≠ BB) ∧ Hid (Kp w wr)) (fun _ mv _ => (hi' + 1 - intOf mv).toNat)
      case atStart => exact ⟨0, A, Nat.zero_le _, by simp, Lib.hid (by simp [upL]), O1, Lib.hid (by simp; exact LK), HG1, NB1, J1⟩
      case round =>
        obtain ⟨j, L, hj, rfl, EL, OL, LL, HB7, NB, JL⟩ := hrel
        obtain ⟨ra, rc, rfl⟩ := own_slice OL.out
        have c7 : wr.cell? ⟨BB, 1, none⟩ = some (.int .i64 hi') := by simp [World.cell?, HB7.out]
        have hlb := (Array.getElem?_eq_some_iff.1 HB7.out).1
        have hL := LL.out
        by_cases hlm : lo + (j : Int) ≤ hi'
        · have q1 : decide (lo + (j : Int) ≤ hi') = true := decide_eq_true hlm
          have HLM := Lib.hid hlm
          have hL2 : L.length ≤ 12 := by omega
          obtain ⟨f1, f2⟩ := mon_val (m := lo + (j : Int)) (by omega) (by omega)
          have C1 := CF.out (lo + (j : Int) - 1)
          have C2 := CL.out (lo + (j : Int) - 1)
          rw [f1] at C1
          rw [f2] at C2
          have m1 := mon_small (m := lo + (j : Int) - 1) (by omega) (by omega)
          have m2 := mon_small (m := lo + (j : Int)) (by omega) (by omega)
          obtain ⟨q, hq⟩ : ∃ q, longM d (lo + (j : Int)) = q := ⟨_, rfl⟩
          have hq2 := hq
          unfold longM at hq2
          have NQ := Lib.hid (show A ++ (upL lo (j + 1)).flatMap (longM d) = L ++ q by rw [upL_succ, List.flatMap_append, ← List.append_assoc, ← EL.out, List.flatMap_singleton, hq])
          have HJ1 := Lib.hid (show j + 1 ≤ (hi' - lo + 1).toNat by omega)
          have HJV := Lib.hid (show Value.int IntKind.i64 (lo + (j : Int) + 1) = Value.int IntKind.i64 (lo + ((j + 1 : Nat) : Int)) from by congr 1; omega)
          have CC1 := Lib.hid C1
          have CC2 := Lib.hid C2
          have KR := JL
          generalize mon (lo + (j : Int) - 1) = fm at *
          generalize mon (lo + (j : Int)) = lm at *
          generalize okU 1 (lo + (j : Int) - 1) = ok1 at *
          obtain ⟨m11, m12⟩ := m1
          obtain ⟨m21, m22⟩ := m2
          clear f1 f2 C1 C2 hq hL
          go_wp2_with fail
          refine (CC1.out _ KR.out).mono ?_
          rintro e w1 ⟨rfl, kk⟩
          have K1 := Lib.hid kk
          clear kk c7
          go_wp2_with fail
          refine (CC2.out _ (KR.out.trans K1.out)).mono ?_
          rintro e w2 ⟨rfl, kk⟩
          have K2 := Lib.hid (K1.out.trans kk)
          have JE := Lib.hid (JL.out.trans K2.out)
          clear kk
          have O2 := own_kp OL.out K2.out
          have hsz := (KR.out.trans K2.out).size
          have HB8 := Lib.hid (heap_block K2.out HB7.out)
          have hlb2 := (Array.getElem?_eq_some_iff.1 HB8.out).1
          by_cases hge : lm - 1 - fm + 1 ≥ d
          · rw [if_pos hge] at hq2
            have HQ := Lib.hid hq2
            have g1 : decide (d ≤ lm - 1 - fm + 1) = true := decide_eq_true hge
            have g2 : decide (lm - 1 - fm + 1 ≥ d) = true := decide_eq_true hge
            clear hge hq2
            go_wp2_with (at_builtin; refine wpList_app rfl (.tmp 45) (.tmp 49) 28 rfl w.heap.size 37 i0 (.agg #[.int .i64 0, .int .i64 0]) 2 16 Tryz.underlying28 hi hz0 hz1 hz2 rfl (by decide) _ _ _ rfl (O2.alloc _) _ _ _ rfl (one_src _ _ _ _) rfl (by intro u hu; simp at hu; rcases hu with rfl | rfl <;> rfl) (by unfold maxLen; omega) (by omega) (by simp; omega) ?_; intro v3 w3 own3 grow3 at3; have O3 := Lib.hid (own_snoc own3); have JE3 := Lib.hid ((JE.out.trans (Kp.alloc _ _)).grown grow3 (fun j hj => (O2.lt j hj).1)); have HB9 := Lib.hid ((grow3.block BB (Nat.lt_of_lt_of_le hlb2 (Kp.alloc _ _).size) (fun e => NB.out BB e.symm rfl)).trans (heap_block (Kp.alloc _ _) HB8.out)); have NB9 := Lib.hid (long_nb NB.out at3 (Nat.lt_of_lt_of_le hlb2 (Kp.alloc _ _).size)); clear own3 grow3 at3)
            go_roundw
            case rel => exact ⟨j + 1, L ++ [(lo + (j : Int), lo + (j : Int))], HJ1.out, HJV.out, Lib.hid (by rw [NQ.out, ← HQ.out]), O3, Lib.hid (by have := LL.out; rw [List.length_append, List.length_singleton]; omega), HB9, NB9, JE3⟩
            case measure => have := HLM.out; simp [intOf]; omega
          · rw [if_neg hge] at hq2
            have HQ := Lib.hid hq2
            have g1 : decide (d ≤ lm - 1 - fm + 1) = false := decide_eq_false hge
            have g2 : decide (lm - 1 - fm + 1 ≥ d) = false := decide_eq_false hge
            have O3 := Lib.hid O2
            clear hge hq2 O2
            go_wp2
            go_roundw
            case rel => exact ⟨j + 1, L, HJ1.out, HJV.out, Lib.hid (by rw [NQ.out, ← HQ.out, List.append_nil]), O3, Lib.hid (by have := LL.out; omega), HB8, NB, JE⟩
            case measure => have := HLM.out; simp [intOf]; omega
        · have q1 : decide (lo + (j : Int) ≤ hi') = false := decide_eq_false hlm
          have em : j = (hi' - lo + 1).toNat := by omega
          have OE := Lib.hid (show wr.ownsRow w.heap.size 37 2 _ (E (k + 1)).length (cellsR (E (k + 1))) by rw [NEH.out, ← em, ← EL.out]; exact OL.out)
          have LE := Lib.hid (show (E (k + 1)).length ≤ 12 ∧ (k + 1 < parts.length → ((E (k + 1)).length : Int) < (at_ parts (k + 1)).1) by
            rw [NEH.out, ← em, ← EL.out]
            exact ⟨by omega, fun h => by have := LQ.out h; omega⟩)
          have JE := JL
          clear hL hlm
          go_wp2
          go_roundw
          case rel => exact ⟨k + 1, HK1.out, HKV.out, OE, LE, JE⟩
          case measure => have := HLT.out; simp [intOf]; omega
    · obtain rfl : k = parts.length := by omega
      go_wp2
      go_ret
      exact ⟨_, rfl, by rw [← ZEE.out]; exact OW.out, J.out⟩
end Go.Proofs.YtinpglfclbnhlaaGreatDoor

namespace Go.Proofs.YtinpglfclbnhlaaGreatDoor
open Go.RowKit
set_option linter.unusedVariables false
set_option linter.unusedSimpArgs false
def dash : ByteArray := ⟨#[45]⟩
def textP (p : PT) : ByteArray := if saneP p = true then (if p.k = 0 then p.y ++ (dash ++ p.m ++ (dash ++ p.d)) else if p.k = 1 then p.y ++ (dash ++ p.m ++ (shp 1).e) else if p.k = 2 then p.y ++ ((⟨#[115]⟩ : ByteArray) ++ p.m) else p.y ++ (shp p.k).e) else ⟨#[]⟩
theorem fitP_size {s : ByteArray} {len most : Int} (h : fitP s len most = true) (h2 : len ≤ 2) : s.size ≤ 2 := by
  unfold fitP at h
  split at h
  · have := of_decide_eq_true h; omega
  · rw [Bool.and_eq_true] at h
    have := of_decide_eq_true h.1; omega
theorem saneP_size {p : PT} (h : saneP p = true) : p.y.size ≤ 4 ∧ p.m.size ≤ 2 ∧ p.d.size ≤ 2 := by
  unfold saneP at h
  simp only [Bool.and_eq_true] at h
  obtain ⟨_, h1, _, h3, h4⟩ := h
  have e := of_decide_eq_true h1
  have b : (shp p.k).y ≤ 4 ∧ (shp p.k).p ≤ 2 ∧ (shp p.k).d ≤ 2 := by unfold shp; (repeat' split) <;> decide
  exact ⟨by omega, fitP_size h3 b.2.1, fitP_size h4 b.2.2⟩
set_option maxHeartbeats 16000000 in
set_option maxRecDepth 100000 in
theorem ptText_any (p : PT) (w : World) (T : TabSH w) : Calls Tryz.prog 15 #[ptV p] w fun e w' => e = .returned (.string (textP p)) ∧ Kp w w' := by
  obtain ⟨k, y, m, d, rfl⟩ := pt_dest p
  unfold ptV
  simp only
  obtain ⟨W0, hW⟩ : ∃ x, x = w.alloc (.cells #[.int .i64 k, .string y, .string m, .string d] 23) := ⟨_, rfl⟩
  have k0 : Kp w W0 := by rw [hW]; exact Kp.alloc _ _
  have hg : W0.heap[w.heap.size]? = some (.cells #[.int .i64 k, .string y, .string m, .string d] 23 (0, 0)) := by rw [hW]; exact heap_at _ _ _ rfl
  have HB := Lib.hid (fun w1 (q : Kp W0 w1) => show w1.cell? ⟨w.heap.size, 0, none⟩ = some (.int .i64 k) ∧ w1.cell? ⟨w.heap.size, 1, none⟩ = some (.string y) ∧ w1.cell? ⟨w.heap.size, 2, none⟩ = some (.string m) ∧ w1.cell? ⟨w.heap.size, 3, none⟩ = some (.string d) from ⟨cell_up q (by simp [World.cell?, hg]), cell_up q (by simp [World.cell?, hg]), cell_up q (by simp [World.cell?, hg]), cell_up q (by simp [World.cell?, hg])⟩)
  have HW := Lib.hid hW
  have K0 := Lib.hid k0
  have C0 := Lib.hid (fun w1 (q : Kp W0 w1) => ptSane_any ⟨k, y, m, d⟩ w1 (T.kp (k0.trans q)))
  have SH := Lib.hid (fun w1 (q : Kp W0 w1) (h : 0 ≤ k ∧ k < 6) => shp_cells (T.kp (k0.trans q)) h)
  have hsane := fun (h : saneP ⟨k, y, m, d⟩ = true) => (by unfold saneP at h; rw [Bool.and_eq_true] at h; exact of_decide_eq_true h.1 : 0 ≤ k ∧ k < 6)
  simp only [ptV] at C0
  rcases Bool.eq_false_or_eq_true (saneP ⟨k, y, m, d⟩) with hs | hs
  · obtain ⟨r, hr⟩ : ∃ r, textP ⟨k, y, m, d⟩ = r := ⟨_, rfl⟩
    rw [hr]
    unfold textP at hr
    rw [if_pos hs] at hr
    rw [hs] at C0
    have hk := hsane hs
    obtain ⟨sy, sm, sd⟩ := saneP_size hs
    simp only at hr sy sm sd
    clear hsane hs hW k0 hg T
    have hk6 : k = 0 ∨ k = 1 ∨ k = 2 ∨ k = 3 ∨ k = 4 ∨ k = 5 := by omega
    rcases hk6 with rfl | rfl | rfl | rfl | rfl | rfl
    · have HR := Lib.hid (show y ++ (dash ++ m ++ (dash ++ d)) = r from hr)
      clear hr hk
      go_enter Tryz.func15, Tryz.ntmps15
      go_wp2_with fail
      rw [← HW.out]
      obtain ⟨c0, c1, c2, c3⟩ := HB.out W0 (Kp.refl _)
      go_wp2_with fail
      refine (C0.out _ (Kp.refl _)).mono ?_
      rintro e w1 ⟨rfl, kk⟩
      have J1 := Lib.hid kk
      clear kk c0 c1 c2 c3
      obtain ⟨c0, c1, c2, c3⟩ := HB.out w1 J1.out
      have t4 : w1.cell? ⟨0, 4, none⟩ = some (.string ⟨#[]⟩) := by
        obtain ⟨i, hi, _, _, _, _, _, h4⟩ := SH.out w1 J1.out ⟨by decide, by decide⟩
        obtain rfl : i = 0 := by omega
        exact h4
      go_wp2
      go_ret
      exact ⟨by rewrite [← HR.out]; rfl, K0.out.trans J1.out⟩
    · have HR := Lib.hid (show y ++ (dash ++ m ++ ⟨#[]⟩) = r from hr)
      clear hr hk
      go_enter Tryz.func15, Tryz.ntmps15
      go_wp2_with fail
      rw [← HW.out]
      obtain ⟨c0, c1, c2, c3⟩ := HB.out W0 (Kp.refl _)
      go_wp2_with fail
      refine (C0.out _ (Kp.refl _)).mono ?_
      rintro e w1 ⟨rfl, kk⟩
      have J1 := Lib.hid kk
      clear kk c0 c1 c2 c3
      obtain ⟨c0, c1, c2, c3⟩ := HB.out w1 J1.out
      have t4 : w1.cell? ⟨0, 9, none⟩ = some (.string ⟨#[]⟩) := by
        obtain ⟨i, hi, _, _, _, _, _, h4⟩ := SH.out w1 J1.out ⟨by decide, by decide⟩
        obtain rfl : i = 1 := by omega
        exact h4
      go_wp2
      go_ret
      exact ⟨by rewrite [← HR.out]; rfl, K0.out.trans J1.out⟩
    · have HR := Lib.hid (show y ++ ((⟨#[115]⟩ : ByteArray) ++ m) = r from hr)
      clear hr hk
      go_enter Tryz.func15, Tryz.ntmps15
      go_wp2_with fail
      rw [← HW.out]
      obtain ⟨c0, c1, c2, c3⟩ := HB.out W0 (Kp.refl _)
      go_wp2_with fail
      refine (C0.out _ (Kp.refl _)).mono ?_
      rintro e w1 ⟨rfl, kk⟩
      have J1 := Lib.hid kk
      clear kk c0 c1 c2 c3
      obtain ⟨c0, c1, c2, c3⟩ := HB.out w1 J1.out
      have t4 : w1.cell? ⟨0, 14, none⟩ = some (.string ⟨#[]⟩) := by
        obtain ⟨i, hi, _, _, _, _, _, h4⟩ := SH.out w1 J1.out ⟨by decide, by decide⟩
        obtain rfl : i = 2 := by omega
        exact h4
      go_wp2
      go_ret
      exact ⟨by rewrite [← HR.out]; rfl, K0.out.trans J1.out⟩
    · have HR := Lib.hid (show y ++ (⟨#[]⟩ : ByteArray) = r from hr)
      clear hr hk
      go_enter Tryz.func15, Tryz.ntmps15
      go_wp2_with fail
      rw [← HW.out]
      obtain ⟨c0, c1, c2, c3⟩ := HB.out W0 (Kp.refl _)
      go_wp2_with fail
      refine (C0.out _ (Kp.refl _)).mono ?_
      rintro e w1 ⟨rfl, kk⟩
      have J1 := Lib.hid kk
      clear kk c0 c1 c2 c3
      obtain ⟨c0, c1, c2, c3⟩ := HB.out w1 J1.out
      have t4 : w1.cell? ⟨0, 19, none⟩ = some (.string ⟨#[]⟩) := by
        obtain ⟨i, hi, _, _, _, _, _, h4⟩ := SH.out w1 J1.out ⟨by decide, by decide⟩
        obtain rfl : i = 3 := by omega
        exact h4
      go_wp2
      go_ret
      exact ⟨by rewrite [← HR.out]; rfl, K0.out.trans J1.out⟩
    · have HR := Lib.hid (show y ++ (⟨#[100]⟩ : ByteArray) = r from hr)
      clear hr hk
      go_enter Tryz.func15, Tryz.ntmps15
      go_wp2_with fail
      rw [← HW.out]
      obtain ⟨c0, c1, c2, c3⟩ := HB.out W0 (Kp.refl _)
      go_wp2_with fail
      refine (C0.out _ (Kp.refl _)).mono ?_
      rintro e w1 ⟨rfl, kk⟩
      have J1 := Lib.hid kk
      clear kk c0 c1 c2 c3
      obtain ⟨c0, c1, c2, c3⟩ := HB.out w1 J1.out
      have t4 : w1.cell? ⟨0, 24, none⟩ = some (.string ⟨#[100]⟩) := by
        obtain ⟨i, hi, _, _, _, _, _, h4⟩ := SH.out w1 J1.out ⟨by decide, by decide⟩
        obtain rfl : i = 4 := by omega
        exact h4
      go_wp2
      go_ret
      exact ⟨by rewrite [← HR.out]; rfl, K0.out.trans J1.out⟩
    · have HR := Lib.hid (show y ++ (⟨#[99]⟩ : ByteArray) = r from hr)
      clear hr hk
      go_enter Tryz.func15, Tryz.ntmps15
      go_wp2_with fail
      rw [← HW.out]
      obtain ⟨c0, c1, c2, c3⟩ := HB.out W0 (Kp.refl _)
      go_wp2_with fail
      refine (C0.out _ (Kp.refl _)).mono ?_
      rintro e w1 ⟨rfl, kk⟩
      have J1 := Lib.hid kk
      clear kk c0 c1 c2 c3
      obtain ⟨c0, c1, c2, c3⟩ := HB.out w1 J1.out
      have t4 : w1.cell? ⟨0, 29, none⟩ = some (.string ⟨#[99]⟩) := by
        obtain ⟨i, hi, _, _, _, _, _, h4⟩ := SH.out w1 J1.out ⟨by decide, by decide⟩
        obtain rfl : i = 5 := by omega
        exact h4
      go_wp2
      go_ret
      exact ⟨by rewrite [← HR.out]; rfl, K0.out.trans J1.out⟩
  · rw [show textP ⟨k, y, m, d⟩ = ⟨#[]⟩ by unfold textP; rw [if_neg (by rw [hs]; decide)]]
    rw [hs] at C0
    clear hsane hs hW k0 hg T
    go_enter Tryz.func15, Tryz.ntmps15
    go_wp2_with fail
    rw [← HW.out]
    obtain ⟨c0, c1, c2, c3⟩ := HB.out W0 (Kp.refl _)
    go_wp2_with fail
    refine (C0.out _ (Kp.refl _)).mono ?_
    rintro e w1 ⟨rfl, kk⟩
    have J1 := Lib.hid kk
    clear kk c0 c1 c2 c3
    obtain ⟨c0, c1, c2, c3⟩ := HB.out w1 J1.out
    go_wp2
    go_ret
    exact ⟨rfl, K0.out.trans J1.out⟩
end Go.Proofs.YtinpglfclbnhlaaGreatDoor

namespace Go.Proofs.YtinpglfclbnhlaaGreatDoor
open Go.RowKit
set_option linter.unusedVariables false
set_option linter.unusedSimpArgs false
theorem cut_head (s : ByteArray) (a : Nat) (h : a ≤ s.size) (wx : World) : (Instr.slice 9 (.string s) none (some (.int .i64 (a : Int))) none).run Tryz.prog wx = .ok (.string (s.extract 0 a)) wx := by
  simp [Instr.slice, run_underlying Tryz.underlying9, go_sem]
  omega
theorem cut_tail (s : ByteArray) (a : Nat) (h : a ≤ s.size) (wx : World) : (Instr.slice 9 (.string s) (some (.int .i64 (a : Int))) none none).run Tryz.prog wx = .ok (.string (s.extract a s.size)) wx := by
  simp [Instr.slice, run_underlying Tryz.underlying9, go_sem]
  omega
abbrev sP0 : Oper := { dst := some 10, op := Go.Op.move (Go.Operand.tmp 0), type := 9, pos := "point.go:139", after := #[], guard := none }
abbrev sP1 : Oper := { dst := some 11, op := Go.Op.move (Go.Operand.tmp 1), type := 3, pos := "point.go:139", after := #[], guard := none }
abbrev sP2 : Oper := { dst := some 12, op := Go.Op.slice 9 (Go.Operand.tmp 10) none (some (Go.Operand.tmp 11)) none, type := 9, pos := "point.go:139", after := #[{ on := 0, ground := Go.Ground.data }, { on := 1, ground := Go.Ground.data }], guard := none }
abbrev sP3 : Oper := { dst := some 13, op := Go.Op.move (Go.Operand.tmp 0), type := 9, pos := "point.go:139", after := #[], guard := none }
abbrev sP4 : Oper := { dst := some 14, op := Go.Op.move (Go.Operand.tmp 1), type := 3, pos := "point.go:139", after := #[], guard := none }
abbrev sP5 : Oper := { dst := some 15, op := Go.Op.slice 9 (Go.Operand.tmp 13) (some (Go.Operand.tmp 14)) none none, type := 9, pos := "point.go:139", after := #[{ on := 3, ground := Go.Ground.data }, { on := 4, ground := Go.Ground.data }], guard := none }
abbrev sP6 : Oper := { dst := some 4, op := Go.Op.assign (Go.Operand.tmp 12), type := 9, pos := "point.go:139", after := #[{ on := 2, ground := Go.Ground.data }, { on := 0, ground := Go.Ground.phase }, { on := 1, ground := Go.Ground.phase }, { on := 2, ground := Go.Ground.phase }, { on := 3, ground := Go.Ground.textOnly Go.Departure.lateStores }, { on := 4, ground := Go.Ground.textOnly Go.Departure.lateStores }, { on := 5, ground := Go.Ground.textOnly Go.Departure.lateStoresUnsure }], guard := none }
abbrev sP7 : Oper := { dst := some 5, op := Go.Op.assign (Go.Operand.tmp 15), type := 9, pos := "point.go:139", after := #[{ on := 5, ground := Go.Ground.data }, { on := 6, ground := Go.Ground.chain }, { on := 0, ground := Go.Ground.phase }, { on := 1, ground := Go.Ground.phase }, { on := 2, ground := Go.Ground.phase }, { on := 3, ground := Go.Ground.phase }, { on := 4, ground := Go.Ground.phase }, { on := 5, ground := Go.Ground.phase }, { on := 6, ground := Go.Ground.phase }], guard := none }
set_option maxHeartbeats 16000000 in
set_option maxRecDepth 100000 in
theorem split_any (s : ByteArray) (n : Nat) (x : Int) (w : World) (hx : x = n) (hn : n ≤ 1000) (hs : s.size ≤ 3000) :
    Calls Tryz.prog 36 #[.string s, .int .i64 x] w fun e w' => e = .returned (.tuple #[.string (s.extract 0 (min n s.size)), .string (s.extract (min n s.size) s.size)]) ∧ Kp w w' := by
  subst hx
  have ha : min n s.size ≤ s.size := by omega
  have hm : min (n : Int) (s.size : Int) = ((min n s.size : Nat) : Int) := by omega
  generalize min n s.size = a at *
  have c1 := fun w => cut_head s a ha w
  have c2 := fun w => cut_tail s a ha w
  have KS := Lib.hid (fun w' (k : Kp w w') => k)
  go_enter Tryz.func36, Tryz.ntmps36
  go_wp2_with fail
  refine wp_region_held_drew (S := fun w' => Kp w w') (by kernel_rfl) ?_ (fun hHeld0 => ?_)
  · (try dsimp only); first | exact Kp.drew _ | exact Kp.refl _
  refine tkW (v := ?_) 0 sP0 rfl (by kernel_rfl) (by kernel_rfl) (by kernel_rfl) (fun _ _ _ h => h) (by rfl) ?_ (by assumption) ?_
  rotate_left
  · intro w hSw; (try dsimp only at hSw); go_simp; (try with_reducible rfl)
  (try simp only [Act.put, sP0, List.setIfInBounds_toArray, List.set_cons_zero, List.set_cons_succ])
  refine tkW (v := ?_) 1 sP1 rfl (by kernel_rfl) (by kernel_rfl) (by kernel_rfl) (fun _ _ _ h => h) (by rfl) ?_ (by assumption) ?_
  rotate_left
  · intro w hSw; (try dsimp only at hSw); go_simp; (try with_reducible rfl)
  (try simp only [Act.put, sP1, List.setIfInBounds_toArray, List.set_cons_zero, List.set_cons_succ])
  refine tkW (v := ?_) 2 sP2 rfl (by kernel_rfl) (by kernel_rfl) (by kernel_rfl) (fun _ _ _ h => h) (by rfl) ?_ (by assumption) ?_
  rotate_left
  · intro w hSw; (try dsimp only at hSw); go_simp; (try with_reducible rfl)
  (try simp only [Act.put, sP2, List.setIfInBounds_toArray, List.set_cons_zero, List.set_cons_succ])
  refine tkW (v := ?_) 3 sP3 rfl (by kernel_rfl) (by kernel_rfl) (by kernel_rfl) (fun _ _ _ h => h) (by rfl) ?_ (by assumption) ?_
  rotate_left
  · intro w hSw; (try dsimp only at hSw); go_simp; (try with_reducible rfl)
  (try simp only [Act.put, sP3, List.setIfInBounds_toArray, List.set_cons_zero, List.set_cons_succ])
  refine tkW (v := ?_) 4 sP4 rfl (by kernel_rfl) (by kernel_rfl) (by kernel_rfl) (fun _ _ _ h => h) (by rfl) ?_ (by assumption) ?_
  rotate_left
  · intro w hSw; (try dsimp only at hSw); go_simp; (try with_reducible rfl)
  (try simp only [Act.put, sP4, List.setIfInBounds_toArray, List.set_cons_zero, List.set_cons_succ])
  refine tkW (v := ?_) 5 sP5 rfl (by kernel_rfl) (by kernel_rfl) (by kernel_rfl) (fun _ _ _ h => h) (by rfl) ?_ (by assumption) ?_
  rotate_left
  · intro w hSw; (try dsimp only at hSw); go_simp; (try with_reducible rfl)
  (try simp only [Act.put, sP5, List.setIfInBounds_toArray, List.set_cons_zero, List.set_cons_succ])
  refine tkW (v := ?_) 6 sP6 rfl (by kernel_rfl) (by kernel_rfl) (by kernel_rfl) (fun _ _ _ h => h) (by rfl) ?_ (by assumption) ?_
  rotate_left
  · intro w hSw; (try dsimp only at hSw); go_simp; (try with_reducible rfl)
  (try simp only [Act.put, sP6, List.setIfInBounds_toArray, List.set_cons_zero, List.set_cons_succ])
  refine tkW (v := ?_) 7 sP7 rfl (by kernel_rfl) (by kernel_rfl) (by kernel_rfl) (fun _ _ _ h => h) (by rfl) ?_ (by assumption) ?_
  rotate_left
  · intro w hSw; (try dsimp only at hSw); go_simp; (try with_reducible rfl)
  (try simp only [Act.put, sP7, List.setIfInBounds_toArray, List.set_cons_zero, List.set_cons_succ])
  refine wpAnyH_done (by kernel_rfl) ?_ _
  go_wp2
  exact bodyPost_ret (results_tmp2 rfl _ _ _) rfl ⟨rfl, Kp.drew _⟩
end Go.Proofs.YtinpglfclbnhlaaGreatDoor

namespace Go.Proofs.YtinpglfclbnhlaaGreatDoor
open Go.RowKit
set_option linter.unusedVariables false
set_option linter.unusedSimpArgs false
def hdS (s : ByteArray) (n : Nat) : ByteArray := s.extract 0 (min n s.size)
def tlS (s : ByteArray) (n : Nat) : ByteArray := s.extract (min n s.size) s.size
theorem tlS_size (s : ByteArray) (n : Nat) : (tlS s n).size ≤ s.size := by unfold tlS; rw [ByteArray.size_extract]; omega
/-- the point that a text's bytes make, of a kind -/
def cutP (k : Int) (s : ByteArray) : PT :=
  if k = 0 then ⟨0, hdS s 4, hdS (tlS (tlS s 4) 1) 2, hdS (tlS (tlS (tlS (tlS s 4) 1) 2) 1) 2⟩
  else if k = 1 then ⟨1, hdS s 4, hdS (tlS (tlS s 4) 1) 2, ⟨#[]⟩⟩
  else if k = 2 then ⟨2, hdS s 4, hdS (tlS (tlS s 4) 1) 1, ⟨#[]⟩⟩
  else if k = 3 then ⟨3, hdS s 4, ⟨#[]⟩, ⟨#[]⟩⟩
  else if k = 4 then ⟨4, hdS s 3, ⟨#[]⟩, ⟨#[]⟩⟩
  else ⟨5, hdS s 2, ⟨#[]⟩, ⟨#[]⟩⟩
/-- what stands in the three blocks of a cut -/
structure CutW (w0 : World) (fy fp fd fn : Int) (fe : ByteArray) (k : Int) (y m d : ByteArray) (w : World) : Prop where
  kp : Kp w0 w
  b0 : w.heap[w0.heap.size]? = some (.cells #[.int .i64 0, .string ⟨#[]⟩, .string ⟨#[]⟩, .string ⟨#[]⟩] 23 (0, 0))
  b1 : w.heap[w0.heap.size + 1]? = some (.cells #[.int .i64 fy, .int .i64 fp, .int .i64 fd, .int .i64 fn, .string fe] 39 (0, 0))
  b2 : w.heap[w0.heap.size + 1 + 1]? = some (.cells #[.int .i64 k, .string y, .string m, .string d] 23 (0, 0))
section
variable {w0 w w' : World} {fy fp fd fn k : Int} {fe y m d : ByteArray}
theorem CutW.up (h : CutW w0 fy fp fd fn fe k y m d w) (q : Kp w w') : CutW w0 fy fp fd fn fe k y m d w' := ⟨h.kp.trans q, heap_block q h.b0, heap_block q h.b1, heap_block q h.b2⟩
theorem CutW.setY (h : CutW w0 fy fp fd fn fe k y m d w) (x : ByteArray) : CutW w0 fy fp fd fn fe k x m d (w.setCell ⟨w0.heap.size + 1 + 1, 1, none⟩ (.string x)) :=
  ⟨Below.setCell h.kp (p := ⟨w0.heap.size + 1 + 1, 1, none⟩) (by simp only; omega) _, (ps_other (by omega) _ _).trans h.b0, (ps_other (by omega) _ _).trans h.b1, ps_heap h.b2 1 _⟩
theorem CutW.setM (h : CutW w0 fy fp fd fn fe k y m d w) (x : ByteArray) : CutW w0 fy fp fd fn fe k y x d (w.setCell ⟨w0.heap.size + 1 + 1, 2, none⟩ (.string x)) :=
  ⟨Below.setCell h.kp (p := ⟨w0.heap.size + 1 + 1, 2, none⟩) (by simp only; omega) _, (ps_other (by omega) _ _).trans h.b0, (ps_other (by omega) _ _).trans h.b1, ps_heap h.b2 2 _⟩
theorem CutW.setD (h : CutW w0 fy fp fd fn fe k y m d w) (x : ByteArray) : CutW w0 fy fp fd fn fe k y m x (w.setCell ⟨w0.heap.size + 1 + 1, 3, none⟩ (.string x)) :=
  ⟨Below.setCell h.kp (p := ⟨w0.heap.size + 1 + 1, 3, none⟩) (by simp only; omega) _, (ps_other (by omega) _ _).trans h.b0, (ps_other (by omega) _ _).trans h.b1, ps_heap h.b2 3 _⟩
theorem CutW.result (h : CutW w0 fy fp fd fn fe k y m d w) : (w.cell? ⟨w0.heap.size, 0, none⟩ = some (.int .i64 0) ∧ w.cell? ⟨w0.heap.size, 1, none⟩ = some (.string ⟨#[]⟩) ∧ w.cell? ⟨w0.heap.size, 2, none⟩ = some (.string ⟨#[]⟩) ∧ w.cell? ⟨w0.heap.size, 3, none⟩ = some (.string ⟨#[]⟩)) ∧
    (w.frozen? ⟨w0.heap.size, 0, none⟩ = false ∧ w.frozen? ⟨w0.heap.size, 1, none⟩ = false ∧ w.frozen? ⟨w0.heap.size, 2, none⟩ = false ∧ w.frozen? ⟨w0.heap.size, 3, none⟩ = false) ∧
    ((w.setCell ⟨w0.heap.size, 0, none⟩ (.int .i64 k)).cell? ⟨w0.heap.size, 0, none⟩ = some (.int .i64 k) ∧
    ((w.setCell ⟨w0.heap.size, 0, none⟩ (.int .i64 k)).setCell ⟨w0.heap.size, 1, none⟩ (.string y)).cell? ⟨w0.heap.size, 1, none⟩ = some (.string y) ∧
    (((w.setCell ⟨w0.heap.size, 0, none⟩ (.int .i64 k)).setCell ⟨w0.heap.size, 1, none⟩ (.string y)).setCell ⟨w0.heap.size, 2, none⟩ (.string m)).cell? ⟨w0.heap.size, 2, none⟩ = some (.string m) ∧
    ((((w.setCell ⟨w0.heap.size, 0, none⟩ (.int .i64 k)).setCell ⟨w0.heap.size, 1, none⟩ (.string y)).setCell ⟨w0.heap.size, 2, none⟩ (.string m)).setCell ⟨w0.heap.size, 3, none⟩ (.string d)).cell? ⟨w0.heap.size, 3, none⟩ = some (.string d)) := by
  obtain ⟨_, h0, _, _⟩ := h
  have q0 := ps_heap h0 0 (.int .i64 k)
  have q1 := ps_heap q0 1 (.string y)
  have q2 := ps_heap q1 2 (.string m)
  have q3 := ps_heap q2 3 (.string d)
  refine ⟨⟨?_, ?_, ?_, ?_⟩, ⟨?_, ?_, ?_, ?_⟩, ?_, ?_, ?_, ?_⟩
  all_goals first | (simp [World.cell?, h0]; done) | (simp [World.frozen?, h0]; done) | (simp [World.cell?, q0]; done) | (simp [World.cell?, q1]; done) | (simp [World.cell?, q2]; done) | (simp [World.cell?, q3]; done)
theorem CutW.done (h : CutW w0 fy fp fd fn fe k y m d w) : Kp w0 ((((w.setCell ⟨w0.heap.size, 0, none⟩ (.int .i64 k)).setCell ⟨w0.heap.size, 1, none⟩ (.string y)).setCell ⟨w0.heap.size, 2, none⟩ (.string m)).setCell ⟨w0.heap.size, 3, none⟩ (.string d)) :=
  Below.setCell (Below.setCell (Below.setCell (Below.setCell h.kp (p := ⟨w0.heap.size, 0, none⟩) (Nat.le_refl _) _) (p := ⟨w0.heap.size, 1, none⟩) (Nat.le_refl _) _) (p := ⟨w0.heap.size, 2, none⟩) (Nat.le_refl _) _) (p := ⟨w0.heap.size, 3, none⟩) (Nat.le_refl _) _
/-- what is read of them, and may be written -/
theorem CutW.cells (h : CutW w0 fy fp fd fn fe k y m d w) : (w.cell? ⟨w0.heap.size + 1, 0, none⟩ = some (.int .i64 fy) ∧ w.cell? ⟨w0.heap.size + 1, 1, none⟩ = some (.int .i64 fp) ∧ w.cell? ⟨w0.heap.size + 1, 2, none⟩ = some (.int .i64 fd)) ∧
    (w.cell? ⟨w0.heap.size + 1 + 1, 0, none⟩ = some (.int .i64 k) ∧ w.cell? ⟨w0.heap.size + 1 + 1, 1, none⟩ = some (.string y) ∧ w.cell? ⟨w0.heap.size + 1 + 1, 2, none⟩ = some (.string m) ∧ w.cell? ⟨w0.heap.size + 1 + 1, 3, none⟩ = some (.string d)) ∧
    (w.frozen? ⟨w0.heap.size + 1 + 1, 1, none⟩ = false ∧ w.frozen? ⟨w0.heap.size + 1 + 1, 2, none⟩ = false ∧ w.frozen? ⟨w0.heap.size + 1 + 1, 3, none⟩ = false) := by
  obtain ⟨_, _, h1, h2⟩ := h
  refine ⟨⟨?_, ?_, ?_⟩, ⟨?_, ?_, ?_, ?_⟩, ?_, ?_, ?_⟩
  all_goals first | (simp [World.cell?, h1]; done) | (simp [World.cell?, h2]; done) | (simp [World.frozen?, h2]; done)
end
set_option maxHeartbeats 16000000 in
set_option maxRecDepth 100000 in
theorem cut_any0 (s : ByteArray) (w : World) (hs : s.size ≤ 3000) (T : TabSH w) : Calls Tryz.prog 19 #[.int .i64 0, .string s] w fun e w' => e = .returned (ptV (cutP 0 s)) ∧ Kp w w' := by
  have zs : s.size ≤ 3000 := hs
  obtain ⟨h1, eh1⟩ : ∃ z, z = hdS s 4 := ⟨_, rfl⟩
  obtain ⟨s1, es1⟩ : ∃ z, z = tlS s 4 := ⟨_, rfl⟩
  have zs1 : s1.size ≤ 3000 := by rw [es1]; exact Nat.le_trans (tlS_size _ _) zs
  have zs1 := zs1
  clear zs1
  have S1 := Lib.hid (fun w => (by rw [eh1, es1]; exact split_any s 4 4 w rfl (by decide) zs : Calls Tryz.prog 36 #[.string s, .int .i64 4] w fun e w' => e = .returned (.tuple #[.string h1, .string s1]) ∧ Kp w w'))
  obtain ⟨h2, eh2⟩ : ∃ z, z = hdS s1 1 := ⟨_, rfl⟩
  obtain ⟨s2, es2⟩ : ∃ z, z = tlS s1 1 := ⟨_, rfl⟩
  have zs12 : s2.size ≤ 3000 := by rw [es2]; exact Nat.le_trans (tlS_size _ _) zs1
  have zs2 := zs12
  clear zs12
  have S2 := Lib.hid (fun w => (by rw [eh2, es2]; exact split_any s1 1 1 w rfl (by decide) zs1 : Calls Tryz.prog 36 #[.string s1, .int .i64 1] w fun e w' => e = .returned (.tuple #[.string h2, .string s2]) ∧ Kp w w'))
  obtain ⟨h3, eh3⟩ : ∃ z, z = hdS s2 2 := ⟨_, rfl⟩
  obtain ⟨s3, es3⟩ : ∃ z, z = tlS s2 2 := ⟨_, rfl⟩
  have zs23 : s3.size ≤ 3000 := by rw [es3]; exact Nat.le_trans (tlS_size _ _) zs2
  have zs3 := zs23
  clear zs23
  have S3 := Lib.hid (fun w => (by rw [eh3, es3]; exact split_any s2 2 2 w rfl (by decide) zs2 : Calls Tryz.prog 36 #[.string s2, .int .i64 2] w fun e w' => e = .returned (.tuple #[.string h3, .string s3]) ∧ Kp w w'))
  obtain ⟨h4, eh4⟩ : ∃ z, z = hdS s3 1 := ⟨_, rfl⟩
  obtain ⟨s4, es4⟩ : ∃ z, z = tlS s3 1 := ⟨_, rfl⟩
  have zs34 : s4.size ≤ 3000 := by rw [es4]; exact Nat.le_trans (tlS_size _ _) zs3
  have zs4 := zs34
  clear zs34
  have S4 := Lib.hid (fun w => (by rw [eh4, es4]; exact split_any s3 1 1 w rfl (by decide) zs3 : Calls Tryz.prog 36 #[.string s3, .int .i64 1] w fun e w' => e = .returned (.tuple #[.string h4, .string s4]) ∧ Kp w w'))
  obtain ⟨h5, eh5⟩ : ∃ z, z = hdS s4 2 := ⟨_, rfl⟩
  obtain ⟨s5, es5⟩ : ∃ z, z = tlS s4 2 := ⟨_, rfl⟩
  have zs45 : s5.size ≤ 3000 := by rw [es5]; exact Nat.le_trans (tlS_size _ _) zs4
  have zs5 := zs45
  clear zs45
  have S5 := Lib.hid (fun w => (by rw [eh5, es5]; exact split_any s4 2 2 w rfl (by decide) zs4 : Calls Tryz.prog 36 #[.string s4, .int .i64 2] w fun e w' => e = .returned (.tuple #[.string h5, .string s5]) ∧ Kp w w'))
  have RV : ptV (cutP 0 s) = .agg #[.int .i64 0, .string h1, .string h3, .string h5] := by
    subst eh1 es1 eh2 es2 eh3 es3 eh4 es4 eh5 es5
    rfl
  rw [RV]
  clear RV eh1 es1 eh2 es2 eh3 es3 eh4 es4 eh5 es5 zs zs1 zs2 zs3 zs4 zs5 hs
  obtain ⟨V, hV⟩ : ∃ x, x = ((w.alloc (.cells #[.int .i64 0, .string ⟨#[]⟩, .string ⟨#[]⟩, .string ⟨#[]⟩] 23)).alloc (.cells #[.int .i64 4, .int .i64 2, .int .i64 2, .int .i64 12, .string ⟨#[]⟩] 39)).alloc (.cells #[.int .i64 0, .string ⟨#[]⟩, .string ⟨#[]⟩, .string ⟨#[]⟩] 23) := ⟨_, rfl⟩
  have C0 := Lib.hid (show CutW w 4 2 2 12 ⟨#[]⟩ 0 ⟨#[]⟩ ⟨#[]⟩ ⟨#[]⟩ V by
    rw [hV]
    exact ⟨((Kp.alloc _ _).trans (Kp.alloc _ _)).trans (Kp.alloc _ _), heap_block (Kp.alloc _ _) (heap_block (Kp.alloc _ _) (heap_at _ _ _ rfl)), heap_block (Kp.alloc _ _) (heap_at _ _ _ (by simp)), heap_at _ _ _ (by simp)⟩)
  have HV := Lib.hid hV
  have t0 : w.cell? ⟨0, 0, none⟩ = some (.int .i64 4) := T.cell 0 (by omega)
  have t1 : w.cell? ⟨0, 1, none⟩ = some (.int .i64 2) := T.cell 1 (by omega)
  have t2 : w.cell? ⟨0, 2, none⟩ = some (.int .i64 2) := T.cell 2 (by omega)
  have t3 : w.cell? ⟨0, 3, none⟩ = some (.int .i64 12) := T.cell 3 (by omega)
  have t4 : w.cell? ⟨0, 4, none⟩ = some (.string ⟨#[]⟩) := T.cell 4 (by omega)
  have tl := World.block_lt_of_cell? _ _ t0
  have tn : ¬ 0 = w.heap.size := by simp only at tl; omega
  clear hV T
  go_enter Tryz.func19, Tryz.ntmps19
  go_wp2_with fail
  rw [← HV.out]
  clear t0 t1 t2 t3 t4
  obtain ⟨⟨a0, a1, a2⟩, ⟨p0, p1, p2, p3⟩, f1, f2, f3⟩ := C0.out.cells
  refine (S1.out _).mono ?_
  rintro e w1 ⟨rfl, kk⟩
  have C1 := Lib.hid (C0.out.up kk)
  clear kk a0 a1 a2 p0 p1 p2 p3 f1 f2 f3
  obtain ⟨⟨a0, a1, a2⟩, ⟨p0, p1, p2, p3⟩, f1, f2, f3⟩ := C1.out.cells
  have D1 := Lib.hid (C1.out.setY h1)
  go_wp2_with fail
  refine (S2.out _).mono ?_
  rintro e w2 ⟨rfl, kk⟩
  have C2 := Lib.hid (D1.out.up kk)
  clear kk a0 a1 a2 p0 p1 p2 p3 f1 f2 f3
  obtain ⟨⟨a0, a1, a2⟩, ⟨p0, p1, p2, p3⟩, f1, f2, f3⟩ := C2.out.cells
  go_wp2_with fail
  refine (S3.out _).mono ?_
  rintro e w3 ⟨rfl, kk⟩
  have C3 := Lib.hid (C2.out.up kk)
  clear kk a0 a1 a2 p0 p1 p2 p3 f1 f2 f3
  obtain ⟨⟨a0, a1, a2⟩, ⟨p0, p1, p2, p3⟩, f1, f2, f3⟩ := C3.out.cells
  have D3 := Lib.hid (C3.out.setM h3)
  go_wp2_with fail
  refine (S4.out _).mono ?_
  rintro e w4 ⟨rfl, kk⟩
  have C4 := Lib.hid (D3.out.up kk)
  clear kk a0 a1 a2 p0 p1 p2 p3 f1 f2 f3
  obtain ⟨⟨a0, a1, a2⟩, ⟨p0, p1, p2, p3⟩, f1, f2, f3⟩ := C4.out.cells
  go_wp2_with fail
  refine (S5.out _).mono ?_
  rintro e w5 ⟨rfl, kk⟩
  have C5 := Lib.hid (C4.out.up kk)
  clear kk a0 a1 a2 p0 p1 p2 p3 f1 f2 f3
  obtain ⟨⟨a0, a1, a2⟩, ⟨p0, p1, p2, p3⟩, f1, f2, f3⟩ := C5.out.cells
  have D5 := Lib.hid (C5.out.setD h5)
  obtain ⟨⟨e0, e1, e2, e3⟩, ⟨g0, g1, g2, g3⟩, x0, x1, x2, x3⟩ := D5.out.result
  have KE := Lib.hid (D5.out.done)
  go_wp2
  exact bodyPost_ret (v := .agg #[.int .i64 0, .string h1, .string h3, .string h5]) (by simp [results, Tryz.results19, go_sem, x0, x1, x2, x3]) rfl ⟨rfl, KE.out⟩
set_option maxHeartbeats 16000000 in
set_option maxRecDepth 100000 in
theorem cut_any1 (s : ByteArray) (w : World) (hs : s.size ≤ 3000) (T : TabSH w) : Calls Tryz.prog 19 #[.int .i64 1, .string s] w fun e w' => e = .returned (ptV (cutP 1 s)) ∧ Kp w w' := by
  have zs : s.size ≤ 3000 := hs
  obtain ⟨h1, eh1⟩ : ∃ z, z = hdS s 4 := ⟨_, rfl⟩
  obtain ⟨s1, es1⟩ : ∃ z, z = tlS s 4 := ⟨_, rfl⟩
  have zs1 : s1.size ≤ 3000 := by rw [es1]; exact Nat.le_trans (tlS_size _ _) zs
  have zs1 := zs1
  clear zs1
  have S1 := Lib.hid (fun w => (by rw [eh1, es1]; exact split_any s 4 4 w rfl (by decide) zs : Calls Tryz.prog 36 #[.string s, .int .i64 4] w fun e w' => e = .returned (.tuple #[.string h1, .string s1]) ∧ Kp w w'))
  obtain ⟨h2, eh2⟩ : ∃ z, z = hdS s1 1 := ⟨_, rfl⟩
  obtain ⟨s2, es2⟩ : ∃ z, z = tlS s1 1 := ⟨_, rfl⟩
  have zs12 : s2.size ≤ 3000 := by rw [es2]; exact Nat.le_trans (tlS_size _ _) zs1
  have zs2 := zs12
  clear zs12
  have S2 := Lib.hid (fun w => (by rw [eh2, es2]; exact split_any s1 1 1 w rfl (by decide) zs1 : Calls Tryz.prog 36 #[.string s1, .int .i64 1] w fun e w' => e = .returned (.tuple #[.string h2, .string s2]) ∧ Kp w w'))
  obtain ⟨h3, eh3⟩ : ∃ z, z = hdS s2 2 := ⟨_, rfl⟩
  obtain ⟨s3, es3⟩ : ∃ z, z = tlS s2 2 := ⟨_, rfl⟩
  have zs23 : s3.size ≤ 3000 := by rw [es3]; exact Nat.le_trans (tlS_size _ _) zs2
  have zs3 := zs23
  clear zs23
  have S3 := Lib.hid (fun w => (by rw [eh3, es3]; exact split_any s2 2 2 w rfl (by decide) zs2 : Calls Tryz.prog 36 #[.string s2, .int .i64 2] w fun e w' => e = .returned (.tuple #[.string h3, .string s3]) ∧ Kp w w'))
  have RV : ptV (cutP 1 s) = .agg #[.int .i64 1, .string h1, .string h3, .string ⟨#[]⟩] := by
    subst eh1 es1 eh2 es2 eh3 es3
    rfl
  rw [RV]
  clear RV eh1 es1 eh2 es2 eh3 es3 zs zs1 zs2 zs3 hs
  obtain ⟨V, hV⟩ : ∃ x, x = ((w.alloc (.cells #[.int .i64 0, .string ⟨#[]⟩, .string ⟨#[]⟩, .string ⟨#[]⟩] 23)).alloc (.cells #[.int .i64 4, .int .i64 2, .int .i64 0, .int .i64 12, .string ⟨#[]⟩] 39)).alloc (.cells #[.int .i64 1, .string ⟨#[]⟩, .string ⟨#[]⟩, .string ⟨#[]⟩] 23) := ⟨_, rfl⟩
  have C0 := Lib.hid (show CutW w 4 2 0 12 ⟨#[]⟩ 1 ⟨#[]⟩ ⟨#[]⟩ ⟨#[]⟩ V by
    rw [hV]
    exact ⟨((Kp.alloc _ _).trans (Kp.alloc _ _)).trans (Kp.alloc _ _), heap_block (Kp.alloc _ _) (heap_block (Kp.alloc _ _) (heap_at _ _ _ rfl)), heap_block (Kp.alloc _ _) (heap_at _ _ _ (by simp)), heap_at _ _ _ (by simp)⟩)
  have HV := Lib.hid hV
  have t0 : w.cell? ⟨0, 5, none⟩ = some (.int .i64 4) := T.cell 5 (by omega)
  have t1 : w.cell? ⟨0, 6, none⟩ = some (.int .i64 2) := T.cell 6 (by omega)
  have t2 : w.cell? ⟨0, 7, none⟩ = some (.int .i64 0) := T.cell 7 (by omega)
  have t3 : w.cell? ⟨0, 8, none⟩ = some (.int .i64 12) := T.cell 8 (by omega)
  have t4 : w.cell? ⟨0, 9, none⟩ = some (.string ⟨#[]⟩) := T.cell 9 (by omega)
  have tl := World.block_lt_of_cell? _ _ t0
  have tn : ¬ 0 = w.heap.size := by simp only at tl; omega
  clear hV T
  go_enter Tryz.func19, Tryz.ntmps19
  go_wp2_with fail
  rw [← HV.out]
  clear t0 t1 t2 t3 t4
  obtain ⟨⟨a0, a1, a2⟩, ⟨p0, p1, p2, p3⟩, f1, f2, f3⟩ := C0.out.cells
  refine (S1.out _).mono ?_
  rintro e w1 ⟨rfl, kk⟩
  have C1 := Lib.hid (C0.out.up kk)
  clear kk a0 a1 a2 p0 p1 p2 p3 f1 f2 f3
  obtain ⟨⟨a0, a1, a2⟩, ⟨p0, p1, p2, p3⟩, f1, f2, f3⟩ := C1.out.cells
  have D1 := Lib.hid (C1.out.setY h1)
  go_wp2_with fail
  refine (S2.out _).mono ?_
  rintro e w2 ⟨rfl, kk⟩
  have C2 := Lib.hid (D1.out.up kk)
  clear kk a0 a1 a2 p0 p1 p2 p3 f1 f2 f3
  obtain ⟨⟨a0, a1, a2⟩, ⟨p0, p1, p2, p3⟩, f1, f2, f3⟩ := C2.out.cells
  go_wp2_with fail
  refine (S3.out _).mono ?_
  rintro e w3 ⟨rfl, kk⟩
  have C3 := Lib.hid (C2.out.up kk)
  clear kk a0 a1 a2 p0 p1 p2 p3 f1 f2 f3
  obtain ⟨⟨a0, a1, a2⟩, ⟨p0, p1, p2, p3⟩, f1, f2, f3⟩ := C3.out.cells
  have D3 := Lib.hid (C3.out.setM h3)
  obtain ⟨⟨e0, e1, e2, e3⟩, ⟨g0, g1, g2, g3⟩, x0, x1, x2, x3⟩ := D3.out.result
  have KE := Lib.hid (D3.out.done)
  go_wp2
  exact bodyPost_ret (v := .agg #[.int .i64 1, .string h1, .string h3, .string ⟨#[]⟩]) (by simp [results, Tryz.results19, go_sem, x0, x1, x2, x3]) rfl ⟨rfl, KE.out⟩
set_option maxHeartbeats 16000000 in
set_option maxRecDepth 100000 in
theorem cut_any2 (s : ByteArray) (w : World) (hs : s.size ≤ 3000) (T : TabSH w) : Calls Tryz.prog 19 #[.int .i64 2, .string s] w fun e w' => e = .returned (ptV (cutP 2 s)) ∧ Kp w w' := by
  have zs : s.size ≤ 3000 := hs
  obtain ⟨h1, eh1⟩ : ∃ z, z = hdS s 4 := ⟨_, rfl⟩
  obtain ⟨s1, es1⟩ : ∃ z, z = tlS s 4 := ⟨_, rfl⟩
  have zs1 : s1.size ≤ 3000 := by rw [es1]; exact Nat.le_trans (tlS_size _ _) zs
  have zs1 := zs1
  clear zs1
  have S1 := Lib.hid (fun w => (by rw [eh1, es1]; exact split_any s 4 4 w rfl (by decide) zs : Calls Tryz.prog 36 #[.string s, .int .i64 4] w fun e w' => e = .returned (.tuple #[.string h1, .string s1]) ∧ Kp w w'))
  obtain ⟨h2, eh2⟩ : ∃ z, z = hdS s1 1 := ⟨_, rfl⟩
  obtain ⟨s2, es2⟩ : ∃ z, z = tlS s1 1 := ⟨_, rfl⟩
  have zs12 : s2.size ≤ 3000 := by rw [es2]; exact Nat.le_trans (tlS_size _ _) zs1
  have zs2 := zs12
  clear zs12
  have S2 := Lib.hid (fun w => (by rw [eh2, es2]; exact split_any s1 1 1 w rfl (by decide) zs1 : Calls Tryz.prog 36 #[.string s1, .int .i64 1] w fun e w' => e = .returned (.tuple #[.string h2, .string s2]) ∧ Kp w w'))
  obtain ⟨h3, eh3⟩ : ∃ z, z = hdS s2 1 := ⟨_, rfl⟩
  obtain ⟨s3, es3⟩ : ∃ z, z = tlS s2 1 := ⟨_, rfl⟩
  have zs23 : s3.size ≤ 3000 := by rw [es3]; exact Nat.le_trans (tlS_size _ _) zs2
  have zs3 := zs23
  clear zs23
  have S3 := Lib.hid (fun w => (by rw [eh3, es3]; exact split_any s2 1 1 w rfl (by decide) zs2 : Calls Tryz.prog 36 #[.string s2, .int .i64 1] w fun e w' => e = .returned (.tuple #[.string h3, .string s3]) ∧ Kp w w'))
  have RV : ptV (cutP 2 s) = .agg #[.int .i64 2, .string h1, .string h3, .string ⟨#[]⟩] := by
    subst eh1 es1 eh2 es2 eh3 es3
    rfl
  rw [RV]
  clear RV eh1 es1 eh2 es2 eh3 es3 zs zs1 zs2 zs3 hs
  obtain ⟨V, hV⟩ : ∃ x, x = ((w.alloc (.cells #[.int .i64 0, .string ⟨#[]⟩, .string ⟨#[]⟩, .string ⟨#[]⟩] 23)).alloc (.cells #[.int .i64 4, .int .i64 1, .int .i64 0, .int .i64 4, .string ⟨#[]⟩] 39)).alloc (.cells #[.int .i64 2, .string ⟨#[]⟩, .string ⟨#[]⟩, .string ⟨#[]⟩] 23) := ⟨_, rfl⟩
  have C0 := Lib.hid (show CutW w 4 1 0 4 ⟨#[]⟩ 2 ⟨#[]⟩ ⟨#[]⟩ ⟨#[]⟩ V by
    rw [hV]
    exact ⟨((Kp.alloc _ _).trans (Kp.alloc _ _)).trans (Kp.alloc _ _), heap_block (Kp.alloc _ _) (heap_block (Kp.alloc _ _) (heap_at _ _ _ rfl)), heap_block (Kp.alloc _ _) (heap_at _ _ _ (by simp)), heap_at _ _ _ (by simp)⟩)
  have HV := Lib.hid hV
  have t0 : w.cell? ⟨0, 10, none⟩ = some (.int .i64 4) := T.cell 10 (by omega)
  have t1 : w.cell? ⟨0, 11, none⟩ = some (.int .i64 1) := T.cell 11 (by omega)
  have t2 : w.cell? ⟨0, 12, none⟩ = some (.int .i64 0) := T.cell 12 (by omega)
  have t3 : w.cell? ⟨0, 13, none⟩ = some (.int .i64 4) := T.cell 13 (by omega)
  have t4 : w.cell? ⟨0, 14, none⟩ = some (.string ⟨#[]⟩) := T.cell 14 (by omega)
  have tl := World.block_lt_of_cell? _ _ t0
  have tn : ¬ 0 = w.heap.size := by simp only at tl; omega
  clear hV T
  go_enter Tryz.func19, Tryz.ntmps19
  go_wp2_with fail
  rw [← HV.out]
  clear t0 t1 t2 t3 t4
  obtain ⟨⟨a0, a1, a2⟩, ⟨p0, p1, p2, p3⟩, f1, f2, f3⟩ := C0.out.cells
  refine (S1.out _).mono ?_
  rintro e w1 ⟨rfl, kk⟩
  have C1 := Lib.hid (C0.out.up kk)
  clear kk a0 a1 a2 p0 p1 p2 p3 f1 f2 f3
  obtain ⟨⟨a0, a1, a2⟩, ⟨p0, p1, p2, p3⟩, f1, f2, f3⟩ := C1.out.cells
  have D1 := Lib.hid (C1.out.setY h1)
  go_wp2_with fail
  refine (S2.out _).mono ?_
  rintro e w2 ⟨rfl, kk⟩
  have C2 := Lib.hid (D1.out.up kk)
  clear kk a0 a1 a2 p0 p1 p2 p3 f1 f2 f3
  obtain ⟨⟨a0, a1, a2⟩, ⟨p0, p1, p2, p3⟩, f1, f2, f3⟩ := C2.out.cells
  go_wp2_with fail
  refine (S3.out _).mono ?_
  rintro e w3 ⟨rfl, kk⟩
  have C3 := Lib.hid (C2.out.up kk)
  clear kk a0 a1 a2 p0 p1 p2 p3 f1 f2 f3
  obtain ⟨⟨a0, a1, a2⟩, ⟨p0, p1, p2, p3⟩, f1, f2, f3⟩ := C3.out.cells
  have D3 := Lib.hid (C3.out.setM h3)
  obtain ⟨⟨e0, e1, e2, e3⟩, ⟨g0, g1, g2, g3⟩, x0, x1, x2, x3⟩ := D3.out.result
  have KE := Lib.hid (D3.out.done)
  go_wp2
  exact bodyPost_ret (v := .agg #[.int .i64 2, .string h1, .string h3, .string ⟨#[]⟩]) (by simp [results, Tryz.results19, go_sem, x0, x1, x2, x3]) rfl ⟨rfl, KE.out⟩
set_option maxHeartbeats 16000000 in
set_option maxRecDepth 100000 in
theorem cut_any3 (s : ByteArray) (w : World) (hs : s.size ≤ 3000) (T : TabSH w) : Calls Tryz.prog 19 #[.int .i64 3, .string s] w fun e w' => e = .returned (ptV (cutP 3 s)) ∧ Kp w w' := by
  have zs : s.size ≤ 3000 := hs
  obtain ⟨h1, eh1⟩ : ∃ z, z = hdS s 4 := ⟨_, rfl⟩
  obtain ⟨s1, es1⟩ : ∃ z, z = tlS s 4 := ⟨_, rfl⟩
  have zs1 : s1.size ≤ 3000 := by rw [es1]; exact Nat.le_trans (tlS_size _ _) zs
  have zs1 := zs1
  clear zs1
  have S1 := Lib.hid (fun w => (by rw [eh1, es1]; exact split_any s 4 4 w rfl (by decide) zs : Calls Tryz.prog 36 #[.string s, .int .i64 4] w fun e w' => e = .returned (.tuple #[.string h1, .string s1]) ∧ Kp w w'))
  have RV : ptV (cutP 3 s) = .agg #[.int .i64 3, .string h1, .string ⟨#[]⟩, .string ⟨#[]⟩] := by
    subst eh1 es1
    rfl
  rw [RV]
  clear RV eh1 es1 zs zs1 hs
  obtain ⟨V, hV⟩ : ∃ x, x = ((w.alloc (.cells #[.int .i64 0, .string ⟨#[]⟩, .string ⟨#[]⟩, .string ⟨#[]⟩] 23)).alloc (.cells #[.int .i64 4, .int .i64 0, .int .i64 0, .int .i64 0, .string ⟨#[]⟩] 39)).alloc (.cells #[.int .i64 3, .string ⟨#[]⟩, .string ⟨#[]⟩, .string ⟨#[]⟩] 23) := ⟨_, rfl⟩
  have C0 := Lib.hid (show CutW w 4 0 0 0 ⟨#[]⟩ 3 ⟨#[]⟩ ⟨#[]⟩ ⟨#[]⟩ V by
    rw [hV]
    exact ⟨((Kp.alloc _ _).trans (Kp.alloc _ _)).trans (Kp.alloc _ _), heap_block (Kp.alloc _ _) (heap_block (Kp.alloc _ _) (heap_at _ _ _ rfl)), heap_block (Kp.alloc _ _) (heap_at _ _ _ (by simp)), heap_at _ _ _ (by simp)⟩)
  have HV := Lib.hid hV
  have t0 : w.cell? ⟨0, 15, none⟩ = some (.int .i64 4) := T.cell 15 (by omega)
  have t1 : w.cell? ⟨0, 16, none⟩ = some (.int .i64 0) := T.cell 16 (by omega)
  have t2 : w.cell? ⟨0, 17, none⟩ = some (.int .i64 0) := T.cell 17 (by omega)
  have t3 : w.cell? ⟨0, 18, none⟩ = some (.int .i64 0) := T.cell 18 (by omega)
  have t4 : w.cell? ⟨0, 19, none⟩ = some (.string ⟨#[]⟩) := T.cell 19 (by omega)
  have tl := World.block_lt_of_cell? _ _ t0
  have tn : ¬ 0 = w.heap.size := by simp only at tl; omega
  clear hV T
  go_enter Tryz.func19, Tryz.ntmps19
  go_wp2_with fail
  rw [← HV.out]
  clear t0 t1 t2 t3 t4
  obtain ⟨⟨a0, a1, a2⟩, ⟨p0, p1, p2, p3⟩, f1, f2, f3⟩ := C0.out.cells
  refine (S1.out _).mono ?_
  rintro e w1 ⟨rfl, kk⟩
  have C1 := Lib.hid (C0.out.up kk)
  clear kk a0 a1 a2 p0 p1 p2 p3 f1 f2 f3
  obtain ⟨⟨a0, a1, a2⟩, ⟨p0, p1, p2, p3⟩, f1, f2, f3⟩ := C1.out.cells
  have D1 := Lib.hid (C1.out.setY h1)
  obtain ⟨⟨e0, e1, e2, e3⟩, ⟨g0, g1, g2, g3⟩, x0, x1, x2, x3⟩ := D1.out.result
  have KE := Lib.hid (D1.out.done)
  go_wp2
  exact bodyPost_ret (v := .agg #[.int .i64 3, .string h1, .string ⟨#[]⟩, .string ⟨#[]⟩]) (by simp [results, Tryz.results19, go_sem, x0, x1, x2, x3]) rfl ⟨rfl, KE.out⟩
set_option maxHeartbeats 16000000 in
set_option maxRecDepth 100000 in
theorem cut_any4 (s : ByteArray) (w : World) (hs : s.size ≤ 3000) (T : TabSH w) : Calls Tryz.prog 19 #[.int .i64 4, .string s] w fun e w' => e = .returned (ptV (cutP 4 s)) ∧ Kp w w' := by
  have zs : s.size ≤ 3000 := hs
  obtain ⟨h1, eh1⟩ : ∃ z, z = hdS s 3 := ⟨_, rfl⟩
  obtain ⟨s1, es1⟩ : ∃ z, z = tlS s 3 := ⟨_, rfl⟩
  have zs1 : s1.size ≤ 3000 := by rw [es1]; exact Nat.le_trans (tlS_size _ _) zs
  have zs1 := zs1
  clear zs1
  have S1 := Lib.hid (fun w => (by rw [eh1, es1]; exact split_any s 3 3 w rfl (by decide) zs : Calls Tryz.prog 36 #[.string s, .int .i64 3] w fun e w' => e = .returned (.tuple #[.string h1, .string s1]) ∧ Kp w w'))
  have RV : ptV (cutP 4 s) = .agg #[.int .i64 4, .string h1, .string ⟨#[]⟩, .string ⟨#[]⟩] := by
    subst eh1 es1
    rfl
  rw [RV]
  clear RV eh1 es1 zs zs1 hs
  obtain ⟨V, hV⟩ : ∃ x, x = ((w.alloc (.cells #[.int .i64 0, .string ⟨#[]⟩, .string ⟨#[]⟩, .string ⟨#[]⟩] 23)).alloc (.cells #[.int .i64 3, .int .i64 0, .int .i64 0, .int .i64 0, .string ⟨#[100]⟩] 39)).alloc (.cells #[.int .i64 4, .string ⟨#[]⟩, .string ⟨#[]⟩, .string ⟨#[]⟩] 23) := ⟨_, rfl⟩
  have C0 := Lib.hid (show CutW w 3 0 0 0 ⟨#[100]⟩ 4 ⟨#[]⟩ ⟨#[]⟩ ⟨#[]⟩ V by
    rw [hV]
    exact ⟨((Kp.alloc _ _).trans (Kp.alloc _ _)).trans (Kp.alloc _ _), heap_block (Kp.alloc _ _) (heap_block (Kp.alloc _ _) (heap_at _ _ _ rfl)), heap_block (Kp.alloc _ _) (heap_at _ _ _ (by simp)), heap_at _ _ _ (by simp)⟩)
  have HV := Lib.hid hV
  have t0 : w.cell? ⟨0, 20, none⟩ = some (.int .i64 3) := T.cell 20 (by omega)
  have t1 : w.cell? ⟨0, 21, none⟩ = some (.int .i64 0) := T.cell 21 (by omega)
  have t2 : w.cell? ⟨0, 22, none⟩ = some (.int .i64 0) := T.cell 22 (by omega)
  have t3 : w.cell? ⟨0, 23, none⟩ = some (.int .i64 0) := T.cell 23 (by omega)
  have t4 : w.cell? ⟨0, 24, none⟩ = some (.string ⟨#[100]⟩) := T.cell 24 (by omega)
  have tl := World.block_lt_of_cell? _ _ t0
  have tn : ¬ 0 = w.heap.size := by simp only at tl; omega
  clear hV T
  go_enter Tryz.func19, Tryz.ntmps19
  go_wp2_with fail
  rw [← HV.out]
  clear t0 t1 t2 t3 t4
  obtain ⟨⟨a0, a1, a2⟩, ⟨p0, p1, p2, p3⟩, f1, f2, f3⟩ := C0.out.cells
  refine (S1.out _).mono ?_
  rintro e w1 ⟨rfl, kk⟩
  have C1 := Lib.hid (C0.out.up kk)
  clear kk a0 a1 a2 p0 p1 p2 p3 f1 f2 f3
  obtain ⟨⟨a0, a1, a2⟩, ⟨p0, p1, p2, p3⟩, f1, f2, f3⟩ := C1.out.cells
  have D1 := Lib.hid (C1.out.setY h1)
  obtain ⟨⟨e0, e1, e2, e3⟩, ⟨g0, g1, g2, g3⟩, x0, x1, x2, x3⟩ := D1.out.result
  have KE := Lib.hid (D1.out.done)
  go_wp2
  exact bodyPost_ret (v := .agg #[.int .i64 4, .string h1, .string ⟨#[]⟩, .string ⟨#[]⟩]) (by simp [results, Tryz.results19, go_sem, x0, x1, x2, x3]) rfl ⟨rfl, KE.out⟩
set_option maxHeartbeats 16000000 in
set_option maxRecDepth 100000 in
theorem cut_any5 (s : ByteArray) (w : World) (hs : s.size ≤ 3000) (T : TabSH w) : Calls Tryz.prog 19 #[.int .i64 5, .string s] w fun e w' => e = .returned (ptV (cutP 5 s)) ∧ Kp w w' := by
  have zs : s.size ≤ 3000 := hs
  obtain ⟨h1, eh1⟩ : ∃ z, z = hdS s 2 := ⟨_, rfl⟩
  obtain ⟨s1, es1⟩ : ∃ z, z = tlS s 2 := ⟨_, rfl⟩
  have zs1 : s1.size ≤ 3000 := by rw [es1]; exact Nat.le_trans (tlS_size _ _) zs
  have zs1 := zs1
  clear zs1
  have S1 := Lib.hid (fun w => (by rw [eh1, es1]; exact split_any s 2 2 w rfl (by decide) zs : Calls Tryz.prog 36 #[.string s, .int .i64 2] w fun e w' => e = .returned (.tuple #[.string h1, .string s1]) ∧ Kp w w'))
  have RV : ptV (cutP 5 s) = .agg #[.int .i64 5, .string h1, .string ⟨#[]⟩, .string ⟨#[]⟩] := by
    subst eh1 es1
    rfl
  rw [RV]
  clear RV eh1 es1 zs zs1 hs
  obtain ⟨V, hV⟩ : ∃ x, x = ((w.alloc (.cells #[.int .i64 0, .string ⟨#[]⟩, .string ⟨#[]⟩, .string ⟨#[]⟩] 23)).alloc (.cells #[.int .i64 2, .int .i64 0, .int .i64 0, .int .i64 0, .string ⟨#[99]⟩] 39)).alloc (.cells #[.int .i64 5, .string ⟨#[]⟩, .string ⟨#[]⟩, .string ⟨#[]⟩] 23) := ⟨_, rfl⟩
  have C0 := Lib.hid (show CutW w 2 0 0 0 ⟨#[99]⟩ 5 ⟨#[]⟩ ⟨#[]⟩ ⟨#[]⟩ V by
    rw [hV]
    exact ⟨((Kp.alloc _ _).trans (Kp.alloc _ _)).trans (Kp.alloc _ _), heap_block (Kp.alloc _ _) (heap_block (Kp.alloc _ _) (heap_at _ _ _ rfl)), heap_block (Kp.alloc _ _) (heap_at _ _ _ (by simp)), heap_at _ _ _ (by simp)⟩)
  have HV := Lib.hid hV
  have t0 : w.cell? ⟨0, 25, none⟩ = some (.int .i64 2) := T.cell 25 (by omega)
  have t1 : w.cell? ⟨0, 26, none⟩ = some (.int .i64 0) := T.cell 26 (by omega)
  have t2 : w.cell? ⟨0, 27, none⟩ = some (.int .i64 0) := T.cell 27 (by omega)
  have t3 : w.cell? ⟨0, 28, none⟩ = some (.int .i64 0) := T.cell 28 (by omega)
  have t4 : w.cell? ⟨0, 29, none⟩ = some (.string ⟨#[99]⟩) := T.cell 29 (by omega)
  have tl := World.block_lt_of_cell? _ _ t0
  have tn : ¬ 0 = w.heap.size := by simp only at tl; omega
  clear hV T
  go_enter Tryz.func19, Tryz.ntmps19
  go_wp2_with fail
  rw [← HV.out]
  clear t0 t1 t2 t3 t4
  obtain ⟨⟨a0, a1, a2⟩, ⟨p0, p1, p2, p3⟩, f1, f2, f3⟩ := C0.out.cells
  refine (S1.out _).mono ?_
  rintro e w1 ⟨rfl, kk⟩
  have C1 := Lib.hid (C0.out.up kk)
  clear kk a0 a1 a2 p0 p1 p2 p3 f1 f2 f3
  obtain ⟨⟨a0, a1, a2⟩, ⟨p0, p1, p2, p3⟩, f1, f2, f3⟩ := C1.out.cells
  have D1 := Lib.hid (C1.out.setY h1)
  obtain ⟨⟨e0, e1, e2, e3⟩, ⟨g0, g1, g2, g3⟩, x0, x1, x2, x3⟩ := D1.out.result
  have KE := Lib.hid (D1.out.done)
  go_wp2
  exact bodyPost_ret (v := .agg #[.int .i64 5, .string h1, .string ⟨#[]⟩, .string ⟨#[]⟩]) (by simp [results, Tryz.results19, go_sem, x0, x1, x2, x3]) rfl ⟨rfl, KE.out⟩
end Go.Proofs.YtinpglfclbnhlaaGreatDoor

namespace Go.Proofs.YtinpglfclbnhlaaGreatDoor
open Go.RowKit
set_option linter.unusedVariables false
set_option linter.unusedSimpArgs false
theorem cutI_any (i : Nat) (hi : i < 6) (s : ByteArray) (w : World) (hs : s.size ≤ 3000) (T : TabSH w) : Calls Tryz.prog 19 #[.int .i64 (i : Int), .string s] w fun e w' => e = .returned (ptV (cutP i s)) ∧ Kp w w' := by
  have : i = 0 ∨ i = 1 ∨ i = 2 ∨ i = 3 ∨ i = 4 ∨ i = 5 := by omega
  rcases this with rfl | rfl | rfl | rfl | rfl | rfl
  · exact cut_any0 s w hs T
  · exact cut_any1 s w hs T
  · exact cut_any2 s w hs T
  · exact cut_any3 s w hs T
  · exact cut_any4 s w hs T
  · exact cut_any5 s w hs T
/-- is a kind's point the text's? -/
def rdB (s : ByteArray) (k : Int) : Bool := saneP (cutP k s) && ((textP (cutP k s)).toList == s.toList)
def rdF (s : ByteArray) : Nat → Nat → PT × Bool
  | 0, _ => (⟨0, ⟨#[]⟩, ⟨#[]⟩, ⟨#[]⟩⟩, false)
  | n + 1, k => if rdB s (k : Nat) = true then (cutP (k : Nat) s, true) else rdF s n (k + 1)
/-- the point of a text -/
def readP (s : ByteArray) : PT × Bool := rdF s 6 0
theorem rdF_yes {s : ByteArray} {k : Nat} (h : k < 6) (g : rdB s (k : Nat) = true) : rdF s (6 - k) k = (cutP (k : Nat) s, true) := by
  rw [show 6 - k = (6 - (k + 1)) + 1 by omega]
  unfold rdF
  rw [if_pos g]
theorem rdF_no {s : ByteArray} {k : Nat} (h : k < 6) (g : rdB s (k : Nat) = false) : rdF s (6 - k) k = rdF s (6 - (k + 1)) (k + 1) := by
  rw [show 6 - k = (6 - (k + 1)) + 1 by omega, rdF, if_neg (by rw [g]; decide)]
theorem res4 {w : World} {b : Nat} {t : TypeId} (h : w.heap[b]? = some (.cells #[.int .i64 0, .string ⟨#[]⟩, .string ⟨#[]⟩, .string ⟨#[]⟩] t (0, 0))) (k : Int) (y m d : ByteArray) : (w.cell? ⟨b, 0, none⟩ = some (.int .i64 0) ∧ w.cell? ⟨b, 1, none⟩ = some (.string ⟨#[]⟩) ∧ w.cell? ⟨b, 2, none⟩ = some (.string ⟨#[]⟩) ∧ w.cell? ⟨b, 3, none⟩ = some (.string ⟨#[]⟩)) ∧
    (w.frozen? ⟨b, 0, none⟩ = false ∧ w.frozen? ⟨b, 1, none⟩ = false ∧ w.frozen? ⟨b, 2, none⟩ = false ∧ w.frozen? ⟨b, 3, none⟩ = false) ∧
    ((w.setCell ⟨b, 0, none⟩ (.int .i64 k)).cell? ⟨b, 0, none⟩ = some (.int .i64 k) ∧
    ((w.setCell ⟨b, 0, none⟩ (.int .i64 k)).setCell ⟨b, 1, none⟩ (.string y)).cell? ⟨b, 1, none⟩ = some (.string y) ∧
    (((w.setCell ⟨b, 0, none⟩ (.int .i64 k)).setCell ⟨b, 1, none⟩ (.string y)).setCell ⟨b, 2, none⟩ (.string m)).cell? ⟨b, 2, none⟩ = some (.string m) ∧
    ((((w.setCell ⟨b, 0, none⟩ (.int .i64 k)).setCell ⟨b, 1, none⟩ (.string y)).setCell ⟨b, 2, none⟩ (.string m)).setCell ⟨b, 3, none⟩ (.string d)).cell? ⟨b, 3, none⟩ = some (.string d)) := by
  have q0 := ps_heap h 0 (.int .i64 k)
  have q1 := ps_heap q0 1 (.string y)
  have q2 := ps_heap q1 2 (.string m)
  have q3 := ps_heap q2 3 (.string d)
  refine ⟨⟨?_, ?_, ?_, ?_⟩, ⟨?_, ?_, ?_, ?_⟩, ?_, ?_, ?_, ?_⟩
  all_goals first | (simp [World.cell?, h]; done) | (simp [World.frozen?, h]; done) | (simp [World.cell?, q0]; done) | (simp [World.cell?, q1]; done) | (simp [World.cell?, q2]; done) | (simp [World.cell?, q3]; done)
theorem res4_kp {w0 w : World} (h : Kp w0 w) (k : Int) (y m d : ByteArray) {b : Nat} (hb : w0.heap.size ≤ b) : Kp w0 ((((w.setCell ⟨b, 0, none⟩ (.int .i64 k)).setCell ⟨b, 1, none⟩ (.string y)).setCell ⟨b, 2, none⟩ (.string m)).setCell ⟨b, 3, none⟩ (.string d)) :=
  Below.setCell (Below.setCell (Below.setCell (Below.setCell h (p := ⟨b, 0, none⟩) hb _) (p := ⟨b, 1, none⟩) hb _) (p := ⟨b, 2, none⟩) hb _) (p := ⟨b, 3, none⟩) hb _
set_option maxHeartbeats 16000000 in
set_option maxRecDepth 100000 in
theorem ptRead_any (s : ByteArray) (w : World) (hs : s.size ≤ 3000) (T : TabSH w) : Calls Tryz.prog 6 #[.string s] w fun e w' => e = .returned (.tuple #[ptV (readP s).1, .bool (readP s).2]) ∧ Kp w w' := by
  have CC0 := Lib.hid (fun (i : Nat) (hi : i < 6) w1 (q : Kp w w1) => cutI_any i hi s w1 hs (T.kp q))
  have CS0 := Lib.hid (fun p w1 (q : Kp w w1) => ptSane_any p w1 (T.kp q))
  have CT0 := Lib.hid (fun p w1 (q : Kp w w1) => ptText_any p w1 (T.kp q))
  obtain ⟨W0, hW⟩ : ∃ x, x = w.alloc (.cells #[.int .i64 0, .string ⟨#[]⟩, .string ⟨#[]⟩, .string ⟨#[]⟩] 23) := ⟨_, rfl⟩
  have k0 : Kp w W0 := by rw [hW]; exact Kp.alloc _ _
  have HG := Lib.hid (show W0.heap[w.heap.size]? = some (.cells #[.int .i64 0, .string ⟨#[]⟩, .string ⟨#[]⟩, .string ⟨#[]⟩] 23 (0, 0)) by rw [hW]; exact heap_at _ _ _ rfl)
  have HW := Lib.hid hW
  have K0 := Lib.hid k0
  have J0 := Lib.hid (Kp.refl W0)
  have RD0 := Lib.hid (show rdF s (6 - 0) 0 = readP s from rfl)
  generalize readP s = res at *
  obtain ⟨⟨rk, ry, rm, rd⟩, rb⟩ := res
  simp only [ptV]
  clear hs T hW k0
  go_enter Tryz.func6, Tryz.ntmps6
  go_wp2_with fail
  rw [← HW.out]
  go_loopw [6] (fun iv wr => ∃ k : Nat, k ≤ 6 ∧ iv = .int .i64 k ∧ Hid (rdF s (6 - k) k = (⟨rk, ry, rm, rd⟩, rb)) ∧ Hid (Kp W0 wr)) (fun iv _ => 6 - (intOf iv).toNat)
  case atStart => exact ⟨0, by omega, rfl, RD0, J0⟩
  case round =>
    obtain ⟨k, hk, rfl, RD, J⟩ := hrel
    by_cases hlt : k < 6
    · have CC := Lib.hid (CC0.out k hlt)
      have CS := Lib.hid (CS0.out (cutP k s))
      have CT := Lib.hid (CT0.out (cutP k s))
      have YS := Lib.hid (fun g => rdF_yes (s := s) hlt g)
      have NO := Lib.hid (fun g => rdF_no (s := s) hlt g)
      unfold rdB at YS NO
      have KR := Lib.hid (K0.out.trans J.out)
      have HK1 := Lib.hid (show k + 1 ≤ 6 by omega)
      have HKV := Lib.hid (show Value.int IntKind.i64 ((k : Int) + 1) = Value.int IntKind.i64 ((k + 1 : Nat) : Int) from by simp)
      have HLT := Lib.hid hlt
      have z1 : (k : Int) < 6 := by omega
      have z2 : (0 : Int) ≤ (k : Int) := by omega
      generalize cutP (k : Int) s = p at *
      generalize saneP p = b1 at *
      generalize textP p = tx at *
      obtain ⟨pk, y, m, d⟩ := p
      simp only [ptV] at CC CS CT
      go_wp2_with fail
      refine (CC.out _ KR.out).mono ?_
      rintro e w1 ⟨rfl, kk⟩
      obtain ⟨V, hV⟩ : ∃ x, x = w1.alloc (.cells #[.int .i64 pk, .string y, .string m, .string d] 23) := ⟨_, rfl⟩
      have kv : Kp wr V := by rw [hV]; exact kk.trans (Kp.alloc _ _)
      have hg : V.heap[w1.heap.size]? = some (.cells #[.int .i64 pk, .string y, .string m, .string d] 23 (0, 0)) := by rw [hV]; exact heap_at _ _ _ rfl
      have HB := Lib.hid (fun w2 (q : Kp V w2) => show w2.cell? ⟨w1.heap.size, 0, none⟩ = some (.int .i64 pk) ∧ w2.cell? ⟨w1.heap.size, 1, none⟩ = some (.string y) ∧ w2.cell? ⟨w1.heap.size, 2, none⟩ = some (.string m) ∧ w2.cell? ⟨w1.heap.size, 3, none⟩ = some (.string d) from ⟨cell_up q (by simp [World.cell?, hg]), cell_up q (by simp [World.cell?, hg]), cell_up q (by simp [World.cell?, hg]), cell_up q (by simp [World.cell?, hg])⟩)
      have HV := Lib.hid hV
      have KV := Lib.hid (KR.out.trans kv)
      have JV := Lib.hid (J.out.trans kv)
      clear hV hg kv kk
      go_wp2_with fail
      rw [← HV.out]
      refine (CS.out _ KV.out).mono ?_
      rintro e w2 ⟨rfl, kk⟩
      have K2 := Lib.hid kk
      clear kk
      cases b1 with
      | false =>
        have RD2 := Lib.hid ((NO.out rfl).symm.trans RD.out)
        have JE := Lib.hid (JV.out.trans K2.out)
        go_wp2
        go_roundw
        case rel => exact ⟨k + 1, HK1.out, HKV.out, RD2, JE⟩
        case measure => have := HLT.out; simp [intOf]; omega
      | true =>
        obtain ⟨c0, c1, c2, c3⟩ := HB.out w2 K2.out
        go_wp2_with fail
        refine (CT.out _ (KV.out.trans K2.out)).mono ?_
        rintro e w3 ⟨rfl, kk⟩
        have K3 := Lib.hid (K2.out.trans kk)
        clear kk c0 c1 c2 c3
        obtain ⟨c0, c1, c2, c3⟩ := HB.out w3 K3.out
        cases hq : (tx.toList == s.toList) with
        | false =>
          have RD2 := Lib.hid ((NO.out (by rw [hq]; rfl)).symm.trans RD.out)
          have JE := Lib.hid (JV.out.trans K3.out)
          go_wp2
          go_roundw
          case rel => exact ⟨k + 1, HK1.out, HKV.out, RD2, JE⟩
          case measure => have := HLT.out; simp [intOf]; omega
        | true =>
          have e := (YS.out (by rw [hq]; rfl)).symm.trans RD.out
          simp only [Prod.mk.injEq, PT.mk.injEq] at e
          obtain ⟨⟨rfl, rfl, rfl, rfl⟩, rfl⟩ := e
          obtain ⟨⟨e0, e1, e2, e3⟩, ⟨g0, g1, g2, g3⟩, x0, x1, x2, x3⟩ := res4 (heap_block (JV.out.trans K3.out) HG.out) pk y m d
          have KE := Lib.hid (res4_kp (KV.out.trans K3.out) pk y m d (Nat.le_refl w.heap.size))
          go_wp2
          exact bodyPost_ret (v := .tuple #[.agg #[.int .i64 pk, .string y, .string m, .string d], .bool true]) (by simp [results, Tryz.results6, go_sem, x0, x1, x2, x3]) rfl ⟨rfl, KE.out⟩
    · obtain rfl : k = 6 := by omega
      have e := (show ((⟨0, ⟨#[]⟩, ⟨#[]⟩, ⟨#[]⟩⟩ : PT), false) = (⟨rk, ry, rm, rd⟩, rb) from RD.out)
      simp only [Prod.mk.injEq, PT.mk.injEq] at e
      obtain ⟨⟨rfl, rfl, rfl, rfl⟩, rfl⟩ := e
      obtain ⟨⟨e0, e1, e2, e3⟩, ⟨g0, g1, g2, g3⟩, x0, x1, x2, x3⟩ := res4 (heap_block J.out HG.out) 0 ⟨#[]⟩ ⟨#[]⟩ ⟨#[]⟩
      have KE := Lib.hid (res4_kp (K0.out.trans J.out) 0 ⟨#[]⟩ ⟨#[]⟩ ⟨#[]⟩ (Nat.le_refl w.heap.size))
      go_wp2
      exact bodyPost_ret (v := .tuple #[.agg #[.int .i64 0, .string ⟨#[]⟩, .string ⟨#[]⟩, .string ⟨#[]⟩], .bool false]) (by simp [results, Tryz.results6, go_sem, x0, x1, x2, x3]) rfl ⟨rfl, KE.out⟩
end Go.Proofs.YtinpglfclbnhlaaGreatDoor
