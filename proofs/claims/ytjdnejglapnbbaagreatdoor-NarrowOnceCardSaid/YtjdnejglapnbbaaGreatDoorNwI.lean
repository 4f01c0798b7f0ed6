/-
  Contract of narrow.narrowed.
-/
import Derived.Test.YtjdnejglapnbbaaGreatDoorNwH
namespace Go.Proofs.YtjdnejglapnbbaaGreatDoor
open Go.RowKit
set_option linter.unusedVariables false
set_option linter.unusedSimpArgs false
theorem ne_next {v v' : Value} {H B : Nat} (hat : v'.ownBlock = v.ownBlock ∨ v'.ownBlock = some H) (h : v.ownBlock ≠ some B) (lt : B < H) : v'.ownBlock ≠ some B := fun e => by
  rcases hat with q | q
  · exact h (by rw [← q]; exact e)
  · rw [q] at e
    simp only [Option.some.injEq] at e
    omega
theorem set4_heap {w : World} {B : Nat} {t : TypeId} {y0 y1 y2 y3 : Value} {fr : Nat × Nat} (hB : w.heap[B]? = some (.cells #[y0, y1, y2, y3] t fr)) (x0 x1 x2 x3 : Value) :
    ((((w.setCell ⟨B, 0, none⟩ x0).setCell ⟨B, 1, none⟩ x1).setCell ⟨B, 2, none⟩ x2).setCell ⟨B, 3, none⟩ x3).heap[B]? = some (.cells #[x0, x1, x2, x3] t fr) := by
  simp [World.setCell, Array.getElem?_modify, hB]
theorem heap_lt {w : World} {B : Nat} {o : Obj} (h : w.heap[B]? = some o) : B < w.heap.size := (Array.getElem?_eq_some_iff.1 h).1
theorem grown_at {w w1 : World} {row : Option Nat} {B : Nat} {o : Obj} (g : w.grownBy w1 row) (h : w.heap[B]? = some o) (hn : row ≠ some B) : w1.heap[B]? = some o := (g.block B (heap_lt h) (fun e => hn e.symm)).trans h
theorem empty_tidy {F : Fam} (h : FOK F) : emptyF (famR (lfOf F)) = emptyF F := by
  rw [famR_lfOf h]
  by_cases c : emptyF F = true
  · rw [if_pos c, c]; rfl
  · rw [if_neg c]
theorem cut_sp {s e : List R} {r : R} (hs : setB 0 s = true) (he : setB 0 e = true) : emptyF (famR (cutLF s e r)) = false → (lfOf (famR (cutLF s e r))).sp = true := fun h => by
  obtain ⟨a, b, e1, _, _⟩ := famR_cut_span hs he r
  rw [e1] at h ⊢
  rw [lfOf_s1 (by rw [emptyF_s] at h; simpa using h)]
theorem unsR_len {K D : List R} {k : Int} {s : List R} (hs : sane s) : (unsR K D ⟨false, k, s, []⟩).length ≤ s.length + K.length + D.length := by
  unfold unsR
  simp only
  split
  · have := interR_len hs (nf_sane (K ++ D))
    have := nf_len (K ++ D)
    rw [List.length_append] at this
    omega
  · rw [inter_dup (fun n => (nf_mem (K.flatMap fun r => insR k r.1 r.2) n).symm)]
    have := interR_len hs (nf_sane (K.flatMap fun r => insR k r.1 r.2))
    have := nf_len (K.flatMap fun r => insR k r.1 r.2)
    have := ins_len k K
    omega
theorem left_next {K D : List R} {l : List LF} {k : Nat} (h : k < l.length) : leftL K D (l.take (k + 1)) = leftL K D (l.take k) ++ outF K D (lat l k) := flat_next l _ (outF K D) k h
theorem outT_un {K D : List R} {k : Int} {s b : List R} : outT K D ⟨false, k, s, b⟩ = chunksR k (unsR K D ⟨false, k, s, b⟩) := by unfold outT; rw [if_neg (by simp)]
theorem outT_sp {K D : List R} {s e : List R} : outT K D ⟨true, 0, s, e⟩ = chunksR 0 (interR (interR s e) D) ++ K.flatMap (partF s e) := by unfold outT; rw [if_pos rfl]
theorem parts_next {K : List R} {s e : List R} {j : Nat} (h : j < K.length) : (K.take (j + 1)).flatMap (partF s e) = (K.take j).flatMap (partF s e) ++ partF s e (at_ K j) := flat_next K (0, 0) (partF s e) j h
/-- the parts are none from here on -/
theorem parts_rest {K : List R} {s e : List R} (hs : setB 0 s = true) (he : setB 0 e = true) (up : K.Pairwise fun a b => a.1 ≤ b.1) {j : Nat} (hj : j < K.length) (h : ∀ t, memR e t → t < (at_ K j).1) : K.flatMap (partF s e) = (K.take j).flatMap (partF s e) := by
  conv => lhs; rw [← List.take_append_drop j K, List.flatMap_append]
  suffices (K.drop j).flatMap (partF s e) = [] by rw [this, List.append_nil]
  rw [List.flatMap_eq_nil_iff]
  intro r hr
  obtain ⟨i, hi, e1⟩ := List.mem_iff_getElem.1 hr
  rw [List.getElem_drop] at e1
  rw [List.length_drop] at hi
  have hle : (at_ K j).1 ≤ r.1 := by
    by_cases h0 : i = 0
    · subst h0
      have : at_ K j = r := by unfold at_; rw [List.getD_eq_getElem?_getD, List.getElem?_eq_getElem hj]; simpa using e1
      rw [this]; exact Int.le_refl _
    · have := List.pairwise_iff_getElem.1 up j (j + i) hj (by omega) (by omega)
      have e2 : at_ K j = K[j] := by unfold at_; rw [List.getD_eq_getElem?_getD, List.getElem?_eq_getElem hj]; rfl
      rw [e2]
      rw [e1] at this
      exact this
  unfold partF
  rw [if_pos (part_none hs he r fun S T g a b => by
    have := (hasF_span (setB_sane hs) (setB_sane he) S T).1 g
    have := h T this.2.2
    omega)]
theorem part_skip {s e : List R} (hs : setB 0 s = true) (he : setB 0 e = true) {r : R} (h : ∀ x, memR s x → r.2 < x) : partF s e r = [] := by
  unfold partF
  rw [if_pos (part_none hs he r fun S T g a b => by
    have := (hasF_span (setB_sane hs) (setB_sane he) S T).1 g
    have := h S this.2.1
    omega)]
/-- a tidied leaf: of units, or a span that has pairs -/
theorem tidy_cases (f : LF) : (∃ k s, lfOf (famR f) = ⟨false, k, s, []⟩ ∧ setB k s = true) ∨ (∃ s e, lfOf (famR f) = ⟨true, 0, s, e⟩ ∧ setB 0 s = true ∧ setB 0 e = true ∧ 0 < s.length ∧ 0 < e.length) := by
  have ok := famR_ok f
  revert ok
  generalize famR f = F
  intro ok
  by_cases h0 : emptyF F = true
  · rw [lfOf_none h0]; exact .inl ⟨0, [], rfl, setB_nil 0⟩
  · cases F with
    | units k s =>
      rw [lfOf_u1 (by rw [emptyF_u] at h0; simpa using h0)]
      exact .inl ⟨k, s, rfl, ok⟩
    | span s e =>
      have h1 : ¬ s.length = 0 := by rw [emptyF_s] at h0; simpa using h0
      rw [lfOf_s1 h1]
      exact .inr ⟨s, e, rfl, ok.1, ok.2.1, by omega, (span_lg ok (by omega)).1⟩
abbrev nwnC0 : Oper := { dst := some 48, op := Go.Op.fieldAddr 53 (Go.Operand.tmp 9) 0, type := 0, pos := "narrow.go:62", after := #[], guard := none }
abbrev nwnC1 : Oper := { dst := some 49, op := Go.Op.load 3 (Go.Operand.tmp 48), type := 3, pos := "narrow.go:62", after := #[{ on := 0, ground := Go.Ground.data }], guard := none }
abbrev nwnC2 : Oper := { dst := some 50, op := Go.Op.fieldAddr 47 (Go.Operand.tmp 7) 3, type := 0, pos := "narrow.go:62", after := #[], guard := none }
abbrev nwnC3 : Oper := { dst := some 51, op := Go.Op.load 38 (Go.Operand.tmp 50), type := 38, pos := "narrow.go:62", after := #[{ on := 2, ground := Go.Ground.data }], guard := none }
abbrev nwnC4 : Oper := { dst := some 52, op := Go.Op.call { callee := Go.Callee.value (Go.Operand.func 117), args := #[Go.Operand.tmp 51], argTypes := #[38] }, type := 3, pos := "narrow.go:62", after := #[{ on := 3, ground := Go.Ground.data }], guard := none }
abbrev nwnC5 : Oper := { dst := some 53, op := Go.Op.binOp Go.BinOp.gtr 3 (Go.Operand.tmp 49) (Go.Operand.tmp 52) 3, type := 4, pos := "narrow.go:62", after := #[{ on := 1, ground := Go.Ground.data }, { on := 4, ground := Go.Ground.data }], guard := none }
abbrev nwnD0 : Oper := { dst := some 54, op := Go.Op.fieldAddr 53 (Go.Operand.tmp 9) 1, type := 0, pos := "narrow.go:65", after := #[], guard := none }
abbrev nwnD1 : Oper := { dst := some 55, op := Go.Op.load 3 (Go.Operand.tmp 54), type := 3, pos := "narrow.go:65", after := #[{ on := 0, ground := Go.Ground.data }], guard := none }
abbrev nwnD2 : Oper := { dst := some 56, op := Go.Op.fieldAddr 47 (Go.Operand.tmp 7) 2, type := 0, pos := "narrow.go:65", after := #[], guard := none }
abbrev nwnD3 : Oper := { dst := some 57, op := Go.Op.load 38 (Go.Operand.tmp 56), type := 38, pos := "narrow.go:65", after := #[{ on := 2, ground := Go.Ground.data }], guard := none }
abbrev nwnD4 : Oper := { dst := some 58, op := Go.Op.call { callee := Go.Callee.value (Go.Operand.func 116), args := #[Go.Operand.tmp 57], argTypes := #[38] }, type := 3, pos := "narrow.go:65", after := #[{ on := 3, ground := Go.Ground.data }], guard := none }
abbrev nwnD5 : Oper := { dst := some 59, op := Go.Op.binOp Go.BinOp.lss 3 (Go.Operand.tmp 55) (Go.Operand.tmp 58) 3, type := 4, pos := "narrow.go:65", after := #[{ on := 1, ground := Go.Ground.data }, { on := 4, ground := Go.Ground.data }], guard := none }
abbrev nwnE0 : Oper := { dst := some 60, op := Go.Op.fieldAddr 47 (Go.Operand.tmp 7) 2, type := 0, pos := "narrow.go:68", after := #[], guard := none }
abbrev nwnE1 : Oper := { dst := some 61, op := Go.Op.load 38 (Go.Operand.tmp 60), type := 38, pos := "narrow.go:68", after := #[{ on := 0, ground := Go.Ground.data }], guard := none }
abbrev nwnE2 : Oper := { dst := some 62, op := Go.Op.fieldAddr 53 (Go.Operand.tmp 9) 0, type := 0, pos := "narrow.go:68", after := #[], guard := none }
abbrev nwnE3 : Oper := { dst := some 63, op := Go.Op.load 3 (Go.Operand.tmp 62), type := 3, pos := "narrow.go:68", after := #[{ on := 2, ground := Go.Ground.data }], guard := none }
abbrev nwnE4 : Oper := { dst := some 64, op := Go.Op.fieldAddr 53 (Go.Operand.tmp 9) 1, type := 0, pos := "narrow.go:68", after := #[], guard := none }
abbrev nwnE5 : Oper := { dst := some 65, op := Go.Op.load 3 (Go.Operand.tmp 64), type := 3, pos := "narrow.go:68", after := #[{ on := 4, ground := Go.Ground.data }], guard := none }
abbrev nwnE6 : Oper := { dst := some 66, op := Go.Op.call { callee := Go.Callee.value (Go.Operand.func 124), args := #[Go.Operand.tmp 61, Go.Operand.tmp 63, Go.Operand.tmp 65], argTypes := #[38, 3, 3] }, type := 38, pos := "narrow.go:68", after := #[{ on := 1, ground := Go.Ground.data }, { on := 3, ground := Go.Ground.data }, { on := 5, ground := Go.Ground.data }], guard := none }
abbrev nwnE7 : Oper := { dst := some 67, op := Go.Op.fieldAddr 47 (Go.Operand.tmp 7) 3, type := 0, pos := "narrow.go:68", after := #[], guard := none }
abbrev nwnE8 : Oper := { dst := some 68, op := Go.Op.load 38 (Go.Operand.tmp 67), type := 38, pos := "narrow.go:68", after := #[{ on := 7, ground := Go.Ground.data }], guard := none }
abbrev nwnE9 : Oper := { dst := some 69, op := Go.Op.fieldAddr 53 (Go.Operand.tmp 9) 0, type := 0, pos := "narrow.go:68", after := #[], guard := none }
abbrev nwnE10 : Oper := { dst := some 70, op := Go.Op.load 3 (Go.Operand.tmp 69), type := 3, pos := "narrow.go:68", after := #[{ on := 9, ground := Go.Ground.data }], guard := none }
abbrev nwnE11 : Oper := { dst := some 71, op := Go.Op.fieldAddr 53 (Go.Operand.tmp 9) 1, type := 0, pos := "narrow.go:68", after := #[], guard := none }
abbrev nwnE12 : Oper := { dst := some 72, op := Go.Op.load 3 (Go.Operand.tmp 71), type := 3, pos := "narrow.go:68", after := #[{ on := 11, ground := Go.Ground.data }], guard := none }
abbrev nwnE13 : Oper := { dst := some 73, op := Go.Op.call { callee := Go.Callee.value (Go.Operand.func 124), args := #[Go.Operand.tmp 68, Go.Operand.tmp 70, Go.Operand.tmp 72], argTypes := #[38, 3, 3] }, type := 38, pos := "narrow.go:68", after := #[{ on := 8, ground := Go.Ground.data }, { on := 10, ground := Go.Ground.data }, { on := 12, ground := Go.Ground.data }, { on := 6, ground := Go.Ground.chain }], guard := none }
abbrev nwnE14 : Oper := { dst := some 74, op := Go.Op.build 47 #[(0, Go.Operand.const (Go.Value.bool true)), (2, Go.Operand.tmp 66), (3, Go.Operand.tmp 73)], type := 47, pos := "narrow.go:68", after := #[{ on := 6, ground := Go.Ground.data }, { on := 13, ground := Go.Ground.data }], guard := none }
abbrev nwnE15 : Oper := { dst := some 75, op := Go.Op.call { callee := Go.Callee.value (Go.Operand.func 70), args := #[Go.Operand.tmp 74], argTypes := #[47] }, type := 47, pos := "narrow.go:68", after := #[{ on := 14, ground := Go.Ground.data }, { on := 13, ground := Go.Ground.chain }], guard := none }
abbrev nwnE16 : Oper := { dst := some 10, op := Go.Op.alloc 47, type := 0, pos := "narrow.go:68", after := #[], guard := none }
abbrev nwnE17 : Oper := { dst := none, op := Go.Op.store 47 (Go.Operand.tmp 10) (Go.Operand.tmp 75), type := 0, pos := "narrow.go:68", after := #[{ on := 16, ground := Go.Ground.data }, { on := 15, ground := Go.Ground.data }, { on := 15, ground := Go.Ground.chain }, { on := 0, ground := Go.Ground.phase }, { on := 1, ground := Go.Ground.phase }, { on := 2, ground := Go.Ground.phase }, { on := 3, ground := Go.Ground.phase }, { on := 4, ground := Go.Ground.phase }, { on := 5, ground := Go.Ground.phase }, { on := 6, ground := Go.Ground.phase }, { on := 7, ground := Go.Ground.phase }, { on := 8, ground := Go.Ground.phase }, { on := 9, ground := Go.Ground.phase }, { on := 10, ground := Go.Ground.phase }, { on := 11, ground := Go.Ground.phase }, { on := 12, ground := Go.Ground.phase }, { on := 13, ground := Go.Ground.phase }, { on := 14, ground := Go.Ground.phase }, { on := 15, ground := Go.Ground.phase }, { on := 16, ground := Go.Ground.phase }], guard := none }
abbrev nwnA0 : Oper := { dst := some 22, op := Go.Op.move (Go.Operand.tmp 5), type := 22, pos := "narrow.go:57", after := #[], guard := none }
abbrev nwnA1 : Oper := { dst := some 23, op := Go.Op.fieldAddr 47 (Go.Operand.tmp 7) 1, type := 0, pos := "narrow.go:57", after := #[], guard := none }
abbrev nwnA2 : Oper := { dst := some 24, op := Go.Op.load 3 (Go.Operand.tmp 23), type := 3, pos := "narrow.go:57", after := #[{ on := 1, ground := Go.Ground.data }], guard := none }
abbrev nwnA3 : Oper := { dst := some 25, op := Go.Op.load 85 (Go.Operand.tmp 2), type := 85, pos := "narrow.go:57", after := #[], guard := none }
abbrev nwnA4 : Oper := { dst := some 26, op := Go.Op.load 47 (Go.Operand.tmp 7), type := 47, pos := "narrow.go:57", after := #[], guard := none }
abbrev nwnA5 : Oper := { dst := some 27, op := Go.Op.call { callee := Go.Callee.value (Go.Operand.func 122), args := #[Go.Operand.tmp 25, Go.Operand.tmp 26], argTypes := #[85, 47] }, type := 38, pos := "narrow.go:57", after := #[{ on := 3, ground := Go.Ground.data }, { on := 4, ground := Go.Ground.data }], guard := none }
abbrev nwnA6 : Oper := { dst := some 28, op := Go.Op.call { callee := Go.Callee.value (Go.Operand.func 121), args := #[Go.Operand.tmp 24, Go.Operand.tmp 27], argTypes := #[3, 38] }, type := 22, pos := "narrow.go:57", after := #[{ on := 2, ground := Go.Ground.data }, { on := 5, ground := Go.Ground.data }, { on := 5, ground := Go.Ground.chain }], guard := none }
abbrev nwnA7 : Oper := { dst := some 29, op := Go.Op.call { callee := Go.Callee.builtin Go.Builtin.append, args := #[Go.Operand.tmp 22, Go.Operand.tmp 28], argTypes := #[22, 22] }, type := 22, pos := "narrow.go:57", after := #[{ on := 0, ground := Go.Ground.data }, { on := 6, ground := Go.Ground.data }, { on := 6, ground := Go.Ground.chain }], guard := none }
abbrev nwnA8 : Oper := { dst := some 5, op := Go.Op.assign (Go.Operand.tmp 29), type := 22, pos := "narrow.go:57", after := #[{ on := 7, ground := Go.Ground.data }, { on := 7, ground := Go.Ground.chain }, { on := 0, ground := Go.Ground.phase }, { on := 1, ground := Go.Ground.phase }, { on := 2, ground := Go.Ground.phase }, { on := 3, ground := Go.Ground.phase }, { on := 4, ground := Go.Ground.phase }, { on := 5, ground := Go.Ground.phase }, { on := 6, ground := Go.Ground.phase }, { on := 7, ground := Go.Ground.phase }], guard := none }
abbrev nwnB0 : Oper := { dst := some 30, op := Go.Op.move (Go.Operand.tmp 5), type := 22, pos := "narrow.go:60", after := #[], guard := none }
abbrev nwnB1 : Oper := { dst := some 31, op := Go.Op.fieldAddr 47 (Go.Operand.tmp 7) 2, type := 0, pos := "narrow.go:60", after := #[], guard := none }
abbrev nwnB2 : Oper := { dst := some 32, op := Go.Op.load 38 (Go.Operand.tmp 31), type := 38, pos := "narrow.go:60", after := #[{ on := 1, ground := Go.Ground.data }], guard := none }
abbrev nwnB3 : Oper := { dst := some 33, op := Go.Op.fieldAddr 47 (Go.Operand.tmp 7) 3, type := 0, pos := "narrow.go:60", after := #[], guard := none }
abbrev nwnB4 : Oper := { dst := some 34, op := Go.Op.load 38 (Go.Operand.tmp 33), type := 38, pos := "narrow.go:60", after := #[{ on := 3, ground := Go.Ground.data }], guard := none }
abbrev nwnB5 : Oper := { dst := some 35, op := Go.Op.call { callee := Go.Callee.value (Go.Operand.func 123), args := #[Go.Operand.tmp 32, Go.Operand.tmp 34], argTypes := #[38, 38] }, type := 38, pos := "narrow.go:60", after := #[{ on := 2, ground := Go.Ground.data }, { on := 4, ground := Go.Ground.data }], guard := none }
abbrev nwnB6 : Oper := { dst := some 36, op := Go.Op.fieldAddr 85 (Go.Operand.tmp 2) 1, type := 0, pos := "narrow.go:60", after := #[], guard := none }
abbrev nwnB7 : Oper := { dst := some 37, op := Go.Op.load 38 (Go.Operand.tmp 36), type := 38, pos := "narrow.go:60", after := #[{ on := 6, ground := Go.Ground.data }], guard := none }
abbrev nwnB8 : Oper := { dst := some 38, op := Go.Op.call { callee := Go.Callee.value (Go.Operand.func 123), args := #[Go.Operand.tmp 35, Go.Operand.tmp 37], argTypes := #[38, 38] }, type := 38, pos := "narrow.go:60", after := #[{ on := 5, ground := Go.Ground.data }, { on := 7, ground := Go.Ground.data }, { on := 5, ground := Go.Ground.chain }], guard := none }
abbrev nwnB9 : Oper := { dst := some 39, op := Go.Op.call { callee := Go.Callee.value (Go.Operand.func 121), args := #[Go.Operand.const (Go.Value.int Go.IntKind.i64 0), Go.Operand.tmp 38], argTypes := #[3, 38] }, type := 22, pos := "narrow.go:60", after := #[{ on := 8, ground := Go.Ground.data }, { on := 8, ground := Go.Ground.chain }], guard := none }
abbrev nwnB10 : Oper := { dst := some 40, op := Go.Op.call { callee := Go.Callee.builtin Go.Builtin.append, args := #[Go.Operand.tmp 30, Go.Operand.tmp 39], argTypes := #[22, 22] }, type := 22, pos := "narrow.go:60", after := #[{ on := 0, ground := Go.Ground.data }, { on := 9, ground := Go.Ground.data }, { on := 9, ground := Go.Ground.chain }], guard := none }
abbrev nwnB11 : Oper := { dst := some 5, op := Go.Op.assign (Go.Operand.tmp 40), type := 22, pos := "narrow.go:60", after := #[{ on := 10, ground := Go.Ground.data }, { on := 10, ground := Go.Ground.chain }, { on := 0, ground := Go.Ground.phase }, { on := 1, ground := Go.Ground.phase }, { on := 2, ground := Go.Ground.phase }, { on := 3, ground := Go.Ground.phase }, { on := 4, ground := Go.Ground.phase }, { on := 5, ground := Go.Ground.phase }, { on := 6, ground := Go.Ground.phase }, { on := 7, ground := Go.Ground.phase }, { on := 8, ground := Go.Ground.phase }, { on := 9, ground := Go.Ground.phase }, { on := 10, ground := Go.Ground.phase }], guard := none }
theorem own_far4 {w : World} {base : Nat} {e : TypeId} {size : Nat} {v : Value} {n : Nat} {xs : List Value} (h : w.ownsRow base e size v n xs) {B : Nat} (hB : v.ownBlock ≠ some B) (x0 x1 x2 x3 : Value) : ((((w.setCell ⟨B, 0, none⟩ x0).setCell ⟨B, 1, none⟩ x1).setCell ⟨B, 2, none⟩ x2).setCell ⟨B, 3, none⟩ x3).ownsRow base e size v n xs := by
  have f : ∀ {w : World} (o : Nat) (x : Value), w.ownsRow base e size v n xs → (w.setCell ⟨B, o, none⟩ x).ownsRow base e size v n xs := fun {w} o x h => own_apart (v := .slice (some ⟨B, 0, none⟩) 1 1) h (grown_set w B o x) (fun k e1 e2 => by
    have e3 : B = k := by simpa [Value.ownBlock] using e1
    exact hB (by rw [e2, e3]))
  exact f 3 x3 (f 2 x2 (f 1 x1 (f 0 x0 h)))
theorem own_type_ne {w : World} {b s n : Nat} {e t : TypeId} {v : Value} {xs : List Value} {B : Nat} {c : Array Value} {fr : Nat × Nat} (h : w.ownsRow b e s v n xs) (g : w.heap[B]? = some (.cells c t fr)) (ne : e ≠ t) : v.ownBlock ≠ some B := fun q => by
  rcases h.2 with ⟨rfl, _⟩ | ⟨i, cp, cur, rfl, _, h1, _⟩
  · cases q
  · simp only [Value.ownBlock, Option.some.injEq] at q
    subst q
    rw [h1] at g
    simp only [Option.some.injEq, Obj.cells.injEq] at g
    exact ne g.2.1
theorem OwnV.far4 {w : World} {base : Nat} {l : List (LF × VV)} (h : OwnV w base l) {B : Nat} {c : Array Value} {fr : Nat × Nat} (g : w.heap[B]? = some (.cells c 47 fr)) (x0 x1 x2 x3 : Value) : OwnV ((((w.setCell ⟨B, 0, none⟩ x0).setCell ⟨B, 1, none⟩ x1).setCell ⟨B, 2, none⟩ x2).setCell ⟨B, 3, none⟩ x3) base l :=
  fun p hp => ⟨own_far4 (h p hp).1 (own_type_ne (h p hp).1 g (by decide)) _ _ _ _, own_far4 (h p hp).2 (own_type_ne (h p hp).2 g (by decide)) _ _ _ _⟩
set_option maxHeartbeats 16000000 in
set_option maxRecDepth 100000 in
theorem nwNarrowed_any (Kb D : List R) (vi vd v : Value) (l : List LF) (w : World) (hi' : RunsAt w vi Kb) (hd : RunsAt w vd D) (hv : LeavesAt w v l) (hl : LsOk l) (T : Tabs w) (ik : inDays Kb) (up : Kb.Pairwise fun a b => a.1 ≤ b.1) (sd : sane D) (nK : Kb.length ≤ 100000) (nD : D.length ≤ 100000) (nL : (leftL Kb D l).length ≤ 1000000) :
    Calls Tryz.prog 63 #[.agg #[vi, vd], v] w fun e w' => ∃ v' m, e = .returned v' ∧ m.map Prod.fst = leftL Kb D l ∧ OwnV w' w.heap.size m ∧ w'.ownsRow w.heap.size 47 4 v' m.length (cellsV m) ∧ Kp w w' := by
  obtain ⟨h0, hi, hz0, hz1, hz2⟩ := info_parts infoLeaf
  have hm := hv.len
  unfold maxLen at hm
  obtain ⟨ad, cp, rfl⟩ := hv.slice
  obtain ⟨ai, ci, rfl⟩ := hi'.slice
  obtain ⟨aj, cj, rfl⟩ := hd.slice
  obtain ⟨W0, hW⟩ : ∃ x, x = w.alloc (.cells #[.slice ai Kb.length ci, .slice aj D.length cj] 85) := ⟨_, rfl⟩
  have k0 : Kp w W0 := by rw [hW]; exact Kp.alloc _ _
  have g0 : W0.heap[w.heap.size]? = some (.cells #[.slice ai Kb.length ci, .slice aj D.length cj] 85 (0, 0)) := by rw [hW]; exact heap_at _ _ _ rfl
  have HB := Lib.hid (fun w' (kq : Kp W0 w') => heap_block kq g0)
  have K0 := Lib.hid k0
  have HV := Lib.hid (hv.kp k0)
  have HI := Lib.hid (hi'.kp k0)
  have HD := Lib.hid (hd.kp k0)
  have HL := Lib.hid hl
  have TT := Lib.hid (T.kp k0)
  have hB : w.heap.size < W0.heap.size := by rw [hW]; simp
  have HW := Lib.hid hW
  have NR := Lib.hid (fun k => Nat.le_trans (flat_pre l (outF Kb D) k) nL)
  have IKD := Lib.hid ik
  have UP := Lib.hid up
  have SD := Lib.hid sd
  have KI := Lib.hid (show I64R Kb from fun r hr => by have := ik r hr; omega)
  clear hv hl T k0 g0 hW nL hi' hd ik up sd
  go_enter Tryz.func63, Tryz.ntmps63
  go_wp2_with fail
  rw [← HW.out]
  clear HW
  go_step3
  go_wp2_with fail
  go_step3
  go_wp2_with fail
  go_loopw [5, 13] (fun v i wr => ∃ (k : Nat) (m : List (LF × VV)), k ≤ l.length ∧ i = .int .i64 k ∧ Hid (m.map Prod.fst = leftL Kb D (l.take k)) ∧ Hid (OwnV wr W0.heap.size m) ∧ Hid (wr.ownsRow W0.heap.size 47 4 v m.length (cellsV m)) ∧ Hid (Kp W0 wr)) (fun _ i _ => l.length - (intOf i).toNat)
  case atStart => exact ⟨0, [], Nat.zero_le _, rfl, Lib.hid rfl, Lib.hid (fun p hp => by cases hp), Lib.hid (World.ownsRow_nil _ _ _ _), Lib.hid (Kp.refl _)⟩
  case round =>
    obtain ⟨k, m, hk, rfl, HM, OV, OW, J⟩ := hrel
    have ow := OW.out
    obtain ⟨a5, l5, rfl⟩ := own_slice4 ow
    by_cases hlt : k < l.length
    · have q2 : decide ((k : Int) < (l.length : Int)) = true := decide_eq_true (by omega)
      have q3 : decide (k < l.length) = true := decide_eq_true hlt
      rcases HV.out.kp J.out with ⟨_, _, _, e⟩ | ⟨b0, off, cap, ev, hc, hmx, hx⟩
      · rw [e] at hlt; simp at hlt
      cases ev
      obtain ⟨va, vb, d0, d1, d2, d3, ra, rb⟩ := hx k hlt
      have LOK := HL.out _ (lat_mem hlt)
      obtain ⟨f, hf⟩ : ∃ f, lat l k = f := ⟨_, rfl⟩
      rw [hf] at d0 d1 ra rb
      (try rw [hf] at LOK)
      obtain ⟨sp, u, a, b⟩ := f
      simp only at d0 d1 ra rb
      (try simp only at LOK)
      obtain ⟨aa, ca, rfl⟩ := ra.slice
      obtain ⟨ab, cb, rfl⟩ := rb.slice
      have HF := Lib.hid hf
      have z1 : (k : Int) < (l.length : Int) := by omega
      have z2 : (0 : Int) ≤ (k : Int) := by omega
      clear hx hc hmx hf
      have FO : LeafOk wr ⟨sp, u, a, b⟩ _ _ := ⟨ra, rb, LOK.1, LOK.2.1, LOK.2.2.1, LOK.2.2.2⟩
      have TD := Lib.hid (fun w1 (kk : Kp wr w1) => leafTidyO_any ⟨sp, u, a, b⟩ _ _ w1 (FO.kp kk) (TT.out.kp (J.out.trans kk)))
      rw [show leafV ⟨sp, u, a, b⟩ (.slice aa a.length ca) (.slice ab b.length cb) = .agg #[.bool sp, .int .i64 u, .slice aa a.length ca, .slice ab b.length cb] from rfl] at TD
      have TC := tidy_cases ⟨sp, u, a, b⟩
      have LN := left_next (K := Kb) (D := D) hlt
      have n4' := NR.out (k + 1)
      rw [show (l.take (k + 1)).flatMap (outF Kb D) = leftL Kb D (l.take (k + 1)) from rfl, LN, List.length_append] at n4'
      rw [HF.out] at LN n4'
      unfold outF at LN n4'
      have ml : m.length = (leftL Kb D (l.take k)).length := by have := congrArg List.length HM.out; simpa using this
      generalize lfOf (famR ⟨sp, u, a, b⟩) = g at *
      have kkVV : Kp wr (wr.alloc (.cells #[.bool sp, .int .i64 u, .slice aa a.length ca, .slice ab b.length cb] 47)) := Kp.alloc _ _
      have kkWV : Kp W0 (wr.alloc (.cells #[.bool sp, .int .i64 u, .slice aa a.length ca, .slice ab b.length cb] 47)) := J.out.trans (Kp.alloc _ _)
      have NEF := Lib.hid (own_above ow (B := wr.heap.size) (Nat.le_refl _))
      have NEB := Lib.hid (own_below ow (B := w.heap.size) hB)
      clear ra rb FO LOK HF NR HL
      obtain ⟨V, hVv⟩ : ∃ x, x = wr.alloc (.cells #[.bool sp, .int .i64 u, .slice aa a.length ca, .slice ab b.length cb] 47) := ⟨_, rfl⟩
      have kav : Kp wr V := by rw [hVv]; exact Kp.alloc _ _
      have gqv0 : V.heap[wr.heap.size]? = some (.cells #[.bool sp, .int .i64 u, .slice aa a.length ca, .slice ab b.length cb] 47 (0, 0)) := by rw [hVv]; exact heap_at _ _ _ (by first | rfl | simp)
      rw [← hVv] at kkVV kkWV
      have KSv := Lib.hid (fun w' (kq : Kp V w') => show w'.cell? ⟨wr.heap.size, 0, none⟩ = some (.bool sp) ∧ w'.cell? ⟨wr.heap.size, 1, none⟩ = some (.int .i64 u) ∧ w'.cell? ⟨wr.heap.size, 2, none⟩ = some (.slice aa a.length ca) ∧ w'.cell? ⟨wr.heap.size, 3, none⟩ = some (.slice ab b.length cb) ∧ w'.cell? ⟨w.heap.size, 0, none⟩ = some (.slice ai Kb.length ci) ∧ w'.cell? ⟨w.heap.size, 1, none⟩ = some (.slice aj D.length cj) ∧ Kp V w' from ⟨(row4 (heap_block kq gqv0)).1, (row4 (heap_block kq gqv0)).2.1, (row4 (heap_block kq gqv0)).2.2.1, (row4 (heap_block kq gqv0)).2.2.2, cell_up kq (row2 (HB.out V kkWV)).1, cell_up kq (row2 (HB.out V kkWV)).2, kq⟩)
      have GQv0 := Lib.hid gqv0
      have HVv := Lib.hid hVv
      have KV := Lib.hid kav
      clear hVv kav gqv0
      have kkV : Kp V V := Kp.refl _
      obtain ⟨xv0, xv1, xv2, xv3, xv4, xv5, _⟩ := KSv.out _ kkV
      have OWV := Lib.hid (own_kp ow KV.out)
      have OVV := Lib.hid (OV.out.kp KV.out)
      go_upto_region 5 with fail
      rw [← HVv.out]
      clear HVv d0 d1 d2 d3 ow OW OV
      go_wp2_with fail
      refine (TD.out _ KV.out).mono ?_
      rintro e wa ⟨va', vb', rfl, ok', kka, oo⟩
      rcases TC with ⟨kd, s, hg, sb⟩ | ⟨s, e', hg, s1, s2, s3, s4⟩
      · subst hg
        obtain ⟨ax, cx, rfl⟩ := ok'.a.slice
        obtain ⟨ay, cy, e2⟩ := ok'.b.slice
        have e2 : vb' = .slice ay 0 cy := e2
        subst e2
        unfold leafV
        simp only
        have hq := heap_block kka GQv0.out
        have f0 : wa.frozen? ⟨wr.heap.size, 0, none⟩ = false := by simp [World.frozen?, hq]
        have f1 : wa.frozen? ⟨wr.heap.size, 1, none⟩ = false := by simp [World.frozen?, hq]
        have f2 : wa.frozen? ⟨wr.heap.size, 2, none⟩ = false := by simp [World.frozen?, hq]
        have f3 : wa.frozen? ⟨wr.heap.size, 3, none⟩ = false := by simp [World.frozen?, hq]
        obtain ⟨d0, d1, d2, d3⟩ := row4 hq
        obtain ⟨V2, hV2⟩ : ∃ x, x = (((wa.setCell ⟨wr.heap.size, 0, none⟩ (.bool false)).setCell ⟨wr.heap.size, 1, none⟩ (.int .i64 kd)).setCell ⟨wr.heap.size, 2, none⟩ (.slice ax s.length cx)).setCell ⟨wr.heap.size, 3, none⟩ (.slice ay 0 cy) := ⟨_, rfl⟩
        have k2 : Kp wr V2 := by rw [hV2]; exact set4_below (KV.out.trans kka) wr.heap.size (Nat.le_refl _) _ _ _ _
        have KSz := Lib.hid (fun w' (kq : Kp V2 w') => show w'.cell? ⟨wr.heap.size, 0, none⟩ = some (.bool false) ∧ w'.cell? ⟨wr.heap.size, 1, none⟩ = some (.int .i64 kd) ∧ w'.cell? ⟨wr.heap.size, 2, none⟩ = some (.slice ax s.length cx) ∧ w'.cell? ⟨wr.heap.size, 3, none⟩ = some (.slice ay 0 cy) ∧ w'.cell? ⟨w.heap.size, 0, none⟩ = some (.slice ai Kb.length ci) ∧ w'.cell? ⟨w.heap.size, 1, none⟩ = some (.slice aj D.length cj) ∧ Kp V2 w' from (by rw [hV2] at kq; obtain ⟨z0, z1, z2, z3⟩ := set4_read hq _ _ _ _ kq; rw [← hV2] at kq; exact ⟨z0, z1, z2, z3, (row2 (HB.out w' (J.out.trans (k2.trans kq)))).1, (row2 (HB.out w' (J.out.trans (k2.trans kq)))).2, kq⟩))
        have FO2 : LeafOk V2 ⟨false, kd, s, []⟩ (.slice ax s.length cx) (.slice ay 0 cy) := ⟨ok'.a.off hq (by rw [hV2]; exact fun k o h => set4_cell _ _ _ _ _ _ k o h), ok'.b.off hq (by rw [hV2]; exact fun k o h => set4_cell _ _ _ _ _ _ k o h), ok'.ia, ok'.ib, ok'.na, ok'.nb⟩
        have K2 := Lib.hid k2
        have KW2 := Lib.hid (J.out.trans k2)
        have HV2 := Lib.hid hV2
        have bs := Below.size KW2.out
        have kkV2 : Kp V2 V2 := Kp.refl _
        have OW2 := Lib.hid (show V2.ownsRow W0.heap.size 47 4 (.slice a5 m.length l5) m.length (cellsV m) from by rw [hV2]; exact own_far4 (own_kp OWV.out kka) NEF.out _ _ _ _)
        have OV2 := Lib.hid (show OwnV V2 W0.heap.size m from by rw [hV2]; exact (OVV.out.kp kka).far4 hq _ _ _ _)
        have KCz := Lib.hid (fun w' (kq : Kp V2 w') => show w'.cell? ⟨wr.heap.size, 0, none⟩ = some (.bool false) ∧ w'.cell? ⟨wr.heap.size, 1, none⟩ = some (.int .i64 kd) ∧ w'.cell? ⟨wr.heap.size, 2, none⟩ = some (.slice ax s.length cx) ∧ w'.cell? ⟨wr.heap.size, 3, none⟩ = some (.slice ay 0 cy) ∧ w'.cell? ⟨w.heap.size, 0, none⟩ = some (.slice ai Kb.length ci) ∧ w'.cell? ⟨w.heap.size, 1, none⟩ = some (.slice aj D.length cj) from ⟨(KSz.out w' kq).1, (KSz.out w' kq).2.1, (KSz.out w' kq).2.2.1, (KSz.out w' kq).2.2.2.1, (KSz.out w' kq).2.2.2.2.1, (KSz.out w' kq).2.2.2.2.2.1⟩)
        clear hV2 k2 kka OWV OVV
        rw [outT_un] at LN n4'
        have ul := unsR_len (K := Kb) (D := D) (k := kd) (setB_sane sb)
        have ns : s.length ≤ 1000 := FO2.na
        have UO := Lib.hid (fun w1 (kk : Kp V2 w1) => nwUnits_any Kb D s [] kd _ _ _ _ w1 (HI.out.kp (KW2.out.trans kk)) (HD.out.kp (KW2.out.trans kk)) (FO2.kp kk) (TT.out.kp (KW2.out.trans kk)) KI.out (sane_i64 SD.out) nK nD)
        rw [show leafV ⟨false, kd, s, []⟩ (.slice ax s.length cx) (.slice ay 0 cy) = .agg #[.bool false, .int .i64 kd, .slice ax s.length cx, .slice ay 0 cy] from rfl] at UO
        have UL := Lib.hid (fun v w1 (h : RunsAt w1 v (unsR Kb D ⟨false, kd, s, []⟩)) => nwUnitLeaves_any kd v _ w1 h (by omega))
        generalize unsR Kb D ⟨false, kd, s, []⟩ = U at *
        have LNX := Lib.hid LN
        have m1 : m.length ≤ 1000000 := by omega
        have HML := Lib.hid ml
        clear FO2 ok' oo LN sb ul ns ml
        go_upto_region 7 with fail
        rw [← HV2.out]
        clear HV2 d0 d1 d2 d3 f0 f1 f2 f3
        refine wp_region_held_drew (S := fun w' => w'.cell? ⟨wr.heap.size, 0, none⟩ = some (.bool false) ∧ w'.cell? ⟨wr.heap.size, 1, none⟩ = some (.int .i64 kd) ∧ w'.cell? ⟨wr.heap.size, 2, none⟩ = some (.slice ax s.length cx) ∧ w'.cell? ⟨wr.heap.size, 3, none⟩ = some (.slice ay 0 cy) ∧ w'.cell? ⟨w.heap.size, 0, none⟩ = some (.slice ai Kb.length ci) ∧ w'.cell? ⟨w.heap.size, 1, none⟩ = some (.slice aj D.length cj)) (by kernel_rfl) ?_ (fun hHeld0 => ?_)
        · (try dsimp only); exact KCz.out _ (by first | with_reducible exact kkV2 | ((repeat (first | with_reducible refine Kp.trans ?_ (Kp.drew _) | with_reducible refine Kp.trans ?_ (Kp.alloc _ _))); with_reducible exact kkV2))
        refine tkW (v := ?_) 0 nwnA0 rfl (by kernel_rfl) (by kernel_rfl) (by kernel_rfl) (fun _ _ _ h => h) (by rfl) ?_ (by assumption) ?_
        rotate_left
        · intro w hSw; (try dsimp only at hSw); go_simp; (try with_reducible rfl)
        (try simp only [Act.put, nwnA0, List.setIfInBounds_toArray, List.set_cons_zero, List.set_cons_succ])
        refine tkW (v := ?_) 1 nwnA1 rfl (by kernel_rfl) (by kernel_rfl) (by kernel_rfl) (fun _ _ _ h => h) (by rfl) ?_ (by assumption) ?_
        rotate_left
        · intro w hSw; (try dsimp only at hSw); go_simp; (try with_reducible rfl)
        (try simp only [Act.put, nwnA1, List.setIfInBounds_toArray, List.set_cons_zero, List.set_cons_succ])
        refine tkW (v := ?_) 2 nwnA2 rfl (by kernel_rfl) (by kernel_rfl) (by kernel_rfl) (fun _ _ _ h => h) (by rfl) ?_ (by assumption) ?_
        rotate_left
        · intro w hSw; (try dsimp only at hSw); go_simp; (try with_reducible rfl)
        (try simp only [Act.put, nwnA2, List.setIfInBounds_toArray, List.set_cons_zero, List.set_cons_succ])
        refine tkW (v := ?_) 3 nwnA3 rfl (by kernel_rfl) (by kernel_rfl) (by kernel_rfl) (fun _ _ _ h => h) (by rfl) ?_ (by assumption) ?_
        rotate_left
        · intro w hSw; (try dsimp only at hSw); go_simp; (try with_reducible rfl)
        (try simp only [Act.put, nwnA3, List.setIfInBounds_toArray, List.set_cons_zero, List.set_cons_succ])
        refine tkW (v := ?_) 4 nwnA4 rfl (by kernel_rfl) (by kernel_rfl) (by kernel_rfl) (fun _ _ _ h => h) (by rfl) ?_ (by assumption) ?_
        rotate_left
        · intro w hSw; (try dsimp only at hSw); go_simp; (try with_reducible rfl)
        (try simp only [Act.put, nwnA4, List.setIfInBounds_toArray, List.set_cons_zero, List.set_cons_succ])
        refine tkE 5 nwnA5 rfl (by kernel_rfl) (fun K hK => ?_)
        go_simp
        (refine (UO.out _ (by first | with_reducible exact kkV2 | ((repeat (first | with_reducible refine Kp.trans ?_ (Kp.drew _) | with_reducible refine Kp.trans ?_ (Kp.alloc _ _))); with_reducible exact kkV2))).mono ?_; rintro e wb ⟨v1, rfl, o1, kq1⟩; have kkwb : Kp V2 wb := Kp.trans (show Kp V2 _ from (by first | with_reducible exact kkV2 | ((repeat (first | with_reducible refine Kp.trans ?_ (Kp.drew _) | with_reducible refine Kp.trans ?_ (Kp.alloc _ _))); with_reducible exact kkV2))) kq1; obtain ⟨a1, l1, rfl⟩ := own_slice o1; have O1 := Lib.hid (runsAt_own o1); clear o1; clear kq1)
        (try go_wp2_with fail)
        refine hK.out _ _ ?_ (fun hHeld1 => ?_)
        · (try dsimp only); exact KCz.out _ (by first | with_reducible exact kkwb | ((repeat (first | with_reducible refine Kp.trans ?_ (Kp.drew _) | with_reducible refine Kp.trans ?_ (Kp.alloc _ _))); with_reducible exact kkwb))
        clear hK K hHeld0
        (try simp only [Act.put, nwnA5, List.setIfInBounds_toArray, List.set_cons_zero, List.set_cons_succ])
        refine tkE 6 nwnA6 rfl (by kernel_rfl) (fun K hK => ?_)
        go_simp
        (refine (UL.out _ _ (O1.out.kp (by first | with_reducible exact (Kp.refl wb) | ((repeat (first | with_reducible refine Kp.trans ?_ (Kp.drew _) | with_reducible refine Kp.trans ?_ (Kp.alloc _ _))); with_reducible exact (Kp.refl wb))))).mono ?_; rintro e wc ⟨v6, m6, rfl, hm6, ov6, ow6, kq1⟩; have kkwc : Kp V2 wc := Kp.trans (show Kp V2 _ from (by first | with_reducible exact kkwb | ((repeat (first | with_reducible refine Kp.trans ?_ (Kp.drew _) | with_reducible refine Kp.trans ?_ (Kp.alloc _ _))); with_reducible exact kkwb))) kq1; obtain ⟨a6, l6, rfl⟩ := own_slice4 ow6; have OL := Lib.hid ow6; have OM := Lib.hid (ov6.mono (Nat.le_trans bs (Below.size (show Kp V2 _ from (by first | with_reducible exact kkwb | ((repeat (first | with_reducible refine Kp.trans ?_ (Kp.drew _) | with_reducible refine Kp.trans ?_ (Kp.alloc _ _))); with_reducible exact kkwb)))))); have HM6 := Lib.hid hm6; have l6b : m6.length ≤ 1000000 := (by have := congrArg List.length hm6; rw [List.length_map] at this; omega); clear ow6 ov6 hm6; clear kq1)
        (try go_wp2_with fail)
        refine hK.out _ _ ?_ (fun hHeld2 => ?_)
        · (try dsimp only); exact KCz.out _ (by first | with_reducible exact kkwc | ((repeat (first | with_reducible refine Kp.trans ?_ (Kp.drew _) | with_reducible refine Kp.trans ?_ (Kp.alloc _ _))); with_reducible exact kkwc))
        clear hK K hHeld1
        (try simp only [Act.put, nwnA6, List.setIfInBounds_toArray, List.set_cons_zero, List.set_cons_succ])
        refine tkE 7 nwnA7 rfl (by kernel_rfl) (fun K hK => ?_)
        (refine step_appS rfl (.tmp 22) (.tmp 28) 22 rfl W0.heap.size 47 h0 _ 4 64 Tryz.underlying22 hi hz0 hz1 hz2 rfl (by decide) (.slice a5 m.length l5) (m.length) (cellsV m) (by simp [Act.eval, Act.put]) (own_kp OW2.out (show Kp V2 _ from (by first | with_reducible exact kkwc | ((repeat (first | with_reducible refine Kp.trans ?_ (Kp.drew _) | with_reducible refine Kp.trans ?_ (Kp.alloc _ _))); with_reducible exact kkwc)))) (.slice a6 m6.length l6) (m6.length) (cellsV m6) (by simp [Act.eval, Act.put]) (own_srcV (own_kp OL.out (by first | with_reducible exact (Kp.refl wc) | ((repeat (first | with_reducible refine Kp.trans ?_ (Kp.drew _) | with_reducible refine Kp.trans ?_ (Kp.alloc _ _))); with_reducible exact (Kp.refl wc))))) (cellsV_length _) (cellsV_one (OwnV.reads (OM.out.kp (by first | with_reducible exact (Kp.refl wc) | ((repeat (first | with_reducible refine Kp.trans ?_ (Kp.drew _) | with_reducible refine Kp.trans ?_ (Kp.alloc _ _))); with_reducible exact (Kp.refl wc)))))) (by (try simp only [List.length_append, List.length_cons, List.length_nil]); unfold maxLen; omega) (by (try simp only [List.length_append, List.length_cons, List.length_nil]); omega) (Nat.le_trans bs (Below.size (show Kp V2 _ from (by first | with_reducible exact kkwc | ((repeat (first | with_reducible refine Kp.trans ?_ (Kp.drew _) | with_reducible refine Kp.trans ?_ (Kp.alloc _ _))); with_reducible exact kkwc))))) ?_; intro v7 w7 hown hgrow hat; have SG := Lib.hid (show w7.cell? ⟨wr.heap.size, 0, none⟩ = some (.bool false) ∧ w7.cell? ⟨wr.heap.size, 1, none⟩ = some (.int .i64 kd) ∧ w7.cell? ⟨wr.heap.size, 2, none⟩ = some (.slice ax s.length cx) ∧ w7.cell? ⟨wr.heap.size, 3, none⟩ = some (.slice ay 0 cy) ∧ w7.cell? ⟨w.heap.size, 0, none⟩ = some (.slice ai Kb.length ci) ∧ w7.cell? ⟨w.heap.size, 1, none⟩ = some (.slice aj D.length cj) from ⟨grown_up hgrow (KCz.out _ (by first | with_reducible exact kkwc | ((repeat (first | with_reducible refine Kp.trans ?_ (Kp.drew _) | with_reducible refine Kp.trans ?_ (Kp.alloc _ _))); with_reducible exact kkwc))).1 NEF.out, grown_up hgrow (KCz.out _ (by first | with_reducible exact kkwc | ((repeat (first | with_reducible refine Kp.trans ?_ (Kp.drew _) | with_reducible refine Kp.trans ?_ (Kp.alloc _ _))); with_reducible exact kkwc))).2.1 NEF.out, grown_up hgrow (KCz.out _ (by first | with_reducible exact kkwc | ((repeat (first | with_reducible refine Kp.trans ?_ (Kp.drew _) | with_reducible refine Kp.trans ?_ (Kp.alloc _ _))); with_reducible exact kkwc))).2.2.1 NEF.out, grown_up hgrow (KCz.out _ (by first | with_reducible exact kkwc | ((repeat (first | with_reducible refine Kp.trans ?_ (Kp.drew _) | with_reducible refine Kp.trans ?_ (Kp.alloc _ _))); with_reducible exact kkwc))).2.2.2.1 NEF.out, grown_up hgrow (KCz.out _ (by first | with_reducible exact kkwc | ((repeat (first | with_reducible refine Kp.trans ?_ (Kp.drew _) | with_reducible refine Kp.trans ?_ (Kp.alloc _ _))); with_reducible exact kkwc))).2.2.2.2.1 NEB.out, grown_up hgrow (KCz.out _ (by first | with_reducible exact kkwc | ((repeat (first | with_reducible refine Kp.trans ?_ (Kp.drew _) | with_reducible refine Kp.trans ?_ (Kp.alloc _ _))); with_reducible exact kkwc))).2.2.2.2.2 NEB.out⟩); have SGU := Lib.hid (fun w' (kq : Kp w7 w') => show w'.cell? ⟨wr.heap.size, 0, none⟩ = some (.bool false) ∧ w'.cell? ⟨wr.heap.size, 1, none⟩ = some (.int .i64 kd) ∧ w'.cell? ⟨wr.heap.size, 2, none⟩ = some (.slice ax s.length cx) ∧ w'.cell? ⟨wr.heap.size, 3, none⟩ = some (.slice ay 0 cy) ∧ w'.cell? ⟨w.heap.size, 0, none⟩ = some (.slice ai Kb.length ci) ∧ w'.cell? ⟨w.heap.size, 1, none⟩ = some (.slice aj D.length cj) from ⟨cell_up kq SG.out.1, cell_up kq SG.out.2.1, cell_up kq SG.out.2.2.1, cell_up kq SG.out.2.2.2.1, cell_up kq SG.out.2.2.2.2.1, cell_up kq SG.out.2.2.2.2.2⟩); have OV7 := Lib.hid (((OV2.out.kp (show Kp V2 _ from (by first | with_reducible exact kkwc | ((repeat (first | with_reducible refine Kp.trans ?_ (Kp.drew _) | with_reducible refine Kp.trans ?_ (Kp.alloc _ _))); with_reducible exact kkwc)))).append (OM.out.kp (by first | with_reducible exact (Kp.refl wc) | ((repeat (first | with_reducible refine Kp.trans ?_ (Kp.drew _) | with_reducible refine Kp.trans ?_ (Kp.alloc _ _))); with_reducible exact (Kp.refl wc))))).grown hgrow (own_kp OW2.out (show Kp V2 _ from (by first | with_reducible exact kkwc | ((repeat (first | with_reducible refine Kp.trans ?_ (Kp.drew _) | with_reducible refine Kp.trans ?_ (Kp.alloc _ _))); with_reducible exact kkwc))))); have OW7 := Lib.hid hown; have KG := Lib.hid (Kp.grown (show Kp W0 _ from KW2.out.trans (by first | with_reducible exact kkwc | ((repeat (first | with_reducible refine Kp.trans ?_ (Kp.drew _) | with_reducible refine Kp.trans ?_ (Kp.alloc _ _))); with_reducible exact kkwc))) hgrow (fun j hj => (OW2.out.lt j hj).1)); clear hown hgrow hat)
        (try go_wp2_with fail)
        refine hK.out _ _ ?_ (fun hHeld3 => ?_)
        · (try dsimp only); exact SGU.out _ (by first | with_reducible exact (Kp.refl w7) | ((repeat (first | with_reducible refine Kp.trans ?_ (Kp.drew _) | with_reducible refine Kp.trans ?_ (Kp.alloc _ _))); with_reducible exact (Kp.refl w7)))
        clear hK K hHeld2
        (try simp only [Act.put, nwnA7, List.setIfInBounds_toArray, List.set_cons_zero, List.set_cons_succ])
        refine tkW (v := ?_) 8 nwnA8 rfl (by kernel_rfl) (by kernel_rfl) (by kernel_rfl) (fun _ _ _ h => h) (by rfl) ?_ (by assumption) ?_
        rotate_left
        · intro w hSw; (try dsimp only at hSw); go_simp; (try with_reducible rfl)
        (try simp only [Act.put, nwnA8, List.setIfInBounds_toArray, List.set_cons_zero, List.set_cons_succ])
        refine wpAnyH_done (by kernel_rfl) ?_ _
        go_wp2
        go_roundw
        case rel => exact ⟨k + 1, m ++ m6, by omega, by go_num, Lib.hid (by rw [List.map_append, HM.out, HM6.out, LNX.out]), Lib.hid (OV7.out.kp (by first | with_reducible exact (Kp.refl w7) | ((repeat (first | with_reducible refine Kp.trans ?_ (Kp.drew _) | with_reducible refine Kp.trans ?_ (Kp.alloc _ _))); with_reducible exact (Kp.refl w7)))), Lib.hid (by rw [List.length_append, cellsV_append]; exact own_kp OW7.out (by first | with_reducible exact (Kp.refl w7) | ((repeat (first | with_reducible refine Kp.trans ?_ (Kp.drew _) | with_reducible refine Kp.trans ?_ (Kp.alloc _ _))); with_reducible exact (Kp.refl w7)))), Lib.hid (KG.out.trans (by first | with_reducible exact (Kp.refl w7) | ((repeat (first | with_reducible refine Kp.trans ?_ (Kp.drew _) | with_reducible refine Kp.trans ?_ (Kp.alloc _ _))); with_reducible exact (Kp.refl w7))))⟩
        case measure => simp [intOf]; omega
      · subst hg
        obtain ⟨ax, cx, rfl⟩ := ok'.a.slice
        obtain ⟨ay, cy, rfl⟩ := ok'.b.slice
        have ltB := heap_lt GQv0.out
        unfold leafV
        simp only
        have hq := heap_block kka GQv0.out
        have f0 : wa.frozen? ⟨wr.heap.size, 0, none⟩ = false := by simp [World.frozen?, hq]
        have f1 : wa.frozen? ⟨wr.heap.size, 1, none⟩ = false := by simp [World.frozen?, hq]
        have f2 : wa.frozen? ⟨wr.heap.size, 2, none⟩ = false := by simp [World.frozen?, hq]
        have f3 : wa.frozen? ⟨wr.heap.size, 3, none⟩ = false := by simp [World.frozen?, hq]
        obtain ⟨d0, d1, d2, d3⟩ := row4 hq
        obtain ⟨V2, hV2⟩ : ∃ x, x = (((wa.setCell ⟨wr.heap.size, 0, none⟩ (.bool true)).setCell ⟨wr.heap.size, 1, none⟩ (.int .i64 0)).setCell ⟨wr.heap.size, 2, none⟩ (.slice ax s.length cx)).setCell ⟨wr.heap.size, 3, none⟩ (.slice ay e'.length cy) := ⟨_, rfl⟩
        have k2 : Kp wr V2 := by rw [hV2]; exact set4_below (KV.out.trans kka) wr.heap.size (Nat.le_refl _) _ _ _ _
        have KSz := Lib.hid (fun w' (kq : Kp V2 w') => show w'.cell? ⟨wr.heap.size, 0, none⟩ = some (.bool true) ∧ w'.cell? ⟨wr.heap.size, 1, none⟩ = some (.int .i64 0) ∧ w'.cell? ⟨wr.heap.size, 2, none⟩ = some (.slice ax s.length cx) ∧ w'.cell? ⟨wr.heap.size, 3, none⟩ = some (.slice ay e'.length cy) ∧ w'.cell? ⟨w.heap.size, 0, none⟩ = some (.slice ai Kb.length ci) ∧ w'.cell? ⟨w.heap.size, 1, none⟩ = some (.slice aj D.length cj) ∧ Kp V2 w' from (by rw [hV2] at kq; obtain ⟨z0, z1, z2, z3⟩ := set4_read hq _ _ _ _ kq; rw [← hV2] at kq; exact ⟨z0, z1, z2, z3, (row2 (HB.out w' (J.out.trans (k2.trans kq)))).1, (row2 (HB.out w' (J.out.trans (k2.trans kq)))).2, kq⟩))
        have OS2 := Lib.hid (show OwnR V2 W0.heap.size (.slice ax s.length cx) s from own_mono (by rw [hV2]; exact own_far4 (oo rfl).1 (own_below (oo rfl).1 ltB) _ _ _ _) (Below.size (J.out.trans KV.out)))
        have OE2 := Lib.hid (show OwnR V2 W0.heap.size (.slice ay e'.length cy) e' from own_mono (by rw [hV2]; exact own_far4 (oo rfl).2 (own_below (oo rfl).2 ltB) _ _ _ _) (Below.size (J.out.trans KV.out)))
        have FB2 := Lib.hid (show V2.heap[wr.heap.size]? = some (.cells #[.bool true, .int .i64 0, .slice ax s.length cx, .slice ay e'.length cy] 47 (0, 0)) from by rw [hV2]; exact set4_heap hq _ _ _ _)
        have ltB2 := heap_lt FB2.out
        have K2 := Lib.hid k2
        have KW2 := Lib.hid (J.out.trans k2)
        have HV2 := Lib.hid hV2
        have bs := Below.size KW2.out
        have kkV2 : Kp V2 V2 := Kp.refl _
        have OW2 := Lib.hid (show V2.ownsRow W0.heap.size 47 4 (.slice a5 m.length l5) m.length (cellsV m) from by rw [hV2]; exact own_far4 (own_kp OWV.out kka) NEF.out _ _ _ _)
        have OV2 := Lib.hid (show OwnV V2 W0.heap.size m from by rw [hV2]; exact (OVV.out.kp kka).far4 hq _ _ _ _)
        have KCz := Lib.hid (fun w' (kq : Kp V2 w') => show w'.cell? ⟨wr.heap.size, 0, none⟩ = some (.bool true) ∧ w'.cell? ⟨wr.heap.size, 1, none⟩ = some (.int .i64 0) ∧ w'.cell? ⟨wr.heap.size, 2, none⟩ = some (.slice ax s.length cx) ∧ w'.cell? ⟨wr.heap.size, 3, none⟩ = some (.slice ay e'.length cy) ∧ w'.cell? ⟨w.heap.size, 0, none⟩ = some (.slice ai Kb.length ci) ∧ w'.cell? ⟨w.heap.size, 1, none⟩ = some (.slice aj D.length cj) from ⟨(KSz.out w' kq).1, (KSz.out w' kq).2.1, (KSz.out w' kq).2.2.1, (KSz.out w' kq).2.2.2.1, (KSz.out w' kq).2.2.2.2.1, (KSz.out w' kq).2.2.2.2.2.1⟩)
        clear hV2 k2 kka OWV OVV
        rw [outT_sp] at LN n4'
        have ns : s.length ≤ 1000 := ok'.na
        have ne : e'.length ≤ 1000 := ok'.nb
        have nq := interR_len (setB_sane s1) (setB_sane s2)
        have nr := interR_len (interR_sane s e') SD.out
        rw [List.length_append] at n4'
        have M1 := Lib.hid (fun w1 (kk : Kp V2 w1) => meet_any _ _ s e' w1 (OwnR.runs (own_kp OS2.out kk)) (OwnR.runs (own_kp OE2.out kk)) (sane_i64 (setB_sane s1)) (sane_i64 (setB_sane s2)) (by omega) (by omega))
        have M2 := Lib.hid (fun v w1 (kk : Kp V2 w1) (h : RunsAt w1 v (interR s e')) => meet_any v (.slice aj D.length cj) (interR s e') D w1 h (HD.out.kp (KW2.out.trans kk)) (sane_i64 (interR_sane _ _)) (sane_i64 SD.out) (by omega) (by omega))
        have UL := Lib.hid (fun v w1 (h : RunsAt w1 v (interR (interR s e') D)) => nwUnitLeaves_any 0 v _ w1 h (by omega))
        have PR := Lib.hid (fun j h t => parts_rest (K := Kb) s1 s2 UP.out (j := j) h t)
        have PK := Lib.hid (fun r h => part_skip (r := r) s1 s2 h)
        generalize interR (interR s e') D = U at *
        generalize interR s e' = Q1 at *
        have LNX := Lib.hid LN
        have m1 : m.length ≤ 1000000 := by omega
        have HML := Lib.hid ml
        clear ok' oo LN nq nr ml
        go_upto_region 8 with fail
        rw [← HV2.out]
        clear HV2 d0 d1 d2 d3 f0 f1 f2 f3
        refine wp_region_held_drew (S := fun w' => w'.cell? ⟨wr.heap.size, 0, none⟩ = some (.bool true) ∧ w'.cell? ⟨wr.heap.size, 1, none⟩ = some (.int .i64 0) ∧ w'.cell? ⟨wr.heap.size, 2, none⟩ = some (.slice ax s.length cx) ∧ w'.cell? ⟨wr.heap.size, 3, none⟩ = some (.slice ay e'.length cy) ∧ w'.cell? ⟨w.heap.size, 0, none⟩ = some (.slice ai Kb.length ci) ∧ w'.cell? ⟨w.heap.size, 1, none⟩ = some (.slice aj D.length cj)) (by kernel_rfl) ?_ (fun hHeld0 => ?_)
        · (try dsimp only); exact KCz.out _ (by first | with_reducible exact kkV2 | ((repeat (first | with_reducible refine Kp.trans ?_ (Kp.drew _) | with_reducible refine Kp.trans ?_ (Kp.alloc _ _))); with_reducible exact kkV2))
        refine tkW (v := ?_) 0 nwnB0 rfl (by kernel_rfl) (by kernel_rfl) (by kernel_rfl) (fun _ _ _ h => h) (by rfl) ?_ (by assumption) ?_
        rotate_left
        · intro w hSw; (try dsimp only at hSw); go_simp; (try with_reducible rfl)
        (try simp only [Act.put, nwnB0, List.setIfInBounds_toArray, List.set_cons_zero, List.set_cons_succ])
        refine tkW (v := ?_) 1 nwnB1 rfl (by kernel_rfl) (by kernel_rfl) (by kernel_rfl) (fun _ _ _ h => h) (by rfl) ?_ (by assumption) ?_
        rotate_left
        · intro w hSw; (try dsimp only at hSw); go_simp; (try with_reducible rfl)
        (try simp only [Act.put, nwnB1, List.setIfInBounds_toArray, List.set_cons_zero, List.set_cons_succ])
        refine tkW (v := ?_) 2 nwnB2 rfl (by kernel_rfl) (by kernel_rfl) (by kernel_rfl) (fun _ _ _ h => h) (by rfl) ?_ (by assumption) ?_
        rotate_left
        · intro w hSw; (try dsimp only at hSw); go_simp; (try with_reducible rfl)
        (try simp only [Act.put, nwnB2, List.setIfInBounds_toArray, List.set_cons_zero, List.set_cons_succ])
        refine tkW (v := ?_) 3 nwnB3 rfl (by kernel_rfl) (by kernel_rfl) (by kernel_rfl) (fun _ _ _ h => h) (by rfl) ?_ (by assumption) ?_
        rotate_left
        · intro w hSw; (try dsimp only at hSw); go_simp; (try with_reducible rfl)
        (try simp only [Act.put, nwnB3, List.setIfInBounds_toArray, List.set_cons_zero, List.set_cons_succ])
        refine tkW (v := ?_) 4 nwnB4 rfl (by kernel_rfl) (by kernel_rfl) (by kernel_rfl) (fun _ _ _ h => h) (by rfl) ?_ (by assumption) ?_
        rotate_left
        · intro w hSw; (try dsimp only at hSw); go_simp; (try with_reducible rfl)
        (try simp only [Act.put, nwnB4, List.setIfInBounds_toArray, List.set_cons_zero, List.set_cons_succ])
        refine tkW (v := ?_) 6 nwnB6 rfl (by kernel_rfl) (by kernel_rfl) (by kernel_rfl) (fun _ _ _ h => h) (by rfl) ?_ (by assumption) ?_
        rotate_left
        · intro w hSw; (try dsimp only at hSw); go_simp; (try with_reducible rfl)
        (try simp only [Act.put, nwnB6, List.setIfInBounds_toArray, List.set_cons_zero, List.set_cons_succ])
        refine tkW (v := ?_) 7 nwnB7 rfl (by kernel_rfl) (by kernel_rfl) (by kernel_rfl) (fun _ _ _ h => h) (by rfl) ?_ (by assumption) ?_
        rotate_left
        · intro w hSw; (try dsimp only at hSw); go_simp; (try with_reducible rfl)
        (try simp only [Act.put, nwnB7, List.setIfInBounds_toArray, List.set_cons_zero, List.set_cons_succ])
        refine tkE 5 nwnB5 rfl (by kernel_rfl) (fun K hK => ?_)
        go_simp
        (refine (M1.out _ (by first | with_reducible exact kkV2 | ((repeat (first | with_reducible refine Kp.trans ?_ (Kp.drew _) | with_reducible refine Kp.trans ?_ (Kp.alloc _ _))); with_reducible exact kkV2))).mono ?_; rintro e wb ⟨v1, rfl, o1, kq1⟩; have kkwb : Kp V2 wb := Kp.trans (show Kp V2 _ from (by first | with_reducible exact kkV2 | ((repeat (first | with_reducible refine Kp.trans ?_ (Kp.drew _) | with_reducible refine Kp.trans ?_ (Kp.alloc _ _))); with_reducible exact kkV2))) kq1; obtain ⟨a1, l1, rfl⟩ := own_slice o1; have O1 := Lib.hid (runsAt_own o1); clear o1; clear kq1)
        (try go_wp2_with fail)
        refine hK.out _ _ ?_ (fun hHeld1 => ?_)
        · (try dsimp only); exact KCz.out _ (by first | with_reducible exact kkwb | ((repeat (first | with_reducible refine Kp.trans ?_ (Kp.drew _) | with_reducible refine Kp.trans ?_ (Kp.alloc _ _))); with_reducible exact kkwb))
        clear hK K hHeld0
        (try simp only [Act.put, nwnB5, List.setIfInBounds_toArray, List.set_cons_zero, List.set_cons_succ])
        refine tkE 8 nwnB8 rfl (by kernel_rfl) (fun K hK => ?_)
        go_simp
        (refine (M2.out _ _ (by first | with_reducible exact kkwb | ((repeat (first | with_reducible refine Kp.trans ?_ (Kp.drew _) | with_reducible refine Kp.trans ?_ (Kp.alloc _ _))); with_reducible exact kkwb)) (O1.out.kp (by first | with_reducible exact (Kp.refl wb) | ((repeat (first | with_reducible refine Kp.trans ?_ (Kp.drew _) | with_reducible refine Kp.trans ?_ (Kp.alloc _ _))); with_reducible exact (Kp.refl wb))))).mono ?_; rintro e wc ⟨v2, rfl, o2, kq1⟩; have kkwc : Kp V2 wc := Kp.trans (show Kp V2 _ from (by first | with_reducible exact kkwb | ((repeat (first | with_reducible refine Kp.trans ?_ (Kp.drew _) | with_reducible refine Kp.trans ?_ (Kp.alloc _ _))); with_reducible exact kkwb))) kq1; obtain ⟨a2, l2, rfl⟩ := own_slice o2; have O2 := Lib.hid (runsAt_own o2); clear o2; clear kq1)
        (try go_wp2_with fail)
        refine hK.out _ _ ?_ (fun hHeld2 => ?_)
        · (try dsimp only); exact KCz.out _ (by first | with_reducible exact kkwc | ((repeat (first | with_reducible refine Kp.trans ?_ (Kp.drew _) | with_reducible refine Kp.trans ?_ (Kp.alloc _ _))); with_reducible exact kkwc))
        clear hK K hHeld1
        (try simp only [Act.put, nwnB8, List.setIfInBounds_toArray, List.set_cons_zero, List.set_cons_succ])
        refine tkE 9 nwnB9 rfl (by kernel_rfl) (fun K hK => ?_)
        go_simp
        (refine (UL.out _ _ (O2.out.kp (by first | with_reducible exact (Kp.refl wc) | ((repeat (first | with_reducible refine Kp.trans ?_ (Kp.drew _) | with_reducible refine Kp.trans ?_ (Kp.alloc _ _))); with_reducible exact (Kp.refl wc))))).mono ?_; rintro e wd ⟨v6, m6, rfl, hm6, ov6, ow6, kq1⟩; have kkwd : Kp V2 wd := Kp.trans (show Kp V2 _ from (by first | with_reducible exact kkwc | ((repeat (first | with_reducible refine Kp.trans ?_ (Kp.drew _) | with_reducible refine Kp.trans ?_ (Kp.alloc _ _))); with_reducible exact kkwc))) kq1; obtain ⟨a6, l6, rfl⟩ := own_slice4 ow6; have OL := Lib.hid ow6; have OM := Lib.hid (ov6.mono (Nat.le_trans bs (Below.size (show Kp V2 _ from (by first | with_reducible exact kkwc | ((repeat (first | with_reducible refine Kp.trans ?_ (Kp.drew _) | with_reducible refine Kp.trans ?_ (Kp.alloc _ _))); with_reducible exact kkwc)))))); have HM6 := Lib.hid hm6; have l6b : m6.length ≤ 1000000 := (by have := congrArg List.length hm6; rw [List.length_map] at this; omega); clear ow6 ov6 hm6; clear kq1)
        (try go_wp2_with fail)
        refine hK.out _ _ ?_ (fun hHeld3 => ?_)
        · (try dsimp only); exact KCz.out _ (by first | with_reducible exact kkwd | ((repeat (first | with_reducible refine Kp.trans ?_ (Kp.drew _) | with_reducible refine Kp.trans ?_ (Kp.alloc _ _))); with_reducible exact kkwd))
        clear hK K hHeld2
        (try simp only [Act.put, nwnB9, List.setIfInBounds_toArray, List.set_cons_zero, List.set_cons_succ])
        refine tkE 10 nwnB10 rfl (by kernel_rfl) (fun K hK => ?_)
        (refine step_appS rfl (.tmp 30) (.tmp 39) 22 rfl W0.heap.size 47 h0 _ 4 64 Tryz.underlying22 hi hz0 hz1 hz2 rfl (by decide) (.slice a5 m.length l5) (m.length) (cellsV m) (by simp [Act.eval, Act.put]) (own_kp OW2.out (show Kp V2 _ from (by first | with_reducible exact kkwd | ((repeat (first | with_reducible refine Kp.trans ?_ (Kp.drew _) | with_reducible refine Kp.trans ?_ (Kp.alloc _ _))); with_reducible exact kkwd)))) (.slice a6 m6.length l6) (m6.length) (cellsV m6) (by simp [Act.eval, Act.put]) (own_srcV (own_kp OL.out (by first | with_reducible exact (Kp.refl wd) | ((repeat (first | with_reducible refine Kp.trans ?_ (Kp.drew _) | with_reducible refine Kp.trans ?_ (Kp.alloc _ _))); with_reducible exact (Kp.refl wd))))) (cellsV_length _) (cellsV_one (OwnV.reads (OM.out.kp (by first | with_reducible exact (Kp.refl wd) | ((repeat (first | with_reducible refine Kp.trans ?_ (Kp.drew _) | with_reducible refine Kp.trans ?_ (Kp.alloc _ _))); with_reducible exact (Kp.refl wd)))))) (by (try simp only [List.length_append, List.length_cons, List.length_nil]); unfold maxLen; omega) (by (try simp only [List.length_append, List.length_cons, List.length_nil]); omega) (Nat.le_trans bs (Below.size (show Kp V2 _ from (by first | with_reducible exact kkwd | ((repeat (first | with_reducible refine Kp.trans ?_ (Kp.drew _) | with_reducible refine Kp.trans ?_ (Kp.alloc _ _))); with_reducible exact kkwd))))) ?_; intro v7 w7 hown hgrow hat; have SG := Lib.hid (show w7.cell? ⟨wr.heap.size, 0, none⟩ = some (.bool true) ∧ w7.cell? ⟨wr.heap.size, 1, none⟩ = some (.int .i64 0) ∧ w7.cell? ⟨wr.heap.size, 2, none⟩ = some (.slice ax s.length cx) ∧ w7.cell? ⟨wr.heap.size, 3, none⟩ = some (.slice ay e'.length cy) ∧ w7.cell? ⟨w.heap.size, 0, none⟩ = some (.slice ai Kb.length ci) ∧ w7.cell? ⟨w.heap.size, 1, none⟩ = some (.slice aj D.length cj) from ⟨grown_up hgrow (KCz.out _ (by first | with_reducible exact kkwd | ((repeat (first | with_reducible refine Kp.trans ?_ (Kp.drew _) | with_reducible refine Kp.trans ?_ (Kp.alloc _ _))); with_reducible exact kkwd))).1 NEF.out, grown_up hgrow (KCz.out _ (by first | with_reducible exact kkwd | ((repeat (first | with_reducible refine Kp.trans ?_ (Kp.drew _) | with_reducible refine Kp.trans ?_ (Kp.alloc _ _))); with_reducible exact kkwd))).2.1 NEF.out, grown_up hgrow (KCz.out _ (by first | with_reducible exact kkwd | ((repeat (first | with_reducible refine Kp.trans ?_ (Kp.drew _) | with_reducible refine Kp.trans ?_ (Kp.alloc _ _))); with_reducible exact kkwd))).2.2.1 NEF.out, grown_up hgrow (KCz.out _ (by first | with_reducible exact kkwd | ((repeat (first | with_reducible refine Kp.trans ?_ (Kp.drew _) | with_reducible refine Kp.trans ?_ (Kp.alloc _ _))); with_reducible exact kkwd))).2.2.2.1 NEF.out, grown_up hgrow (KCz.out _ (by first | with_reducible exact kkwd | ((repeat (first | with_reducible refine Kp.trans ?_ (Kp.drew _) | with_reducible refine Kp.trans ?_ (Kp.alloc _ _))); with_reducible exact kkwd))).2.2.2.2.1 NEB.out, grown_up hgrow (KCz.out _ (by first | with_reducible exact kkwd | ((repeat (first | with_reducible refine Kp.trans ?_ (Kp.drew _) | with_reducible refine Kp.trans ?_ (Kp.alloc _ _))); with_reducible exact kkwd))).2.2.2.2.2 NEB.out⟩); have SGU := Lib.hid (fun w' (kq : Kp w7 w') => show w'.cell? ⟨wr.heap.size, 0, none⟩ = some (.bool true) ∧ w'.cell? ⟨wr.heap.size, 1, none⟩ = some (.int .i64 0) ∧ w'.cell? ⟨wr.heap.size, 2, none⟩ = some (.slice ax s.length cx) ∧ w'.cell? ⟨wr.heap.size, 3, none⟩ = some (.slice ay e'.length cy) ∧ w'.cell? ⟨w.heap.size, 0, none⟩ = some (.slice ai Kb.length ci) ∧ w'.cell? ⟨w.heap.size, 1, none⟩ = some (.slice aj D.length cj) from ⟨cell_up kq SG.out.1, cell_up kq SG.out.2.1, cell_up kq SG.out.2.2.1, cell_up kq SG.out.2.2.2.1, cell_up kq SG.out.2.2.2.2.1, cell_up kq SG.out.2.2.2.2.2⟩); have OV7 := Lib.hid (((OV2.out.kp (show Kp V2 _ from (by first | with_reducible exact kkwd | ((repeat (first | with_reducible refine Kp.trans ?_ (Kp.drew _) | with_reducible refine Kp.trans ?_ (Kp.alloc _ _))); with_reducible exact kkwd)))).append (OM.out.kp (by first | with_reducible exact (Kp.refl wd) | ((repeat (first | with_reducible refine Kp.trans ?_ (Kp.drew _) | with_reducible refine Kp.trans ?_ (Kp.alloc _ _))); with_reducible exact (Kp.refl wd))))).grown hgrow (own_kp OW2.out (show Kp V2 _ from (by first | with_reducible exact kkwd | ((repeat (first | with_reducible refine Kp.trans ?_ (Kp.drew _) | with_reducible refine Kp.trans ?_ (Kp.alloc _ _))); with_reducible exact kkwd))))); have OW7 := Lib.hid hown; have KG := Lib.hid (Kp.grown (show Kp W0 _ from KW2.out.trans (by first | with_reducible exact kkwd | ((repeat (first | with_reducible refine Kp.trans ?_ (Kp.drew _) | with_reducible refine Kp.trans ?_ (Kp.alloc _ _))); with_reducible exact kkwd))) hgrow (fun j hj => (OW2.out.lt j hj).1)); have OS7 := Lib.hid (own_apart (own_kp OS2.out (show Kp V2 _ from (by first | with_reducible exact kkwd | ((repeat (first | with_reducible refine Kp.trans ?_ (Kp.drew _) | with_reducible refine Kp.trans ?_ (Kp.alloc _ _))); with_reducible exact kkwd)))) hgrow (own_types OW2.out OS2.out (by decide))); have OE7 := Lib.hid (own_apart (own_kp OE2.out (show Kp V2 _ from (by first | with_reducible exact kkwd | ((repeat (first | with_reducible refine Kp.trans ?_ (Kp.drew _) | with_reducible refine Kp.trans ?_ (Kp.alloc _ _))); with_reducible exact kkwd)))) hgrow (own_types OW2.out OE2.out (by decide))); have NE7 := Lib.hid (ne_next hat NEF.out (Nat.lt_of_lt_of_le ltB2 (Below.size (show Kp V2 _ from (by first | with_reducible exact kkwd | ((repeat (first | with_reducible refine Kp.trans ?_ (Kp.drew _) | with_reducible refine Kp.trans ?_ (Kp.alloc _ _))); with_reducible exact kkwd)))))); have FB7 := Lib.hid (grown_at hgrow (heap_block (show Kp V2 _ from (by first | with_reducible exact kkwd | ((repeat (first | with_reducible refine Kp.trans ?_ (Kp.drew _) | with_reducible refine Kp.trans ?_ (Kp.alloc _ _))); with_reducible exact kkwd))) FB2.out) NEF.out); clear hown hgrow hat)
        (try go_wp2_with fail)
        refine hK.out _ _ ?_ (fun hHeld4 => ?_)
        · (try dsimp only); exact SGU.out _ (by first | with_reducible exact (Kp.refl w7) | ((repeat (first | with_reducible refine Kp.trans ?_ (Kp.drew _) | with_reducible refine Kp.trans ?_ (Kp.alloc _ _))); with_reducible exact (Kp.refl w7)))
        clear hK K hHeld3
        (try simp only [Act.put, nwnB10, List.setIfInBounds_toArray, List.set_cons_zero, List.set_cons_succ])
        refine tkW (v := ?_) 11 nwnB11 rfl (by kernel_rfl) (by kernel_rfl) (by kernel_rfl) (fun _ _ _ h => h) (by rfl) ?_ (by assumption) ?_
        rotate_left
        · intro w hSw; (try dsimp only at hSw); go_simp; (try with_reducible rfl)
        (try simp only [Act.put, nwnB11, List.setIfInBounds_toArray, List.set_cons_zero, List.set_cons_succ])
        refine wpAnyH_done (by kernel_rfl) ?_ _
        obtain ⟨b0', b1'⟩ := row2 (HB.out w7 KG.out)
        obtain ⟨wo, hwo⟩ : ∃ x, x = wr := ⟨_, rfl⟩
        subst hwo
        obtain ⟨M0, hM0⟩ : ∃ x, leftL Kb D (l.take k) ++ chunksR 0 U = x := ⟨_, rfl⟩
        have MM0 := Lib.hid (show (m ++ m6).map Prod.fst = M0 by rw [List.map_append, HM.out, HM6.out, hM0])
        have LN2 := Lib.hid (show leftL Kb D (l.take (k + 1)) = M0 ++ Kb.flatMap (partF s e') by rw [LNX.out, ← List.append_assoc, hM0])
        have CV := Lib.hid (cellsV_append m m6)
        have NB := Lib.hid (fun j => show (M0 ++ (Kb.take j).flatMap (partF s e')).length ≤ 1000000 from by
          have h1 := flat_pre Kb (partF s e') j
          have h2 := congrArg List.length hM0
          rw [List.length_append] at h2 ⊢
          omega)
        have ml7 : (m ++ m6).length = m.length + m6.length := List.length_append
        rw [← CV.out, ← ml7] at OW7
        have nK2 : Kb.length ≤ 100000 := nK
        clear HM6 OM OL OV2 OW2 OS2 OE2 FB2 M1 M2 UL LNX HM KSz KCz SG SGU NEB NEF
        go_wp2_with fail
        go_loopw [5, 44] (fun v i wr => ∃ (j : Nat) (mm : List (LF × VV)), j ≤ Kb.length ∧ i = .int .i64 j ∧ Hid (mm.map Prod.fst = M0 ++ (Kb.take j).flatMap (partF s e')) ∧ Hid (OwnV wr W0.heap.size mm) ∧ Hid (wr.ownsRow W0.heap.size 47 4 v mm.length (cellsV mm)) ∧ Hid (v.ownBlock ≠ some wo.heap.size) ∧ Hid (wr.heap[wo.heap.size]? = some (.cells #[.bool true, .int .i64 0, .slice ax s.length cx, .slice ay e'.length cy] 47 (0, 0))) ∧ Hid (OwnR wr W0.heap.size (.slice ax s.length cx) s) ∧ Hid (OwnR wr W0.heap.size (.slice ay e'.length cy) e') ∧ Hid (Kp W0 wr)) (fun _ i _ => Kb.length - (intOf i).toNat)
        case atStart => exact ⟨0, m ++ m6, Nat.zero_le _, rfl, Lib.hid (by rw [MM0.out]; simp), Lib.hid (OV7.out.kp (by first | with_reducible exact (Kp.refl w7) | ((repeat (first | with_reducible refine Kp.trans ?_ (Kp.drew _) | with_reducible refine Kp.trans ?_ (Kp.alloc _ _))); with_reducible exact (Kp.refl w7)))), Lib.hid (own_kp (by rw [ml7, CV.out] at OW7 ⊢; exact OW7.out) (by first | with_reducible exact (Kp.refl w7) | ((repeat (first | with_reducible refine Kp.trans ?_ (Kp.drew _) | with_reducible refine Kp.trans ?_ (Kp.alloc _ _))); with_reducible exact (Kp.refl w7)))), NE7, Lib.hid (heap_block (by first | with_reducible exact (Kp.refl w7) | ((repeat (first | with_reducible refine Kp.trans ?_ (Kp.drew _) | with_reducible refine Kp.trans ?_ (Kp.alloc _ _))); with_reducible exact (Kp.refl w7))) FB7.out), Lib.hid (own_kp OS7.out (by first | with_reducible exact (Kp.refl w7) | ((repeat (first | with_reducible refine Kp.trans ?_ (Kp.drew _) | with_reducible refine Kp.trans ?_ (Kp.alloc _ _))); with_reducible exact (Kp.refl w7)))), Lib.hid (own_kp OE7.out (by first | with_reducible exact (Kp.refl w7) | ((repeat (first | with_reducible refine Kp.trans ?_ (Kp.drew _) | with_reducible refine Kp.trans ?_ (Kp.alloc _ _))); with_reducible exact (Kp.refl w7)))), Lib.hid (KG.out.trans (by first | with_reducible exact (Kp.refl w7) | ((repeat (first | with_reducible refine Kp.trans ?_ (Kp.drew _) | with_reducible refine Kp.trans ?_ (Kp.alloc _ _))); with_reducible exact (Kp.refl w7))))⟩
        case round =>
          obtain ⟨j, mm, hj, rfl, HM, OV, OW, NE, FB, OS, OE, J2⟩ := hrel
          have ow := OW.out
          obtain ⟨a7, l7, rfl⟩ := own_slice4 ow
          have mml : mm.length ≤ 1000000 := by have h := congrArg List.length HM.out; rw [List.length_map] at h; rw [h]; exact NB.out j
          by_cases hlt2 : j < Kb.length
          · have q4 : decide ((j : Int) < (Kb.length : Int)) = true := decide_eq_true (by omega)
            have q5 : decide (j < Kb.length) = true := decide_eq_true hlt2
            rcases (HI.out.kp J2.out) with ⟨_, _, _, e⟩ | ⟨b3, off3, cap3, ev, hc3, hm3, hx3⟩
            · rw [e] at hlt2; simp at hlt2
            obtain ⟨r1, r2⟩ := hx3 j hlt2
            cases ev
            have rin := IKD.out _ (at_mem hlt2)
            have PRJ := fun h => PR.out j hlt2 h
            have PN := parts_next (s := s) (e := e') hlt2
            obtain ⟨lo, hi', elo⟩ : ∃ x y, at_ Kb j = (x, y) := ⟨_, _, rfl⟩
            rw [elo] at r1 r2 rin PN PRJ
            simp only at r1 r2 rin PRJ
            have z3 : (0 : Int) ≤ (j : Int) := by omega
            have z4 : (j : Int) < Kb.length := by omega
            clear hx3 hc3 elo
            have kk3 : Kp wr (wr.alloc (.cells #[.int .i64 lo, .int .i64 hi'] 53)) := Kp.alloc _ _
            have kk30 : Kp W0 (wr.alloc (.cells #[.int .i64 lo, .int .i64 hi'] 53)) := J2.out.trans (Kp.alloc _ _)
            obtain ⟨V3, hVr⟩ : ∃ x, x = wr.alloc (.cells #[.int .i64 lo, .int .i64 hi'] 53) := ⟨_, rfl⟩
            have kar : Kp wr V3 := by rw [hVr]; exact Kp.alloc _ _
            have gqr0 : V3.heap[wr.heap.size]? = some (.cells #[.int .i64 lo, .int .i64 hi'] 53 (0, 0)) := by rw [hVr]; exact heap_at _ _ _ (by first | rfl | simp)
            rw [← hVr] at kk3 kk30
            have KSr := Lib.hid (fun w' (kq : Kp V3 w') => show w'.cell? ⟨wr.heap.size, 0, none⟩ = some (.int .i64 lo) ∧ w'.cell? ⟨wr.heap.size, 1, none⟩ = some (.int .i64 hi') ∧ w'.cell? ⟨wo.heap.size, 0, none⟩ = some (.bool true) ∧ w'.cell? ⟨wo.heap.size, 1, none⟩ = some (.int .i64 0) ∧ w'.cell? ⟨wo.heap.size, 2, none⟩ = some (.slice ax s.length cx) ∧ w'.cell? ⟨wo.heap.size, 3, none⟩ = some (.slice ay e'.length cy) ∧ w'.cell? ⟨w.heap.size, 0, none⟩ = some (.slice (some ⟨b3, off3, none⟩) Kb.length ci) ∧ w'.cell? ⟨w.heap.size, 1, none⟩ = some (.slice aj D.length cj) ∧ Kp V3 w' from ⟨(row2 (heap_block kq gqr0)).1, (row2 (heap_block kq gqr0)).2, cell_up kq (row4 (heap_block kk3 FB.out)).1, cell_up kq (row4 (heap_block kk3 FB.out)).2.1, cell_up kq (row4 (heap_block kk3 FB.out)).2.2.1, cell_up kq (row4 (heap_block kk3 FB.out)).2.2.2, cell_up kq (row2 (HB.out V3 kk30)).1, cell_up kq (row2 (HB.out V3 kk30)).2, kq⟩)
            have GQr0 := Lib.hid gqr0
            have HVr := Lib.hid hVr
            have KR := Lib.hid kar
            clear hVr kar gqr0
            have kkV3 : Kp V3 V3 := Kp.refl _
            have J3 := Lib.hid kk30
            have OW3 := Lib.hid (own_kp ow KR.out)
            have OV3 := Lib.hid (OV.out.kp KR.out)
            have OS3 := Lib.hid (own_kp OS.out KR.out)
            have OE3 := Lib.hid (own_kp OE.out KR.out)
            have FB3 := Lib.hid (heap_block KR.out FB.out)
            have ltF := heap_lt FB3.out
            have GR := Lib.hid (fun w1 (kk : Kp V3 w1) => nwGreat_any _ e' w1 (OwnR.runs (own_kp OE3.out kk)) (setB_sane s2) s4 (by omega))
            have LE := Lib.hid (fun w1 (kk : Kp V3 w1) => nwLeast_any _ s w1 (OwnR.runs (own_kp OS3.out kk)) (setB_sane s1) s3 (by omega))
            have GE := Lib.hid (fun t (h : memR e' t) => great_max (setB_sane s2) h)
            have LS := Lib.hid (fun t (h : memR s t) => least_min (setB_sane s1) h)
            generalize greatR e' = ge at *
            generalize leastR s = le at *
            clear OW OV OS OE FB ow
            go_upto_region 12 with fail
            rw [← HVr.out]
            clear HVr r1 r2
            refine wp_region_held_drew (S := fun w' => w'.cell? ⟨wr.heap.size, 0, none⟩ = some (.int .i64 lo) ∧ w'.cell? ⟨wr.heap.size, 1, none⟩ = some (.int .i64 hi') ∧ w'.cell? ⟨wo.heap.size, 0, none⟩ = some (.bool true) ∧ w'.cell? ⟨wo.heap.size, 1, none⟩ = some (.int .i64 0) ∧ w'.cell? ⟨wo.heap.size, 2, none⟩ = some (.slice ax s.length cx) ∧ w'.cell? ⟨wo.heap.size, 3, none⟩ = some (.slice ay e'.length cy) ∧ w'.cell? ⟨w.heap.size, 0, none⟩ = some (.slice (some ⟨b3, off3, none⟩) Kb.length ci) ∧ w'.cell? ⟨w.heap.size, 1, none⟩ = some (.slice aj D.length cj) ∧ Kp V3 w') (by kernel_rfl) ?_ (fun hHeld0 => ?_)
            · (try dsimp only); exact KSr.out _ (by first | with_reducible exact kkV3 | ((repeat (first | with_reducible refine Kp.trans ?_ (Kp.drew _) | with_reducible refine Kp.trans ?_ (Kp.alloc _ _))); with_reducible exact kkV3))
            refine tkW (v := ?_) 0 nwnC0 rfl (by kernel_rfl) (by kernel_rfl) (by kernel_rfl) (fun _ _ _ h => h) (by rfl) ?_ (by assumption) ?_
            rotate_left
            · intro w hSw; (try dsimp only at hSw); go_simp; (try with_reducible rfl)
            (try simp only [Act.put, nwnC0, List.setIfInBounds_toArray, List.set_cons_zero, List.set_cons_succ])
            refine tkW (v := ?_) 1 nwnC1 rfl (by kernel_rfl) (by kernel_rfl) (by kernel_rfl) (fun _ _ _ h => h) (by rfl) ?_ (by assumption) ?_
            rotate_left
            · intro w hSw; (try dsimp only at hSw); go_simp; (try with_reducible rfl)
            (try simp only [Act.put, nwnC1, List.setIfInBounds_toArray, List.set_cons_zero, List.set_cons_succ])
            refine tkW (v := ?_) 2 nwnC2 rfl (by kernel_rfl) (by kernel_rfl) (by kernel_rfl) (fun _ _ _ h => h) (by rfl) ?_ (by assumption) ?_
            rotate_left
            · intro w hSw; (try dsimp only at hSw); go_simp; (try with_reducible rfl)
            (try simp only [Act.put, nwnC2, List.setIfInBounds_toArray, List.set_cons_zero, List.set_cons_succ])
            refine tkW (v := ?_) 3 nwnC3 rfl (by kernel_rfl) (by kernel_rfl) (by kernel_rfl) (fun _ _ _ h => h) (by rfl) ?_ (by assumption) ?_
            rotate_left
            · intro w hSw; (try dsimp only at hSw); go_simp; (try with_reducible rfl)
            (try simp only [Act.put, nwnC3, List.setIfInBounds_toArray, List.set_cons_zero, List.set_cons_succ])
            refine tkE 4 nwnC4 rfl (by kernel_rfl) (fun K hK => ?_)
            go_simp
            (refine (GR.out _ (by first | with_reducible exact kkV3 | ((repeat (first | with_reducible refine Kp.trans ?_ (Kp.drew _) | with_reducible refine Kp.trans ?_ (Kp.alloc _ _))); with_reducible exact kkV3))).mono ?_; rintro e wb ⟨rfl, kq1⟩; have kkwb : Kp V3 wb := Kp.trans (show Kp V3 _ from (by first | with_reducible exact kkV3 | ((repeat (first | with_reducible refine Kp.trans ?_ (Kp.drew _) | with_reducible refine Kp.trans ?_ (Kp.alloc _ _))); with_reducible exact kkV3))) kq1; clear kq1)
            (try go_wp2_with fail)
            refine hK.out _ _ ?_ (fun hHeld1 => ?_)
            · (try dsimp only); exact KSr.out _ (by first | with_reducible exact kkwb | ((repeat (first | with_reducible refine Kp.trans ?_ (Kp.drew _) | with_reducible refine Kp.trans ?_ (Kp.alloc _ _))); with_reducible exact kkwb))
            clear hK K hHeld0
            (try simp only [Act.put, nwnC4, List.setIfInBounds_toArray, List.set_cons_zero, List.set_cons_succ])
            refine tkW (v := ?_) 5 nwnC5 rfl (by kernel_rfl) (by kernel_rfl) (by kernel_rfl) (fun _ _ _ h => h) (by rfl) ?_ (by assumption) ?_
            rotate_left
            · intro w hSw; (try dsimp only at hSw); go_simp; (try with_reducible rfl)
            (try simp only [Act.put, nwnC5, List.setIfInBounds_toArray, List.set_cons_zero, List.set_cons_succ])
            refine wpAnyH_done (by kernel_rfl) ?_ _
            by_cases c1 : ge < lo
            · have u1 : decide (lo > ge) = true := decide_eq_true c1
              have u2 : decide (ge < lo) = true := decide_eq_true c1
              have EQ := Lib.hid (show mm.map Prod.fst = leftL Kb D (l.take (k + 1)) by rw [HM.out, LN2.out, PRJ (fun t h => by have := GE.out t h; omega)])
              clear mml c1
              rw [u2]
              go_wp2
              go_roundw
              case rel => exact ⟨k + 1, mm, by omega, by go_num, EQ, Lib.hid (OV3.out.kp (by first | with_reducible exact kkwb | ((repeat (first | with_reducible refine Kp.trans ?_ (Kp.drew _) | with_reducible refine Kp.trans ?_ (Kp.alloc _ _))); with_reducible exact kkwb))), Lib.hid (own_kp OW3.out (by first | with_reducible exact kkwb | ((repeat (first | with_reducible refine Kp.trans ?_ (Kp.drew _) | with_reducible refine Kp.trans ?_ (Kp.alloc _ _))); with_reducible exact kkwb))), Lib.hid (J3.out.trans (by first | with_reducible exact kkwb | ((repeat (first | with_reducible refine Kp.trans ?_ (Kp.drew _) | with_reducible refine Kp.trans ?_ (Kp.alloc _ _))); with_reducible exact kkwb)))⟩
              case measure => simp [intOf]; omega
            have u1 : decide (lo > ge) = false := decide_eq_false c1
            have u2 : decide (ge < lo) = false := decide_eq_false c1
            rw [u2]
            go_upto_region 13 with fail
            refine wp_region_held_drew (S := fun w' => w'.cell? ⟨wr.heap.size, 0, none⟩ = some (.int .i64 lo) ∧ w'.cell? ⟨wr.heap.size, 1, none⟩ = some (.int .i64 hi') ∧ w'.cell? ⟨wo.heap.size, 0, none⟩ = some (.bool true) ∧ w'.cell? ⟨wo.heap.size, 1, none⟩ = some (.int .i64 0) ∧ w'.cell? ⟨wo.heap.size, 2, none⟩ = some (.slice ax s.length cx) ∧ w'.cell? ⟨wo.heap.size, 3, none⟩ = some (.slice ay e'.length cy) ∧ w'.cell? ⟨w.heap.size, 0, none⟩ = some (.slice (some ⟨b3, off3, none⟩) Kb.length ci) ∧ w'.cell? ⟨w.heap.size, 1, none⟩ = some (.slice aj D.length cj) ∧ Kp V3 w') (by kernel_rfl) ?_ (fun hHeld0 => ?_)
            · (try dsimp only); exact KSr.out _ (by first | with_reducible exact kkwb | ((repeat (first | with_reducible refine Kp.trans ?_ (Kp.drew _) | with_reducible refine Kp.trans ?_ (Kp.alloc _ _))); with_reducible exact kkwb))
            refine tkW (v := ?_) 0 nwnD0 rfl (by kernel_rfl) (by kernel_rfl) (by kernel_rfl) (fun _ _ _ h => h) (by rfl) ?_ (by assumption) ?_
            rotate_left
            · intro w hSw; (try dsimp only at hSw); go_simp; (try with_reducible rfl)
            (try simp only [Act.put, nwnD0, List.setIfInBounds_toArray, List.set_cons_zero, List.set_cons_succ])
            refine tkW (v := ?_) 1 nwnD1 rfl (by kernel_rfl) (by kernel_rfl) (by kernel_rfl) (fun _ _ _ h => h) (by rfl) ?_ (by assumption) ?_
            rotate_left
            · intro w hSw; (try dsimp only at hSw); go_simp; (try with_reducible rfl)
            (try simp only [Act.put, nwnD1, List.setIfInBounds_toArray, List.set_cons_zero, List.set_cons_succ])
            refine tkW (v := ?_) 2 nwnD2 rfl (by kernel_rfl) (by kernel_rfl) (by kernel_rfl) (fun _ _ _ h => h) (by rfl) ?_ (by assumption) ?_
            rotate_left
            · intro w hSw; (try dsimp only at hSw); go_simp; (try with_reducible rfl)
            (try simp only [Act.put, nwnD2, List.setIfInBounds_toArray, List.set_cons_zero, List.set_cons_succ])
            refine tkW (v := ?_) 3 nwnD3 rfl (by kernel_rfl) (by kernel_rfl) (by kernel_rfl) (fun _ _ _ h => h) (by rfl) ?_ (by assumption) ?_
            rotate_left
            · intro w hSw; (try dsimp only at hSw); go_simp; (try with_reducible rfl)
            (try simp only [Act.put, nwnD3, List.setIfInBounds_toArray, List.set_cons_zero, List.set_cons_succ])
            refine tkE 4 nwnD4 rfl (by kernel_rfl) (fun K hK => ?_)
            go_simp
            (refine (LE.out _ (by first | with_reducible exact kkwb | ((repeat (first | with_reducible refine Kp.trans ?_ (Kp.drew _) | with_reducible refine Kp.trans ?_ (Kp.alloc _ _))); with_reducible exact kkwb))).mono ?_; rintro e wc ⟨rfl, kq1⟩; have kkwc : Kp V3 wc := Kp.trans (show Kp V3 _ from (by first | with_reducible exact kkwb | ((repeat (first | with_reducible refine Kp.trans ?_ (Kp.drew _) | with_reducible refine Kp.trans ?_ (Kp.alloc _ _))); with_reducible exact kkwb))) kq1; clear kq1)
            (try go_wp2_with fail)
            refine hK.out _ _ ?_ (fun hHeld1 => ?_)
            · (try dsimp only); exact KSr.out _ (by first | with_reducible exact kkwc | ((repeat (first | with_reducible refine Kp.trans ?_ (Kp.drew _) | with_reducible refine Kp.trans ?_ (Kp.alloc _ _))); with_reducible exact kkwc))
            clear hK K hHeld0
            (try simp only [Act.put, nwnD4, List.setIfInBounds_toArray, List.set_cons_zero, List.set_cons_succ])
            refine tkW (v := ?_) 5 nwnD5 rfl (by kernel_rfl) (by kernel_rfl) (by kernel_rfl) (fun _ _ _ h => h) (by rfl) ?_ (by assumption) ?_
            rotate_left
            · intro w hSw; (try dsimp only at hSw); go_simp; (try with_reducible rfl)
            (try simp only [Act.put, nwnD5, List.setIfInBounds_toArray, List.set_cons_zero, List.set_cons_succ])
            refine wpAnyH_done (by kernel_rfl) ?_ _
            by_cases c2 : hi' < le
            · have u3 : decide (hi' < le) = true := decide_eq_true c2
              have HMN := Lib.hid (show mm.map Prod.fst = M0 ++ (Kb.take (j + 1)).flatMap (partF s e') by rw [HM.out, PN, PK.out _ (fun x h => by have := LS.out x h; simp only; omega), List.append_nil])
              clear mml c1 c2
              rw [u3]
              go_wp2
              go_roundw
              case rel => exact ⟨j + 1, mm, by omega, by go_num, HMN, Lib.hid (OV3.out.kp (by first | with_reducible exact kkwc | ((repeat (first | with_reducible refine Kp.trans ?_ (Kp.drew _) | with_reducible refine Kp.trans ?_ (Kp.alloc _ _))); with_reducible exact kkwc))), Lib.hid (own_kp OW3.out (by first | with_reducible exact kkwc | ((repeat (first | with_reducible refine Kp.trans ?_ (Kp.drew _) | with_reducible refine Kp.trans ?_ (Kp.alloc _ _))); with_reducible exact kkwc))), NE, Lib.hid (heap_block (by first | with_reducible exact kkwc | ((repeat (first | with_reducible refine Kp.trans ?_ (Kp.drew _) | with_reducible refine Kp.trans ?_ (Kp.alloc _ _))); with_reducible exact kkwc)) FB3.out), Lib.hid (own_kp OS3.out (by first | with_reducible exact kkwc | ((repeat (first | with_reducible refine Kp.trans ?_ (Kp.drew _) | with_reducible refine Kp.trans ?_ (Kp.alloc _ _))); with_reducible exact kkwc))), Lib.hid (own_kp OE3.out (by first | with_reducible exact kkwc | ((repeat (first | with_reducible refine Kp.trans ?_ (Kp.drew _) | with_reducible refine Kp.trans ?_ (Kp.alloc _ _))); with_reducible exact kkwc))), Lib.hid (J3.out.trans (by first | with_reducible exact kkwc | ((repeat (first | with_reducible refine Kp.trans ?_ (Kp.drew _) | with_reducible refine Kp.trans ?_ (Kp.alloc _ _))); with_reducible exact kkwc)))⟩
              case measure => simp [intOf]; omega
            have u3 : decide (hi' < le) = false := decide_eq_false c2
            rw [u3]
            go_upto_region 14 with fail
            have rb : -9223372036854775808 ≤ lo ∧ lo ≤ 9223372036854775807 ∧ -9223372036854775808 ≤ hi' ∧ hi' ≤ 9223372036854775807 := by omega
            have ii : I64R [(lo, hi')] := i64_one rb.1 rb.2.1 rb.2.2.1 rb.2.2.2
            have nA := interR_le s (lo, hi')
            have nB := interR_le e' (lo, hi')
            have CA := Lib.hid (fun w1 (kk : Kp V3 w1) => clip_any _ s lo hi' w1 (OwnR.runs (own_kp OS3.out kk)) (sane_i64 (setB_sane s1)) (by omega) ii)
            have CB := Lib.hid (fun w1 (kk : Kp V3 w1) => clip_any _ e' lo hi' w1 (OwnR.runs (own_kp OE3.out kk)) (sane_i64 (setB_sane s2)) (by omega) ii)
            have TY0 := fun v1 v2 w1 (kk : Kp V3 w1) (h1 : RunsAt w1 v1 (interR s [(lo, hi')])) (h2 : RunsAt w1 v2 (interR e' [(lo, hi')])) => (leafTidyO_any (cutLF s e' (lo, hi')) v1 v2 w1 ⟨h1, h2, sane_i64 (interR_sane _ _), sane_i64 (interR_sane _ _), Nat.le_trans nA ns, Nat.le_trans nB ne⟩ (TT.out.kp (J3.out.trans kk))).mono (R' := fun e w' => ∃ va vb, e = .returned (leafV (lfOf (famR (cutLF s e' (lo, hi')))) va vb) ∧ (LeafOk w' (lfOf (famR (cutLF s e' (lo, hi')))) va vb ∧ ((lfOf (famR (cutLF s e' (lo, hi')))).sp = true → OwnR w' w1.heap.size va (lfOf (famR (cutLF s e' (lo, hi')))).a ∧ OwnR w' w1.heap.size vb (lfOf (famR (cutLF s e' (lo, hi')))).b)) ∧ Kp w1 w') (by rintro e w' ⟨va, vb, rfl, a, b, c⟩; exact ⟨va, vb, rfl, ⟨a, c⟩, b⟩)
            have EM0 := fun va vb w1 (h : LeafOk w1 (lfOf (famR (cutLF s e' (lo, hi')))) va vb) (kk : Kp V3 w1) => leafEmpty_any (lfOf (famR (cutLF s e' (lo, hi')))) va vb w1 h (TT.out.kp (J3.out.trans kk)).2
            rw [empty_tidy (famR_ok _)] at EM0
            have PF : partF s e' (lo, hi') = if emptyF (famR (cutLF s e' (lo, hi'))) = true then [] else [lfOf (famR (cutLF s e' (lo, hi')))] := rfl
            have SPF := cut_sp (s := s) (e := e') (r := (lo, hi')) s1 s2
            generalize emptyF (famR (cutLF s e' (lo, hi'))) = em at *
            generalize lfOf (famR (cutLF s e' (lo, hi'))) = G3 at *
            obtain ⟨sp3, u3', a3, b3'⟩ := G3
            unfold leafV at TY0 EM0
            simp only at TY0 EM0 SPF
            have TY := Lib.hid (fun v1 v2 w1 kk h1 h2 => show Calls Tryz.prog 70 #[.agg #[.bool true, .int .i64 0, v1, v2]] w1 _ from TY0 v1 v2 w1 kk h1 h2)
            have EM := Lib.hid EM0
            have PFH := Lib.hid PF
            have SPH := Lib.hid SPF
            generalize interR s [(lo, hi')] = A1 at *
            generalize interR e' [(lo, hi')] = B1 at *
            clear TY0 EM0 PF SPF rb ii nA nB c1 c2
            refine wp_region_held_drew (S := fun w' => w'.cell? ⟨wr.heap.size, 0, none⟩ = some (.int .i64 lo) ∧ w'.cell? ⟨wr.heap.size, 1, none⟩ = some (.int .i64 hi') ∧ w'.cell? ⟨wo.heap.size, 0, none⟩ = some (.bool true) ∧ w'.cell? ⟨wo.heap.size, 1, none⟩ = some (.int .i64 0) ∧ w'.cell? ⟨wo.heap.size, 2, none⟩ = some (.slice ax s.length cx) ∧ w'.cell? ⟨wo.heap.size, 3, none⟩ = some (.slice ay e'.length cy) ∧ w'.cell? ⟨w.heap.size, 0, none⟩ = some (.slice (some ⟨b3, off3, none⟩) Kb.length ci) ∧ w'.cell? ⟨w.heap.size, 1, none⟩ = some (.slice aj D.length cj) ∧ Kp V3 w') (by kernel_rfl) ?_ (fun hHeld0 => ?_)
            · (try dsimp only); exact KSr.out _ (by first | with_reducible exact kkwc | ((repeat (first | with_reducible refine Kp.trans ?_ (Kp.drew _) | with_reducible refine Kp.trans ?_ (Kp.alloc _ _))); with_reducible exact kkwc))
            refine tkW (v := ?_) 0 nwnE0 rfl (by kernel_rfl) (by kernel_rfl) (by kernel_rfl) (fun _ _ _ h => h) (by rfl) ?_ (by assumption) ?_
            rotate_left
            · intro w hSw; (try dsimp only at hSw); go_simp; (try with_reducible rfl)
            (try simp only [Act.put, nwnE0, List.setIfInBounds_toArray, List.set_cons_zero, List.set_cons_succ])
            refine tkW (v := ?_) 1 nwnE1 rfl (by kernel_rfl) (by kernel_rfl) (by kernel_rfl) (fun _ _ _ h => h) (by rfl) ?_ (by assumption) ?_
            rotate_left
            · intro w hSw; (try dsimp only at hSw); go_simp; (try with_reducible rfl)
            (try simp only [Act.put, nwnE1, List.setIfInBounds_toArray, List.set_cons_zero, List.set_cons_succ])
            refine tkW (v := ?_) 2 nwnE2 rfl (by kernel_rfl) (by kernel_rfl) (by kernel_rfl) (fun _ _ _ h => h) (by rfl) ?_ (by assumption) ?_
            rotate_left
            · intro w hSw; (try dsimp only at hSw); go_simp; (try with_reducible rfl)
            (try simp only [Act.put, nwnE2, List.setIfInBounds_toArray, List.set_cons_zero, List.set_cons_succ])
            refine tkW (v := ?_) 3 nwnE3 rfl (by kernel_rfl) (by kernel_rfl) (by kernel_rfl) (fun _ _ _ h => h) (by rfl) ?_ (by assumption) ?_
            rotate_left
            · intro w hSw; (try dsimp only at hSw); go_simp; (try with_reducible rfl)
            (try simp only [Act.put, nwnE3, List.setIfInBounds_toArray, List.set_cons_zero, List.set_cons_succ])
            refine tkW (v := ?_) 4 nwnE4 rfl (by kernel_rfl) (by kernel_rfl) (by kernel_rfl) (fun _ _ _ h => h) (by rfl) ?_ (by assumption) ?_
            rotate_left
            · intro w hSw; (try dsimp only at hSw); go_simp; (try with_reducible rfl)
            (try simp only [Act.put, nwnE4, List.setIfInBounds_toArray, List.set_cons_zero, List.set_cons_succ])
            refine tkW (v := ?_) 5 nwnE5 rfl (by kernel_rfl) (by kernel_rfl) (by kernel_rfl) (fun _ _ _ h => h) (by rfl) ?_ (by assumption) ?_
            rotate_left
            · intro w hSw; (try dsimp only at hSw); go_simp; (try with_reducible rfl)
            (try simp only [Act.put, nwnE5, List.setIfInBounds_toArray, List.set_cons_zero, List.set_cons_succ])
            refine tkW (v := ?_) 7 nwnE7 rfl (by kernel_rfl) (by kernel_rfl) (by kernel_rfl) (fun _ _ _ h => h) (by rfl) ?_ (by assumption) ?_
            rotate_left
            · intro w hSw; (try dsimp only at hSw); go_simp; (try with_reducible rfl)
            (try simp only [Act.put, nwnE7, List.setIfInBounds_toArray, List.set_cons_zero, List.set_cons_succ])
            refine tkW (v := ?_) 8 nwnE8 rfl (by kernel_rfl) (by kernel_rfl) (by kernel_rfl) (fun _ _ _ h => h) (by rfl) ?_ (by assumption) ?_
            rotate_left
            · intro w hSw; (try dsimp only at hSw); go_simp; (try with_reducible rfl)
            (try simp only [Act.put, nwnE8, List.setIfInBounds_toArray, List.set_cons_zero, List.set_cons_succ])
            refine tkW (v := ?_) 9 nwnE9 rfl (by kernel_rfl) (by kernel_rfl) (by kernel_rfl) (fun _ _ _ h => h) (by rfl) ?_ (by assumption) ?_
            rotate_left
            · intro w hSw; (try dsimp only at hSw); go_simp; (try with_reducible rfl)
            (try simp only [Act.put, nwnE9, List.setIfInBounds_toArray, List.set_cons_zero, List.set_cons_succ])
            refine tkW (v := ?_) 10 nwnE10 rfl (by kernel_rfl) (by kernel_rfl) (by kernel_rfl) (fun _ _ _ h => h) (by rfl) ?_ (by assumption) ?_
            rotate_left
            · intro w hSw; (try dsimp only at hSw); go_simp; (try with_reducible rfl)
            (try simp only [Act.put, nwnE10, List.setIfInBounds_toArray, List.set_cons_zero, List.set_cons_succ])
            refine tkW (v := ?_) 11 nwnE11 rfl (by kernel_rfl) (by kernel_rfl) (by kernel_rfl) (fun _ _ _ h => h) (by rfl) ?_ (by assumption) ?_
            rotate_left
            · intro w hSw; (try dsimp only at hSw); go_simp; (try with_reducible rfl)
            (try simp only [Act.put, nwnE11, List.setIfInBounds_toArray, List.set_cons_zero, List.set_cons_succ])
            refine tkW (v := ?_) 12 nwnE12 rfl (by kernel_rfl) (by kernel_rfl) (by kernel_rfl) (fun _ _ _ h => h) (by rfl) ?_ (by assumption) ?_
            rotate_left
            · intro w hSw; (try dsimp only at hSw); go_simp; (try with_reducible rfl)
            (try simp only [Act.put, nwnE12, List.setIfInBounds_toArray, List.set_cons_zero, List.set_cons_succ])
            refine tkE2 6 16 nwnE6 nwnE16 rfl rfl (by kernel_rfl) (fun K hK => ?_) (fun K hK => ?_)
            · go_simp
              (refine (CA.out _ (by first | with_reducible exact kkwc | ((repeat (first | with_reducible refine Kp.trans ?_ (Kp.drew _) | with_reducible refine Kp.trans ?_ (Kp.alloc _ _))); with_reducible exact kkwc))).mono ?_; rintro e wd ⟨v1, rfl, o1, kq1⟩; have kkwd : Kp V3 wd := Kp.trans (show Kp V3 _ from (by first | with_reducible exact kkwc | ((repeat (first | with_reducible refine Kp.trans ?_ (Kp.drew _) | with_reducible refine Kp.trans ?_ (Kp.alloc _ _))); with_reducible exact kkwc))) kq1; obtain ⟨aA, lA, rfl⟩ := own_slice o1; have OA := Lib.hid o1; clear o1; clear kq1)
              (try go_wp2_with fail)
              refine hK.out _ _ ?_ (fun hHeld1 => ?_)
              · (try dsimp only); exact KSr.out _ (by first | with_reducible exact kkwd | ((repeat (first | with_reducible refine Kp.trans ?_ (Kp.drew _) | with_reducible refine Kp.trans ?_ (Kp.alloc _ _))); with_reducible exact kkwd))
              clear hK K hHeld0
              (try simp only [Act.put, nwnE6, List.setIfInBounds_toArray, List.set_cons_zero, List.set_cons_succ])
              refine tkE2 13 16 nwnE13 nwnE16 rfl rfl (by kernel_rfl) (fun K hK => ?_) (fun K hK => ?_)
              · go_simp
                (refine (CB.out _ (by first | with_reducible exact kkwd | ((repeat (first | with_reducible refine Kp.trans ?_ (Kp.drew _) | with_reducible refine Kp.trans ?_ (Kp.alloc _ _))); with_reducible exact kkwd))).mono ?_; rintro e we ⟨v2, rfl, o2, kq1⟩; have kkwe : Kp V3 we := Kp.trans (show Kp V3 _ from (by first | with_reducible exact kkwd | ((repeat (first | with_reducible refine Kp.trans ?_ (Kp.drew _) | with_reducible refine Kp.trans ?_ (Kp.alloc _ _))); with_reducible exact kkwd))) kq1; obtain ⟨aB, lB, rfl⟩ := own_slice o2; have OB := Lib.hid o2; clear o2; have OA := Lib.hid (own_kp OA.out (Kp.trans (show Kp wd _ from (by first | with_reducible exact (Kp.refl wd) | ((repeat (first | with_reducible refine Kp.trans ?_ (Kp.drew _) | with_reducible refine Kp.trans ?_ (Kp.alloc _ _))); with_reducible exact (Kp.refl wd)))) kq1)); clear kq1)
                (try go_wp2_with fail)
                refine hK.out _ _ ?_ (fun hHeld2 => ?_)
                · (try dsimp only); exact KSr.out _ (by first | with_reducible exact kkwe | ((repeat (first | with_reducible refine Kp.trans ?_ (Kp.drew _) | with_reducible refine Kp.trans ?_ (Kp.alloc _ _))); with_reducible exact kkwe))
                clear hK K hHeld1
                (try simp only [Act.put, nwnE13, List.setIfInBounds_toArray, List.set_cons_zero, List.set_cons_succ])
                refine tkW (v := ?_) 14 nwnE14 rfl (by kernel_rfl) (by kernel_rfl) (by kernel_rfl) (fun _ _ _ h => h) (by rfl) ?_ (by assumption) ?_
                rotate_left
                · intro w hSw; (try dsimp only at hSw); go_simp; (try with_reducible rfl)
                (try simp only [Act.put, nwnE14, List.setIfInBounds_toArray, List.set_cons_zero, List.set_cons_succ])
                refine tkE2 15 16 nwnE15 nwnE16 rfl rfl (by kernel_rfl) (fun K hK => ?_) (fun K hK => ?_)
                · go_simp
                  (refine (TY.out _ _ _ (by first | with_reducible exact kkwe | ((repeat (first | with_reducible refine Kp.trans ?_ (Kp.drew _) | with_reducible refine Kp.trans ?_ (Kp.alloc _ _))); with_reducible exact kkwe)) ((OwnR.runs OA.out).kp (by first | with_reducible exact (Kp.refl we) | ((repeat (first | with_reducible refine Kp.trans ?_ (Kp.drew _) | with_reducible refine Kp.trans ?_ (Kp.alloc _ _))); with_reducible exact (Kp.refl we)))) ((OwnR.runs OB.out).kp (by first | with_reducible exact (Kp.refl we) | ((repeat (first | with_reducible refine Kp.trans ?_ (Kp.drew _) | with_reducible refine Kp.trans ?_ (Kp.alloc _ _))); with_reducible exact (Kp.refl we))))).mono ?_; rintro e wf ⟨va3, vb3, rfl, ok3, kq1⟩; have kkwf : Kp V3 wf := Kp.trans (show Kp V3 _ from (by first | with_reducible exact kkwe | ((repeat (first | with_reducible refine Kp.trans ?_ (Kp.drew _) | with_reducible refine Kp.trans ?_ (Kp.alloc _ _))); with_reducible exact kkwe))) kq1; obtain ⟨ok3, oo3⟩ := ok3; obtain ⟨aT, cT, rfl⟩ := ok3.a.slice; obtain ⟨aU, cU, rfl⟩ := ok3.b.slice; have OK3 := Lib.hid ok3; have OO3 := Lib.hid (fun (h : sp3 = true) => show OwnR wf W0.heap.size (.slice aT a3.length cT) a3 ∧ OwnR wf W0.heap.size (.slice aU b3'.length cU) b3' from ⟨own_mono (oo3 h).1 (Below.size (J3.out.trans (show Kp V3 _ from (by first | with_reducible exact kkwe | ((repeat (first | with_reducible refine Kp.trans ?_ (Kp.drew _) | with_reducible refine Kp.trans ?_ (Kp.alloc _ _))); with_reducible exact kkwe))))), own_mono (oo3 h).2 (Below.size (J3.out.trans (show Kp V3 _ from (by first | with_reducible exact kkwe | ((repeat (first | with_reducible refine Kp.trans ?_ (Kp.drew _) | with_reducible refine Kp.trans ?_ (Kp.alloc _ _))); with_reducible exact kkwe)))))⟩); clear ok3 oo3; clear kq1)
                  (try go_wp2_with fail)
                  refine hK.out _ _ ?_ (fun hHeld3 => ?_)
                  · (try dsimp only); exact KSr.out _ (by first | with_reducible exact kkwf | ((repeat (first | with_reducible refine Kp.trans ?_ (Kp.drew _) | with_reducible refine Kp.trans ?_ (Kp.alloc _ _))); with_reducible exact kkwf))
                  clear hK K hHeld2
                  (try simp only [Act.put, nwnE15, List.setIfInBounds_toArray, List.set_cons_zero, List.set_cons_succ])
                  refine tkE 16 nwnE16 rfl (by kernel_rfl) (fun K hK => ?_)
                  go_simp
                  skip
                  (try go_wp2_with fail)
                  refine hK.out _ _ ?_ (fun hHeld4 => ?_)
                  · (try dsimp only); exact KSr.out _ (by first | with_reducible exact kkwf | ((repeat (first | with_reducible refine Kp.trans ?_ (Kp.drew _) | with_reducible refine Kp.trans ?_ (Kp.alloc _ _))); with_reducible exact kkwf))
                  clear hK K hHeld3
                  (try simp only [Act.put, nwnE16, List.setIfInBounds_toArray, List.set_cons_zero, List.set_cons_succ])
                  refine tkE 17 nwnE17 rfl (by kernel_rfl) (fun K hK => ?_)
                  go_simp
                  skip
                  (try go_wp2_with fail)
                  refine hK.out _ _ ?_ (fun hHeld5 => ?_)
                  · (try dsimp only); exact KSr.out _ (by first | with_reducible exact kkwf | ((repeat (first | with_reducible refine Kp.trans ?_ (Kp.drew _) | with_reducible refine Kp.trans ?_ (Kp.alloc _ _))); with_reducible exact kkwf))
                  clear hK K hHeld4
                  (try simp only [Act.put, nwnE17, List.setIfInBounds_toArray, List.set_cons_zero, List.set_cons_succ])
                  refine wpAnyH_done (by kernel_rfl) ?_ _
                  obtain ⟨V4, hV4⟩ : ∃ x, x = wf.alloc (.cells #[.bool sp3, .int .i64 u3', .slice aT a3.length cT, .slice aU b3'.length cU] 47) := ⟨_, rfl⟩
                  have k4 : Kp V3 V4 := by rw [hV4]; exact kkwf.trans (Kp.alloc _ _)
                  have hp4 : V4.heap[wf.heap.size]? = some (.cells #[.bool sp3, .int .i64 u3', .slice aT a3.length cT, .slice aU b3'.length cU] 47 (0, 0)) := by rw [hV4]; exact heap_at _ _ _ rfl
                  have LO4 := Lib.hid (show LeafOk V4 ⟨sp3, u3', a3, b3'⟩ (.slice aT a3.length cT) (.slice aU b3'.length cU) from by rw [hV4]; exact OK3.out.kp (Kp.alloc _ _))
                  have OO4 := Lib.hid (fun (h : sp3 = true) => show OwnR V4 W0.heap.size (.slice aT a3.length cT) a3 ∧ OwnR V4 W0.heap.size (.slice aU b3'.length cU) b3' from by rw [hV4]; exact ⟨own_kp (OO3.out h).1 (Kp.alloc _ _), own_kp (OO3.out h).2 (Kp.alloc _ _)⟩)
                  have HV4 := Lib.hid hV4
                  have K4 := Lib.hid k4
                  obtain ⟨p0, p1, p2, p3⟩ := row4 hp4
                  have HP4 := Lib.hid hp4
                  clear hV4 k4 hp4 CA CB TY OA OB OK3 OO3 kkwd kkwe kkwf
                  rw [← HV4.out]
                  clear HV4
                  go_wp2_with fail
                  refine (EM.out _ _ _ LO4.out K4.out).mono ?_
                  rintro e w8 ⟨rfl, k8⟩
                  have K8 := Lib.hid (K4.out.trans k8)
                  have k80 := Lib.hid k8
                  clear p0 p1 p2 p3
                  obtain ⟨p0, p1, p2, p3⟩ := row4 (heap_block k8 HP4.out)
                  clear k8
                  cases em with
                  | true =>
                    have HMN := Lib.hid (show mm.map Prod.fst = M0 ++ (Kb.take (j + 1)).flatMap (partF s e') by rw [HM.out, PN, PFH.out, if_pos rfl, List.append_nil])
                    clear mml PN
                    go_wp2
                    go_roundw
                    case rel => exact ⟨j + 1, mm, by omega, by go_num, HMN, Lib.hid (OV3.out.kp K8.out), Lib.hid (own_kp OW3.out K8.out), NE, Lib.hid (heap_block K8.out FB3.out), Lib.hid (own_kp OS3.out K8.out), Lib.hid (own_kp OE3.out K8.out), Lib.hid (J3.out.trans K8.out)⟩
                    case measure => simp [intOf]; omega
                  | false =>
                    have HMN := Lib.hid (show (mm ++ [((⟨sp3, u3', a3, b3'⟩ : LF), ((.slice aT a3.length cT, .slice aU b3'.length cU) : VV))]).map Prod.fst = M0 ++ (Kb.take (j + 1)).flatMap (partF s e') by rw [List.map_append, HM.out, PN, PFH.out, if_neg (by decide), List.append_assoc]; rfl)
                    have o4 := OO4.out (SPH.out rfl)
                    have O4 := Lib.hid o4
                    clear PN o4
                    go_wp2_with (at_builtin; refine wpList_app rfl (.tmp 79) (.tmp 81) 22 rfl W0.heap.size 47 h0 (.agg #[.bool false, .int .i64 0, .slice none 0 0, .slice none 0 0]) 4 64 Tryz.underlying22 hi hz0 hz1 hz2 rfl (by decide) _ mm.length (cellsV mm) rfl (own_kp OW3.out (K8.out.trans (Kp.alloc _ _))) _ 1 (cellsV [((⟨sp3, u3', a3, b3'⟩ : LF), ((.slice aT a3.length cT, .slice aU b3'.length cU) : VV))]) rfl (own_srcV (own_leaf _ ⟨sp3, u3', a3, b3'⟩ (.slice aT a3.length cT) (.slice aU b3'.length cU))) (by rfl) (by intro u hu; simp [cellsV] at hu; rcases hu with rfl | rfl | rfl | rfl <;> rfl) (by unfold maxLen; omega) (by omega) (Below.size (J3.out.trans (K8.out.trans (Kp.alloc _ _)))) ?_; intro v9 w9 hown hgrow hat; have G9 := Lib.hid (Kp.grown (J3.out.trans (K8.out.trans (Kp.alloc _ _))) hgrow (fun j hj => (OW3.out.lt j hj).1)); have OV9 := Lib.hid (((((OV3.out.kp K8.out).append (show OwnV w8 W0.heap.size [((⟨sp3, u3', a3, b3'⟩ : LF), ((.slice aT a3.length cT, .slice aU b3'.length cU) : VV))] from fun p hp => by rw [List.mem_singleton.1 hp]; exact ⟨own_kp O4.out.1 k80.out, own_kp O4.out.2 k80.out⟩)).kp (Kp.alloc _ _)).grown hgrow (own_kp OW3.out (K8.out.trans (Kp.alloc _ _))))); have OW9 := Lib.hid (show w9.ownsRow W0.heap.size 47 4 v9 (mm ++ [((⟨sp3, u3', a3, b3'⟩ : LF), ((.slice aT a3.length cT, .slice aU b3'.length cU) : VV))]).length (cellsV (mm ++ [((⟨sp3, u3', a3, b3'⟩ : LF), ((.slice aT a3.length cT, .slice aU b3'.length cU) : VV))])) from (by rw [cellsV_append, List.length_append]; exact hown)); have NE9 := Lib.hid (ne_next hat NE.out (Nat.lt_of_lt_of_le ltF (Below.size (K8.out.trans (Kp.alloc _ _))))); have FB9 := Lib.hid (grown_at hgrow (heap_block (K8.out.trans (Kp.alloc _ _)) FB3.out) NE.out); have OS9 := Lib.hid (own_apart (own_kp OS3.out (K8.out.trans (Kp.alloc _ _))) hgrow (own_types OW3.out OS3.out (by decide))); have OE9 := Lib.hid (own_apart (own_kp OE3.out (K8.out.trans (Kp.alloc _ _))) hgrow (own_types OW3.out OE3.out (by decide))); clear hown hgrow hat)
                    go_roundw
                    case rel => exact ⟨j + 1, mm ++ [((⟨sp3, u3', a3, b3'⟩ : LF), ((.slice aT a3.length cT, .slice aU b3'.length cU) : VV))], by omega, by go_num, HMN, OV9, OW9, NE9, FB9, OS9, OE9, G9⟩
                    case measure => simp [intOf]; omega
                · go_simp
                  skip
                  (try go_wp2_with fail)
                  refine hK.out _ _ ?_ (fun hHeld3 => ?_)
                  · (try dsimp only); exact KSr.out _ (by first | with_reducible exact kkwe | ((repeat (first | with_reducible refine Kp.trans ?_ (Kp.drew _) | with_reducible refine Kp.trans ?_ (Kp.alloc _ _))); with_reducible exact kkwe))
                  clear hK K hHeld2
                  (try simp only [Act.put, nwnE16, List.setIfInBounds_toArray, List.set_cons_zero, List.set_cons_succ])
                  refine tkE 15 nwnE15 rfl (by kernel_rfl) (fun K hK => ?_)
                  go_simp
                  (refine (TY.out _ _ _ (by first | with_reducible exact kkwe | ((repeat (first | with_reducible refine Kp.trans ?_ (Kp.drew _) | with_reducible refine Kp.trans ?_ (Kp.alloc _ _))); with_reducible exact kkwe)) ((OwnR.runs OA.out).kp (by first | with_reducible exact (Kp.refl we) | ((repeat (first | with_reducible refine Kp.trans ?_ (Kp.drew _) | with_reducible refine Kp.trans ?_ (Kp.alloc _ _))); with_reducible exact (Kp.refl we)))) ((OwnR.runs OB.out).kp (by first | with_reducible exact (Kp.refl we) | ((repeat (first | with_reducible refine Kp.trans ?_ (Kp.drew _) | with_reducible refine Kp.trans ?_ (Kp.alloc _ _))); with_reducible exact (Kp.refl we))))).mono ?_; rintro e wf ⟨va3, vb3, rfl, ok3, kq1⟩; have kkwf : Kp V3 wf := Kp.trans (show Kp V3 _ from (by first | with_reducible exact kkwe | ((repeat (first | with_reducible refine Kp.trans ?_ (Kp.drew _) | with_reducible refine Kp.trans ?_ (Kp.alloc _ _))); with_reducible exact kkwe))) kq1; have hp : wf.heap[we.heap.size]? = some (.cells #[.bool false, .int .i64 0, .slice none 0 0, .slice none 0 0] 47 (0, 0)) := heap_block kq1 (by (repeat (first | with_reducible exact heap_at _ _ _ (by first | rfl | simp) | with_reducible refine heap_block (Kp.drew _) ?_ | with_reducible refine heap_block (Kp.alloc _ _) ?_))); obtain ⟨ok3, oo3⟩ := ok3; obtain ⟨aT, cT, rfl⟩ := ok3.a.slice; obtain ⟨aU, cU, rfl⟩ := ok3.b.slice; have OK3 := Lib.hid ok3; have OO3 := Lib.hid (fun (h : sp3 = true) => show OwnR wf W0.heap.size (.slice aT a3.length cT) a3 ∧ OwnR wf W0.heap.size (.slice aU b3'.length cU) b3' from ⟨own_mono (oo3 h).1 (Below.size (J3.out.trans (show Kp V3 _ from (by first | with_reducible exact kkwe | ((repeat (first | with_reducible refine Kp.trans ?_ (Kp.drew _) | with_reducible refine Kp.trans ?_ (Kp.alloc _ _))); with_reducible exact kkwe))))), own_mono (oo3 h).2 (Below.size (J3.out.trans (show Kp V3 _ from (by first | with_reducible exact kkwe | ((repeat (first | with_reducible refine Kp.trans ?_ (Kp.drew _) | with_reducible refine Kp.trans ?_ (Kp.alloc _ _))); with_reducible exact kkwe)))))⟩); clear ok3 oo3; obtain ⟨p0, p1, p2, p3⟩ := row4 hp; have f0 : wf.frozen? ⟨we.heap.size, 0, none⟩ = false := (by simp [World.frozen?, hp]); have f1 : wf.frozen? ⟨we.heap.size, 1, none⟩ = false := (by simp [World.frozen?, hp]); have f2 : wf.frozen? ⟨we.heap.size, 2, none⟩ = false := (by simp [World.frozen?, hp]); have f3 : wf.frozen? ⟨we.heap.size, 3, none⟩ = false := (by simp [World.frozen?, hp]); have hBle : V3.heap.size ≤ we.heap.size := Below.size (show Kp V3 we from kkwe); clear kq1)
                  (try go_wp2_with fail)
                  refine hK.out _ _ ?_ (fun hHeld4 => ?_)
                  · (try dsimp only); exact KSr.out _ (by first | with_reducible exact kkwf | ((repeat (first | with_reducible refine Kp.trans ?_ (Kp.drew _) | with_reducible refine Kp.trans ?_ (Kp.alloc _ _))); with_reducible exact kkwf))
                  clear hK K hHeld3
                  (try simp only [Act.put, nwnE15, List.setIfInBounds_toArray, List.set_cons_zero, List.set_cons_succ])
                  refine tkE 17 nwnE17 rfl (by kernel_rfl) (fun K hK => ?_)
                  go_simp
                  skip
                  (try go_wp2_with fail)
                  refine hK.out _ _ ?_ (fun hHeld5 => ?_)
                  · (try dsimp only); exact KSr.out _ (by first | exact set4_below kkwf _ hBle _ _ _ _ | exact (set4_below kkwf _ hBle _ _ _ _).trans (Kp.drew _))
                  clear hK K hHeld4
                  (try simp only [Act.put, nwnE17, List.setIfInBounds_toArray, List.set_cons_zero, List.set_cons_succ])
                  refine wpAnyH_done (by kernel_rfl) ?_ _
                  obtain ⟨V4, hV4⟩ : ∃ x, x = ((((wf.setCell ⟨we.heap.size, 0, none⟩ (.bool sp3)).setCell ⟨we.heap.size, 1, none⟩ (.int .i64 u3')).setCell ⟨we.heap.size, 2, none⟩ (.slice aT a3.length cT)).setCell ⟨we.heap.size, 3, none⟩ (.slice aU b3'.length cU)) := ⟨_, rfl⟩
                  have k4 : Kp V3 V4 := by rw [hV4]; exact set4_below kkwf _ hBle _ _ _ _
                  have hp4 : V4.heap[we.heap.size]? = some (.cells #[.bool sp3, .int .i64 u3', .slice aT a3.length cT, .slice aU b3'.length cU] 47 (0, 0)) := by rw [hV4]; exact set4_heap hp _ _ _ _
                  have LO4 := Lib.hid (show LeafOk V4 ⟨sp3, u3', a3, b3'⟩ (.slice aT a3.length cT) (.slice aU b3'.length cU) from ⟨by rw [hV4]; exact OK3.out.a.off hp (fun k o h => set4_cell _ _ _ _ _ _ k o h), by rw [hV4]; exact OK3.out.b.off hp (fun k o h => set4_cell _ _ _ _ _ _ k o h), OK3.out.ia, OK3.out.ib, OK3.out.na, OK3.out.nb⟩)
                  have OO4 := Lib.hid (fun (h : sp3 = true) => show OwnR V4 W0.heap.size (.slice aT a3.length cT) a3 ∧ OwnR V4 W0.heap.size (.slice aU b3'.length cU) b3' from by rw [hV4]; exact ⟨own_far4 (OO3.out h).1 (own_type_ne (OO3.out h).1 hp (by decide)) _ _ _ _, own_far4 (OO3.out h).2 (own_type_ne (OO3.out h).2 hp (by decide)) _ _ _ _⟩)
                  clear p0 p1 p2 p3 f0 f1 f2 f3 hp
                  have HV4 := Lib.hid hV4
                  have K4 := Lib.hid k4
                  obtain ⟨p0, p1, p2, p3⟩ := row4 hp4
                  have HP4 := Lib.hid hp4
                  clear hV4 k4 hp4 CA CB TY OA OB OK3 OO3 kkwd kkwe kkwf
                  rw [← HV4.out]
                  clear HV4
                  go_wp2_with fail
                  refine (EM.out _ _ _ LO4.out K4.out).mono ?_
                  rintro e w8 ⟨rfl, k8⟩
                  have K8 := Lib.hid (K4.out.trans k8)
                  have k80 := Lib.hid k8
                  clear p0 p1 p2 p3
                  obtain ⟨p0, p1, p2, p3⟩ := row4 (heap_block k8 HP4.out)
                  clear k8
                  cases em with
                  | true =>
                    have HMN := Lib.hid (show mm.map Prod.fst = M0 ++ (Kb.take (j + 1)).flatMap (partF s e') by rw [HM.out, PN, PFH.out, if_pos rfl, List.append_nil])
                    clear mml PN
                    go_wp2
                    go_roundw
                    case rel => exact ⟨j + 1, mm, by omega, by go_num, HMN, Lib.hid (OV3.out.kp K8.out), Lib.hid (own_kp OW3.out K8.out), NE, Lib.hid (heap_block K8.out FB3.out), Lib.hid (own_kp OS3.out K8.out), Lib.hid (own_kp OE3.out K8.out), Lib.hid (J3.out.trans K8.out)⟩
                    case measure => simp [intOf]; omega
                  | false =>
                    have HMN := Lib.hid (show (mm ++ [((⟨sp3, u3', a3, b3'⟩ : LF), ((.slice aT a3.length cT, .slice aU b3'.length cU) : VV))]).map Prod.fst = M0 ++ (Kb.take (j + 1)).flatMap (partF s e') by rw [List.map_append, HM.out, PN, PFH.out, if_neg (by decide), List.append_assoc]; rfl)
                    have o4 := OO4.out (SPH.out rfl)
                    have O4 := Lib.hid o4
                    clear PN o4
                    go_wp2_with (at_builtin; refine wpList_app rfl (.tmp 79) (.tmp 81) 22 rfl W0.heap.size 47 h0 (.agg #[.bool false, .int .i64 0, .slice none 0 0, .slice none 0 0]) 4 64 Tryz.underlying22 hi hz0 hz1 hz2 rfl (by decide) _ mm.length (cellsV mm) rfl (own_kp OW3.out (K8.out.trans (Kp.alloc _ _))) _ 1 (cellsV [((⟨sp3, u3', a3, b3'⟩ : LF), ((.slice aT a3.length cT, .slice aU b3'.length cU) : VV))]) rfl (own_srcV (own_leaf _ ⟨sp3, u3', a3, b3'⟩ (.slice aT a3.length cT) (.slice aU b3'.length cU))) (by rfl) (by intro u hu; simp [cellsV] at hu; rcases hu with rfl | rfl | rfl | rfl <;> rfl) (by unfold maxLen; omega) (by omega) (Below.size (J3.out.trans (K8.out.trans (Kp.alloc _ _)))) ?_; intro v9 w9 hown hgrow hat; have G9 := Lib.hid (Kp.grown (J3.out.trans (K8.out.trans (Kp.alloc _ _))) hgrow (fun j hj => (OW3.out.lt j hj).1)); have OV9 := Lib.hid (((((OV3.out.kp K8.out).append (show OwnV w8 W0.heap.size [((⟨sp3, u3', a3, b3'⟩ : LF), ((.slice aT a3.length cT, .slice aU b3'.length cU) : VV))] from fun p hp => by rw [List.mem_singleton.1 hp]; exact ⟨own_kp O4.out.1 k80.out, own_kp O4.out.2 k80.out⟩)).kp (Kp.alloc _ _)).grown hgrow (own_kp OW3.out (K8.out.trans (Kp.alloc _ _))))); have OW9 := Lib.hid (show w9.ownsRow W0.heap.size 47 4 v9 (mm ++ [((⟨sp3, u3', a3, b3'⟩ : LF), ((.slice aT a3.length cT, .slice aU b3'.length cU) : VV))]).length (cellsV (mm ++ [((⟨sp3, u3', a3, b3'⟩ : LF), ((.slice aT a3.length cT, .slice aU b3'.length cU) : VV))])) from (by rw [cellsV_append, List.length_append]; exact hown)); have NE9 := Lib.hid (ne_next hat NE.out (Nat.lt_of_lt_of_le ltF (Below.size (K8.out.trans (Kp.alloc _ _))))); have FB9 := Lib.hid (grown_at hgrow (heap_block (K8.out.trans (Kp.alloc _ _)) FB3.out) NE.out); have OS9 := Lib.hid (own_apart (own_kp OS3.out (K8.out.trans (Kp.alloc _ _))) hgrow (own_types OW3.out OS3.out (by decide))); have OE9 := Lib.hid (own_apart (own_kp OE3.out (K8.out.trans (Kp.alloc _ _))) hgrow (own_types OW3.out OE3.out (by decide))); clear hown hgrow hat)
                    go_roundw
                    case rel => exact ⟨j + 1, mm ++ [((⟨sp3, u3', a3, b3'⟩ : LF), ((.slice aT a3.length cT, .slice aU b3'.length cU) : VV))], by omega, by go_num, HMN, OV9, OW9, NE9, FB9, OS9, OE9, G9⟩
                    case measure => simp [intOf]; omega
              · go_simp
                skip
                (try go_wp2_with fail)
                refine hK.out _ _ ?_ (fun hHeld2 => ?_)
                · (try dsimp only); exact KSr.out _ (by first | with_reducible exact kkwd | ((repeat (first | with_reducible refine Kp.trans ?_ (Kp.drew _) | with_reducible refine Kp.trans ?_ (Kp.alloc _ _))); with_reducible exact kkwd))
                clear hK K hHeld1
                (try simp only [Act.put, nwnE16, List.setIfInBounds_toArray, List.set_cons_zero, List.set_cons_succ])
                refine tkE 13 nwnE13 rfl (by kernel_rfl) (fun K hK => ?_)
                go_simp
                (refine (CB.out _ (by first | with_reducible exact kkwd | ((repeat (first | with_reducible refine Kp.trans ?_ (Kp.drew _) | with_reducible refine Kp.trans ?_ (Kp.alloc _ _))); with_reducible exact kkwd))).mono ?_; rintro e we ⟨v2, rfl, o2, kq1⟩; have kkwe : Kp V3 we := Kp.trans (show Kp V3 _ from (by first | with_reducible exact kkwd | ((repeat (first | with_reducible refine Kp.trans ?_ (Kp.drew _) | with_reducible refine Kp.trans ?_ (Kp.alloc _ _))); with_reducible exact kkwd))) kq1; have hp : we.heap[wd.heap.size]? = some (.cells #[.bool false, .int .i64 0, .slice none 0 0, .slice none 0 0] 47 (0, 0)) := heap_block kq1 (by (repeat (first | with_reducible exact heap_at _ _ _ (by first | rfl | simp) | with_reducible refine heap_block (Kp.drew _) ?_ | with_reducible refine heap_block (Kp.alloc _ _) ?_))); obtain ⟨aB, lB, rfl⟩ := own_slice o2; have OB := Lib.hid o2; clear o2; have OA := Lib.hid (own_kp OA.out (Kp.trans (show Kp wd _ from (by first | with_reducible exact (Kp.refl wd) | ((repeat (first | with_reducible refine Kp.trans ?_ (Kp.drew _) | with_reducible refine Kp.trans ?_ (Kp.alloc _ _))); with_reducible exact (Kp.refl wd)))) kq1)); clear kq1)
                (try go_wp2_with fail)
                refine hK.out _ _ ?_ (fun hHeld3 => ?_)
                · (try dsimp only); exact KSr.out _ (by first | with_reducible exact kkwe | ((repeat (first | with_reducible refine Kp.trans ?_ (Kp.drew _) | with_reducible refine Kp.trans ?_ (Kp.alloc _ _))); with_reducible exact kkwe))
                clear hK K hHeld2
                (try simp only [Act.put, nwnE13, List.setIfInBounds_toArray, List.set_cons_zero, List.set_cons_succ])
                refine tkW (v := ?_) 14 nwnE14 rfl (by kernel_rfl) (by kernel_rfl) (by kernel_rfl) (fun _ _ _ h => h) (by rfl) ?_ (by assumption) ?_
                rotate_left
                · intro w hSw; (try dsimp only at hSw); go_simp; (try with_reducible rfl)
                (try simp only [Act.put, nwnE14, List.setIfInBounds_toArray, List.set_cons_zero, List.set_cons_succ])
                refine tkE 15 nwnE15 rfl (by kernel_rfl) (fun K hK => ?_)
                go_simp
                (refine (TY.out _ _ _ (by first | with_reducible exact kkwe | ((repeat (first | with_reducible refine Kp.trans ?_ (Kp.drew _) | with_reducible refine Kp.trans ?_ (Kp.alloc _ _))); with_reducible exact kkwe)) ((OwnR.runs OA.out).kp (by first | with_reducible exact (Kp.refl we) | ((repeat (first | with_reducible refine Kp.trans ?_ (Kp.drew _) | with_reducible refine Kp.trans ?_ (Kp.alloc _ _))); with_reducible exact (Kp.refl we)))) ((OwnR.runs OB.out).kp (by first | with_reducible exact (Kp.refl we) | ((repeat (first | with_reducible refine Kp.trans ?_ (Kp.drew _) | with_reducible refine Kp.trans ?_ (Kp.alloc _ _))); with_reducible exact (Kp.refl we))))).mono ?_; rintro e wf ⟨va3, vb3, rfl, ok3, kq1⟩; have kkwf : Kp V3 wf := Kp.trans (show Kp V3 _ from (by first | with_reducible exact kkwe | ((repeat (first | with_reducible refine Kp.trans ?_ (Kp.drew _) | with_reducible refine Kp.trans ?_ (Kp.alloc _ _))); with_reducible exact kkwe))) kq1; have hp : wf.heap[wd.heap.size]? = some (.cells #[.bool false, .int .i64 0, .slice none 0 0, .slice none 0 0] 47 (0, 0)) := heap_block (Kp.trans (show Kp we _ from (by first | with_reducible exact (Kp.refl we) | ((repeat (first | with_reducible refine Kp.trans ?_ (Kp.drew _) | with_reducible refine Kp.trans ?_ (Kp.alloc _ _))); with_reducible exact (Kp.refl we)))) kq1) hp; obtain ⟨ok3, oo3⟩ := ok3; obtain ⟨aT, cT, rfl⟩ := ok3.a.slice; obtain ⟨aU, cU, rfl⟩ := ok3.b.slice; have OK3 := Lib.hid ok3; have OO3 := Lib.hid (fun (h : sp3 = true) => show OwnR wf W0.heap.size (.slice aT a3.length cT) a3 ∧ OwnR wf W0.heap.size (.slice aU b3'.length cU) b3' from ⟨own_mono (oo3 h).1 (Below.size (J3.out.trans (show Kp V3 _ from (by first | with_reducible exact kkwe | ((repeat (first | with_reducible refine Kp.trans ?_ (Kp.drew _) | with_reducible refine Kp.trans ?_ (Kp.alloc _ _))); with_reducible exact kkwe))))), own_mono (oo3 h).2 (Below.size (J3.out.trans (show Kp V3 _ from (by first | with_reducible exact kkwe | ((repeat (first | with_reducible refine Kp.trans ?_ (Kp.drew _) | with_reducible refine Kp.trans ?_ (Kp.alloc _ _))); with_reducible exact kkwe)))))⟩); clear ok3 oo3; obtain ⟨p0, p1, p2, p3⟩ := row4 hp; have f0 : wf.frozen? ⟨wd.heap.size, 0, none⟩ = false := (by simp [World.frozen?, hp]); have f1 : wf.frozen? ⟨wd.heap.size, 1, none⟩ = false := (by simp [World.frozen?, hp]); have f2 : wf.frozen? ⟨wd.heap.size, 2, none⟩ = false := (by simp [World.frozen?, hp]); have f3 : wf.frozen? ⟨wd.heap.size, 3, none⟩ = false := (by simp [World.frozen?, hp]); have hBle : V3.heap.size ≤ wd.heap.size := Below.size (show Kp V3 wd from kkwd); clear kq1)
                (try go_wp2_with fail)
                refine hK.out _ _ ?_ (fun hHeld4 => ?_)
                · (try dsimp only); exact KSr.out _ (by first | with_reducible exact kkwf | ((repeat (first | with_reducible refine Kp.trans ?_ (Kp.drew _) | with_reducible refine Kp.trans ?_ (Kp.alloc _ _))); with_reducible exact kkwf))
                clear hK K hHeld3
                (try simp only [Act.put, nwnE15, List.setIfInBounds_toArray, List.set_cons_zero, List.set_cons_succ])
                refine tkE 17 nwnE17 rfl (by kernel_rfl) (fun K hK => ?_)
                go_simp
                skip
                (try go_wp2_with fail)
                refine hK.out _ _ ?_ (fun hHeld5 => ?_)
                · (try dsimp only); exact KSr.out _ (by first | exact set4_below kkwf _ hBle _ _ _ _ | exact (set4_below kkwf _ hBle _ _ _ _).trans (Kp.drew _))
                clear hK K hHeld4
                (try simp only [Act.put, nwnE17, List.setIfInBounds_toArray, List.set_cons_zero, List.set_cons_succ])
                refine wpAnyH_done (by kernel_rfl) ?_ _
                obtain ⟨V4, hV4⟩ : ∃ x, x = ((((wf.setCell ⟨wd.heap.size, 0, none⟩ (.bool sp3)).setCell ⟨wd.heap.size, 1, none⟩ (.int .i64 u3')).setCell ⟨wd.heap.size, 2, none⟩ (.slice aT a3.length cT)).setCell ⟨wd.heap.size, 3, none⟩ (.slice aU b3'.length cU)) := ⟨_, rfl⟩
                have k4 : Kp V3 V4 := by rw [hV4]; exact set4_below kkwf _ hBle _ _ _ _
                have hp4 : V4.heap[wd.heap.size]? = some (.cells #[.bool sp3, .int .i64 u3', .slice aT a3.length cT, .slice aU b3'.length cU] 47 (0, 0)) := by rw [hV4]; exact set4_heap hp _ _ _ _
                have LO4 := Lib.hid (show LeafOk V4 ⟨sp3, u3', a3, b3'⟩ (.slice aT a3.length cT) (.slice aU b3'.length cU) from ⟨by rw [hV4]; exact OK3.out.a.off hp (fun k o h => set4_cell _ _ _ _ _ _ k o h), by rw [hV4]; exact OK3.out.b.off hp (fun k o h => set4_cell _ _ _ _ _ _ k o h), OK3.out.ia, OK3.out.ib, OK3.out.na, OK3.out.nb⟩)
                have OO4 := Lib.hid (fun (h : sp3 = true) => show OwnR V4 W0.heap.size (.slice aT a3.length cT) a3 ∧ OwnR V4 W0.heap.size (.slice aU b3'.length cU) b3' from by rw [hV4]; exact ⟨own_far4 (OO3.out h).1 (own_type_ne (OO3.out h).1 hp (by decide)) _ _ _ _, own_far4 (OO3.out h).2 (own_type_ne (OO3.out h).2 hp (by decide)) _ _ _ _⟩)
                clear p0 p1 p2 p3 f0 f1 f2 f3 hp
                have HV4 := Lib.hid hV4
                have K4 := Lib.hid k4
                obtain ⟨p0, p1, p2, p3⟩ := row4 hp4
                have HP4 := Lib.hid hp4
                clear hV4 k4 hp4 CA CB TY OA OB OK3 OO3 kkwd kkwe kkwf
                rw [← HV4.out]
                clear HV4
                go_wp2_with fail
                refine (EM.out _ _ _ LO4.out K4.out).mono ?_
                rintro e w8 ⟨rfl, k8⟩
                have K8 := Lib.hid (K4.out.trans k8)
                have k80 := Lib.hid k8
                clear p0 p1 p2 p3
                obtain ⟨p0, p1, p2, p3⟩ := row4 (heap_block k8 HP4.out)
                clear k8
                cases em with
                | true =>
                  have HMN := Lib.hid (show mm.map Prod.fst = M0 ++ (Kb.take (j + 1)).flatMap (partF s e') by rw [HM.out, PN, PFH.out, if_pos rfl, List.append_nil])
                  clear mml PN
                  go_wp2
                  go_roundw
                  case rel => exact ⟨j + 1, mm, by omega, by go_num, HMN, Lib.hid (OV3.out.kp K8.out), Lib.hid (own_kp OW3.out K8.out), NE, Lib.hid (heap_block K8.out FB3.out), Lib.hid (own_kp OS3.out K8.out), Lib.hid (own_kp OE3.out K8.out), Lib.hid (J3.out.trans K8.out)⟩
                  case measure => simp [intOf]; omega
                | false =>
                  have HMN := Lib.hid (show (mm ++ [((⟨sp3, u3', a3, b3'⟩ : LF), ((.slice aT a3.length cT, .slice aU b3'.length cU) : VV))]).map Prod.fst = M0 ++ (Kb.take (j + 1)).flatMap (partF s e') by rw [List.map_append, HM.out, PN, PFH.out, if_neg (by decide), List.append_assoc]; rfl)
                  have o4 := OO4.out (SPH.out rfl)
                  have O4 := Lib.hid o4
                  clear PN o4
                  go_wp2_with (at_builtin; refine wpList_app rfl (.tmp 79) (.tmp 81) 22 rfl W0.heap.size 47 h0 (.agg #[.bool false, .int .i64 0, .slice none 0 0, .slice none 0 0]) 4 64 Tryz.underlying22 hi hz0 hz1 hz2 rfl (by decide) _ mm.length (cellsV mm) rfl (own_kp OW3.out (K8.out.trans (Kp.alloc _ _))) _ 1 (cellsV [((⟨sp3, u3', a3, b3'⟩ : LF), ((.slice aT a3.length cT, .slice aU b3'.length cU) : VV))]) rfl (own_srcV (own_leaf _ ⟨sp3, u3', a3, b3'⟩ (.slice aT a3.length cT) (.slice aU b3'.length cU))) (by rfl) (by intro u hu; simp [cellsV] at hu; rcases hu with rfl | rfl | rfl | rfl <;> rfl) (by unfold maxLen; omega) (by omega) (Below.size (J3.out.trans (K8.out.trans (Kp.alloc _ _)))) ?_; intro v9 w9 hown hgrow hat; have G9 := Lib.hid (Kp.grown (J3.out.trans (K8.out.trans (Kp.alloc _ _))) hgrow (fun j hj => (OW3.out.lt j hj).1)); have OV9 := Lib.hid (((((OV3.out.kp K8.out).append (show OwnV w8 W0.heap.size [((⟨sp3, u3', a3, b3'⟩ : LF), ((.slice aT a3.length cT, .slice aU b3'.length cU) : VV))] from fun p hp => by rw [List.mem_singleton.1 hp]; exact ⟨own_kp O4.out.1 k80.out, own_kp O4.out.2 k80.out⟩)).kp (Kp.alloc _ _)).grown hgrow (own_kp OW3.out (K8.out.trans (Kp.alloc _ _))))); have OW9 := Lib.hid (show w9.ownsRow W0.heap.size 47 4 v9 (mm ++ [((⟨sp3, u3', a3, b3'⟩ : LF), ((.slice aT a3.length cT, .slice aU b3'.length cU) : VV))]).length (cellsV (mm ++ [((⟨sp3, u3', a3, b3'⟩ : LF), ((.slice aT a3.length cT, .slice aU b3'.length cU) : VV))])) from (by rw [cellsV_append, List.length_append]; exact hown)); have NE9 := Lib.hid (ne_next hat NE.out (Nat.lt_of_lt_of_le ltF (Below.size (K8.out.trans (Kp.alloc _ _))))); have FB9 := Lib.hid (grown_at hgrow (heap_block (K8.out.trans (Kp.alloc _ _)) FB3.out) NE.out); have OS9 := Lib.hid (own_apart (own_kp OS3.out (K8.out.trans (Kp.alloc _ _))) hgrow (own_types OW3.out OS3.out (by decide))); have OE9 := Lib.hid (own_apart (own_kp OE3.out (K8.out.trans (Kp.alloc _ _))) hgrow (own_types OW3.out OE3.out (by decide))); clear hown hgrow hat)
                  go_roundw
                  case rel => exact ⟨j + 1, mm ++ [((⟨sp3, u3', a3, b3'⟩ : LF), ((.slice aT a3.length cT, .slice aU b3'.length cU) : VV))], by omega, by go_num, HMN, OV9, OW9, NE9, FB9, OS9, OE9, G9⟩
                  case measure => simp [intOf]; omega
            · go_simp
              skip
              (try go_wp2_with fail)
              refine hK.out _ _ ?_ (fun hHeld1 => ?_)
              · (try dsimp only); exact KSr.out _ (by first | with_reducible exact kkwc | ((repeat (first | with_reducible refine Kp.trans ?_ (Kp.drew _) | with_reducible refine Kp.trans ?_ (Kp.alloc _ _))); with_reducible exact kkwc))
              clear hK K hHeld0
              (try simp only [Act.put, nwnE16, List.setIfInBounds_toArray, List.set_cons_zero, List.set_cons_succ])
              refine tkE 6 nwnE6 rfl (by kernel_rfl) (fun K hK => ?_)
              go_simp
              (refine (CA.out _ (by first | with_reducible exact kkwc | ((repeat (first | with_reducible refine Kp.trans ?_ (Kp.drew _) | with_reducible refine Kp.trans ?_ (Kp.alloc _ _))); with_reducible exact kkwc))).mono ?_; rintro e wd ⟨v1, rfl, o1, kq1⟩; have kkwd : Kp V3 wd := Kp.trans (show Kp V3 _ from (by first | with_reducible exact kkwc | ((repeat (first | with_reducible refine Kp.trans ?_ (Kp.drew _) | with_reducible refine Kp.trans ?_ (Kp.alloc _ _))); with_reducible exact kkwc))) kq1; have hp : wd.heap[wc.heap.size]? = some (.cells #[.bool false, .int .i64 0, .slice none 0 0, .slice none 0 0] 47 (0, 0)) := heap_block kq1 (by (repeat (first | with_reducible exact heap_at _ _ _ (by first | rfl | simp) | with_reducible refine heap_block (Kp.drew _) ?_ | with_reducible refine heap_block (Kp.alloc _ _) ?_))); obtain ⟨aA, lA, rfl⟩ := own_slice o1; have OA := Lib.hid o1; clear o1; clear kq1)
              (try go_wp2_with fail)
              refine hK.out _ _ ?_ (fun hHeld2 => ?_)
              · (try dsimp only); exact KSr.out _ (by first | with_reducible exact kkwd | ((repeat (first | with_reducible refine Kp.trans ?_ (Kp.drew _) | with_reducible refine Kp.trans ?_ (Kp.alloc _ _))); with_reducible exact kkwd))
              clear hK K hHeld1
              (try simp only [Act.put, nwnE6, List.setIfInBounds_toArray, List.set_cons_zero, List.set_cons_succ])
              refine tkE 13 nwnE13 rfl (by kernel_rfl) (fun K hK => ?_)
              go_simp
              (refine (CB.out _ (by first | with_reducible exact kkwd | ((repeat (first | with_reducible refine Kp.trans ?_ (Kp.drew _) | with_reducible refine Kp.trans ?_ (Kp.alloc _ _))); with_reducible exact kkwd))).mono ?_; rintro e we ⟨v2, rfl, o2, kq1⟩; have kkwe : Kp V3 we := Kp.trans (show Kp V3 _ from (by first | with_reducible exact kkwd | ((repeat (first | with_reducible refine Kp.trans ?_ (Kp.drew _) | with_reducible refine Kp.trans ?_ (Kp.alloc _ _))); with_reducible exact kkwd))) kq1; have hp : we.heap[wc.heap.size]? = some (.cells #[.bool false, .int .i64 0, .slice none 0 0, .slice none 0 0] 47 (0, 0)) := heap_block (Kp.trans (show Kp wd _ from (by first | with_reducible exact (Kp.refl wd) | ((repeat (first | with_reducible refine Kp.trans ?_ (Kp.drew _) | with_reducible refine Kp.trans ?_ (Kp.alloc _ _))); with_reducible exact (Kp.refl wd)))) kq1) hp; obtain ⟨aB, lB, rfl⟩ := own_slice o2; have OB := Lib.hid o2; clear o2; have OA := Lib.hid (own_kp OA.out (Kp.trans (show Kp wd _ from (by first | with_reducible exact (Kp.refl wd) | ((repeat (first | with_reducible refine Kp.trans ?_ (Kp.drew _) | with_reducible refine Kp.trans ?_ (Kp.alloc _ _))); with_reducible exact (Kp.refl wd)))) kq1)); clear kq1)
              (try go_wp2_with fail)
              refine hK.out _ _ ?_ (fun hHeld3 => ?_)
              · (try dsimp only); exact KSr.out _ (by first | with_reducible exact kkwe | ((repeat (first | with_reducible refine Kp.trans ?_ (Kp.drew _) | with_reducible refine Kp.trans ?_ (Kp.alloc _ _))); with_reducible exact kkwe))
              clear hK K hHeld2
              (try simp only [Act.put, nwnE13, List.setIfInBounds_toArray, List.set_cons_zero, List.set_cons_succ])
              refine tkW (v := ?_) 14 nwnE14 rfl (by kernel_rfl) (by kernel_rfl) (by kernel_rfl) (fun _ _ _ h => h) (by rfl) ?_ (by assumption) ?_
              rotate_left
              · intro w hSw; (try dsimp only at hSw); go_simp; (try with_reducible rfl)
              (try simp only [Act.put, nwnE14, List.setIfInBounds_toArray, List.set_cons_zero, List.set_cons_succ])
              refine tkE 15 nwnE15 rfl (by kernel_rfl) (fun K hK => ?_)
              go_simp
              (refine (TY.out _ _ _ (by first | with_reducible exact kkwe | ((repeat (first | with_reducible refine Kp.trans ?_ (Kp.drew _) | with_reducible refine Kp.trans ?_ (Kp.alloc _ _))); with_reducible exact kkwe)) ((OwnR.runs OA.out).kp (by first | with_reducible exact (Kp.refl we) | ((repeat (first | with_reducible refine Kp.trans ?_ (Kp.drew _) | with_reducible refine Kp.trans ?_ (Kp.alloc _ _))); with_reducible exact (Kp.refl we)))) ((OwnR.runs OB.out).kp (by first | with_reducible exact (Kp.refl we) | ((repeat (first | with_reducible refine Kp.trans ?_ (Kp.drew _) | with_reducible refine Kp.trans ?_ (Kp.alloc _ _))); with_reducible exact (Kp.refl we))))).mono ?_; rintro e wf ⟨va3, vb3, rfl, ok3, kq1⟩; have kkwf : Kp V3 wf := Kp.trans (show Kp V3 _ from (by first | with_reducible exact kkwe | ((repeat (first | with_reducible refine Kp.trans ?_ (Kp.drew _) | with_reducible refine Kp.trans ?_ (Kp.alloc _ _))); with_reducible exact kkwe))) kq1; have hp : wf.heap[wc.heap.size]? = some (.cells #[.bool false, .int .i64 0, .slice none 0 0, .slice none 0 0] 47 (0, 0)) := heap_block (Kp.trans (show Kp we _ from (by first | with_reducible exact (Kp.refl we) | ((repeat (first | with_reducible refine Kp.trans ?_ (Kp.drew _) | with_reducible refine Kp.trans ?_ (Kp.alloc _ _))); with_reducible exact (Kp.refl we)))) kq1) hp; obtain ⟨ok3, oo3⟩ := ok3; obtain ⟨aT, cT, rfl⟩ := ok3.a.slice; obtain ⟨aU, cU, rfl⟩ := ok3.b.slice; have OK3 := Lib.hid ok3; have OO3 := Lib.hid (fun (h : sp3 = true) => show OwnR wf W0.heap.size (.slice aT a3.length cT) a3 ∧ OwnR wf W0.heap.size (.slice aU b3'.length cU) b3' from ⟨own_mono (oo3 h).1 (Below.size (J3.out.trans (show Kp V3 _ from (by first | with_reducible exact kkwe | ((repeat (first | with_reducible refine Kp.trans ?_ (Kp.drew _) | with_reducible refine Kp.trans ?_ (Kp.alloc _ _))); with_reducible exact kkwe))))), own_mono (oo3 h).2 (Below.size (J3.out.trans (show Kp V3 _ from (by first | with_reducible exact kkwe | ((repeat (first | with_reducible refine Kp.trans ?_ (Kp.drew _) | with_reducible refine Kp.trans ?_ (Kp.alloc _ _))); with_reducible exact kkwe)))))⟩); clear ok3 oo3; obtain ⟨p0, p1, p2, p3⟩ := row4 hp; have f0 : wf.frozen? ⟨wc.heap.size, 0, none⟩ = false := (by simp [World.frozen?, hp]); have f1 : wf.frozen? ⟨wc.heap.size, 1, none⟩ = false := (by simp [World.frozen?, hp]); have f2 : wf.frozen? ⟨wc.heap.size, 2, none⟩ = false := (by simp [World.frozen?, hp]); have f3 : wf.frozen? ⟨wc.heap.size, 3, none⟩ = false := (by simp [World.frozen?, hp]); have hBle : V3.heap.size ≤ wc.heap.size := Below.size (show Kp V3 wc from kkwc); clear kq1)
              (try go_wp2_with fail)
              refine hK.out _ _ ?_ (fun hHeld4 => ?_)
              · (try dsimp only); exact KSr.out _ (by first | with_reducible exact kkwf | ((repeat (first | with_reducible refine Kp.trans ?_ (Kp.drew _) | with_reducible refine Kp.trans ?_ (Kp.alloc _ _))); with_reducible exact kkwf))
              clear hK K hHeld3
              (try simp only [Act.put, nwnE15, List.setIfInBounds_toArray, List.set_cons_zero, List.set_cons_succ])
              refine tkE 17 nwnE17 rfl (by kernel_rfl) (fun K hK => ?_)
              go_simp
              skip
              (try go_wp2_with fail)
              refine hK.out _ _ ?_ (fun hHeld5 => ?_)
              · (try dsimp only); exact KSr.out _ (by first | exact set4_below kkwf _ hBle _ _ _ _ | exact (set4_below kkwf _ hBle _ _ _ _).trans (Kp.drew _))
              clear hK K hHeld4
              (try simp only [Act.put, nwnE17, List.setIfInBounds_toArray, List.set_cons_zero, List.set_cons_succ])
              refine wpAnyH_done (by kernel_rfl) ?_ _
              obtain ⟨V4, hV4⟩ : ∃ x, x = ((((wf.setCell ⟨wc.heap.size, 0, none⟩ (.bool sp3)).setCell ⟨wc.heap.size, 1, none⟩ (.int .i64 u3')).setCell ⟨wc.heap.size, 2, none⟩ (.slice aT a3.length cT)).setCell ⟨wc.heap.size, 3, none⟩ (.slice aU b3'.length cU)) := ⟨_, rfl⟩
              have k4 : Kp V3 V4 := by rw [hV4]; exact set4_below kkwf _ hBle _ _ _ _
              have hp4 : V4.heap[wc.heap.size]? = some (.cells #[.bool sp3, .int .i64 u3', .slice aT a3.length cT, .slice aU b3'.length cU] 47 (0, 0)) := by rw [hV4]; exact set4_heap hp _ _ _ _
              have LO4 := Lib.hid (show LeafOk V4 ⟨sp3, u3', a3, b3'⟩ (.slice aT a3.length cT) (.slice aU b3'.length cU) from ⟨by rw [hV4]; exact OK3.out.a.off hp (fun k o h => set4_cell _ _ _ _ _ _ k o h), by rw [hV4]; exact OK3.out.b.off hp (fun k o h => set4_cell _ _ _ _ _ _ k o h), OK3.out.ia, OK3.out.ib, OK3.out.na, OK3.out.nb⟩)
              have OO4 := Lib.hid (fun (h : sp3 = true) => show OwnR V4 W0.heap.size (.slice aT a3.length cT) a3 ∧ OwnR V4 W0.heap.size (.slice aU b3'.length cU) b3' from by rw [hV4]; exact ⟨own_far4 (OO3.out h).1 (own_type_ne (OO3.out h).1 hp (by decide)) _ _ _ _, own_far4 (OO3.out h).2 (own_type_ne (OO3.out h).2 hp (by decide)) _ _ _ _⟩)
              clear p0 p1 p2 p3 f0 f1 f2 f3 hp
              have HV4 := Lib.hid hV4
              have K4 := Lib.hid k4
              obtain ⟨p0, p1, p2, p3⟩ := row4 hp4
              have HP4 := Lib.hid hp4
              clear hV4 k4 hp4 CA CB TY OA OB OK3 OO3 kkwd kkwe kkwf
              rw [← HV4.out]
              clear HV4
              go_wp2_with fail
              refine (EM.out _ _ _ LO4.out K4.out).mono ?_
              rintro e w8 ⟨rfl, k8⟩
              have K8 := Lib.hid (K4.out.trans k8)
              have k80 := Lib.hid k8
              clear p0 p1 p2 p3
              obtain ⟨p0, p1, p2, p3⟩ := row4 (heap_block k8 HP4.out)
              clear k8
              cases em with
              | true =>
                have HMN := Lib.hid (show mm.map Prod.fst = M0 ++ (Kb.take (j + 1)).flatMap (partF s e') by rw [HM.out, PN, PFH.out, if_pos rfl, List.append_nil])
                clear mml PN
                go_wp2
                go_roundw
                case rel => exact ⟨j + 1, mm, by omega, by go_num, HMN, Lib.hid (OV3.out.kp K8.out), Lib.hid (own_kp OW3.out K8.out), NE, Lib.hid (heap_block K8.out FB3.out), Lib.hid (own_kp OS3.out K8.out), Lib.hid (own_kp OE3.out K8.out), Lib.hid (J3.out.trans K8.out)⟩
                case measure => simp [intOf]; omega
              | false =>
                have HMN := Lib.hid (show (mm ++ [((⟨sp3, u3', a3, b3'⟩ : LF), ((.slice aT a3.length cT, .slice aU b3'.length cU) : VV))]).map Prod.fst = M0 ++ (Kb.take (j + 1)).flatMap (partF s e') by rw [List.map_append, HM.out, PN, PFH.out, if_neg (by decide), List.append_assoc]; rfl)
                have o4 := OO4.out (SPH.out rfl)
                have O4 := Lib.hid o4
                clear PN o4
                go_wp2_with (at_builtin; refine wpList_app rfl (.tmp 79) (.tmp 81) 22 rfl W0.heap.size 47 h0 (.agg #[.bool false, .int .i64 0, .slice none 0 0, .slice none 0 0]) 4 64 Tryz.underlying22 hi hz0 hz1 hz2 rfl (by decide) _ mm.length (cellsV mm) rfl (own_kp OW3.out (K8.out.trans (Kp.alloc _ _))) _ 1 (cellsV [((⟨sp3, u3', a3, b3'⟩ : LF), ((.slice aT a3.length cT, .slice aU b3'.length cU) : VV))]) rfl (own_srcV (own_leaf _ ⟨sp3, u3', a3, b3'⟩ (.slice aT a3.length cT) (.slice aU b3'.length cU))) (by rfl) (by intro u hu; simp [cellsV] at hu; rcases hu with rfl | rfl | rfl | rfl <;> rfl) (by unfold maxLen; omega) (by omega) (Below.size (J3.out.trans (K8.out.trans (Kp.alloc _ _)))) ?_; intro v9 w9 hown hgrow hat; have G9 := Lib.hid (Kp.grown (J3.out.trans (K8.out.trans (Kp.alloc _ _))) hgrow (fun j hj => (OW3.out.lt j hj).1)); have OV9 := Lib.hid (((((OV3.out.kp K8.out).append (show OwnV w8 W0.heap.size [((⟨sp3, u3', a3, b3'⟩ : LF), ((.slice aT a3.length cT, .slice aU b3'.length cU) : VV))] from fun p hp => by rw [List.mem_singleton.1 hp]; exact ⟨own_kp O4.out.1 k80.out, own_kp O4.out.2 k80.out⟩)).kp (Kp.alloc _ _)).grown hgrow (own_kp OW3.out (K8.out.trans (Kp.alloc _ _))))); have OW9 := Lib.hid (show w9.ownsRow W0.heap.size 47 4 v9 (mm ++ [((⟨sp3, u3', a3, b3'⟩ : LF), ((.slice aT a3.length cT, .slice aU b3'.length cU) : VV))]).length (cellsV (mm ++ [((⟨sp3, u3', a3, b3'⟩ : LF), ((.slice aT a3.length cT, .slice aU b3'.length cU) : VV))])) from (by rw [cellsV_append, List.length_append]; exact hown)); have NE9 := Lib.hid (ne_next hat NE.out (Nat.lt_of_lt_of_le ltF (Below.size (K8.out.trans (Kp.alloc _ _))))); have FB9 := Lib.hid (grown_at hgrow (heap_block (K8.out.trans (Kp.alloc _ _)) FB3.out) NE.out); have OS9 := Lib.hid (own_apart (own_kp OS3.out (K8.out.trans (Kp.alloc _ _))) hgrow (own_types OW3.out OS3.out (by decide))); have OE9 := Lib.hid (own_apart (own_kp OE3.out (K8.out.trans (Kp.alloc _ _))) hgrow (own_types OW3.out OE3.out (by decide))); clear hown hgrow hat)
                go_roundw
                case rel => exact ⟨j + 1, mm ++ [((⟨sp3, u3', a3, b3'⟩ : LF), ((.slice aT a3.length cT, .slice aU b3'.length cU) : VV))], by omega, by go_num, HMN, OV9, OW9, NE9, FB9, OS9, OE9, G9⟩
                case measure => simp [intOf]; omega
          · have q4 : decide ((j : Int) < (Kb.length : Int)) = false := decide_eq_false (by omega)
            have q5 : decide (j < Kb.length) = false := decide_eq_false (by omega)
            obtain rfl : j = Kb.length := by omega
            have EQ := Lib.hid (show mm.map Prod.fst = leftL Kb D (l.take (k + 1)) by rw [HM.out, LN2.out, List.take_length])
            have Q2 := Lib.hid q2
            clear q2 q3 mml
            go_wp2
            go_roundw
            case rel => exact ⟨k + 1, mm, by omega, by go_num, EQ, OV, OW, J2⟩
            case measure => simp [intOf]; omega
    · have q2 : decide ((k : Int) < (l.length : Int)) = false := decide_eq_false (by omega)
      have q3 : decide (k < l.length) = false := decide_eq_false (by omega)
      obtain rfl : k = l.length := by omega
      have EQ := Lib.hid (show m.map Prod.fst = leftL Kb D l by rw [HM.out, List.take_length])
      go_wp2
      (try rw [Exit.noGoto_ret])
      go_ret
      exact ⟨_, m, rfl, EQ.out, OV.out.mono (Below.size K0.out), own_mono OW.out (Below.size K0.out), K0.out.trans J.out⟩
end Go.Proofs.YtjdnejglapnbbaaGreatDoor
