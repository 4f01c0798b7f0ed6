/-
  Layer 8, the document's answer: contract of days (PointIs).
-/
import Derived.Test.YtinpglfclbnhlaaGreatDoorPiC
import Derived.Test.YtinpglfclbnhlaaGreatDoorGCiv
namespace Go.Proofs.YtinpglfclbnhlaaGreatDoor
open Go.RowKit
set_option linter.unusedVariables false
set_option linter.unusedSimpArgs false
theorem puts_le (L : List Int) : ∀ l : List R, (L.foldl putI l).length ≤ l.length + L.length := by
  induction L with
  | nil => intro l; simp
  | cons n t ih =>
    intro l
    rw [List.foldl_cons, List.length_cons]
    have h1 := ih (putI l n)
    have h2 : (putI l n).length ≤ l.length + 1 := by
      unfold putI
      split
      · simp
      · split
        · rw [List.length_append, List.length_dropLast]; simp <;> omega
        · simp
    omega
def zat (l : List Int) (i : Nat) : Int := l.getD i 0
theorem zat_mem {l : List Int} {i : Nat} (h : i < l.length) : zat l i ∈ l := by
  unfold zat
  rw [List.getD_eq_getElem?_getD, List.getElem?_eq_getElem h]
  exact List.getElem_mem h
theorem ztake {l : List Int} {i : Nat} (h : i < l.length) : l.take (i + 1) = l.take i ++ [zat l i] := by
  unfold zat
  rw [List.take_succ_eq_append_getElem h, List.getD_eq_getElem?_getD, List.getElem?_eq_getElem h]
  rfl
/-- the numbers put so far -/
def dsL (Y M D : List Int) (m d : ByteArray) (i j k : Nat) : List Int :=
  (Y.take i).flatMap (dyF m d) ++ ((M.take j).flatMap (dmL d (zat Y i)) ++ ((D.take k).filter fun x => decide (x ≤ dim (zat Y i) (zat M j))).map fun x => num (zat Y i) (zat M j) 1 + x - 1)
def dsR (Y M D : List Int) (m d : ByteArray) (i j k : Nat) : List R := (dsL Y M D m d i j k).foldl putI []
theorem ds_0 (p : PT) (i : Nat) (M D : List Int) : dsR (numsL p.y 0 9999) M D p.m p.d i 0 0 = dyP p i := by
  rw [dyP_eq]
  unfold dsR dsL
  simp
theorem ds_yes {Y M D : List Int} {m d : ByteArray} {i j k : Nat} (h : k < D.length) (g : zat D k ≤ dim (zat Y i) (zat M j)) : dsR Y M D m d i j (k + 1) = putI (dsR Y M D m d i j k) (num (zat Y i) (zat M j) 1 + zat D k - 1) := by
  unfold dsR dsL
  rw [ztake h, List.filter_append, List.filter_cons_of_pos (by simpa using g), List.filter_nil, List.map_append, ← List.append_assoc, ← List.append_assoc, List.foldl_append]
  simp [List.append_assoc]
theorem ds_no {Y M D : List Int} {m d : ByteArray} {i j k : Nat} (h : k < D.length) (g : ¬ zat D k ≤ dim (zat Y i) (zat M j)) : dsR Y M D m d i j (k + 1) = dsR Y M D m d i j k := by
  unfold dsR dsL
  rw [ztake h, List.filter_append, List.filter_cons_of_neg (by simpa using g), List.filter_nil, List.append_nil]
theorem ds_row {Y M : List Int} {m d : ByteArray} {i j : Nat} (h : j < M.length) : dsR Y M (numsL d 1 31) m d i j (numsL d 1 31).length = dsR Y M (numsL d 1 31) m d i (j + 1) 0 := by
  unfold dsR dsL
  rw [List.take_length, ztake h, List.flatMap_append, List.flatMap_cons, List.flatMap_nil, List.append_nil]
  rw [show dmL d (zat Y i) (zat M j) = ((numsL d 1 31).filter fun x => decide (x ≤ dim (zat Y i) (zat M j))).map fun x => num (zat Y i) (zat M j) 1 + x - 1 from rfl]
  simp
theorem ds_year {Y D : List Int} {m d : ByteArray} {i : Nat} (h : i < Y.length) : dsR Y (numsL m 1 12) D m d i (numsL m 1 12).length 0 = dsR Y (numsL m 1 12) D m d (i + 1) 0 0 := by
  unfold dsR dsL
  rw [List.take_length, ztake h, List.flatMap_append, List.flatMap_cons, List.flatMap_nil, List.append_nil]
  rw [show dyF m d (zat Y i) = (numsL m 1 12).flatMap (dmL d (zat Y i)) from rfl]
  simp
theorem num_len (s : ByteArray) (a b : Int) : (numsL s a b).length ≤ (b - a + 1).toNat := nm_len s a _
theorem fz_bd {α β : Type} (l : List α) (f : α → List β) (W : Nat) (h : ∀ x ∈ l, (f x).length ≤ W) : (l.flatMap f).length ≤ l.length * W := by
  induction l with
  | nil => simp
  | cons a t ih =>
    have h1 := h a List.mem_cons_self
    have h2 := ih (fun x hx => h x (List.mem_cons_of_mem _ hx))
    rw [List.flatMap_cons, List.length_append, List.length_cons, Nat.add_mul]
    omega
theorem ds_len (y m d : ByteArray) (i j k : Nat) : (dsR (numsL y 0 9999) (numsL m 1 12) (numsL d 1 31) m d i j k).length ≤ 4000000 := by
  have a1 := num_len y 0 9999
  have a2 := num_len m 1 12
  have a3 := num_len d 1 31
  have dm : ∀ y m, (dmL d y m).length ≤ 31 := fun y m => by
    unfold dmL
    rw [List.length_map]
    exact Nat.le_trans (List.length_filter_le _ _) (by omega)
  have df : ∀ y, (dyF m d y).length ≤ 372 := fun y => by
    unfold dyF
    have := fz_bd (numsL m 1 12) (dmL d y) 31 (fun x _ => dm y x)
    omega
  have h1 := fz_bd ((numsL y 0 9999).take i) (dyF m d) 372 (fun x _ => df x)
  have h2 := fz_bd ((numsL m 1 12).take j) (dmL d (zat (numsL y 0 9999) i)) 31 (fun x _ => dm _ x)
  have t1 : ((numsL y 0 9999).take i).length ≤ (numsL y 0 9999).length := List.length_take_le' _ _
  have t2 : ((numsL m 1 12).take j).length ≤ (numsL m 1 12).length := List.length_take_le' _ _
  have t3 : ((numsL d 1 31).take k).length ≤ (numsL d 1 31).length := List.length_take_le' _ _
  have t4 := List.length_filter_le (fun x => decide (x ≤ dim (zat (numsL y 0 9999) i) (zat (numsL m 1 12) j))) ((numsL d 1 31).take k)
  have h3 := puts_le (dsL (numsL y 0 9999) (numsL m 1 12) (numsL d 1 31) m d i j k) []
  unfold dsR
  unfold dsL at h3 ⊢
  rw [List.length_append, List.length_append, List.length_map, List.length_nil] at h3
  omega
theorem ds_grow (y m d : ByteArray) (i : Nat) : (dsR (numsL y 0 9999) (numsL m 1 12) (numsL d 1 31) m d i (numsL m 1 12).length 0).length ≤ (dsR (numsL y 0 9999) (numsL m 1 12) (numsL d 1 31) m d i 0 0).length + 372 := by
  have a2 := num_len m 1 12
  have a3 := num_len d 1 31
  have dm : ∀ x ∈ numsL m 1 12, (dmL d (zat (numsL y 0 9999) i) x).length ≤ 31 := fun x _ => by
    unfold dmL
    rw [List.length_map]
    exact Nat.le_trans (List.length_filter_le _ _) (by omega)
  have h2 := fz_bd (numsL m 1 12) (dmL d (zat (numsL y 0 9999) i)) 31 dm
  have h3 := puts_le ((numsL m 1 12).flatMap (dmL d (zat (numsL y 0 9999) i))) (((numsL y 0 9999).take i).flatMap (dyF m d) |>.foldl putI [])
  unfold dsR dsL
  simp only [List.take_length, List.take_zero, List.flatMap_nil, List.filter_nil, List.map_nil, List.append_nil]
  rw [List.foldl_append]
  omega
theorem row4 {W : World} {B : Nat} {a b c d : Value} {t : TypeId} {fr : Nat × Nat} (h : W.heap[B]? = some (.cells #[a, b, c, d] t fr)) : W.cell? ⟨B, 0, none⟩ = some a ∧ W.cell? ⟨B, 1, none⟩ = some b ∧ W.cell? ⟨B, 2, none⟩ = some c ∧ W.cell? ⟨B, 3, none⟩ = some d := by
  refine ⟨?_, ?_, ?_, ?_⟩ <;> simp [World.cell?, h]
def numv8 (y m d : Int) : Int := if vldB y m d then num y m d else 0
theorem rnumber8_v (y m d : Int) (w : World) :
    Calls Tryz.prog 65 #[.int .i64 y, .int .i64 m, .int .i64 d] w fun e w' => e = .returned (.tuple #[.int .i64 (numv8 y m d), .bool (vldB y m d)]) ∧ w = w' := rnumber_any y m d w
theorem day_n {y m x : Int} (hy : 0 ≤ y ∧ y ≤ 9999) (hm : 1 ≤ m ∧ m ≤ 12) (hx : 1 ≤ x ∧ x ≤ 31) : numv8 y m 1 = num y m 1 ∧ 0 ≤ num y m 1 ∧ num y m 1 ≤ 3652424 := by
  have dp := dim_pos y m hm.1 hm.2
  have v : vldB y m 1 = true := (vld_iff y m 1).2 ⟨hy.1, hy.2, by omega, by omega⟩
  have r := num_range v
  refine ⟨?_, r⟩
  unfold numv8
  rw [if_pos v]
abbrev pdA0 : Oper := { dst := some 39, op := Go.Op.move (Go.Operand.tmp 3), type := 67, pos := "ref.go:124", after := #[], guard := none }
abbrev pdA1 : Oper := { dst := some 40, op := Go.Op.move (Go.Operand.tmp 7), type := 3, pos := "ref.go:124", after := #[], guard := none }
abbrev pdA2 : Oper := { dst := some 41, op := Go.Op.indexAddr 67 (Go.Operand.tmp 39) (Go.Operand.tmp 40), type := 0, pos := "ref.go:124", after := #[{ on := 0, ground := Go.Ground.data }, { on := 1, ground := Go.Ground.data }], guard := none }
abbrev pdA3 : Oper := { dst := some 42, op := Go.Op.load 3 (Go.Operand.tmp 41), type := 3, pos := "ref.go:124", after := #[{ on := 2, ground := Go.Ground.data }], guard := none }
abbrev pdA4 : Oper := { dst := some 43, op := Go.Op.move (Go.Operand.tmp 4), type := 67, pos := "ref.go:124", after := #[], guard := none }
abbrev pdA5 : Oper := { dst := some 44, op := Go.Op.move (Go.Operand.tmp 8), type := 3, pos := "ref.go:124", after := #[], guard := none }
abbrev pdA6 : Oper := { dst := some 45, op := Go.Op.indexAddr 67 (Go.Operand.tmp 43) (Go.Operand.tmp 44), type := 0, pos := "ref.go:124", after := #[{ on := 4, ground := Go.Ground.data }, { on := 5, ground := Go.Ground.data }], guard := none }
abbrev pdA7 : Oper := { dst := some 46, op := Go.Op.load 3 (Go.Operand.tmp 45), type := 3, pos := "ref.go:124", after := #[{ on := 6, ground := Go.Ground.data }], guard := none }
abbrev pdA8 : Oper := { dst := some 47, op := Go.Op.call { callee := Go.Callee.value (Go.Operand.func 65), args := #[Go.Operand.tmp 42, Go.Operand.tmp 46, Go.Operand.const (Go.Value.int Go.IntKind.i64 1)], argTypes := #[3, 3, 3] }, type := 80, pos := "ref.go:124", after := #[{ on := 3, ground := Go.Ground.data }, { on := 7, ground := Go.Ground.data }], guard := none }
abbrev pdA9 : Oper := { dst := some 38, op := Go.Op.move (Go.Operand.tmp 47), type := 80, pos := "ref.go:124", after := #[{ on := 8, ground := Go.Ground.data }], guard := none }
abbrev pdA10 : Oper := { dst := some 48, op := Go.Op.extract (Go.Operand.tmp 38) 0, type := 3, pos := "ref.go:124", after := #[{ on := 9, ground := Go.Ground.data }], guard := none }
abbrev pdA11 : Oper := { dst := some 49, op := Go.Op.extract (Go.Operand.tmp 38) 1, type := 4, pos := "ref.go:124", after := #[{ on := 9, ground := Go.Ground.data }, { on := 12, ground := Go.Ground.gcOnly Go.Departure.lateStores }], guard := none }
abbrev pdA12 : Oper := { dst := some 9, op := Go.Op.assign (Go.Operand.tmp 48), type := 3, pos := "ref.go:124", after := #[{ on := 10, ground := Go.Ground.data }, { on := 8, ground := Go.Ground.chain }, { on := 0, ground := Go.Ground.phase }, { on := 1, ground := Go.Ground.phase }, { on := 2, ground := Go.Ground.phase }, { on := 3, ground := Go.Ground.phase }, { on := 4, ground := Go.Ground.phase }, { on := 5, ground := Go.Ground.phase }, { on := 6, ground := Go.Ground.phase }, { on := 7, ground := Go.Ground.phase }, { on := 8, ground := Go.Ground.phase }, { on := 9, ground := Go.Ground.phase }, { on := 10, ground := Go.Ground.phase }, { on := 11, ground := Go.Ground.textOnly Go.Departure.lateStores }], guard := none }
abbrev pdA13 : Oper := { dst := some 10, op := Go.Op.assign (Go.Operand.tmp 49), type := 4, pos := "ref.go:124", after := #[{ on := 11, ground := Go.Ground.data }, { on := 12, ground := Go.Ground.chain }, { on := 0, ground := Go.Ground.phase }, { on := 1, ground := Go.Ground.phase }, { on := 2, ground := Go.Ground.phase }, { on := 3, ground := Go.Ground.phase }, { on := 4, ground := Go.Ground.phase }, { on := 5, ground := Go.Ground.phase }, { on := 6, ground := Go.Ground.phase }, { on := 7, ground := Go.Ground.phase }, { on := 8, ground := Go.Ground.phase }, { on := 9, ground := Go.Ground.phase }, { on := 10, ground := Go.Ground.phase }, { on := 11, ground := Go.Ground.phase }, { on := 12, ground := Go.Ground.phase }], guard := none }
abbrev pdB0 : Oper := { dst := some 56, op := Go.Op.move (Go.Operand.tmp 5), type := 67, pos := "ref.go:126", after := #[], guard := none }
abbrev pdB1 : Oper := { dst := some 57, op := Go.Op.move (Go.Operand.tmp 11), type := 3, pos := "ref.go:126", after := #[], guard := none }
abbrev pdB2 : Oper := { dst := some 58, op := Go.Op.indexAddr 67 (Go.Operand.tmp 56) (Go.Operand.tmp 57), type := 0, pos := "ref.go:126", after := #[{ on := 0, ground := Go.Ground.data }, { on := 1, ground := Go.Ground.data }], guard := none }
abbrev pdB3 : Oper := { dst := some 59, op := Go.Op.load 3 (Go.Operand.tmp 58), type := 3, pos := "ref.go:126", after := #[{ on := 2, ground := Go.Ground.data }], guard := none }
abbrev pdB4 : Oper := { dst := some 60, op := Go.Op.move (Go.Operand.tmp 3), type := 67, pos := "ref.go:126", after := #[], guard := none }
abbrev pdB5 : Oper := { dst := some 61, op := Go.Op.move (Go.Operand.tmp 7), type := 3, pos := "ref.go:126", after := #[], guard := none }
abbrev pdB6 : Oper := { dst := some 62, op := Go.Op.indexAddr 67 (Go.Operand.tmp 60) (Go.Operand.tmp 61), type := 0, pos := "ref.go:126", after := #[{ on := 4, ground := Go.Ground.data }, { on := 5, ground := Go.Ground.data }], guard := none }
abbrev pdB7 : Oper := { dst := some 63, op := Go.Op.load 3 (Go.Operand.tmp 62), type := 3, pos := "ref.go:126", after := #[{ on := 6, ground := Go.Ground.data }], guard := none }
abbrev pdB8 : Oper := { dst := some 64, op := Go.Op.move (Go.Operand.tmp 4), type := 67, pos := "ref.go:126", after := #[], guard := none }
abbrev pdB9 : Oper := { dst := some 65, op := Go.Op.move (Go.Operand.tmp 8), type := 3, pos := "ref.go:126", after := #[], guard := none }
abbrev pdB10 : Oper := { dst := some 66, op := Go.Op.indexAddr 67 (Go.Operand.tmp 64) (Go.Operand.tmp 65), type := 0, pos := "ref.go:126", after := #[{ on := 8, ground := Go.Ground.data }, { on := 9, ground := Go.Ground.data }], guard := none }
abbrev pdB11 : Oper := { dst := some 67, op := Go.Op.load 3 (Go.Operand.tmp 66), type := 3, pos := "ref.go:126", after := #[{ on := 10, ground := Go.Ground.data }], guard := none }
abbrev pdB12 : Oper := { dst := some 68, op := Go.Op.call { callee := Go.Callee.value (Go.Operand.func 66), args := #[Go.Operand.tmp 63, Go.Operand.tmp 67], argTypes := #[3, 3] }, type := 3, pos := "ref.go:126", after := #[{ on := 7, ground := Go.Ground.data }, { on := 11, ground := Go.Ground.data }], guard := none }
abbrev pdB13 : Oper := { dst := some 69, op := Go.Op.binOp Go.BinOp.leq 3 (Go.Operand.tmp 59) (Go.Operand.tmp 68) 3, type := 4, pos := "ref.go:126", after := #[{ on := 3, ground := Go.Ground.data }, { on := 12, ground := Go.Ground.data }], guard := none }
set_option maxHeartbeats 16000000 in
set_option maxRecDepth 100000 in
theorem rdays8_any (p : PT) (w : World) (hy : p.y.size ≤ 10) (hm : p.m.size ≤ 10) (hd : p.d.size ≤ 10) : Calls Tryz.prog 45 #[ptV p] w fun e w' => ∃ v' L, e = .returned v' ∧ w'.ownsRow w.heap.size 37 2 v' L.length (cellsR L) ∧ (∃ i, L = dyP p i) ∧ (L.length ≤ 800 ∧ (L = dyT p ∨ (400 < L.length ∧ 400 < (dyT p).length))) ∧ Kp w w' := by
  have CY := Lib.hid (fun w1 => rnumbers_any p.y 0 9999 w1 (by unfold maxLen; omega) (by decide) (by decide) (by decide))
  have CM := Lib.hid (fun w1 => rnumbers_any p.m 1 12 w1 (by unfold maxLen; omega) (by decide) (by decide) (by decide))
  have CD := Lib.hid (fun w1 => rnumbers_any p.d 1 31 w1 (by unfold maxLen; omega) (by decide) (by decide) (by decide))
  have NY := num_len p.y 0 9999
  have NM := num_len p.m 1 12
  have ND := num_len p.d 1 31
  have IY := Lib.hid (fun i (h : i < (numsL p.y 0 9999).length) => (is_num.1 (zat_mem h)).1)
  have IM := Lib.hid (fun i (h : i < (numsL p.m 1 12).length) => (is_num.1 (zat_mem h)).1)
  have ID := Lib.hid (fun i (h : i < (numsL p.d 1 31).length) => (is_num.1 (zat_mem h)).1)
  have S0 := Lib.hid (fun i => ds_0 p i (numsL p.m 1 12) (numsL p.d 1 31))
  have SY := Lib.hid (fun i j k (h : k < (numsL p.d 1 31).length) g => ds_yes (Y := numsL p.y 0 9999) (M := numsL p.m 1 12) (m := p.m) (d := p.d) (i := i) (j := j) h g)
  have SN := Lib.hid (fun i j k (h : k < (numsL p.d 1 31).length) g => ds_no (Y := numsL p.y 0 9999) (M := numsL p.m 1 12) (m := p.m) (d := p.d) (i := i) (j := j) h g)
  have SR := Lib.hid (fun i j (h : j < (numsL p.m 1 12).length) => ds_row (Y := numsL p.y 0 9999) (m := p.m) (d := p.d) (i := i) h)
  have SE := Lib.hid (fun i (h : i < (numsL p.y 0 9999).length) => ds_year (D := numsL p.d 1 31) (m := p.m) (d := p.d) h)
  have SL := Lib.hid (fun i j k => ds_len p.y p.m p.d i j k)
  have SG := Lib.hid (fun i => ds_grow p.y p.m p.d i)
  have PL := Lib.hid (dyP_len p)
  have PA := Lib.hid (dyP_all p)
  have P0 := Lib.hid (show dyP p 0 = [] from by rw [dyP_eq]; rfl)
  obtain ⟨pk, y, m, d⟩ := p
  simp only [ptV] at *
  generalize dyT ⟨pk, y, m, d⟩ = TT at *
  generalize dyP ⟨pk, y, m, d⟩ = PP at *
  generalize dsR (numsL y 0 9999) (numsL m 1 12) (numsL d 1 31) m d = DS at *
  generalize numsL y 0 9999 = Y at *
  generalize numsL m 1 12 = M at *
  generalize numsL d 1 31 = D at *
  have yl : Y.length ≤ 10000 := by omega
  have ml : M.length ≤ 12 := by omega
  have dl : D.length ≤ 31 := by omega
  clear NY NM ND hy hm hd
  obtain ⟨V3, hVb⟩ : ∃ x, x = w.alloc (.cells #[.int .i64 pk, .string y, .string m, .string d] 23) := ⟨_, rfl⟩
  have kab : Kp w V3 := by rw [hVb]; exact Kp.alloc _ _
  have gqb0 : V3.heap[w.heap.size]? = some (.cells #[.int .i64 pk, .string y, .string m, .string d] 23 (0, 0)) := by rw [hVb]; exact heap_at _ _ _ (by first | rfl | simp)
  have KSb := Lib.hid (fun w' (kq : Kp V3 w') => show w'.cell? ⟨w.heap.size, 0, none⟩ = some (.int .i64 pk) ∧ w'.cell? ⟨w.heap.size, 1, none⟩ = some (.string y) ∧ w'.cell? ⟨w.heap.size, 2, none⟩ = some (.string m) ∧ w'.cell? ⟨w.heap.size, 3, none⟩ = some (.string d) ∧ Kp V3 w' from ⟨(row4 (heap_block kq gqb0)).1, (row4 (heap_block kq gqb0)).2.1, (row4 (heap_block kq gqb0)).2.2.1, (row4 (heap_block kq gqb0)).2.2.2, kq⟩)
  have GQb0 := Lib.hid gqb0
  have HVb := Lib.hid hVb
  have KB := Lib.hid kab
  clear hVb kab gqb0
  have kkV3 : Kp V3 V3 := Kp.refl _
  go_enter Tryz.func45, Tryz.ntmps45
  go_wp2_with fail
  rw [← HVb.out]
  obtain ⟨e0, e1, e2, e3, _⟩ := KSb.out V3 (Kp.refl _)
  go_wp2_with fail
  refine (CY.out _).mono ?_
  rintro e w1 ⟨v1, rfl, o1, kk1⟩
  clear e0 e1 e2 e3
  obtain ⟨e0, e1, e2, e3, _⟩ := KSb.out w1 kk1
  obtain ⟨ya, yc, rfl⟩ := own_sliceZ o1
  go_wp2_with fail
  refine (CM.out _).mono ?_
  rintro e w2 ⟨v2, rfl, o2, kk2⟩
  clear e0 e1 e2 e3
  obtain ⟨e0, e1, e2, e3, _⟩ := KSb.out w2 (kk1.trans kk2)
  obtain ⟨ma, mc, rfl⟩ := own_sliceZ o2
  go_wp2_with fail
  refine (CD.out _).mono ?_
  rintro e w3 ⟨v3, rfl, o3, kk3⟩
  obtain ⟨da, dc, rfl⟩ := own_sliceZ o3
  have K3 := Lib.hid (KB.out.trans (kk1.trans (kk2.trans kk3)))
  have AY := Lib.hid (intsAt_ownZ (own_kp o1 (kk2.trans kk3)))
  have AM := Lib.hid (intsAt_ownZ (own_kp o2 kk3))
  have AD := Lib.hid (intsAt_ownZ o3)
  clear o1 o2 o3 kk1 kk2 kk3 e0 e1 e2 e3 CY CM CD KSb
  go_wp2
  go_loopw [6, 7] (fun q iv wr => ∃ i : Nat, i ≤ Y.length ∧ iv = .int .i64 i ∧ Hid (wr.ownsRow w3.heap.size 37 2 q (DS i 0 0).length (cellsR (DS i 0 0))) ∧ Hid (Kp w3 wr) ∧ Hid ((DS i 0 0).length ≤ 800)) (fun _ iv _ => Y.length - (intOf iv).toNat)
  case atStart => exact ⟨0, Nat.zero_le _, rfl, Lib.hid (by rw [S0.out, P0.out]; exact World.ownsRow_nil _ _ _ _), Lib.hid (Kp.refl _), Lib.hid (by rw [S0.out, P0.out]; simp)⟩
  case round =>
    obtain ⟨i, hi, rfl, OW, J, LN⟩ := hrel
    have ow := OW.out
    obtain ⟨qa, qc, rfl⟩ := own_slice ow
    clear ow
    obtain ⟨wi, hwi⟩ : ∃ x, x = wr := ⟨_, rfl⟩
    subst hwi
    have sl := SL.out i 0 0
    by_cases hlt : i < Y.length
    · have q1 : decide ((i : Int) < (Y.length : Int)) = true := decide_eq_true (by omega)
      by_cases h4 : (DS i 0 0).length ≤ 400
      · have q2 : decide (((DS i 0 0).length : Int) ≤ 400) = true := decide_eq_true (by omega)
        have q3 : decide ((DS i 0 0).length ≤ 400) = true := decide_eq_true h4
        have yb := IY.out i hlt
        have HLT := Lib.hid hlt
        rcases AY.out with ⟨_, _, _, e⟩ | ⟨by', oy, cy, ev, hcy, hmy, hxy⟩
        · rw [e] at hlt; simp at hlt
        have ry := hxy i hlt
        cases ev
        rw [show Y.getD i 0 = zat Y i from rfl] at ry
        have SYi := Lib.hid (fun j k => SY.out i j k)
        have SNi := Lib.hid (fun j k => SN.out i j k)
        have SEi := Lib.hid (SE.out i hlt)
        generalize zat Y i = yi at *
        have RY := Lib.hid (fun w' (kq : Kp w3 w') => (show w'.cell? ⟨by', oy + i, none⟩ = some (.int .i64 yi) from cell_up kq ry))
        have zi : (0 : Int) ≤ (i : Int) := by omega
        have zi2 : (i : Int) < (Y.length : Int) := by omega
        have LN9 := Lib.hid (show (DS (i + 1) 0 0).length ≤ 800 by rw [← SEi.out]; have := SG.out i; omega)
        clear hxy hcy hmy ry h4
        go_wp2
        go_loopw [6, 8] (fun q jv wr => ∃ j : Nat, j ≤ M.length ∧ jv = .int .i64 j ∧ Hid (wr.ownsRow w3.heap.size 37 2 q (DS i j 0).length (cellsR (DS i j 0))) ∧ Hid (Kp w3 wr)) (fun _ jv _ => M.length - (intOf jv).toNat)
        case atStart => exact ⟨0, Nat.zero_le _, rfl, OW, J⟩
        case round =>
          obtain ⟨j, hj, rfl, OW2, J2⟩ := hrel
          have ow := OW2.out
          obtain ⟨qa2, qc2, rfl⟩ := own_slice ow
          clear ow
          obtain ⟨wj, hwj⟩ : ∃ x, x = wr := ⟨_, rfl⟩
          subst hwj
          by_cases hlm : j < M.length
          · have q4 : decide ((j : Int) < (M.length : Int)) = true := decide_eq_true (by omega)
            have mb := IM.out j hlm
            have HLM := Lib.hid hlm
            rcases AM.out with ⟨_, _, _, e⟩ | ⟨bm, om, cm, ev, hcm, hmm, hxm⟩
            · rw [e] at hlm; simp at hlm
            have rm := hxm j hlm
            cases ev
            rw [show M.getD j 0 = zat M j from rfl] at rm
            have SYj := Lib.hid (fun k => SYi.out j k)
            have SNj := Lib.hid (fun k => SNi.out j k)
            have SRj := Lib.hid (SR.out i j hlm)
            generalize zat M j = mj at *
            have RM := Lib.hid (fun w' (kq : Kp w3 w') => (show w'.cell? ⟨bm, om + j, none⟩ = some (.int .i64 mj) from cell_up kq rm))
            have dn := day_n (x := 1) yb mb (by decide)
            have CN := Lib.hid (fun w1 => rnumber8_v yi mj 1 w1)
            rw [dn.1] at CN
            have CDY := Lib.hid (fun w1 => rdays_any yi mj w1)
            have nb := dn.2
            generalize vldB yi mj 1 = okv at *
            generalize hnm : num yi mj 1 = nm at *
            generalize dim yi mj = dmx at *
            have zj : (0 : Int) ≤ (j : Int) := by omega
            have zj2 : (j : Int) < (M.length : Int) := by omega
            have c1 := RY.out wj J2.out
            have c2 := RM.out wj J2.out
            have kkwj : Kp wj wj := Kp.refl _
            have KSp := Lib.hid (fun w' (kq : Kp wj w') => show w'.cell? ⟨by', oy + i, none⟩ = some (.int .i64 yi) ∧ w'.cell? ⟨bm, om + j, none⟩ = some (.int .i64 mj) ∧ Kp wj w' from ⟨cell_up kq c1, cell_up kq c2, kq⟩)
            clear hxm hcm hmm rm hnm dn
            go_upto_region 11 with fail
            refine wp_region_held_drew (S := fun w' => w'.cell? ⟨by', oy + i, none⟩ = some (.int .i64 yi) ∧ w'.cell? ⟨bm, om + j, none⟩ = some (.int .i64 mj) ∧ Kp wj w') (by kernel_rfl) ?_ (fun hHeld0 => ?_)
            · (try dsimp only); exact KSp.out _ (by first | with_reducible exact kkwj | ((repeat (first | with_reducible refine Kp.trans ?_ (Kp.drew _) | with_reducible refine Kp.trans ?_ (Kp.alloc _ _))); with_reducible exact kkwj))
            refine tkW (v := ?_) 0 pdA0 rfl (by kernel_rfl) (by kernel_rfl) (by kernel_rfl) (fun _ _ _ h => h) (by rfl) ?_ (by assumption) ?_
            rotate_left
            · intro w hSw; (try dsimp only at hSw); go_simp; (try with_reducible rfl)
            (try simp only [Act.put, pdA0, List.setIfInBounds_toArray, List.set_cons_zero, List.set_cons_succ])
            refine tkW (v := ?_) 1 pdA1 rfl (by kernel_rfl) (by kernel_rfl) (by kernel_rfl) (fun _ _ _ h => h) (by rfl) ?_ (by assumption) ?_
            rotate_left
            · intro w hSw; (try dsimp only at hSw); go_simp; (try with_reducible rfl)
            (try simp only [Act.put, pdA1, List.setIfInBounds_toArray, List.set_cons_zero, List.set_cons_succ])
            refine tkW (v := ?_) 2 pdA2 rfl (by kernel_rfl) (by kernel_rfl) (by kernel_rfl) (fun _ _ _ h => h) (by rfl) ?_ (by assumption) ?_
            rotate_left
            · intro w hSw; (try dsimp only at hSw); go_simp; (try with_reducible rfl)
            (try simp only [Act.put, pdA2, List.setIfInBounds_toArray, List.set_cons_zero, List.set_cons_succ])
            refine tkW (v := ?_) 3 pdA3 rfl (by kernel_rfl) (by kernel_rfl) (by kernel_rfl) (fun _ _ _ h => h) (by rfl) ?_ (by assumption) ?_
            rotate_left
            · intro w hSw; (try dsimp only at hSw); go_simp; (try with_reducible rfl)
            (try simp only [Act.put, pdA3, List.setIfInBounds_toArray, List.set_cons_zero, List.set_cons_succ])
            refine tkW (v := ?_) 4 pdA4 rfl (by kernel_rfl) (by kernel_rfl) (by kernel_rfl) (fun _ _ _ h => h) (by rfl) ?_ (by assumption) ?_
            rotate_left
            · intro w hSw; (try dsimp only at hSw); go_simp; (try with_reducible rfl)
            (try simp only [Act.put, pdA4, List.setIfInBounds_toArray, List.set_cons_zero, List.set_cons_succ])
            refine tkW (v := ?_) 5 pdA5 rfl (by kernel_rfl) (by kernel_rfl) (by kernel_rfl) (fun _ _ _ h => h) (by rfl) ?_ (by assumption) ?_
            rotate_left
            · intro w hSw; (try dsimp only at hSw); go_simp; (try with_reducible rfl)
            (try simp only [Act.put, pdA5, List.setIfInBounds_toArray, List.set_cons_zero, List.set_cons_succ])
            refine tkW (v := ?_) 6 pdA6 rfl (by kernel_rfl) (by kernel_rfl) (by kernel_rfl) (fun _ _ _ h => h) (by rfl) ?_ (by assumption) ?_
            rotate_left
            · intro w hSw; (try dsimp only at hSw); go_simp; (try with_reducible rfl)
            (try simp only [Act.put, pdA6, List.setIfInBounds_toArray, List.set_cons_zero, List.set_cons_succ])
            refine tkW (v := ?_) 7 pdA7 rfl (by kernel_rfl) (by kernel_rfl) (by kernel_rfl) (fun _ _ _ h => h) (by rfl) ?_ (by assumption) ?_
            rotate_left
            · intro w hSw; (try dsimp only at hSw); go_simp; (try with_reducible rfl)
            (try simp only [Act.put, pdA7, List.setIfInBounds_toArray, List.set_cons_zero, List.set_cons_succ])
            refine tkE 8 pdA8 rfl (by kernel_rfl) (fun K hK => ?_)
            go_simp
            (refine (CN.out _).mono ?_; rintro e w' ⟨rfl, rfl⟩)
            (try go_wp2_with fail)
            refine hK.out _ _ ?_ (fun hHeld1 => ?_)
            · (try dsimp only); exact KSp.out _ (by first | with_reducible exact kkwj | ((repeat (first | with_reducible refine Kp.trans ?_ (Kp.drew _) | with_reducible refine Kp.trans ?_ (Kp.alloc _ _))); with_reducible exact kkwj))
            clear hK K hHeld0
            (try simp only [Act.put, pdA8, List.setIfInBounds_toArray, List.set_cons_zero, List.set_cons_succ])
            refine tkW (v := ?_) 9 pdA9 rfl (by kernel_rfl) (by kernel_rfl) (by kernel_rfl) (fun _ _ _ h => h) (by rfl) ?_ (by assumption) ?_
            rotate_left
            · intro w hSw; (try dsimp only at hSw); go_simp; (try with_reducible rfl)
            (try simp only [Act.put, pdA9, List.setIfInBounds_toArray, List.set_cons_zero, List.set_cons_succ])
            refine tkW (v := ?_) 10 pdA10 rfl (by kernel_rfl) (by kernel_rfl) (by kernel_rfl) (fun _ _ _ h => h) (by rfl) ?_ (by assumption) ?_
            rotate_left
            · intro w hSw; (try dsimp only at hSw); go_simp; (try with_reducible rfl)
            (try simp only [Act.put, pdA10, List.setIfInBounds_toArray, List.set_cons_zero, List.set_cons_succ])
            refine tkW (v := ?_) 11 pdA11 rfl (by kernel_rfl) (by kernel_rfl) (by kernel_rfl) (fun _ _ _ h => h) (by rfl) ?_ (by assumption) ?_
            rotate_left
            · intro w hSw; (try dsimp only at hSw); go_simp; (try with_reducible rfl)
            (try simp only [Act.put, pdA11, List.setIfInBounds_toArray, List.set_cons_zero, List.set_cons_succ])
            refine tkW (v := ?_) 12 pdA12 rfl (by kernel_rfl) (by kernel_rfl) (by kernel_rfl) (fun _ _ _ h => h) (by rfl) ?_ (by assumption) ?_
            rotate_left
            · intro w hSw; (try dsimp only at hSw); go_simp; (try with_reducible rfl)
            (try simp only [Act.put, pdA12, List.setIfInBounds_toArray, List.set_cons_zero, List.set_cons_succ])
            refine tkW (v := ?_) 13 pdA13 rfl (by kernel_rfl) (by kernel_rfl) (by kernel_rfl) (fun _ _ _ h => h) (by rfl) ?_ (by assumption) ?_
            rotate_left
            · intro w hSw; (try dsimp only at hSw); go_simp; (try with_reducible rfl)
            (try simp only [Act.put, pdA13, List.setIfInBounds_toArray, List.set_cons_zero, List.set_cons_succ])
            refine wpAnyH_done (by kernel_rfl) ?_ _
            go_wp2
            go_loopw [6, 11] (fun q kv wr => ∃ k : Nat, k ≤ D.length ∧ kv = .int .i64 k ∧ Hid (wr.ownsRow w3.heap.size 37 2 q (DS i j k).length (cellsR (DS i j k))) ∧ Hid (Kp w3 wr)) (fun _ kv _ => D.length - (intOf kv).toNat)
            case atStart => exact ⟨0, Nat.zero_le _, rfl, Lib.hid (own_kp OW2.out (by first | with_reducible exact kkwj | ((repeat (first | with_reducible refine Kp.trans ?_ (Kp.drew _) | with_reducible refine Kp.trans ?_ (Kp.alloc _ _))); with_reducible exact kkwj))), Lib.hid (J2.out.trans (by first | with_reducible exact kkwj | ((repeat (first | with_reducible refine Kp.trans ?_ (Kp.drew _) | with_reducible refine Kp.trans ?_ (Kp.alloc _ _))); with_reducible exact kkwj)))⟩
            case round =>
              obtain ⟨k, hk, rfl, OW3, J3⟩ := hrel
              have ow := OW3.out
              obtain ⟨qa3, qc3, rfl⟩ := own_slice ow
              clear ow
              obtain ⟨wk, hwk⟩ : ∃ x, x = wr := ⟨_, rfl⟩
              subst hwk
              by_cases hlk : k < D.length
              · have q5 : decide ((k : Int) < (D.length : Int)) = true := decide_eq_true (by omega)
                have db := ID.out k hlk
                have HLK := Lib.hid hlk
                rcases AD.out with ⟨_, _, _, e⟩ | ⟨bd, od, cd, ev, hcd, hmd, hxd⟩
                · rw [e] at hlk; simp at hlk
                have rd := hxd k hlk
                cases ev
                rw [show D.getD k 0 = zat D k from rfl] at rd
                have SYk := Lib.hid (SYj.out k hlk)
                have SNk := Lib.hid (SNj.out k hlk)
                have slk := SL.out i j k
                generalize zat D k = dk at *
                have zk : (0 : Int) ≤ (k : Int) := by omega
                have zk2 : (k : Int) < (D.length : Int) := by omega
                have c1 := RY.out wk J3.out
                have c2 := RM.out wk J3.out
                have c3 := cell_up J3.out rd
                have RDK := Lib.hid (fun w' (kq : Kp wk w') => cell_up kq c3)
                have kkwk : Kp wk wk := Kp.refl _
                have KSq := Lib.hid (fun w' (kq : Kp wk w') => show w'.cell? ⟨bd, od + k, none⟩ = some (.int .i64 dk) ∧ w'.cell? ⟨by', oy + i, none⟩ = some (.int .i64 yi) ∧ w'.cell? ⟨bm, om + j, none⟩ = some (.int .i64 mj) ∧ Kp wk w' from ⟨cell_up kq c3, cell_up kq c1, cell_up kq c2, kq⟩)
                have wz : IntKind.i64.wrap (nm + dk) = nm + dk := IntWalk.i64_in _ (by omega)
                have wz2 : IntKind.i64.wrap (nm + dk - 1) = nm + dk - 1 := IntWalk.i64_in _ (by omega)
                have CP := Lib.hid (fun w1 (ho : w1.ownsRow w3.heap.size 37 2 (.slice qa3 (DS i j k).length qc3) (DS i j k).length (cellsR (DS i j k))) (hb : w3.heap.size ≤ w1.heap.size) => rput8_any w3.heap.size _ (DS i j k) (nm + dk - 1) w1 hb ho (by omega) (by omega) (by omega))
                clear hxd hcd hmd rd
                go_upto_region 15 with fail
                refine wp_region_held_drew (S := fun w' => w'.cell? ⟨bd, od + k, none⟩ = some (.int .i64 dk) ∧ w'.cell? ⟨by', oy + i, none⟩ = some (.int .i64 yi) ∧ w'.cell? ⟨bm, om + j, none⟩ = some (.int .i64 mj) ∧ Kp wk w') (by kernel_rfl) ?_ (fun hHeld0 => ?_)
                · (try dsimp only); exact KSq.out _ (by first | with_reducible exact kkwk | ((repeat (first | with_reducible refine Kp.trans ?_ (Kp.drew _) | with_reducible refine Kp.trans ?_ (Kp.alloc _ _))); with_reducible exact kkwk))
                refine tkW (v := ?_) 0 pdB0 rfl (by kernel_rfl) (by kernel_rfl) (by kernel_rfl) (fun _ _ _ h => h) (by rfl) ?_ (by assumption) ?_
                rotate_left
                · intro w hSw; (try dsimp only at hSw); go_simp; (try with_reducible rfl)
                (try simp only [Act.put, pdB0, List.setIfInBounds_toArray, List.set_cons_zero, List.set_cons_succ])
                refine tkW (v := ?_) 1 pdB1 rfl (by kernel_rfl) (by kernel_rfl) (by kernel_rfl) (fun _ _ _ h => h) (by rfl) ?_ (by assumption) ?_
                rotate_left
                · intro w hSw; (try dsimp only at hSw); go_simp; (try with_reducible rfl)
                (try simp only [Act.put, pdB1, List.setIfInBounds_toArray, List.set_cons_zero, List.set_cons_succ])
                refine tkW (v := ?_) 2 pdB2 rfl (by kernel_rfl) (by kernel_rfl) (by kernel_rfl) (fun _ _ _ h => h) (by rfl) ?_ (by assumption) ?_
                rotate_left
                · intro w hSw; (try dsimp only at hSw); go_simp; (try with_reducible rfl)
                (try simp only [Act.put, pdB2, List.setIfInBounds_toArray, List.set_cons_zero, List.set_cons_succ])
                refine tkW (v := ?_) 3 pdB3 rfl (by kernel_rfl) (by kernel_rfl) (by kernel_rfl) (fun _ _ _ h => h) (by rfl) ?_ (by assumption) ?_
                rotate_left
                · intro w hSw; (try dsimp only at hSw); go_simp; (try with_reducible rfl)
                (try simp only [Act.put, pdB3, List.setIfInBounds_toArray, List.set_cons_zero, List.set_cons_succ])
                refine tkW (v := ?_) 4 pdB4 rfl (by kernel_rfl) (by kernel_rfl) (by kernel_rfl) (fun _ _ _ h => h) (by rfl) ?_ (by assumption) ?_
                rotate_left
                · intro w hSw; (try dsimp only at hSw); go_simp; (try with_reducible rfl)
                (try simp only [Act.put, pdB4, List.setIfInBounds_toArray, List.set_cons_zero, List.set_cons_succ])
                refine tkW (v := ?_) 5 pdB5 rfl (by kernel_rfl) (by kernel_rfl) (by kernel_rfl) (fun _ _ _ h => h) (by rfl) ?_ (by assumption) ?_
                rotate_left
                · intro w hSw; (try dsimp only at hSw); go_simp; (try with_reducible rfl)
                (try simp only [Act.put, pdB5, List.setIfInBounds_toArray, List.set_cons_zero, List.set_cons_succ])
                refine tkW (v := ?_) 6 pdB6 rfl (by kernel_rfl) (by kernel_rfl) (by kernel_rfl) (fun _ _ _ h => h) (by rfl) ?_ (by assumption) ?_
                rotate_left
                · intro w hSw; (try dsimp only at hSw); go_simp; (try with_reducible rfl)
                (try simp only [Act.put, pdB6, List.setIfInBounds_toArray, List.set_cons_zero, List.set_cons_succ])
                refine tkW (v := ?_) 7 pdB7 rfl (by kernel_rfl) (by kernel_rfl) (by kernel_rfl) (fun _ _ _ h => h) (by rfl) ?_ (by assumption) ?_
                rotate_left
                · intro w hSw; (try dsimp only at hSw); go_simp; (try with_reducible rfl)
                (try simp only [Act.put, pdB7, List.setIfInBounds_toArray, List.set_cons_zero, List.set_cons_succ])
                refine tkW (v := ?_) 8 pdB8 rfl (by kernel_rfl) (by kernel_rfl) (by kernel_rfl) (fun _ _ _ h => h) (by rfl) ?_ (by assumption) ?_
                rotate_left
                · intro w hSw; (try dsimp only at hSw); go_simp; (try with_reducible rfl)
                (try simp only [Act.put, pdB8, List.setIfInBounds_toArray, List.set_cons_zero, List.set_cons_succ])
                refine tkW (v := ?_) 9 pdB9 rfl (by kernel_rfl) (by kernel_rfl) (by kernel_rfl) (fun _ _ _ h => h) (by rfl) ?_ (by assumption) ?_
                rotate_left
                · intro w hSw; (try dsimp only at hSw); go_simp; (try with_reducible rfl)
                (try simp only [Act.put, pdB9, List.setIfInBounds_toArray, List.set_cons_zero, List.set_cons_succ])
                refine tkW (v := ?_) 10 pdB10 rfl (by kernel_rfl) (by kernel_rfl) (by kernel_rfl) (fun _ _ _ h => h) (by rfl) ?_ (by assumption) ?_
                rotate_left
                · intro w hSw; (try dsimp only at hSw); go_simp; (try with_reducible rfl)
                (try simp only [Act.put, pdB10, List.setIfInBounds_toArray, List.set_cons_zero, List.set_cons_succ])
                refine tkW (v := ?_) 11 pdB11 rfl (by kernel_rfl) (by kernel_rfl) (by kernel_rfl) (fun _ _ _ h => h) (by rfl) ?_ (by assumption) ?_
                rotate_left
                · intro w hSw; (try dsimp only at hSw); go_simp; (try with_reducible rfl)
                (try simp only [Act.put, pdB11, List.setIfInBounds_toArray, List.set_cons_zero, List.set_cons_succ])
                refine tkE 12 pdB12 rfl (by kernel_rfl) (fun K hK => ?_)
                go_simp
                (refine (CDY.out _).mono ?_; rintro e w' ⟨rfl, rfl⟩)
                (try go_wp2_with fail)
                refine hK.out _ _ ?_ (fun hHeld1 => ?_)
                · (try dsimp only); exact KSq.out _ (by first | with_reducible exact kkwk | ((repeat (first | with_reducible refine Kp.trans ?_ (Kp.drew _) | with_reducible refine Kp.trans ?_ (Kp.alloc _ _))); with_reducible exact kkwk))
                clear hK K hHeld0
                (try simp only [Act.put, pdB12, List.setIfInBounds_toArray, List.set_cons_zero, List.set_cons_succ])
                refine tkW (v := ?_) 13 pdB13 rfl (by kernel_rfl) (by kernel_rfl) (by kernel_rfl) (fun _ _ _ h => h) (by rfl) ?_ (by assumption) ?_
                rotate_left
                · intro w hSw; (try dsimp only at hSw); go_simp; (try with_reducible rfl)
                (try simp only [Act.put, pdB13, List.setIfInBounds_toArray, List.set_cons_zero, List.set_cons_succ])
                refine wpAnyH_done (by kernel_rfl) ?_ _
                by_cases hdm : dk ≤ dmx
                · have q6 : decide (dk ≤ dmx) = true := decide_eq_true hdm
                  have sy := SYk.out hdm
                  have SYH := Lib.hid sy
                  clear sy
                  go_wp2_with fail
                  refine (CP.out _ (own_kp OW3.out (by first | with_reducible exact kkwk | ((repeat (first | with_reducible refine Kp.trans ?_ (Kp.drew _) | with_reducible refine Kp.trans ?_ (Kp.alloc _ _))); with_reducible exact kkwk))) (J3.out.trans (by first | with_reducible exact kkwk | ((repeat (first | with_reducible refine Kp.trans ?_ (Kp.drew _) | with_reducible refine Kp.trans ?_ (Kp.alloc _ _))); with_reducible exact kkwk))).size).mono ?_
                  rintro e w9 ⟨v9, rfl, o9, b9⟩
                  have O9 := Lib.hid (show w9.ownsRow w3.heap.size 37 2 v9 (DS i j (k + 1)).length (cellsR (DS i j (k + 1))) by rw [SYH.out]; exact o9)
                  have J9 := Lib.hid (show Kp w3 w9 from Below.trans (J3.out.trans (by first | with_reducible exact kkwk | ((repeat (first | with_reducible refine Kp.trans ?_ (Kp.drew _) | with_reducible refine Kp.trans ?_ (Kp.alloc _ _))); with_reducible exact kkwk))) b9)
                  clear o9 b9
                  go_wp2
                  go_roundw
                  case rel => exact ⟨k + 1, by have := HLK.out; omega, by go_num, O9, J9⟩
                  case measure => have := HLK.out; simp [intOf]; omega
                · have q6 : decide (dk ≤ dmx) = false := decide_eq_false hdm
                  have hdn : dmx < dk := by omega
                  have sn := SNk.out hdn
                  have O9 := Lib.hid (show wk.ownsRow w3.heap.size 37 2 (.slice qa3 (DS i j k).length qc3) (DS i j (k + 1)).length (cellsR (DS i j (k + 1))) by rw [sn]; exact OW3.out)
                  clear sn
                  go_wp2
                  go_roundw
                  case rel => exact ⟨k + 1, by have := HLK.out; omega, by go_num, Lib.hid (own_kp O9.out (by first | with_reducible exact kkwk | ((repeat (first | with_reducible refine Kp.trans ?_ (Kp.drew _) | with_reducible refine Kp.trans ?_ (Kp.alloc _ _))); with_reducible exact kkwk))), Lib.hid (J3.out.trans (by first | with_reducible exact kkwk | ((repeat (first | with_reducible refine Kp.trans ?_ (Kp.drew _) | with_reducible refine Kp.trans ?_ (Kp.alloc _ _))); with_reducible exact kkwk)))⟩
                  case measure => have := HLK.out; simp [intOf]; omega
              · have q5 : decide ((k : Int) < (D.length : Int)) = false := decide_eq_false (by omega)
                obtain rfl : k = D.length := by omega
                have O9 := Lib.hid (show wk.ownsRow w3.heap.size 37 2 (.slice qa3 (DS i j D.length).length qc3) (DS i (j + 1) 0).length (cellsR (DS i (j + 1) 0)) by rw [← SRj.out]; exact OW3.out)
                have q9 := HLM.out
                go_wp2
                go_roundw
                case rel => exact ⟨j + 1, by omega, by go_num, O9, J3⟩
                case measure => simp [intOf]; omega
          · have q4 : decide ((j : Int) < (M.length : Int)) = false := decide_eq_false (by omega)
            obtain rfl : j = M.length := by omega
            have O9 := Lib.hid (show wj.ownsRow w3.heap.size 37 2 (.slice qa2 (DS i M.length 0).length qc2) (DS (i + 1) 0 0).length (cellsR (DS (i + 1) 0 0)) by rw [← SEi.out]; exact OW2.out)
            have q9 := HLT.out
            go_wp2
            go_roundw
            case rel => exact ⟨i + 1, by omega, by go_num, O9, J2, LN9⟩
            case measure => simp [intOf]; omega
      · have q2 : decide (((DS i 0 0).length : Int) ≤ 400) = false := decide_eq_false (by omega)
        have q3 : decide ((DS i 0 0).length ≤ 400) = false := decide_eq_false h4
        have O9 := Lib.hid (own_mono OW.out K3.out.size)
        have R9 := Lib.hid (show 400 < (DS i 0 0).length ∧ 400 < TT.length by have := PL.out i; rw [← S0.out i] at this; omega)
        clear h4 sl
        go_wp2
        go_ret
        exact ⟨_, _, rfl, O9.out, ⟨_, S0.out _⟩, ⟨LN.out, .inr R9.out⟩, K3.out.trans J.out⟩
    · have q1 : decide ((i : Int) < (Y.length : Int)) = false := decide_eq_false (by omega)
      obtain rfl : i = Y.length := by omega
      have O9 := Lib.hid (own_mono OW.out K3.out.size)
      have E9 := Lib.hid (show DS Y.length 0 0 = TT by rw [S0.out, PA.out])
      clear sl
      go_wp2
      go_ret
      exact ⟨_, _, rfl, O9.out, ⟨_, S0.out _⟩, ⟨LN.out, .inl E9.out⟩, K3.out.trans J.out⟩
end Go.Proofs.YtinpglfclbnhlaaGreatDoor
