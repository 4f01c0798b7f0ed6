import Derived.Test.YtamdjbpgkiekcaaGreatDoorGBa
import Derived.OneCell
import Derived.Test.YtamdjbpgkiekcaaGreatDoorGRlB
import Derived.Laws.StructEq
import Derived.Laws.IdiomCopy
import Derived.LoopTactic
import Derived.Shelf.RegionOpen
import Derived.Test.YtamdjbpgkiekcaaGreatDoorGRlD
import Derived.Test.YtamdjbpgkiekcaaGreatDoorGRlA
import Derived.Test.YtamdjbpgkiekcaaGreatDoorGSoC
import Derived.Shelf.SlSortCmp.WholeK
import Derived.Shelf.SlSortCmp.NoneTotal
import Derived.Shelf.SlicesG.Cmp
import Derived.Shelf.Lay
import Derived.Ground.SlsfProg
import Derived.Ground.SlgcProg
namespace Go.Proofs.YtamdjbpgkiekcaaGreatDoor
open Go.RowKit Go.Shelf
set_option linter.unusedVariables false
set_option linter.unusedSimpArgs false
theorem own_farR {w w' : World} {base : Nat} {e : TypeId} {size : Nat} {v : Value} {n : Nat} {xs : List Value} {row : Option Nat} (h : w.ownsRow base e size v n xs) (g : w.grownBy w' row) (hn : ∀ j, row = some j → v.ownBlock ≠ some j) : w'.ownsRow base e size v n xs :=
 h.kept g (by
  cases hv : v.ownBlock with
  | none => exact .inl rfl
  | some k => exact .inr fun e => hn k e.symm hv)
structure RowD where
 t : TypeId
 k : Nat
 v : Value
 n : Nat
 xs : List Value
structure Rws (w : World) (base n : Nat) (rs : Nat → RowD) : Prop where
 own : ∀ i, i < n → w.ownsRow base (rs i).t (rs i).k (rs i).v (rs i).n (rs i).xs
 apart : ∀ i j, i < n → j < n → i ≠ j → ∀ b, (rs i).v.ownBlock = some b → (rs j).v.ownBlock ≠ some b
def putD (rs : Nat → RowD) (i : Nat) (r : RowD) : Nat → RowD := fun x => if x = i then r else rs x
theorem putD_at (rs : Nat → RowD) (i : Nat) (r : RowD) : putD rs i r i = r := if_pos rfl
theorem putD_ne (rs : Nat → RowD) {i x : Nat} (r : RowD) (h : x ≠ i) : putD rs i r x = rs x := if_neg h
theorem Rws.kp {w w' : World} {base n : Nat} {rs : Nat → RowD} (h : Rws w base n rs) (k : Kp w w') : Rws w' base n rs := ⟨fun i hi => own_kp (h.own i hi) k, h.apart⟩
theorem Rws.lt {w : World} {base n : Nat} {rs : Nat → RowD} (h : Rws w base n rs) {i : Nat} (hi : i < n) : ∀ b, (rs i).v.ownBlock = some b → base ≤ b ∧ b < w.heap.size := (h.own i hi).lt
theorem Rws.put {w w' : World} {base n : Nat} {rs : Nat → RowD} (h : Rws w base n rs) {i : Nat} (hi : i < n) {r : RowD} (own : w'.ownsRow base r.t r.k r.v r.n r.xs) (g : w.grownBy w' (rs i).v.ownBlock) (at_ : r.v.ownBlock = (rs i).v.ownBlock ∨ r.v.ownBlock = none ∨ ∃ b, r.v.ownBlock = some b ∧ w.heap.size ≤ b) :
  Rws w' base n (putD rs i r) := by
 have far : ∀ j, j < n → j ≠ i → ∀ b, r.v.ownBlock = some b → (rs j).v.ownBlock ≠ some b := by
  intro j hj hne b hb e
  rcases at_ with a | a | ⟨c, a, hc⟩
  ·rw [a] at hb
   exact h.apart i j hi hj (fun e => hne e.symm) b hb e
  ·rw [a] at hb; cases hb
  ·rw [a] at hb
   cases hb
   have := (h.lt hj _ e).2
   omega
 refine ⟨fun j hj => ?_, fun j m hj hm hne b hb e => ?_⟩
 ·by_cases e : j = i
  ·subst e; rw [putD_at]; exact own
  ·rw [putD_ne _ _ e]
   exact own_farR (h.own j hj) g fun b hb e2 => h.apart i j hi hj (fun e3 => e e3.symm) b hb e2
 ·by_cases e1 : j = i
  ·subst e1
   rw [putD_at] at hb
   rw [putD_ne _ _ (fun e3 => hne e3.symm)] at e
   exact far m hm (fun e3 => hne e3.symm) b hb e
  ·rw [putD_ne _ _ e1] at hb
   by_cases e2 : m = i
   ·subst e2
    rw [putD_at] at e
    exact far j hj e1 b e hb
   ·rw [putD_ne _ _ e2] at e
    exact h.apart j m hj hm hne b hb e
theorem Rws.setCell {w : World} {base n : Nat} {rs : Nat → RowD} (h : Rws w base n rs) {a : Addr} (ha : a.block < base) (u : Value) : Rws (w.setCell a u) base n rs := ⟨fun i hi => ownsRow_setCell_below (h.own i hi) ha u, h.apart⟩
theorem cellsR_set : ∀ (X : List R) (i : Nat) (q : R), ((cellsR X).set (i * 2) (.int .i64 q.1)).set (i * 2 + 1) (.int .i64 q.2) = cellsR (X.set i q)
 | [], i, q => by simp [cellsR]
 | x :: X, 0, q => by simp [cellsR]
 | x :: X, i + 1, q => by
  have ih := cellsR_set X i q
  have e : ∀ (y : R) (Y : List R), cellsR (y :: Y) = .int .i64 y.1 :: .int .i64 y.2 :: cellsR Y := fun y Y => rfl
  rw [List.set_cons_succ, e, e, ← ih, show (i + 1) * 2 = i * 2 + 1 + 1 by omega, show i * 2 + 1 + 1 + 1 = (i * 2 + 1) + 1 + 1 by omega]
  simp only [List.set_cons_succ]
theorem own_set2 {w : World} {base : Nat} {e : TypeId} {b cap n : Nat} {X : List R} (h : w.ownsRow base e 2 (.slice (some ⟨b, 0, none⟩) n cap) n (cellsR X)) (i : Nat) (q : R) :
  ((w.setCell ⟨b, i * 2, none⟩ (.int .i64 q.1)).setCell ⟨b, i * 2 + 1, none⟩ (.int .i64 q.2)).ownsRow base e 2 (.slice (some ⟨b, 0, none⟩) n cap) n (cellsR (X.set i q)) ∧ w.grownBy ((w.setCell ⟨b, i * 2, none⟩ (.int .i64 q.1)).setCell ⟨b, i * 2 + 1, none⟩ (.int .i64 q.2)) (some b) := by
 have s1 := h.stored (i * 2) (.int .i64 q.1)
 have s2 := s1.1.stored (i * 2 + 1) (.int .i64 q.2)
 rw [cellsR_set] at s2
 exact ⟨s2.1, s1.2.trans s2.2⟩
theorem pair_same (a b : Int) (w : World) : Sem.run Tryz.prog (binOp .eql 36 (.agg #[.int .i64 a, .int .i64 b]) (.agg #[.int .i64 a, .int .i64 b])) w = .ok (.bool true) w := by
 have u3 := Tryz.underlying3
 have a3 := Tryz.isAgg3
 have z3 := Tryz.sizeOf3
 have hS : Tryz.prog.underlying 36 = some (.struct (Tryz.prog.fieldsOf 36)) := by kernel_rfl
 have hp : Tryz.prog.stoodInHeld 36 = false := by kernel_rfl
 rw [run_eql_struct, show (10000 : Nat) = 9999 + 1 from rfl, run_equalIn_agg w 9999 36 _ _ hS hp]
 simp only [Program.fieldsOf, Tryz.underlying36]
 go_simp
theorem pair_eq (a b c d : Int) (w : World) : (Op.equalIn 10000 36 (.agg #[.int .i64 a, .int .i64 b]) (.agg #[.int .i64 c, .int .i64 d])).run Tryz.prog w = .ok (a == c && b == d) w := by
 have u3 := Tryz.underlying3
 have a3 := Tryz.isAgg3
 have z3 := Tryz.sizeOf3
 have hS : Tryz.prog.underlying 36 = some (.struct (Tryz.prog.fieldsOf 36)) := by kernel_rfl
 have hp : Tryz.prog.stoodInHeld 36 = false := by kernel_rfl
 rw [show (10000 : Nat) = 9999 + 1 from rfl, run_equalIn_agg w 9999 36 _ _ hS hp]
 simp only [Program.fieldsOf, Tryz.underlying36]
 go_simp
 by_cases h1 : a = c <;> by_cases h2 : b = d <;> simp [h1, h2]
theorem pair_eql (a b c d : Int) (w : World) : Sem.run Tryz.prog (binOp .eql 36 (.agg #[.int .i64 a, .int .i64 b]) (.agg #[.int .i64 c, .int .i64 d])) w = .ok (.bool (a == c && b == d)) w := by
 rw [run_eql_struct, pair_eq]
 rfl
theorem pair_neq (a b c d : Int) (w : World) : Sem.run Tryz.prog (binOp .neq 36 (.agg #[.int .i64 a, .int .i64 b]) (.agg #[.int .i64 c, .int .i64 d])) w = .ok (.bool (!(a == c && b == d))) w := by
 rw [run_neq_struct, pair_eq]
 rfl
theorem pair_guard (op : BinOp) (x y : Operand) (xs ys : Array Value) (w : World) : (eqGuard op 36 x y (.agg xs) (.agg ys)).run Tryz.prog w = .ok () w := run_eqGuard_agg w op _ x y xs ys (by kernel_rfl)
theorem zeros2 (a b : Value) (n : Nat) : (Builtin.zeroCells #[a, b] n).toList.length = n * 2 ∧ ∀ v ∈ (Builtin.zeroCells #[a, b] n).toList, v = a ∨ v = b := by
 constructor
 ·simp [Builtin.zeroCells]
 ·intro v hv
  simp only [Builtin.zeroCells, Array.toList_map, List.mem_map] at hv
  obtain ⟨i, _, rfl⟩ := hv
  have : i % 2 = 0 ∨ i % 2 = 1 := by omega
  rcases this with e | e <;> simp [e]
theorem run_clear2 (w : World) (ty : TypeId) (b o n c : Nat) (hn : 0 < n) (hc : ∀ j, j < n * 2 → (w.cell? ⟨b, o + j, none⟩).isSome = true) (hf : ∀ j, j < n * 2 → w.frozen? ⟨b, o + j, none⟩ = false) :
  (Builtin.clear_ #[30] ty #[.slice (some ⟨b, o, none⟩) n c]).run Tryz.prog w = .ok (.tuple #[]) (w.setCells b o (Builtin.zeroCells #[.int .i64 0, .int .i64 0] n).toList) := by
 have hv := fun w => Tryz.zeroValue36 w
 obtain ⟨z1, z2⟩ := zeros2 (.int .i64 0) (.int .i64 0) n
 have hst := run_storeCells_cells (P := Tryz.prog) b o (Builtin.zeroCells #[.int .i64 0, .int .i64 0] n).toList 0 w (by rw [z1]; simpa using hc) (by rw [z1]; simpa using hf) (by intro v hv'; rcases z2 v hv' with rfl | rfl <;> rfl)
 simp only [Nat.add_zero] at hst
 obtain ⟨m, rfl⟩ : ∃ m, n = m + 1 := ⟨n - 1, by omega⟩
 have hcl : Value.cells (.agg #[.int .i64 0, .int .i64 0]) = #[.int .i64 0, .int .i64 0] := rfl
 simp [Builtin.clear_, run_underlying Tryz.underlying30, hv, hcl, hst]
structure CInv (L : List R) (m k : Nat) (X : List R) : Prop where
 len : X.length = L.length
 lt : k < m
 high : ∀ i, m - 1 ≤ i → i < L.length → at_ X i = at_ L i
 mem : ∀ p, p ∈ X.take k ↔ p ∈ L.take m
 rise : riseP (X.take k)
theorem take_mem {L : List R} {m : Nat} (h : m < L.length) (p : R) : p ∈ L.take (m + 1) ↔ p ∈ L.take m ∨ p = at_ L m := by
 rw [take_at L m h]
 simp
theorem atC_take {L : List R} {m i : Nat} (hi : i < m) (h : i < L.length) : at_ L i ∈ L.take m := by
 have e : at_ L i = L[i] := by simp [at_, List.getD, h]
 rw [e]
 rw [List.mem_take_iff_getElem]
 exact ⟨i, by omega, rfl⟩
theorem riseP_take {L : List R} (h : riseP L) (k : Nat) : riseP (L.take k) := List.Pairwise.sublist (List.take_sublist _ _) h
theorem CInv.start {L : List R} {k : Nat} (hr : riseP L) (h1 : 1 ≤ k) (hk : k < L.length) (e : at_ L k = at_ L (k - 1)) : CInv L (k + 1) k L := by
 refine ⟨rfl, by omega, fun _ _ _ => rfl, fun p => ?_, riseP_take hr k⟩
 rw [take_mem hk, e]
 exact ⟨.inl, fun h => h.elim id fun h => by rw [h]; exact atC_take (by omega) (by omega)⟩
theorem CInv.skip {L X : List R} {m k : Nat} (h : CInv L m k X) (h1 : 1 ≤ m) (hm : m < L.length) (e : at_ L m = at_ L (m - 1)) : CInv L (m + 1) k X := by
 have := h.lt
 refine ⟨h.len, by omega, fun i hi hl => h.high i (by omega) hl, fun p => ?_, h.rise⟩
 rw [take_mem hm, h.mem p, e]
 exact ⟨.inl, fun g => g.elim id fun g => by rw [g]; exact atC_take (by omega) (by omega)⟩
theorem CInv.keep {L X : List R} {m k : Nat} (h : CInv L m k X) (hr : riseP L) (hm : m < L.length) : CInv L (m + 1) (k + 1) (X.set k (at_ L m)) := by
 have hl := h.lt
 have hk : k < X.length := by rw [h.len]; omega
 have e : (X.set k (at_ L m)).take (k + 1) = X.take k ++ [at_ L m] := by
  rw [List.take_succ_eq_append_getElem (by simpa using hk), List.take_set, List.set_eq_of_length_le (by rw [List.length_take]; omega)]
  simp
 refine ⟨by simpa using h.len, by omega, fun i hi hl2 => ?_, fun p => ?_, ?_⟩
 ·have : at_ (X.set k (at_ L m)) i = at_ X i := by
   unfold at_
   rw [List.getD_eq_getElem?_getD, List.getElem?_set_ne (by omega), ← List.getD_eq_getElem?_getD]
  rw [this]
  exact h.high i (by omega) hl2
 ·rw [e, List.mem_append, List.mem_singleton, h.mem p, take_mem hm]
 ·rw [e]
  unfold riseP
  rw [List.pairwise_append]
  refine ⟨h.rise, List.pairwise_singleton _ _, fun a ha q hq => ?_⟩
  rw [List.mem_singleton.1 hq]
  obtain ⟨i, hi, ei⟩ := List.mem_take_iff_getElem.1 ((h.mem a).1 ha)
  have e2 : a = at_ L i := by rw [← ei]; simp [at_, List.getD, show i < L.length by omega]
  rw [e2]
  exact riseP_at hr (by omega) hm
theorem own_sets {base : Nat} {e : TypeId} {b cap n size : Nat} : ∀ (vs : List Value) (o : Nat) (w : World) (xs : List Value), w.ownsRow base e size (.slice (some ⟨b, 0, none⟩) n cap) n xs → ∃ ys, (w.setCells b o vs).ownsRow base e size (.slice (some ⟨b, 0, none⟩) n cap) n ys ∧ ys.take o = xs.take o
 | [], o, w, xs, h => ⟨xs, h, rfl⟩
 | v :: vs, o, w, xs, h => by
  obtain ⟨ys, h1, h2⟩ := own_sets vs (o + 1) _ _ (h.stored o v).1
  refine ⟨ys, h1, ?_⟩
  have := congrArg (List.take o) h2
  rw [List.take_take, List.take_take, Nat.min_eq_left (by omega), List.take_set, List.set_eq_of_length_le (by rw [List.length_take]; omega)] at this
  exact this
theorem own_short {w : World} {base : Nat} {e : TypeId} {b cap n k size : Nat} {xs : List Value} (h : w.ownsRow base e size (.slice (some ⟨b, 0, none⟩) n cap) n xs) (hk : k ≤ n) : w.ownsRow base e size (.slice (some ⟨b, 0, none⟩) k cap) k (xs.take (k * size)) := by
 have hm := Nat.mul_le_mul_right size hk
 refine ⟨by rw [List.length_take, h.1]; omega, ?_⟩
 rcases h.2 with ⟨h', _⟩ | ⟨g', cap', cur, h', h1, h2, h3, h4, h5, h6⟩
 ·simp at h'
 ·simp only [Value.slice.injEq, Option.some.injEq, Addr.mk.injEq, and_true, true_and] at h'
  obtain ⟨rfl, rfl⟩ := h'
  exact .inr ⟨b, cap, cur, rfl, h1, h2, by omega, h4, h5, by rw [← h6, List.take_take, Nat.min_eq_left hm]⟩
theorem cellsR_take : ∀ (X : List R) (k : Nat), (cellsR X).take (k * 2) = cellsR (X.take k)
 | [], k => by simp [cellsR]
 | x :: X, 0 => by simp [cellsR]
 | x :: X, k + 1 => by
  have ih := cellsR_take X k
  have e : ∀ (y : R) (Y : List R), cellsR (y :: Y) = .int .i64 y.1 :: .int .i64 y.2 :: cellsR Y := fun y Y => rfl
  rw [List.take_succ_cons, e, e, ← ih, show (k + 1) * 2 = k * 2 + 1 + 1 by omega]
  rfl
theorem clear_far (w : World) (b : Nat) : ∀ (vs : List Value) (o : Nat), w.grownBy (w.setCells b o vs) (some b)
 | [], _ => ⟨rfl, rfl, rfl, Nat.le_refl _, fun _ _ _ => rfl⟩
 | v :: vs, o => by
  have h1 : w.grownBy (w.setCell ⟨b, o, none⟩ v) (some b) := ⟨rfl, rfl, rfl, by simp [World.setCell], fun k hk hne => Below.heap_setCell _ _ _ _ (fun e => hne (by rw [e]))⟩
  exact h1.trans (clear_far _ b vs (o + 1))
def CPost (w : World) (base : Nat) (e : TypeId) (b cap : Nat) (L : List R) (w' : World) (v' : Value) : Prop := ∃ L', v' = .slice (some ⟨b, 0, none⟩) L'.length cap ∧ L'.length ≤ L.length ∧ (∀ p, p ∈ L' ↔ p ∈ L) ∧ riseP L' ∧ w'.ownsRow base e 2 v' L'.length (cellsR L') ∧ w.grownBy w' (some b)
theorem CPost.same {w w' : World} {base b cap : Nat} {L : List R} {e : TypeId} (h : w'.ownsRow base e 2 (.slice (some ⟨b, 0, none⟩) L.length cap) L.length (cellsR L)) (hr : riseP L) (g : w.grownBy w' (some b)) : CPost w base e b cap L w' (.slice (some ⟨b, 0, none⟩) L.length cap) :=
 ⟨L, rfl, Nat.le_refl _, fun _ => Iff.rfl, hr, h, g⟩
theorem CPost.cut {w wr : World} {base b cap k : Nat} {L X : List R} {e : TypeId} (h : wr.ownsRow base e 2 (.slice (some ⟨b, 0, none⟩) L.length cap) L.length (cellsR X)) (c : CInv L L.length k X) (g : w.grownBy wr (some b)) (vs : List Value) : CPost w base e b cap L (wr.setCells b (k * 2) vs) (.slice (some ⟨b, 0, none⟩) k cap) := by
 have hl : (X.take k).length = k := by have := c.lt; have := c.len; rw [List.length_take]; omega
 obtain ⟨ys, h1, h2⟩ := own_sets vs (k * 2) wr _ h
 have h3 := own_short (k := k) h1 (by have := c.lt; omega)
 rw [h2, cellsR_take] at h3
 exact ⟨X.take k, by rw [hl], by have := c.lt; omega, fun p => by rw [c.mem p, List.take_length], c.rise, by rw [hl]; exact h3, g.trans (clear_far _ b vs _)⟩
set_option maxHeartbeats 16000000 in
set_option maxRecDepth 100000 in
theorem compact_any {base b cap : Nat} (L : List R) (w : World) (h : w.ownsRow base 36 2 (.slice (some ⟨b, 0, none⟩) L.length cap) L.length (cellsR L)) (hr : riseP L) (hn : L.length ≤ 1000000) :
  Calls Tryz.prog 65 #[.slice (some ⟨b, 0, none⟩) L.length cap] w fun e w' => ∃ v', e = .returned v' ∧ CPost w base 36 b cap L w' v' := by
 have hcap : L.length ≤ cap := by
  rcases h.2 with ⟨h', _⟩ | ⟨g', cap', cur, h', _, _, hnc, hcm, _⟩
  ·simp at h'
  ·simp only [Value.slice.injEq, Option.some.injEq, Addr.mk.injEq, and_true, true_and] at h'
   obtain ⟨rfl, rfl⟩ := h'
   exact hnc
 have eqT := pair_same
 have eqF := pair_eql
 have neF := pair_neq
 have hgd := pair_guard
 have LL := Lib.hid (fun (X : List R) (hX : L.length = X.length) => hX)
 have H := Lib.hid h
 have HR := Lib.hid hr
 clear h hr
 obtain ⟨n, hnn⟩ : ∃ n, L.length = n := ⟨_, rfl⟩
 rw [hnn] at hn hcap H ⊢
 have HN := Lib.hid hnn
 clear hnn LL
 have HP := Lib.hid (fun (w' : World) (v' : Value) (c : CPost w base 36 b cap L w' v') => c)
 by_cases h2 : n < 2
 ·have q0 : decide ((n : Int) < 2) = true := decide_eq_true (by omega)
  go_enter Tryz.func65, Tryz.ntmps65
  go_wp2
  go_ret
  refine ⟨_, rfl, ?_⟩
  have H' := H.out
  rw [← HN.out] at H' ⊢
  exact CPost.same H' HR.out ⟨rfl, rfl, rfl, Nat.le_refl _, fun _ _ _ => rfl⟩
 ·have q0 : decide ((n : Int) < 2) = false := decide_eq_false (by omega)
  go_enter Tryz.func65, Tryz.ntmps65
  go_wp2
  go_loopw [3] (fun s3 wr => ∃ k : Nat, 1 ≤ k ∧ k ≤ n ∧ s3 = .int .i64 k ∧ Hid (Kp w wr)) (fun s3 _ => n - (intOf s3).toNat)
  case atStart => exact ⟨1, by omega, by omega, rfl, Lib.hid (Kp.refl _)⟩
  case round =>
   obtain ⟨k, hk1, hk, rfl, K1⟩ := hrel
   by_cases hlt : k < n
   ·have q1 : decide ((k : Int) < (n : Int)) = true := decide_eq_true (by omega)
    have hb1 := own_kp H.out K1.out
    have c1 := hb1.cellAt (k * 2) (by omega)
    have c2 := hb1.cellAt (k * 2 + 1) (by omega)
    have c3 := hb1.cellAt ((k - 1) * 2) (by omega)
    have c4 := hb1.cellAt ((k - 1) * 2 + 1) (by omega)
    rw [cells_idx L _ (by have := HN.out; omega)] at c1 c2 c3 c4
    rw [show (k * 2) % 2 = 0 by omega, show k * 2 / 2 = k by omega] at c1
    rw [show (k * 2 + 1) % 2 = 1 by omega, show (k * 2 + 1) / 2 = k by omega] at c2
    rw [show ((k - 1) * 2) % 2 = 0 by omega, show (k - 1) * 2 / 2 = k - 1 by omega] at c3
    rw [show ((k - 1) * 2 + 1) % 2 = 1 by omega, show ((k - 1) * 2 + 1) / 2 = k - 1 by omega] at c4
    simp only [if_true, if_neg (show ¬ (1 : Nat) = 0 by omega)] at c1 c2 c3 c4
    have E := Lib.hid (show (at_ L k = at_ L (k - 1)) ∨ ¬ (at_ L k = at_ L (k - 1)) from Classical.em _)
    obtain ⟨x, hx⟩ : ∃ x, at_ L k = x := ⟨_, rfl⟩
    obtain ⟨y, hy⟩ : ∃ y, at_ L (k - 1) = y := ⟨_, rfl⟩
    rw [hx] at c1 c2
    rw [hy] at c3 c4
    have XY := Lib.hid (And.intro hx hy)
    clear hx hy hb1 E
    obtain ⟨xs, xt⟩ := x
    obtain ⟨ys, yt⟩ := y
    simp only at c1 c2 c3 c4
    have wk : IntKind.i64.wrap ((k : Int) - 1) = ((k - 1 : Nat) : Int) := by rw [IntKind.wrap_i64]; omega
    have q2 : decide (k < n) = true := decide_eq_true hlt
    have z1 : ((k - 1 : Nat) : Int) < (n : Int) := by omega
    have z2 : (0 : Int) ≤ ((k - 1 : Nat) : Int) := by omega
    have z3 : (k : Int) < (n : Int) := by omega
    have OW := Lib.hid (own_kp H.out K1.out)
    have GB := Lib.hid (show w.grownBy wr (some b) from ⟨K1.out.os, K1.out.tape, K1.out.output, K1.out.size, fun i hi _ => K1.out.block i hi⟩)
    by_cases hd : xs = ys ∧ xt = yt
    ·obtain ⟨rfl, rfl⟩ := hd
     have e1 : (xs == xs && xt == xt) = true := by simp
     go_wp2_with fail
     go_quiet (fail)
     go_wp2
     have CI := Lib.hid (CInv.start HR.out hk1 (by rw [HN.out]; exact hlt) (by rw [XY.out.1, XY.out.2]))
     clear c1 c2 c3 c4 XY e1 wk z1 z2 q2 q1
     go_loopw [3, 5] (fun s3 s5 ws => ∃ (kk k2 : Nat) (X : List R), 1 ≤ k2 ∧ k + k2 ≤ n ∧ kk < k + k2 ∧ s3 = .int .i64 kk ∧ s5 = .int .i64 k2 ∧ Hid (CInv L (k + k2) kk X) ∧ Hid (ws.ownsRow base 36 2 (.slice (some ⟨b, 0, none⟩) n cap) n (cellsR X)) ∧ Hid (w.grownBy ws (some b))) (fun _ s5 _ => n - (intOf s5).toNat)
     case atStart => exact ⟨k, 1, L, by omega, by omega, by omega, rfl, rfl, CI, Lib.hid (own_kp OW.out (by first | with_reducible exact Kp.refl _ | with_reducible exact Kp.alloc _ _ | with_reducible exact (Kp.alloc _ _).trans (Kp.alloc _ _) | with_reducible exact ((Kp.alloc _ _).trans (Kp.alloc _ _)).trans (Kp.alloc _ _) | with_reducible exact Kp.drew _ | with_reducible exact Kp.drewN _ _)), Lib.hid (GB.out.trans ⟨rfl, rfl, rfl, Nat.le_refl _, fun _ _ _ => rfl⟩)⟩
     case round =>
      obtain ⟨kk, k2, X, h1, hle, hlt3, rfl, rfl, CJ, O, G⟩ := hrel
      obtain ⟨ws, hws⟩ : ∃ x, x = wr := ⟨_, rfl⟩
      subst hws
      by_cases hlt2 : k + k2 < n
      ·have bo : ∀ j : Nat, j < n → ws.cell? ⟨b, j * 2, none⟩ = some (.int .i64 (at_ X j).1) ∧ ws.cell? ⟨b, j * 2 + 1, none⟩ = some (.int .i64 (at_ X j).2) ∧ ws.frozen? ⟨b, j * 2, none⟩ = false ∧ ws.frozen? ⟨b, j * 2 + 1, none⟩ = false := by
        intro j hj
        have hX : X.length = n := CJ.out.len.trans HN.out
        have a1 := O.out.cellAt (j * 2) (by omega)
        have a2 := O.out.cellAt (j * 2 + 1) (by omega)
        rw [cells_idx X _ (by omega)] at a1 a2
        rw [show (j * 2) % 2 = 0 by omega, show j * 2 / 2 = j by omega] at a1
        rw [show (j * 2 + 1) % 2 = 1 by omega, show (j * 2 + 1) / 2 = j by omega] at a2
        simp only [if_true, if_neg (show ¬ (1 : Nat) = 0 by omega)] at a1 a2
        exact ⟨a1, a2, O.out.frozenAt _, O.out.frozenAt _⟩
       have e1 : at_ X (k + k2) = at_ L (k + k2) := CJ.out.high _ (by omega) (by rw [HN.out]; omega)
       have e2 : at_ X (k + k2 - 1) = at_ L (k + k2 - 1) := CJ.out.high _ (by omega) (by rw [HN.out]; omega)
       obtain ⟨c1, c2, -, -⟩ := bo (k + k2) hlt2
       obtain ⟨c3, c4, -, -⟩ := bo (k + k2 - 1) (by omega)
       obtain ⟨c5, c6, f1, f2⟩ := bo kk (by omega)
       rw [e1, show (k + k2) * 2 = k * 2 + k2 * 2 by omega] at c1 c2
       rw [e2, show (k + k2 - 1) * 2 = k * 2 + (k2 - 1) * 2 by omega] at c3 c4
       have SKP := Lib.hid (fun (q : at_ L (k + k2) = at_ L (k + k2 - 1)) => CJ.out.skip (by omega) (by rw [HN.out]; exact hlt2) q)
       have KEP := Lib.hid (CJ.out.keep HR.out (by rw [HN.out]; exact hlt2))
       have OK2 := Lib.hid (fun nq => And.intro (own_set2 (own_kp O.out (Kp.drewN ws nq)) kk (at_ L (k + k2))).1 ((show ws.grownBy (ws.drewN nq) (some b) from ⟨rfl, rfl, rfl, Nat.le_refl _, fun _ _ _ => rfl⟩).trans (own_set2 (own_kp O.out (Kp.drewN ws nq)) kk (at_ L (k + k2))).2))
       clear bo e1 e2
       obtain ⟨x, hx⟩ : ∃ x, at_ L (k + k2) = x := ⟨_, rfl⟩
       obtain ⟨y, hy⟩ : ∃ y, at_ L (k + k2 - 1) = y := ⟨_, rfl⟩
       rw [hx] at c1 c2 KEP OK2 SKP
       rw [hy] at c3 c4 SKP
       clear hx hy
       generalize (at_ X kk).1 = o1 at c5
       generalize (at_ X kk).2 = o2 at c6
       obtain ⟨xs, xt⟩ := x
       obtain ⟨ys, yt⟩ := y
       simp only at c1 c2 c3 c4 OK2
       have wk : IntKind.i64.wrap ((k2 : Int) - 1) = ((k2 - 1 : Nat) : Int) := by rw [IntKind.wrap_i64]; omega
       have q2 : decide (k2 < n - k) = true := decide_eq_true (by omega)
       have q1 : decide ((k2 : Int) < ((n - k : Nat) : Int)) = true := decide_eq_true (by omega)
       have z1 : ((k2 - 1 : Nat) : Int) < ((n - k : Nat) : Int) := by omega
       have z2 : (0 : Int) ≤ ((k2 - 1 : Nat) : Int) := by omega
       have z3 : (k2 : Int) < ((n - k : Nat) : Int) := by omega
       have z4 : (kk : Int) < (n : Int) := by omega
       have z5 : (0 : Int) ≤ (kk : Int) := by omega
       by_cases hd : xs = ys ∧ xt = yt
       ·obtain ⟨rfl, rfl⟩ := hd
        have e1 : (!(xs == xs && xt == xt)) = false := by simp
        have SK2 := Lib.hid (SKP.out rfl)
        clear SKP KEP OK2
        go_wp2_with fail
        go_quiet (fail)
        go_wp2
        go_roundw
        case rel => exact ⟨kk, k2 + 1, X, by omega, by omega, by omega, rfl, by go_num, SK2, Lib.hid (own_kp O.out (by first | with_reducible exact Kp.refl _ | with_reducible exact Kp.alloc _ _ | with_reducible exact (Kp.alloc _ _).trans (Kp.alloc _ _) | with_reducible exact ((Kp.alloc _ _).trans (Kp.alloc _ _)).trans (Kp.alloc _ _) | with_reducible exact Kp.drew _ | with_reducible exact Kp.drewN _ _)), Lib.hid (G.out.trans ⟨rfl, rfl, rfl, Nat.le_refl _, fun _ _ _ => rfl⟩)⟩
        case measure => simp [intOf]; omega
       ·have e1 : (!(xs == ys && xt == yt)) = true := by
         cases h : (xs == ys && xt == yt) with
         | false => rfl
         | true => simp at h; exact absurd h hd
        go_wp2_with fail
        go_quiet (fail)
        go_wp2
        go_roundw
        case rel => exact ⟨kk + 1, k2 + 1, X.set kk (xs, xt), by omega, by omega, by omega, by go_num, by go_num, KEP, Lib.hid (OK2.out _).1, Lib.hid (G.out.trans (OK2.out _).2)⟩
        case measure => simp [intOf]; omega
      ·have hend : k + k2 = n := by omega
       have hn2 : L.length = n := HN.out
       have hcl : ∀ ty, (Builtin.clear_ #[30] ty #[.slice (some ⟨b, kk * 2, none⟩) (n - kk) (cap - kk)]).run Tryz.prog ws = .ok (.tuple #[]) (ws.setCells b (kk * 2) (Builtin.zeroCells #[.int .i64 0, .int .i64 0] (n - kk)).toList) :=
        fun ty => run_clear2 ws ty b (kk * 2) (n - kk) _ (by omega) (fun j hj => by
         have hX : X.length = n := CJ.out.len.trans HN.out
         rw [O.out.cellAt (kk * 2 + j) (by omega), cells_idx X _ (by omega)]
         rfl) fun j hj => O.out.frozenAt _
       have CF := Lib.hid (fun zs => CPost.cut (k := kk) (L := L) (X := X) (cap := cap) (by rw [hn2]; exact O.out) (by rw [hn2, ← hend]; exact CJ.out) G.out zs)
       generalize (Builtin.zeroCells #[.int .i64 0, .int .i64 0] (n - kk)).toList = zs at hcl
       have CF2 := Lib.hid (CF.out zs)
       have q2 : decide (k2 < n - k) = false := decide_eq_false (by omega)
       have q1 : decide ((k2 : Int) < ((n - k : Nat) : Int)) = false := decide_eq_false (by omega)
       have z4 : (kk : Int) < (n : Int) := by omega
       have z5 : (0 : Int) ≤ (kk : Int) := by omega
       clear hend hn2 CF
       go_wp2
       go_ret
       exact ⟨_, rfl, CF2.out⟩
    ·have e1 : (xs == ys && xt == yt) = false := by
      rw [Bool.eq_false_iff]
      intro h
      simp at h
      exact hd h
     go_wp2_with fail
     go_quiet (fail)
     go_wp2
     go_roundw
     case rel => exact ⟨k + 1, by omega, by omega, by go_num, Lib.hid (K1.out.trans (by first | with_reducible exact Kp.refl _ | with_reducible exact Kp.alloc _ _ | with_reducible exact (Kp.alloc _ _).trans (Kp.alloc _ _) | with_reducible exact ((Kp.alloc _ _).trans (Kp.alloc _ _)).trans (Kp.alloc _ _) | with_reducible exact Kp.drew _ | with_reducible exact Kp.drewN _ _))⟩
     case measure => simp [intOf]; omega
   ·have q1 : decide ((k : Int) < (n : Int)) = false := decide_eq_false (by omega)
    go_wp2
    go_ret
    refine ⟨_, rfl, ?_⟩
    have H' := own_kp H.out K1.out
    rw [← HN.out] at H' ⊢
    exact CPost.same H' HR.out ⟨K1.out.os, K1.out.tape, K1.out.output, K1.out.size, fun i hi _ => K1.out.block i hi⟩
open Go.RowKit
abbrev OV := LO × VV
def cellsO (l : List OV) : List Value := l.flatMap fun p => [.bool p.1.1, p.2.1, p.2.2]
theorem cellsO_append (l m : List OV) : cellsO (l ++ m) = cellsO l ++ cellsO m := by unfold cellsO; simp
structure Own1 (w : World) (base n : Nat) (rs : Nat → RowD) (v : Value) (l : List R) : Prop where
 own : OwnR w base v l
 far : ∀ i, i < n → ∀ b, v.ownBlock = some b → (rs i).v.ownBlock ≠ some b
theorem Own1.kp {w w' : World} {base n : Nat} {rs : Nat → RowD} {v : Value} {l : List R} (h : Own1 w base n rs v l) (k : Kp w w') : Own1 w' base n rs v l := ⟨own_kp h.own k, h.far⟩
theorem Own1.put {w w' : World} {base n : Nat} {rs : Nat → RowD} {v : Value} {l : List R} (h : Own1 w base n rs v l) {i : Nat} (hi : i < n) {r : RowD} (g : w.grownBy w' (rs i).v.ownBlock) (at_ : r.v.ownBlock = (rs i).v.ownBlock ∨ r.v.ownBlock = none ∨ ∃ b, r.v.ownBlock = some b ∧ w.heap.size ≤ b) :
  Own1 w' base n (putD rs i r) v l := by
 refine ⟨own_farR h.own g fun b hb e => h.far i hi b e hb, fun j hj b hb e => ?_⟩
 by_cases c : j = i
 ·subst c
  rw [putD_at] at e
  rcases at_ with a | a | ⟨d, a, hd⟩
  ·rw [a] at e; exact h.far j hj b hb e
  ·rw [a] at e; cases e
  ·rw [a] at e
   cases e
   have := (World.ownsRow.lt h.own _ hb).2
   omega
 ·rw [putD_ne _ _ c] at e
  exact h.far j hj b hb e
theorem Own1.setCell {w : World} {base n : Nat} {rs : Nat → RowD} {v : Value} {l : List R} (h : Own1 w base n rs v l) {a : Addr} (ha : a.block < base) (u : Value) : Own1 (w.setCell a u) base n rs v l := ⟨ownsRow_setCell_below h.own ha u, h.far⟩
theorem Own1.new {w1 w2 : World} {base n : Nat} {rs : Nat → RowD} {v : Value} {l : List R} (r : Rws w1 base n rs) (hb : base ≤ w1.heap.size) (h : OwnR w2 w1.heap.size v l) : Own1 w2 base n rs v l :=
 ⟨own_mono h hb, fun i hi b e e2 => by have := (World.ownsRow.lt h b e).1; have := (r.lt hi b e2).2; omega⟩
def ReadsO (w : World) (base n : Nat) (rs : Nat → RowD) (m : List OV) : Prop := ∀ p ∈ m, Own1 w base n rs p.2.1 p.1.2.1 ∧ Own1 w base n rs p.2.2 p.1.2.2
theorem ReadsO.kp {w w' : World} {base n : Nat} {rs : Nat → RowD} {m : List OV} (h : ReadsO w base n rs m) (k : Kp w w') : ReadsO w' base n rs m := fun p hp => ⟨(h p hp).1.kp k, (h p hp).2.kp k⟩
theorem ReadsO.put {w w' : World} {base n : Nat} {rs : Nat → RowD} {m : List OV} (h : ReadsO w base n rs m) {i : Nat} (hi : i < n) {r : RowD} (g : w.grownBy w' (rs i).v.ownBlock) (at_ : r.v.ownBlock = (rs i).v.ownBlock ∨ r.v.ownBlock = none ∨ ∃ b, r.v.ownBlock = some b ∧ w.heap.size ≤ b) : ReadsO w' base n (putD rs i r) m := fun p hp => ⟨(h p hp).1.put hi g at_, (h p hp).2.put hi g at_⟩
theorem ReadsO.setCell {w : World} {base n : Nat} {rs : Nat → RowD} {m : List OV} (h : ReadsO w base n rs m) {a : Addr} (ha : a.block < base) (u : Value) : ReadsO (w.setCell a u) base n rs m := fun p hp => ⟨(h p hp).1.setCell ha u, (h p hp).2.setCell ha u⟩
def pbox (rs : Nat → RowD) : Array Value := #[(rs 0).v, (rs 1).v, (rs 2).v, (rs 3).v, (rs 4).v, (rs 5).v]
theorem pbox_at (rs : Nat → RowD) {i : Nat} (h : i < 6) : (pbox rs)[i]? = some (rs i).v := by
 obtain rfl | rfl | rfl | rfl | rfl | rfl : i = 0 ∨ i = 1 ∨ i = 2 ∨ i = 3 ∨ i = 4 ∨ i = 5 := by omega
 all_goals rfl
theorem pbox_set (rs : Nat → RowD) {i : Nat} (h : i < 6) (r : RowD) : (pbox rs).setIfInBounds i r.v = pbox (putD rs i r) := by
 obtain rfl | rfl | rfl | rfl | rfl | rfl : i = 0 ∨ i = 1 ∨ i = 2 ∨ i = 3 ∨ i = 4 ∨ i = 5 := by omega
 all_goals rfl
theorem pbox_other (rs : Nat → RowD) {i : Nat} (h : 6 ≤ i) (r : RowD) : pbox (putD rs i r) = pbox rs := by
 unfold pbox
 rw [putD_ne _ _ (by omega), putD_ne _ _ (by omega), putD_ne _ _ (by omega), putD_ne _ _ (by omega), putD_ne _ _ (by omega), putD_ne _ _ (by omega)]
structure SBx (W : World) (rs : Nat → RowD) (w : World) : Prop where
 kp : Kp W w
 b2 : w.heap[W.heap.size]? = some (.cells #[.slice none 0 0, .slice none 0 0] 57 (0, 0))
 b5 : w.heap[W.heap.size + 1]? = some (.cells (pbox rs) 91 (0, 0))
 b6 : w.heap[W.heap.size + 2]? = some (.cells #[(rs 8).v, (rs 7).v] 57 (0, 0))
 sz : W.heap.size + 3 ≤ w.heap.size
 rws : Rws w (W.heap.size + 3) 9 rs
theorem SBx.go {W w w' : World} {rs : Nat → RowD} (h : SBx W rs w) (k : Kp w w') : SBx W rs w' :=
 ⟨h.kp.trans k, heap_block k h.b2, heap_block k h.b5, heap_block k h.b6, Nat.le_trans h.sz k.size, h.rws.kp k⟩
theorem grown_heap {w w' : World} {row : Option Nat} (g : w.grownBy w' row) {k : Nat} {o : Obj} (h : w.heap[k]? = some o) (hn : row ≠ some k) : w'.heap[k]? = some o := by
 have hl : k < w.heap.size := (Array.getElem?_eq_some_iff.1 h).1
 exact (g.block k hl (fun e => hn e.symm)).trans h
theorem SBx.far {W w : World} {rs : Nat → RowD} (h : SBx W rs w) {i : Nat} (hi : i < 9) {k : Nat} (hk : k < W.heap.size + 3) : (rs i).v.ownBlock ≠ some k := fun e => by
 have := (h.rws.lt hi k e).1
 omega
theorem kp_setCell2 {W w : World} (k : Kp W w) {b o : Nat} (hb : W.heap.size ≤ b) (u : Value) : Kp W (w.setCell ⟨b, o, none⟩ u) := Below.setCell k (p := ⟨b, o, none⟩) hb u
theorem SBx.putP {W w w' : World} {rs : Nat → RowD} (h : SBx W rs w) {i : Nat} (hi : i < 6) {r : RowD} (own : w'.ownsRow (W.heap.size + 3) r.t r.k r.v r.n r.xs) (g : w.grownBy w' (rs i).v.ownBlock) (at_ : r.v.ownBlock = (rs i).v.ownBlock ∨ r.v.ownBlock = none ∨ ∃ b, r.v.ownBlock = some b ∧ w.heap.size ≤ b) :
  SBx W (putD rs i r) (w'.setCell ⟨W.heap.size + 1, i, none⟩ r.v) := by
 have k1 : Kp W w' := h.kp.grown g fun j hj => by have := (h.rws.lt (by omega) j hj).1; omega
 have s1 := g.size
 refine ⟨kp_setCell2 k1 (by omega) _, ?_, ?_, ?_, ?_, ?_⟩
 ·rw [bx_other1 (by omega)]; exact grown_heap g h.b2 (h.far (by omega) (by omega))
 ·rw [← pbox_set rs hi]; exact bx_heap1 (grown_heap g h.b5 (h.far (by omega) (by omega))) _ _
 ·rw [bx_other1 (by omega), putD_ne _ _ (by omega), putD_ne _ _ (by omega)]; exact grown_heap g h.b6 (h.far (by omega) (by omega))
 ·have := h.sz; simp [World.setCell]; omega
 ·exact (h.rws.put (by omega) own g at_).setCell (by simp) _
theorem SBx.putN {W w w' : World} {rs : Nat → RowD} (h : SBx W rs w) {i : Nat} (hi : i = 6) {r : RowD} (own : w'.ownsRow (W.heap.size + 3) r.t r.k r.v r.n r.xs) (g : w.grownBy w' (rs i).v.ownBlock) (at_ : r.v.ownBlock = (rs i).v.ownBlock ∨ r.v.ownBlock = none ∨ ∃ b, r.v.ownBlock = some b ∧ w.heap.size ≤ b) :
  SBx W (putD rs i r) w' := by
 have k1 : Kp W w' := h.kp.grown g fun j hj => by have := (h.rws.lt (by omega) j hj).1; omega
 have s1 := g.size
 refine ⟨k1, ?_, ?_, ?_, ?_, ?_⟩
 ·exact grown_heap g h.b2 (h.far (by omega) (by omega))
 ·rw [pbox_other rs (by omega)]; exact grown_heap g h.b5 (h.far (by omega) (by omega))
 ·rw [putD_ne _ _ (by omega), putD_ne _ _ (by omega)]; exact grown_heap g h.b6 (h.far (by omega) (by omega))
 ·have := h.sz; omega
 ·exact h.rws.put (by omega) own g at_
theorem SBx.putO {W w w' : World} {rs : Nat → RowD} (h : SBx W rs w) {r : RowD} (own : w'.ownsRow (W.heap.size + 3) r.t r.k r.v r.n r.xs) (g : w.grownBy w' (rs 7).v.ownBlock) (at_ : r.v.ownBlock = (rs 7).v.ownBlock ∨ r.v.ownBlock = none ∨ ∃ b, r.v.ownBlock = some b ∧ w.heap.size ≤ b) :
  SBx W (putD rs 7 r) (w'.setCell ⟨W.heap.size + 2, 1, none⟩ r.v) := by
 have k1 : Kp W w' := h.kp.grown g fun j hj => by have := (h.rws.lt (by omega) j hj).1; omega
 have s1 := g.size
 refine ⟨kp_setCell2 k1 (by omega) _, ?_, ?_, ?_, ?_, ?_⟩
 ·rw [bx_other1 (by omega)]; exact grown_heap g h.b2 (h.far (by omega) (by omega))
 ·rw [pbox_other rs (by omega), bx_other1 (by omega)]; exact grown_heap g h.b5 (h.far (by omega) (by omega))
 ·exact bx_heap1 (grown_heap g h.b6 (h.far (by omega) (by omega))) _ _
 ·have := h.sz; simp [World.setCell]; omega
 ·exact (h.rws.put (by omega) own g at_).setCell (by simp) _
structure SRd (l : List LF) (rs : Nat → RowD) (m : List OV) : Prop where
 pr : ∀ u : Nat, u < 6 → rs u = ⟨36, 2, (rs u).v, (prL l u).length, cellsR (prL l u)⟩
 dy : rs 6 = ⟨53, 2, (rs 6).v, (dyL l).length, cellsR (dyL l)⟩
 lo : rs 7 = ⟨93, 3, (rs 7).v, m.length, cellsO m⟩
 li : rs 8 = ⟨99, 1, .slice none 0 0, 0, []⟩
 ms : m.map Prod.fst = lsL l
theorem SRd.skip {l : List LF} {rs : Nat → RowD} {m : List OV} (h : SRd l rs m) {f : LF} (hf : fullB f = false) : SRd (l ++ [f]) rs m := by
 have e1 : ∀ u, prF u f = [] := fun u => by unfold prF; rw [if_neg (by rw [hf]; simp)]
 have e2 : dyF f = [] := by unfold dyF; rw [if_neg (by rw [hf]; simp)]
 have e3 : lsF f = [] := by unfold lsF; rw [if_neg (by rw [hf]; simp)]
 have p : ∀ u, prL (l ++ [f]) u = prL l u := fun u => by unfold prL; simp [e1]
 have d : dyL (l ++ [f]) = dyL l := by unfold dyL; simp [e2]
 have s : lsL (l ++ [f]) = lsL l := by unfold lsL; simp [e3]
 exact ⟨fun u hu => by rw [p]; exact h.pr u hu, by rw [d]; exact h.dy, h.lo, h.li, by rw [s]; exact h.ms⟩
theorem SRd.span {l : List LF} {rs : Nat → RowD} {m : List OV} (h : SRd l rs m) {f : LF} (hf : fullB f = true) (hs : f.sp = true) (v v1 v2 : Value) :
  SRd (l ++ [f]) (putD rs 7 ⟨93, 3, v, (m ++ [((false, startsR (famR f), endsR (famR f)), (v1, v2))]).length, cellsO (m ++ [((false, startsR (famR f), endsR (famR f)), (v1, v2))])⟩) (m ++ [((false, startsR (famR f), endsR (famR f)), (v1, v2))]) := by
 have e1 : ∀ u, prF u f = [] := fun u => by unfold prF; rw [if_neg (by rw [hs]; simp)]
 have e2 : dyF f = [] := by unfold dyF; rw [if_neg (by rw [hs]; simp)]
 have e3 : lsF f = [(false, startsR (famR f), endsR (famR f))] := by unfold lsF; rw [if_pos ⟨hf, hs⟩]
 have p : ∀ u, prL (l ++ [f]) u = prL l u := fun u => by unfold prL; simp [e1]
 have d : dyL (l ++ [f]) = dyL l := by unfold dyL; simp [e2]
 have s : lsL (l ++ [f]) = lsL l ++ [(false, startsR (famR f), endsR (famR f))] := by unfold lsL; simp [e3]
 refine ⟨fun u hu => by rw [p, putD_ne _ _ (by omega)]; exact h.pr u hu, by rw [d, putD_ne _ _ (by omega)]; exact h.dy, by rw [putD_at], by rw [putD_ne _ _ (by omega)]; exact h.li, by rw [s, List.map_append, h.ms]; rfl⟩
theorem SRd.day {l : List LF} {rs : Nat → RowD} {m : List OV} (h : SRd l rs m) {f : LF} (hf : fullB f = true) (hs : f.sp = false) (hu : f.u = 0) (v : Value) :
  SRd (l ++ [f]) (putD rs 6 ⟨53, 2, v, (dyL l ++ startsR (famR f)).length, cellsR (dyL l ++ startsR (famR f))⟩) m := by
 have e1 : ∀ u, prF u f = [] := fun u => by unfold prF; rw [if_neg]; rintro ⟨_, _, a, b⟩; omega
 have e2 : dyF f = startsR (famR f) := by unfold dyF; rw [if_pos ⟨hf, hs, hu⟩]
 have e3 : lsF f = [] := by unfold lsF; rw [if_neg (by rw [hs]; simp)]
 have p : ∀ u, prL (l ++ [f]) u = prL l u := fun u => by unfold prL; simp [e1]
 have d : dyL (l ++ [f]) = dyL l ++ startsR (famR f) := by unfold dyL; simp [e2]
 have s : lsL (l ++ [f]) = lsL l := by unfold lsL; simp [e3]
 exact ⟨fun u hu => by rw [p, putD_ne _ _ (by omega)]; exact h.pr u hu, by rw [d, putD_at], by rw [putD_ne _ _ (by omega)]; exact h.lo, by rw [putD_ne _ _ (by omega)]; exact h.li, by rw [s]; exact h.ms⟩
theorem SRd.unit {l : List LF} {rs : Nat → RowD} {m : List OV} (h : SRd l rs m) {f : LF} (hf : fullB f = true) (hs : f.sp = false) {u : Nat} (hu : f.u = u) (h0 : u ≠ 0) (h6 : u < 6) (v : Value) :
  SRd (l ++ [f]) (putD rs u ⟨36, 2, v, (prL l u ++ pairsF (famR f)).length, cellsR (prL l u ++ pairsF (famR f))⟩) m := by
 have e1 : ∀ x : Nat, x ≠ u → prF x f = [] := fun x hx => by unfold prF; rw [if_neg]; rintro ⟨_, _, a, b⟩; omega
 have e4 : prF u f = pairsF (famR f) := by unfold prF; rw [if_pos ⟨hf, hs, hu, by omega⟩]
 have e2 : dyF f = [] := by unfold dyF; rw [if_neg]; rintro ⟨_, _, a⟩; omega
 have e3 : lsF f = [] := by unfold lsF; rw [if_neg (by rw [hs]; simp)]
 have p : ∀ x : Nat, x ≠ u → prL (l ++ [f]) x = prL l x := fun x hx => by unfold prL; simp [e1 x hx]
 have p2 : prL (l ++ [f]) u = prL l u ++ pairsF (famR f) := by unfold prL; simp [e4]
 have d : dyL (l ++ [f]) = dyL l := by unfold dyL; simp [e2]
 have s : lsL (l ++ [f]) = lsL l := by unfold lsL; simp [e3]
 refine ⟨fun x hx => ?_, by rw [d, putD_ne _ _ (by omega)]; exact h.dy, by rw [putD_ne _ _ (by omega)]; exact h.lo, by rw [putD_ne _ _ (by omega)]; exact h.li, by rw [s]; exact h.ms⟩
 by_cases c : x = u
 ·subst c; rw [p2, putD_at]
 ·rw [p x c, putD_ne _ _ c]; exact h.pr x hx
theorem step_app {P : Program} {w : World} {ops : Array Oper} {o : Oper} {a : Act} {K : Act → World → Prop} {Q : Exit → Act → World → Prop} {E : Prop} (hgd : o.guard = none) (s x : Operand) (t : TypeId)
  (ho : o.op = .call { callee := .builtin .append, args := #[s, x], argTypes := #[t, t] })
  (base : Nat) (e : TypeId) (i : TypeInfo) (z : Value) (size bytes : Nat) (ht : P.underlying t = some (.slice e)) (hi : P.info? e = some i) (hz : i.zero = some z)
  (hsize : i.size = size) (hby : i.bytes = bytes) (hzs : z.cells.size = size) (hsz : 0 < size)
  (v : Value) (n : Nat) (xs : List Value) (hs : a.eval s = v) (hown : w.ownsRow base e size v n xs)
  (sv : Value) (m : Nat) (news : List Value) (hx : a.eval x = sv) (hsrc : SrcAt w sv m news) (hl : news.length = m * size) (h1 : ∀ u ∈ news, u.oneCell' = true)
  (h63 : n + m ≤ maxLen) (hbytes : (n + m) * bytes ≤ 140737488355328) (hbase : base ≤ w.heap.size)
  (h : ∀ v' w', w'.ownsRow base e size v' (n + m) (xs ++ news) → w.grownBy w' v.ownBlock → (v'.ownBlock = v.ownBlock ∨ v'.ownBlock = some w.heap.size) → K (a.put o.dst v') w') : if Region.wanted o (yielded ops a.tmps) = true then Oper.wp P o a w K Q else E := by
 rw [if_pos (by simp [Region.wanted, hgd])]
 have : ∃ v' w', (Builtin.append_ #[t, t] o.type #[v, sv]).run P w = .ok v' w' ∧ w'.ownsRow base e size v' (n + m) (xs ++ news) ∧ w.grownBy w' v.ownBlock ∧ (v'.ownBlock = v.ownBlock ∨ v'.ownBlock = some w.heap.size) := by
  rcases hsrc with ⟨ad, cp, rfl, rfl, rfl⟩ | ⟨ad, c, rfl, hn⟩
  ·exact ⟨v, w, run_append_zero w base t o.type e i size ht hi v n xs hown ad cp, by simpa using hown, ⟨rfl, rfl, rfl, Nat.le_refl _, fun _ _ _ => rfl⟩, .inl rfl⟩
  ·obtain ⟨v', w', hr, h2, h3, _, h5⟩ := run_append_own_at (P := P) w base t o.type e i z size bytes ht hi hz hsize hby hzs hsz v n xs hown ad m c news hl hn h1 h63 hbytes hbase
   exact ⟨v', w', hr, h2, h3, h5⟩
 obtain ⟨v', w', hr, h2, h3, h4⟩ := this
 unfold Oper.wp execOp
 simp only [ho, resolve, invoke, builtin, Sem.run_bind, Sem.run_pure, Result.andThen_ok, List.map_toArray, List.map_cons, List.map_nil, hs, hx, hr]
 exact h v' w' h2 h3 h4
theorem infoLoo : (Tryz.prog.info? 93).map (fun i => (i.zero, i.size, i.bytes)) = some (some (.agg #[.bool false, .slice none 0 0, .slice none 0 0]), 3, 56) := by kernel_rfl
theorem infoRu : (Tryz.prog.info? 53).map (fun i => (i.zero, i.size, i.bytes)) = some (some (.agg #[.int .i64 0, .int .i64 0]), 2, 16) := by kernel_rfl
theorem infoLi : (Tryz.prog.info? 99).map (fun i => (i.zero, i.size, i.bytes)) = some (some (.slice none 0 0), 1, 24) := by kernel_rfl
theorem ReadsO.add {w : World} {base n : Nat} {rs : Nat → RowD} {m : List OV} (h : ReadsO w base n rs m) {d : Bool} {A B : List R} {v1 v2 : Value} (h1 : Own1 w base n rs v1 A) (h2 : Own1 w base n rs v2 B) : ReadsO w base n rs (m ++ [((d, A, B), (v1, v2))]) := fun p hp => by
 rcases List.mem_append.1 hp with hp | hp
 ·exact h p hp
 ·rw [List.mem_singleton.1 hp]
  exact ⟨h1, h2⟩
theorem len_ms {l : List LF} {rs : Nat → RowD} {m : List OV} (h : SRd l rs m) : m.length ≤ l.length := by
 have := congrArg List.length h.ms
 rw [List.length_map] at this
 have := len_lsL l
 omega
def rs0 : Nat → RowD := fun i => if i < 6 then ⟨36, 2, .slice none 0 0, 0, []⟩ else if i = 6 then ⟨53, 2, .slice none 0 0, 0, []⟩ else if i = 7 then ⟨93, 3, .slice none 0 0, 0, []⟩ else ⟨99, 1, .slice none 0 0, 0, []⟩
theorem rs0_v (i : Nat) : (rs0 i).v = .slice none 0 0 := by unfold rs0; (repeat' split) <;> rfl
theorem rs0_own (w : World) (base i : Nat) : w.ownsRow base (rs0 i).t (rs0 i).k (rs0 i).v (rs0 i).n (rs0 i).xs := by
 unfold rs0
 (repeat' split) <;> exact World.ownsRow_nil _ _ _ _
def sW0 (w : World) : World := ((w.alloc (.cells #[.slice none 0 0, .slice none 0 0] 57)).alloc (.cells #[.slice none 0 0, .slice none 0 0, .slice none 0 0, .slice none 0 0, .slice none 0 0, .slice none 0 0] 91)).alloc (.cells #[.slice none 0 0, .slice none 0 0] 57)
theorem SBx.start (w : World) : SBx w rs0 (sW0 w) := by
 unfold sW0
 refine ⟨((Kp.alloc _ _).trans (Kp.alloc _ _)).trans (Kp.alloc _ _), heap_block (Kp.alloc _ _) (heap_block (Kp.alloc _ _) (heap_at _ _ _ rfl)), ?_, ?_, by simp, ⟨fun i _ => rs0_own _ _ i, fun i j _ _ _ b hb => by rw [rs0_v] at hb; cases hb⟩⟩
 ·unfold pbox
  rw [rs0_v, rs0_v, rs0_v, rs0_v, rs0_v, rs0_v]
  exact heap_block (Kp.alloc _ _) (heap_at _ _ _ (by simp))
 ·rw [rs0_v, rs0_v]
  exact heap_at _ _ _ (by simp)
theorem SRd.start : SRd [] rs0 [] := by
 refine ⟨fun u hu => ?_, rfl, rfl, rfl, rfl⟩
 have : rs0 u = ⟨36, 2, .slice none 0 0, 0, []⟩ := if_pos hu
 rw [this]
 rfl
theorem ReadsO.start (w : World) (base n : Nat) (rs : Nat → RowD) : ReadsO w base n rs [] := fun p hp => by cases hp
noncomputable def okAll (l : List LF) : Bool := l.all fun f => startsB (famR f) && endsB (famR f)
theorem okAll_take {l : List LF} {k : Nat} (h : k < l.length) (g : okAll (l.take k) = true) (h1 : startsB (famR (lat l k)) = true) (h2 : endsB (famR (lat l k)) = true) : okAll (l.take (k + 1)) = true := by
 unfold okAll at *
 rw [take_lat l k h, List.all_append, g]
 simp [h1, h2]
theorem okAll_no {l : List LF} {k : Nat} (h : k < l.length) (g : (startsB (famR (lat l k)) && endsB (famR (lat l k))) = false) : okAll l = false := by
 unfold okAll
 rw [List.all_eq_false]
 exact ⟨_, lat_mem h, by rw [g]; simp⟩
theorem okAll_iff {l : List LF} (h : okAll l = true) : ∀ f ∈ l, startsB (famR f) = true ∧ endsB (famR f) = true := by
 intro f hf
 have := List.all_eq_true.1 h f hf
 simpa using this
def LooAt (w : World) (v : Value) (l : List LO) : Prop := (∃ c, v = .slice none 0 c ∧ l = []) ∨ ∃ b c, v = .slice (some ⟨b, 0, none⟩) l.length c ∧ ∀ i, i < l.length → ∃ ua ub, w.cell? ⟨b, i * 3, none⟩ = some (.bool (l.getD i (false, [], [])).1) ∧ w.cell? ⟨b, i * 3 + 1, none⟩ = some ua ∧ w.cell? ⟨b, i * 3 + 2, none⟩ = some ub ∧ RunsAt w ua (l.getD i (false, [], [])).2.1 ∧ RunsAt w ub (l.getD i (false, [], [])).2.2
def FdAt (w : World) (v : Value) (F : FdD) : Prop := ∃ vl vo, v = .agg #[vl, vo] ∧ SsAt w vl F.ls ∧ LooAt w vo F.lo
theorem LooAt.kp {w w' : World} {v : Value} {l : List LO} (h : LooAt w v l) (k : Kp w w') : LooAt w' v l := by
 rcases h with h | ⟨b, c, e, g⟩
 ·exact .inl h
 ·refine .inr ⟨b, c, e, fun i hi => ?_⟩
  obtain ⟨ua, ub, h1, h2, h3, h4, h5⟩ := g i hi
  exact ⟨ua, ub, cell_up k h1, cell_up k h2, cell_up k h3, h4.kp k, h5.kp k⟩
theorem FdAt.kp {w w' : World} {v : Value} {F : FdD} (h : FdAt w v F) (k : Kp w w') : FdAt w' v F := by
 obtain ⟨vl, vo, e, h1, h2⟩ := h
 exact ⟨vl, vo, e, h1.kp k, h2.kp k⟩
end Go.Proofs.YtamdjbpgkiekcaaGreatDoor
namespace Go.Proofs
open Go.Shelf
shelf_lay_g SlLaysF0.n6 Slsf 6 at Tryz 62 as Tryz.sortPr
shelf_lay_g SlLaysC2.n5 Slgc 5 at Tryz 64 as Tryz.cmpPr
end Go.Proofs
namespace Go.Proofs.YtamdjbpgkiekcaaGreatDoor
open Go.RowKit Go.Sort Go.Shelf Go.Lib
set_option linter.unusedVariables false
set_option linter.unusedSimpArgs false
theorem ltLo (x y : R) : ltOf (fun x y : R => Lib.compareInt x.1 y.1) x y = decide (x.1 < y.1) := by
 unfold ltOf Lib.compareInt
 by_cases h1 : x.1 < y.1
 ·simp [h1]
 ·by_cases h2 : y.1 < x.1 <;> simp [h1, h2]
theorem swoLo : SWO (ltOf fun x y : R => Lib.compareInt x.1 y.1) where
 irrefl x := by rw [ltLo]; simp
 trans x y z h1 h2 := by rw [ltLo] at *; simp at *; omega
 ntrans x y z h1 h2 := by rw [ltLo] at *; simp at *; omega
set_option maxHeartbeats 1000000 in
theorem clo_pair (x y : R) (W : World) : Calls Tryz.prog 63 #[.agg #[.int .i64 x.1, .int .i64 x.2], .agg #[.int .i64 y.1, .int .i64 y.2]] W fun e w' => e = .returned (.int .i64 (Lib.compareInt x.1 y.1)) ∧ ∃ q os', w' = grow (W.drewN q) os' := by
 have hcon := fun W' => AnyG.cmp_Compare_int Tryz.cmpPr x.1 y.1 W'
 change ∀ W', Calls Tryz.prog 64 _ _ _ at hcon
 generalize Lib.compareInt x.1 y.1 = r at hcon ⊢
 go_enter Tryz.func63, Tryz.ntmps63
 go_wp2_with (go_at_call 64; refine (hcon _).mono ?_; rintro e w' ⟨rfl, rfl⟩)
 go_ret
 exact ⟨rfl, 0, _, by rw [alloc_eq_grow, alloc_eq_grow, grow_grow]; rfl⟩
theorem own_sorted {w : World} {base b cap n : Nat} {e : TypeId} {L : List R} (h : w.ownsRow base e 2 (.slice (some ⟨b, 0, none⟩) n cap) n (cellsR L)) {d : Array R} (hs : d.size = n) (m : Nat) (os : Array Obj) :
  (sortWorldK encR 2 w b 0 m d os).ownsRow base e 2 (.slice (some ⟨b, 0, none⟩) n cap) n (cellsR d.toList) ∧ w.grownBy (sortWorldK encR 2 w b 0 m d os) (some b) := by
 have hb : b < w.heap.size := (h.lt b rfl).2
 rcases h.2 with ⟨h', _⟩ | ⟨g', cap', cur, h', h1, h2, h3, h4, h5, h6⟩
 ·cases h'
 ·simp only [Value.slice.injEq, Option.some.injEq, Addr.mk.injEq, and_true, true_and] at h'
  obtain ⟨rfl, rfl⟩ := h'
  refine ⟨⟨by rw [cellsR_length, Array.length_toList, hs], .inr ⟨b, cap, putCells id 0 (flatK encR 2 d) cur, rfl, h1, ?_, h3, h4, ?_, ?_⟩⟩, ⟨rfl, rfl, rfl, ?_, fun k hk hne => ?_⟩⟩
  ·simp only [sortWorldK, grow, putRowK, putRow, mapBlock, Sort.ahead]
   rw [Array.getElem?_append_left (by simpa using hb), Array.getElem?_modify, if_pos rfl, h2]
   rfl
  ·simp [putCells, h5]
  ·apply List.ext_getElem?
   intro j
   by_cases hj : j < n * 2
   ·have hc : j < cur.size := by rw [h5]; omega
    rw [List.getElem?_take_of_lt hj, cells_idx _ j (by simpa [hs] using hj)]
    have e1 : (flatK encR 2 d)[j]! = (encR d[j / 2]!)[j % 2]! := get_flatK _ _ _ _ (by rw [hs]; exact hj)
    have hj2 : j / 2 < d.size := by omega
    have e2 : at_ d.toList (j / 2) = d[j / 2]! := by unfold at_; simp [List.getD, hj2]
    have e3 : (putCells id 0 (flatK encR 2 d) cur)[j]? = some ((flatK encR 2 d)[j]!) := by
     unfold putCells
     rw [Array.getElem?_mapIdx, Array.getElem?_eq_getElem hc]
     simp only [Option.map_some, Nat.zero_le, Nat.zero_add, size_flatK, hs, true_and, Nat.sub_zero, id_eq]
     rw [if_pos hj]
    rw [Array.getElem?_toList, e3, e1, e2]
    have : j % 2 = 0 ∨ j % 2 = 1 := by omega
    rcases this with q | q <;> rw [q] <;> rfl
   ·rw [List.getElem?_eq_none (by rw [List.length_take]; omega), List.getElem?_eq_none (by rw [cellsR_length, Array.length_toList, hs]; omega)]
  ·simp [sortWorldK, grow, putRowK, putRow, mapBlock, Sort.ahead]
  ·simp only [sortWorldK, grow, putRowK, putRow, mapBlock, Sort.ahead]
   have hne' : b ≠ k := fun e => hne (by rw [e])
   rw [Array.getElem?_append_left (by simpa using hk), Array.getElem?_modify, if_neg hne']
set_option maxHeartbeats 1000000 in
theorem psort_any {base b cap : Nat} {e : TypeId} (L : List R) (w : World) (h : w.ownsRow base e 2 (.slice (some ⟨b, 0, none⟩) L.length cap) L.length (cellsR L)) (hn : L.length ≤ 1000000) :
  Calls Tryz.prog 62 #[.slice (some ⟨b, 0, none⟩) L.length cap, .func (.func 63) #[] #[]] w fun ex w' => ex = .returned (.tuple #[]) ∧ ∃ L' : List R, L'.length = L.length ∧ (∀ p, p ∈ L' ↔ p ∈ L) ∧ (L'.Pairwise fun a b => a.1 ≤ b.1) ∧ w'.ownsRow base e 2 (.slice (some ⟨b, 0, none⟩) L.length cap) L.length (cellsR L') ∧ w.grownBy w' (some b) := by
 have eg : ∀ args w, (callFunc 63 args).run Tryz.prog w = .ok (.enter 63 args) w := enters_of Tryz.func63 (by kernel_rfl) rfl
 have hb : b < w.heap.size := (h.lt b rfl).2
 have hH : HoldsK encR 2 w b 0 L.toArray := holds_row h
 have hcon := AnyQ.slices_SortFunc Tryz.sortPr 2 Tryz.isAgg36 Tryz.sizeOf36 encR lenR oneR (fun x y => Lib.compareInt x.1 y.1) swoLo 63 #[] b 0 cap L.toArray w eg (fun _ _ _ _ x y => clo_pair x y _) hH hb (by simp; omega)
 change Calls Tryz.prog 62 _ _ _ at hcon
 refine hcon.mono ?_
 rintro ex w' ⟨rfl, d', n, os, hp, hs, rfl⟩
 have sz : d'.size = L.length := by rw [hp.1]; simp
 obtain ⟨o1, g1⟩ := own_sorted h sz n os
 have pm : d'.toList.Perm L := by
  have := hp.2.2
  rw [Array.extract_eq_self_of_le (by simp [sz]), Array.extract_eq_self_of_le (by simp)] at this
  simpa using this
 refine ⟨rfl, d'.toList, by simpa using sz, fun p => pm.mem_iff, ?_, o1, g1⟩
 rw [List.pairwise_iff_getElem]
 intro i j hi hj hij
 have hi2 : i < d'.size := by simpa using hi
 have hj2 : j < d'.size := by simpa using hj
 have := hs i j (Nat.zero_le _) hij (by simp; omega)
 rw [ltLo, decide_eq_false_iff_not, getElem!_pos d' i hi2, getElem!_pos d' j hj2] at this
 simp only [Array.getElem_toList]
 omega
theorem psort_nil (w : World) : Calls Tryz.prog 62 #[.slice none 0 0, .func (.func 63) #[] #[]] w fun e w' => e = .returned (.tuple #[]) ∧ w' = w := by
 have hcon := AnyF.slices_SortFunc_none Tryz.sortPr none 0 (.func (.func 63) #[] #[]) w
 change Calls Tryz.prog 62 _ _ _ at hcon
 exact hcon
open Go.RowKit Go.Shelf
theorem own_sliceK {w : World} {base : Nat} {e : TypeId} {size : Nat} {v : Value} {n : Nat} {xs : List Value} (h : w.ownsRow base e size v n xs) : ∃ ad c, v = .slice ad n c := by
 rcases h.2 with ⟨rfl, rfl⟩ | ⟨g, cap, _, rfl, _⟩
 ·exact ⟨_, _, rfl⟩
 ·exact ⟨_, _, rfl⟩
theorem grown_refl (w : World) (row : Option Nat) : w.grownBy w row := ⟨rfl, rfl, rfl, Nat.le_refl _, fun _ _ _ => rfl⟩
theorem run_index_sl {t e : TypeId} {n : Nat} {cs : Array Value} {k : Nat} {u : Value} {i : TypeInfo} (w : World) (h : Tryz.prog.underlying t = some (.array n e)) (hk : k < n) (ha : ∀ w, (isAgg e).run Tryz.prog w = .ok false w) (hi : Tryz.prog.info? e = some i) (hs : Tryz.prog.cellsOf e = 1) (hc : cs[k]? = some u) :
  (Instr.index t (.agg cs) (.int .i64 k)).run Tryz.prog w = .ok u w := by
 simp [Instr.index, run_underlying h, asIntOf, hk, run_sizeOf w hi, hs, part, ha, hc]
theorem wpList_index_sl {ops : Array Oper} {rest : List Oper} {o : Oper} {a : Act} {w : World} {Q : Exit → Act → World → Prop} (hgd : o.guard = none) (t e : TypeId) (x y : Operand) (ho : o.op = .index t x y) (n : Nat) (cs : Array Value) (k : Nat) (u : Value) (i : TypeInfo)
  (hx : a.eval x = .agg cs) (hy : a.eval y = .int .i64 k) (h : Tryz.prog.underlying t = some (.array n e)) (hk : k < n) (ha : ∀ w, (isAgg e).run Tryz.prog w = .ok false w) (hi : Tryz.prog.info? e = some i) (hs : Tryz.prog.cellsOf e = 1) (hc : cs[k]? = some u)
  (g : wpList Tryz.prog ops Q rest (a.put o.dst u) w) : wpList Tryz.prog ops Q (o :: rest) a w := by
 refine wpList_plain hgd fun K hK => ?_
 unfold Oper.wp execOp
 simp only [ho, hx, hy, Sem.run_bind, Sem.run_pure, Result.andThen_ok, run_index_sl w h hk ha hi hs hc]
 exact hK _ _ g
theorem prs_info : ∃ i, Tryz.prog.info? 30 = some i := Option.isSome_iff_exists.1 (by kernel_rfl)
theorem prs_cells : Tryz.prog.cellsOf 30 = 1 := by kernel_rfl
theorem six_info : (Tryz.prog.info? 91).map (·.size) = some 6 := by kernel_rfl
theorem psortV {base n : Nat} {v : Value} (L : List R) (w : World) (h : w.ownsRow base 36 2 v n (cellsR L)) (hl : L.length = n) (hn : n ≤ 1000000) :
  Calls Tryz.prog 62 #[v, .func (.func 63) #[] #[]] w fun ex w' => ∃ L' : List R, ex = .returned (.tuple #[]) ∧ L'.length = n ∧ (∀ p, p ∈ L' ↔ p ∈ L) ∧ (L'.Pairwise fun a b => a.1 ≤ b.1) ∧ w'.ownsRow base 36 2 v n (cellsR L') ∧ w.grownBy w' v.ownBlock := by
 rcases h.2 with ⟨rfl, rfl⟩ | ⟨g, cap, cur, rfl, _⟩
 ·refine (psort_nil w).mono ?_
  rintro e w' ⟨rfl, rfl⟩
  have : L = [] := List.length_eq_zero_iff.1 hl
  subst this
  exact ⟨[], rfl, rfl, fun _ => Iff.rfl, List.Pairwise.nil, h, grown_refl _ _⟩
 ·subst hl
  refine (psort_any L w h hn).mono ?_
  rintro e w' ⟨rfl, L', h1, h2, h3, h4, h5⟩
  exact ⟨L', rfl, h1, h2, h3, h4, h5⟩
theorem compact_nil (w : World) : Calls Tryz.prog 65 #[.slice none 0 0] w fun e w' => e = .returned (.slice none 0 0) ∧ w' = w := by
 go_enter Tryz.func65, Tryz.ntmps65
 go_wp2
 go_ret
 exact ⟨rfl, rfl⟩
theorem compactV {base n : Nat} {v : Value} (L : List R) (w : World) (h : w.ownsRow base 36 2 v n (cellsR L)) (hl : L.length = n) (hr : riseP L) (hn : n ≤ 1000000) :
  Calls Tryz.prog 65 #[v] w fun ex w' => ∃ (v' : Value) (L' : List R), ex = .returned v' ∧ L'.length ≤ n ∧ (∀ p, p ∈ L' ↔ p ∈ L) ∧ riseP L' ∧ w'.ownsRow base 36 2 v' L'.length (cellsR L') ∧ v'.ownBlock = v.ownBlock ∧ w.grownBy w' v.ownBlock := by
 rcases h.2 with ⟨rfl, rfl⟩ | ⟨g, cap, cur, rfl, _⟩
 ·refine (compact_nil w).mono ?_
  rintro e w' ⟨rfl, rfl⟩
  have : L = [] := List.length_eq_zero_iff.1 hl
  subst this
  exact ⟨_, [], rfl, Nat.le_refl _, fun _ => Iff.rfl, hr, h, rfl, grown_refl _ _⟩
 ·subst hl
  refine (compact_any L w h hr hn).mono ?_
  rintro e w' ⟨v', rfl, L', rfl, h1, h2, h3, h4, h5⟩
  exact ⟨_, L', rfl, h1, h2, h3, h4, rfl, h5⟩
theorem compactW {P : Prop} {base n : Nat} {v : Value} (L : List R) (w : World) (hP : P) (h : w.ownsRow base 36 2 v n (cellsR L)) (hl : L.length = n) (hr : riseP L) (hn : n ≤ 1000000) :
  Calls Tryz.prog 65 #[v] w fun ex w' => ∃ (v' : Value) (L' : List R), ex = .returned v' ∧ L'.length ≤ n ∧ (∀ p, p ∈ L' ↔ p ∈ L) ∧ riseP L' ∧ w'.ownsRow base 36 2 v' L'.length (cellsR L') ∧ v'.ownBlock = v.ownBlock ∧ w.grownBy w' v.ownBlock ∧ P :=
 (compactV L w h hl hr hn).mono fun e w' ⟨v', L', h1, h2, h3, h4, h5, h6, h7⟩ => ⟨v', L', h1, h2, h3, h4, h5, h6, h7, hP⟩
theorem putD_v (rs : Nat → RowD) (i : Nat) (r : RowD) : (putD rs i r i).v = r.v := by rw [putD_at]
theorem grown_row {rs : Nat → RowD} {i : Nat} {v : Value} {w w' : World} (h : (rs i).v = v) (g : w.grownBy w' v.ownBlock) : w.grownBy w' (rs i).v.ownBlock := by rw [h]; exact g
theorem putD_twice (rs : Nat → RowD) (i : Nat) (a b : RowD) : putD (putD rs i a) i b = putD rs i b := by
 funext x
 by_cases e : x = i
 ·subst e; rw [putD_at, putD_at]
 ·rw [putD_ne _ _ e, putD_ne _ _ e, putD_ne _ _ e]
structure SLx (W : World) (rs : Nat → RowD) (w : World) : Prop where
 kp : Kp W w
 b2 : w.heap[W.heap.size]? = some (.cells #[.slice none 0 0, .slice none 0 0] 57 (0, 0))
 b6 : w.heap[W.heap.size + 2]? = some (.cells #[(rs 8).v, (rs 7).v] 57 (0, 0))
 sz : W.heap.size + 3 ≤ w.heap.size
 rws : Rws w (W.heap.size + 3) 9 rs
theorem SBx.slx {W w : World} {rs : Nat → RowD} (h : SBx W rs w) : SLx W rs w := ⟨h.kp, h.b2, h.b6, h.sz, h.rws⟩
theorem SLx.go {W w w' : World} {rs : Nat → RowD} (h : SLx W rs w) (k : Kp w w') : SLx W rs w' :=
 ⟨h.kp.trans k, heap_block k h.b2, heap_block k h.b6, Nat.le_trans h.sz k.size, h.rws.kp k⟩
theorem SLx.far {W w : World} {rs : Nat → RowD} (h : SLx W rs w) {i : Nat} (hi : i < 9) {k : Nat} (hk : k < W.heap.size + 3) : (rs i).v.ownBlock ≠ some k := fun e => by
 have := (h.rws.lt hi k e).1
 omega
theorem SLx.putP {W w w' : World} {rs : Nat → RowD} (h : SLx W rs w) {i : Nat} (hi : i < 6) {r : RowD} (own : w'.ownsRow (W.heap.size + 3) r.t r.k r.v r.n r.xs) (g : w.grownBy w' (rs i).v.ownBlock) (at_ : r.v.ownBlock = (rs i).v.ownBlock) : SLx W (putD rs i r) w' := by
 have k1 : Kp W w' := h.kp.grown g fun j hj => by have := (h.rws.lt (by omega) j hj).1; omega
 have s1 := g.size
 refine ⟨k1, ?_, ?_, ?_, ?_⟩
 ·exact grown_heap g h.b2 (h.far (by omega) (by omega))
 ·rw [putD_ne _ _ (by omega), putD_ne _ _ (by omega)]; exact grown_heap g h.b6 (h.far (by omega) (by omega))
 ·have := h.sz; omega
 ·exact h.rws.put (by omega) own g (.inl at_)
theorem SLx.putL {W w w' : World} {rs : Nat → RowD} (h : SLx W rs w) {r : RowD} (own : w'.ownsRow (W.heap.size + 3) r.t r.k r.v r.n r.xs) (g : w.grownBy w' (rs 8).v.ownBlock) (at_ : r.v.ownBlock = (rs 8).v.ownBlock ∨ r.v.ownBlock = none ∨ ∃ b, r.v.ownBlock = some b ∧ w.heap.size ≤ b) :
  SLx W (putD rs 8 r) (w'.setCell ⟨W.heap.size + 2, 0, none⟩ r.v) := by
 have k1 : Kp W w' := h.kp.grown g fun j hj => by have := (h.rws.lt (by omega) j hj).1; omega
 have s1 := g.size
 refine ⟨kp_setCell2 k1 (by omega) _, ?_, ?_, ?_, ?_⟩
 ·rw [bx_other1 (by omega)]; exact grown_heap g h.b2 (h.far (by omega) (by omega))
 ·exact bx_heap1 (grown_heap g h.b6 (h.far (by omega) (by omega))) _ _
 ·have := h.sz; simp [World.setCell]; omega
 ·exact (h.rws.put (by omega) own g at_).setCell (by simp) _
noncomputable def loL (l : List LF) : List LO := lsL l ++ (if (dyL l).length = 0 then [] else [(true, nf (dyL l), nf (dyL l))])
structure SRe (l : List LF) (vs : Nat → Value) (k : Nat) (rs : Nat → RowD) (Ls : Nat → List R) (m : List OV) : Prop where
 pr : ∀ u : Nat, k ≤ u → u < 6 → rs u = ⟨36, 2, vs u, (prL l u).length, cellsR (prL l u)⟩
 dn : ∀ u : Nat, u < k → rs u = ⟨36, 2, (rs u).v, (Ls u).length, cellsR (Ls u)⟩ ∧ (∀ p, p ∈ Ls u ↔ p ∈ prL l u) ∧ riseP (Ls u) ∧ (Ls u).length ≤ (prL l u).length
 lo : rs 7 = ⟨93, 3, (rs 7).v, m.length, cellsO m⟩
 li : rs 8 = ⟨99, 1, (rs 8).v, k, (List.range k).map fun u => (rs u).v⟩
 ms : m.map Prod.fst = loL l
theorem riseP_sorted {l : List LF} {u : Int} {L : List R} (hm : ∀ p, p ∈ L ↔ p ∈ prL l u) (hs : L.Pairwise fun a b => a.1 ≤ b.1) : riseP L := by
 unfold riseP
 exact List.Pairwise.imp_of_mem (fun ha hb h => ⟨h, prL_rise ((hm _).1 ha) ((hm _).1 hb) h⟩) hs
theorem SRe.start0 {l : List LF} {rs : Nat → RowD} {m : List OV} (h : SRd l rs m) (hd : (dyL l).length = 0) : SRe l (fun u => (rs u).v) 0 rs (fun _ => []) m :=
 ⟨fun u _ h6 => h.pr u h6, fun u hu => by omega, h.lo, by rw [h.li]; rfl, by rw [h.ms]; unfold loL; rw [if_pos hd]; simp⟩
theorem SRe.start1 {l : List LF} {rs : Nat → RowD} {m : List OV} (h : SRd l rs m) (hd : ¬ (dyL l).length = 0) (r6 : RowD) (v v1 v2 : Value) :
  SRe l (fun u => (rs u).v) 0 (putD (putD rs 6 r6) 7 ⟨93, 3, v, (m ++ [((true, nf (dyL l), nf (dyL l)), (v1, v2))]).length, cellsO (m ++ [((true, nf (dyL l), nf (dyL l)), (v1, v2))])⟩) (fun _ => []) (m ++ [((true, nf (dyL l), nf (dyL l)), (v1, v2))]) := by
 refine ⟨fun u _ h6 => ?_, fun u hu => by omega, by rw [putD_at], ?_, ?_⟩
 ·rw [putD_ne _ _ (by omega), putD_ne _ _ (by omega)]; exact h.pr u h6
 ·rw [putD_ne _ _ (by omega), putD_ne _ _ (by omega), h.li]; rfl
 ·unfold loL
  rw [List.map_append, h.ms, if_neg hd]
  rfl
theorem SRe.next {l : List LF} {vs : Nat → Value} {k : Nat} {rs : Nat → RowD} {Ls : Nat → List R} {m : List OV} (h : SRe l vs k rs Ls m) (hk : k < 6) {v v8 : Value} {L : List R} (hm : ∀ p, p ∈ L ↔ p ∈ prL l k) (hr : riseP L) (hl : L.length ≤ (prL l k).length) :
  SRe l vs (k + 1) (putD (putD rs k ⟨36, 2, v, L.length, cellsR L⟩) 8 ⟨99, 1, v8, k + 1, ((List.range k).map fun u => (rs u).v) ++ [v]⟩) (fun u => if u = k then L else Ls u) m := by
 refine ⟨fun u h1 h2 => ?_, fun u hu => ?_, ?_, ?_, h.ms⟩
 ·rw [putD_ne _ _ (by omega), putD_ne _ _ (by omega)]
  exact h.pr u (by omega) h2
 ·rw [putD_ne _ _ (by omega)]
  by_cases e : u = k
  ·subst e
   rw [putD_at, if_pos rfl]
   exact ⟨rfl, hm, hr, hl⟩
  ·rw [putD_ne _ _ e, if_neg e]
   exact h.dn u (by omega)
 ·rw [putD_ne _ _ (by omega), putD_ne _ _ (by omega)]
  exact h.lo
 ·rw [putD_at, List.range_succ, List.map_append]
  have e1 : ((List.range k).map fun u => (rs u).v) = (List.range k).map fun u => (putD (putD rs k ⟨36, 2, v, L.length, cellsR L⟩) 8 ⟨99, 1, v8, k + 1, ((List.range k).map fun u => (rs u).v) ++ [v]⟩ u).v := by
   apply List.map_congr_left
   intro u hu
   have := List.mem_range.1 hu
   rw [putD_ne _ _ (by omega), putD_ne _ _ (by omega)]
  rw [← e1]
  simp only [List.map_cons, List.map_nil]
  rw [putD_ne _ _ (by omega), putD_at]
noncomputable def fdOf (l : List LF) (Ls : Nat → List R) : FdD := ⟨(List.range 6).map Ls, loL l⟩
theorem dyL_pos {l : List LF} (hd : ¬ (dyL l).length = 0) : 0 < (nf (dyL l)).length := by
 have : ∃ r, r ∈ dyL l := by
  cases h : dyL l with
  | nil => rw [h] at hd; simp at hd
  | cons r _ => exact ⟨r, by simp⟩
 obtain ⟨r, hr⟩ := this
 obtain ⟨f, hf, hr2⟩ := List.mem_flatMap.1 hr
 have sn : sane (dyF f) := by
  unfold dyF
  split
  ·exact starts_sane (famR_ok f)
  ·exact trivial
 obtain ⟨i, hi, e⟩ := List.getElem_of_mem hr2
 have m1 := (memR_at sn hi).1
 have m2 : memR (dyL l) (at_ (dyF f) i).1 := by
  obtain ⟨q, hq, h1⟩ := m1
  exact ⟨q, List.mem_flatMap.2 ⟨f, hf, hq⟩, h1⟩
 exact mem_pos ((nf_mem _ _).2 m2)
theorem fdOf_has {l : List LF} {vs : Nat → Value} {rs : Nat → RowD} {Ls : Nat → List R} {m : List OV} (h : SRe l vs 6 rs Ls m) (hb : okAll l = true) (S T : Int) : fdP (fdOf l Ls) S T ↔ hasL l S T = true := by
 rw [has_parts (okAll_iff hb)]
 unfold fdP fdOf loL
 simp only [List.mem_map, List.mem_range, List.mem_append]
 constructor
 ·rintro (⟨L, ⟨u, hu, rfl⟩, g⟩ | ⟨x, hx | hx, g⟩)
  ·exact .inr (.inl ⟨u, hu, ((h.dn u hu).2.1 _).1 g⟩)
  ·exact .inr (.inr ⟨x, hx, g⟩)
  ·split at hx
   ·cases hx
   ·rw [List.mem_singleton.1 hx] at g
    obtain ⟨rfl, g2⟩ := ls_t g
    exact .inl ⟨rfl, (nf_mem _ _).1 g2⟩
 ·rintro (⟨rfl, g⟩ | ⟨u, hu, g⟩ | ⟨x, hx, g⟩)
  ·refine .inr ⟨(true, nf (dyL l), nf (dyL l)), .inr ?_, ls_mkt ((nf_mem _ _).2 g)⟩
   rw [if_neg (fun e => by have := mem_pos g; omega)]
   simp
  ·exact .inl ⟨Ls u, ⟨u, hu, rfl⟩, ((h.dn u hu).2.1 _).2 g⟩
  ·exact .inr ⟨x, .inl hx, g⟩
theorem fdOf_ok {l : List LF} {vs : Nat → Value} {rs : Nat → RowD} {Ls : Nat → List R} {m : List OV} (h : SRe l vs 6 rs Ls m) (hb : okAll l = true) (hn : l.length ≤ 100) : FdOk (fdOf l Ls) := by
 have ob := okAll_iff hb
 refine ⟨?_, ?_, ?_, ?_, by simp [fdOf], ?_⟩
 ·intro L hL
  simp only [fdOf, List.mem_map, List.mem_range] at hL
  obtain ⟨u, hu, rfl⟩ := hL
  exact (h.dn u hu).2.2.1
 ·intro L hL S T hp
  simp only [fdOf, List.mem_map, List.mem_range] at hL
  obtain ⟨u, hu, rfl⟩ := hL
  exact prL_bd (((h.dn u hu).2.1 _).1 hp)
 ·intro L hL
  simp only [fdOf, List.mem_map, List.mem_range] at hL
  obtain ⟨u, hu, rfl⟩ := hL
  have := (h.dn u hu).2.2.2
  have := len_prL u l fun f hf => (ob f hf).1
  omega
 ·intro x hx
  simp only [fdOf, loL, List.mem_append] at hx
  rcases hx with hx | hx
  ·have := ls_span ob x hx
   exact ⟨this.1, by omega, by omega⟩
  ·split at hx
   ·cases hx
   ·rename_i hd
    rw [List.mem_singleton.1 hx]
    have a := nf_len (dyL l)
    have b := len_dyL l
    exact ⟨ls_days (fun f hf => (ob f hf).1) (dyL_pos hd), by simp only; omega, by simp only; omega⟩
 ·have := len_lsL l
  simp only [fdOf, loL, List.length_append]
  split <;> simp <;> omega
theorem cellsO_at : ∀ (m : List OV) (i : Nat) (h : i < m.length), (cellsO m)[i * 3]? = some (.bool (m[i]'h).1.1) ∧ (cellsO m)[i * 3 + 1]? = some (m[i]'h).2.1 ∧ (cellsO m)[i * 3 + 2]? = some (m[i]'h).2.2
 | [], i, h => by simp at h
 | p :: m, 0, h => ⟨rfl, rfl, rfl⟩
 | p :: m, i + 1, h => by
  have e : cellsO (p :: m) = .bool p.1.1 :: p.2.1 :: p.2.2 :: cellsO m := rfl
  obtain ⟨a, b, c⟩ := cellsO_at m i (by simpa using h)
  rw [e, show (i + 1) * 3 = i * 3 + 1 + 1 + 1 by omega]
  exact ⟨a, b, c⟩
theorem fdOf_at {W w : World} {l : List LF} {vs : Nat → Value} {rs : Nat → RowD} {Ls : Nat → List R} {m : List OV} (h : SRe l vs 6 rs Ls m) (r : Rws w (W.heap.size + 3) 9 rs) (ro : ReadsO w (W.heap.size + 3) 9 rs m) : FdAt w (.agg #[(rs 8).v, (rs 7).v]) (fdOf l Ls) := by
 refine ⟨_, _, rfl, ?_, ?_⟩
 ·have o8 := r.own 8 (by decide)
  rw [h.li] at o8
  simp only at o8
  obtain ⟨g, cap, ev, hg, _⟩ := o8.form (by decide)
  rw [ev] at o8 ⊢
  refine ⟨g, cap, by simp [fdOf], fun i hi => ?_⟩
  simp only [fdOf, List.length_map, List.length_range] at hi
  have c := o8.cellAt i (by omega)
  have ow := r.own i (by omega)
  rw [(h.dn i hi).1] at ow
  refine ⟨(rs i).v, ?_, ?_⟩
  ·rw [c, List.getElem?_map, List.getElem?_range hi]
   rfl
  ·have e : ((fdOf l Ls).ls.getD i []) = Ls i := by
    simp [fdOf, List.getD_eq_getElem?_getD, List.getElem?_range hi]
   rw [e]
   exact runsAt_own ow
 ·have o7 := r.own 7 (by decide)
  rw [h.lo] at o7
  simp only at o7
  have el : (fdOf l Ls).lo.length = m.length := by show (loL l).length = _; rw [← h.ms]; simp
  by_cases h0 : m.length = 0
  ·obtain ⟨ad, c, e⟩ := own_sliceK o7
   rcases o7.2 with ⟨e2, _⟩ | ⟨g, cap, cur, e2, _⟩
   ·rw [e2]
    exact .inl ⟨0, rfl, List.length_eq_zero_iff.1 (by rw [el]; exact h0)⟩
   ·rw [e2]
    exact .inr ⟨g, cap, by rw [el], fun i hi => by rw [el, h0] at hi; omega⟩
  ·obtain ⟨g, cap, ev, hg, _⟩ := o7.form (by omega)
   rw [ev] at o7 ⊢
   refine .inr ⟨g, cap, by rw [el], fun i hi => ?_⟩
   rw [el] at hi
   have em : (fdOf l Ls).lo.getD i (false, [], []) = (m[i]'hi).1 := by
    show (loL l).getD i (false, [], []) = _
    rw [← h.ms]
    simp [List.getD_eq_getElem?_getD, hi]
   obtain ⟨p1, p2⟩ := ro _ (List.getElem_mem hi)
   rw [em]
   obtain ⟨q0, q1, q2⟩ := cellsO_at m i hi
   refine ⟨_, _, ?_, ?_, ?_, p1.own.runs, p2.own.runs⟩
   ·rw [o7.cellAt (i * 3) (by omega)]; exact q0
   ·rw [o7.cellAt (i * 3 + 1) (by omega)]; exact q1
   ·rw [o7.cellAt (i * 3 + 2) (by omega)]; exact q2
end Go.Proofs.YtamdjbpgkiekcaaGreatDoor
