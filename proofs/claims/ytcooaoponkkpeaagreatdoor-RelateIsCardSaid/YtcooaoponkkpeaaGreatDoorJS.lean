import Derived.Test.YtcooaoponkkpeaaGreatDoorGBa
import Derived.OneCell
import Derived.Test.YtcooaoponkkpeaaGreatDoorJB
import Derived.Laws.StructEq
import Derived.Laws.IdiomCopy
import Derived.LoopTactic
import Derived.Shelf.RegionOpen
import Derived.Test.YtcooaoponkkpeaaGreatDoorGSoC
import Derived.Shelf.SlSortCmp.WholeK
import Derived.Shelf.SlSortCmp.NoneTotal
import Derived.Shelf.SlicesG.Cmp
import Derived.Shelf.Lay
import Derived.Ground.SlsfProg
import Derived.Ground.SlgcProg
set_option maxHeartbeats 16000000
set_option maxRecDepth 100000
namespace Go.Proofs.YtcooaoponkkpeaaGreatDoor
open Go.RowKit Go.Shelf
set_option linter.unusedVariables false
set_option linter.unusedSimpArgs false
theorem own_farR {w w' : World} {base : Nat} {e : TypeId} {size : Nat} {v : Value} {n : Nat} {xs : List Value} {row : Option Nat} (h : w.ownsRow base e size v n xs) (g : w.grownBy w' row) (hn : ∀ j, row = some j → v.ownBlock ≠ some j) : w'.ownsRow base e size v n xs :=
 h.kept g (by
  cases hv : v.ownBlock with
  | none => exact .inl rfl
  | some k => exact .inr fun e => hn k e.symm hv)
structure RowD where
 t : TypeId
 k : Nat
 v : Value
 n : Nat
 xs : List Value
structure Rws (w : World) (base n : Nat) (rs : Nat → RowD) : Prop where
 own : ∀ i, i < n → w.ownsRow base (rs i).t (rs i).k (rs i).v (rs i).n (rs i).xs
 apart : ∀ i j, i < n → j < n → i ≠ j → ∀ b, (rs i).v.ownBlock = some b → (rs j).v.ownBlock ≠ some b
def putD (rs : Nat → RowD) (i : Nat) (r : RowD) : Nat → RowD := fun x => if x = i then r else rs x
theorem putD_at (rs : Nat → RowD) (i : Nat) (r : RowD) : putD rs i r i = r := if_pos rfl
theorem putD_ne (rs : Nat → RowD) {i x : Nat} (r : RowD) (h : x ≠ i) : putD rs i r x = rs x := if_neg h
theorem Rws.kp {w w' : World} {base n : Nat} {rs : Nat → RowD} (h : Rws w base n rs) (k : Kp w w') : Rws w' base n rs := ⟨fun i hi => own_kp (h.own i hi) k, h.apart⟩
theorem Rws.lt {w : World} {base n : Nat} {rs : Nat → RowD} (h : Rws w base n rs) {i : Nat} (hi : i < n) : ∀ b, (rs i).v.ownBlock = some b → base ≤ b ∧ b < w.heap.size := (h.own i hi).lt
theorem Rws.put {w w' : World} {base n : Nat} {rs : Nat → RowD} (h : Rws w base n rs) {i : Nat} (hi : i < n) {r : RowD} (own : w'.ownsRow base r.t r.k r.v r.n r.xs) (g : w.grownBy w' (rs i).v.ownBlock) (at_ : r.v.ownBlock = (rs i).v.ownBlock ∨ r.v.ownBlock = none ∨ ∃ b, r.v.ownBlock = some b ∧ w.heap.size ≤ b) :
  Rws w' base n (putD rs i r) := by
 have far : ∀ j, j < n → j ≠ i → ∀ b, r.v.ownBlock = some b → (rs j).v.ownBlock ≠ some b := by
  intro j hj hne b hb e
  rcases at_ with a | a | ⟨c, a, hc⟩
  ·rw [a] at hb
   exact h.apart i j hi hj (fun e => hne e.symm) b hb e
  ·rw [a] at hb; cases hb
  ·rw [a] at hb
   cases hb
   have := (h.lt hj _ e).2
   omega
 refine ⟨fun j hj => ?_, fun j m hj hm hne b hb e => ?_⟩
 ·by_cases e : j = i
  ·subst e; rw [putD_at]; exact own
  ·rw [putD_ne _ _ e]
   exact own_farR (h.own j hj) g fun b hb e2 => h.apart i j hi hj (fun e3 => e e3.symm) b hb e2
 ·by_cases e1 : j = i
  ·subst e1
   rw [putD_at] at hb
   rw [putD_ne _ _ (fun e3 => hne e3.symm)] at e
   exact far m hm (fun e3 => hne e3.symm) b hb e
  ·rw [putD_ne _ _ e1] at hb
   by_cases e2 : m = i
   ·subst e2
    rw [putD_at] at e
    exact far j hj e1 b e hb
   ·rw [putD_ne _ _ e2] at e
    exact h.apart j m hj hm hne b hb e
theorem Rws.setCell {w : World} {base n : Nat} {rs : Nat → RowD} (h : Rws w base n rs) {a : Addr} (ha : a.block < base) (u : Value) : Rws (w.setCell a u) base n rs := ⟨fun i hi => ownsRow_setCell_below (h.own i hi) ha u, h.apart⟩
theorem cellsR_set : ∀ (X : List R) (i : Nat) (q : R), ((cellsR X).set (i * 2) (.int .i64 q.1)).set (i * 2 + 1) (.int .i64 q.2) = cellsR (X.set i q)
 | [], i, q => by simp [cellsR]
 | x :: X, 0, q => by simp [cellsR]
 | x :: X, i + 1, q => by
  have ih := cellsR_set X i q
  have e : ∀ (y : R) (Y : List R), cellsR (y :: Y) = .int .i64 y.1 :: .int .i64 y.2 :: cellsR Y := fun y Y => rfl
  rw [List.set_cons_succ, e, e, ← ih, show (i + 1) * 2 = i * 2 + 1 + 1 by omega, show i * 2 + 1 + 1 + 1 = (i * 2 + 1) + 1 + 1 by omega]
  simp only [List.set_cons_succ]
theorem own_set2 {w : World} {base : Nat} {e : TypeId} {b cap n : Nat} {X : List R} (h : w.ownsRow base e 2 (.slice (some ⟨b, 0, none⟩) n cap) n (cellsR X)) (i : Nat) (q : R) :
  ((w.setCell ⟨b, i * 2, none⟩ (.int .i64 q.1)).setCell ⟨b, i * 2 + 1, none⟩ (.int .i64 q.2)).ownsRow base e 2 (.slice (some ⟨b, 0, none⟩) n cap) n (cellsR (X.set i q)) ∧ w.grownBy ((w.setCell ⟨b, i * 2, none⟩ (.int .i64 q.1)).setCell ⟨b, i * 2 + 1, none⟩ (.int .i64 q.2)) (some b) := by
 have s1 := h.stored (i * 2) (.int .i64 q.1)
 have s2 := s1.1.stored (i * 2 + 1) (.int .i64 q.2)
 rw [cellsR_set] at s2
 exact ⟨s2.1, s1.2.trans s2.2⟩
theorem pair_same (a b : Int) (w : World) : Sem.run Tryz.prog (binOp .eql 31 (.agg #[.int .i64 a, .int .i64 b]) (.agg #[.int .i64 a, .int .i64 b])) w = .ok (.bool true) w := by
 have u3 := Tryz.underlying3
 have a3 := Tryz.isAgg3
 have z3 := Tryz.sizeOf3
 have hS : Tryz.prog.underlying 31 = some (.struct (Tryz.prog.fieldsOf 31)) := by kernel_rfl
 have hp : Tryz.prog.stoodInHeld 31 = false := by kernel_rfl
 rw [run_eql_struct, show (10000 : Nat) = 9999 + 1 from rfl, run_equalIn_agg w 9999 31 _ _ hS hp]
 simp only [Program.fieldsOf, Tryz.underlying31]
 go_simp
theorem pair_eq (a b c d : Int) (w : World) : (Op.equalIn 10000 31 (.agg #[.int .i64 a, .int .i64 b]) (.agg #[.int .i64 c, .int .i64 d])).run Tryz.prog w = .ok (a == c && b == d) w := by
 have u3 := Tryz.underlying3
 have a3 := Tryz.isAgg3
 have z3 := Tryz.sizeOf3
 have hS : Tryz.prog.underlying 31 = some (.struct (Tryz.prog.fieldsOf 31)) := by kernel_rfl
 have hp : Tryz.prog.stoodInHeld 31 = false := by kernel_rfl
 rw [show (10000 : Nat) = 9999 + 1 from rfl, run_equalIn_agg w 9999 31 _ _ hS hp]
 simp only [Program.fieldsOf, Tryz.underlying31]
 go_simp
 by_cases h1 : a = c <;> by_cases h2 : b = d <;> simp [h1, h2]
theorem pair_eql (a b c d : Int) (w : World) : Sem.run Tryz.prog (binOp .eql 31 (.agg #[.int .i64 a, .int .i64 b]) (.agg #[.int .i64 c, .int .i64 d])) w = .ok (.bool (a == c && b == d)) w := by
 rw [run_eql_struct, pair_eq]
 rfl
theorem pair_neq (a b c d : Int) (w : World) : Sem.run Tryz.prog (binOp .neq 31 (.agg #[.int .i64 a, .int .i64 b]) (.agg #[.int .i64 c, .int .i64 d])) w = .ok (.bool (!(a == c && b == d))) w := by
 rw [run_neq_struct, pair_eq]
 rfl
theorem pair_guard (op : BinOp) (x y : Operand) (xs ys : Array Value) (w : World) : (eqGuard op 31 x y (.agg xs) (.agg ys)).run Tryz.prog w = .ok () w := run_eqGuard_agg w op _ x y xs ys (by kernel_rfl)
theorem zeros2 (a b : Value) (n : Nat) : (Builtin.zeroCells #[a, b] n).toList.length = n * 2 ∧ ∀ v ∈ (Builtin.zeroCells #[a, b] n).toList, v = a ∨ v = b := by
 constructor
 ·simp [Builtin.zeroCells]
 ·intro v hv
  simp only [Builtin.zeroCells, Array.toList_map, List.mem_map] at hv
  obtain ⟨i, _, rfl⟩ := hv
  have : i % 2 = 0 ∨ i % 2 = 1 := by omega
  rcases this with e | e <;> simp [e]
theorem run_clear2 (w : World) (ty : TypeId) (b o n c : Nat) (hn : 0 < n) (hc : ∀ j, j < n * 2 → (w.cell? ⟨b, o + j, none⟩).isSome = true) (hf : ∀ j, j < n * 2 → w.frozen? ⟨b, o + j, none⟩ = false) :
  (Builtin.clear_ #[77] ty #[.slice (some ⟨b, o, none⟩) n c]).run Tryz.prog w = .ok (.tuple #[]) (w.setCells b o (Builtin.zeroCells #[.int .i64 0, .int .i64 0] n).toList) := by
 have hv := fun w => Tryz.zeroValue31 w
 obtain ⟨z1, z2⟩ := zeros2 (.int .i64 0) (.int .i64 0) n
 have hst := run_storeCells_cells (P := Tryz.prog) b o (Builtin.zeroCells #[.int .i64 0, .int .i64 0] n).toList 0 w (by rw [z1]; simpa using hc) (by rw [z1]; simpa using hf) (by intro v hv'; rcases z2 v hv' with rfl | rfl <;> rfl)
 simp only [Nat.add_zero] at hst
 obtain ⟨m, rfl⟩ : ∃ m, n = m + 1 := ⟨n - 1, by omega⟩
 have hcl : Value.cells (.agg #[.int .i64 0, .int .i64 0]) = #[.int .i64 0, .int .i64 0] := rfl
 simp [Builtin.clear_, run_underlying Tryz.underlying77, hv, hcl, hst]
structure CInv (L : List R) (m k : Nat) (X : List R) : Prop where
 len : X.length = L.length
 lt : k < m
 high : ∀ i, m - 1 ≤ i → i < L.length → at_ X i = at_ L i
 mem : ∀ p, p ∈ X.take k ↔ p ∈ L.take m
 rise : riseP (X.take k)
theorem take_mem {L : List R} {m : Nat} (h : m < L.length) (p : R) : p ∈ L.take (m + 1) ↔ p ∈ L.take m ∨ p = at_ L m := by
 rw [take_at L m h]
 simp
theorem atC_take {L : List R} {m i : Nat} (hi : i < m) (h : i < L.length) : at_ L i ∈ L.take m := by
 have e : at_ L i = L[i] := by simp [at_, List.getD, h]
 rw [e]
 rw [List.mem_take_iff_getElem]
 exact ⟨i, by omega, rfl⟩
theorem riseP_take {L : List R} (h : riseP L) (k : Nat) : riseP (L.take k) := List.Pairwise.sublist (List.take_sublist _ _) h
theorem CInv.start {L : List R} {k : Nat} (hr : riseP L) (h1 : 1 ≤ k) (hk : k < L.length) (e : at_ L k = at_ L (k - 1)) : CInv L (k + 1) k L := by
 refine ⟨rfl, by omega, fun _ _ _ => rfl, fun p => ?_, riseP_take hr k⟩
 rw [take_mem hk, e]
 exact ⟨.inl, fun h => h.elim id fun h => by rw [h]; exact atC_take (by omega) (by omega)⟩
theorem CInv.skip {L X : List R} {m k : Nat} (h : CInv L m k X) (h1 : 1 ≤ m) (hm : m < L.length) (e : at_ L m = at_ L (m - 1)) : CInv L (m + 1) k X := by
 have := h.lt
 refine ⟨h.len, by omega, fun i hi hl => h.high i (by omega) hl, fun p => ?_, h.rise⟩
 rw [take_mem hm, h.mem p, e]
 exact ⟨.inl, fun g => g.elim id fun g => by rw [g]; exact atC_take (by omega) (by omega)⟩
theorem CInv.keep {L X : List R} {m k : Nat} (h : CInv L m k X) (hr : riseP L) (hm : m < L.length) : CInv L (m + 1) (k + 1) (X.set k (at_ L m)) := by
 have hl := h.lt
 have hk : k < X.length := by rw [h.len]; omega
 have e : (X.set k (at_ L m)).take (k + 1) = X.take k ++ [at_ L m] := by
  rw [List.take_succ_eq_append_getElem (by simpa using hk), List.take_set, List.set_eq_of_length_le (by rw [List.length_take]; omega)]
  simp
 refine ⟨by simpa using h.len, by omega, fun i hi hl2 => ?_, fun p => ?_, ?_⟩
 ·have : at_ (X.set k (at_ L m)) i = at_ X i := by
   unfold at_
   rw [List.getD_eq_getElem?_getD, List.getElem?_set_ne (by omega), ← List.getD_eq_getElem?_getD]
  rw [this]
  exact h.high i (by omega) hl2
 ·rw [e, List.mem_append, List.mem_singleton, h.mem p, take_mem hm]
 ·rw [e]
  unfold riseP
  rw [List.pairwise_append]
  refine ⟨h.rise, List.pairwise_singleton _ _, fun a ha q hq => ?_⟩
  rw [List.mem_singleton.1 hq]
  obtain ⟨i, hi, ei⟩ := List.mem_take_iff_getElem.1 ((h.mem a).1 ha)
  have e2 : a = at_ L i := by rw [← ei]; simp [at_, List.getD, show i < L.length by omega]
  rw [e2]
  exact riseP_at hr (by omega) hm
theorem own_sets {base : Nat} {e : TypeId} {b cap n size : Nat} : ∀ (vs : List Value) (o : Nat) (w : World) (xs : List Value), w.ownsRow base e size (.slice (some ⟨b, 0, none⟩) n cap) n xs → ∃ ys, (w.setCells b o vs).ownsRow base e size (.slice (some ⟨b, 0, none⟩) n cap) n ys ∧ ys.take o = xs.take o
 | [], o, w, xs, h => ⟨xs, h, rfl⟩
 | v :: vs, o, w, xs, h => by
  obtain ⟨ys, h1, h2⟩ := own_sets vs (o + 1) _ _ (h.stored o v).1
  refine ⟨ys, h1, ?_⟩
  have := congrArg (List.take o) h2
  rw [List.take_take, List.take_take, Nat.min_eq_left (by omega), List.take_set, List.set_eq_of_length_le (by rw [List.length_take]; omega)] at this
  exact this
theorem own_short {w : World} {base : Nat} {e : TypeId} {b cap n k size : Nat} {xs : List Value} (h : w.ownsRow base e size (.slice (some ⟨b, 0, none⟩) n cap) n xs) (hk : k ≤ n) : w.ownsRow base e size (.slice (some ⟨b, 0, none⟩) k cap) k (xs.take (k * size)) := by
 have hm := Nat.mul_le_mul_right size hk
 refine ⟨by rw [List.length_take, h.1]; omega, ?_⟩
 rcases h.2 with ⟨h', _⟩ | ⟨g', cap', cur, h', h1, h2, h3, h4, h5, h6⟩
 ·simp at h'
 ·simp only [Value.slice.injEq, Option.some.injEq, Addr.mk.injEq, and_true, true_and] at h'
  obtain ⟨rfl, rfl⟩ := h'
  exact .inr ⟨b, cap, cur, rfl, h1, h2, by omega, h4, h5, by rw [← h6, List.take_take, Nat.min_eq_left hm]⟩
theorem cellsR_take : ∀ (X : List R) (k : Nat), (cellsR X).take (k * 2) = cellsR (X.take k)
 | [], k => by simp [cellsR]
 | x :: X, 0 => by simp [cellsR]
 | x :: X, k + 1 => by
  have ih := cellsR_take X k
  have e : ∀ (y : R) (Y : List R), cellsR (y :: Y) = .int .i64 y.1 :: .int .i64 y.2 :: cellsR Y := fun y Y => rfl
  rw [List.take_succ_cons, e, e, ← ih, show (k + 1) * 2 = k * 2 + 1 + 1 by omega]
  rfl
theorem clear_far (w : World) (b : Nat) : ∀ (vs : List Value) (o : Nat), w.grownBy (w.setCells b o vs) (some b)
 | [], _ => ⟨rfl, rfl, rfl, Nat.le_refl _, fun _ _ _ => rfl⟩
 | v :: vs, o => by
  have h1 : w.grownBy (w.setCell ⟨b, o, none⟩ v) (some b) := ⟨rfl, rfl, rfl, by simp [World.setCell], fun k hk hne => Below.heap_setCell _ _ _ _ (fun e => hne (by rw [e]))⟩
  exact h1.trans (clear_far _ b vs (o + 1))
def CPost (w : World) (base : Nat) (e : TypeId) (b cap : Nat) (L : List R) (w' : World) (v' : Value) : Prop := ∃ L', v' = .slice (some ⟨b, 0, none⟩) L'.length cap ∧ L'.length ≤ L.length ∧ (∀ p, p ∈ L' ↔ p ∈ L) ∧ riseP L' ∧ w'.ownsRow base e 2 v' L'.length (cellsR L') ∧ w.grownBy w' (some b)
theorem CPost.same {w w' : World} {base b cap : Nat} {L : List R} {e : TypeId} (h : w'.ownsRow base e 2 (.slice (some ⟨b, 0, none⟩) L.length cap) L.length (cellsR L)) (hr : riseP L) (g : w.grownBy w' (some b)) : CPost w base e b cap L w' (.slice (some ⟨b, 0, none⟩) L.length cap) :=
 ⟨L, rfl, Nat.le_refl _, fun _ => Iff.rfl, hr, h, g⟩
theorem CPost.cut {w wr : World} {base b cap k : Nat} {L X : List R} {e : TypeId} (h : wr.ownsRow base e 2 (.slice (some ⟨b, 0, none⟩) L.length cap) L.length (cellsR X)) (c : CInv L L.length k X) (g : w.grownBy wr (some b)) (vs : List Value) : CPost w base e b cap L (wr.setCells b (k * 2) vs) (.slice (some ⟨b, 0, none⟩) k cap) := by
 have hl : (X.take k).length = k := by have := c.lt; have := c.len; rw [List.length_take]; omega
 obtain ⟨ys, h1, h2⟩ := own_sets vs (k * 2) wr _ h
 have h3 := own_short (k := k) h1 (by have := c.lt; omega)
 rw [h2, cellsR_take] at h3
 exact ⟨X.take k, by rw [hl], by have := c.lt; omega, fun p => by rw [c.mem p, List.take_length], c.rise, by rw [hl]; exact h3, g.trans (clear_far _ b vs _)⟩
theorem compact_any {base b cap : Nat} (L : List R) (w : World) (h : w.ownsRow base 31 2 (.slice (some ⟨b, 0, none⟩) L.length cap) L.length (cellsR L)) (hr : riseP L) (hn : L.length ≤ 1000000) :
  Calls Tryz.prog 57 #[.slice (some ⟨b, 0, none⟩) L.length cap] w fun e w' => ∃ v', e = .returned v' ∧ CPost w base 31 b cap L w' v' := by
 have hcap : L.length ≤ cap := by
  rcases h.2 with ⟨h', _⟩ | ⟨g', cap', cur, h', _, _, hnc, hcm, _⟩
  ·simp at h'
  ·simp only [Value.slice.injEq, Option.some.injEq, Addr.mk.injEq, and_true, true_and] at h'
   obtain ⟨rfl, rfl⟩ := h'
   exact hnc
 have eqT := pair_same
 have eqF := pair_eql
 have neF := pair_neq
 have hgd := pair_guard
 have LL := Hd (fun (X : List R) (hX : L.length = X.length) => hX)
 have H := Hd h
 have HR := Hd hr
 clear h hr
 obtain ⟨n, hnn⟩ : ∃ n, L.length = n := ⟨_, rfl⟩
 rw [hnn] at hn hcap H ⊢
 have HN := Hd hnn
 clear hnn LL
 have HP := Hd (fun (w' : World) (v' : Value) (c : CPost w base 31 b cap L w' v') => c)
 by_cases h2 : n < 2
 ·have q0 : decide ((n : Int) < 2) = true := dT
  go_enter Tryz.func57, Tryz.ntmps57
  go_wp2
  go_ret
  refine ⟨_, rfl, ?_⟩
  have H' := H.out
  rw [← HN.out] at H' ⊢
  exact CPost.same H' HR.out ⟨rfl, rfl, rfl, Nat.le_refl _, fun _ _ _ => rfl⟩
 ·have q0 : decide ((n : Int) < 2) = false := dF
  go_enter Tryz.func57, Tryz.ntmps57
  go_wp2
  go_loopw [3] (fun s3 wr => ∃ k : Nat, 1 ≤ k ∧ k ≤ n ∧ s3 = .int .i64 k ∧ Hid (Kp w wr)) (fun s3 _ => n - (intOf s3).toNat)
  case atStart => exact ⟨1, by omega, by omega, rfl, Hd (Kp.refl _)⟩
  case round =>
   obtain ⟨k, hk1, hk, rfl, K1⟩ := hrel
   by_cases hlt : k < n
   ·have q1 : decide ((k : Int) < (n : Int)) = true := dT
    have hb1 := own_kp H.out K1.out
    have c1 := hb1.cellAt (k * 2) (by omega)
    have c2 := hb1.cellAt (k * 2 + 1) (by omega)
    have c3 := hb1.cellAt ((k - 1) * 2) (by omega)
    have c4 := hb1.cellAt ((k - 1) * 2 + 1) (by omega)
    rw [cells_idx L _ (by have := HN.out; omega)] at c1 c2 c3 c4
    rw [show (k * 2) % 2 = 0 by omega, show k * 2 / 2 = k by omega] at c1
    rw [show (k * 2 + 1) % 2 = 1 by omega, show (k * 2 + 1) / 2 = k by omega] at c2
    rw [show ((k - 1) * 2) % 2 = 0 by omega, show (k - 1) * 2 / 2 = k - 1 by omega] at c3
    rw [show ((k - 1) * 2 + 1) % 2 = 1 by omega, show ((k - 1) * 2 + 1) / 2 = k - 1 by omega] at c4
    simp only [if_true, if_neg (show ¬ (1 : Nat) = 0 by omega)] at c1 c2 c3 c4
    have E := Hd (show (at_ L k = at_ L (k - 1)) ∨ ¬ (at_ L k = at_ L (k - 1)) from Classical.em _)
    obtain ⟨x, hx⟩ : ∃ x, at_ L k = x := ⟨_, rfl⟩
    obtain ⟨y, hy⟩ : ∃ y, at_ L (k - 1) = y := ⟨_, rfl⟩
    rw [hx] at c1 c2
    rw [hy] at c3 c4
    have XY := Hd (And.intro hx hy)
    clear hx hy hb1 E
    obtain ⟨xs, xt⟩ := x
    obtain ⟨ys, yt⟩ := y
    simp only at c1 c2 c3 c4
    have wk : IntKind.i64.wrap ((k : Int) - 1) = ((k - 1 : Nat) : Int) := by rw [IntKind.wrap_i64]; omega
    have q2 : decide (k < n) = true := decide_eq_true hlt
    have z1 : ((k - 1 : Nat) : Int) < (n : Int) := by omega
    have z2 : (0 : Int) ≤ ((k - 1 : Nat) : Int) := by omega
    have z3 : (k : Int) < (n : Int) := by omega
    have OW := Hd (own_kp H.out K1.out)
    have GB := Hd (show w.grownBy wr (some b) from ⟨K1.out.os, K1.out.tape, K1.out.output, K1.out.size, fun i hi _ => K1.out.block i hi⟩)
    by_cases hd : xs = ys ∧ xt = yt
    ·obtain ⟨rfl, rfl⟩ := hd
     have e1 : (xs == xs && xt == xt) = true := by simp
     go_wp2_with fail
     go_quiet (fail)
     go_wp2
     have CI := Hd (CInv.start HR.out hk1 (by rw [HN.out]; exact hlt) (by rw [XY.out.1, XY.out.2]))
     clear c1 c2 c3 c4 XY e1 wk z1 z2 q2 q1
     go_loopw [3, 5] (fun s3 s5 ws => ∃ (kk k2 : Nat) (X : List R), 1 ≤ k2 ∧ k + k2 ≤ n ∧ kk < k + k2 ∧ s3 = .int .i64 kk ∧ s5 = .int .i64 k2 ∧ Hid (CInv L (k + k2) kk X) ∧ Hid (ws.ownsRow base 31 2 (.slice (some ⟨b, 0, none⟩) n cap) n (cellsR X)) ∧ Hid (w.grownBy ws (some b))) (fun _ s5 _ => n - (intOf s5).toNat)
     case atStart => exact ⟨k, 1, L, by omega, by omega, by omega, rfl, rfl, CI, Hd (own_kp OW.out kx), Hd (GB.out.trans ⟨rfl, rfl, rfl, Nat.le_refl _, fun _ _ _ => rfl⟩)⟩
     case round =>
      obtain ⟨kk, k2, X, h1, hle, hlt3, rfl, rfl, CJ, O, G⟩ := hrel
      obtain ⟨ws, hws⟩ : ∃ x, x = wr := ⟨_, rfl⟩
      subst hws
      by_cases hlt2 : k + k2 < n
      ·have bo : ∀ j : Nat, j < n → ws.cell? ⟨b, j * 2, none⟩ = some (.int .i64 (at_ X j).1) ∧ ws.cell? ⟨b, j * 2 + 1, none⟩ = some (.int .i64 (at_ X j).2) ∧ ws.frozen? ⟨b, j * 2, none⟩ = false ∧ ws.frozen? ⟨b, j * 2 + 1, none⟩ = false := by
        intro j hj
        have hX : X.length = n := CJ.out.len.trans HN.out
        have a1 := O.out.cellAt (j * 2) (by omega)
        have a2 := O.out.cellAt (j * 2 + 1) (by omega)
        rw [cells_idx X _ (by omega)] at a1 a2
        rw [show (j * 2) % 2 = 0 by omega, show j * 2 / 2 = j by omega] at a1
        rw [show (j * 2 + 1) % 2 = 1 by omega, show (j * 2 + 1) / 2 = j by omega] at a2
        simp only [if_true, if_neg (show ¬ (1 : Nat) = 0 by omega)] at a1 a2
        exact ⟨a1, a2, O.out.frozenAt _, O.out.frozenAt _⟩
       have e1 : at_ X (k + k2) = at_ L (k + k2) := CJ.out.high _ (by omega) (by rw [HN.out]; omega)
       have e2 : at_ X (k + k2 - 1) = at_ L (k + k2 - 1) := CJ.out.high _ (by omega) (by rw [HN.out]; omega)
       obtain ⟨c1, c2, -, -⟩ := bo (k + k2) hlt2
       obtain ⟨c3, c4, -, -⟩ := bo (k + k2 - 1) (by omega)
       obtain ⟨c5, c6, f1, f2⟩ := bo kk (by omega)
       rw [e1, show (k + k2) * 2 = k * 2 + k2 * 2 by omega] at c1 c2
       rw [e2, show (k + k2 - 1) * 2 = k * 2 + (k2 - 1) * 2 by omega] at c3 c4
       have SKP := Hd (fun (q : at_ L (k + k2) = at_ L (k + k2 - 1)) => CJ.out.skip (by omega) (by rw [HN.out]; exact hlt2) q)
       have KEP := Hd (CJ.out.keep HR.out (by rw [HN.out]; exact hlt2))
       have OK2 := Hd (fun nq => And.intro (own_set2 (own_kp O.out (Kp.drewN ws nq)) kk (at_ L (k + k2))).1 ((show ws.grownBy (ws.drewN nq) (some b) from ⟨rfl, rfl, rfl, Nat.le_refl _, fun _ _ _ => rfl⟩).trans (own_set2 (own_kp O.out (Kp.drewN ws nq)) kk (at_ L (k + k2))).2))
       clear bo e1 e2
       obtain ⟨x, hx⟩ : ∃ x, at_ L (k + k2) = x := ⟨_, rfl⟩
       obtain ⟨y, hy⟩ : ∃ y, at_ L (k + k2 - 1) = y := ⟨_, rfl⟩
       rw [hx] at c1 c2 KEP OK2 SKP
       rw [hy] at c3 c4 SKP
       clear hx hy
       generalize (at_ X kk).1 = o1 at c5
       generalize (at_ X kk).2 = o2 at c6
       obtain ⟨xs, xt⟩ := x
       obtain ⟨ys, yt⟩ := y
       simp only at c1 c2 c3 c4 OK2
       have wk : IntKind.i64.wrap ((k2 : Int) - 1) = ((k2 - 1 : Nat) : Int) := by rw [IntKind.wrap_i64]; omega
       have q2 : decide (k2 < n - k) = true := dT
       have q1 : decide ((k2 : Int) < ((n - k : Nat) : Int)) = true := dT
       have z1 : ((k2 - 1 : Nat) : Int) < ((n - k : Nat) : Int) := by omega
       have z2 : (0 : Int) ≤ ((k2 - 1 : Nat) : Int) := by omega
       have z3 : (k2 : Int) < ((n - k : Nat) : Int) := by omega
       have z4 : (kk : Int) < (n : Int) := by omega
       have z5 : (0 : Int) ≤ (kk : Int) := by omega
       by_cases hd : xs = ys ∧ xt = yt
       ·obtain ⟨rfl, rfl⟩ := hd
        have e1 : (!(xs == xs && xt == xt)) = false := by simp
        have SK2 := Hd (SKP.out rfl)
        clear SKP KEP OK2
        go_wp2_with fail
        go_quiet (fail)
        go_wp2
        go_roundw
        case rel => exact ⟨kk, k2 + 1, X, by omega, by omega, by omega, rfl, by go_num, SK2, Hd (own_kp O.out kx), Hd (G.out.trans ⟨rfl, rfl, rfl, Nat.le_refl _, fun _ _ _ => rfl⟩)⟩
        case measure => simp [intOf]; omega
       ·have e1 : (!(xs == ys && xt == yt)) = true := by
         cases h : (xs == ys && xt == yt) with
         | false => rfl
         | true => simp at h; exact absurd h hd
        go_wp2_with fail
        go_quiet (fail)
        go_wp2
        go_roundw
        case rel => exact ⟨kk + 1, k2 + 1, X.set kk (xs, xt), by omega, by omega, by omega, by go_num, by go_num, KEP, Hd (OK2.out _).1, Hd (G.out.trans (OK2.out _).2)⟩
        case measure => simp [intOf]; omega
      ·have hend : k + k2 = n := by omega
       have hn2 : L.length = n := HN.out
       have hcl : ∀ ty, (Builtin.clear_ #[77] ty #[.slice (some ⟨b, kk * 2, none⟩) (n - kk) (cap - kk)]).run Tryz.prog ws = .ok (.tuple #[]) (ws.setCells b (kk * 2) (Builtin.zeroCells #[.int .i64 0, .int .i64 0] (n - kk)).toList) :=
        fun ty => run_clear2 ws ty b (kk * 2) (n - kk) _ (by omega) (fun j hj => by
         have hX : X.length = n := CJ.out.len.trans HN.out
         rw [O.out.cellAt (kk * 2 + j) (by omega), cells_idx X _ (by omega)]
         rfl) fun j hj => O.out.frozenAt _
       have CF := Hd (fun zs => CPost.cut (k := kk) (L := L) (X := X) (cap := cap) (by rw [hn2]; exact O.out) (by rw [hn2, ← hend]; exact CJ.out) G.out zs)
       generalize (Builtin.zeroCells #[.int .i64 0, .int .i64 0] (n - kk)).toList = zs at hcl
       have CF2 := Hd (CF.out zs)
       have q2 : decide (k2 < n - k) = false := dF
       have q1 : decide ((k2 : Int) < ((n - k : Nat) : Int)) = false := dF
       have z4 : (kk : Int) < (n : Int) := by omega
       have z5 : (0 : Int) ≤ (kk : Int) := by omega
       clear hend hn2 CF
       go_wp2
       go_ret
       exact ⟨_, rfl, CF2.out⟩
    ·have e1 : (xs == ys && xt == yt) = false := by
      rw [Bool.eq_false_iff]
      intro h
      simp at h
      exact hd h
     go_wp2_with fail
     go_quiet (fail)
     go_wp2
     go_roundw
     case rel => exact ⟨k + 1, by omega, by omega, by go_num, Hd (K1.out.trans kx)⟩
     case measure => simp [intOf]; omega
   ·have q1 : decide ((k : Int) < (n : Int)) = false := dF
    go_wp2
    go_ret
    refine ⟨_, rfl, ?_⟩
    have H' := own_kp H.out K1.out
    rw [← HN.out] at H' ⊢
    exact CPost.same H' HR.out ⟨K1.out.os, K1.out.tape, K1.out.output, K1.out.size, fun i hi _ => K1.out.block i hi⟩
end Go.Proofs.YtcooaoponkkpeaaGreatDoor
namespace Go.Proofs
open Go.Shelf
shelf_lay_g SlLaysF0.n6 Slsf 6 at Tryz 54 as Tryz.sortPr
shelf_lay_g SlLaysC2.n5 Slgc 5 at Tryz 56 as Tryz.cmpPr
end Go.Proofs
namespace Go.Proofs.YtcooaoponkkpeaaGreatDoor
open Go.RowKit Go.Sort Go.Shelf Go.Lib
set_option linter.unusedVariables false
set_option linter.unusedSimpArgs false
theorem ltLo (x y : R) : ltOf (fun x y : R => Lib.compareInt x.1 y.1) x y = decide (x.1 < y.1) := by
 unfold ltOf Lib.compareInt
 by_cases h1 : x.1 < y.1
 ·simp [h1]
 ·by_cases h2 : y.1 < x.1 <;> simp [h1, h2]
theorem swoLo : SWO (ltOf fun x y : R => Lib.compareInt x.1 y.1) where
 irrefl x := by rw [ltLo]; simp
 trans x y z h1 h2 := by rw [ltLo] at *; simp at *; omega
 ntrans x y z h1 h2 := by rw [ltLo] at *; simp at *; omega
theorem clo_pair (x y : R) (W : World) : Calls Tryz.prog 55 #[.agg #[.int .i64 x.1, .int .i64 x.2], .agg #[.int .i64 y.1, .int .i64 y.2]] W fun e w' => e = .returned (.int .i64 (Lib.compareInt x.1 y.1)) ∧ ∃ q os', w' = grow (W.drewN q) os' := by
 have hcon := fun W' => AnyG.cmp_Compare_int Tryz.cmpPr x.1 y.1 W'
 change ∀ W', Calls Tryz.prog 56 _ _ _ at hcon
 generalize Lib.compareInt x.1 y.1 = r at hcon ⊢
 go_enter Tryz.func55, Tryz.ntmps55
 go_wp2_with (go_at_call 56; refine (hcon _).mono ?_; rintro e w' ⟨rfl, rfl⟩)
 go_ret
 exact ⟨rfl, 0, _, by rw [alloc_eq_grow, alloc_eq_grow, grow_grow]; rfl⟩
theorem own_sorted {w : World} {base b cap n : Nat} {e : TypeId} {L : List R} (h : w.ownsRow base e 2 (.slice (some ⟨b, 0, none⟩) n cap) n (cellsR L)) {d : Array R} (hs : d.size = n) (m : Nat) (os : Array Obj) :
  (sortWorldK encR 2 w b 0 m d os).ownsRow base e 2 (.slice (some ⟨b, 0, none⟩) n cap) n (cellsR d.toList) ∧ w.grownBy (sortWorldK encR 2 w b 0 m d os) (some b) := by
 have hb : b < w.heap.size := (h.lt b rfl).2
 rcases h.2 with ⟨h', _⟩ | ⟨g', cap', cur, h', h1, h2, h3, h4, h5, h6⟩
 ·cases h'
 ·simp only [Value.slice.injEq, Option.some.injEq, Addr.mk.injEq, and_true, true_and] at h'
  obtain ⟨rfl, rfl⟩ := h'
  refine ⟨⟨by rw [cellsR_length, Array.length_toList, hs], .inr ⟨b, cap, putCells id 0 (flatK encR 2 d) cur, rfl, h1, ?_, h3, h4, ?_, ?_⟩⟩, ⟨rfl, rfl, rfl, ?_, fun k hk hne => ?_⟩⟩
  ·simp only [sortWorldK, grow, putRowK, putRow, mapBlock, Sort.ahead]
   rw [Array.getElem?_append_left (by simpa using hb), Array.getElem?_modify, if_pos rfl, h2]
   rfl
  ·simp [putCells, h5]
  ·apply List.ext_getElem?
   intro j
   by_cases hj : j < n * 2
   ·have hc : j < cur.size := by rw [h5]; omega
    rw [List.getElem?_take_of_lt hj, cells_idx _ j (by simpa [hs] using hj)]
    have e1 : (flatK encR 2 d)[j]! = (encR d[j / 2]!)[j % 2]! := get_flatK _ _ _ _ (by rw [hs]; exact hj)
    have hj2 : j / 2 < d.size := by omega
    have e2 : at_ d.toList (j / 2) = d[j / 2]! := by unfold at_; simp [List.getD, hj2]
    have e3 : (putCells id 0 (flatK encR 2 d) cur)[j]? = some ((flatK encR 2 d)[j]!) := by
     unfold putCells
     rw [Array.getElem?_mapIdx, Array.getElem?_eq_getElem hc]
     simp only [Option.map_some, Nat.zero_le, Nat.zero_add, size_flatK, hs, true_and, Nat.sub_zero, id_eq]
     rw [if_pos hj]
    rw [Array.getElem?_toList, e3, e1, e2]
    have : j % 2 = 0 ∨ j % 2 = 1 := by omega
    rcases this with q | q <;> rw [q] <;> rfl
   ·rw [List.getElem?_eq_none (by rw [List.length_take]; omega), List.getElem?_eq_none (by rw [cellsR_length, Array.length_toList, hs]; omega)]
  ·simp [sortWorldK, grow, putRowK, putRow, mapBlock, Sort.ahead]
  ·simp only [sortWorldK, grow, putRowK, putRow, mapBlock, Sort.ahead]
   have hne' : b ≠ k := fun e => hne (by rw [e])
   rw [Array.getElem?_append_left (by simpa using hk), Array.getElem?_modify, if_neg hne']
theorem psort_any {base b cap : Nat} {e : TypeId} (L : List R) (w : World) (h : w.ownsRow base e 2 (.slice (some ⟨b, 0, none⟩) L.length cap) L.length (cellsR L)) (hn : L.length ≤ 1000000) :
  Calls Tryz.prog 54 #[.slice (some ⟨b, 0, none⟩) L.length cap, .func (.func 55) #[] #[]] w fun ex w' => ex = .returned (.tuple #[]) ∧ ∃ L' : List R, L'.length = L.length ∧ (∀ p, p ∈ L' ↔ p ∈ L) ∧ (L'.Pairwise fun a b => a.1 ≤ b.1) ∧ w'.ownsRow base e 2 (.slice (some ⟨b, 0, none⟩) L.length cap) L.length (cellsR L') ∧ w.grownBy w' (some b) := by
 have eg : ∀ args w, (callFunc 55 args).run Tryz.prog w = .ok (.enter 55 args) w := enters_of Tryz.func55 (by kernel_rfl) rfl
 have hb : b < w.heap.size := (h.lt b rfl).2
 have hH : HoldsK encR 2 w b 0 L.toArray := holds_row h
 have hcon := AnyQ.slices_SortFunc Tryz.sortPr 2 Tryz.isAgg31 Tryz.sizeOf31 encR lenR oneR (fun x y => Lib.compareInt x.1 y.1) swoLo 55 #[] b 0 cap L.toArray w eg (fun _ _ _ _ x y => clo_pair x y _) hH hb (by simp; omega)
 change Calls Tryz.prog 54 _ _ _ at hcon
 refine hcon.mono ?_
 rintro ex w' ⟨rfl, d', n, os, hp, hs, rfl⟩
 have sz : d'.size = L.length := by rw [hp.1]; simp
 obtain ⟨o1, g1⟩ := own_sorted h sz n os
 have pm : d'.toList.Perm L := by
  have := hp.2.2
  rw [Array.extract_eq_self_of_le (by simp [sz]), Array.extract_eq_self_of_le (by simp)] at this
  simpa using this
 refine ⟨rfl, d'.toList, by simpa using sz, fun p => pm.mem_iff, ?_, o1, g1⟩
 rw [List.pairwise_iff_getElem]
 intro i j hi hj hij
 have hi2 : i < d'.size := by simpa using hi
 have hj2 : j < d'.size := by simpa using hj
 have := hs i j (Nat.zero_le _) hij (by simp; omega)
 rw [ltLo, decide_eq_false_iff_not, getElem!_pos d' i hi2, getElem!_pos d' j hj2] at this
 simp only [Array.getElem_toList]
 omega
theorem psort_nil (w : World) : Calls Tryz.prog 54 #[.slice none 0 0, .func (.func 55) #[] #[]] w fun e w' => e = .returned (.tuple #[]) ∧ w' = w := by
 have hcon := AnyF.slices_SortFunc_none Tryz.sortPr none 0 (.func (.func 55) #[] #[]) w
 change Calls Tryz.prog 54 _ _ _ at hcon
 exact hcon
end Go.Proofs.YtcooaoponkkpeaaGreatDoor
