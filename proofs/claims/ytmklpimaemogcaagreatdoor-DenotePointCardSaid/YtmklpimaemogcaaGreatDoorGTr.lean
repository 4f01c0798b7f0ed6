/-
  Joined: TrP, TrA, TrB, TrC, TrD, TrE, TrF, TrG, TrH, 8T, TrI, OpenN.
-/
import Derived.Test.YtmklpimaemogcaaGreatDoorGPtA
import Derived.Laws.StructEq
import Derived.LoopTactic
import Derived.Test.YtmklpimaemogcaaGreatDoorGLeafA
import Derived.Test.YtmklpimaemogcaaGreatDoorRows
import Derived.Stop.LaidErr
import Derived.Lib.LaidTab
import Derived.Lib.SmallJoins
import Derived.Deep.Slices
import Derived.ChangeArms
namespace Go.Proofs.YtmklpimaemogcaaGreatDoor
set_option linter.unusedVariables false
set_option linter.unusedSimpArgs false
/-- a node, as plain data -/
inductive ND where
  | mk (k : Int) (p : PT) (a t : Bool) (l : List ND) : ND
def ND.k : ND → Int | .mk k _ _ _ _ => k
def ND.p : ND → PT | .mk _ p _ _ _ => p
def ND.a : ND → Bool | .mk _ _ a _ _ => a
def ND.t : ND → Bool | .mk _ _ _ t _ => t
def ND.l : ND → List ND | .mk _ _ _ _ l => l
mutual
def cntN : ND → Nat
  | .mk _ _ _ _ l => cntL l + 1
def cntL : List ND → Nat
  | [] => 0
  | x :: l => cntN x + cntL l
end
mutual
def depN : ND → Nat
  | .mk k _ _ _ l => depL l + (k == 2).toNat
def depL : List ND → Nat
  | [] => 0
  | x :: l => max (depN x) (depL l)
end
theorem cntL_append : ∀ a b : List ND, cntL (a ++ b) = cntL a + cntL b
  | [], b => by simp [cntL]
  | x :: a, b => by simp [cntL, cntL_append a b, Nat.add_assoc]
theorem depL_append : ∀ a b : List ND, depL (a ++ b) = max (depL a) (depL b)
  | [], b => by simp [depL]
  | x :: a, b => by simp [depL, depL_append a b, Nat.max_assoc]
theorem cnt_pos (n : ND) : 1 ≤ cntN n := by cases n; simp only [cntN]; omega
theorem len_cntL : ∀ l : List ND, l.length ≤ cntL l
  | [] => by simp [cntL]
  | x :: l => by simp only [cntL, List.length_cons]; have := len_cntL l; have := cnt_pos x; omega
def bareP (p : PT) : Bool := decide (p.k = 0) && (decide (p.y.size = 0) && (decide (p.m.size = 0) && decide (p.d.size = 0)))
def bareN (n : ND) : Bool := bareP n.p && (!n.a && !n.t)
section
variable (sp : PT → Bool)
def endN (n : ND) : Bool := (n.k == 0 && (sp n.p && n.l.isEmpty)) || ((n.k == 3 || n.k == 4) && (bareN n && n.l.isEmpty))
def twoN : List ND → Bool
  | [x, y] => endN sp x && endN sp y
  | _ => false
mutual
def rightN : ND → Bool
  | .mk k p a t l => (k == 0 && endN sp (.mk k p a t l)) || ((k == 1 && (bareN (.mk k p a t l) && twoN sp l)) || (k == 2 && (bareN (.mk k p a t l) && (!l.isEmpty && rightL l))))
def rightL : List ND → Bool
  | [] => true
  | x :: l => rightN x && rightL l
end
theorem rightL_all : ∀ l : List ND, rightL sp l = l.all (rightN sp)
  | [] => rfl
  | x :: l => by simp [rightL, rightL_all l]
end
mutual
def shortN : ND → Bool
  | .mk _ p _ _ l => (decide (p.y.size ≤ 10) && (decide (p.m.size ≤ 10) && decide (p.d.size ≤ 10))) && shortL l
def shortL : List ND → Bool
  | [] => true
  | x :: l => shortN x && shortL l
end
def saneN (sp : PT → Bool) (n : ND) : Bool := decide (cntN n ≤ 64) && (decide (depN n ≤ 8) && rightN sp n)
end Go.Proofs.YtmklpimaemogcaaGreatDoor

namespace Go.Proofs.YtmklpimaemogcaaGreatDoor
open Go.RowKit
set_option linter.unusedVariables false
set_option linter.unusedSimpArgs false
/-- the boxes X turn, all else stays -/
structure KX (X : Nat → Prop) (w w' : World) : Prop where
  os : w'.os = w.os
  tape : w'.tape = w.tape
  output : w'.output = w.output
  size : w.heap.size ≤ w'.heap.size
  block : ∀ k, k < w.heap.size → ¬ X k → w'.heap[k]? = w.heap[k]?
theorem KX.refl (X : Nat → Prop) (w : World) : KX X w w := ⟨rfl, rfl, rfl, Nat.le_refl _, fun _ _ _ => rfl⟩
theorem KX.trans {X : Nat → Prop} {a b c : World} (h : KX X a b) (k : KX X b c) : KX X a c :=
  ⟨k.os.trans h.os, k.tape.trans h.tape, k.output.trans h.output, Nat.le_trans h.size k.size, fun i hi hb => (k.block i (Nat.lt_of_lt_of_le hi h.size) hb).trans (h.block i hi hb)⟩
theorem KX.kp {X : Nat → Prop} {w w' : World} (h : Kp w w') : KX X w w' := ⟨h.os, h.tape, h.output, h.size, fun i hi _ => h.block i hi⟩
theorem KX.set {X : Nat → Prop} {B : Nat} (hB : X B) (w : World) (v : Value) : KX X w (w.setCell ⟨B, 0, none⟩ v) :=
  ⟨rfl, rfl, rfl, by unfold World.setCell; simp, fun k _ hb => Below.heap_setCell _ _ _ k (fun e => hb (by rw [e]; exact hB))⟩
theorem KX.to {X : Nat → Prop} {w w0 w' : World} (h : KX X w0 w') (k : Kp w w0) (hB : ∀ b, X b → w.heap.size ≤ b) : Kp w w' :=
  Below.trans k ⟨h.os, h.tape, h.output, h.size, fun i hi => h.block i (by have := k.size; omega) (fun x => by have := hB i x; omega)⟩
theorem KX.heap {X : Nat → Prop} {b : Nat} {w w' : World} {o : Obj} (h : KX X w w') (c : w.heap[b]? = some o) (hb : ¬ X b) : w'.heap[b]? = some o :=
  (h.block b (Array.getElem?_eq_some_iff.1 c).1 hb).trans c
theorem KX.cell {X : Nat → Prop} {b o : Nat} {w w' : World} {x : Value} (h : KX X w w') (c : w.cell? ⟨b, o, none⟩ = some x) (hb : ¬ X b) : w'.cell? ⟨b, o, none⟩ = some x :=
  (World.cell?_of_block (w := w) (h.block b (World.block_lt_of_cell? _ _ c) hb)).trans c
/-- a variable's box -/
def Cel (w : World) (B : Nat) (t : TypeId) (v : Value) : Prop := w.heap[B]? = some (.cells #[v] t (0, 0))
theorem Cel.lt {w : World} {B : Nat} {t : TypeId} {v : Value} (h : Cel w B t v) : B < w.heap.size := (Array.getElem?_eq_some_iff.1 h).1
theorem Cel.cell {w : World} {B : Nat} {t : TypeId} {v : Value} (h : Cel w B t v) : w.cell? ⟨B, 0, none⟩ = some v := by simp [World.cell?, show w.heap[B]? = _ from h]
theorem Cel.frozen {w : World} {B : Nat} {t : TypeId} {v : Value} (h : Cel w B t v) : w.frozen? ⟨B, 0, none⟩ = false := by simp [World.frozen?, show w.heap[B]? = _ from h]
theorem Cel.kx {X : Nat → Prop} {w w' : World} {B : Nat} {t : TypeId} {v : Value} (h : Cel w B t v) (k : KX X w w') (hB : ¬ X B) : Cel w' B t v := k.heap h hB
theorem Cel.kp {w w' : World} {B : Nat} {t : TypeId} {v : Value} (h : Cel w B t v) (k : Kp w w') : Cel w' B t v := heap_block k h
theorem Cel.set {w : World} {B : Nat} {t : TypeId} {v : Value} (h : Cel w B t v) (v' : Value) : Cel (w.setCell ⟨B, 0, none⟩ v') B t v' := ps_heap h 0 v'
theorem Cel.other {w : World} {B C : Nat} {t : TypeId} {v : Value} (h : Cel w B t v) (hc : B ≠ C) (v' : Value) : Cel (w.setCell ⟨C, 0, none⟩ v') B t v := (ps_other hc 0 v').trans h
def nd0 : ND := .mk 0 ⟨0, ⟨#[]⟩, ⟨#[]⟩, ⟨#[]⟩⟩ false false []
def nth (l : List ND) (i : Nat) : ND := l.getD i nd0
theorem nth_mem {l : List ND} {i : Nat} (h : i < l.length) : nth l i ∈ l := by
  unfold nth
  simp [List.getD, h]
theorem nth_take {l : List ND} {i : Nat} (h : i < l.length) : l.take (i + 1) = l.take i ++ [nth l i] := by
  unfold nth
  rw [List.take_add_one]
  simp [List.getD, h]
/-- the value of a node whose parts stand in lv -/
def ndV (n : ND) (lv : Value) : Value := .agg #[.int .i64 n.k, .int .i64 n.p.k, .string n.p.y, .string n.p.m, .string n.p.d, .bool n.a, .bool n.t, lv]
def RowN (w : World) (b o : Nat) (n : ND) (lv : Value) : Prop :=
  w.cell? ⟨b, o, none⟩ = some (.int .i64 n.k) ∧ w.cell? ⟨b, o + 1, none⟩ = some (.int .i64 n.p.k) ∧ w.cell? ⟨b, o + 2, none⟩ = some (.string n.p.y) ∧ w.cell? ⟨b, o + 3, none⟩ = some (.string n.p.m) ∧ w.cell? ⟨b, o + 4, none⟩ = some (.string n.p.d) ∧
  w.cell? ⟨b, o + 5, none⟩ = some (.bool n.a) ∧ w.cell? ⟨b, o + 6, none⟩ = some (.bool n.t) ∧ w.cell? ⟨b, o + 7, none⟩ = some lv
theorem RowN.kp {w w' : World} {b o : Nat} {n : ND} {lv : Value} (h : RowN w b o n lv) (k : Kp w w') : RowN w' b o n lv := by
  obtain ⟨h0, h1, h2, h3, h4, h5, h6, h7⟩ := h
  exact ⟨cell_up k h0, cell_up k h1, cell_up k h2, cell_up k h3, cell_up k h4, cell_up k h5, cell_up k h6, cell_up k h7⟩
/-- a list of nodes in memory -/
inductive NodesAt (w : World) : Value → List ND → Prop
  | none (ad : Option Addr) (c : Nat) : NodesAt w (.slice ad 0 c) []
  | row (l : List ND) (b off cap : Nat) (vs : Nat → Value) (hp : 0 < l.length) (hc : l.length ≤ cap) (hm : cap ≤ maxLen) (hr : ∀ i, i < l.length → RowN w b (off + i * 8) (nth l i) (vs i)) (hs : ∀ i, i < l.length → NodesAt w (vs i) (nth l i).l) :
    NodesAt w (.slice (some ⟨b, off, Option.none⟩) l.length cap) l
/-- what holds of a list's parts holds of it -/
theorem NodesAt.ind {w : World} {P : Value → List ND → Prop}
    (step : ∀ v l, (∃ ad c, v = .slice ad l.length c ∧ (0 < l.length → ∃ b off, ad = some ⟨b, off, Option.none⟩ ∧ ∀ i, i < l.length → ∃ vi, RowN w b (off + i * 8) (nth l i) vi ∧ NodesAt w vi (nth l i).l ∧ P vi (nth l i).l)) → P v l) :
    ∀ {v : Value} {l : List ND}, NodesAt w v l → P v l := by
  intro v l h
  induction h with
  | none ad c => exact step _ _ ⟨ad, c, rfl, fun h => by simp at h⟩
  | row l b off cap vs hp hc hm hr hs ih => exact step _ _ ⟨_, cap, rfl, fun _ => ⟨b, off, rfl, fun i hi => ⟨vs i, hr i hi, hs i hi, ih i hi⟩⟩⟩
theorem NodesAt.kp {w w' : World} {v : Value} {l : List ND} (h : NodesAt w v l) (k : Kp w w') : NodesAt w' v l := by
  induction h with
  | none ad c => exact .none ad c
  | row l b off cap vs hp hc hm hr hs ih => exact .row l b off cap vs hp hc hm (fun i hi => (hr i hi).kp k) ih
theorem NodesAt.slice {w : World} {v : Value} {l : List ND} (h : NodesAt w v l) : ∃ ad c, v = .slice ad l.length c := by
  cases h with
  | none ad c => exact ⟨ad, c, rfl⟩
  | row l b off cap vs hp hc hm hr hs => exact ⟨_, cap, rfl⟩
theorem NodesAt.len {w : World} {v : Value} {l : List ND} (h : NodesAt w v l) : l.length ≤ maxLen := by
  cases h with
  | none ad c => simp
  | row l b off cap vs hp hc hm hr hs => omega
mutual
/-- a node's integers fit -/
def ndG : ND → Prop
  | .mk k p _ _ l => (-9223372036854775808 ≤ k ∧ k ≤ 9223372036854775807 ∧ -9223372036854775808 ≤ p.k ∧ p.k ≤ 9223372036854775807) ∧ ndGL l
def ndGL : List ND → Prop
  | [] => True
  | x :: l => ndG x ∧ ndGL l
end
theorem eta_nd (n : ND) : n = .mk n.k n.p n.a n.t n.l := by cases n; rfl
end Go.Proofs.YtmklpimaemogcaaGreatDoor

namespace Go.Proofs.YtmklpimaemogcaaGreatDoor
open Go.RowKit
set_option linter.unusedVariables false
set_option linter.unusedSimpArgs false
theorem bareP_eq (p : PT) : bareP p = (p.k == 0 && (p.y.toList == [] && (p.m.toList == [] && p.d.toList == []))) := by
  have h : ∀ s : ByteArray, decide (s.size = 0) = (s.toList == []) := fun s => by rw [← str_empty]; cases s.toList <;> rfl
  unfold bareP
  rw [h, h, h]
  rfl
theorem nd_dest (n : ND) : ∃ k pk y m d a t l, n = .mk k ⟨pk, y, m, d⟩ a t l := by
  obtain ⟨k, ⟨pk, y, m, d⟩, a, t, l⟩ := n
  exact ⟨k, pk, y, m, d, a, t, l, rfl⟩
set_option maxHeartbeats 4000000 in
set_option maxRecDepth 100000 in
theorem bare_any (n : ND) (v : Value) (w : World) : Calls Tryz.prog 30 #[ndV n v] w fun e w' => e = .returned (.bool (bareN n)) ∧ Kp w w' := by
  obtain ⟨k, pk, y, m, d, a, t, l, rfl⟩ := nd_dest n
  unfold ndV
  simp only [ND.k, ND.p, ND.a, ND.t]
  go_enter Tryz.func30, Tryz.ntmps30
  go_wp2
  all_goals go_ret
  all_goals refine ⟨?_, Kp.alloc _ _⟩
  all_goals simp_all [bareN, bareP_eq, ND.a, ND.t, ND.p]
theorem row8 {w : World} {b : Nat} {c0 c1 c2 c3 c4 c5 c6 c7 : Value} {t : TypeId} {fr : Nat × Nat} (hg : w.heap[b]? = some (.cells #[c0, c1, c2, c3, c4, c5, c6, c7] t fr)) :
    w.cell? ⟨b, 0, none⟩ = some c0 ∧ w.cell? ⟨b, 1, none⟩ = some c1 ∧ w.cell? ⟨b, 2, none⟩ = some c2 ∧ w.cell? ⟨b, 3, none⟩ = some c3 ∧ w.cell? ⟨b, 4, none⟩ = some c4 ∧ w.cell? ⟨b, 5, none⟩ = some c5 ∧ w.cell? ⟨b, 6, none⟩ = some c6 ∧ w.cell? ⟨b, 7, none⟩ = some c7 := by
  refine ⟨?_, ?_, ?_, ?_, ?_, ?_, ?_, ?_⟩ <;> simp [World.cell?, hg]
set_option maxHeartbeats 4000000 in
set_option maxRecDepth 100000 in
theorem of_node_any (p : PT) (a t : Bool) (w : World) : Calls Tryz.prog 15 #[ptV p, .bool a, .bool t] w fun e w' => e = .returned (ndV (.mk 0 p a t []) (.slice none 0 0)) ∧ Kp w w' := by
  obtain ⟨pk, y, m, d⟩ := p
  unfold ndV ptV
  simp only [ND.k, ND.p, ND.a, ND.t]
  go_enter Tryz.func15, Tryz.ntmps15
  go_wp2
  obtain ⟨x0, x1, x2, x3, x4, x5, x6, x7⟩ := row8 (heap_at (w.alloc (.cells #[.int .i64 pk, .string y, .string m, .string d] 23)) (.cells #[.int .i64 0, .int .i64 pk, .string y, .string m, .string d, .bool a, .bool t, .slice none 0 0] 26) (w.heap.size + 1) (by simp))
  exact bodyPost_ret (v := .agg #[.int .i64 0, .int .i64 pk, .string y, .string m, .string d, .bool a, .bool t, .slice none 0 0]) (by simp [results, Tryz.results15, go_sem, x0, x1, x2, x3, x4, x5, x6, x7]) rfl ⟨rfl, (Kp.alloc _ _).trans (Kp.alloc _ _)⟩
set_option maxHeartbeats 4000000 in
set_option maxRecDepth 100000 in
theorem oneOf_any (v : Value) (l : List ND) (w : World) (h : ∃ ad c, v = .slice ad l.length c) : Calls Tryz.prog 13 #[v] w fun e w' => e = .returned (ndV (.mk 2 ⟨0, ⟨#[]⟩, ⟨#[]⟩, ⟨#[]⟩⟩ false false l) v) ∧ Kp w w' := by
  obtain ⟨ad, c, rfl⟩ := h
  unfold ndV
  simp only [ND.k, ND.p, ND.a, ND.t]
  go_enter Tryz.func13, Tryz.ntmps13
  go_wp2
  obtain ⟨x0, x1, x2, x3, x4, x5, x6, x7⟩ := row8 (heap_at w (.cells #[.int .i64 2, .int .i64 0, .string ⟨#[]⟩, .string ⟨#[]⟩, .string ⟨#[]⟩, .bool false, .bool false, .slice ad l.length c] 26) w.heap.size rfl)
  exact bodyPost_ret (v := .agg #[.int .i64 2, .int .i64 0, .string ⟨#[]⟩, .string ⟨#[]⟩, .string ⟨#[]⟩, .bool false, .bool false, .slice ad l.length c]) (by simp [results, Tryz.results13, go_sem, x0, x1, x2, x3, x4, x5, x6, x7]) rfl ⟨rfl, Kp.alloc _ _⟩
set_option maxHeartbeats 4000000 in
set_option maxRecDepth 100000 in
theorem between_any (n m : ND) (v u : Value) (w : World) (hv : NodesAt w v n.l) (hu : NodesAt w u m.l) : Calls Tryz.prog 21 #[ndV n v, ndV m u] w fun e w' => ∃ s : Value, e = .returned (ndV (.mk 1 ⟨0, ⟨#[]⟩, ⟨#[]⟩, ⟨#[]⟩⟩ false false [n, m]) s) ∧ NodesAt w' s [n, m] ∧ Kp w w' := by
  obtain ⟨k, pk, y, q, d, a, t, l, rfl⟩ := nd_dest n
  obtain ⟨k', pk', y', q', d', a', t', l', rfl⟩ := nd_dest m
  unfold ndV
  simp only [ND.k, ND.p, ND.a, ND.t]
  go_enter Tryz.func21, Tryz.ntmps21
  go_wp2
  obtain ⟨W2, hW2⟩ : ∃ W, W = (w.alloc (.cells #[.int .i64 k, .int .i64 pk, .string y, .string q, .string d, .bool a, .bool t, v] 26)).alloc (.cells #[.int .i64 k', .int .i64 pk', .string y', .string q', .string d', .bool a', .bool t', u] 26) := ⟨_, rfl⟩
  have kW : Kp w W2 := by rw [hW2]; exact (Kp.alloc _ _).trans (Kp.alloc _ _)
  have zW : W2.heap.size = w.heap.size + 1 + 1 := by rw [hW2]; simp
  rw [← hW2]
  obtain ⟨W3, hW3⟩ : ∃ W, W = W2.alloc (.cells #[.int .i64 1, .int .i64 0, .string ⟨#[]⟩, .string ⟨#[]⟩, .string ⟨#[]⟩, .bool false, .bool false, .slice (some ⟨w.heap.size + 1 + 1 + 1, 0, none⟩) 2 2] 26) := ⟨_, rfl⟩
  have kW3 : Kp W2 W3 := by rw [hW3]; exact Kp.alloc _ _
  have zW3 : W3.heap.size = w.heap.size + 1 + 1 + 1 := by rw [hW3]; simp [zW]
  have g3 : W3.heap[w.heap.size + 1 + 1]? = some (.cells #[.int .i64 1, .int .i64 0, .string ⟨#[]⟩, .string ⟨#[]⟩, .string ⟨#[]⟩, .bool false, .bool false, .slice (some ⟨w.heap.size + 1 + 1 + 1, 0, none⟩) 2 2] 26 (0, 0)) := by rw [hW3]; exact heap_at _ _ _ zW
  rw [← hW3]
  obtain ⟨W4, hW4⟩ : ∃ W, W = W3.alloc (.cells #[.int .i64 k, .int .i64 pk, .string y, .string q, .string d, .bool a, .bool t, v, .int .i64 k', .int .i64 pk', .string y', .string q', .string d', .bool a', .bool t', u] 26) := ⟨_, rfl⟩
  have kW4 : Kp W3 W4 := by rw [hW4]; exact Kp.alloc _ _
  have g4 : W4.heap[w.heap.size + 1 + 1 + 1]? = some (.cells #[.int .i64 k, .int .i64 pk, .string y, .string q, .string d, .bool a, .bool t, v, .int .i64 k', .int .i64 pk', .string y', .string q', .string d', .bool a', .bool t', u] 26 (0, 0)) := by rw [hW4]; exact heap_at _ _ _ zW3
  obtain ⟨x0, x1, x2, x3, x4, x5, x6, x7⟩ := row8 (heap_block kW4 g3)
  rw [← hW4]
  have KK : Kp w W4 := kW.trans (kW3.trans kW4)
  refine bodyPost_ret (v := .agg #[.int .i64 1, .int .i64 0, .string ⟨#[]⟩, .string ⟨#[]⟩, .string ⟨#[]⟩, .bool false, .bool false, .slice (some ⟨w.heap.size + 1 + 1 + 1, 0, none⟩) 2 2]) (by simp [results, Tryz.results21, go_sem, x0, x1, x2, x3, x4, x5, x6, x7]) rfl ⟨_, rfl, ?_, KK⟩
  refine NodesAt.row [.mk k ⟨pk, y, q, d⟩ a t l, .mk k' ⟨pk', y', q', d'⟩ a' t' l'] (w.heap.size + 1 + 1 + 1) 0 2 (fun i => if i = 0 then v else u) (by simp) (by simp) (by decide) ?_ ?_
  · intro i hi
    simp only [List.length_cons, List.length_nil] at hi
    match i, hi with
    | 0, _ => refine ⟨?_, ?_, ?_, ?_, ?_, ?_, ?_, ?_⟩ <;> simp [World.cell?, g4, nth, ND.k, ND.p, ND.a, ND.t]
    | 1, _ => refine ⟨?_, ?_, ?_, ?_, ?_, ?_, ?_, ?_⟩ <;> simp [World.cell?, g4, nth, ND.k, ND.p, ND.a, ND.t]
  · intro i hi
    simp only [List.length_cons, List.length_nil] at hi
    match i, hi with
    | 0, _ => exact hv.kp KK
    | 1, _ => exact hu.kp KK
set_option maxHeartbeats 4000000 in
set_option maxRecDepth 100000 in
theorem end_any (n : ND) (v : Value) (w : World) (h : ∃ ad c, v = .slice ad n.l.length c) (T : TabSH w) : Calls Tryz.prog 29 #[ndV n v] w fun e w' => e = .returned (.bool (endN saneP n)) ∧ Kp w w' := by
  obtain ⟨ad, c, rfl⟩ := h
  have CB := Lib.hid (fun w1 => bare_any n (.slice ad n.l.length c) w1)
  obtain ⟨k, pk, y, m, d, a, t, l, rfl⟩ := nd_dest n
  have CS := Lib.hid (fun w1 (q : Kp w w1) => show Calls Tryz.prog 35 #[.agg #[.int .i64 pk, .string y, .string m, .string d]] w1 _ from ptSane_any ⟨pk, y, m, d⟩ w1 (T.kp q))
  unfold endN
  unfold ndV at *
  simp only [ND.k, ND.p, ND.a, ND.t, ND.l] at *
  generalize bareN (.mk k ⟨pk, y, m, d⟩ a t l) = bb at *
  generalize saneP ⟨pk, y, m, d⟩ = ss at *
  have le : l.isEmpty = decide (l.length = 0) := by cases l <;> rfl
  rw [le]
  have li : ((l.length : Int) == 0) = decide (l.length = 0) := by
    by_cases h : l.length = 0
    · rw [h]; rfl
    · rw [decide_eq_false h, beq_eq_false_iff_ne]; omega
  generalize decide (l.length = 0) = lb at *
  by_cases h0 : k = 0
  · subst h0
    go_enter Tryz.func29, Tryz.ntmps29
    go_wp2_with fail
    refine (CS.out _ (Kp.alloc _ _)).mono ?_
    rintro e w1 ⟨rfl, kk⟩
    obtain ⟨x0, x1, x2, x3, x4, x5, x6, x7⟩ := row8 (heap_block kk (heap_at w (.cells #[.int .i64 0, .int .i64 pk, .string y, .string m, .string d, .bool a, .bool t, .slice ad l.length c] 26) w.heap.size rfl))
    go_wp2
    all_goals go_ret
    all_goals refine ⟨?_, (Kp.alloc _ _).trans kk⟩
    all_goals simp_all
  · have q0 : (k == 0) = false := beq_eq_false_iff_ne.2 h0
    by_cases h3 : k = 3
    · subst h3
      go_enter Tryz.func29, Tryz.ntmps29
      go_wp2_with fail
      refine (CB.out _).mono ?_
      rintro e w1 ⟨rfl, kk⟩
      obtain ⟨x0, x1, x2, x3, x4, x5, x6, x7⟩ := row8 (heap_block kk (heap_at w (.cells #[.int .i64 3, .int .i64 pk, .string y, .string m, .string d, .bool a, .bool t, .slice ad l.length c] 26) w.heap.size rfl))
      go_wp2
      all_goals go_ret
      all_goals refine ⟨?_, (Kp.alloc _ _).trans kk⟩
      all_goals simp_all
    · have q3 : (k == 3) = false := beq_eq_false_iff_ne.2 h3
      by_cases h4 : k = 4
      · subst h4
        go_enter Tryz.func29, Tryz.ntmps29
        go_wp2_with fail
        refine (CB.out _).mono ?_
        rintro e w1 ⟨rfl, kk⟩
        obtain ⟨x0, x1, x2, x3, x4, x5, x6, x7⟩ := row8 (heap_block kk (heap_at w (.cells #[.int .i64 4, .int .i64 pk, .string y, .string m, .string d, .bool a, .bool t, .slice ad l.length c] 26) w.heap.size rfl))
        go_wp2
        all_goals go_ret
        all_goals refine ⟨?_, (Kp.alloc _ _).trans kk⟩
        all_goals simp_all
      · have q4 : (k == 4) = false := beq_eq_false_iff_ne.2 h4
        go_enter Tryz.func29, Tryz.ntmps29
        go_wp2
        go_ret
        refine ⟨?_, Kp.alloc _ _⟩
        simp_all
end Go.Proofs.YtmklpimaemogcaaGreatDoor

namespace Go.Proofs.YtmklpimaemogcaaGreatDoor
open Go.RowKit
set_option linter.unusedVariables false
set_option linter.unusedSimpArgs false
theorem cntL_take {l : List ND} {i : Nat} (h : i < l.length) : cntL (l.take (i + 1)) = cntL (l.take i) + cntN (nth l i) := by
  rw [nth_take h, cntL_append]
  simp [cntL]
theorem depL_take {l : List ND} {i : Nat} (h : i < l.length) : depL (l.take (i + 1)) = max (depL (l.take i)) (depN (nth l i)) := by
  rw [nth_take h, depL_append]
  simp [depL]
theorem cntL_le {l : List ND} (i : Nat) : cntL (l.take i) ≤ cntL l := by
  conv => rhs; rw [← List.take_append_drop i l]
  rw [cntL_append]
  omega
theorem depL_le {l : List ND} (i : Nat) : depL (l.take i) ≤ depL l := by
  conv => rhs; rw [← List.take_append_drop i l]
  rw [depL_append]
  omega
theorem cntN_mk (n : ND) : cntN n = cntL n.l + 1 := by cases n; rfl
theorem depN_mk (n : ND) : depN n = depL n.l + (n.k == 2).toNat := by cases n; rfl
theorem cnt_at {l : List ND} {i : Nat} (h : i < l.length) : cntL (l.take i) + cntN (nth l i) ≤ cntL l := by
  rw [← cntL_take h]
  exact cntL_le _
theorem dep_at {l : List ND} {i : Nat} (h : i < l.length) : depN (nth l i) ≤ depL l := by
  have a := depL_take h
  have b := depL_le (l := l) (i + 1)
  omega
end Go.Proofs.YtmklpimaemogcaaGreatDoor

namespace Go.Proofs.YtmklpimaemogcaaGreatDoor
open Go.RowKit
set_option linter.unusedVariables false
set_option linter.unusedSimpArgs false
theorem KX.drop {X Y : Nat → Prop} {w W w' : World} (h : KX X W w') (k : Kp w W) (hXY : ∀ b, b < w.heap.size → X b → Y b) : KX Y w w' :=
  ⟨h.os.trans k.os, h.tape.trans k.tape, h.output.trans k.output, Nat.le_trans k.size h.size, fun i hi hy => (h.block i (Nat.lt_of_lt_of_le hi k.size) (fun x => hy (hXY i hi x))).trans (k.block i hi)⟩
end Go.Proofs.YtmklpimaemogcaaGreatDoor

namespace Go.Proofs.YtmklpimaemogcaaGreatDoor
open Go.RowKit
set_option linter.unusedVariables false
set_option linter.unusedSimpArgs false
/-- an expression in so many lists, behind so many nodes -/
def okX (c j : Int) (n : ND) : Bool := decide (c + (cntN n : Int) ≤ 64) && (decide (j + (depN n : Int) ≤ 8) && rightN saneP n)
theorem RowN.kx {X : Nat → Prop} {w w' : World} {b o : Nat} {n : ND} {lv : Value} (h : RowN w b o n lv) (k : KX X w w') (hb : ¬ X b) : RowN w' b o n lv := by
  obtain ⟨h0, h1, h2, h3, h4, h5, h6, h7⟩ := h
  exact ⟨k.cell h0 hb, k.cell h1 hb, k.cell h2 hb, k.cell h3 hb, k.cell h4 hb, k.cell h5 hb, k.cell h6 hb, k.cell h7 hb⟩
theorem endN_leaf {sp : PT → Bool} {n : ND} (h : endN sp n = true) : n.l = [] := by
  unfold endN at h
  simp only [Bool.or_eq_true, Bool.and_eq_true, List.isEmpty_iff] at h
  rcases h with ⟨_, _, h⟩ | ⟨_, _, h⟩ <;> exact h
theorem okX_end {c j : Int} {p : PT} {a t : Bool} {l : List ND} (hc : c ≤ 63) (hj : j ≤ 8) : okX c j (.mk 0 p a t l) = endN saneP (.mk 0 p a t l) := by
  unfold okX
  have e : rightN saneP (.mk 0 p a t l) = endN saneP (.mk 0 p a t l) := by simp [rightN]
  rw [e]
  cases h : endN saneP (.mk 0 p a t l) with
  | false => simp
  | true =>
    have hl : l = [] := endN_leaf h
    subst hl
    simp [cntN, cntL, depN, depL]
    omega
theorem okX_other {c j k : Int} {p : PT} {a t : Bool} {l : List ND} (h0 : (k == 0) = false) (h1 : (k == 1) = false) (h2 : (k == 2) = false) : okX c j (.mk k p a t l) = false := by
  unfold okX
  have e : rightN saneP (.mk k p a t l) = false := by simp only [rightN, h0, h1, h2, Bool.false_and, Bool.or_false]
  rw [e]
  simp
theorem okX_full {c j : Int} {n : ND} (hc : 64 ≤ c) : okX c j n = false := by
  unfold okX
  have := cnt_pos n
  rw [decide_eq_false (by omega), Bool.false_and]
theorem okX_span {c j : Int} {p : PT} {a t : Bool} {l : List ND} (hj : j ≤ 8) : okX c j (.mk 1 p a t l) = (bareN (.mk 1 p a t l) && (twoN saneP l && decide (c + 3 ≤ 64))) := by
  unfold okX
  have e : rightN saneP (.mk 1 p a t l) = (bareN (.mk 1 p a t l) && twoN saneP l) := by simp [rightN]
  rw [e]
  cases hb : bareN (.mk 1 p a t l) with
  | false => simp
  | true =>
    cases ht : twoN saneP l with
    | false => simp
    | true =>
      match l, ht with
      | [x, y], ht =>
        simp only [twoN, Bool.and_eq_true] at ht
        have hx := endN_leaf ht.1
        have hy := endN_leaf ht.2
        have cx : cntN x = 1 := by rw [cntN_mk, hx]; rfl
        have cy : cntN y = 1 := by rw [cntN_mk, hy]; rfl
        have dx : depN x = 0 := by
          have := ht.1
          unfold endN at this
          rw [depN_mk, hx]
          by_cases k2 : x.k = 2
          · rw [k2] at this; simp at this
          · simp [depL, k2]
        have dy : depN y = 0 := by
          have := ht.2
          unfold endN at this
          rw [depN_mk, hy]
          by_cases k2 : y.k = 2
          · rw [k2] at this; simp at this
          · simp [depL, k2]
        simp only [cntN, cntL, depN, depL, cx, cy, dx, dy]
        have : decide (j + ((max 0 (max 0 0) + ((1 : Int) == 2).toNat : Nat) : Int) ≤ 8) = true := by simp; omega
        rw [this]
        simp
theorem okX_list {c j : Int} {p : PT} {a t : Bool} {l : List ND} (h : okX c j (.mk 2 p a t l) = true) : bareN (.mk 2 p a t l) = true ∧ l ≠ [] ∧ j < 8 := by
  unfold okX at h
  simp only [Bool.and_eq_true, decide_eq_true_eq] at h
  obtain ⟨_, h2, h3⟩ := h
  have e : rightN saneP (.mk 2 p a t l) = (bareN (.mk 2 p a t l) && (!l.isEmpty && rightL saneP l)) := by simp [rightN]
  rw [e, Bool.and_eq_true, Bool.and_eq_true] at h3
  refine ⟨h3.1, ?_, ?_⟩
  · intro e; rw [e] at h3; simp at h3
  · simp only [depN] at h2
    have : ((2 : Int) == 2).toNat = 1 := rfl
    omega
/-- of a list: each element -/
theorem okX_elem {c j : Int} {p : PT} {a t : Bool} {l : List ND} (h : okX c j (.mk 2 p a t l) = true) {i : Nat} (hi : i < l.length) : okX (c + 1 + (cntL (l.take i) : Int)) (j + 1) (nth l i) = true := by
  unfold okX at *
  simp only [Bool.and_eq_true, decide_eq_true_eq] at *
  obtain ⟨h1, h2, h3⟩ := h
  have e : rightN saneP (.mk 2 p a t l) = (bareN (.mk 2 p a t l) && (!l.isEmpty && rightL saneP l)) := by simp [rightN]
  rw [e, Bool.and_eq_true, Bool.and_eq_true, rightL_all] at h3
  simp only [cntN, depN] at h1 h2
  have ca := cnt_at hi
  have da := dep_at hi
  have : ((2 : Int) == 2).toNat = 1 := rfl
  exact ⟨by omega, by omega, List.all_eq_true.1 h3.2.2 _ (nth_mem hi)⟩
theorem depL_bd {l : List ND} {j : Int} : (∀ i, i < l.length → j + (depN (nth l i) : Int) ≤ 8) → j ≤ 8 → j + (depL l : Int) ≤ 8 := by
  intro h hj
  have : ∀ i, i ≤ l.length → j + (depL (l.take i) : Int) ≤ 8 := by
    intro i
    induction i with
    | zero => intro _; simp [depL]; exact hj
    | succ i ih =>
      intro hi
      have a := ih (by omega)
      have b := h i (by omega)
      rw [depL_take (by omega)]
      omega
  have g := this l.length (Nat.le_refl _)
  rwa [List.take_length] at g
theorem okX_all {c j : Int} {p : PT} {a t : Bool} {l : List ND} (hb : bareN (.mk 2 p a t l) = true) (hne : l ≠ []) (hj : j < 8) (hcc : c + 1 + (cntL l : Int) ≤ 64) (h : ∀ i, i < l.length → okX (c + 1 + (cntL (l.take i) : Int)) (j + 1) (nth l i) = true) : okX c j (.mk 2 p a t l) = true := by
  have e : rightN saneP (.mk 2 p a t l) = (bareN (.mk 2 p a t l) && (!l.isEmpty && rightL saneP l)) := by simp [rightN]
  have hd : j + 1 + (depL l : Int) ≤ 8 := depL_bd (fun i hi => by
    have := h i hi
    unfold okX at this
    simp only [Bool.and_eq_true, decide_eq_true_eq] at this
    exact this.2.1) (by omega)
  unfold okX
  simp only [Bool.and_eq_true, decide_eq_true_eq]
  refine ⟨by simp only [cntN]; omega, ?_, ?_⟩
  · simp only [depN]
    have : ((2 : Int) == 2).toNat = 1 := rfl
    omega
  · rw [e, hb, Bool.true_and, rightL_all, Bool.and_eq_true]
    refine ⟨by cases l with | nil => exact absurd rfl hne | cons x t => rfl, ?_⟩
    rw [List.all_eq_true]
    intro x hx
    obtain ⟨i, hi, rfl⟩ := List.getElem_of_mem hx
    have := h i hi
    unfold okX at this
    simp only [Bool.and_eq_true] at this
    have en : nth l i = l[i] := by unfold nth; simp [List.getD, hi]
    rw [← en]
    exact this.2.2
end Go.Proofs.YtmklpimaemogcaaGreatDoor

namespace Go.Proofs.YtmklpimaemogcaaGreatDoor
open Go.RowKit
set_option linter.unusedVariables false
set_option linter.unusedSimpArgs false
theorem two_of {l : List ND} (h : l.length = 2) : ∃ x z, l = [x, z] := by
  match l, h with
  | [x, z], _ => exact ⟨x, z, rfl⟩
theorem two_no {sp : PT → Bool} {l : List ND} (h : ¬ l.length = 2) : twoN sp l = false := by
  match l, h with
  | [], _ => rfl
  | [_], _ => rfl
  | [_, _], h => exact absurd rfl h
  | _ :: _ :: _ :: _, _ => rfl
theorem two_cnt {sp : PT → Bool} {x z : ND} (a : endN sp x = true) (b : endN sp z = true) : cntL [x, z] = 2 := by
  simp only [cntL]
  rw [cntN_mk x, cntN_mk z, endN_leaf a, endN_leaf b]
  rfl
end Go.Proofs.YtmklpimaemogcaaGreatDoor

namespace Go.Proofs.YtmklpimaemogcaaGreatDoor
open Go.RowKit
set_option linter.unusedVariables false
set_option linter.unusedSimpArgs false
theorem NodesAt.get {w : World} {ad : Option Addr} {cp : Nat} {l : List ND} (h : NodesAt w (.slice ad l.length cp) l) {i : Nat} (hi : i < l.length) : ∃ b off vi, ad = some ⟨b, off, Option.none⟩ ∧ RowN w b (off + i * 8) (nth l i) vi ∧ NodesAt w vi (nth l i).l := by
  generalize hv : Value.slice ad l.length cp = v at h
  cases h with
  | none ad c => simp at hi
  | row l b off cap vs hp hc hm hr hs =>
    cases hv
    exact ⟨b, off, vs i, rfl, hr i hi, hs i hi⟩
end Go.Proofs.YtmklpimaemogcaaGreatDoor

namespace Go.Proofs.YtmklpimaemogcaaGreatDoor
open Go.RowKit
set_option linter.unusedVariables false
set_option linter.unusedSimpArgs false
theorem shortL_all : ∀ l : List ND, shortL l = l.all shortN
  | [] => rfl
  | x :: l => by simp [shortL, shortL_all l]
end Go.Proofs.YtmklpimaemogcaaGreatDoor

namespace Go.Proofs.YtmklpimaemogcaaGreatDoor
open Go.RowKit Go.Lib Go.ChangeShapes Go.WideShapes Go.Deep Go.Joins
set_option linter.unusedVariables false
set_option linter.unusedSimpArgs false
theorem cells_i1 : Tryz.prog.cellsOf 3 = 1 := by kernel_rfl
theorem cells_s1 : Tryz.prog.cellsOf 9 = 1 := by kernel_rfl
theorem cells_m13 : Tryz.prog.cellsOf 136 = 13 := by kernel_rfl
theorem cells_u6 : Tryz.prog.cellsOf 83 = 6 := by kernel_rfl
theorem cells_sh : Tryz.prog.cellsOf 87 = 5 := by kernel_rfl
theorem cells_sh6 : Tryz.prog.cellsOf 88 = 30 := by kernel_rfl
theorem cells_pt : Tryz.prog.cellsOf 23 = 4 := by kernel_rfl
theorem gt_m13 : (Tryz.prog.globals[3]?).map (·.type) = some 136 := by kernel_rfl
theorem gt_u6 : (Tryz.prog.globals[0]?).map (·.type) = some 83 := by kernel_rfl
theorem gt_r6 : (Tryz.prog.globals[2]?).map (·.type) = some 83 := by kernel_rfl
theorem gt_s6 : (Tryz.prog.globals[1]?).map (·.type) = some 88 := by kernel_rfl
def shpD {H : Type} (a b c d : Int) (s : List UInt8) : DataW H := .agg [.lit (.int .i64 a), .lit (.int .i64 b), .lit (.int .i64 c), .lit (.int .i64 d), .lit (.string s)]
def shpsD {H : Type} : DataW H := .agg [shpD 4 2 2 12 [], shpD 4 2 0 12 [], shpD 4 1 0 4 [], shpD 4 0 0 0 [], shpD 3 0 0 0 [100], shpD 2 0 0 0 [99]]
section
variable {H : Type} {enc : TypeId × Value → H} {w : World} {base : Nat} {sp : Nat → Bool} {held : Bool} {fuel : Nat}
set_option maxRecDepth 100000 in
theorem shape_row {L : List Value} {y : DataW H × List MemPlace} {a b c d : Int} {s : List UInt8} (h : DataW.trod enc Tryz.prog w base sp held fuel 87 L = some y) (hy : y.1 = shpD a b c d s) :
    L = [.int .i64 a, .int .i64 b, .int .i64 c, .int .i64 d, .string ⟨s.toArray⟩] := by
  obtain ⟨xs, k', hk, hxy, hlen, hxl, hf'⟩ := DataW.trod_struct Tryz.underlying87 h
  rw [cells_sh] at hlen
  match xs, hxl, L, hlen with
  | [y0, y1, y2, y3, y4], _, [v0, v1, v2, v3, v4], _ =>
    have g0 := hf' 0 _ rfl
    have g1 := hf' 1 _ rfl
    have g2 := hf' 2 _ rfl
    have g3 := hf' 3 _ rfl
    have g4 := hf' 4 _ rfl
    simp [cells_i1, cells_s1] at g0 g1 g2 g3 g4
    obtain ⟨x0, q0, e0, _⟩ := DataW.trod_int Tryz.underlying3 g0
    obtain ⟨x1, q1, e1, _⟩ := DataW.trod_int Tryz.underlying3 g1
    obtain ⟨x2, q2, e2, _⟩ := DataW.trod_int Tryz.underlying3 g2
    obtain ⟨x3, q3, e3, _⟩ := DataW.trod_int Tryz.underlying3 g3
    obtain ⟨x4, q4, e4, _⟩ := DataW.trod_string Tryz.underlying9 g4
    subst e0 e1 e2 e3 e4
    rw [hxy] at hy
    simp only [List.map_cons, List.map_nil, shpD, DataW.agg.injEq, List.cons.injEq, DataW.lit.injEq, Lit.int.injEq, Lit.string.injEq, true_and, and_true] at hy
    simp only [List.cons.injEq, and_true] at q0 q1 q2 q3 q4
    obtain ⟨r0, r1, r2, r3, r4⟩ := hy
    rw [q0, q1, q2, q3, q4, r0, r1, r2, r3, ← r4]
set_option maxRecDepth 100000 in
theorem shapes_cells {cs : List Value} {p : List MemPlace} (h : DataW.trod enc Tryz.prog w base sp held fuel 88 cs = some (shpsD, p)) : cs = shpCells := by
  cases fuel with
  | zero => simp [DataW.trod] at h
  | succ fuel =>
    simp only [DataW.trod, Tryz.underlying88, cells_sh, cells_sh6] at h
    split at h
    · rename_i hl
      obtain ⟨xs, hm, hx⟩ := Option.map_eq_some_iff.1 h
      have hxs := congrArg Prod.fst hx
      simp only [shpsD, DataW.agg.injEq] at hxs
      have hxl : xs.length = 6 := by simpa using mapM_length hm
      match xs, hxl with
      | [y0, y1, y2, y3, y4, y5], _ =>
        simp only [List.map_cons, List.map_nil, List.cons.injEq, and_true] at hxs
        obtain ⟨h0, h1, h2, h3, h4, h5⟩ := hxs
        have at_ : ∀ i, i < 6 → ∃ b, [y0, y1, y2, y3, y4, y5][i]? = some b ∧ DataW.trod enc Tryz.prog w base sp held fuel 87 ((cs.drop (i * 5)).take 5) = some b := fun i hi => mapM_at hm i i (by simp [hi])
        obtain ⟨z0, b0, t0⟩ := at_ 0 (by decide)
        obtain ⟨z1, b1, t1⟩ := at_ 1 (by decide)
        obtain ⟨z2, b2, t2⟩ := at_ 2 (by decide)
        obtain ⟨z3, b3, t3⟩ := at_ 3 (by decide)
        obtain ⟨z4, b4, t4⟩ := at_ 4 (by decide)
        obtain ⟨z5, b5, t5⟩ := at_ 5 (by decide)
        simp only [List.getElem?_cons_zero, List.getElem?_cons_succ, Option.some.injEq] at b0 b1 b2 b3 b4 b5
        subst b0 b1 b2 b3 b4 b5
        have r0 := shape_row t0 h0
        have r1 := shape_row t1 h1
        have r2 := shape_row t2 h2
        have r3 := shape_row t3 h3
        have r4 := shape_row t4 h4
        have r5 := shape_row t5 h5
        have e : cs = (cs.drop (0 * 5)).take 5 ++ ((cs.drop (1 * 5)).take 5 ++ ((cs.drop (2 * 5)).take 5 ++ ((cs.drop (3 * 5)).take 5 ++ ((cs.drop (4 * 5)).take 5 ++ (cs.drop (5 * 5)).take 5)))) := by
          have s : ∀ n, cs.drop n = (cs.drop n).take 5 ++ cs.drop (n + 5) := fun n => by
            rw [← List.drop_drop, List.take_append_drop]
          have l : (cs.drop 25).take 5 = cs.drop 25 := List.take_of_length_le (by rw [List.length_drop]; omega)
          have s0 := s 0
          have s5 := s 5
          have s10 := s 10
          have s15 := s 15
          have s20 := s 20
          simp only [Nat.zero_add, Nat.reduceAdd, Nat.reduceMul, List.drop_zero] at *
          rw [l, ← s20, ← s15, ← s10, ← s5, ← s0]
        rw [e, r0, r1, r2, r3, r4, r5]
        rfl
    · cases h
end
theorem shapes_of_head {W : World} {rest : List (String × DataW Unit)} (h : laidMet Tryz.prog (("lustrum/point.shapes", shpsD) :: rest) W) : TabSH W := by
  obtain ⟨ps, ⟨g', t', cs, fuel, p, q, hg', ht', hvar, hd, _, _⟩, _⟩ := h
  obtain rfl := Option.some.inj (gSH.symm.trans hg')
  obtain rfl := Option.some.inj (gt_s6.symm.trans ht')
  unfold TabSH
  rw [hvar, ← shapes_cells hd]
theorem tabs_of {W : World} (h : laidMetH Tryz.prog [("lustrum/civil.monthDays", Rows.laid_lustrum_civil_monthDays), ("lustrum/unit.counts", Rows.laid_lustrum_unit_counts), ("lustrum/point.shapes", Rows.laid_lustrum_point_shapes), ("lustrum/point.radii", Rows.laid_lustrum_point_radii)] W) : Tabs8 W := by
  have h1 : laidMet Tryz.prog [("lustrum/civil.monthDays", Lib.tabData .i64 [0, 31, 28, 31, 30, 31, 30, 31, 31, 30, 31, 30, 31]), ("lustrum/unit.counts", Lib.tabData .i64 [3652425, 120000, 40000, 10000, 1000, 100]), ("lustrum/point.shapes", shpsD), ("lustrum/point.radii", Lib.tabData .i64 [3, 1, 1, 2, 1, 1])] W := h
  exact ⟨⟨Lib.tabIs_of_head gMD gt_m13 Tryz.underlying136 Tryz.underlying3 cells_i1 cells_m13 h1, Lib.tabIs_of_head gUC gt_u6 Tryz.underlying83 Tryz.underlying3 cells_i1 cells_u6 h1.tail⟩, shapes_of_head h1.tail.tail, Lib.tabIs_of_head gRD gt_r6 Tryz.underlying83 Tryz.underlying3 cells_i1 cells_u6 h1.tail.tail.tail⟩
section
variable {H : Type} {enc : TypeId × Value → H} {W : World} {v : Value} {d : DataW H} {p : List MemPlace} {base : Nat}
set_option maxRecDepth 100000 in
theorem open_point (hv : Value.okWide Tryz.prog W .any base 23 v) (h : DataW.Trod enc Tryz.prog W 0 (fun _ => true) true 23 v d p) : ∃ q : PT, v = ptV q ∧ -9223372036854775808 ≤ q.k ∧ q.k ≤ 9223372036854775807 ∧ q.y.size ≤ maxLen ∧ q.m.size ≤ maxLen ∧ q.d.size ≤ maxLen := by
  obtain ⟨v0, v1, v2, v3, y0, y1, y2, y3, n, rfl, _, _, t0, t1, t2, t3⟩ := open_agg4 Tryz.underlying23 (by kernel_rfl) cells_pt hv h
  obtain ⟨k, e0, _, w0⟩ := DataW.trod_int Tryz.underlying3 t0
  obtain ⟨s1, e1, _, w1⟩ := DataW.trod_string Tryz.underlying9 t1
  obtain ⟨s2, e2, _, w2⟩ := DataW.trod_string Tryz.underlying9 t2
  obtain ⟨s3, e3, _, w3⟩ := DataW.trod_string Tryz.underlying9 t3
  simp only [List.cons.injEq, and_true] at e0 e1 e2 e3
  subst e0 e1 e2 e3
  exact ⟨⟨k, s1, s2, s3⟩, rfl, (wf_bd w0).1, (wf_bd w0).2, w1, w2, w3⟩
end
end Go.Proofs.YtmklpimaemogcaaGreatDoor

namespace Go.Proofs.YtmklpimaemogcaaGreatDoor
open Go.RowKit
set_option linter.unusedVariables false
set_option linter.unusedSimpArgs false
end Go.Proofs.YtmklpimaemogcaaGreatDoor

namespace Go.Proofs.YtmklpimaemogcaaGreatDoor
open Go.RowKit Go.ChangeShapes Go.WideShapes Go.Deep Go.Joins
set_option linter.unusedVariables false
set_option linter.unusedSimpArgs false
instance instND : Inhabited ND := ⟨nd0⟩
mutual
/-- a node's weight: its nodes, and the letters of its points -/
def wgtN : ND → Nat
  | .mk _ p _ _ l => p.y.size + p.m.size + p.d.size + 1 + wgtL l
def wgtL : List ND → Nat
  | [] => 0
  | x :: l => wgtN x + wgtL l
end
theorem wgt_sum {H : Type} (T : Nat → ND) (D : Nat → DataW H) : ∀ n, (∀ i, i < n → wgtN (T i) ≤ Rows.uptoBulk (D i)) → wgtL ((List.range n).map T) ≤ Rows.uptoBulkAll ((List.range n).map D) := by
  have app : ∀ a b : List ND, wgtL (a ++ b) = wgtL a + wgtL b := by
    intro a b
    induction a with
    | nil => simp [wgtL]
    | cons x a ih => simp [wgtL, ih, Nat.add_assoc]
  have appD : ∀ a b : List (DataW H), Rows.uptoBulkAll (a ++ b) = Rows.uptoBulkAll a + Rows.uptoBulkAll b := by
    intro a b
    induction a with
    | nil => simp [Rows.uptoBulkAll]
    | cons x a ih => simp [Rows.uptoBulkAll, ih, Nat.add_assoc]
  intro n
  induction n with
  | zero => intro _; simp [wgtL]
  | succ n ih =>
    intro h
    rw [List.range_succ, List.map_append, List.map_append, app, appD]
    have h1 := ih (fun i hi => h i (by omega))
    have h2 := h n (by omega)
    simp only [List.map_cons, List.map_nil, wgtL, Rows.uptoBulkAll]
    omega
theorem bulk_mem {H : Type} {d : DataW H} {l : List (DataW H)} (h : d ∈ l) : Rows.uptoBulk d ≤ Rows.uptoBulkAll l := by
  induction l with
  | nil => cases h
  | cons x r ih =>
    simp only [Rows.uptoBulkAll]
    rcases List.mem_cons.1 h with rfl | h
    · omega
    · have := ih h; omega
theorem ndGL_of {l : List ND} (h : ∀ x ∈ l, ndG x) : ndGL l := by
  induction l with
  | nil => trivial
  | cons x l ih => exact ⟨h x (by simp), ih fun y hy => h y (by simp [hy])⟩
section
variable {H : Type} {enc : TypeId × Value → H} {W : World} {v : Value} {d : DataW H} {p : List MemPlace} {base : Nat}
theorem cells_b1 : Tryz.prog.cellsOf 4 = 1 := by kernel_rfl
theorem cells_nd : Tryz.prog.cellsOf 26 = 8 := by kernel_rfl
theorem cells_nds : Tryz.prog.cellsOf 24 = 1 := by kernel_rfl
set_option maxRecDepth 100000 in
theorem point_read {fuel : Nat} {L : List Value} {y : DataW H × List MemPlace} (h : DataW.trod enc Tryz.prog W 0 (fun _ => true) true fuel 23 L = some y) :
    ∃ q : PT, L = [.int .i64 q.k, .string q.y, .string q.m, .string q.d] ∧ -9223372036854775808 ≤ q.k ∧ q.k ≤ 9223372036854775807 ∧ q.y.size + q.m.size + q.d.size + 1 ≤ Rows.uptoBulk y.1 := by
  obtain ⟨xs, k', hk, hxy, hlen, hxl, hf'⟩ := DataW.trod_struct Tryz.underlying23 h
  rw [cells_pt] at hlen
  match xs, hxl, L, hlen with
  | [y0, y1, y2, y3], _, [v0, v1, v2, v3], _ =>
    have g0 := hf' 0 _ rfl
    have g1 := hf' 1 _ rfl
    have g2 := hf' 2 _ rfl
    have g3 := hf' 3 _ rfl
    simp [cells_i1, cells_s1] at g0 g1 g2 g3
    obtain ⟨x0, q0, e0, w0⟩ := DataW.trod_int Tryz.underlying3 g0
    obtain ⟨x1, q1, e1, _⟩ := DataW.trod_string Tryz.underlying9 g1
    obtain ⟨x2, q2, e2, _⟩ := DataW.trod_string Tryz.underlying9 g2
    obtain ⟨x3, q3, e3, _⟩ := DataW.trod_string Tryz.underlying9 g3
    subst e0 e1 e2 e3
    simp only [List.cons.injEq, and_true] at q0 q1 q2 q3
    subst q0 q1 q2 q3
    refine ⟨⟨x0, x1, x2, x3⟩, rfl, (wf_bd w0).1, (wf_bd w0).2, ?_⟩
    rw [hxy]
    simp only [List.map_cons, List.map_nil, Rows.uptoBulk, Rows.uptoBulkAll]
    rw [show x1.data.toList.length = x1.size from rfl, show x2.data.toList.length = x2.size from rfl, show x3.data.toList.length = x3.size from rfl]
    omega
set_option maxRecDepth 100000 in
theorem node_read {N : Nat} (IH : ∀ (fuel : Nat) (v : Value) (y : DataW H × List MemPlace), Rows.uptoBulk y.1 < N → DataW.trod enc Tryz.prog W 0 (fun _ => true) true fuel 24 [v] = some y → ∃ l, NodesAt W v l ∧ ndGL l ∧ wgtL l + 1 ≤ Rows.uptoBulk y.1)
    {fuel : Nat} {L : List Value} {y : DataW H × List MemPlace} (hN : Rows.uptoBulk y.1 ≤ N) (h : DataW.trod enc Tryz.prog W 0 (fun _ => true) true fuel 26 L = some y) :
    ∃ (n : ND) (v : Value), L = [.int .i64 n.k, .int .i64 n.p.k, .string n.p.y, .string n.p.m, .string n.p.d, .bool n.a, .bool n.t, v] ∧ NodesAt W v n.l ∧ ndG n ∧ wgtN n ≤ Rows.uptoBulk y.1 := by
  obtain ⟨xs, k', hk, hxy, hlen, hxl, hf'⟩ := DataW.trod_struct Tryz.underlying26 h
  rw [cells_nd] at hlen
  match xs, hxl, L, hlen with
  | [y0, y1, y2, y3, y4], _, [v0, v1, v2, v3, v4, v5, v6, v7], _ =>
    have g0 := hf' 0 _ rfl
    have g1 := hf' 1 _ rfl
    have g2 := hf' 2 _ rfl
    have g3 := hf' 3 _ rfl
    have g4 := hf' 4 _ rfl
    simp [cells_i1, cells_b1, cells_pt, cells_nds] at g0 g1 g2 g3 g4
    obtain ⟨x0, q0, e0, w0⟩ := DataW.trod_int Tryz.underlying3 g0
    obtain ⟨q, q1, b0, b1, b2⟩ := point_read g1
    obtain ⟨x2, q2, e2⟩ := DataW.trod_bool Tryz.underlying4 g2
    obtain ⟨x3, q3, e3⟩ := DataW.trod_bool Tryz.underlying4 g3
    have bk : Rows.uptoBulk y.1 = Rows.uptoBulk y0.1 + (Rows.uptoBulk y1.1 + (Rows.uptoBulk y2.1 + (Rows.uptoBulk y3.1 + Rows.uptoBulk y4.1))) + 1 := by
      rw [hxy]
      simp [Rows.uptoBulk, Rows.uptoBulkAll]
    obtain ⟨l, hl, hg, hw⟩ := IH _ _ _ (by omega) g4
    simp only [List.cons.injEq, and_true] at q0 q1 q2 q3
    obtain ⟨r0, r1, r2, r3⟩ := q1
    subst q0 q2 q3 r0 r1 r2 r3
    refine ⟨.mk x0 q x2 x3 l, v7, rfl, hl, ⟨⟨(wf_bd w0).1, (wf_bd w0).2, b0, b1⟩, hg⟩, ?_⟩
    simp only [wgtN]
    omega
set_option maxRecDepth 100000 in
theorem nodes_trod : ∀ (N fuel : Nat) (v : Value) (y : DataW H × List MemPlace), Rows.uptoBulk y.1 < N → DataW.trod enc Tryz.prog W 0 (fun _ => true) true fuel 24 [v] = some y → ∃ l, NodesAt W v l ∧ ndGL l ∧ wgtL l + 1 ≤ Rows.uptoBulk y.1 := by
  intro N
  induction N with
  | zero => intro _ _ _ h; omega
  | succ N IH =>
    intro fuel v y hN hf
    rcases open_slice Tryz.underlying24 hf with ⟨hc, rfl⟩ | ⟨a, ln, cp, m, k, D, Pl, hc, _, hl, hm, hmm, rfl, hall⟩
    · simp at hc
      subst hc
      exact ⟨[], .none _ _, trivial, by simp [wgtL, Rows.uptoBulk]⟩
    · simp at hc
      subst hc
      simp only [if_true] at hmm
      subst hmm
      simp only [Rows.uptoBulk] at hN ⊢
      by_cases h0 : ln = 0
      · subst h0
        exact ⟨[], .none _ _, trivial, by simp [wgtL]⟩
      · have each : ∀ i, i < ln → ∃ n : ND, (∃ u, (∃ cs', W.cells? 0 (a.add (i * 8)) 8 = some cs' ∧ cs' = [.int .i64 n.k, .int .i64 n.p.k, .string n.p.y, .string n.p.m, .string n.p.d, .bool n.a, .bool n.t, u]) ∧ NodesAt W u n.l) ∧ ndG n ∧ wgtN n ≤ Rows.uptoBulk (D i) := by
          intro i hi
          obtain ⟨cs', h1, h2⟩ := hall i (by omega)
          rw [cells_nd] at h1
          have hb : Rows.uptoBulk (D i) ≤ N := by
            have := bulk_mem (d := D i) (l := (List.range ln).map D) (by simp; exact ⟨i, hi, rfl⟩)
            omega
          obtain ⟨n, u, e, hu, hg, hw⟩ := node_read IH hb h2
          exact ⟨n, ⟨u, ⟨cs', h1, e⟩, hu⟩, hg, hw⟩
        obtain ⟨T, hT⟩ := choose_lt each
        have hU : ∀ i, i < ln → ∃ u, (∃ cs', W.cells? 0 (a.add (i * 8)) 8 = some cs' ∧ cs' = [.int .i64 (T i).k, .int .i64 (T i).p.k, .string (T i).p.y, .string (T i).p.m, .string (T i).p.d, .bool (T i).a, .bool (T i).t, u]) ∧ NodesAt W u (T i).l := fun i hi => (hT i hi).1
        obtain ⟨b, off, sp⟩ := a
        have hs : sp = none := by
          obtain ⟨u, ⟨cs', h1, rfl⟩, _⟩ := hU 0 (by omega)
          obtain ⟨_, hlen, hcell⟩ := World.cells?_some h1
          have e0 := hcell 0 (by omega)
          rw [add_add] at e0
          have e1 : W.cell? (Addr.add ⟨b, off, sp⟩ 0) = some (.int .i64 (T 0).k) := by simpa using e0
          have q := World.cell?_spot e1
          simpa [Addr.add] using q
        subst hs
        have lt : ∀ i, i < ln → nth ((List.range ln).map T) i = T i := fun i hi => by unfold nth; simp [List.getD, hi]
        have hV : ∀ i, ∃ u, i < ln → (RowN W b (off + i * 8) (T i) u ∧ NodesAt W u (T i).l) := by
          intro i
          by_cases hi : i < ln
          · obtain ⟨u, ⟨cs', h1, rfl⟩, hu⟩ := hU i hi
            obtain ⟨_, hlen, hcell⟩ := World.cells?_some h1
            refine ⟨u, fun _ => ⟨?_, hu⟩⟩
            have e0 := hcell 0 (by omega)
            have e1 := hcell 1 (by omega)
            have e2 := hcell 2 (by omega)
            have e3 := hcell 3 (by omega)
            have e4 := hcell 4 (by omega)
            have e5 := hcell 5 (by omega)
            have e6 := hcell 6 (by omega)
            have e7 := hcell 7 (by omega)
            rw [add_add] at e0 e1 e2 e3 e4 e5 e6 e7
            rw [Addr.add_lit] at e0 e1 e2 e3 e4 e5 e6 e7
            exact ⟨by simpa [Nat.add_assoc] using e0, by simpa [Nat.add_assoc] using e1, by simpa [Nat.add_assoc] using e2, by simpa [Nat.add_assoc] using e3, by simpa [Nat.add_assoc] using e4, by simpa [Nat.add_assoc] using e5, by simpa [Nat.add_assoc] using e6, by simpa [Nat.add_assoc] using e7⟩
          · exact ⟨.bool false, fun h => absurd h hi⟩
        obtain ⟨vs, hvs⟩ := Classical.axiomOfChoice hV
        refine ⟨(List.range ln).map T, ?_, ndGL_of fun x hx => ?_, ?_⟩
        · have := NodesAt.row (w := W) ((List.range ln).map T) b off m vs (by simp; omega) (by simpa using hl) hm (fun i hi => by
            have hi' : i < ln := by simpa using hi
            rw [lt i hi']
            exact (hvs i hi').1) (fun i hi => by
            have hi' : i < ln := by simpa using hi
            rw [lt i hi']
            exact (hvs i hi').2)
          simpa using this
        · simp only [List.mem_map, List.mem_range] at hx
          obtain ⟨i, hi, rfl⟩ := hx
          exact (hT i hi).2.1
        · have := wgt_sum T D ln (fun i hi => (hT i hi).2.2)
          omega
set_option maxRecDepth 100000 in
theorem open_nodes (hv : Value.okWide Tryz.prog W .any base 24 v) (h : DataW.Trod enc Tryz.prog W 0 (fun _ => true) true 24 v d p) : ∃ l, NodesAt W v l ∧ ndGL l ∧ wgtL l + 1 ≤ Rows.uptoBulk d := by
  obtain ⟨ad, ln, cp, rfl⟩ := okWide_slice Tryz.underlying24 hv
  obtain ⟨fuel, hf⟩ := h
  exact nodes_trod (Rows.uptoBulk d + 1) fuel _ _ (Nat.lt_succ_self _) hf
set_option maxRecDepth 100000 in
theorem open_node (hv : Value.okWide Tryz.prog W .any base 26 v) (h : DataW.Trod enc Tryz.prog W 0 (fun _ => true) true 26 v d p) : ∃ (n : ND) (u : Value), v = ndV n u ∧ NodesAt W u n.l ∧ ndG n ∧ wgtN n ≤ Rows.uptoBulk d := by
  obtain ⟨cs, rfl, hsz⟩ := okWide_struct Tryz.underlying26 hv
  obtain ⟨fuel, hf⟩ := h
  obtain ⟨n, u, e, hu, hg, hw⟩ := node_read (N := Rows.uptoBulk d) (fun fuel v y _ hy => nodes_trod (Rows.uptoBulk y.1 + 1) fuel v y (Nat.lt_succ_self _) hy) (Nat.le_refl _) hf
  refine ⟨n, u, ?_, hu, hg, hw⟩
  unfold ndV
  simp only [Value.cells] at e
  obtain ⟨cs⟩ := cs
  simp only at e
  rw [e]
end
end Go.Proofs.YtmklpimaemogcaaGreatDoor
