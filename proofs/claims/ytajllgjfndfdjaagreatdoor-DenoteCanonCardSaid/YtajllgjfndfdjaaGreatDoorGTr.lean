import Derived.Test.YtajllgjfndfdjaaGreatDoorGPtA
import Derived.Laws.StructEq
import Derived.LoopTactic
import Derived.Test.YtajllgjfndfdjaaGreatDoorGLeafA
import Derived.Test.YtajllgjfndfdjaaGreatDoorRows
import Derived.Stop.LaidErr
import Derived.Lib.LaidTab
import Derived.Lib.SmallJoins
import Derived.Deep.Slices
import Derived.ChangeArms
namespace Go.Proofs.YtajllgjfndfdjaaGreatDoor
set_option linter.unusedVariables false
set_option linter.unusedSimpArgs false
inductive ND where
 | mk (k : Int) (p : PT) (a t : Bool) (l : List ND) : ND
def ND.k : ND → Int | .mk k _ _ _ _ => k
def ND.p : ND → PT | .mk _ p _ _ _ => p
def ND.a : ND → Bool | .mk _ _ a _ _ => a
def ND.t : ND → Bool | .mk _ _ _ t _ => t
def ND.l : ND → List ND | .mk _ _ _ _ l => l
mutual
def cntN : ND → Nat
 | .mk _ _ _ _ l => cntL l + 1
def cntL : List ND → Nat
 | [] => 0
 | x :: l => cntN x + cntL l
end
mutual
def depN : ND → Nat
 | .mk k _ _ _ l => depL l + (k == 2).toNat
def depL : List ND → Nat
 | [] => 0
 | x :: l => max (depN x) (depL l)
end
mutual
def hgtN : ND → Nat
 | .mk _ _ _ _ l => hgtL l + 1
def hgtL : List ND → Nat
 | [] => 0
 | x :: l => max (hgtN x) (hgtL l)
end
theorem cntL_append : ∀ a b : List ND, cntL (a ++ b) = cntL a + cntL b
 | [], b => by simp [cntL]
 | x :: a, b => by simp [cntL, cntL_append a b, Nat.add_assoc]
theorem depL_append : ∀ a b : List ND, depL (a ++ b) = max (depL a) (depL b)
 | [], b => by simp [depL]
 | x :: a, b => by simp [depL, depL_append a b, Nat.max_assoc]
mutual
theorem hgt_cnt : ∀ n : ND, hgtN n ≤ cntN n
 | .mk _ _ _ _ l => by simp only [hgtN, cntN]; have := hgt_cntL l; omega
theorem hgt_cntL : ∀ l : List ND, hgtL l ≤ cntL l
 | [] => by simp [hgtL, cntL]
 | x :: l => by simp only [hgtL, cntL]; have := hgt_cnt x; have := hgt_cntL l; omega
end
theorem cnt_pos (n : ND) : 1 ≤ cntN n := by cases n; simp only [cntN]; omega
theorem len_cntL : ∀ l : List ND, l.length ≤ cntL l
 | [] => by simp [cntL]
 | x :: l => by simp only [cntL, List.length_cons]; have := len_cntL l; have := cnt_pos x; omega
theorem cnt_mem : ∀ {l : List ND} {x : ND}, x ∈ l → cntN x ≤ cntL l
 | y :: l, x, h => by
  simp only [cntL]
  rcases List.mem_cons.1 h with rfl | h
  ·omega
  ·have := cnt_mem h; omega
def bareP (p : PT) : Bool := decide (p.k = 0) && (decide (p.y.size = 0) && (decide (p.m.size = 0) && decide (p.d.size = 0)))
def bareN (n : ND) : Bool := bareP n.p && (!n.a && !n.t)
section
variable (sp : PT → Bool)
def endN (n : ND) : Bool := (n.k == 0 && (sp n.p && n.l.isEmpty)) || ((n.k == 3 || n.k == 4) && (bareN n && n.l.isEmpty))
def twoN : List ND → Bool
 | [x, y] => endN sp x && endN sp y
 | _ => false
mutual
def rightN : ND → Bool
 | .mk k p a t l => (k == 0 && endN sp (.mk k p a t l)) || ((k == 1 && (bareN (.mk k p a t l) && twoN sp l)) || (k == 2 && (bareN (.mk k p a t l) && (!l.isEmpty && rightL l))))
def rightL : List ND → Bool
 | [] => true
 | x :: l => rightN x && rightL l
end
theorem rightL_all : ∀ l : List ND, rightL sp l = l.all (rightN sp)
 | [] => rfl
 | x :: l => by simp [rightL, rightL_all l]
end
mutual
def shortN : ND → Bool
 | .mk _ p _ _ l => (decide (p.y.size ≤ 10) && (decide (p.m.size ≤ 10) && decide (p.d.size ≤ 10))) && shortL l
def shortL : List ND → Bool
 | [] => true
 | x :: l => shortN x && shortL l
end
def saneN (sp : PT → Bool) (n : ND) : Bool := decide (cntN n ≤ 64) && (decide (depN n ≤ 8) && rightN sp n)
open Go.RowKit
structure KX (X : Nat → Prop) (w w' : World) : Prop where
 os : w'.os = w.os
 tape : w'.tape = w.tape
 output : w'.output = w.output
 size : w.heap.size ≤ w'.heap.size
 block : ∀ k, k < w.heap.size → ¬ X k → w'.heap[k]? = w.heap[k]?
theorem KX.trans {X : Nat → Prop} {a b c : World} (h : KX X a b) (k : KX X b c) : KX X a c :=
 ⟨k.os.trans h.os, k.tape.trans h.tape, k.output.trans h.output, Nat.le_trans h.size k.size, fun i hi hb => (k.block i (Nat.lt_of_lt_of_le hi h.size) hb).trans (h.block i hi hb)⟩
theorem KX.kp {X : Nat → Prop} {w w' : World} (h : Kp w w') : KX X w w' := ⟨h.os, h.tape, h.output, h.size, fun i hi _ => h.block i hi⟩
theorem KX.set {X : Nat → Prop} {B : Nat} (hB : X B) (w : World) (v : Value) : KX X w (w.setCell ⟨B, 0, none⟩ v) :=
 ⟨rfl, rfl, rfl, by unfold World.setCell; simp, fun k _ hb => Below.heap_setCell _ _ _ k (fun e => hb (by rw [e]; exact hB))⟩
theorem KX.to {X : Nat → Prop} {w w0 w' : World} (h : KX X w0 w') (k : Kp w w0) (hB : ∀ b, X b → w.heap.size ≤ b) : Kp w w' :=
 Below.trans k ⟨h.os, h.tape, h.output, h.size, fun i hi => h.block i (by have := k.size; omega) (fun x => by have := hB i x; omega)⟩
theorem KX.heap {X : Nat → Prop} {b : Nat} {w w' : World} {o : Obj} (h : KX X w w') (c : w.heap[b]? = some o) (hb : ¬ X b) : w'.heap[b]? = some o :=
 (h.block b (Array.getElem?_eq_some_iff.1 c).1 hb).trans c
def Cel (w : World) (B : Nat) (t : TypeId) (v : Value) : Prop := w.heap[B]? = some (.cells #[v] t (0, 0))
theorem Cel.lt {w : World} {B : Nat} {t : TypeId} {v : Value} (h : Cel w B t v) : B < w.heap.size := (Array.getElem?_eq_some_iff.1 h).1
theorem Cel.cell {w : World} {B : Nat} {t : TypeId} {v : Value} (h : Cel w B t v) : w.cell? ⟨B, 0, none⟩ = some v := by simp [World.cell?, show w.heap[B]? = _ from h]
theorem Cel.frozen {w : World} {B : Nat} {t : TypeId} {v : Value} (h : Cel w B t v) : w.frozen? ⟨B, 0, none⟩ = false := by simp [World.frozen?, show w.heap[B]? = _ from h]
theorem Cel.kx {X : Nat → Prop} {w w' : World} {B : Nat} {t : TypeId} {v : Value} (h : Cel w B t v) (k : KX X w w') (hB : ¬ X B) : Cel w' B t v := k.heap h hB
theorem Cel.kp {w w' : World} {B : Nat} {t : TypeId} {v : Value} (h : Cel w B t v) (k : Kp w w') : Cel w' B t v := heap_block k h
theorem Cel.set {w : World} {B : Nat} {t : TypeId} {v : Value} (h : Cel w B t v) (v' : Value) : Cel (w.setCell ⟨B, 0, none⟩ v') B t v' := ps_heap h 0 v'
theorem Cel.other {w : World} {B C : Nat} {t : TypeId} {v : Value} (h : Cel w B t v) (hc : B ≠ C) (v' : Value) : Cel (w.setCell ⟨C, 0, none⟩ v') B t v := (ps_other hc 0 v').trans h
def nd0 : ND := .mk 0 ⟨0, ⟨#[]⟩, ⟨#[]⟩, ⟨#[]⟩⟩ false false []
def nth (l : List ND) (i : Nat) : ND := l.getD i nd0
theorem nth_mem {l : List ND} {i : Nat} (h : i < l.length) : nth l i ∈ l := by
 unfold nth
 simp [List.getD, h]
theorem nth_take {l : List ND} {i : Nat} (h : i < l.length) : l.take (i + 1) = l.take i ++ [nth l i] := by
 unfold nth
 rw [List.take_add_one]
 simp [List.getD, h]
def ndV (n : ND) (lv : Value) : Value := .agg #[.int .i64 n.k, .int .i64 n.p.k, .string n.p.y, .string n.p.m, .string n.p.d, .bool n.a, .bool n.t, lv]
def RowN (w : World) (b o : Nat) (n : ND) (lv : Value) : Prop :=
 w.cell? ⟨b, o, none⟩ = some (.int .i64 n.k) ∧ w.cell? ⟨b, o + 1, none⟩ = some (.int .i64 n.p.k) ∧ w.cell? ⟨b, o + 2, none⟩ = some (.string n.p.y) ∧ w.cell? ⟨b, o + 3, none⟩ = some (.string n.p.m) ∧ w.cell? ⟨b, o + 4, none⟩ = some (.string n.p.d) ∧
 w.cell? ⟨b, o + 5, none⟩ = some (.bool n.a) ∧ w.cell? ⟨b, o + 6, none⟩ = some (.bool n.t) ∧ w.cell? ⟨b, o + 7, none⟩ = some lv
theorem RowN.kp {w w' : World} {b o : Nat} {n : ND} {lv : Value} (h : RowN w b o n lv) (k : Kp w w') : RowN w' b o n lv := by
 obtain ⟨h0, h1, h2, h3, h4, h5, h6, h7⟩ := h
 exact ⟨cell_up k h0, cell_up k h1, cell_up k h2, cell_up k h3, cell_up k h4, cell_up k h5, cell_up k h6, cell_up k h7⟩
inductive NodesAt (w : World) : Value → List ND → Prop
 | none (ad : Option Addr) (c : Nat) : NodesAt w (.slice ad 0 c) []
 | row (l : List ND) (b off cap : Nat) (vs : Nat → Value) (hp : 0 < l.length) (hc : l.length ≤ cap) (hm : cap ≤ maxLen) (hr : ∀ i, i < l.length → RowN w b (off + i * 8) (nth l i) (vs i)) (hs : ∀ i, i < l.length → NodesAt w (vs i) (nth l i).l) :
  NodesAt w (.slice (some ⟨b, off, Option.none⟩) l.length cap) l
theorem NodesAt.ind {w : World} {P : Value → List ND → Prop}
  (step : ∀ v l, (∃ ad c, v = .slice ad l.length c ∧ (0 < l.length → ∃ b off, ad = some ⟨b, off, Option.none⟩ ∧ ∀ i, i < l.length → ∃ vi, RowN w b (off + i * 8) (nth l i) vi ∧ NodesAt w vi (nth l i).l ∧ P vi (nth l i).l)) → P v l) :
  ∀ {v : Value} {l : List ND}, NodesAt w v l → P v l := by
 intro v l h
 induction h with
 | none ad c => exact step _ _ ⟨ad, c, rfl, fun h => by simp at h⟩
 | row l b off cap vs hp hc hm hr hs ih => exact step _ _ ⟨_, cap, rfl, fun _ => ⟨b, off, rfl, fun i hi => ⟨vs i, hr i hi, hs i hi, ih i hi⟩⟩⟩
theorem NodesAt.kp {w w' : World} {v : Value} {l : List ND} (h : NodesAt w v l) (k : Kp w w') : NodesAt w' v l := by
 induction h with
 | none ad c => exact .none ad c
 | row l b off cap vs hp hc hm hr hs ih => exact .row l b off cap vs hp hc hm (fun i hi => (hr i hi).kp k) ih
theorem NodesAt.slice {w : World} {v : Value} {l : List ND} (h : NodesAt w v l) : ∃ ad c, v = .slice ad l.length c := by
 cases h with
 | none ad c => exact ⟨ad, c, rfl⟩
 | row l b off cap vs hp hc hm hr hs => exact ⟨_, cap, rfl⟩
theorem NodesAt.len {w : World} {v : Value} {l : List ND} (h : NodesAt w v l) : l.length ≤ maxLen := by
 cases h with
 | none ad c => simp
 | row l b off cap vs hp hc hm hr hs => omega
mutual
def ndG : ND → Prop
 | .mk k p _ _ l => (-9223372036854775808 ≤ k ∧ k ≤ 9223372036854775807 ∧ -9223372036854775808 ≤ p.k ∧ p.k ≤ 9223372036854775807) ∧ ndGL l
def ndGL : List ND → Prop
 | [] => True
 | x :: l => ndG x ∧ ndGL l
end
theorem eta_nd (n : ND) : n = .mk n.k n.p n.a n.t n.l := by cases n; rfl
theorem bareP_eq (p : PT) : bareP p = (p.k == 0 && (p.y.toList == [] && (p.m.toList == [] && p.d.toList == []))) := by
 have h : ∀ s : ByteArray, decide (s.size = 0) = (s.toList == []) := fun s => by rw [← str_empty]; cases s.toList <;> rfl
 unfold bareP
 rw [h, h, h]
 rfl
theorem nd_dest (n : ND) : ∃ k pk y m d a t l, n = .mk k ⟨pk, y, m, d⟩ a t l := by
 obtain ⟨k, ⟨pk, y, m, d⟩, a, t, l⟩ := n
 exact ⟨k, pk, y, m, d, a, t, l, rfl⟩
set_option maxHeartbeats 4000000 in
set_option maxRecDepth 100000 in
theorem bare_any (n : ND) (v : Value) (w : World) : Calls Tryz.prog 18 #[ndV n v] w fun e w' => e = .returned (.bool (bareN n)) ∧ Kp w w' := by
 obtain ⟨k, pk, y, m, d, a, t, l, rfl⟩ := nd_dest n
 unfold ndV
 simp only [ND.k, ND.p, ND.a, ND.t]
 go_enter Tryz.func18, Tryz.ntmps18
 go_wp2
 all_goals go_ret
 all_goals refine ⟨?_, Kp.alloc _ _⟩
 all_goals simp_all [bareN, bareP_eq, ND.a, ND.t, ND.p]
theorem row8 {w : World} {b : Nat} {c0 c1 c2 c3 c4 c5 c6 c7 : Value} {t : TypeId} {fr : Nat × Nat} (hg : w.heap[b]? = some (.cells #[c0, c1, c2, c3, c4, c5, c6, c7] t fr)) :
  w.cell? ⟨b, 0, none⟩ = some c0 ∧ w.cell? ⟨b, 1, none⟩ = some c1 ∧ w.cell? ⟨b, 2, none⟩ = some c2 ∧ w.cell? ⟨b, 3, none⟩ = some c3 ∧ w.cell? ⟨b, 4, none⟩ = some c4 ∧ w.cell? ⟨b, 5, none⟩ = some c5 ∧ w.cell? ⟨b, 6, none⟩ = some c6 ∧ w.cell? ⟨b, 7, none⟩ = some c7 := by
 refine ⟨?_, ?_, ?_, ?_, ?_, ?_, ?_, ?_⟩ <;> simp [World.cell?, hg]
set_option maxHeartbeats 4000000 in
set_option maxRecDepth 100000 in
theorem of_node_any (p : PT) (a t : Bool) (w : World) : Calls Tryz.prog 11 #[ptV p, .bool a, .bool t] w fun e w' => e = .returned (ndV (.mk 0 p a t []) (.slice none 0 0)) ∧ Kp w w' := by
 obtain ⟨pk, y, m, d⟩ := p
 unfold ndV ptV
 simp only [ND.k, ND.p, ND.a, ND.t]
 go_enter Tryz.func11, Tryz.ntmps11
 go_wp2
 obtain ⟨x0, x1, x2, x3, x4, x5, x6, x7⟩ := row8 (heap_at (w.alloc (.cells #[.int .i64 pk, .string y, .string m, .string d] 23)) (.cells #[.int .i64 0, .int .i64 pk, .string y, .string m, .string d, .bool a, .bool t, .slice none 0 0] 26) (w.heap.size + 1) (by simp))
 exact bodyPost_ret (v := .agg #[.int .i64 0, .int .i64 pk, .string y, .string m, .string d, .bool a, .bool t, .slice none 0 0]) (by simp [results, Tryz.results11, go_sem, x0, x1, x2, x3, x4, x5, x6, x7]) rfl ⟨rfl, (Kp.alloc _ _).trans (Kp.alloc _ _)⟩
set_option maxHeartbeats 4000000 in
set_option maxRecDepth 100000 in
theorem oneOf_any (v : Value) (l : List ND) (w : World) (h : ∃ ad c, v = .slice ad l.length c) : Calls Tryz.prog 23 #[v] w fun e w' => e = .returned (ndV (.mk 2 ⟨0, ⟨#[]⟩, ⟨#[]⟩, ⟨#[]⟩⟩ false false l) v) ∧ Kp w w' := by
 obtain ⟨ad, c, rfl⟩ := h
 unfold ndV
 simp only [ND.k, ND.p, ND.a, ND.t]
 go_enter Tryz.func23, Tryz.ntmps23
 go_wp2
 obtain ⟨x0, x1, x2, x3, x4, x5, x6, x7⟩ := row8 (heap_at w (.cells #[.int .i64 2, .int .i64 0, .string ⟨#[]⟩, .string ⟨#[]⟩, .string ⟨#[]⟩, .bool false, .bool false, .slice ad l.length c] 26) w.heap.size rfl)
 exact bodyPost_ret (v := .agg #[.int .i64 2, .int .i64 0, .string ⟨#[]⟩, .string ⟨#[]⟩, .string ⟨#[]⟩, .bool false, .bool false, .slice ad l.length c]) (by simp [results, Tryz.results23, go_sem, x0, x1, x2, x3, x4, x5, x6, x7]) rfl ⟨rfl, Kp.alloc _ _⟩
set_option maxHeartbeats 4000000 in
set_option maxRecDepth 100000 in
theorem between_any (n m : ND) (v u : Value) (w : World) (hv : NodesAt w v n.l) (hu : NodesAt w u m.l) : Calls Tryz.prog 12 #[ndV n v, ndV m u] w fun e w' => ∃ s : Value, e = .returned (ndV (.mk 1 ⟨0, ⟨#[]⟩, ⟨#[]⟩, ⟨#[]⟩⟩ false false [n, m]) s) ∧ NodesAt w' s [n, m] ∧ Kp w w' := by
 obtain ⟨k, pk, y, q, d, a, t, l, rfl⟩ := nd_dest n
 obtain ⟨k', pk', y', q', d', a', t', l', rfl⟩ := nd_dest m
 unfold ndV
 simp only [ND.k, ND.p, ND.a, ND.t]
 go_enter Tryz.func12, Tryz.ntmps12
 go_wp2
 obtain ⟨W2, hW2⟩ : ∃ W, W = (w.alloc (.cells #[.int .i64 k, .int .i64 pk, .string y, .string q, .string d, .bool a, .bool t, v] 26)).alloc (.cells #[.int .i64 k', .int .i64 pk', .string y', .string q', .string d', .bool a', .bool t', u] 26) := ⟨_, rfl⟩
 have kW : Kp w W2 := by rw [hW2]; exact (Kp.alloc _ _).trans (Kp.alloc _ _)
 have zW : W2.heap.size = w.heap.size + 1 + 1 := by rw [hW2]; simp
 rw [← hW2]
 obtain ⟨W3, hW3⟩ : ∃ W, W = W2.alloc (.cells #[.int .i64 1, .int .i64 0, .string ⟨#[]⟩, .string ⟨#[]⟩, .string ⟨#[]⟩, .bool false, .bool false, .slice (some ⟨w.heap.size + 1 + 1 + 1, 0, none⟩) 2 2] 26) := ⟨_, rfl⟩
 have kW3 : Kp W2 W3 := by rw [hW3]; exact Kp.alloc _ _
 have zW3 : W3.heap.size = w.heap.size + 1 + 1 + 1 := by rw [hW3]; simp [zW]
 have g3 : W3.heap[w.heap.size + 1 + 1]? = some (.cells #[.int .i64 1, .int .i64 0, .string ⟨#[]⟩, .string ⟨#[]⟩, .string ⟨#[]⟩, .bool false, .bool false, .slice (some ⟨w.heap.size + 1 + 1 + 1, 0, none⟩) 2 2] 26 (0, 0)) := by rw [hW3]; exact heap_at _ _ _ zW
 rw [← hW3]
 obtain ⟨W4, hW4⟩ : ∃ W, W = W3.alloc (.cells #[.int .i64 k, .int .i64 pk, .string y, .string q, .string d, .bool a, .bool t, v, .int .i64 k', .int .i64 pk', .string y', .string q', .string d', .bool a', .bool t', u] 26) := ⟨_, rfl⟩
 have kW4 : Kp W3 W4 := by rw [hW4]; exact Kp.alloc _ _
 have g4 : W4.heap[w.heap.size + 1 + 1 + 1]? = some (.cells #[.int .i64 k, .int .i64 pk, .string y, .string q, .string d, .bool a, .bool t, v, .int .i64 k', .int .i64 pk', .string y', .string q', .string d', .bool a', .bool t', u] 26 (0, 0)) := by rw [hW4]; exact heap_at _ _ _ zW3
 obtain ⟨x0, x1, x2, x3, x4, x5, x6, x7⟩ := row8 (heap_block kW4 g3)
 rw [← hW4]
 have KK : Kp w W4 := kW.trans (kW3.trans kW4)
 refine bodyPost_ret (v := .agg #[.int .i64 1, .int .i64 0, .string ⟨#[]⟩, .string ⟨#[]⟩, .string ⟨#[]⟩, .bool false, .bool false, .slice (some ⟨w.heap.size + 1 + 1 + 1, 0, none⟩) 2 2]) (by simp [results, Tryz.results12, go_sem, x0, x1, x2, x3, x4, x5, x6, x7]) rfl ⟨_, rfl, ?_, KK⟩
 refine NodesAt.row [.mk k ⟨pk, y, q, d⟩ a t l, .mk k' ⟨pk', y', q', d'⟩ a' t' l'] (w.heap.size + 1 + 1 + 1) 0 2 (fun i => if i = 0 then v else u) (by simp) (by simp) (by decide) ?_ ?_
 ·intro i hi
  simp only [List.length_cons, List.length_nil] at hi
  match i, hi with
  | 0, _ => refine ⟨?_, ?_, ?_, ?_, ?_, ?_, ?_, ?_⟩ <;> simp [World.cell?, g4, nth, ND.k, ND.p, ND.a, ND.t]
  | 1, _ => refine ⟨?_, ?_, ?_, ?_, ?_, ?_, ?_, ?_⟩ <;> simp [World.cell?, g4, nth, ND.k, ND.p, ND.a, ND.t]
 ·intro i hi
  simp only [List.length_cons, List.length_nil] at hi
  match i, hi with
  | 0, _ => exact hv.kp KK
  | 1, _ => exact hu.kp KK
set_option maxHeartbeats 4000000 in
set_option maxRecDepth 100000 in
theorem end_any (n : ND) (v : Value) (w : World) (h : ∃ ad c, v = .slice ad n.l.length c) (T : TabSH w) : Calls Tryz.prog 17 #[ndV n v] w fun e w' => e = .returned (.bool (endN saneP n)) ∧ Kp w w' := by
 obtain ⟨ad, c, rfl⟩ := h
 have CB := Lib.hid (fun w1 => bare_any n (.slice ad n.l.length c) w1)
 obtain ⟨k, pk, y, m, d, a, t, l, rfl⟩ := nd_dest n
 have CS := Lib.hid (fun w1 (q : Kp w w1) => show Calls Tryz.prog 26 #[.agg #[.int .i64 pk, .string y, .string m, .string d]] w1 _ from ptSane_any ⟨pk, y, m, d⟩ w1 (T.kp q))
 unfold endN
 unfold ndV at *
 simp only [ND.k, ND.p, ND.a, ND.t, ND.l] at *
 generalize bareN (.mk k ⟨pk, y, m, d⟩ a t l) = bb at *
 generalize saneP ⟨pk, y, m, d⟩ = ss at *
 have le : l.isEmpty = decide (l.length = 0) := by cases l <;> rfl
 rw [le]
 have li : ((l.length : Int) == 0) = decide (l.length = 0) := by
  by_cases h : l.length = 0
  ·rw [h]; rfl
  ·rw [decide_eq_false h, beq_eq_false_iff_ne]; omega
 generalize decide (l.length = 0) = lb at *
 by_cases h0 : k = 0
 ·subst h0
  go_enter Tryz.func17, Tryz.ntmps17
  go_wp2_with fail
  refine (CS.out _ (Kp.alloc _ _)).mono ?_
  rintro e w1 ⟨rfl, kk⟩
  obtain ⟨x0, x1, x2, x3, x4, x5, x6, x7⟩ := row8 (heap_block kk (heap_at w (.cells #[.int .i64 0, .int .i64 pk, .string y, .string m, .string d, .bool a, .bool t, .slice ad l.length c] 26) w.heap.size rfl))
  go_wp2
  all_goals go_ret
  all_goals refine ⟨?_, (Kp.alloc _ _).trans kk⟩
  all_goals simp_all
 ·have q0 : (k == 0) = false := beq_eq_false_iff_ne.2 h0
  by_cases h3 : k = 3
  ·subst h3
   go_enter Tryz.func17, Tryz.ntmps17
   go_wp2_with fail
   refine (CB.out _).mono ?_
   rintro e w1 ⟨rfl, kk⟩
   obtain ⟨x0, x1, x2, x3, x4, x5, x6, x7⟩ := row8 (heap_block kk (heap_at w (.cells #[.int .i64 3, .int .i64 pk, .string y, .string m, .string d, .bool a, .bool t, .slice ad l.length c] 26) w.heap.size rfl))
   go_wp2
   all_goals go_ret
   all_goals refine ⟨?_, (Kp.alloc _ _).trans kk⟩
   all_goals simp_all
  ·have q3 : (k == 3) = false := beq_eq_false_iff_ne.2 h3
   by_cases h4 : k = 4
   ·subst h4
    go_enter Tryz.func17, Tryz.ntmps17
    go_wp2_with fail
    refine (CB.out _).mono ?_
    rintro e w1 ⟨rfl, kk⟩
    obtain ⟨x0, x1, x2, x3, x4, x5, x6, x7⟩ := row8 (heap_block kk (heap_at w (.cells #[.int .i64 4, .int .i64 pk, .string y, .string m, .string d, .bool a, .bool t, .slice ad l.length c] 26) w.heap.size rfl))
    go_wp2
    all_goals go_ret
    all_goals refine ⟨?_, (Kp.alloc _ _).trans kk⟩
    all_goals simp_all
   ·have q4 : (k == 4) = false := beq_eq_false_iff_ne.2 h4
    go_enter Tryz.func17, Tryz.ntmps17
    go_wp2
    go_ret
    refine ⟨?_, Kp.alloc _ _⟩
    simp_all
theorem cntL_take {l : List ND} {i : Nat} (h : i < l.length) : cntL (l.take (i + 1)) = cntL (l.take i) + cntN (nth l i) := by
 rw [nth_take h, cntL_append]
 simp [cntL]
theorem depL_take {l : List ND} {i : Nat} (h : i < l.length) : depL (l.take (i + 1)) = max (depL (l.take i)) (depN (nth l i)) := by
 rw [nth_take h, depL_append]
 simp [depL]
theorem cntL_le {l : List ND} (i : Nat) : cntL (l.take i) ≤ cntL l := by
 conv => rhs; rw [← List.take_append_drop i l]
 rw [cntL_append]
 omega
theorem depL_le {l : List ND} (i : Nat) : depL (l.take i) ≤ depL l := by
 conv => rhs; rw [← List.take_append_drop i l]
 rw [depL_append]
 omega
theorem cntN_mk (n : ND) : cntN n = cntL n.l + 1 := by cases n; rfl
theorem depN_mk (n : ND) : depN n = depL n.l + (n.k == 2).toNat := by cases n; rfl
theorem cnt_at {l : List ND} {i : Nat} (h : i < l.length) : cntL (l.take i) + cntN (nth l i) ≤ cntL l := by
 rw [← cntL_take h]
 exact cntL_le _
theorem dep_at {l : List ND} {i : Nat} (h : i < l.length) : depN (nth l i) ≤ depL l := by
 have a := depL_take h
 have b := depL_le (l := l) (i + 1)
 omega
def okX (c j : Int) (n : ND) : Bool := decide (c + (cntN n : Int) ≤ 64) && (decide (j + (depN n : Int) ≤ 8) && rightN saneP n)
theorem endN_leaf {sp : PT → Bool} {n : ND} (h : endN sp n = true) : n.l = [] := by
 unfold endN at h
 simp only [Bool.or_eq_true, Bool.and_eq_true, List.isEmpty_iff] at h
 rcases h with ⟨_, _, h⟩ | ⟨_, _, h⟩ <;> exact h
theorem okX_end {c j : Int} {p : PT} {a t : Bool} {l : List ND} (hc : c ≤ 63) (hj : j ≤ 8) : okX c j (.mk 0 p a t l) = endN saneP (.mk 0 p a t l) := by
 unfold okX
 have e : rightN saneP (.mk 0 p a t l) = endN saneP (.mk 0 p a t l) := by simp [rightN]
 rw [e]
 cases h : endN saneP (.mk 0 p a t l) with
 | false => simp
 | true =>
  have hl : l = [] := endN_leaf h
  subst hl
  simp [cntN, cntL, depN, depL]
  omega
theorem okX_other {c j k : Int} {p : PT} {a t : Bool} {l : List ND} (h0 : (k == 0) = false) (h1 : (k == 1) = false) (h2 : (k == 2) = false) : okX c j (.mk k p a t l) = false := by
 unfold okX
 have e : rightN saneP (.mk k p a t l) = false := by simp only [rightN, h0, h1, h2, Bool.false_and, Bool.or_false]
 rw [e]
 simp
theorem okX_full {c j : Int} {n : ND} (hc : 64 ≤ c) : okX c j n = false := by
 unfold okX
 have := cnt_pos n
 rw [decide_eq_false (by omega), Bool.false_and]
theorem okX_span {c j : Int} {p : PT} {a t : Bool} {l : List ND} (hj : j ≤ 8) : okX c j (.mk 1 p a t l) = (bareN (.mk 1 p a t l) && (twoN saneP l && decide (c + 3 ≤ 64))) := by
 unfold okX
 have e : rightN saneP (.mk 1 p a t l) = (bareN (.mk 1 p a t l) && twoN saneP l) := by simp [rightN]
 rw [e]
 cases hb : bareN (.mk 1 p a t l) with
 | false => simp
 | true =>
  cases ht : twoN saneP l with
  | false => simp
  | true =>
   match l, ht with
   | [x, y], ht =>
    simp only [twoN, Bool.and_eq_true] at ht
    have hx := endN_leaf ht.1
    have hy := endN_leaf ht.2
    have cx : cntN x = 1 := by rw [cntN_mk, hx]; rfl
    have cy : cntN y = 1 := by rw [cntN_mk, hy]; rfl
    have dx : depN x = 0 := by
     have := ht.1
     unfold endN at this
     rw [depN_mk, hx]
     by_cases k2 : x.k = 2
     ·rw [k2] at this; simp at this
     ·simp [depL, k2]
    have dy : depN y = 0 := by
     have := ht.2
     unfold endN at this
     rw [depN_mk, hy]
     by_cases k2 : y.k = 2
     ·rw [k2] at this; simp at this
     ·simp [depL, k2]
    simp only [cntN, cntL, depN, depL, cx, cy, dx, dy]
    have : decide (j + ((max 0 (max 0 0) + ((1 : Int) == 2).toNat : Nat) : Int) ≤ 8) = true := by simp; omega
    rw [this]
    simp
theorem okX_list {c j : Int} {p : PT} {a t : Bool} {l : List ND} (h : okX c j (.mk 2 p a t l) = true) : bareN (.mk 2 p a t l) = true ∧ l ≠ [] ∧ j < 8 := by
 unfold okX at h
 simp only [Bool.and_eq_true, decide_eq_true_eq] at h
 obtain ⟨_, h2, h3⟩ := h
 have e : rightN saneP (.mk 2 p a t l) = (bareN (.mk 2 p a t l) && (!l.isEmpty && rightL saneP l)) := by simp [rightN]
 rw [e, Bool.and_eq_true, Bool.and_eq_true] at h3
 refine ⟨h3.1, ?_, ?_⟩
 ·intro e; rw [e] at h3; simp at h3
 ·simp only [depN] at h2
  have : ((2 : Int) == 2).toNat = 1 := rfl
  omega
theorem okX_elem {c j : Int} {p : PT} {a t : Bool} {l : List ND} (h : okX c j (.mk 2 p a t l) = true) {i : Nat} (hi : i < l.length) : okX (c + 1 + (cntL (l.take i) : Int)) (j + 1) (nth l i) = true := by
 unfold okX at *
 simp only [Bool.and_eq_true, decide_eq_true_eq] at *
 obtain ⟨h1, h2, h3⟩ := h
 have e : rightN saneP (.mk 2 p a t l) = (bareN (.mk 2 p a t l) && (!l.isEmpty && rightL saneP l)) := by simp [rightN]
 rw [e, Bool.and_eq_true, Bool.and_eq_true, rightL_all] at h3
 simp only [cntN, depN] at h1 h2
 have ca := cnt_at hi
 have da := dep_at hi
 have : ((2 : Int) == 2).toNat = 1 := rfl
 exact ⟨by omega, by omega, List.all_eq_true.1 h3.2.2 _ (nth_mem hi)⟩
theorem depL_bd {l : List ND} {j : Int} : (∀ i, i < l.length → j + (depN (nth l i) : Int) ≤ 8) → j ≤ 8 → j + (depL l : Int) ≤ 8 := by
 intro h hj
 have : ∀ i, i ≤ l.length → j + (depL (l.take i) : Int) ≤ 8 := by
  intro i
  induction i with
  | zero => intro _; simp [depL]; exact hj
  | succ i ih =>
   intro hi
   have a := ih (by omega)
   have b := h i (by omega)
   rw [depL_take (by omega)]
   omega
 have g := this l.length (Nat.le_refl _)
 rwa [List.take_length] at g
theorem okX_all {c j : Int} {p : PT} {a t : Bool} {l : List ND} (hb : bareN (.mk 2 p a t l) = true) (hne : l ≠ []) (hj : j < 8) (hcc : c + 1 + (cntL l : Int) ≤ 64) (h : ∀ i, i < l.length → okX (c + 1 + (cntL (l.take i) : Int)) (j + 1) (nth l i) = true) : okX c j (.mk 2 p a t l) = true := by
 have e : rightN saneP (.mk 2 p a t l) = (bareN (.mk 2 p a t l) && (!l.isEmpty && rightL saneP l)) := by simp [rightN]
 have hd : j + 1 + (depL l : Int) ≤ 8 := depL_bd (fun i hi => by
  have := h i hi
  unfold okX at this
  simp only [Bool.and_eq_true, decide_eq_true_eq] at this
  exact this.2.1) (by omega)
 unfold okX
 simp only [Bool.and_eq_true, decide_eq_true_eq]
 refine ⟨by simp only [cntN]; omega, ?_, ?_⟩
 ·simp only [depN]
  have : ((2 : Int) == 2).toNat = 1 := rfl
  omega
 ·rw [e, hb, Bool.true_and, rightL_all, Bool.and_eq_true]
  refine ⟨by cases l with | nil => exact absurd rfl hne | cons x t => rfl, ?_⟩
  rw [List.all_eq_true]
  intro x hx
  obtain ⟨i, hi, rfl⟩ := List.getElem_of_mem hx
  have := h i hi
  unfold okX at this
  simp only [Bool.and_eq_true] at this
  have en : nth l i = l[i] := by unfold nth; simp [List.getD, hi]
  rw [← en]
  exact this.2.2
theorem two_of {l : List ND} (h : l.length = 2) : ∃ x z, l = [x, z] := by
 match l, h with
 | [x, z], _ => exact ⟨x, z, rfl⟩
theorem two_no {sp : PT → Bool} {l : List ND} (h : ¬ l.length = 2) : twoN sp l = false := by
 match l, h with
 | [], _ => rfl
 | [_], _ => rfl
 | [_, _], h => exact absurd rfl h
 | _ :: _ :: _ :: _, _ => rfl
theorem two_cnt {sp : PT → Bool} {x z : ND} (a : endN sp x = true) (b : endN sp z = true) : cntL [x, z] = 2 := by
 simp only [cntL]
 rw [cntN_mk x, cntN_mk z, endN_leaf a, endN_leaf b]
 rfl
set_option maxHeartbeats 16000000 in
set_option maxRecDepth 100000 in
theorem isg0_any (w0 : World) (BN BF : Nat) (h1 : BN ≠ BF) (b1 : w0.heap.size ≤ BN) (T : TabSH w0) (v : Value) (l : List ND)
  (hh : ∃ ad cp, v = .slice ad l.length cp ∧ (0 < l.length → ∃ b off, ad = some ⟨b, off, none⟩ ∧ ∀ i, i < l.length → ∃ vi, RowN w0 b (off + i * 8) (nth l i) vi ∧ NodesAt w0 vi (nth l i).l ∧ (fun v l => ∀ (k : Int) (p : PT) (a t : Bool) (j c : Int) (w : World), Kp w0 w → Cel w BN 3 (.int .i64 c) → Cel w BF 47 (.func (.func 16) #[] #[.pointer (some ⟨BN, 0, none⟩), .pointer (some ⟨BF, 0, none⟩)]) → 0 ≤ c ∧ c ≤ 64 → 0 ≤ j ∧ j ≤ 8 → l.length ≤ 9223372036854775807 →
   Calls Tryz.prog 16 #[ndV (.mk k p a t l) v, .int .i64 j, .pointer (some ⟨BN, 0, none⟩), .pointer (some ⟨BF, 0, none⟩)] w fun e w' =>
    ∃ cv : Int, e = .returned (.bool (okX c j (.mk k p a t l))) ∧ KX (fun b => b = BN) w w' ∧ Cel w' BN 3 (.int .i64 cv) ∧ (okX c j (.mk k p a t l) = true → cv = c + (cntN (.mk k p a t l) : Int))) vi (nth l i).l)) :
  ∀ (p : PT) (a t : Bool) (j c : Int) (w : World), Kp w0 w → Cel w BN 3 (.int .i64 c) → Cel w BF 47 (.func (.func 16) #[] #[.pointer (some ⟨BN, 0, none⟩), .pointer (some ⟨BF, 0, none⟩)]) → 0 ≤ c ∧ c ≤ 64 → 0 ≤ j ∧ j ≤ 8 → l.length ≤ 9223372036854775807 →
   Calls Tryz.prog 16 #[ndV (.mk 0 p a t l) v, .int .i64 j, .pointer (some ⟨BN, 0, none⟩), .pointer (some ⟨BF, 0, none⟩)] w fun e w' =>
    ∃ cv : Int, e = .returned (.bool (okX c j (.mk 0 p a t l))) ∧ KX (fun b => b = BN) w w' ∧ Cel w' BN 3 (.int .i64 cv) ∧ (okX c j (.mk 0 p a t l) = true → cv = c + (cntN (.mk 0 p a t l) : Int)) := by
 obtain ⟨ad, cp, rfl, hrow⟩ := hh
 intro p a t j c w k0 cn cf ⟨c0, c9⟩ ⟨j0, j9⟩ hl
 have ll := len_cntL l
 have CE := Lib.hid (fun w1 (q : Kp w0 w1) => end_any (.mk 0 p a t l) (.slice ad l.length cp) w1 ⟨_, _, rfl⟩ (T.kp q))
 have CB := Lib.hid (fun w1 => bare_any (.mk 0 p a t l) (.slice ad l.length cp) w1)
 obtain ⟨pk, y, m, q⟩ := p
 have HR := Lib.hid hrow
 unfold ndV at *
 simp only [ND.k, ND.p, ND.a, ND.t, ND.l] at *
 have n1 := cn.cell
 have n2 := cn.frozen
 have n3 := cn.lt
 have n4 : ¬ BN = w.heap.size := by omega
 have f3 := cf.lt
 have CF := Lib.hid cf
 have CN := Lib.hid cn
 have K0 := Lib.hid k0
 clear hrow cn cf k0
 by_cases hc : c = 64
 ·subst hc
  rw [okX_full (by decide)]
  go_enter Tryz.func16, Tryz.ntmps16
  go_wp2
  obtain ⟨W2, hW2⟩ : ∃ x, x = (w.setCell ⟨BN, 0, none⟩ (.int .i64 65)).alloc (.cells #[.int .i64 0, .int .i64 pk, .string y, .string m, .string q, .bool a, .bool t, .slice ad l.length cp] 26) := ⟨_, rfl⟩
  have kx2 : KX (fun b => b = BN) w W2 := by rw [hW2]; exact (KX.set (X := fun b => b = BN) rfl w _).trans (KX.kp (Kp.alloc _ _))
  have gB : W2.heap[w.heap.size]? = some (.cells #[.int .i64 0, .int .i64 pk, .string y, .string m, .string q, .bool a, .bool t, .slice ad l.length cp] 26 (0, 0)) := by rw [hW2]; exact heap_at _ _ _ (by unfold World.setCell; simp)
  have cn2 : Cel W2 BN 3 (.int .i64 65) := by rw [hW2]; exact (CN.out.set _).kp (Kp.alloc _ _)
  have k02 : Kp w0 W2 := kx2.to K0.out (fun b h => by omega)
  rw [← hW2]
  go_ret
  exact ⟨65, rfl, kx2, cn2, fun h => by cases h⟩
 have hc2 : c ≤ 63 := by omega
 clear hc
 rw [okX_end hc2 (by omega)]
 have EL := Lib.hid (fun h => endN_leaf (n := .mk 0 ⟨pk, y, m, q⟩ a t l) (sp := saneP) h)
 generalize endN saneP (.mk 0 ⟨pk, y, m, q⟩ a t l) = be at *
 go_enter Tryz.func16, Tryz.ntmps16
 go_wp2_with fail
 obtain ⟨W2, hW2⟩ : ∃ x, x = (w.setCell ⟨BN, 0, none⟩ (.int .i64 (c + 1))).alloc (.cells #[.int .i64 0, .int .i64 pk, .string y, .string m, .string q, .bool a, .bool t, .slice ad l.length cp] 26) := ⟨_, rfl⟩
 have kx2 : KX (fun b => b = BN) w W2 := by rw [hW2]; exact (KX.set (X := fun b => b = BN) rfl w _).trans (KX.kp (Kp.alloc _ _))
 have gB : W2.heap[w.heap.size]? = some (.cells #[.int .i64 0, .int .i64 pk, .string y, .string m, .string q, .bool a, .bool t, .slice ad l.length cp] 26 (0, 0)) := by rw [hW2]; exact heap_at _ _ _ (by unfold World.setCell; simp)
 have cn2 : Cel W2 BN 3 (.int .i64 (c + 1)) := by rw [hW2]; exact (CN.out.set _).kp (Kp.alloc _ _)
 have k02 : Kp w0 W2 := kx2.to K0.out (fun b h => by omega)
 rw [← hW2]
 refine (CE.out _ k02).mono ?_
 rintro e w3 ⟨rfl, kk⟩
 have KX3 := Lib.hid (kx2.trans (KX.kp kk))
 have CN3 := Lib.hid (cn2.kp kk)
 clear hW2 kx2 gB cn2 k02 kk n1 n2
 go_wp2
 go_ret
 exact ⟨c + 1, rfl, KX3.out, CN3.out, fun h => by have := EL.out h; simp only [ND.l] at this; subst this; simp [cntN, cntL]⟩
set_option maxHeartbeats 16000000 in
set_option maxRecDepth 100000 in
theorem isg3_any (w0 : World) (BN BF : Nat) (h1 : BN ≠ BF) (b1 : w0.heap.size ≤ BN) (T : TabSH w0) (v : Value) (l : List ND)
  (hh : ∃ ad cp, v = .slice ad l.length cp ∧ (0 < l.length → ∃ b off, ad = some ⟨b, off, none⟩ ∧ ∀ i, i < l.length → ∃ vi, RowN w0 b (off + i * 8) (nth l i) vi ∧ NodesAt w0 vi (nth l i).l ∧ (fun v l => ∀ (k : Int) (p : PT) (a t : Bool) (j c : Int) (w : World), Kp w0 w → Cel w BN 3 (.int .i64 c) → Cel w BF 47 (.func (.func 16) #[] #[.pointer (some ⟨BN, 0, none⟩), .pointer (some ⟨BF, 0, none⟩)]) → 0 ≤ c ∧ c ≤ 64 → 0 ≤ j ∧ j ≤ 8 → l.length ≤ 9223372036854775807 →
   Calls Tryz.prog 16 #[ndV (.mk k p a t l) v, .int .i64 j, .pointer (some ⟨BN, 0, none⟩), .pointer (some ⟨BF, 0, none⟩)] w fun e w' =>
    ∃ cv : Int, e = .returned (.bool (okX c j (.mk k p a t l))) ∧ KX (fun b => b = BN) w w' ∧ Cel w' BN 3 (.int .i64 cv) ∧ (okX c j (.mk k p a t l) = true → cv = c + (cntN (.mk k p a t l) : Int))) vi (nth l i).l)) :
  ∀ (k : Int) (p : PT) (a t : Bool) (j c : Int) (w : World), Kp w0 w → Cel w BN 3 (.int .i64 c) → Cel w BF 47 (.func (.func 16) #[] #[.pointer (some ⟨BN, 0, none⟩), .pointer (some ⟨BF, 0, none⟩)]) → (k == 0) = false ∧ (k == 1) = false ∧ (k == 2) = false → 0 ≤ c ∧ c ≤ 64 → 0 ≤ j ∧ j ≤ 8 → l.length ≤ 9223372036854775807 →
   Calls Tryz.prog 16 #[ndV (.mk k p a t l) v, .int .i64 j, .pointer (some ⟨BN, 0, none⟩), .pointer (some ⟨BF, 0, none⟩)] w fun e w' =>
    ∃ cv : Int, e = .returned (.bool (okX c j (.mk k p a t l))) ∧ KX (fun b => b = BN) w w' ∧ Cel w' BN 3 (.int .i64 cv) ∧ (okX c j (.mk k p a t l) = true → cv = c + (cntN (.mk k p a t l) : Int)) := by
 obtain ⟨ad, cp, rfl, hrow⟩ := hh
 intro k p a t j c w k0 cn cf ⟨e0, e1, e2⟩ ⟨c0, c9⟩ ⟨j0, j9⟩ hl
 have ll := len_cntL l
 have CE := Lib.hid (fun w1 (q : Kp w0 w1) => end_any (.mk k p a t l) (.slice ad l.length cp) w1 ⟨_, _, rfl⟩ (T.kp q))
 have CB := Lib.hid (fun w1 => bare_any (.mk k p a t l) (.slice ad l.length cp) w1)
 obtain ⟨pk, y, m, q⟩ := p
 have HR := Lib.hid hrow
 unfold ndV at *
 simp only [ND.k, ND.p, ND.a, ND.t, ND.l] at *
 have n1 := cn.cell
 have n2 := cn.frozen
 have n3 := cn.lt
 have n4 : ¬ BN = w.heap.size := by omega
 have f3 := cf.lt
 have CF := Lib.hid cf
 have CN := Lib.hid cn
 have K0 := Lib.hid k0
 clear hrow cn cf k0
 rw [okX_other e0 e1 e2]
 by_cases hc : c = 64
 ·subst hc
  go_enter Tryz.func16, Tryz.ntmps16
  go_wp2
  obtain ⟨W2, hW2⟩ : ∃ x, x = (w.setCell ⟨BN, 0, none⟩ (.int .i64 65)).alloc (.cells #[.int .i64 k, .int .i64 pk, .string y, .string m, .string q, .bool a, .bool t, .slice ad l.length cp] 26) := ⟨_, rfl⟩
  have kx2 : KX (fun b => b = BN) w W2 := by rw [hW2]; exact (KX.set (X := fun b => b = BN) rfl w _).trans (KX.kp (Kp.alloc _ _))
  have gB : W2.heap[w.heap.size]? = some (.cells #[.int .i64 k, .int .i64 pk, .string y, .string m, .string q, .bool a, .bool t, .slice ad l.length cp] 26 (0, 0)) := by rw [hW2]; exact heap_at _ _ _ (by unfold World.setCell; simp)
  have cn2 : Cel W2 BN 3 (.int .i64 65) := by rw [hW2]; exact (CN.out.set _).kp (Kp.alloc _ _)
  have k02 : Kp w0 W2 := kx2.to K0.out (fun b h => by omega)
  rw [← hW2]
  go_ret
  exact ⟨65, rfl, kx2, cn2, fun h => by cases h⟩
 have hc2 : c ≤ 63 := by omega
 clear hc
 go_enter Tryz.func16, Tryz.ntmps16
 go_wp2
 obtain ⟨W2, hW2⟩ : ∃ x, x = (w.setCell ⟨BN, 0, none⟩ (.int .i64 (c + 1))).alloc (.cells #[.int .i64 k, .int .i64 pk, .string y, .string m, .string q, .bool a, .bool t, .slice ad l.length cp] 26) := ⟨_, rfl⟩
 have kx2 : KX (fun b => b = BN) w W2 := by rw [hW2]; exact (KX.set (X := fun b => b = BN) rfl w _).trans (KX.kp (Kp.alloc _ _))
 have gB : W2.heap[w.heap.size]? = some (.cells #[.int .i64 k, .int .i64 pk, .string y, .string m, .string q, .bool a, .bool t, .slice ad l.length cp] 26 (0, 0)) := by rw [hW2]; exact heap_at _ _ _ (by unfold World.setCell; simp)
 have cn2 : Cel W2 BN 3 (.int .i64 (c + 1)) := by rw [hW2]; exact (CN.out.set _).kp (Kp.alloc _ _)
 have k02 : Kp w0 W2 := kx2.to K0.out (fun b h => by omega)
 rw [← hW2]
 go_ret
 exact ⟨c + 1, rfl, kx2, cn2, fun h => by cases h⟩
set_option maxHeartbeats 16000000 in
set_option maxRecDepth 100000 in
theorem isg1_any (w0 : World) (BN BF : Nat) (h1 : BN ≠ BF) (b1 : w0.heap.size ≤ BN) (T : TabSH w0) (v : Value) (l : List ND)
  (hh : ∃ ad cp, v = .slice ad l.length cp ∧ (0 < l.length → ∃ b off, ad = some ⟨b, off, none⟩ ∧ ∀ i, i < l.length → ∃ vi, RowN w0 b (off + i * 8) (nth l i) vi ∧ NodesAt w0 vi (nth l i).l ∧ (fun v l => ∀ (k : Int) (p : PT) (a t : Bool) (j c : Int) (w : World), Kp w0 w → Cel w BN 3 (.int .i64 c) → Cel w BF 47 (.func (.func 16) #[] #[.pointer (some ⟨BN, 0, none⟩), .pointer (some ⟨BF, 0, none⟩)]) → 0 ≤ c ∧ c ≤ 64 → 0 ≤ j ∧ j ≤ 8 → l.length ≤ 9223372036854775807 →
   Calls Tryz.prog 16 #[ndV (.mk k p a t l) v, .int .i64 j, .pointer (some ⟨BN, 0, none⟩), .pointer (some ⟨BF, 0, none⟩)] w fun e w' =>
    ∃ cv : Int, e = .returned (.bool (okX c j (.mk k p a t l))) ∧ KX (fun b => b = BN) w w' ∧ Cel w' BN 3 (.int .i64 cv) ∧ (okX c j (.mk k p a t l) = true → cv = c + (cntN (.mk k p a t l) : Int))) vi (nth l i).l)) :
  ∀ (p : PT) (a t : Bool) (j c : Int) (w : World), Kp w0 w → Cel w BN 3 (.int .i64 c) → Cel w BF 47 (.func (.func 16) #[] #[.pointer (some ⟨BN, 0, none⟩), .pointer (some ⟨BF, 0, none⟩)]) → 0 ≤ c ∧ c ≤ 64 → 0 ≤ j ∧ j ≤ 8 → l.length ≤ 9223372036854775807 →
   Calls Tryz.prog 16 #[ndV (.mk 1 p a t l) v, .int .i64 j, .pointer (some ⟨BN, 0, none⟩), .pointer (some ⟨BF, 0, none⟩)] w fun e w' =>
    ∃ cv : Int, e = .returned (.bool (okX c j (.mk 1 p a t l))) ∧ KX (fun b => b = BN) w w' ∧ Cel w' BN 3 (.int .i64 cv) ∧ (okX c j (.mk 1 p a t l) = true → cv = c + (cntN (.mk 1 p a t l) : Int)) := by
 obtain ⟨ad, cp, rfl, hrow⟩ := hh
 intro p a t j c w k0 cn cf ⟨c0, c9⟩ ⟨j0, j9⟩ hl
 have ll := len_cntL l
 have CE := Lib.hid (fun w1 (q : Kp w0 w1) => end_any (.mk 1 p a t l) (.slice ad l.length cp) w1 ⟨_, _, rfl⟩ (T.kp q))
 have CB := Lib.hid (fun w1 => bare_any (.mk 1 p a t l) (.slice ad l.length cp) w1)
 obtain ⟨pk, y, m, q⟩ := p
 have HR := Lib.hid hrow
 unfold ndV at *
 simp only [ND.k, ND.p, ND.a, ND.t, ND.l] at *
 have n1 := cn.cell
 have n2 := cn.frozen
 have n3 := cn.lt
 have n4 : ¬ BN = w.heap.size := by omega
 have f3 := cf.lt
 have CF := Lib.hid cf
 have CN := Lib.hid cn
 have K0 := Lib.hid k0
 clear hrow cn cf k0
 by_cases hc : c = 64
 ·subst hc
  rw [okX_full (by decide)]
  go_enter Tryz.func16, Tryz.ntmps16
  go_wp2
  obtain ⟨W2, hW2⟩ : ∃ x, x = (w.setCell ⟨BN, 0, none⟩ (.int .i64 65)).alloc (.cells #[.int .i64 1, .int .i64 pk, .string y, .string m, .string q, .bool a, .bool t, .slice ad l.length cp] 26) := ⟨_, rfl⟩
  have kx2 : KX (fun b => b = BN) w W2 := by rw [hW2]; exact (KX.set (X := fun b => b = BN) rfl w _).trans (KX.kp (Kp.alloc _ _))
  have gB : W2.heap[w.heap.size]? = some (.cells #[.int .i64 1, .int .i64 pk, .string y, .string m, .string q, .bool a, .bool t, .slice ad l.length cp] 26 (0, 0)) := by rw [hW2]; exact heap_at _ _ _ (by unfold World.setCell; simp)
  have cn2 : Cel W2 BN 3 (.int .i64 65) := by rw [hW2]; exact (CN.out.set _).kp (Kp.alloc _ _)
  have k02 : Kp w0 W2 := kx2.to K0.out (fun b h => by omega)
  rw [← hW2]
  go_ret
  exact ⟨65, rfl, kx2, cn2, fun h => by cases h⟩
 have hc2 : c ≤ 63 := by omega
 clear hc
 rw [okX_span (by omega)]
 generalize bareN (.mk 1 ⟨pk, y, m, q⟩ a t l) = bb at *
 cases bb with
 | false =>
  rw [Bool.false_and]
  go_enter Tryz.func16, Tryz.ntmps16
  go_wp2_with fail
  obtain ⟨W2, hW2⟩ : ∃ x, x = ((w.setCell ⟨BN, 0, none⟩ (.int .i64 (c + 1))).setCell ⟨BN, 0, none⟩ (.int .i64 (wrap64 (c + 1 + (l.length : Int))))).alloc (.cells #[.int .i64 1, .int .i64 pk, .string y, .string m, .string q, .bool a, .bool t, .slice ad l.length cp] 26) := ⟨_, rfl⟩
  have kx2 : KX (fun b => b = BN) w W2 := by rw [hW2]; exact ((KX.set (X := fun b => b = BN) rfl w _).trans (KX.set (X := fun b => b = BN) rfl _ _)).trans (KX.kp (Kp.alloc _ _))
  have gB : W2.heap[w.heap.size]? = some (.cells #[.int .i64 1, .int .i64 pk, .string y, .string m, .string q, .bool a, .bool t, .slice ad l.length cp] 26 (0, 0)) := by rw [hW2]; exact heap_at _ _ _ (by unfold World.setCell; simp)
  have cn2 : Cel W2 BN 3 (.int .i64 (wrap64 (c + 1 + (l.length : Int)))) := by rw [hW2]; exact ((CN.out.set _).set _).kp (Kp.alloc _ _)
  have k02 : Kp w0 W2 := kx2.to K0.out (fun b h => by omega)
  rw [← hW2]
  refine (CB.out _).mono ?_
  rintro e w3 ⟨rfl, kk⟩
  have KX3 := Lib.hid (kx2.trans (KX.kp kk))
  have CN3 := Lib.hid (cn2.kp kk)
  have K03 := Lib.hid (k02.trans kk)
  obtain ⟨x0, x1, x2, x3, x4, x5, x6, x7⟩ := row8 (heap_block kk gB)
  clear hW2 kx2 gB cn2 k02 kk n1 n2 x0 x1 x2 x3 x4 x5 x6
  go_wp2
  go_ret
  exact ⟨wrap64 (c + 1 + (l.length : Int)), rfl, KX3.out, CN3.out, fun h => by cases h⟩
 | true =>
  rw [Bool.true_and]
  by_cases hl2 : l.length = 2
  ·obtain ⟨x, z, rfl⟩ := two_of hl2
   obtain ⟨bk, off, rfl, hall⟩ := HR.out (by simp)
   obtain ⟨vx, rx, sx, _⟩ := hall 0 (by simp)
   obtain ⟨vz, rz, sz, _⟩ := hall 1 (by simp)
   rw [show nth [x, z] 0 = x from rfl] at rx sx
   rw [show nth [x, z] 1 = z from rfl] at rz sz
   have FIN : endN saneP x = true → endN saneP z = true → cntL [x, z] = 2 := fun a b => two_cnt a b
   have FINH := Lib.hid FIN
   have CX := Lib.hid (fun w1 (q : Kp w0 w1) => end_any x vx w1 sx.slice (T.kp q))
   have CZ := Lib.hid (fun w1 (q : Kp w0 w1) => end_any z vz w1 sz.slice (T.kp q))
   simp only [twoN]
   generalize endN saneP x = bx at *
   generalize endN saneP z = bz at *
   obtain ⟨adx, cpx, rfl⟩ := sx.slice
   obtain ⟨adz, cpz, rfl⟩ := sz.slice
   have RX := Lib.hid rx
   have RZ := Lib.hid rz
   have hbk := World.block_lt_of_cell? _ _ rx.1
   obtain ⟨k1, ⟨pk1, y1, m1, q1⟩, a1, t1, l1⟩ := x
   obtain ⟨k2, ⟨pk2, y2, m2, q2⟩, a2, t2, l2⟩ := z
   unfold RowN at RX RZ
   unfold ndV at CX CZ
   simp only [ND.k, ND.p, ND.a, ND.t, ND.l, List.length_cons, List.length_nil, Nat.reduceAdd, Nat.zero_mul, Nat.add_zero, Nat.one_mul] at *
   clear rx rz sx sz hall FIN HR
   obtain ⟨b3, hb3⟩ : ∃ b, decide (c + 3 ≤ 64) = b := ⟨_, rfl⟩
   have hb4 : decide (c + 1 + 2 ≤ 64) = b3 := by rw [← hb3]; congr 1; apply propext; omega
   rw [hb3]
   clear hb3
   obtain ⟨res, hres⟩ : ∃ r, (bx && bz && b3) = r := ⟨_, rfl⟩
   rw [hres]
   have RES := Lib.hid hres
   clear hres
   go_enter Tryz.func16, Tryz.ntmps16
   go_wp2_with fail
   obtain ⟨W2, hW2⟩ : ∃ x, x = ((w.setCell ⟨BN, 0, none⟩ (.int .i64 (c + 1))).setCell ⟨BN, 0, none⟩ (.int .i64 (c + 1 + 2))).alloc (.cells #[.int .i64 1, .int .i64 pk, .string y, .string m, .string q, .bool a, .bool t, .slice (some ⟨bk, off, none⟩) 2 cp] 26) := ⟨_, rfl⟩
   have kx2 : KX (fun b => b = BN) w W2 := by rw [hW2]; exact ((KX.set (X := fun b => b = BN) rfl w _).trans (KX.set (X := fun b => b = BN) rfl _ _)).trans (KX.kp (Kp.alloc _ _))
   have gB : W2.heap[w.heap.size]? = some (.cells #[.int .i64 1, .int .i64 pk, .string y, .string m, .string q, .bool a, .bool t, .slice (some ⟨bk, off, none⟩) 2 cp] 26 (0, 0)) := by rw [hW2]; exact heap_at _ _ _ (by unfold World.setCell; simp)
   have cn2 : Cel W2 BN 3 (.int .i64 (c + 1 + 2)) := by rw [hW2]; exact ((CN.out.set _).set _).kp (Kp.alloc _ _)
   have k02 : Kp w0 W2 := kx2.to K0.out (fun b h => by omega)
   rw [← hW2]
   refine (CB.out _).mono ?_
   rintro e w3 ⟨rfl, kk⟩
   have KX3 := Lib.hid (kx2.trans (KX.kp kk))
   have CN3 := Lib.hid (cn2.kp kk)
   have K03 := Lib.hid (k02.trans kk)
   obtain ⟨x0, x1, x2, x3, x4, x5, x6, x7⟩ := row8 (heap_block kk gB)
   clear hW2 kx2 gB cn2 k02 kk n1 n2 x0 x1 x2 x3 x4 x5 x6
   have UX := fun w1 (q : Kp w0 w1) => RX.out
   have up : ∀ (w1 : World) (o : Nat) (x : Value), Kp w0 w1 → w0.cell? ⟨bk, o, none⟩ = some x → w1.cell? ⟨bk, o, none⟩ = some x := fun w1 o x q h => cell_up q h
   obtain ⟨g0, g1, g2, g3, g4, g5, g6, g7⟩ := RX.out
   have g0 := up _ _ _ K03.out g0
   have g1 := up _ _ _ K03.out g1
   have g2 := up _ _ _ K03.out g2
   have g3 := up _ _ _ K03.out g3
   have g4 := up _ _ _ K03.out g4
   have g5 := up _ _ _ K03.out g5
   have g6 := up _ _ _ K03.out g6
   have g7 := up _ _ _ K03.out g7
   clear UX
   go_wp2_with fail
   refine (CX.out _ K03.out).mono ?_
   rintro e w4 ⟨rfl, kk⟩
   have KX4 := Lib.hid (KX3.out.trans (KX.kp kk))
   have CN4 := Lib.hid (CN3.out.kp kk)
   have K04 := Lib.hid (K03.out.trans kk)
   have x7 := cell_up kk x7
   clear g0 g1 g2 g3 g4 g5 g6 g7
   cases bx with
   | false =>
    have hr := RES.out
    simp only [Bool.false_and] at hr
    subst hr
    go_wp2
    go_ret
    exact ⟨c + 1 + 2, rfl, KX4.out, CN4.out, fun h => by cases h⟩
   | true =>
    obtain ⟨g0, g1, g2, g3, g4, g5, g6, g7⟩ := RZ.out
    have g0 := up _ _ _ K04.out g0
    have g1 := up _ _ _ K04.out g1
    have g2 := up _ _ _ K04.out g2
    have g3 := up _ _ _ K04.out g3
    have g4 := up _ _ _ K04.out g4
    have g5 := up _ _ _ K04.out g5
    have g6 := up _ _ _ K04.out g6
    have g7 := up _ _ _ K04.out g7
    clear kk
    go_wp2_with fail
    refine (CZ.out _ K04.out).mono ?_
    rintro e w5 ⟨rfl, kk⟩
    have KX5 := Lib.hid (KX4.out.trans (KX.kp kk))
    have CN5 := Lib.hid (CN4.out.kp kk)
    have y0 := CN5.out.cell
    clear g0 g1 g2 g3 g4 g5 g6 g7 kk
    cases bz with
    | false =>
     have hr := RES.out
     simp only [Bool.true_and, Bool.false_and] at hr
     subst hr
     go_wp2
     go_ret
     exact ⟨c + 1 + 2, rfl, KX5.out, CN5.out, fun h => by cases h⟩
    | true =>
     have hr := RES.out
     simp only [Bool.true_and] at hr
     subst hr
     go_wp2
     go_ret
     exact ⟨c + 1 + 2, rfl, KX5.out, CN5.out, fun h => by have := FINH.out (by first | rfl | trivial) (by first | rfl | trivial); simp only [cntN]; rw [this]; omega⟩
  ·have ht : twoN saneP l = false := two_no hl2
   have ql : ((l.length : Int) == 2) = false := beq_eq_false_iff_ne.2 (by omega)
   rw [ht, Bool.false_and]
   go_enter Tryz.func16, Tryz.ntmps16
   go_wp2_with fail
   obtain ⟨W2, hW2⟩ : ∃ x, x = ((w.setCell ⟨BN, 0, none⟩ (.int .i64 (c + 1))).setCell ⟨BN, 0, none⟩ (.int .i64 (wrap64 (c + 1 + (l.length : Int))))).alloc (.cells #[.int .i64 1, .int .i64 pk, .string y, .string m, .string q, .bool a, .bool t, .slice ad l.length cp] 26) := ⟨_, rfl⟩
   have kx2 : KX (fun b => b = BN) w W2 := by rw [hW2]; exact ((KX.set (X := fun b => b = BN) rfl w _).trans (KX.set (X := fun b => b = BN) rfl _ _)).trans (KX.kp (Kp.alloc _ _))
   have gB : W2.heap[w.heap.size]? = some (.cells #[.int .i64 1, .int .i64 pk, .string y, .string m, .string q, .bool a, .bool t, .slice ad l.length cp] 26 (0, 0)) := by rw [hW2]; exact heap_at _ _ _ (by unfold World.setCell; simp)
   have cn2 : Cel W2 BN 3 (.int .i64 (wrap64 (c + 1 + (l.length : Int)))) := by rw [hW2]; exact ((CN.out.set _).set _).kp (Kp.alloc _ _)
   have k02 : Kp w0 W2 := kx2.to K0.out (fun b h => by omega)
   rw [← hW2]
   refine (CB.out _).mono ?_
   rintro e w3 ⟨rfl, kk⟩
   have KX3 := Lib.hid (kx2.trans (KX.kp kk))
   have CN3 := Lib.hid (cn2.kp kk)
   have K03 := Lib.hid (k02.trans kk)
   obtain ⟨x0, x1, x2, x3, x4, x5, x6, x7⟩ := row8 (heap_block kk gB)
   clear hW2 kx2 gB cn2 k02 kk n1 n2 x0 x1 x2 x3 x4 x5 x6
   go_wp2
   go_ret
   exact ⟨wrap64 (c + 1 + (l.length : Int)), rfl, KX3.out, CN3.out, fun h => by cases h⟩
set_option maxHeartbeats 16000000 in
set_option maxRecDepth 100000 in
theorem isg2_any (w0 : World) (BN BF : Nat) (h1 : BN ≠ BF) (b1 : w0.heap.size ≤ BN) (T : TabSH w0) (v : Value) (l : List ND)
  (hh : ∃ ad cp, v = .slice ad l.length cp ∧ (0 < l.length → ∃ b off, ad = some ⟨b, off, none⟩ ∧ ∀ i, i < l.length → ∃ vi, RowN w0 b (off + i * 8) (nth l i) vi ∧ NodesAt w0 vi (nth l i).l ∧ (fun v l => ∀ (k : Int) (p : PT) (a t : Bool) (j c : Int) (w : World), Kp w0 w → Cel w BN 3 (.int .i64 c) → Cel w BF 47 (.func (.func 16) #[] #[.pointer (some ⟨BN, 0, none⟩), .pointer (some ⟨BF, 0, none⟩)]) → 0 ≤ c ∧ c ≤ 64 → 0 ≤ j ∧ j ≤ 8 → l.length ≤ 9223372036854775807 →
   Calls Tryz.prog 16 #[ndV (.mk k p a t l) v, .int .i64 j, .pointer (some ⟨BN, 0, none⟩), .pointer (some ⟨BF, 0, none⟩)] w fun e w' =>
    ∃ cv : Int, e = .returned (.bool (okX c j (.mk k p a t l))) ∧ KX (fun b => b = BN) w w' ∧ Cel w' BN 3 (.int .i64 cv) ∧ (okX c j (.mk k p a t l) = true → cv = c + (cntN (.mk k p a t l) : Int))) vi (nth l i).l)) :
  ∀ (p : PT) (a t : Bool) (j c : Int) (w : World), Kp w0 w → Cel w BN 3 (.int .i64 c) → Cel w BF 47 (.func (.func 16) #[] #[.pointer (some ⟨BN, 0, none⟩), .pointer (some ⟨BF, 0, none⟩)]) → 0 ≤ c ∧ c ≤ 64 → 0 ≤ j ∧ j ≤ 8 → l.length ≤ 9223372036854775807 →
   Calls Tryz.prog 16 #[ndV (.mk 2 p a t l) v, .int .i64 j, .pointer (some ⟨BN, 0, none⟩), .pointer (some ⟨BF, 0, none⟩)] w fun e w' =>
    ∃ cv : Int, e = .returned (.bool (okX c j (.mk 2 p a t l))) ∧ KX (fun b => b = BN) w w' ∧ Cel w' BN 3 (.int .i64 cv) ∧ (okX c j (.mk 2 p a t l) = true → cv = c + (cntN (.mk 2 p a t l) : Int)) := by
 obtain ⟨ad, cp, rfl, hrow⟩ := hh
 intro p a t j c w k0 cn cf ⟨c0, c9⟩ ⟨j0, j9⟩ hl
 have ll := len_cntL l
 have CE := Lib.hid (fun w1 (q : Kp w0 w1) => end_any (.mk 2 p a t l) (.slice ad l.length cp) w1 ⟨_, _, rfl⟩ (T.kp q))
 have CB := Lib.hid (fun w1 => bare_any (.mk 2 p a t l) (.slice ad l.length cp) w1)
 obtain ⟨pk, y, m, q⟩ := p
 have HR := Lib.hid hrow
 unfold ndV at *
 simp only [ND.k, ND.p, ND.a, ND.t, ND.l] at *
 have n1 := cn.cell
 have n2 := cn.frozen
 have n3 := cn.lt
 have n4 : ¬ BN = w.heap.size := by omega
 have f3 := cf.lt
 have CF := Lib.hid cf
 have CN := Lib.hid cn
 have K0 := Lib.hid k0
 clear hrow cn cf k0
 have OL := Lib.hid (okX_list (c := c) (j := j) (p := ⟨pk, y, m, q⟩) (a := a) (t := t) (l := l))
 have OE := Lib.hid (fun h i hi => okX_elem (c := c) (j := j) (p := ⟨pk, y, m, q⟩) (a := a) (t := t) (l := l) h (i := i) hi)
 have OA := Lib.hid (okX_all (c := c) (j := j) (p := ⟨pk, y, m, q⟩) (a := a) (t := t) (l := l))
 have OC := Lib.hid (show (cntN (.mk 2 ⟨pk, y, m, q⟩ a t l) : Int) = (cntL l : Int) + 1 from by simp only [cntN]; omega)
 by_cases hc : c = 64
 ·subst hc
  rw [okX_full (by decide)]
  go_enter Tryz.func16, Tryz.ntmps16
  go_wp2
  obtain ⟨W2, hW2⟩ : ∃ x, x = (w.setCell ⟨BN, 0, none⟩ (.int .i64 65)).alloc (.cells #[.int .i64 2, .int .i64 pk, .string y, .string m, .string q, .bool a, .bool t, .slice ad l.length cp] 26) := ⟨_, rfl⟩
  have kx2 : KX (fun b => b = BN) w W2 := by rw [hW2]; exact (KX.set (X := fun b => b = BN) rfl w _).trans (KX.kp (Kp.alloc _ _))
  have gB : W2.heap[w.heap.size]? = some (.cells #[.int .i64 2, .int .i64 pk, .string y, .string m, .string q, .bool a, .bool t, .slice ad l.length cp] 26 (0, 0)) := by rw [hW2]; exact heap_at _ _ _ (by unfold World.setCell; simp)
  have cn2 : Cel W2 BN 3 (.int .i64 65) := by rw [hW2]; exact (CN.out.set _).kp (Kp.alloc _ _)
  have k02 : Kp w0 W2 := kx2.to K0.out (fun b h => by omega)
  rw [← hW2]
  go_ret
  exact ⟨65, rfl, kx2, cn2, fun h => by cases h⟩
 have hc2 : c ≤ 63 := by omega
 clear hc
 generalize bareN (.mk 2 ⟨pk, y, m, q⟩ a t l) = bb at *
 generalize okX c j (.mk 2 ⟨pk, y, m, q⟩ a t l) = ok at *
 generalize (cntN (.mk 2 ⟨pk, y, m, q⟩ a t l) : Int) = cm at *
 have isF : ∀ {P : Prop}, (ok = true → P) → ¬ P → ok = false := fun {P} h n => by
  cases ok with
  | false => rfl
  | true => exact absurd (h rfl) n
 cases bb with
 | false =>
  obtain rfl : ok = false := isF OL.out (fun h => by cases h.1)
  clear isF
  go_enter Tryz.func16, Tryz.ntmps16
  go_wp2_with fail
  obtain ⟨W2, hW2⟩ : ∃ x, x = (w.setCell ⟨BN, 0, none⟩ (.int .i64 (c + 1))).alloc (.cells #[.int .i64 2, .int .i64 pk, .string y, .string m, .string q, .bool a, .bool t, .slice ad l.length cp] 26) := ⟨_, rfl⟩
  have kx2 : KX (fun b => b = BN) w W2 := by rw [hW2]; exact (KX.set (X := fun b => b = BN) rfl w _).trans (KX.kp (Kp.alloc _ _))
  have gB : W2.heap[w.heap.size]? = some (.cells #[.int .i64 2, .int .i64 pk, .string y, .string m, .string q, .bool a, .bool t, .slice ad l.length cp] 26 (0, 0)) := by rw [hW2]; exact heap_at _ _ _ (by unfold World.setCell; simp)
  have cn2 : Cel W2 BN 3 (.int .i64 (c + 1)) := by rw [hW2]; exact (CN.out.set _).kp (Kp.alloc _ _)
  have k02 : Kp w0 W2 := kx2.to K0.out (fun b h => by omega)
  rw [← hW2]
  refine (CB.out _).mono ?_
  rintro e w3 ⟨rfl, kk⟩
  have KX3 := Lib.hid (kx2.trans (KX.kp kk))
  have CN3 := Lib.hid (cn2.kp kk)
  have K03 := Lib.hid (k02.trans kk)
  obtain ⟨x0, x1, x2, x3, x4, x5, x6, x7⟩ := row8 (heap_block kk gB)
  clear hW2 kx2 gB cn2 k02 kk n1 n2 x0 x1 x2 x3 x4 x5 x6
  go_wp2
  go_ret
  exact ⟨c + 1, rfl, KX3.out, CN3.out, fun h => by cases h⟩
 | true =>
  by_cases hl0 : l.length = 0
  ·obtain rfl : ok = false := isF OL.out (fun h => h.2.1 (List.length_eq_zero_iff.1 hl0))
   have q1 : ((l.length : Int) == 0) = true := by rw [hl0]; rfl
   clear isF hl0
   go_enter Tryz.func16, Tryz.ntmps16
   go_wp2_with fail
   obtain ⟨W2, hW2⟩ : ∃ x, x = (w.setCell ⟨BN, 0, none⟩ (.int .i64 (c + 1))).alloc (.cells #[.int .i64 2, .int .i64 pk, .string y, .string m, .string q, .bool a, .bool t, .slice ad l.length cp] 26) := ⟨_, rfl⟩
   have kx2 : KX (fun b => b = BN) w W2 := by rw [hW2]; exact (KX.set (X := fun b => b = BN) rfl w _).trans (KX.kp (Kp.alloc _ _))
   have gB : W2.heap[w.heap.size]? = some (.cells #[.int .i64 2, .int .i64 pk, .string y, .string m, .string q, .bool a, .bool t, .slice ad l.length cp] 26 (0, 0)) := by rw [hW2]; exact heap_at _ _ _ (by unfold World.setCell; simp)
   have cn2 : Cel W2 BN 3 (.int .i64 (c + 1)) := by rw [hW2]; exact (CN.out.set _).kp (Kp.alloc _ _)
   have k02 : Kp w0 W2 := kx2.to K0.out (fun b h => by omega)
   rw [← hW2]
   refine (CB.out _).mono ?_
   rintro e w3 ⟨rfl, kk⟩
   have KX3 := Lib.hid (kx2.trans (KX.kp kk))
   have CN3 := Lib.hid (cn2.kp kk)
   have K03 := Lib.hid (k02.trans kk)
   obtain ⟨x0, x1, x2, x3, x4, x5, x6, x7⟩ := row8 (heap_block kk gB)
   clear hW2 kx2 gB cn2 k02 kk n1 n2 x0 x1 x2 x3 x4 x5 x6
   go_wp2
   go_ret
   exact ⟨c + 1, rfl, KX3.out, CN3.out, fun h => by cases h⟩
  ·have q1 : ((l.length : Int) == 0) = false := beq_eq_false_iff_ne.2 (by omega)
   by_cases hj : j = 8
   ·obtain rfl : ok = false := isF OL.out (fun h => by have := h.2.2; omega)
    subst hj
    clear isF
    go_enter Tryz.func16, Tryz.ntmps16
    go_wp2_with fail
    obtain ⟨W2, hW2⟩ : ∃ x, x = (w.setCell ⟨BN, 0, none⟩ (.int .i64 (c + 1))).alloc (.cells #[.int .i64 2, .int .i64 pk, .string y, .string m, .string q, .bool a, .bool t, .slice ad l.length cp] 26) := ⟨_, rfl⟩
    have kx2 : KX (fun b => b = BN) w W2 := by rw [hW2]; exact (KX.set (X := fun b => b = BN) rfl w _).trans (KX.kp (Kp.alloc _ _))
    have gB : W2.heap[w.heap.size]? = some (.cells #[.int .i64 2, .int .i64 pk, .string y, .string m, .string q, .bool a, .bool t, .slice ad l.length cp] 26 (0, 0)) := by rw [hW2]; exact heap_at _ _ _ (by unfold World.setCell; simp)
    have cn2 : Cel W2 BN 3 (.int .i64 (c + 1)) := by rw [hW2]; exact (CN.out.set _).kp (Kp.alloc _ _)
    have k02 : Kp w0 W2 := kx2.to K0.out (fun b h => by omega)
    rw [← hW2]
    refine (CB.out _).mono ?_
    rintro e w3 ⟨rfl, kk⟩
    have KX3 := Lib.hid (kx2.trans (KX.kp kk))
    have CN3 := Lib.hid (cn2.kp kk)
    have K03 := Lib.hid (k02.trans kk)
    obtain ⟨x0, x1, x2, x3, x4, x5, x6, x7⟩ := row8 (heap_block kk gB)
    clear hW2 kx2 gB cn2 k02 kk n1 n2 x0 x1 x2 x3 x4 x5 x6
    go_wp2
    go_ret
    exact ⟨c + 1, rfl, KX3.out, CN3.out, fun h => by cases h⟩
   ·have q2 : (j == 8) = false := beq_eq_false_iff_ne.2 hj
    have HOA := Lib.hid (fun a b => OA.out rfl (fun e => hl0 (by rw [e]; rfl)) (by omega) a b)
    have HF := Lib.hid (fun i (hi : i < l.length) (h : okX (c + 1 + (cntL (l.take i) : Int)) (j + 1) (nth l i) = false) => isF (P := False) (fun e => by have := OE.out e i hi; rw [h] at this; cases this) id)
    clear isF
    go_enter Tryz.func16, Tryz.ntmps16
    go_wp2_with fail
    obtain ⟨W2, hW2⟩ : ∃ x, x = (w.setCell ⟨BN, 0, none⟩ (.int .i64 (c + 1))).alloc (.cells #[.int .i64 2, .int .i64 pk, .string y, .string m, .string q, .bool a, .bool t, .slice ad l.length cp] 26) := ⟨_, rfl⟩
    have kx2 : KX (fun b => b = BN) w W2 := by rw [hW2]; exact (KX.set (X := fun b => b = BN) rfl w _).trans (KX.kp (Kp.alloc _ _))
    have gB : W2.heap[w.heap.size]? = some (.cells #[.int .i64 2, .int .i64 pk, .string y, .string m, .string q, .bool a, .bool t, .slice ad l.length cp] 26 (0, 0)) := by rw [hW2]; exact heap_at _ _ _ (by unfold World.setCell; simp)
    have cn2 : Cel W2 BN 3 (.int .i64 (c + 1)) := by rw [hW2]; exact (CN.out.set _).kp (Kp.alloc _ _)
    have k02 : Kp w0 W2 := kx2.to K0.out (fun b h => by omega)
    rw [← hW2]
    refine (CB.out _).mono ?_
    rintro e w3 ⟨rfl, kk⟩
    have KX3 := Lib.hid (kx2.trans (KX.kp kk))
    have CN3 := Lib.hid (cn2.kp kk)
    have K03 := Lib.hid (k02.trans kk)
    obtain ⟨x0, x1, x2, x3, x4, x5, x6, x7⟩ := row8 (heap_block kk gB)
    clear hW2 kx2 gB cn2 k02 kk n1 n2 x0 x1 x2 x3 x4 x5 x6
    go_wp2
    go_loopw [70] (fun i ws => ∃ n : Nat, n ≤ l.length ∧ i = .int .i64 n ∧ Hid (KX (fun b => b = BN) w ws) ∧ Hid (Cel ws BN 3 (.int .i64 (c + 1 + (cntL (l.take n) : Int)))) ∧ Hid (c + 1 + (cntL (l.take n) : Int) ≤ 64 ∧ ∀ i, i < n → okX (c + 1 + (cntL (l.take i) : Int)) (j + 1) (nth l i) = true)) (fun i _ => l.length - (intOf i).toNat)
    case atStart => exact ⟨0, Nat.zero_le _, rfl, KX3, Lib.hid (by simpa [cntL] using CN3.out), Lib.hid ⟨by simp [cntL]; omega, fun i hi => by omega⟩⟩
    case round =>
     obtain ⟨n, hn, rfl, KL, LN, LO⟩ := hrel
     by_cases hlt : n < l.length
     ·obtain ⟨bk, off, rfl, hall⟩ := HR.out (by omega)
      obtain ⟨vi, hrow, hsub, ih⟩ := hall n hlt
      have hb := World.block_lt_of_cell? _ _ hrow.1
      simp only at hb
      have kw0 : Kp w0 wr := KL.out.to K0.out (fun b h => by omega)
      obtain ⟨e0, e1, e2, e3, e4, e5, e6, e7⟩ := hrow.kp kw0
      have KW0 := Lib.hid kw0
      have ca := cnt_at hlt
      have ct := cntL_take hlt
      have HFn := Lib.hid (HF.out n hlt)
      have LB := LO.out.1
      have LA := Lib.hid LO.out.2
      have LA := Lib.hid LO.out.2
      clear hall
      obtain ⟨x, hx⟩ : ∃ x, nth l n = x := ⟨_, rfl⟩
      rw [hx] at e0 e1 e2 e3 e4 e5 e6 ca ct HFn ih hsub hrow
      have NTH := Lib.hid hx
      clear hx
      obtain ⟨k1, ⟨pk1, y1, m1, q1'⟩, a1, t1, l1⟩ := x
      (try simp only [ND.k, ND.p, ND.a, ND.t, ND.l] at e0 e1 e2 e3 e4 e5 e6 ih hsub)
      obtain ⟨ad1, cp1, rfl⟩ := hsub.slice
      have IH := Lib.hid (ih k1 ⟨pk1, y1, m1, q1'⟩ a1 t1 (j + 1))
      have hcx : l1.length ≤ 9223372036854775807 := hsub.len
      have LC9 : c + 1 + (cntL (l.take n) : Int) ≤ 64 := LO.out.1
      have z1 : (n : Int) < (l.length : Int) := by omega
      have cgl := CF.out.kx KL.out (fun h => h1 h.symm)
      have cg1 := cgl.cell
      have cg2 := cgl.lt
      have cg3 : ¬ BF = wr.heap.size := by omega
      have CGL := Lib.hid cgl
      have hbw : bk < wr.heap.size := Nat.lt_of_lt_of_le hb kw0.size
      have HLT := Lib.hid hlt
      have HJ := Lib.hid (show 0 ≤ j + 1 ∧ j + 1 ≤ 8 by omega)
      clear cgl kw0 hrow ih hsub
      go_wp2_with fail
      have ka := Kp.alloc wr (.cells #[.int .i64 k1, .int .i64 pk1, .string y1, .string m1, .string q1', .bool a1, .bool t1, .slice ad1 l1.length cp1] 26)
      refine (IH.out _ _ (KW0.out.trans ka) (LN.out.kp ka) (CGL.out.kp ka) ⟨by omega, LC9⟩ HJ.out hcx).mono ?_
      rintro e w5 ⟨cv, rfl, kx5, cn5, hcv⟩
      have KL5 := Lib.hid (KL.out.trans ((KX.kp ka).trans kx5))
      have LN5 := Lib.hid cn5
      have HCV := Lib.hid hcv
      have HOK : okX (c + 1 + (cntL (l.take n) : Int)) (j + 1) (.mk k1 ⟨pk1, y1, m1, q1'⟩ a1 t1 l1) = true → c + 1 + (cntL (l.take n) : Int) + (cntN (.mk k1 ⟨pk1, y1, m1, q1'⟩ a1 t1 l1) : Int) ≤ 64 := fun h => by
       unfold okX at h
       simp only [Bool.and_eq_true, decide_eq_true_eq] at h
       exact h.1
      have HOKH := Lib.hid HOK
      obtain ⟨rb, hrb⟩ : ∃ r, okX (c + 1 + (cntL (l.take n) : Int)) (j + 1) (.mk k1 ⟨pk1, y1, m1, q1'⟩ a1 t1 l1) = r := ⟨_, rfl⟩
      rw [hrb]
      have HRB := Lib.hid hrb
      clear kx5 cn5 ka e0 e1 e2 e3 e4 e5 e6 e7 cg1 hcv HOK hrb
      cases rb with
      | true =>
       go_wp2
       go_roundw
       case rel =>
        have e1 := HCV.out HRB.out
        have e2 : cv = c + 1 + (cntL (l.take (n + 1)) : Int) := by rw [ct, e1]; omega
        exact ⟨n + 1, HLT.out, by go_num, KL5, Lib.hid (by rw [← e2]; exact LN5.out), Lib.hid ⟨by rw [← e2, e1]; exact HOKH.out HRB.out, fun i hi => by
         by_cases hin : i < n
         ·exact LA.out i hin
         ·obtain rfl : i = n := by omega
          rw [NTH.out]; exact HRB.out⟩⟩
       case measure => have := HLT.out; simp [intOf]; omega
      | false =>
       obtain rfl : ok = false := HFn.out HRB.out
       go_wp2
       go_ret
       exact ⟨cv, rfl, KL5.out, LN5.out, fun h => by cases h⟩
     ·obtain rfl : n = l.length := by omega
      obtain ⟨o1, o2⟩ := LO.out
      rw [List.take_length] at LN o1
      obtain rfl : ok = true := HOA.out o1 o2
      have LNE := LN.out
      have KLE := KL.out
      go_wp2
      go_ret
      first
      | exact ⟨_, rfl, KLE, LNE, fun _ => by rw [OC.out]; omega⟩
      | exact ⟨rfl, KLE, by rw [OC.out, show c + ((cntL l : Int) + 1) = c + 1 + (cntL l : Int) by omega]; exact LNE⟩
theorem isg_any (w0 : World) (BN BF : Nat) (h1 : BN ≠ BF) (b1 : w0.heap.size ≤ BN) (T : TabSH w0) : ∀ {v : Value} {l : List ND}, NodesAt w0 v l → ∀ (k : Int) (p : PT) (a t : Bool) (j c : Int) (w : World), Kp w0 w → Cel w BN 3 (.int .i64 c) → Cel w BF 47 (.func (.func 16) #[] #[.pointer (some ⟨BN, 0, none⟩), .pointer (some ⟨BF, 0, none⟩)]) → 0 ≤ c ∧ c ≤ 64 → 0 ≤ j ∧ j ≤ 8 → l.length ≤ 9223372036854775807 →
   Calls Tryz.prog 16 #[ndV (.mk k p a t l) v, .int .i64 j, .pointer (some ⟨BN, 0, none⟩), .pointer (some ⟨BF, 0, none⟩)] w fun e w' =>
    ∃ cv : Int, e = .returned (.bool (okX c j (.mk k p a t l))) ∧ KX (fun b => b = BN) w w' ∧ Cel w' BN 3 (.int .i64 cv) ∧ (okX c j (.mk k p a t l) = true → cv = c + (cntN (.mk k p a t l) : Int)) := by
 refine @NodesAt.ind w0 (fun v l => ∀ (k : Int) (p : PT) (a t : Bool) (j c : Int) (w : World), Kp w0 w → Cel w BN 3 (.int .i64 c) → Cel w BF 47 (.func (.func 16) #[] #[.pointer (some ⟨BN, 0, none⟩), .pointer (some ⟨BF, 0, none⟩)]) → 0 ≤ c ∧ c ≤ 64 → 0 ≤ j ∧ j ≤ 8 → l.length ≤ 9223372036854775807 →
   Calls Tryz.prog 16 #[ndV (.mk k p a t l) v, .int .i64 j, .pointer (some ⟨BN, 0, none⟩), .pointer (some ⟨BF, 0, none⟩)] w fun e w' =>
    ∃ cv : Int, e = .returned (.bool (okX c j (.mk k p a t l))) ∧ KX (fun b => b = BN) w w' ∧ Cel w' BN 3 (.int .i64 cv) ∧ (okX c j (.mk k p a t l) = true → cv = c + (cntN (.mk k p a t l) : Int))) ?_
 intro v l hh k p a t j c w k0 cn cf hc hj hl
 by_cases e0 : k = 0
 ·subst e0; exact isg0_any w0 BN BF h1 b1 T v l hh p a t j c w k0 cn cf hc hj hl
 ·by_cases e1 : k = 1
  ·subst e1; exact isg1_any w0 BN BF h1 b1 T v l hh p a t j c w k0 cn cf hc hj hl
  ·by_cases e2 : k = 2
   ·subst e2; exact isg2_any w0 BN BF h1 b1 T v l hh p a t j c w k0 cn cf hc hj hl
   ·exact isg3_any w0 BN BF h1 b1 T v l hh k p a t j c w k0 cn cf ⟨beq_eq_false_iff_ne.2 e0, beq_eq_false_iff_ne.2 e1, beq_eq_false_iff_ne.2 e2⟩ hc hj hl
set_option maxHeartbeats 16000000 in
set_option maxRecDepth 100000 in
theorem tSaneG_any (n : ND) (v : Value) (w : World) (h : NodesAt w v n.l) (T : TabSH w) :
  Calls Tryz.prog 6 #[ndV n v] w fun e w' => e = .returned (.bool (saneN saneP n)) ∧ Kp w w' := by
 have hmf : ∀ (fn : Fn) (first cap : Array Value) (w : World), (Instr.makeFunc fn first cap).run Tryz.prog w = .ok (.func fn first cap) w := fun _ _ _ _ => rfl
 have IH := Lib.hid (fun BN BF h1 b1 => isg_any w BN BF h1 b1 T h)
 have hll : n.l.length ≤ 9223372036854775807 := h.len
 have er : saneN saneP n = okX 0 0 n := by
  unfold saneN okX
  congr 1
  ·congr 1; apply propext; omega
  ·congr 1; congr 1; apply propext; omega
 rw [er]
 clear er
 obtain ⟨ad, cp, rfl⟩ := h.slice
 obtain ⟨k, pk, y, m, q, a, t, l, rfl⟩ := nd_dest n
 unfold ndV at *
 simp only [ND.k, ND.p, ND.a, ND.t, ND.l] at *
 obtain ⟨res, hres⟩ : ∃ r, okX 0 0 (.mk k ⟨pk, y, m, q⟩ a t l) = r := ⟨_, rfl⟩
 have IH2 := Lib.hid (fun BN BF h1 b1 => IH.out BN BF h1 b1 k ⟨pk, y, m, q⟩ a t 0 0)
 rw [hres] at IH2 ⊢
 clear h IH T hres
 go_enter Tryz.func6, Tryz.ntmps6
 go_wp2_with fail
 obtain ⟨W1, hW1⟩ : ∃ x, x = w.alloc (.cells #[.int .i64 k, .int .i64 pk, .string y, .string m, .string q, .bool a, .bool t, .slice ad l.length cp] 26) := ⟨_, rfl⟩
 have z1 : W1.heap.size = w.heap.size + 1 := by rw [hW1]; simp
 have k1 : Kp w W1 := by rw [hW1]; exact Kp.alloc _ _
 rw [← hW1]
 obtain ⟨W2, hW2⟩ : ∃ x, x = W1.alloc (.cells #[.int .i64 0] 3) := ⟨_, rfl⟩
 have z2 : W2.heap.size = w.heap.size + 1 + 1 := by rw [hW2]; simp [z1]
 have k2 : Kp W1 W2 := by rw [hW2]; exact Kp.alloc _ _
 have c2 : Cel W2 (w.heap.size + 1) 3 (.int .i64 0) := by rw [hW2]; exact heap_at _ _ _ z1
 rw [← hW2]
 obtain ⟨W3, hW3⟩ : ∃ x, x = W2.alloc (.cells #[.func (.func 16) #[] #[.pointer (some ⟨w.heap.size + 1, 0, none⟩), .pointer (some ⟨w.heap.size + 1 + 1, 0, none⟩)]] 47) := ⟨_, rfl⟩
 have k3 : Kp W2 W3 := by rw [hW3]; exact Kp.alloc _ _
 have f3 : Cel W3 (w.heap.size + 1 + 1) 47 (.func (.func 16) #[] #[.pointer (some ⟨w.heap.size + 1, 0, none⟩), .pointer (some ⟨w.heap.size + 1 + 1, 0, none⟩)]) := by rw [hW3]; exact heap_at _ _ _ z2
 rw [← hW3]
 have kk : Kp w W3 := k1.trans (k2.trans k3)
 refine (IH2.out (w.heap.size + 1) (w.heap.size + 1 + 1) (by omega) (by omega) W3 kk (c2.kp k3) f3 (by omega) (by omega) (by omega)).mono ?_
 rintro e w5 ⟨cv, rfl, kx5, _, _⟩
 have K5 := Lib.hid (kx5.to kk (fun b h => by omega))
 clear kx5 hW1 hW2 hW3 k1 k2 k3 c2 f3 kk
 go_wp2
 go_ret
 exact ⟨rfl, K5.out⟩
theorem tSane_any (n : ND) (v : Value) (w : World) (h : NodesAt w v n.l) (hn : cntN n ≤ 1000) (T : TabSH w) :
  Calls Tryz.prog 6 #[ndV n v] w fun e w' => e = .returned (.bool (saneN saneP n)) ∧ Kp w w' := tSaneG_any n v w h T
theorem shortL_all : ∀ l : List ND, shortL l = l.all shortN
 | [] => rfl
 | x :: l => by simp [shortL, shortL_all l]
open Go.RowKit Go.Lib Go.ChangeShapes Go.WideShapes Go.Deep Go.Joins
theorem cells_i1 : Tryz.prog.cellsOf 3 = 1 := by kernel_rfl
theorem cells_s1 : Tryz.prog.cellsOf 9 = 1 := by kernel_rfl
theorem cells_m13 : Tryz.prog.cellsOf 154 = 13 := by kernel_rfl
theorem cells_u6 : Tryz.prog.cellsOf 127 = 6 := by kernel_rfl
theorem cells_sh : Tryz.prog.cellsOf 79 = 5 := by kernel_rfl
theorem cells_sh6 : Tryz.prog.cellsOf 80 = 30 := by kernel_rfl
theorem cells_pt : Tryz.prog.cellsOf 23 = 4 := by kernel_rfl
theorem gt_m13 : (Tryz.prog.globals[3]?).map (·.type) = some 154 := by kernel_rfl
theorem gt_u6 : (Tryz.prog.globals[1]?).map (·.type) = some 127 := by kernel_rfl
theorem gt_r6 : (Tryz.prog.globals[2]?).map (·.type) = some 127 := by kernel_rfl
theorem gt_s6 : (Tryz.prog.globals[0]?).map (·.type) = some 80 := by kernel_rfl
def shpD {H : Type} (a b c d : Int) (s : List UInt8) : DataW H := .agg [.lit (.int .i64 a), .lit (.int .i64 b), .lit (.int .i64 c), .lit (.int .i64 d), .lit (.string s)]
def shpsD {H : Type} : DataW H := .agg [shpD 4 2 2 12 [], shpD 4 2 0 12 [], shpD 4 1 0 4 [], shpD 4 0 0 0 [], shpD 3 0 0 0 [100], shpD 2 0 0 0 [99]]
section
variable {H : Type} {enc : TypeId × Value → H} {w : World} {base : Nat} {sp : Nat → Bool} {held : Bool} {fuel : Nat}
set_option maxRecDepth 100000 in
theorem shape_row {L : List Value} {y : DataW H × List MemPlace} {a b c d : Int} {s : List UInt8} (h : DataW.trod enc Tryz.prog w base sp held fuel 79 L = some y) (hy : y.1 = shpD a b c d s) :
  L = [.int .i64 a, .int .i64 b, .int .i64 c, .int .i64 d, .string ⟨s.toArray⟩] := by
 obtain ⟨xs, k', hk, hxy, hlen, hxl, hf'⟩ := DataW.trod_struct Tryz.underlying79 h
 rw [cells_sh] at hlen
 match xs, hxl, L, hlen with
 | [y0, y1, y2, y3, y4], _, [v0, v1, v2, v3, v4], _ =>
  have g0 := hf' 0 _ rfl
  have g1 := hf' 1 _ rfl
  have g2 := hf' 2 _ rfl
  have g3 := hf' 3 _ rfl
  have g4 := hf' 4 _ rfl
  simp [cells_i1, cells_s1] at g0 g1 g2 g3 g4
  obtain ⟨x0, q0, e0, _⟩ := DataW.trod_int Tryz.underlying3 g0
  obtain ⟨x1, q1, e1, _⟩ := DataW.trod_int Tryz.underlying3 g1
  obtain ⟨x2, q2, e2, _⟩ := DataW.trod_int Tryz.underlying3 g2
  obtain ⟨x3, q3, e3, _⟩ := DataW.trod_int Tryz.underlying3 g3
  obtain ⟨x4, q4, e4, _⟩ := DataW.trod_string Tryz.underlying9 g4
  subst e0 e1 e2 e3 e4
  rw [hxy] at hy
  simp only [List.map_cons, List.map_nil, shpD, DataW.agg.injEq, List.cons.injEq, DataW.lit.injEq, Lit.int.injEq, Lit.string.injEq, true_and, and_true] at hy
  simp only [List.cons.injEq, and_true] at q0 q1 q2 q3 q4
  obtain ⟨r0, r1, r2, r3, r4⟩ := hy
  rw [q0, q1, q2, q3, q4, r0, r1, r2, r3, ← r4]
set_option maxRecDepth 100000 in
theorem shapes_cells {cs : List Value} {p : List MemPlace} (h : DataW.trod enc Tryz.prog w base sp held fuel 80 cs = some (shpsD, p)) : cs = shpCells := by
 cases fuel with
 | zero => simp [DataW.trod] at h
 | succ fuel =>
  simp only [DataW.trod, Tryz.underlying80, cells_sh, cells_sh6] at h
  split at h
  ·rename_i hl
   obtain ⟨xs, hm, hx⟩ := Option.map_eq_some_iff.1 h
   have hxs := congrArg Prod.fst hx
   simp only [shpsD, DataW.agg.injEq] at hxs
   have hxl : xs.length = 6 := by simpa using mapM_length hm
   match xs, hxl with
   | [y0, y1, y2, y3, y4, y5], _ =>
    simp only [List.map_cons, List.map_nil, List.cons.injEq, and_true] at hxs
    obtain ⟨h0, h1, h2, h3, h4, h5⟩ := hxs
    have at_ : ∀ i, i < 6 → ∃ b, [y0, y1, y2, y3, y4, y5][i]? = some b ∧ DataW.trod enc Tryz.prog w base sp held fuel 79 ((cs.drop (i * 5)).take 5) = some b := fun i hi => mapM_at hm i i (by simp [hi])
    obtain ⟨z0, b0, t0⟩ := at_ 0 (by decide)
    obtain ⟨z1, b1, t1⟩ := at_ 1 (by decide)
    obtain ⟨z2, b2, t2⟩ := at_ 2 (by decide)
    obtain ⟨z3, b3, t3⟩ := at_ 3 (by decide)
    obtain ⟨z4, b4, t4⟩ := at_ 4 (by decide)
    obtain ⟨z5, b5, t5⟩ := at_ 5 (by decide)
    simp only [List.getElem?_cons_zero, List.getElem?_cons_succ, Option.some.injEq] at b0 b1 b2 b3 b4 b5
    subst b0 b1 b2 b3 b4 b5
    have r0 := shape_row t0 h0
    have r1 := shape_row t1 h1
    have r2 := shape_row t2 h2
    have r3 := shape_row t3 h3
    have r4 := shape_row t4 h4
    have r5 := shape_row t5 h5
    have e : cs = (cs.drop (0 * 5)).take 5 ++ ((cs.drop (1 * 5)).take 5 ++ ((cs.drop (2 * 5)).take 5 ++ ((cs.drop (3 * 5)).take 5 ++ ((cs.drop (4 * 5)).take 5 ++ (cs.drop (5 * 5)).take 5)))) := by
     have s : ∀ n, cs.drop n = (cs.drop n).take 5 ++ cs.drop (n + 5) := fun n => by
      rw [← List.drop_drop, List.take_append_drop]
     have l : (cs.drop 25).take 5 = cs.drop 25 := List.take_of_length_le (by rw [List.length_drop]; omega)
     have s0 := s 0
     have s5 := s 5
     have s10 := s 10
     have s15 := s 15
     have s20 := s 20
     simp only [Nat.zero_add, Nat.reduceAdd, Nat.reduceMul, List.drop_zero] at *
     rw [l, ← s20, ← s15, ← s10, ← s5, ← s0]
    rw [e, r0, r1, r2, r3, r4, r5]
    rfl
  ·cases h
end
theorem shapes_of_head {W : World} {rest : List (String × DataW Unit)} (h : laidMet Tryz.prog (("lustrum/point.shapes", shpsD) :: rest) W) : TabSH W := by
 obtain ⟨ps, ⟨g', t', cs, fuel, p, q, hg', ht', hvar, hd, _, _⟩, _⟩ := h
 obtain rfl := Option.some.inj (gSH.symm.trans hg')
 obtain rfl := Option.some.inj (gt_s6.symm.trans ht')
 unfold TabSH
 rw [hvar, ← shapes_cells hd]
theorem tabs_of {W : World} (h : laidMetH Tryz.prog [("lustrum/civil.monthDays", Rows.laid_lustrum_civil_monthDays), ("lustrum/unit.counts", Rows.laid_lustrum_unit_counts), ("lustrum/point.shapes", Rows.laid_lustrum_point_shapes), ("lustrum/point.radii", Rows.laid_lustrum_point_radii)] W) : Tabs8 W := by
 have h1 : laidMet Tryz.prog [("lustrum/civil.monthDays", Lib.tabData .i64 [0, 31, 28, 31, 30, 31, 30, 31, 31, 30, 31, 30, 31]), ("lustrum/unit.counts", Lib.tabData .i64 [3652425, 120000, 40000, 10000, 1000, 100]), ("lustrum/point.shapes", shpsD), ("lustrum/point.radii", Lib.tabData .i64 [3, 1, 1, 2, 1, 1])] W := h
 exact ⟨⟨Lib.tabIs_of_head gMD gt_m13 Tryz.underlying154 Tryz.underlying3 cells_i1 cells_m13 h1, Lib.tabIs_of_head gUC gt_u6 Tryz.underlying127 Tryz.underlying3 cells_i1 cells_u6 h1.tail⟩, shapes_of_head h1.tail.tail, Lib.tabIs_of_head gRD gt_r6 Tryz.underlying127 Tryz.underlying3 cells_i1 cells_u6 h1.tail.tail.tail⟩
section
variable {H : Type} {enc : TypeId × Value → H} {W : World} {v : Value} {d : DataW H} {p : List MemPlace} {base : Nat}
end
end Go.Proofs.YtajllgjfndfdjaaGreatDoor
namespace Go.Proofs.YtajllgjfndfdjaaGreatDoor
open Go.RowKit Go.ChangeShapes Go.WideShapes Go.Deep Go.Joins
set_option linter.unusedVariables false
set_option linter.unusedSimpArgs false
instance instND : Inhabited ND := ⟨nd0⟩
mutual
def wgtN : ND → Nat
 | .mk _ p _ _ l => p.y.size + p.m.size + p.d.size + 1 + wgtL l
def wgtL : List ND → Nat
 | [] => 0
 | x :: l => wgtN x + wgtL l
end
theorem wgt_sum {H : Type} (T : Nat → ND) (D : Nat → DataW H) : ∀ n, (∀ i, i < n → wgtN (T i) ≤ Rows.uptoBulk (D i)) → wgtL ((List.range n).map T) ≤ Rows.uptoBulkAll ((List.range n).map D) := by
 have app : ∀ a b : List ND, wgtL (a ++ b) = wgtL a + wgtL b := by
  intro a b
  induction a with
  | nil => simp [wgtL]
  | cons x a ih => simp [wgtL, ih, Nat.add_assoc]
 have appD : ∀ a b : List (DataW H), Rows.uptoBulkAll (a ++ b) = Rows.uptoBulkAll a + Rows.uptoBulkAll b := by
  intro a b
  induction a with
  | nil => simp [Rows.uptoBulkAll]
  | cons x a ih => simp [Rows.uptoBulkAll, ih, Nat.add_assoc]
 intro n
 induction n with
 | zero => intro _; simp [wgtL]
 | succ n ih =>
  intro h
  rw [List.range_succ, List.map_append, List.map_append, app, appD]
  have h1 := ih (fun i hi => h i (by omega))
  have h2 := h n (by omega)
  simp only [List.map_cons, List.map_nil, wgtL, Rows.uptoBulkAll]
  omega
theorem bulk_mem {H : Type} {d : DataW H} {l : List (DataW H)} (h : d ∈ l) : Rows.uptoBulk d ≤ Rows.uptoBulkAll l := by
 induction l with
 | nil => cases h
 | cons x r ih =>
  simp only [Rows.uptoBulkAll]
  rcases List.mem_cons.1 h with rfl | h
  ·omega
  ·have := ih h; omega
theorem ndGL_of {l : List ND} (h : ∀ x ∈ l, ndG x) : ndGL l := by
 induction l with
 | nil => trivial
 | cons x l ih => exact ⟨h x (by simp), ih fun y hy => h y (by simp [hy])⟩
section
variable {H : Type} {enc : TypeId × Value → H} {W : World} {v : Value} {d : DataW H} {p : List MemPlace} {base : Nat}
theorem cells_b1 : Tryz.prog.cellsOf 4 = 1 := by kernel_rfl
theorem cells_nd : Tryz.prog.cellsOf 26 = 8 := by kernel_rfl
theorem cells_nds : Tryz.prog.cellsOf 24 = 1 := by kernel_rfl
set_option maxRecDepth 100000 in
theorem point_read {fuel : Nat} {L : List Value} {y : DataW H × List MemPlace} (h : DataW.trod enc Tryz.prog W 0 (fun _ => true) true fuel 23 L = some y) :
  ∃ q : PT, L = [.int .i64 q.k, .string q.y, .string q.m, .string q.d] ∧ -9223372036854775808 ≤ q.k ∧ q.k ≤ 9223372036854775807 ∧ q.y.size + q.m.size + q.d.size + 1 ≤ Rows.uptoBulk y.1 := by
 obtain ⟨xs, k', hk, hxy, hlen, hxl, hf'⟩ := DataW.trod_struct Tryz.underlying23 h
 rw [cells_pt] at hlen
 match xs, hxl, L, hlen with
 | [y0, y1, y2, y3], _, [v0, v1, v2, v3], _ =>
  have g0 := hf' 0 _ rfl
  have g1 := hf' 1 _ rfl
  have g2 := hf' 2 _ rfl
  have g3 := hf' 3 _ rfl
  simp [cells_i1, cells_s1] at g0 g1 g2 g3
  obtain ⟨x0, q0, e0, w0⟩ := DataW.trod_int Tryz.underlying3 g0
  obtain ⟨x1, q1, e1, _⟩ := DataW.trod_string Tryz.underlying9 g1
  obtain ⟨x2, q2, e2, _⟩ := DataW.trod_string Tryz.underlying9 g2
  obtain ⟨x3, q3, e3, _⟩ := DataW.trod_string Tryz.underlying9 g3
  subst e0 e1 e2 e3
  simp only [List.cons.injEq, and_true] at q0 q1 q2 q3
  subst q0 q1 q2 q3
  refine ⟨⟨x0, x1, x2, x3⟩, rfl, (wf_bd w0).1, (wf_bd w0).2, ?_⟩
  rw [hxy]
  simp only [List.map_cons, List.map_nil, Rows.uptoBulk, Rows.uptoBulkAll]
  rw [show x1.data.toList.length = x1.size from rfl, show x2.data.toList.length = x2.size from rfl, show x3.data.toList.length = x3.size from rfl]
  omega
set_option maxRecDepth 100000 in
theorem node_read {N : Nat} (IH : ∀ (fuel : Nat) (v : Value) (y : DataW H × List MemPlace), Rows.uptoBulk y.1 < N → DataW.trod enc Tryz.prog W 0 (fun _ => true) true fuel 24 [v] = some y → ∃ l, NodesAt W v l ∧ ndGL l ∧ wgtL l + 1 ≤ Rows.uptoBulk y.1)
  {fuel : Nat} {L : List Value} {y : DataW H × List MemPlace} (hN : Rows.uptoBulk y.1 ≤ N) (h : DataW.trod enc Tryz.prog W 0 (fun _ => true) true fuel 26 L = some y) :
  ∃ (n : ND) (v : Value), L = [.int .i64 n.k, .int .i64 n.p.k, .string n.p.y, .string n.p.m, .string n.p.d, .bool n.a, .bool n.t, v] ∧ NodesAt W v n.l ∧ ndG n ∧ wgtN n ≤ Rows.uptoBulk y.1 := by
 obtain ⟨xs, k', hk, hxy, hlen, hxl, hf'⟩ := DataW.trod_struct Tryz.underlying26 h
 rw [cells_nd] at hlen
 match xs, hxl, L, hlen with
 | [y0, y1, y2, y3, y4], _, [v0, v1, v2, v3, v4, v5, v6, v7], _ =>
  have g0 := hf' 0 _ rfl
  have g1 := hf' 1 _ rfl
  have g2 := hf' 2 _ rfl
  have g3 := hf' 3 _ rfl
  have g4 := hf' 4 _ rfl
  simp [cells_i1, cells_b1, cells_pt, cells_nds] at g0 g1 g2 g3 g4
  obtain ⟨x0, q0, e0, w0⟩ := DataW.trod_int Tryz.underlying3 g0
  obtain ⟨q, q1, b0, b1, b2⟩ := point_read g1
  obtain ⟨x2, q2, e2⟩ := DataW.trod_bool Tryz.underlying4 g2
  obtain ⟨x3, q3, e3⟩ := DataW.trod_bool Tryz.underlying4 g3
  have bk : Rows.uptoBulk y.1 = Rows.uptoBulk y0.1 + (Rows.uptoBulk y1.1 + (Rows.uptoBulk y2.1 + (Rows.uptoBulk y3.1 + Rows.uptoBulk y4.1))) + 1 := by
   rw [hxy]
   simp [Rows.uptoBulk, Rows.uptoBulkAll]
  obtain ⟨l, hl, hg, hw⟩ := IH _ _ _ (by omega) g4
  simp only [List.cons.injEq, and_true] at q0 q1 q2 q3
  obtain ⟨r0, r1, r2, r3⟩ := q1
  subst q0 q2 q3 r0 r1 r2 r3
  refine ⟨.mk x0 q x2 x3 l, v7, rfl, hl, ⟨⟨(wf_bd w0).1, (wf_bd w0).2, b0, b1⟩, hg⟩, ?_⟩
  simp only [wgtN]
  omega
set_option maxRecDepth 100000 in
theorem nodes_trod : ∀ (N fuel : Nat) (v : Value) (y : DataW H × List MemPlace), Rows.uptoBulk y.1 < N → DataW.trod enc Tryz.prog W 0 (fun _ => true) true fuel 24 [v] = some y → ∃ l, NodesAt W v l ∧ ndGL l ∧ wgtL l + 1 ≤ Rows.uptoBulk y.1 := by
 intro N
 induction N with
 | zero => intro _ _ _ h; omega
 | succ N IH =>
  intro fuel v y hN hf
  rcases open_slice Tryz.underlying24 hf with ⟨hc, rfl⟩ | ⟨a, ln, cp, m, k, D, Pl, hc, _, hl, hm, hmm, rfl, hall⟩
  ·simp at hc
   subst hc
   exact ⟨[], .none _ _, trivial, by simp [wgtL, Rows.uptoBulk]⟩
  ·simp at hc
   subst hc
   simp only [if_true] at hmm
   subst hmm
   simp only [Rows.uptoBulk] at hN ⊢
   by_cases h0 : ln = 0
   ·subst h0
    exact ⟨[], .none _ _, trivial, by simp [wgtL]⟩
   ·have each : ∀ i, i < ln → ∃ n : ND, (∃ u, (∃ cs', W.cells? 0 (a.add (i * 8)) 8 = some cs' ∧ cs' = [.int .i64 n.k, .int .i64 n.p.k, .string n.p.y, .string n.p.m, .string n.p.d, .bool n.a, .bool n.t, u]) ∧ NodesAt W u n.l) ∧ ndG n ∧ wgtN n ≤ Rows.uptoBulk (D i) := by
     intro i hi
     obtain ⟨cs', h1, h2⟩ := hall i (by omega)
     rw [cells_nd] at h1
     have hb : Rows.uptoBulk (D i) ≤ N := by
      have := bulk_mem (d := D i) (l := (List.range ln).map D) (by simp; exact ⟨i, hi, rfl⟩)
      omega
     obtain ⟨n, u, e, hu, hg, hw⟩ := node_read IH hb h2
     exact ⟨n, ⟨u, ⟨cs', h1, e⟩, hu⟩, hg, hw⟩
    obtain ⟨T, hT⟩ := choose_lt each
    have hU : ∀ i, i < ln → ∃ u, (∃ cs', W.cells? 0 (a.add (i * 8)) 8 = some cs' ∧ cs' = [.int .i64 (T i).k, .int .i64 (T i).p.k, .string (T i).p.y, .string (T i).p.m, .string (T i).p.d, .bool (T i).a, .bool (T i).t, u]) ∧ NodesAt W u (T i).l := fun i hi => (hT i hi).1
    obtain ⟨b, off, sp⟩ := a
    have hs : sp = none := by
     obtain ⟨u, ⟨cs', h1, rfl⟩, _⟩ := hU 0 (by omega)
     obtain ⟨_, hlen, hcell⟩ := World.cells?_some h1
     have e0 := hcell 0 (by omega)
     rw [add_add] at e0
     have e1 : W.cell? (Addr.add ⟨b, off, sp⟩ 0) = some (.int .i64 (T 0).k) := by simpa using e0
     have q := World.cell?_spot e1
     simpa [Addr.add] using q
    subst hs
    have lt : ∀ i, i < ln → nth ((List.range ln).map T) i = T i := fun i hi => by unfold nth; simp [List.getD, hi]
    have hV : ∀ i, ∃ u, i < ln → (RowN W b (off + i * 8) (T i) u ∧ NodesAt W u (T i).l) := by
     intro i
     by_cases hi : i < ln
     ·obtain ⟨u, ⟨cs', h1, rfl⟩, hu⟩ := hU i hi
      obtain ⟨_, hlen, hcell⟩ := World.cells?_some h1
      refine ⟨u, fun _ => ⟨?_, hu⟩⟩
      have e0 := hcell 0 (by omega)
      have e1 := hcell 1 (by omega)
      have e2 := hcell 2 (by omega)
      have e3 := hcell 3 (by omega)
      have e4 := hcell 4 (by omega)
      have e5 := hcell 5 (by omega)
      have e6 := hcell 6 (by omega)
      have e7 := hcell 7 (by omega)
      rw [add_add] at e0 e1 e2 e3 e4 e5 e6 e7
      rw [Addr.add_lit] at e0 e1 e2 e3 e4 e5 e6 e7
      exact ⟨by simpa [Nat.add_assoc] using e0, by simpa [Nat.add_assoc] using e1, by simpa [Nat.add_assoc] using e2, by simpa [Nat.add_assoc] using e3, by simpa [Nat.add_assoc] using e4, by simpa [Nat.add_assoc] using e5, by simpa [Nat.add_assoc] using e6, by simpa [Nat.add_assoc] using e7⟩
     ·exact ⟨.bool false, fun h => absurd h hi⟩
    obtain ⟨vs, hvs⟩ := Classical.axiomOfChoice hV
    refine ⟨(List.range ln).map T, ?_, ndGL_of fun x hx => ?_, ?_⟩
    ·have := NodesAt.row (w := W) ((List.range ln).map T) b off m vs (by simp; omega) (by simpa using hl) hm (fun i hi => by
      have hi' : i < ln := by simpa using hi
      rw [lt i hi']
      exact (hvs i hi').1) (fun i hi => by
      have hi' : i < ln := by simpa using hi
      rw [lt i hi']
      exact (hvs i hi').2)
     simpa using this
    ·simp only [List.mem_map, List.mem_range] at hx
     obtain ⟨i, hi, rfl⟩ := hx
     exact (hT i hi).2.1
    ·have := wgt_sum T D ln (fun i hi => (hT i hi).2.2)
     omega
set_option maxRecDepth 100000 in
theorem open_node (hv : Value.okWide Tryz.prog W .any base 26 v) (h : DataW.Trod enc Tryz.prog W 0 (fun _ => true) true 26 v d p) : ∃ (n : ND) (u : Value), v = ndV n u ∧ NodesAt W u n.l ∧ ndG n ∧ wgtN n ≤ Rows.uptoBulk d := by
 obtain ⟨cs, rfl, hsz⟩ := okWide_struct Tryz.underlying26 hv
 obtain ⟨fuel, hf⟩ := h
 obtain ⟨n, u, e, hu, hg, hw⟩ := node_read (N := Rows.uptoBulk d) (fun fuel v y _ hy => nodes_trod (Rows.uptoBulk y.1 + 1) fuel v y (Nat.lt_succ_self _) hy) (Nat.le_refl _) hf
 refine ⟨n, u, ?_, hu, hg, hw⟩
 unfold ndV
 simp only [Value.cells] at e
 obtain ⟨cs⟩ := cs
 simp only at e
 rw [e]
end
end Go.Proofs.YtajllgjfndfdjaaGreatDoor
