/-
  Joined: TrP, TrA, TrB, TrC, TrD.
-/
import Derived.Test.YtndmohamjffpcaaDoorGPtA
import Derived.Laws.StructEq
import Derived.LoopTactic
namespace Go.Proofs.YtndmohamjffpcaaDoor
set_option linter.unusedVariables false
set_option linter.unusedSimpArgs false
/-- a node, as plain data -/
inductive ND where
  | mk (k : Int) (p : PT) (a t : Bool) (l : List ND) : ND
def ND.k : ND → Int | .mk k _ _ _ _ => k
def ND.p : ND → PT | .mk _ p _ _ _ => p
def ND.a : ND → Bool | .mk _ _ a _ _ => a
def ND.t : ND → Bool | .mk _ _ _ t _ => t
def ND.l : ND → List ND | .mk _ _ _ _ l => l
mutual
def cntN : ND → Nat
  | .mk _ _ _ _ l => cntL l + 1
def cntL : List ND → Nat
  | [] => 0
  | x :: l => cntN x + cntL l
end
mutual
def depN : ND → Nat
  | .mk k _ _ _ l => depL l + (k == 2).toNat
def depL : List ND → Nat
  | [] => 0
  | x :: l => max (depN x) (depL l)
end
mutual
def hgtN : ND → Nat
  | .mk _ _ _ _ l => hgtL l + 1
def hgtL : List ND → Nat
  | [] => 0
  | x :: l => max (hgtN x) (hgtL l)
end
theorem cntL_append : ∀ a b : List ND, cntL (a ++ b) = cntL a + cntL b
  | [], b => by simp [cntL]
  | x :: a, b => by simp [cntL, cntL_append a b, Nat.add_assoc]
theorem depL_append : ∀ a b : List ND, depL (a ++ b) = max (depL a) (depL b)
  | [], b => by simp [depL]
  | x :: a, b => by simp [depL, depL_append a b, Nat.max_assoc]
mutual
theorem hgt_cnt : ∀ n : ND, hgtN n ≤ cntN n
  | .mk _ _ _ _ l => by simp only [hgtN, cntN]; have := hgt_cntL l; omega
theorem hgt_cntL : ∀ l : List ND, hgtL l ≤ cntL l
  | [] => by simp [hgtL, cntL]
  | x :: l => by simp only [hgtL, cntL]; have := hgt_cnt x; have := hgt_cntL l; omega
end
mutual
theorem dep_cnt : ∀ n : ND, depN n ≤ cntN n
  | .mk k _ _ _ l => by simp only [depN, cntN]; have := dep_cntL l; have := Bool.toNat_le (k == 2); omega
theorem dep_cntL : ∀ l : List ND, depL l ≤ cntL l
  | [] => by simp [depL, cntL]
  | x :: l => by simp only [depL, cntL]; have := dep_cnt x; have := dep_cntL l; omega
end
theorem cnt_pos (n : ND) : 1 ≤ cntN n := by cases n; simp only [cntN]; omega
theorem len_cntL : ∀ l : List ND, l.length ≤ cntL l
  | [] => by simp [cntL]
  | x :: l => by simp only [cntL, List.length_cons]; have := len_cntL l; have := cnt_pos x; omega
theorem cnt_mem : ∀ {l : List ND} {x : ND}, x ∈ l → cntN x ≤ cntL l
  | y :: l, x, h => by
    simp only [cntL]
    rcases List.mem_cons.1 h with rfl | h
    · omega
    · have := cnt_mem h; omega
def bareP (p : PT) : Bool := decide (p.k = 0) && (decide (p.y.size = 0) && (decide (p.m.size = 0) && decide (p.d.size = 0)))
def bareN (n : ND) : Bool := bareP n.p && (!n.a && !n.t)
section
variable (sp : PT → Bool)
def endN (n : ND) : Bool := (n.k == 0 && (sp n.p && n.l.isEmpty)) || ((n.k == 3 || n.k == 4) && (bareN n && n.l.isEmpty))
def twoN : List ND → Bool
  | [x, y] => endN sp x && endN sp y
  | _ => false
mutual
def rightN : ND → Bool
  | .mk k p a t l => (k == 0 && endN sp (.mk k p a t l)) || ((k == 1 && (bareN (.mk k p a t l) && twoN sp l)) || (k == 2 && (bareN (.mk k p a t l) && (!l.isEmpty && rightL l))))
def rightL : List ND → Bool
  | [] => true
  | x :: l => rightN x && rightL l
end
theorem rightL_all : ∀ l : List ND, rightL sp l = l.all (rightN sp)
  | [] => rfl
  | x :: l => by simp [rightL, rightL_all l]
theorem rightL_append (a b : List ND) : rightL sp (a ++ b) = (rightL sp a && rightL sp b) := by simp [rightL_all]
end
def eqP (p q : PT) : Bool := p.k == q.k && (p.y.toList == q.y.toList && (p.m.toList == q.m.toList && p.d.toList == q.d.toList))
theorem bytes_iff (a b : ByteArray) : (a.toList == b.toList) = true ↔ a = b := by
  rw [beq_iff_eq, ByteArray.toList_eq, ByteArray.toList_eq]
  constructor
  · intro h
    obtain ⟨⟨x⟩⟩ := a
    obtain ⟨⟨y⟩⟩ := b
    simp only at h
    rw [h]
  · intro h
    rw [h]
theorem eqP_iff (p q : PT) : eqP p q = true ↔ p = q := by
  obtain ⟨a, b, c, d⟩ := p
  obtain ⟨a', b', c', d'⟩ := q
  unfold eqP
  simp only [Bool.and_eq_true, bytes_iff, PT.mk.injEq]
  rw [beq_iff_eq]
mutual
def sameN : ND → ND → Bool
  | .mk k p a t l, .mk k' p' a' t' l' => decide (k = k') && (eqP p p' && (decide (a = a') && (decide (t = t') && sameL l l')))
def sameL : List ND → List ND → Bool
  | [], [] => true
  | x :: l, y :: l' => sameN x y && sameL l l'
  | _, _ => false
end
mutual
theorem same_iff : ∀ a b : ND, sameN a b = true ↔ a = b
  | .mk k p a t l, .mk k' p' a' t' l' => by
    simp only [sameN, Bool.and_eq_true, decide_eq_true_eq, eqP_iff, sameL_iff l l', ND.mk.injEq]
theorem sameL_iff : ∀ a b : List ND, sameL a b = true ↔ a = b
  | [], [] => by simp [sameL]
  | [], _ :: _ => by simp [sameL]
  | _ :: _, [] => by simp [sameL]
  | x :: l, y :: l' => by simp only [sameL, Bool.and_eq_true, same_iff x y, sameL_iff l l', List.cons.injEq]
end
mutual
def shortN : ND → Bool
  | .mk _ p _ _ l => (decide (p.y.size ≤ 10) && (decide (p.m.size ≤ 10) && decide (p.d.size ≤ 10))) && shortL l
def shortL : List ND → Bool
  | [] => true
  | x :: l => shortN x && shortL l
end
def fewN (n : ND) : Bool := decide (cntN n ≤ 120) && shortN n
def saneN (sp : PT → Bool) (n : ND) : Bool := decide (cntN n ≤ 64) && (decide (depN n ≤ 8) && rightN sp n)
end Go.Proofs.YtndmohamjffpcaaDoor

namespace Go.Proofs.YtndmohamjffpcaaDoor
open Go.RowKit
set_option linter.unusedVariables false
set_option linter.unusedSimpArgs false
/-- the boxes X turn, all else stays -/
structure KX (X : Nat → Prop) (w w' : World) : Prop where
  os : w'.os = w.os
  tape : w'.tape = w.tape
  output : w'.output = w.output
  size : w.heap.size ≤ w'.heap.size
  block : ∀ k, k < w.heap.size → ¬ X k → w'.heap[k]? = w.heap[k]?
theorem KX.refl (X : Nat → Prop) (w : World) : KX X w w := ⟨rfl, rfl, rfl, Nat.le_refl _, fun _ _ _ => rfl⟩
theorem KX.trans {X : Nat → Prop} {a b c : World} (h : KX X a b) (k : KX X b c) : KX X a c :=
  ⟨k.os.trans h.os, k.tape.trans h.tape, k.output.trans h.output, Nat.le_trans h.size k.size, fun i hi hb => (k.block i (Nat.lt_of_lt_of_le hi h.size) hb).trans (h.block i hi hb)⟩
theorem KX.kp {X : Nat → Prop} {w w' : World} (h : Kp w w') : KX X w w' := ⟨h.os, h.tape, h.output, h.size, fun i hi _ => h.block i hi⟩
theorem KX.set {X : Nat → Prop} {B : Nat} (hB : X B) (w : World) (v : Value) : KX X w (w.setCell ⟨B, 0, none⟩ v) :=
  ⟨rfl, rfl, rfl, by unfold World.setCell; simp, fun k _ hb => Below.heap_setCell _ _ _ k (fun e => hb (by rw [e]; exact hB))⟩
theorem KX.to {X : Nat → Prop} {w w0 w' : World} (h : KX X w0 w') (k : Kp w w0) (hB : ∀ b, X b → w.heap.size ≤ b) : Kp w w' :=
  Below.trans k ⟨h.os, h.tape, h.output, h.size, fun i hi => h.block i (by have := k.size; omega) (fun x => by have := hB i x; omega)⟩
theorem KX.heap {X : Nat → Prop} {b : Nat} {w w' : World} {o : Obj} (h : KX X w w') (c : w.heap[b]? = some o) (hb : ¬ X b) : w'.heap[b]? = some o :=
  (h.block b (Array.getElem?_eq_some_iff.1 c).1 hb).trans c
theorem KX.cell {X : Nat → Prop} {b o : Nat} {w w' : World} {x : Value} (h : KX X w w') (c : w.cell? ⟨b, o, none⟩ = some x) (hb : ¬ X b) : w'.cell? ⟨b, o, none⟩ = some x :=
  (World.cell?_of_block (w := w) (h.block b (World.block_lt_of_cell? _ _ c) hb)).trans c
/-- a variable's box -/
def Cel (w : World) (B : Nat) (t : TypeId) (v : Value) : Prop := w.heap[B]? = some (.cells #[v] t (0, 0))
theorem Cel.lt {w : World} {B : Nat} {t : TypeId} {v : Value} (h : Cel w B t v) : B < w.heap.size := (Array.getElem?_eq_some_iff.1 h).1
theorem Cel.cell {w : World} {B : Nat} {t : TypeId} {v : Value} (h : Cel w B t v) : w.cell? ⟨B, 0, none⟩ = some v := by simp [World.cell?, show w.heap[B]? = _ from h]
theorem Cel.frozen {w : World} {B : Nat} {t : TypeId} {v : Value} (h : Cel w B t v) : w.frozen? ⟨B, 0, none⟩ = false := by simp [World.frozen?, show w.heap[B]? = _ from h]
theorem Cel.kx {X : Nat → Prop} {w w' : World} {B : Nat} {t : TypeId} {v : Value} (h : Cel w B t v) (k : KX X w w') (hB : ¬ X B) : Cel w' B t v := k.heap h hB
theorem Cel.kp {w w' : World} {B : Nat} {t : TypeId} {v : Value} (h : Cel w B t v) (k : Kp w w') : Cel w' B t v := heap_block k h
theorem Cel.set {w : World} {B : Nat} {t : TypeId} {v : Value} (h : Cel w B t v) (v' : Value) : Cel (w.setCell ⟨B, 0, none⟩ v') B t v' := ps_heap h 0 v'
theorem Cel.other {w : World} {B C : Nat} {t : TypeId} {v : Value} (h : Cel w B t v) (hc : B ≠ C) (v' : Value) : Cel (w.setCell ⟨C, 0, none⟩ v') B t v := (ps_other hc 0 v').trans h
def nd0 : ND := .mk 0 ⟨0, ⟨#[]⟩, ⟨#[]⟩, ⟨#[]⟩⟩ false false []
def nth (l : List ND) (i : Nat) : ND := l.getD i nd0
theorem nth_mem {l : List ND} {i : Nat} (h : i < l.length) : nth l i ∈ l := by
  unfold nth
  simp [List.getD, h]
theorem nth_take {l : List ND} {i : Nat} (h : i < l.length) : l.take (i + 1) = l.take i ++ [nth l i] := by
  unfold nth
  rw [List.take_add_one]
  simp [List.getD, h]
theorem nth_split {l : List ND} {i : Nat} (h : i < l.length) : l = l.take i ++ nth l i :: l.drop (i + 1) := by
  have e : l.drop i = nth l i :: l.drop (i + 1) := by
    rw [List.drop_eq_getElem_cons h]
    unfold nth
    simp [List.getD, h]
  rw [← e, List.take_append_drop]
/-- the value of a node whose parts stand in lv -/
def ndV (n : ND) (lv : Value) : Value := .agg #[.int .i64 n.k, .int .i64 n.p.k, .string n.p.y, .string n.p.m, .string n.p.d, .bool n.a, .bool n.t, lv]
def RowN (w : World) (b o : Nat) (n : ND) (lv : Value) : Prop :=
  w.cell? ⟨b, o, none⟩ = some (.int .i64 n.k) ∧ w.cell? ⟨b, o + 1, none⟩ = some (.int .i64 n.p.k) ∧ w.cell? ⟨b, o + 2, none⟩ = some (.string n.p.y) ∧ w.cell? ⟨b, o + 3, none⟩ = some (.string n.p.m) ∧ w.cell? ⟨b, o + 4, none⟩ = some (.string n.p.d) ∧
  w.cell? ⟨b, o + 5, none⟩ = some (.bool n.a) ∧ w.cell? ⟨b, o + 6, none⟩ = some (.bool n.t) ∧ w.cell? ⟨b, o + 7, none⟩ = some lv
theorem RowN.kp {w w' : World} {b o : Nat} {n : ND} {lv : Value} (h : RowN w b o n lv) (k : Kp w w') : RowN w' b o n lv := by
  obtain ⟨h0, h1, h2, h3, h4, h5, h6, h7⟩ := h
  exact ⟨cell_up k h0, cell_up k h1, cell_up k h2, cell_up k h3, cell_up k h4, cell_up k h5, cell_up k h6, cell_up k h7⟩
/-- a list of nodes in memory -/
inductive NodesAt (w : World) : Value → List ND → Prop
  | none (ad : Option Addr) (c : Nat) : NodesAt w (.slice ad 0 c) []
  | row (l : List ND) (b off cap : Nat) (vs : Nat → Value) (hp : 0 < l.length) (hc : l.length ≤ cap) (hm : cap ≤ maxLen) (hr : ∀ i, i < l.length → RowN w b (off + i * 8) (nth l i) (vs i)) (hs : ∀ i, i < l.length → NodesAt w (vs i) (nth l i).l) :
    NodesAt w (.slice (some ⟨b, off, Option.none⟩) l.length cap) l
/-- what holds of a list's parts holds of it -/
theorem NodesAt.ind {w : World} {P : Value → List ND → Prop}
    (step : ∀ v l, (∃ ad c, v = .slice ad l.length c ∧ (0 < l.length → ∃ b off, ad = some ⟨b, off, Option.none⟩ ∧ ∀ i, i < l.length → ∃ vi, RowN w b (off + i * 8) (nth l i) vi ∧ NodesAt w vi (nth l i).l ∧ P vi (nth l i).l)) → P v l) :
    ∀ {v : Value} {l : List ND}, NodesAt w v l → P v l := by
  intro v l h
  induction h with
  | none ad c => exact step _ _ ⟨ad, c, rfl, fun h => by simp at h⟩
  | row l b off cap vs hp hc hm hr hs ih => exact step _ _ ⟨_, cap, rfl, fun _ => ⟨b, off, rfl, fun i hi => ⟨vs i, hr i hi, hs i hi, ih i hi⟩⟩⟩
theorem NodesAt.kp {w w' : World} {v : Value} {l : List ND} (h : NodesAt w v l) (k : Kp w w') : NodesAt w' v l := by
  induction h with
  | none ad c => exact .none ad c
  | row l b off cap vs hp hc hm hr hs ih => exact .row l b off cap vs hp hc hm (fun i hi => (hr i hi).kp k) ih
theorem NodesAt.slice {w : World} {v : Value} {l : List ND} (h : NodesAt w v l) : ∃ ad c, v = .slice ad l.length c := by
  cases h with
  | none ad c => exact ⟨ad, c, rfl⟩
  | row l b off cap vs hp hc hm hr hs => exact ⟨_, cap, rfl⟩
theorem NodesAt.len {w : World} {v : Value} {l : List ND} (h : NodesAt w v l) : l.length ≤ maxLen := by
  cases h with
  | none ad c => simp
  | row l b off cap vs hp hc hm hr hs => omega
mutual
/-- a node's integers fit -/
def ndG : ND → Prop
  | .mk k p _ _ l => (-9223372036854775808 ≤ k ∧ k ≤ 9223372036854775807 ∧ -9223372036854775808 ≤ p.k ∧ p.k ≤ 9223372036854775807) ∧ ndGL l
def ndGL : List ND → Prop
  | [] => True
  | x :: l => ndG x ∧ ndGL l
end
theorem ndGL_mem : ∀ {l : List ND}, ndGL l → ∀ x ∈ l, ndG x
  | [], _, _, h => by cases h
  | y :: l, g, x, h => by
    rcases List.mem_cons.1 h with rfl | h
    · exact g.1
    · exact ndGL_mem g.2 x h
theorem ndGL_nth {l : List ND} (h : ndGL l) {i : Nat} (hi : i < l.length) : ndG (nth l i) := ndGL_mem h _ (nth_mem hi)
theorem eta_nd (n : ND) : n = .mk n.k n.p n.a n.t n.l := by cases n; rfl
end Go.Proofs.YtndmohamjffpcaaDoor

namespace Go.Proofs.YtndmohamjffpcaaDoor
open Go.RowKit
set_option linter.unusedVariables false
set_option linter.unusedSimpArgs false
theorem bareP_eq (p : PT) : bareP p = (p.k == 0 && (p.y.toList == [] && (p.m.toList == [] && p.d.toList == []))) := by
  have h : ∀ s : ByteArray, decide (s.size = 0) = (s.toList == []) := fun s => by rw [← str_empty]; cases s.toList <;> rfl
  unfold bareP
  rw [h, h, h]
  rfl
theorem nd_dest (n : ND) : ∃ k pk y m d a t l, n = .mk k ⟨pk, y, m, d⟩ a t l := by
  obtain ⟨k, ⟨pk, y, m, d⟩, a, t, l⟩ := n
  exact ⟨k, pk, y, m, d, a, t, l, rfl⟩
set_option maxHeartbeats 4000000 in
set_option maxRecDepth 100000 in
theorem bare_any (n : ND) (v : Value) (w : World) : Calls Tryd.prog 23 #[ndV n v] w fun e w' => e = .returned (.bool (bareN n)) ∧ Kp w w' := by
  obtain ⟨k, pk, y, m, d, a, t, l, rfl⟩ := nd_dest n
  unfold ndV
  simp only [ND.k, ND.p, ND.a, ND.t]
  go_enter Tryd.func23, Tryd.ntmps23
  go_wp2
  all_goals go_ret
  all_goals refine ⟨?_, Kp.alloc _ _⟩
  all_goals simp_all [bareN, bareP_eq, ND.a, ND.t, ND.p]
theorem row8 {w : World} {b : Nat} {c0 c1 c2 c3 c4 c5 c6 c7 : Value} {t : TypeId} {fr : Nat × Nat} (hg : w.heap[b]? = some (.cells #[c0, c1, c2, c3, c4, c5, c6, c7] t fr)) :
    w.cell? ⟨b, 0, none⟩ = some c0 ∧ w.cell? ⟨b, 1, none⟩ = some c1 ∧ w.cell? ⟨b, 2, none⟩ = some c2 ∧ w.cell? ⟨b, 3, none⟩ = some c3 ∧ w.cell? ⟨b, 4, none⟩ = some c4 ∧ w.cell? ⟨b, 5, none⟩ = some c5 ∧ w.cell? ⟨b, 6, none⟩ = some c6 ∧ w.cell? ⟨b, 7, none⟩ = some c7 := by
  refine ⟨?_, ?_, ?_, ?_, ?_, ?_, ?_, ?_⟩ <;> simp [World.cell?, hg]
set_option maxHeartbeats 4000000 in
set_option maxRecDepth 100000 in
theorem of_node_any (p : PT) (a t : Bool) (w : World) : Calls Tryd.prog 58 #[ptV p, .bool a, .bool t] w fun e w' => e = .returned (ndV (.mk 0 p a t []) (.slice none 0 0)) ∧ Kp w w' := by
  obtain ⟨pk, y, m, d⟩ := p
  unfold ndV ptV
  simp only [ND.k, ND.p, ND.a, ND.t]
  go_enter Tryd.func58, Tryd.ntmps58
  go_wp2
  obtain ⟨x0, x1, x2, x3, x4, x5, x6, x7⟩ := row8 (heap_at (w.alloc (.cells #[.int .i64 pk, .string y, .string m, .string d] 23)) (.cells #[.int .i64 0, .int .i64 pk, .string y, .string m, .string d, .bool a, .bool t, .slice none 0 0] 26) (w.heap.size + 1) (by simp))
  exact bodyPost_ret (v := .agg #[.int .i64 0, .int .i64 pk, .string y, .string m, .string d, .bool a, .bool t, .slice none 0 0]) (by simp [results, Tryd.results58, go_sem, x0, x1, x2, x3, x4, x5, x6, x7]) rfl ⟨rfl, (Kp.alloc _ _).trans (Kp.alloc _ _)⟩
set_option maxHeartbeats 4000000 in
set_option maxRecDepth 100000 in
theorem oneOf_any (v : Value) (l : List ND) (w : World) (h : ∃ ad c, v = .slice ad l.length c) : Calls Tryd.prog 18 #[v] w fun e w' => e = .returned (ndV (.mk 2 ⟨0, ⟨#[]⟩, ⟨#[]⟩, ⟨#[]⟩⟩ false false l) v) ∧ Kp w w' := by
  obtain ⟨ad, c, rfl⟩ := h
  unfold ndV
  simp only [ND.k, ND.p, ND.a, ND.t]
  go_enter Tryd.func18, Tryd.ntmps18
  go_wp2
  obtain ⟨x0, x1, x2, x3, x4, x5, x6, x7⟩ := row8 (heap_at w (.cells #[.int .i64 2, .int .i64 0, .string ⟨#[]⟩, .string ⟨#[]⟩, .string ⟨#[]⟩, .bool false, .bool false, .slice ad l.length c] 26) w.heap.size rfl)
  exact bodyPost_ret (v := .agg #[.int .i64 2, .int .i64 0, .string ⟨#[]⟩, .string ⟨#[]⟩, .string ⟨#[]⟩, .bool false, .bool false, .slice ad l.length c]) (by simp [results, Tryd.results18, go_sem, x0, x1, x2, x3, x4, x5, x6, x7]) rfl ⟨rfl, Kp.alloc _ _⟩
set_option maxHeartbeats 4000000 in
set_option maxRecDepth 100000 in
theorem between_any (n m : ND) (v u : Value) (w : World) (hv : NodesAt w v n.l) (hu : NodesAt w u m.l) : Calls Tryd.prog 68 #[ndV n v, ndV m u] w fun e w' => ∃ s : Value, e = .returned (ndV (.mk 1 ⟨0, ⟨#[]⟩, ⟨#[]⟩, ⟨#[]⟩⟩ false false [n, m]) s) ∧ NodesAt w' s [n, m] ∧ Kp w w' := by
  obtain ⟨k, pk, y, q, d, a, t, l, rfl⟩ := nd_dest n
  obtain ⟨k', pk', y', q', d', a', t', l', rfl⟩ := nd_dest m
  unfold ndV
  simp only [ND.k, ND.p, ND.a, ND.t]
  go_enter Tryd.func68, Tryd.ntmps68
  go_wp2
  obtain ⟨W2, hW2⟩ : ∃ W, W = (w.alloc (.cells #[.int .i64 k, .int .i64 pk, .string y, .string q, .string d, .bool a, .bool t, v] 26)).alloc (.cells #[.int .i64 k', .int .i64 pk', .string y', .string q', .string d', .bool a', .bool t', u] 26) := ⟨_, rfl⟩
  have kW : Kp w W2 := by rw [hW2]; exact (Kp.alloc _ _).trans (Kp.alloc _ _)
  have zW : W2.heap.size = w.heap.size + 1 + 1 := by rw [hW2]; simp
  rw [← hW2]
  obtain ⟨W3, hW3⟩ : ∃ W, W = W2.alloc (.cells #[.int .i64 1, .int .i64 0, .string ⟨#[]⟩, .string ⟨#[]⟩, .string ⟨#[]⟩, .bool false, .bool false, .slice (some ⟨w.heap.size + 1 + 1 + 1, 0, none⟩) 2 2] 26) := ⟨_, rfl⟩
  have kW3 : Kp W2 W3 := by rw [hW3]; exact Kp.alloc _ _
  have zW3 : W3.heap.size = w.heap.size + 1 + 1 + 1 := by rw [hW3]; simp [zW]
  have g3 : W3.heap[w.heap.size + 1 + 1]? = some (.cells #[.int .i64 1, .int .i64 0, .string ⟨#[]⟩, .string ⟨#[]⟩, .string ⟨#[]⟩, .bool false, .bool false, .slice (some ⟨w.heap.size + 1 + 1 + 1, 0, none⟩) 2 2] 26 (0, 0)) := by rw [hW3]; exact heap_at _ _ _ zW
  rw [← hW3]
  obtain ⟨W4, hW4⟩ : ∃ W, W = W3.alloc (.cells #[.int .i64 k, .int .i64 pk, .string y, .string q, .string d, .bool a, .bool t, v, .int .i64 k', .int .i64 pk', .string y', .string q', .string d', .bool a', .bool t', u] 26) := ⟨_, rfl⟩
  have kW4 : Kp W3 W4 := by rw [hW4]; exact Kp.alloc _ _
  have g4 : W4.heap[w.heap.size + 1 + 1 + 1]? = some (.cells #[.int .i64 k, .int .i64 pk, .string y, .string q, .string d, .bool a, .bool t, v, .int .i64 k', .int .i64 pk', .string y', .string q', .string d', .bool a', .bool t', u] 26 (0, 0)) := by rw [hW4]; exact heap_at _ _ _ zW3
  obtain ⟨x0, x1, x2, x3, x4, x5, x6, x7⟩ := row8 (heap_block kW4 g3)
  rw [← hW4]
  have KK : Kp w W4 := kW.trans (kW3.trans kW4)
  refine bodyPost_ret (v := .agg #[.int .i64 1, .int .i64 0, .string ⟨#[]⟩, .string ⟨#[]⟩, .string ⟨#[]⟩, .bool false, .bool false, .slice (some ⟨w.heap.size + 1 + 1 + 1, 0, none⟩) 2 2]) (by simp [results, Tryd.results68, go_sem, x0, x1, x2, x3, x4, x5, x6, x7]) rfl ⟨_, rfl, ?_, KK⟩
  refine NodesAt.row [.mk k ⟨pk, y, q, d⟩ a t l, .mk k' ⟨pk', y', q', d'⟩ a' t' l'] (w.heap.size + 1 + 1 + 1) 0 2 (fun i => if i = 0 then v else u) (by simp) (by simp) (by decide) ?_ ?_
  · intro i hi
    simp only [List.length_cons, List.length_nil] at hi
    match i, hi with
    | 0, _ => refine ⟨?_, ?_, ?_, ?_, ?_, ?_, ?_, ?_⟩ <;> simp [World.cell?, g4, nth, ND.k, ND.p, ND.a, ND.t]
    | 1, _ => refine ⟨?_, ?_, ?_, ?_, ?_, ?_, ?_, ?_⟩ <;> simp [World.cell?, g4, nth, ND.k, ND.p, ND.a, ND.t]
  · intro i hi
    simp only [List.length_cons, List.length_nil] at hi
    match i, hi with
    | 0, _ => exact hv.kp KK
    | 1, _ => exact hu.kp KK
set_option maxHeartbeats 4000000 in
set_option maxRecDepth 100000 in
theorem end_any (n : ND) (v : Value) (w : World) (h : ∃ ad c, v = .slice ad n.l.length c) (T : TabSH w) : Calls Tryd.prog 22 #[ndV n v] w fun e w' => e = .returned (.bool (endN saneP n)) ∧ Kp w w' := by
  obtain ⟨ad, c, rfl⟩ := h
  have CB := Lib.hid (fun w1 => bare_any n (.slice ad n.l.length c) w1)
  obtain ⟨k, pk, y, m, d, a, t, l, rfl⟩ := nd_dest n
  have CS := Lib.hid (fun w1 (q : Kp w w1) => show Calls Tryd.prog 36 #[.agg #[.int .i64 pk, .string y, .string m, .string d]] w1 _ from ptSane_any ⟨pk, y, m, d⟩ w1 (T.kp q))
  unfold endN
  unfold ndV at *
  simp only [ND.k, ND.p, ND.a, ND.t, ND.l] at *
  generalize bareN (.mk k ⟨pk, y, m, d⟩ a t l) = bb at *
  generalize saneP ⟨pk, y, m, d⟩ = ss at *
  have le : l.isEmpty = decide (l.length = 0) := by cases l <;> rfl
  rw [le]
  have li : ((l.length : Int) == 0) = decide (l.length = 0) := by
    by_cases h : l.length = 0
    · rw [h]; rfl
    · rw [decide_eq_false h, beq_eq_false_iff_ne]; omega
  generalize decide (l.length = 0) = lb at *
  by_cases h0 : k = 0
  · subst h0
    go_enter Tryd.func22, Tryd.ntmps22
    go_wp2_with fail
    refine (CS.out _ (Kp.alloc _ _)).mono ?_
    rintro e w1 ⟨rfl, kk⟩
    obtain ⟨x0, x1, x2, x3, x4, x5, x6, x7⟩ := row8 (heap_block kk (heap_at w (.cells #[.int .i64 0, .int .i64 pk, .string y, .string m, .string d, .bool a, .bool t, .slice ad l.length c] 26) w.heap.size rfl))
    go_wp2
    all_goals go_ret
    all_goals refine ⟨?_, (Kp.alloc _ _).trans kk⟩
    all_goals simp_all
  · have q0 : (k == 0) = false := beq_eq_false_iff_ne.2 h0
    by_cases h3 : k = 3
    · subst h3
      go_enter Tryd.func22, Tryd.ntmps22
      go_wp2_with fail
      refine (CB.out _).mono ?_
      rintro e w1 ⟨rfl, kk⟩
      obtain ⟨x0, x1, x2, x3, x4, x5, x6, x7⟩ := row8 (heap_block kk (heap_at w (.cells #[.int .i64 3, .int .i64 pk, .string y, .string m, .string d, .bool a, .bool t, .slice ad l.length c] 26) w.heap.size rfl))
      go_wp2
      all_goals go_ret
      all_goals refine ⟨?_, (Kp.alloc _ _).trans kk⟩
      all_goals simp_all
    · have q3 : (k == 3) = false := beq_eq_false_iff_ne.2 h3
      by_cases h4 : k = 4
      · subst h4
        go_enter Tryd.func22, Tryd.ntmps22
        go_wp2_with fail
        refine (CB.out _).mono ?_
        rintro e w1 ⟨rfl, kk⟩
        obtain ⟨x0, x1, x2, x3, x4, x5, x6, x7⟩ := row8 (heap_block kk (heap_at w (.cells #[.int .i64 4, .int .i64 pk, .string y, .string m, .string d, .bool a, .bool t, .slice ad l.length c] 26) w.heap.size rfl))
        go_wp2
        all_goals go_ret
        all_goals refine ⟨?_, (Kp.alloc _ _).trans kk⟩
        all_goals simp_all
      · have q4 : (k == 4) = false := beq_eq_false_iff_ne.2 h4
        go_enter Tryd.func22, Tryd.ntmps22
        go_wp2
        go_ret
        refine ⟨?_, Kp.alloc _ _⟩
        simp_all
set_option maxHeartbeats 4000000 in
set_option maxRecDepth 100000 in
theorem sameF_any (n m : ND) (v u : Value) (w : World) (hv : ∃ ad c, v = .slice ad n.l.length c) (hu : ∃ ad c, u = .slice ad m.l.length c) :
    Calls Tryd.prog 28 #[ndV n v, ndV m u] w fun e w' => e = .returned (.bool (n.k == m.k && (eqP n.p m.p && (n.a == m.a && (n.t == m.t && (n.l.length : Int) == m.l.length))))) ∧ Kp w w' := by
  obtain ⟨ad, c, rfl⟩ := hv
  obtain ⟨ad', c', rfl⟩ := hu
  obtain ⟨k, pk, y, q, d, a, t, l, rfl⟩ := nd_dest n
  obtain ⟨k', pk', y', q', d', a', t', l', rfl⟩ := nd_dest m
  unfold ndV eqP
  simp only [ND.k, ND.p, ND.a, ND.t, ND.l]
  go_enter Tryd.func28, Tryd.ntmps28
  go_wp2
  all_goals go_ret
  all_goals refine ⟨?_, (Kp.alloc _ _).trans (Kp.alloc _ _)⟩
  all_goals simp_all
end Go.Proofs.YtndmohamjffpcaaDoor

namespace Go.Proofs.YtndmohamjffpcaaDoor
open Go.RowKit
set_option linter.unusedVariables false
set_option linter.unusedSimpArgs false
theorem cntL_take {l : List ND} {i : Nat} (h : i < l.length) : cntL (l.take (i + 1)) = cntL (l.take i) + cntN (nth l i) := by
  rw [nth_take h, cntL_append]
  simp [cntL]
theorem depL_take {l : List ND} {i : Nat} (h : i < l.length) : depL (l.take (i + 1)) = max (depL (l.take i)) (depN (nth l i)) := by
  rw [nth_take h, depL_append]
  simp [depL]
theorem cntL_le {l : List ND} (i : Nat) : cntL (l.take i) ≤ cntL l := by
  conv => rhs; rw [← List.take_append_drop i l]
  rw [cntL_append]
  omega
theorem depL_le {l : List ND} (i : Nat) : depL (l.take i) ≤ depL l := by
  conv => rhs; rw [← List.take_append_drop i l]
  rw [depL_append]
  omega
theorem cntN_mk (n : ND) : cntN n = cntL n.l + 1 := by cases n; rfl
theorem depN_mk (n : ND) : depN n = depL n.l + (n.k == 2).toNat := by cases n; rfl
theorem cnt_at {l : List ND} {i : Nat} (h : i < l.length) : cntL (l.take i) + cntN (nth l i) ≤ cntL l := by
  rw [← cntL_take h]
  exact cntL_le _
theorem dep_at {l : List ND} {i : Nat} (h : i < l.length) : depN (nth l i) ≤ depL l := by
  have a := depL_take h
  have b := depL_le (l := l) (i + 1)
  omega
theorem max_step (u d : Int) (A B : Nat) : max u (d + ((max A B : Nat) : Int)) = max (max u (d + (A : Int))) (d + (B : Int)) := by
  rcases Nat.le_total A B with h | h
  · rw [Nat.max_eq_right h]; omega
  · rw [Nat.max_eq_left h]; omega
end Go.Proofs.YtndmohamjffpcaaDoor

namespace Go.Proofs.YtndmohamjffpcaaDoor
open Go.RowKit
set_option linter.unusedVariables false
set_option linter.unusedSimpArgs false
theorem KX.drop {X Y : Nat → Prop} {w W w' : World} (h : KX X W w') (k : Kp w W) (hXY : ∀ b, b < w.heap.size → X b → Y b) : KX Y w w' :=
  ⟨h.os.trans k.os, h.tape.trans k.tape, h.output.trans k.output, Nat.le_trans k.size h.size, fun i hi hy => (h.block i (Nat.lt_of_lt_of_le hi k.size) (fun x => hy (hXY i hi x))).trans (k.block i hi)⟩
end Go.Proofs.YtndmohamjffpcaaDoor
