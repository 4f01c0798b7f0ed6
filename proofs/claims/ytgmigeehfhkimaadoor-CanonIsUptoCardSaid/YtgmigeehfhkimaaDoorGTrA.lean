/-
  Joined: TrP, TrA, TrB, TrC, TrD.
-/
import Derived.Test.YtgmigeehfhkimaaDoorGPtA
import Derived.Laws.StructEq
import Derived.LoopTactic
namespace Go.Proofs.YtgmigeehfhkimaaDoor
set_option linter.unusedVariables false
set_option linter.unusedSimpArgs false
/-- a node, as plain data -/
inductive ND where
  | mk (k : Int) (p : PT) (a t : Bool) (l : List ND) : ND
def ND.k : ND → Int | .mk k _ _ _ _ => k
def ND.p : ND → PT | .mk _ p _ _ _ => p
def ND.a : ND → Bool | .mk _ _ a _ _ => a
def ND.t : ND → Bool | .mk _ _ _ t _ => t
def ND.l : ND → List ND | .mk _ _ _ _ l => l
mutual
def cntN : ND → Nat
  | .mk _ _ _ _ l => cntL l + 1
def cntL : List ND → Nat
  | [] => 0
  | x :: l => cntN x + cntL l
end
mutual
def depN : ND → Nat
  | .mk k _ _ _ l => depL l + (k == 2).toNat
def depL : List ND → Nat
  | [] => 0
  | x :: l => max (depN x) (depL l)
end
mutual
def hgtN : ND → Nat
  | .mk _ _ _ _ l => hgtL l + 1
def hgtL : List ND → Nat
  | [] => 0
  | x :: l => max (hgtN x) (hgtL l)
end
theorem cntL_append : ∀ a b : List ND, cntL (a ++ b) = cntL a + cntL b
  | [], b => by simp [cntL]
  | x :: a, b => by simp [cntL, cntL_append a b, Nat.add_assoc]
theorem depL_append : ∀ a b : List ND, depL (a ++ b) = max (depL a) (depL b)
  | [], b => by simp [depL]
  | x :: a, b => by simp [depL, depL_append a b, Nat.max_assoc]
mutual
theorem hgt_cnt : ∀ n : ND, hgtN n ≤ cntN n
  | .mk _ _ _ _ l => by simp only [hgtN, cntN]; have := hgt_cntL l; omega
theorem hgt_cntL : ∀ l : List ND, hgtL l ≤ cntL l
  | [] => by simp [hgtL, cntL]
  | x :: l => by simp only [hgtL, cntL]; have := hgt_cnt x; have := hgt_cntL l; omega
end
mutual
theorem dep_cnt : ∀ n : ND, depN n ≤ cntN n
  | .mk k _ _ _ l => by simp only [depN, cntN]; have := dep_cntL l; have := Bool.toNat_le (k == 2); omega
theorem dep_cntL : ∀ l : List ND, depL l ≤ cntL l
  | [] => by simp [depL, cntL]
  | x :: l => by simp only [depL, cntL]; have := dep_cnt x; have := dep_cntL l; omega
end
theorem cnt_pos (n : ND) : 1 ≤ cntN n := by cases n; simp only [cntN]; omega
theorem len_cntL : ∀ l : List ND, l.length ≤ cntL l
  | [] => by simp [cntL]
  | x :: l => by simp only [cntL, List.length_cons]; have := len_cntL l; have := cnt_pos x; omega
theorem cnt_mem : ∀ {l : List ND} {x : ND}, x ∈ l → cntN x ≤ cntL l
  | y :: l, x, h => by
    simp only [cntL]
    rcases List.mem_cons.1 h with rfl | h
    · omega
    · have := cnt_mem h; omega
def bareP (p : PT) : Bool := decide (p.k = 0) && (decide (p.y.size = 0) && (decide (p.m.size = 0) && decide (p.d.size = 0)))
def bareN (n : ND) : Bool := bareP n.p && (!n.a && !n.t)
section
variable (sp : PT → Bool)
def endN (n : ND) : Bool := (n.k == 0 && (sp n.p && n.l.isEmpty)) || ((n.k == 3 || n.k == 4) && (bareN n && n.l.isEmpty))
def twoN : List ND → Bool
  | [x, y] => endN sp x && endN sp y
  | _ => false
mutual
def rightN : ND → Bool
  | .mk k p a t l => (k == 0 && endN sp (.mk k p a t l)) || ((k == 1 && (bareN (.mk k p a t l) && twoN sp l)) || (k == 2 && (bareN (.mk k p a t l) && (!l.isEmpty && rightL l))))
def rightL : List ND → Bool
  | [] => true
  | x :: l => rightN x && rightL l
end
theorem rightL_all : ∀ l : List ND, rightL sp l = l.all (rightN sp)
  | [] => rfl
  | x :: l => by simp [rightL, rightL_all l]
theorem rightL_append (a b : List ND) : rightL sp (a ++ b) = (rightL sp a && rightL sp b) := by simp [rightL_all]
end
def eqP (p q : PT) : Bool := p.k == q.k && (p.y.toList == q.y.toList && (p.m.toList == q.m.toList && p.d.toList == q.d.toList))
theorem bytes_iff (a b : ByteArray) : (a.toList == b.toList) = true ↔ a = b := by
  rw [beq_iff_eq, ByteArray.toList_eq, ByteArray.toList_eq]
  constructor
  · intro h
    obtain ⟨⟨x⟩⟩ := a
    obtain ⟨⟨y⟩⟩ := b
    simp only at h
    rw [h]
  · intro h
    rw [h]
theorem eqP_iff (p q : PT) : eqP p q = true ↔ p = q := by
  obtain ⟨a, b, c, d⟩ := p
  obtain ⟨a', b', c', d'⟩ := q
  unfold eqP
  simp only [Bool.and_eq_true, bytes_iff, PT.mk.injEq]
  rw [beq_iff_eq]
mutual
def sameN : ND → ND → Bool
  | .mk k p a t l, .mk k' p' a' t' l' => decide (k = k') && (eqP p p' && (decide (a = a') && (decide (t = t') && sameL l l')))
def sameL : List ND → List ND → Bool
  | [], [] => true
  | x :: l, y :: l' => sameN x y && sameL l l'
  | _, _ => false
end
mutual
theorem same_iff : ∀ a b : ND, sameN a b = true ↔ a = b
  | .mk k p a t l, .mk k' p' a' t' l' => by
    simp only [sameN, Bool.and_eq_true, decide_eq_true_eq, eqP_iff, sameL_iff l l', ND.mk.injEq]
theorem sameL_iff : ∀ a b : List ND, sameL a b = true ↔ a = b
  | [], [] => by simp [sameL]
  | [], _ :: _ => by simp [sameL]
  | _ :: _, [] => by simp [sameL]
  | x :: l, y :: l' => by simp only [sameL, Bool.and_eq_true, same_iff x y, sameL_iff l l', List.cons.injEq]
end
mutual
def shortN : ND → Bool
  | .mk _ p _ _ l => (decide (p.y.size ≤ 10) && (decide (p.m.size ≤ 10) && decide (p.d.size ≤ 10))) && shortL l
def shortL : List ND → Bool
  | [] => true
  | x :: l => shortN x && shortL l
end
def fewN (n : ND) : Bool := decide (cntN n ≤ 120) && shortN n
def saneN (sp : PT → Bool) (n : ND) : Bool := decide (cntN n ≤ 64) && (decide (depN n ≤ 8) && rightN sp n)
end Go.Proofs.YtgmigeehfhkimaaDoor

namespace Go.Proofs.YtgmigeehfhkimaaDoor
open Go.RowKit
set_option linter.unusedVariables false
set_option linter.unusedSimpArgs false
/-- the boxes X turn, all else stays -/
structure KX (X : Nat → Prop) (w w' : World) : Prop where
  os : w'.os = w.os
  tape : w'.tape = w.tape
  output : w'.output = w.output
  size : w.heap.size ≤ w'.heap.size
  block : ∀ k, k < w.heap.size → ¬ X k → w'.heap[k]? = w.heap[k]?
theorem KX.refl (X : Nat → Prop) (w : World) : KX X w w := ⟨rfl, rfl, rfl, Nat.le_refl _, fun _ _ _ => rfl⟩
theorem KX.trans {X : Nat → Prop} {a b c : World} (h : KX X a b) (k : KX X b c) : KX X a c :=
  ⟨k.os.trans h.os, k.tape.trans h.tape, k.output.trans h.output, Nat.le_trans h.size k.size, fun i hi hb => (k.block i (Nat.lt_of_lt_of_le hi h.size) hb).trans (h.block i hi hb)⟩
theorem KX.kp {X : Nat → Prop} {w w' : World} (h : Kp w w') : KX X w w' := ⟨h.os, h.tape, h.output, h.size, fun i hi _ => h.block i hi⟩
theorem KX.set {X : Nat → Prop} {B : Nat} (hB : X B) (w : World) (v : Value) : KX X w (w.setCell ⟨B, 0, none⟩ v) :=
  ⟨rfl, rfl, rfl, by unfold World.setCell; simp, fun k _ hb => Below.heap_setCell _ _ _ k (fun e => hb (by rw [e]; exact hB))⟩
theorem KX.to {X : Nat → Prop} {w w0 w' : World} (h : KX X w0 w') (k : Kp w w0) (hB : ∀ b, X b → w.heap.size ≤ b) : Kp w w' :=
  Below.trans k ⟨h.os, h.tape, h.output, h.size, fun i hi => h.block i (by have := k.size; omega) (fun x => by have := hB i x; omega)⟩
theorem KX.heap {X : Nat → Prop} {b : Nat} {w w' : World} {o : Obj} (h : KX X w w') (c : w.heap[b]? = some o) (hb : ¬ X b) : w'.heap[b]? = some o :=
  (h.block b (Array.getElem?_eq_some_iff.1 c).1 hb).trans c
theorem KX.cell {X : Nat → Prop} {b o : Nat} {w w' : World} {x : Value} (h : KX X w w') (c : w.cell? ⟨b, o, none⟩ = some x) (hb : ¬ X b) : w'.cell? ⟨b, o, none⟩ = some x :=
  (World.cell?_of_block (w := w) (h.block b (World.block_lt_of_cell? _ _ c) hb)).trans c
/-- a variable's box -/
def Cel (w : World) (B : Nat) (t : TypeId) (v : Value) : Prop := w.heap[B]? = some (.cells #[v] t (0, 0))
theorem Cel.lt {w : World} {B : Nat} {t : TypeId} {v : Value} (h : Cel w B t v) : B < w.heap.size := (Array.getElem?_eq_some_iff.1 h).1
theorem Cel.cell {w : World} {B : Nat} {t : TypeId} {v : Value} (h : Cel w B t v) : w.cell? ⟨B, 0, none⟩ = some v := by simp [World.cell?, show w.heap[B]? = _ from h]
theorem Cel.frozen {w : World} {B : Nat} {t : TypeId} {v : Value} (h : Cel w B t v) : w.frozen? ⟨B, 0, none⟩ = false := by simp [World.frozen?, show w.heap[B]? = _ from h]
theorem Cel.kx {X : Nat → Prop} {w w' : World} {B : Nat} {t : TypeId} {v : Value} (h : Cel w B t v) (k : KX X w w') (hB : ¬ X B) : Cel w' B t v := k.heap h hB
theorem Cel.kp {w w' : World} {B : Nat} {t : TypeId} {v : Value} (h : Cel w B t v) (k : Kp w w') : Cel w' B t v := heap_block k h
theorem Cel.set {w : World} {B : Nat} {t : TypeId} {v : Value} (h : Cel w B t v) (v' : Value) : Cel (w.setCell ⟨B, 0, none⟩ v') B t v' := ps_heap h 0 v'
theorem Cel.other {w : World} {B C : Nat} {t : TypeId} {v : Value} (h : Cel w B t v) (hc : B ≠ C) (v' : Value) : Cel (w.setCell ⟨C, 0, none⟩ v') B t v := (ps_other hc 0 v').trans h
def nd0 : ND := .mk 0 ⟨0, ⟨#[]⟩, ⟨#[]⟩, ⟨#[]⟩⟩ false false []
def nth (l : List ND) (i : Nat) : ND := l.getD i nd0
theorem nth_mem {l : List ND} {i : Nat} (h : i < l.length) : nth l i ∈ l := by
  unfold nth
  simp [List.getD, h]
theorem nth_take {l : List ND} {i : Nat} (h : i < l.length) : l.take (i + 1) = l.take i ++ [nth l i] := by
  unfold nth
  rw [List.take_add_one]
  simp [List.getD, h]
theorem nth_split {l : List ND} {i : Nat} (h : i < l.length) : l = l.take i ++ nth l i :: l.drop (i + 1) := by
  have e : l.drop i = nth l i :: l.drop (i + 1) := by
    rw [List.drop_eq_getElem_cons h]
    unfold nth
    simp [List.getD, h]
  rw [← e, List.take_append_drop]
/-- the value of a node whose parts stand in lv -/
def ndV (n : ND) (lv : Value) : Value := .agg #[.int .i64 n.k, .int .i64 n.p.k, .string n.p.y, .string n.p.m, .string n.p.d, .bool n.a, .bool n.t, lv]
def RowN (w : World) (b o : Nat) (n : ND) (lv : Value) : Prop :=
  w.cell? ⟨b, o, none⟩ = some (.int .i64 n.k) ∧ w.cell? ⟨b, o + 1, none⟩ = some (.int .i64 n.p.k) ∧ w.cell? ⟨b, o + 2, none⟩ = some (.string n.p.y) ∧ w.cell? ⟨b, o + 3, none⟩ = some (.string n.p.m) ∧ w.cell? ⟨b, o + 4, none⟩ = some (.string n.p.d) ∧
  w.cell? ⟨b, o + 5, none⟩ = some (.bool n.a) ∧ w.cell? ⟨b, o + 6, none⟩ = some (.bool n.t) ∧ w.cell? ⟨b, o + 7, none⟩ = some lv
theorem RowN.kp {w w' : World} {b o : Nat} {n : ND} {lv : Value} (h : RowN w b o n lv) (k : Kp w w') : RowN w' b o n lv := by
  obtain ⟨h0, h1, h2, h3, h4, h5, h6, h7⟩ := h
  exact ⟨cell_up k h0, cell_up k h1, cell_up k h2, cell_up k h3, cell_up k h4, cell_up k h5, cell_up k h6, cell_up k h7⟩
/-- a list of nodes in memory -/
inductive NodesAt (w : World) : Value → List ND → Prop
  | none (ad : Option Addr) (c : Nat) : NodesAt w (.slice ad 0 c) []
  | row (l : List ND) (b off cap : Nat) (vs : Nat → Value) (hp : 0 < l.length) (hc : l.length ≤ cap) (hm : cap ≤ maxLen) (hr : ∀ i, i < l.length → RowN w b (off + i * 8) (nth l i) (vs i)) (hs : ∀ i, i < l.length → NodesAt w (vs i) (nth l i).l) :
    NodesAt w (.slice (some ⟨b, off, Option.none⟩) l.length cap) l
/-- what holds of a list's parts holds of it -/
theorem NodesAt.ind {w : World} {P : Value → List ND → Prop}
    (step : ∀ v l, (∃ ad c, v = .slice ad l.length c ∧ (0 < l.length → ∃ b off, ad = some ⟨b, off, Option.none⟩ ∧ ∀ i, i < l.length → ∃ vi, RowN w b (off + i * 8) (nth l i) vi ∧ NodesAt w vi (nth l i).l ∧ P vi (nth l i).l)) → P v l) :
    ∀ {v : Value} {l : List ND}, NodesAt w v l → P v l := by
  intro v l h
  induction h with
  | none ad c => exact step _ _ ⟨ad, c, rfl, fun h => by simp at h⟩
  | row l b off cap vs hp hc hm hr hs ih => exact step _ _ ⟨_, cap, rfl, fun _ => ⟨b, off, rfl, fun i hi => ⟨vs i, hr i hi, hs i hi, ih i hi⟩⟩⟩
theorem NodesAt.kp {w w' : World} {v : Value} {l : List ND} (h : NodesAt w v l) (k : Kp w w') : NodesAt w' v l := by
  induction h with
  | none ad c => exact .none ad c
  | row l b off cap vs hp hc hm hr hs ih => exact .row l b off cap vs hp hc hm (fun i hi => (hr i hi).kp k) ih
theorem NodesAt.slice {w : World} {v : Value} {l : List ND} (h : NodesAt w v l) : ∃ ad c, v = .slice ad l.length c := by
  cases h with
  | none ad c => exact ⟨ad, c, rfl⟩
  | row l b off cap vs hp hc hm hr hs => exact ⟨_, cap, rfl⟩
theorem NodesAt.len {w : World} {v : Value} {l : List ND} (h : NodesAt w v l) : l.length ≤ maxLen := by
  cases h with
  | none ad c => simp
  | row l b off cap vs hp hc hm hr hs => omega
mutual
/-- a node's integers fit -/
def ndG : ND → Prop
  | .mk k p _ _ l => (-9223372036854775808 ≤ k ∧ k ≤ 9223372036854775807 ∧ -9223372036854775808 ≤ p.k ∧ p.k ≤ 9223372036854775807) ∧ ndGL l
def ndGL : List ND → Prop
  | [] => True
  | x :: l => ndG x ∧ ndGL l
end
theorem ndGL_mem : ∀ {l : List ND}, ndGL l → ∀ x ∈ l, ndG x
  | [], _, _, h => by cases h
  | y :: l, g, x, h => by
    rcases List.mem_cons.1 h with rfl | h
    · exact g.1
    · exact ndGL_mem g.2 x h
theorem ndGL_nth {l : List ND} (h : ndGL l) {i : Nat} (hi : i < l.length) : ndG (nth l i) := ndGL_mem h _ (nth_mem hi)
theorem eta_nd (n : ND) : n = .mk n.k n.p n.a n.t n.l := by cases n; rfl
end Go.Proofs.YtgmigeehfhkimaaDoor

namespace Go.Proofs.YtgmigeehfhkimaaDoor
open Go.RowKit
set_option linter.unusedVariables false
set_option linter.unusedSimpArgs false
theorem bareP_eq (p : PT) : bareP p = (p.k == 0 && (p.y.toList == [] && (p.m.toList == [] && p.d.toList == []))) := by
  have h : ∀ s : ByteArray, decide (s.size = 0) = (s.toList == []) := fun s => by rw [← str_empty]; cases s.toList <;> rfl
  unfold bareP
  rw [h, h, h]
  rfl
theorem nd_dest (n : ND) : ∃ k pk y m d a t l, n = .mk k ⟨pk, y, m, d⟩ a t l := by
  obtain ⟨k, ⟨pk, y, m, d⟩, a, t, l⟩ := n
  exact ⟨k, pk, y, m, d, a, t, l, rfl⟩
set_option maxHeartbeats 4000000 in
set_option maxRecDepth 100000 in
theorem bare_any (n : ND) (v : Value) (w : World) : Calls Tryd.prog 35 #[ndV n v] w fun e w' => e = .returned (.bool (bareN n)) ∧ Kp w w' := by
  obtain ⟨k, pk, y, m, d, a, t, l, rfl⟩ := nd_dest n
  unfold ndV
  simp only [ND.k, ND.p, ND.a, ND.t]
  go_enter Tryd.func35, Tryd.ntmps35
  go_wp2
  all_goals go_ret
  all_goals refine ⟨?_, Kp.alloc _ _⟩
  all_goals simp_all [bareN, bareP_eq, ND.a, ND.t, ND.p]
set_option maxHeartbeats 4000000 in
set_option maxRecDepth 100000 in
theorem rbare_any (n : ND) (v : Value) (w : World) : Calls Tryd.prog 54 #[ndV n v] w fun e w' => e = .returned (.bool (bareN n)) ∧ Kp w w' := by
  obtain ⟨k, pk, y, m, d, a, t, l, rfl⟩ := nd_dest n
  unfold ndV
  simp only [ND.k, ND.p, ND.a, ND.t]
  go_enter Tryd.func54, Tryd.ntmps54
  go_wp2
  all_goals go_ret
  all_goals refine ⟨?_, (Kp.alloc _ _).trans (Kp.alloc _ _)⟩
  all_goals simp_all [bareN, bareP_eq, ND.a, ND.t, ND.p]
theorem row8 {w : World} {b : Nat} {c0 c1 c2 c3 c4 c5 c6 c7 : Value} {t : TypeId} {fr : Nat × Nat} (hg : w.heap[b]? = some (.cells #[c0, c1, c2, c3, c4, c5, c6, c7] t fr)) :
    w.cell? ⟨b, 0, none⟩ = some c0 ∧ w.cell? ⟨b, 1, none⟩ = some c1 ∧ w.cell? ⟨b, 2, none⟩ = some c2 ∧ w.cell? ⟨b, 3, none⟩ = some c3 ∧ w.cell? ⟨b, 4, none⟩ = some c4 ∧ w.cell? ⟨b, 5, none⟩ = some c5 ∧ w.cell? ⟨b, 6, none⟩ = some c6 ∧ w.cell? ⟨b, 7, none⟩ = some c7 := by
  refine ⟨?_, ?_, ?_, ?_, ?_, ?_, ?_, ?_⟩ <;> simp [World.cell?, hg]
set_option maxHeartbeats 4000000 in
set_option maxRecDepth 100000 in
theorem of_node_any (p : PT) (a t : Bool) (w : World) : Calls Tryd.prog 22 #[ptV p, .bool a, .bool t] w fun e w' => e = .returned (ndV (.mk 0 p a t []) (.slice none 0 0)) ∧ Kp w w' := by
  obtain ⟨pk, y, m, d⟩ := p
  unfold ndV ptV
  simp only [ND.k, ND.p, ND.a, ND.t]
  go_enter Tryd.func22, Tryd.ntmps22
  go_wp2
  obtain ⟨x0, x1, x2, x3, x4, x5, x6, x7⟩ := row8 (heap_at (w.alloc (.cells #[.int .i64 pk, .string y, .string m, .string d] 23)) (.cells #[.int .i64 0, .int .i64 pk, .string y, .string m, .string d, .bool a, .bool t, .slice none 0 0] 26) (w.heap.size + 1) (by simp))
  exact bodyPost_ret (v := .agg #[.int .i64 0, .int .i64 pk, .string y, .string m, .string d, .bool a, .bool t, .slice none 0 0]) (by simp [results, Tryd.results22, go_sem, x0, x1, x2, x3, x4, x5, x6, x7]) rfl ⟨rfl, (Kp.alloc _ _).trans (Kp.alloc _ _)⟩
set_option maxHeartbeats 4000000 in
set_option maxRecDepth 100000 in
theorem oneOf_any (v : Value) (l : List ND) (w : World) (h : ∃ ad c, v = .slice ad l.length c) : Calls Tryd.prog 19 #[v] w fun e w' => e = .returned (ndV (.mk 2 ⟨0, ⟨#[]⟩, ⟨#[]⟩, ⟨#[]⟩⟩ false false l) v) ∧ Kp w w' := by
  obtain ⟨ad, c, rfl⟩ := h
  unfold ndV
  simp only [ND.k, ND.p, ND.a, ND.t]
  go_enter Tryd.func19, Tryd.ntmps19
  go_wp2
  obtain ⟨x0, x1, x2, x3, x4, x5, x6, x7⟩ := row8 (heap_at w (.cells #[.int .i64 2, .int .i64 0, .string ⟨#[]⟩, .string ⟨#[]⟩, .string ⟨#[]⟩, .bool false, .bool false, .slice ad l.length c] 26) w.heap.size rfl)
  exact bodyPost_ret (v := .agg #[.int .i64 2, .int .i64 0, .string ⟨#[]⟩, .string ⟨#[]⟩, .string ⟨#[]⟩, .bool false, .bool false, .slice ad l.length c]) (by simp [results, Tryd.results19, go_sem, x0, x1, x2, x3, x4, x5, x6, x7]) rfl ⟨rfl, Kp.alloc _ _⟩
set_option maxHeartbeats 4000000 in
set_option maxRecDepth 100000 in
theorem end_any (n : ND) (v : Value) (w : World) (h : ∃ ad c, v = .slice ad n.l.length c) (T : TabSH w) : Calls Tryd.prog 34 #[ndV n v] w fun e w' => e = .returned (.bool (endN saneP n)) ∧ Kp w w' := by
  obtain ⟨ad, c, rfl⟩ := h
  have CB := Lib.hid (fun w1 => bare_any n (.slice ad n.l.length c) w1)
  obtain ⟨k, pk, y, m, d, a, t, l, rfl⟩ := nd_dest n
  have CS := Lib.hid (fun w1 (q : Kp w w1) => show Calls Tryd.prog 46 #[.agg #[.int .i64 pk, .string y, .string m, .string d]] w1 _ from ptSane_any ⟨pk, y, m, d⟩ w1 (T.kp q))
  unfold endN
  unfold ndV at *
  simp only [ND.k, ND.p, ND.a, ND.t, ND.l] at *
  generalize bareN (.mk k ⟨pk, y, m, d⟩ a t l) = bb at *
  generalize saneP ⟨pk, y, m, d⟩ = ss at *
  have le : l.isEmpty = decide (l.length = 0) := by cases l <;> rfl
  rw [le]
  have li : ((l.length : Int) == 0) = decide (l.length = 0) := by
    by_cases h : l.length = 0
    · rw [h]; rfl
    · rw [decide_eq_false h, beq_eq_false_iff_ne]; omega
  generalize decide (l.length = 0) = lb at *
  by_cases h0 : k = 0
  · subst h0
    go_enter Tryd.func34, Tryd.ntmps34
    go_wp2_with fail
    refine (CS.out _ (Kp.alloc _ _)).mono ?_
    rintro e w1 ⟨rfl, kk⟩
    obtain ⟨x0, x1, x2, x3, x4, x5, x6, x7⟩ := row8 (heap_block kk (heap_at w (.cells #[.int .i64 0, .int .i64 pk, .string y, .string m, .string d, .bool a, .bool t, .slice ad l.length c] 26) w.heap.size rfl))
    go_wp2
    all_goals go_ret
    all_goals refine ⟨?_, (Kp.alloc _ _).trans kk⟩
    all_goals simp_all
  · have q0 : (k == 0) = false := beq_eq_false_iff_ne.2 h0
    by_cases h3 : k = 3
    · subst h3
      go_enter Tryd.func34, Tryd.ntmps34
      go_wp2_with fail
      refine (CB.out _).mono ?_
      rintro e w1 ⟨rfl, kk⟩
      obtain ⟨x0, x1, x2, x3, x4, x5, x6, x7⟩ := row8 (heap_block kk (heap_at w (.cells #[.int .i64 3, .int .i64 pk, .string y, .string m, .string d, .bool a, .bool t, .slice ad l.length c] 26) w.heap.size rfl))
      go_wp2
      all_goals go_ret
      all_goals refine ⟨?_, (Kp.alloc _ _).trans kk⟩
      all_goals simp_all
    · have q3 : (k == 3) = false := beq_eq_false_iff_ne.2 h3
      by_cases h4 : k = 4
      · subst h4
        go_enter Tryd.func34, Tryd.ntmps34
        go_wp2_with fail
        refine (CB.out _).mono ?_
        rintro e w1 ⟨rfl, kk⟩
        obtain ⟨x0, x1, x2, x3, x4, x5, x6, x7⟩ := row8 (heap_block kk (heap_at w (.cells #[.int .i64 4, .int .i64 pk, .string y, .string m, .string d, .bool a, .bool t, .slice ad l.length c] 26) w.heap.size rfl))
        go_wp2
        all_goals go_ret
        all_goals refine ⟨?_, (Kp.alloc _ _).trans kk⟩
        all_goals simp_all
      · have q4 : (k == 4) = false := beq_eq_false_iff_ne.2 h4
        go_enter Tryd.func34, Tryd.ntmps34
        go_wp2
        go_ret
        refine ⟨?_, Kp.alloc _ _⟩
        simp_all
set_option maxHeartbeats 4000000 in
set_option maxRecDepth 100000 in
theorem sameF_any (n m : ND) (v u : Value) (w : World) (hv : ∃ ad c, v = .slice ad n.l.length c) (hu : ∃ ad c, u = .slice ad m.l.length c) :
    Calls Tryd.prog 26 #[ndV n v, ndV m u] w fun e w' => e = .returned (.bool (n.k == m.k && (eqP n.p m.p && (n.a == m.a && (n.t == m.t && (n.l.length : Int) == m.l.length))))) ∧ Kp w w' := by
  obtain ⟨ad, c, rfl⟩ := hv
  obtain ⟨ad', c', rfl⟩ := hu
  obtain ⟨k, pk, y, q, d, a, t, l, rfl⟩ := nd_dest n
  obtain ⟨k', pk', y', q', d', a', t', l', rfl⟩ := nd_dest m
  unfold ndV eqP
  simp only [ND.k, ND.p, ND.a, ND.t, ND.l]
  go_enter Tryd.func26, Tryd.ntmps26
  go_wp2
  all_goals go_ret
  all_goals refine ⟨?_, (Kp.alloc _ _).trans (Kp.alloc _ _)⟩
  all_goals simp_all
end Go.Proofs.YtgmigeehfhkimaaDoor

namespace Go.Proofs.YtgmigeehfhkimaaDoor
open Go.RowKit
set_option linter.unusedVariables false
set_option linter.unusedSimpArgs false
theorem cntL_take {l : List ND} {i : Nat} (h : i < l.length) : cntL (l.take (i + 1)) = cntL (l.take i) + cntN (nth l i) := by
  rw [nth_take h, cntL_append]
  simp [cntL]
theorem depL_take {l : List ND} {i : Nat} (h : i < l.length) : depL (l.take (i + 1)) = max (depL (l.take i)) (depN (nth l i)) := by
  rw [nth_take h, depL_append]
  simp [depL]
theorem cntL_le {l : List ND} (i : Nat) : cntL (l.take i) ≤ cntL l := by
  conv => rhs; rw [← List.take_append_drop i l]
  rw [cntL_append]
  omega
theorem depL_le {l : List ND} (i : Nat) : depL (l.take i) ≤ depL l := by
  conv => rhs; rw [← List.take_append_drop i l]
  rw [depL_append]
  omega
theorem cntN_mk (n : ND) : cntN n = cntL n.l + 1 := by cases n; rfl
theorem depN_mk (n : ND) : depN n = depL n.l + (n.k == 2).toNat := by cases n; rfl
theorem cnt_at {l : List ND} {i : Nat} (h : i < l.length) : cntL (l.take i) + cntN (nth l i) ≤ cntL l := by
  rw [← cntL_take h]
  exact cntL_le _
theorem dep_at {l : List ND} {i : Nat} (h : i < l.length) : depN (nth l i) ≤ depL l := by
  have a := depL_take h
  have b := depL_le (l := l) (i + 1)
  omega
theorem max_step (u d : Int) (A B : Nat) : max u (d + ((max A B : Nat) : Int)) = max (max u (d + (A : Int))) (d + (B : Int)) := by
  rcases Nat.le_total A B with h | h
  · rw [Nat.max_eq_right h]; omega
  · rw [Nat.max_eq_left h]; omega
set_option maxHeartbeats 16000000 in
set_option maxRecDepth 100000 in
theorem visCount_any (BC : Nat) (x c : Int) (w : World) (h : Cel w BC 3 (.int .i64 c)) (h0 : 0 ≤ c) (h9 : c ≤ 1000000) :
    Calls Tryd.prog 37 #[.int .i64 x, .pointer (some ⟨BC, 0, none⟩)] w fun e w' => (∃ r, e = .returned r) ∧ w' = w.setCell ⟨BC, 0, none⟩ (.int .i64 (c + 1)) := by
  have c0 := h.cell
  have f0 := h.frozen
  clear h
  go_enter Tryd.func37, Tryd.ntmps37
  go_wp2
  go_end0
  exact ⟨⟨_, rfl⟩, rfl⟩
set_option maxHeartbeats 16000000 in
set_option maxRecDepth 100000 in
theorem visDeep_any (BC : Nat) (x c : Int) (w : World) (h : Cel w BC 3 (.int .i64 c)) (h0 : 0 ≤ c) (h9 : c ≤ 1000000) :
    Calls Tryd.prog 38 #[.int .i64 x, .pointer (some ⟨BC, 0, none⟩)] w fun e w' => (∃ r, e = .returned r) ∧ w' = w.setCell ⟨BC, 0, none⟩ (.int .i64 (max c x)) := by
  have c0 := h.cell
  have f0 := h.frozen
  clear h
  go_enter Tryd.func38, Tryd.ntmps38
  go_wp2
  go_end0
  exact ⟨⟨_, rfl⟩, rfl⟩
set_option maxHeartbeats 16000000 in
set_option maxRecDepth 100000 in
theorem walkCount1_any (w0 : World) (BN BV BG BC : Nat) (h1 : BN ≠ BV) (h2 : BN ≠ BG) (h3 : BN ≠ BC) (h4 : BC ≠ BV) (h5 : BC ≠ BG) (b1 : w0.heap.size ≤ BN) (b2 : w0.heap.size ≤ BC) :
    ∀ {v : Value} {l : List ND}, NodesAt w0 v l → ∀ (k : Int) (p : PT) (a t : Bool) (d lev c nd : Int) (w : World), Kp w0 w → Cel w BN 3 (.int .i64 nd) → Cel w BV 43 (.func (.func 37) #[] #[.pointer (some ⟨BC, 0, none⟩)]) → Cel w BG 59 (.func (.func 47) #[] #[.pointer (some ⟨BN, 0, none⟩), .pointer (some ⟨BV, 0, none⟩), .pointer (some ⟨BG, 0, none⟩)]) → Cel w BC 3 (.int .i64 c) →
      0 ≤ nd ∧ nd + (cntN (.mk k p a t l) : Int) ≤ 1000000 → 0 ≤ lev ∧ lev + (cntN (.mk k p a t l) : Int) ≤ 100000 → 0 ≤ d ∧ d + (cntN (.mk k p a t l) : Int) ≤ 1000000 → 0 ≤ c ∧ c + (cntN (.mk k p a t l) : Int) ≤ 1000000 →
      Calls Tryd.prog 47 #[ndV (.mk k p a t l) v, .int .i64 d, .int .i64 lev, .pointer (some ⟨BN, 0, none⟩), .pointer (some ⟨BV, 0, none⟩), .pointer (some ⟨BG, 0, none⟩)] w fun e w' =>
        (∃ r, e = .returned r) ∧ KX (fun b => b = BN ∨ b = BC) w w' ∧ Cel w' BN 3 (.int .i64 (nd + (cntN (.mk k p a t l) : Int))) ∧ Cel w' BC 3 (.int .i64 (c + (cntN (.mk k p a t l) : Int))) := by
  refine @NodesAt.ind w0 (fun v l => ∀ (k : Int) (p : PT) (a t : Bool) (d lev c nd : Int) (w : World), Kp w0 w → Cel w BN 3 (.int .i64 nd) → Cel w BV 43 (.func (.func 37) #[] #[.pointer (some ⟨BC, 0, none⟩)]) → Cel w BG 59 (.func (.func 47) #[] #[.pointer (some ⟨BN, 0, none⟩), .pointer (some ⟨BV, 0, none⟩), .pointer (some ⟨BG, 0, none⟩)]) → Cel w BC 3 (.int .i64 c) →
      0 ≤ nd ∧ nd + (cntN (.mk k p a t l) : Int) ≤ 1000000 → 0 ≤ lev ∧ lev + (cntN (.mk k p a t l) : Int) ≤ 100000 → 0 ≤ d ∧ d + (cntN (.mk k p a t l) : Int) ≤ 1000000 → 0 ≤ c ∧ c + (cntN (.mk k p a t l) : Int) ≤ 1000000 →
      Calls Tryd.prog 47 #[ndV (.mk k p a t l) v, .int .i64 d, .int .i64 lev, .pointer (some ⟨BN, 0, none⟩), .pointer (some ⟨BV, 0, none⟩), .pointer (some ⟨BG, 0, none⟩)] w fun e w' =>
        (∃ r, e = .returned r) ∧ KX (fun b => b = BN ∨ b = BC) w w' ∧ Cel w' BN 3 (.int .i64 (nd + (cntN (.mk k p a t l) : Int))) ∧ Cel w' BC 3 (.int .i64 (c + (cntN (.mk k p a t l) : Int)))) ?_
  rintro v l ⟨ad, cp, rfl, hrow⟩ k p a t d lev c nd w k0 cn cv cg cc ⟨n0, n9⟩ ⟨l0, l9⟩ ⟨d0, d9⟩ hc
  obtain ⟨hc0, hc9⟩ := hc
  obtain ⟨pk, y, m, q⟩ := p
  have HR := Lib.hid hrow
  rw [cntN_mk] at n9 l9 d9 ⊢
  try rw [cntN_mk] at hc9
  try rw [depN_mk]
  unfold ndV
  simp only [ND.k, ND.p, ND.a, ND.t, ND.l] at *
  have ll := len_cntL l
  have n1 := cn.cell
  have n2 := cn.frozen
  have n3 := cn.lt
  have n4 : ¬ BN = w.heap.size := by omega
  have v1 := cv.cell
  have v3 := cv.lt
  have v4 : ¬ BV = w.heap.size := by omega
  have g3 := cg.lt
  have c3 := cc.lt
  have q1 : decide (131072 < lev) = false := decide_eq_false (by omega)
  have q2 : (nd == 2147483647) = false := beq_eq_false_iff_ne.2 (by omega)
  have hv1 : (BV == BN) = false := beq_eq_false_iff_ne.2 (fun e => h1 e.symm)
  have hv2 : ¬ BV = BN := fun e => h1 e.symm
  clear hrow
  obtain ⟨dd, hdd⟩ : ∃ dd, (if k = 2 then d + 1 else d) = dd := ⟨_, rfl⟩
  have hd1 : d ≤ dd ∧ dd ≤ d + 1 := by rw [← hdd]; split <;> omega
  have EQ := Lib.hid hdd
  have CV := Lib.hid cv
  have CG := Lib.hid cg
  have CC := Lib.hid cc
  have CN := Lib.hid cn
  clear cv cg cc cn
  obtain ⟨fn, hfn⟩ : ∃ z, nd + ((cntL l + 1 : Nat) : Int) = z := ⟨_, rfl⟩
  obtain ⟨fc, hfc⟩ : ∃ z, c + ((cntL l + 1 : Nat) : Int) = z := ⟨_, rfl⟩
  rw [hfn, hfc]
  have FN := Lib.hid hfn
  have FC := Lib.hid hfc
  clear hfn hfc
  by_cases hk : k = 2
  · subst hk
    have ed : d + 1 = dd := by rw [← hdd]; rfl
    subst ed
    clear hdd
    go_enter Tryd.func47, Tryd.ntmps47
    go_wp2_with fail
    obtain ⟨W2, hW2⟩ : ∃ x, x = (w.setCell ⟨BN, 0, none⟩ (.int .i64 (nd + 1))).alloc (.cells #[.int .i64 2, .int .i64 pk, .string y, .string m, .string q, .bool a, .bool t, .slice ad l.length cp] 26) := ⟨_, rfl⟩
    have kx2 : KX (fun b => b = BN ∨ b = BC) w W2 := by rw [hW2]; exact (KX.set (X := fun b => b = BN ∨ b = BC) (.inl rfl) w _).trans (KX.kp (Kp.alloc _ _))
    have gB : W2.heap[w.heap.size]? = some (.cells #[.int .i64 2, .int .i64 pk, .string y, .string m, .string q, .bool a, .bool t, .slice ad l.length cp] 26 (0, 0)) := by rw [hW2]; exact heap_at _ _ _ (by unfold World.setCell; simp)
    have cn2 : Cel W2 BN 3 (.int .i64 (nd + 1)) := by rw [hW2]; exact (CN.out.set _).kp (Kp.alloc _ _)
    have cc2 : Cel W2 BC 3 (.int .i64 c) := by rw [hW2]; exact (CC.out.other (fun e => h3 e.symm) _).kp (Kp.alloc _ _)
    rw [← hW2]
    clear hW2
    refine (visCount_any BC (d + 1) c W2 cc2 hc0 (by omega)).mono ?_
    rintro e w3 ⟨⟨r, rfl⟩, hw3⟩
    have kx3 : KX (fun b => b = BN ∨ b = BC) W2 w3 := by rw [hw3]; exact KX.set (X := fun b => b = BN ∨ b = BC) (.inr rfl) W2 _
    have KX3 := Lib.hid (kx2.trans kx3)
    have cn3 := Lib.hid (show Cel w3 BN 3 (.int .i64 (nd + 1)) by rw [hw3]; exact cn2.other h3 _)
    have cc3 := Lib.hid (show Cel w3 BC 3 (.int .i64 (c + 1)) by rw [hw3]; exact cc2.set _)
    have nX : ∀ b, b ≠ BN → b ≠ BC → ¬ (b = BN ∨ b = BC) := fun b p q h => h.elim p q
    have gB3 := kx3.heap gB (nX _ (by omega) (by omega))
    obtain ⟨x0, x1, x2, x3, x4, x5, x6, x7⟩ := row8 gB3
    clear hw3 gB cn2 cc2 kx2 kx3 n1 n2 v1 x0 x1 x2 x3 x4 x5 x6 gB3
    go_wp2
    go_loopw [30] (fun i ws => ∃ j : Nat, j ≤ l.length ∧ i = .int .i64 j ∧ Hid (KX (fun b => b = BN ∨ b = BC) w ws) ∧ Hid (Cel ws BN 3 (.int .i64 (nd + 1 + (cntL (l.take j) : Int)))) ∧ Hid (Cel ws BC 3 (.int .i64 (c + 1 + (cntL (l.take j) : Int))))) (fun i _ => l.length - (intOf i).toNat)
    case atStart => exact ⟨0, Nat.zero_le _, rfl, KX3, Lib.hid (by simpa [cntL] using cn3.out), Lib.hid (by simpa [cntL] using cc3.out)⟩
    case round =>
      obtain ⟨j, hj, rfl, KL, LN, LC⟩ := hrel
      by_cases hlt : j < l.length
      · obtain ⟨bb, off, rfl, hall⟩ := HR.out (by omega)
        obtain ⟨vi, hrow, hsub, ih⟩ := hall j hlt
        have hb := World.block_lt_of_cell? _ _ hrow.1
        simp only at hb
        have kw0 : Kp w0 wr := KL.out.to k0 (fun b h => by rcases h with rfl | rfl <;> omega)
        obtain ⟨e0, e1, e2, e3, e4, e5, e6, e7⟩ := hrow.kp kw0
        have KW0 := Lib.hid kw0
        have ca := cnt_at hlt
        have ct := cntL_take hlt
        have da := dep_at hlt
        have dt := depL_take hlt
        have dl := depL_le (l := l) j
        have dc := dep_cntL l
        generalize nth l j = x at *
        obtain ⟨k1, ⟨pk1, y1, m1, q1⟩, a1, t1, l1⟩ := x
        simp only [ND.k, ND.p, ND.a, ND.t, ND.l] at *
        obtain ⟨ad1, cp1, rfl⟩ := hsub.slice
        have z1 : (j : Int) < (l.length : Int) := by omega
        have cgl := (CG.out.kx KL.out (nX _ (by omega) (by omega)))
        have cg1 := cgl.cell
        have cg2 := cgl.lt
        have cg3 : ¬ BG = wr.heap.size := by omega
        have CGL := Lib.hid cgl
        have hbw : bb < wr.heap.size := Nat.lt_of_lt_of_le hb kw0.size
        have HLT := Lib.hid hlt
        have IH := Lib.hid (ih k1 ⟨pk1, y1, m1, q1⟩ a1 t1 (d + 1) (lev + 1))
        clear cgl kw0 hrow ih hall
        go_wp2_with fail
        have ka := Kp.alloc wr (.cells #[.int .i64 k1, .int .i64 pk1, .string y1, .string m1, .string q1, .bool a1, .bool t1, .slice ad1 l1.length cp1] 26)
        refine (IH.out _ _ _ (KW0.out.trans ka) (LN.out.kp ka) ((CV.out.kx KL.out (nX _ (by omega) (by omega))).kp ka) (CGL.out.kp ka) (LC.out.kp ka) (by omega) (by omega) (by omega) (by omega)).mono ?_
        rintro e w5 ⟨⟨r5, rfl⟩, kx5, cn5, cc5⟩
        have KL5 := Lib.hid (KL.out.trans ((KX.kp ka).trans kx5))
        have LN5 := Lib.hid cn5
        have LC5 := Lib.hid cc5
        clear kx5 cn5 cc5 ka e0 e1 e2 e3 e4 e5 e6 e7 cg1
        go_wp2
        go_roundw
        case rel => exact ⟨j + 1, HLT.out, by go_num, KL5, Lib.hid (by rw [ct]; have := LN5.out; rwa [show nd + 1 + ((cntL (l.take j) + cntN (.mk k1 ⟨pk1, y1, m1, q1⟩ a1 t1 l1) : Nat) : Int) = nd + 1 + (cntL (l.take j) : Int) + (cntN (.mk k1 ⟨pk1, y1, m1, q1⟩ a1 t1 l1) : Int) by omega]), Lib.hid (by have := LC5.out; rw [ct]; rwa [show c + 1 + ((cntL (l.take j) + cntN (.mk k1 ⟨pk1, y1, m1, q1⟩ a1 t1 l1) : Nat) : Int) = c + 1 + (cntL (l.take j) : Int) + (cntN (.mk k1 ⟨pk1, y1, m1, q1⟩ a1 t1 l1) : Int) by omega])⟩
        case measure => have := HLT.out; simp [intOf]; omega
      · obtain rfl : j = l.length := by omega
        rw [List.take_length] at LN LC
        have LNE := LN.out
        have LCE := LC.out
        have KLE := KL.out
        go_wp2
        go_end0
        exact ⟨⟨_, rfl⟩, KLE, by rw [← FN.out]; rwa [show nd + ((cntL l + 1 : Nat) : Int) = nd + 1 + (cntL l : Int) by omega], by rw [← FC.out]; rwa [show c + ((cntL l + 1 : Nat) : Int) = c + 1 + (cntL l : Int) by omega]⟩
  · have q3 : (k == 2) = false := beq_eq_false_iff_ne.2 hk
    have HK := Lib.hid q3
    have ed : d = dd := by rw [← hdd, if_neg hk]
    subst ed
    clear hdd
    go_enter Tryd.func47, Tryd.ntmps47
    go_wp2_with fail
    obtain ⟨W2, hW2⟩ : ∃ x, x = (w.setCell ⟨BN, 0, none⟩ (.int .i64 (nd + 1))).alloc (.cells #[.int .i64 k, .int .i64 pk, .string y, .string m, .string q, .bool a, .bool t, .slice ad l.length cp] 26) := ⟨_, rfl⟩
    have kx2 : KX (fun b => b = BN ∨ b = BC) w W2 := by rw [hW2]; exact (KX.set (X := fun b => b = BN ∨ b = BC) (.inl rfl) w _).trans (KX.kp (Kp.alloc _ _))
    have gB : W2.heap[w.heap.size]? = some (.cells #[.int .i64 k, .int .i64 pk, .string y, .string m, .string q, .bool a, .bool t, .slice ad l.length cp] 26 (0, 0)) := by rw [hW2]; exact heap_at _ _ _ (by unfold World.setCell; simp)
    have cn2 : Cel W2 BN 3 (.int .i64 (nd + 1)) := by rw [hW2]; exact (CN.out.set _).kp (Kp.alloc _ _)
    have cc2 : Cel W2 BC 3 (.int .i64 c) := by rw [hW2]; exact (CC.out.other (fun e => h3 e.symm) _).kp (Kp.alloc _ _)
    rw [← hW2]
    clear hW2
    refine (visCount_any BC d c W2 cc2 hc0 (by omega)).mono ?_
    rintro e w3 ⟨⟨r, rfl⟩, hw3⟩
    have kx3 : KX (fun b => b = BN ∨ b = BC) W2 w3 := by rw [hw3]; exact KX.set (X := fun b => b = BN ∨ b = BC) (.inr rfl) W2 _
    have KX3 := Lib.hid (kx2.trans kx3)
    have cn3 := Lib.hid (show Cel w3 BN 3 (.int .i64 (nd + 1)) by rw [hw3]; exact cn2.other h3 _)
    have cc3 := Lib.hid (show Cel w3 BC 3 (.int .i64 (c + 1)) by rw [hw3]; exact cc2.set _)
    have nX : ∀ b, b ≠ BN → b ≠ BC → ¬ (b = BN ∨ b = BC) := fun b p q h => h.elim p q
    have gB3 := kx3.heap gB (nX _ (by omega) (by omega))
    obtain ⟨x0, x1, x2, x3, x4, x5, x6, x7⟩ := row8 gB3
    clear hw3 gB cn2 cc2 kx2 kx3 n1 n2 v1 x0 x1 x2 x3 x4 x5 x6 gB3
    go_wp2
    go_loopw [30] (fun i ws => ∃ j : Nat, j ≤ l.length ∧ i = .int .i64 j ∧ Hid (KX (fun b => b = BN ∨ b = BC) w ws) ∧ Hid (Cel ws BN 3 (.int .i64 (nd + 1 + (cntL (l.take j) : Int)))) ∧ Hid (Cel ws BC 3 (.int .i64 (c + 1 + (cntL (l.take j) : Int))))) (fun i _ => l.length - (intOf i).toNat)
    case atStart => exact ⟨0, Nat.zero_le _, rfl, KX3, Lib.hid (by simpa [cntL] using cn3.out), Lib.hid (by simpa [cntL] using cc3.out)⟩
    case round =>
      obtain ⟨j, hj, rfl, KL, LN, LC⟩ := hrel
      by_cases hlt : j < l.length
      · obtain ⟨bb, off, rfl, hall⟩ := HR.out (by omega)
        obtain ⟨vi, hrow, hsub, ih⟩ := hall j hlt
        have hb := World.block_lt_of_cell? _ _ hrow.1
        simp only at hb
        have kw0 : Kp w0 wr := KL.out.to k0 (fun b h => by rcases h with rfl | rfl <;> omega)
        obtain ⟨e0, e1, e2, e3, e4, e5, e6, e7⟩ := hrow.kp kw0
        have KW0 := Lib.hid kw0
        have ca := cnt_at hlt
        have ct := cntL_take hlt
        have da := dep_at hlt
        have dt := depL_take hlt
        have dl := depL_le (l := l) j
        have dc := dep_cntL l
        generalize nth l j = x at *
        obtain ⟨k1, ⟨pk1, y1, m1, q1⟩, a1, t1, l1⟩ := x
        simp only [ND.k, ND.p, ND.a, ND.t, ND.l] at *
        obtain ⟨ad1, cp1, rfl⟩ := hsub.slice
        have z1 : (j : Int) < (l.length : Int) := by omega
        have cgl := (CG.out.kx KL.out (nX _ (by omega) (by omega)))
        have cg1 := cgl.cell
        have cg2 := cgl.lt
        have cg3 : ¬ BG = wr.heap.size := by omega
        have CGL := Lib.hid cgl
        have hbw : bb < wr.heap.size := Nat.lt_of_lt_of_le hb kw0.size
        have HLT := Lib.hid hlt
        have IH := Lib.hid (ih k1 ⟨pk1, y1, m1, q1⟩ a1 t1 d (lev + 1))
        clear cgl kw0 hrow ih hall
        go_wp2_with fail
        have ka := Kp.alloc wr (.cells #[.int .i64 k1, .int .i64 pk1, .string y1, .string m1, .string q1, .bool a1, .bool t1, .slice ad1 l1.length cp1] 26)
        refine (IH.out _ _ _ (KW0.out.trans ka) (LN.out.kp ka) ((CV.out.kx KL.out (nX _ (by omega) (by omega))).kp ka) (CGL.out.kp ka) (LC.out.kp ka) (by omega) (by omega) (by omega) (by omega)).mono ?_
        rintro e w5 ⟨⟨r5, rfl⟩, kx5, cn5, cc5⟩
        have KL5 := Lib.hid (KL.out.trans ((KX.kp ka).trans kx5))
        have LN5 := Lib.hid cn5
        have LC5 := Lib.hid cc5
        clear kx5 cn5 cc5 ka e0 e1 e2 e3 e4 e5 e6 e7 cg1
        go_wp2
        go_roundw
        case rel => exact ⟨j + 1, HLT.out, by go_num, KL5, Lib.hid (by rw [ct]; have := LN5.out; rwa [show nd + 1 + ((cntL (l.take j) + cntN (.mk k1 ⟨pk1, y1, m1, q1⟩ a1 t1 l1) : Nat) : Int) = nd + 1 + (cntL (l.take j) : Int) + (cntN (.mk k1 ⟨pk1, y1, m1, q1⟩ a1 t1 l1) : Int) by omega]), Lib.hid (by have := LC5.out; rw [ct]; rwa [show c + 1 + ((cntL (l.take j) + cntN (.mk k1 ⟨pk1, y1, m1, q1⟩ a1 t1 l1) : Nat) : Int) = c + 1 + (cntL (l.take j) : Int) + (cntN (.mk k1 ⟨pk1, y1, m1, q1⟩ a1 t1 l1) : Int) by omega])⟩
        case measure => have := HLT.out; simp [intOf]; omega
      · obtain rfl : j = l.length := by omega
        rw [List.take_length] at LN LC
        have LNE := LN.out
        have LCE := LC.out
        have KLE := KL.out
        go_wp2
        go_end0
        exact ⟨⟨_, rfl⟩, KLE, by rw [← FN.out]; rwa [show nd + ((cntL l + 1 : Nat) : Int) = nd + 1 + (cntL l : Int) by omega], by rw [← FC.out]; rwa [show c + ((cntL l + 1 : Nat) : Int) = c + 1 + (cntL l : Int) by omega]⟩
set_option maxHeartbeats 16000000 in
set_option maxRecDepth 100000 in
theorem walkDeep1_any (w0 : World) (BN BV BG BC : Nat) (h1 : BN ≠ BV) (h2 : BN ≠ BG) (h3 : BN ≠ BC) (h4 : BC ≠ BV) (h5 : BC ≠ BG) (b1 : w0.heap.size ≤ BN) (b2 : w0.heap.size ≤ BC) :
    ∀ {v : Value} {l : List ND}, NodesAt w0 v l → ∀ (k : Int) (p : PT) (a t : Bool) (d lev c nd : Int) (w : World), Kp w0 w → Cel w BN 3 (.int .i64 nd) → Cel w BV 43 (.func (.func 38) #[] #[.pointer (some ⟨BC, 0, none⟩)]) → Cel w BG 59 (.func (.func 47) #[] #[.pointer (some ⟨BN, 0, none⟩), .pointer (some ⟨BV, 0, none⟩), .pointer (some ⟨BG, 0, none⟩)]) → Cel w BC 3 (.int .i64 c) →
      0 ≤ nd ∧ nd + (cntN (.mk k p a t l) : Int) ≤ 1000000 → 0 ≤ lev ∧ lev + (cntN (.mk k p a t l) : Int) ≤ 100000 → 0 ≤ d ∧ d + (cntN (.mk k p a t l) : Int) ≤ 1000000 → 0 ≤ c ∧ c ≤ 1000000 →
      Calls Tryd.prog 47 #[ndV (.mk k p a t l) v, .int .i64 d, .int .i64 lev, .pointer (some ⟨BN, 0, none⟩), .pointer (some ⟨BV, 0, none⟩), .pointer (some ⟨BG, 0, none⟩)] w fun e w' =>
        (∃ r, e = .returned r) ∧ KX (fun b => b = BN ∨ b = BC) w w' ∧ Cel w' BN 3 (.int .i64 (nd + (cntN (.mk k p a t l) : Int))) ∧ Cel w' BC 3 (.int .i64 (max c (d + (depN (.mk k p a t l) : Int)))) := by
  refine @NodesAt.ind w0 (fun v l => ∀ (k : Int) (p : PT) (a t : Bool) (d lev c nd : Int) (w : World), Kp w0 w → Cel w BN 3 (.int .i64 nd) → Cel w BV 43 (.func (.func 38) #[] #[.pointer (some ⟨BC, 0, none⟩)]) → Cel w BG 59 (.func (.func 47) #[] #[.pointer (some ⟨BN, 0, none⟩), .pointer (some ⟨BV, 0, none⟩), .pointer (some ⟨BG, 0, none⟩)]) → Cel w BC 3 (.int .i64 c) →
      0 ≤ nd ∧ nd + (cntN (.mk k p a t l) : Int) ≤ 1000000 → 0 ≤ lev ∧ lev + (cntN (.mk k p a t l) : Int) ≤ 100000 → 0 ≤ d ∧ d + (cntN (.mk k p a t l) : Int) ≤ 1000000 → 0 ≤ c ∧ c ≤ 1000000 →
      Calls Tryd.prog 47 #[ndV (.mk k p a t l) v, .int .i64 d, .int .i64 lev, .pointer (some ⟨BN, 0, none⟩), .pointer (some ⟨BV, 0, none⟩), .pointer (some ⟨BG, 0, none⟩)] w fun e w' =>
        (∃ r, e = .returned r) ∧ KX (fun b => b = BN ∨ b = BC) w w' ∧ Cel w' BN 3 (.int .i64 (nd + (cntN (.mk k p a t l) : Int))) ∧ Cel w' BC 3 (.int .i64 (max c (d + (depN (.mk k p a t l) : Int))))) ?_
  rintro v l ⟨ad, cp, rfl, hrow⟩ k p a t d lev c nd w k0 cn cv cg cc ⟨n0, n9⟩ ⟨l0, l9⟩ ⟨d0, d9⟩ hc
  obtain ⟨hc0, hc9⟩ := hc
  obtain ⟨pk, y, m, q⟩ := p
  have HR := Lib.hid hrow
  rw [cntN_mk] at n9 l9 d9 ⊢
  try rw [cntN_mk] at hc9
  try rw [depN_mk]
  unfold ndV
  simp only [ND.k, ND.p, ND.a, ND.t, ND.l] at *
  have ll := len_cntL l
  have n1 := cn.cell
  have n2 := cn.frozen
  have n3 := cn.lt
  have n4 : ¬ BN = w.heap.size := by omega
  have v1 := cv.cell
  have v3 := cv.lt
  have v4 : ¬ BV = w.heap.size := by omega
  have g3 := cg.lt
  have c3 := cc.lt
  have q1 : decide (131072 < lev) = false := decide_eq_false (by omega)
  have q2 : (nd == 2147483647) = false := beq_eq_false_iff_ne.2 (by omega)
  have hv1 : (BV == BN) = false := beq_eq_false_iff_ne.2 (fun e => h1 e.symm)
  have hv2 : ¬ BV = BN := fun e => h1 e.symm
  clear hrow
  obtain ⟨dd, hdd⟩ : ∃ dd, (if k = 2 then d + 1 else d) = dd := ⟨_, rfl⟩
  have hd1 : d ≤ dd ∧ dd ≤ d + 1 := by rw [← hdd]; split <;> omega
  have EQ := Lib.hid hdd
  have CV := Lib.hid cv
  have CG := Lib.hid cg
  have CC := Lib.hid cc
  have CN := Lib.hid cn
  clear cv cg cc cn
  obtain ⟨fn, hfn⟩ : ∃ z, nd + ((cntL l + 1 : Nat) : Int) = z := ⟨_, rfl⟩
  obtain ⟨fc, hfc⟩ : ∃ z, max c (d + ((depL l + (k == 2).toNat : Nat) : Int)) = z := ⟨_, rfl⟩
  rw [hfn, hfc]
  have FN := Lib.hid hfn
  have FC := Lib.hid hfc
  clear hfn hfc
  by_cases hk : k = 2
  · subst hk
    have ed : d + 1 = dd := by rw [← hdd]; rfl
    subst ed
    clear hdd
    go_enter Tryd.func47, Tryd.ntmps47
    go_wp2_with fail
    obtain ⟨W2, hW2⟩ : ∃ x, x = (w.setCell ⟨BN, 0, none⟩ (.int .i64 (nd + 1))).alloc (.cells #[.int .i64 2, .int .i64 pk, .string y, .string m, .string q, .bool a, .bool t, .slice ad l.length cp] 26) := ⟨_, rfl⟩
    have kx2 : KX (fun b => b = BN ∨ b = BC) w W2 := by rw [hW2]; exact (KX.set (X := fun b => b = BN ∨ b = BC) (.inl rfl) w _).trans (KX.kp (Kp.alloc _ _))
    have gB : W2.heap[w.heap.size]? = some (.cells #[.int .i64 2, .int .i64 pk, .string y, .string m, .string q, .bool a, .bool t, .slice ad l.length cp] 26 (0, 0)) := by rw [hW2]; exact heap_at _ _ _ (by unfold World.setCell; simp)
    have cn2 : Cel W2 BN 3 (.int .i64 (nd + 1)) := by rw [hW2]; exact (CN.out.set _).kp (Kp.alloc _ _)
    have cc2 : Cel W2 BC 3 (.int .i64 c) := by rw [hW2]; exact (CC.out.other (fun e => h3 e.symm) _).kp (Kp.alloc _ _)
    rw [← hW2]
    clear hW2
    refine (visDeep_any BC (d + 1) c W2 cc2 hc0 (by omega)).mono ?_
    rintro e w3 ⟨⟨r, rfl⟩, hw3⟩
    have kx3 : KX (fun b => b = BN ∨ b = BC) W2 w3 := by rw [hw3]; exact KX.set (X := fun b => b = BN ∨ b = BC) (.inr rfl) W2 _
    have KX3 := Lib.hid (kx2.trans kx3)
    have cn3 := Lib.hid (show Cel w3 BN 3 (.int .i64 (nd + 1)) by rw [hw3]; exact cn2.other h3 _)
    have cc3 := Lib.hid (show Cel w3 BC 3 (.int .i64 (max c (d + 1))) by rw [hw3]; exact cc2.set _)
    have nX : ∀ b, b ≠ BN → b ≠ BC → ¬ (b = BN ∨ b = BC) := fun b p q h => h.elim p q
    have gB3 := kx3.heap gB (nX _ (by omega) (by omega))
    obtain ⟨x0, x1, x2, x3, x4, x5, x6, x7⟩ := row8 gB3
    clear hw3 gB cn2 cc2 kx2 kx3 n1 n2 v1 x0 x1 x2 x3 x4 x5 x6 gB3
    go_wp2
    go_loopw [30] (fun i ws => ∃ j : Nat, j ≤ l.length ∧ i = .int .i64 j ∧ Hid (KX (fun b => b = BN ∨ b = BC) w ws) ∧ Hid (Cel ws BN 3 (.int .i64 (nd + 1 + (cntL (l.take j) : Int)))) ∧ Hid (Cel ws BC 3 (.int .i64 (max (max c (d + 1)) ((d + 1) + (depL (l.take j) : Int)))))) (fun i _ => l.length - (intOf i).toNat)
    case atStart => exact ⟨0, Nat.zero_le _, rfl, KX3, Lib.hid (by simpa [cntL] using cn3.out), Lib.hid (by simpa [depL, show max (max c (d + 1)) (d + 1) = max c (d + 1) by omega] using cc3.out)⟩
    case round =>
      obtain ⟨j, hj, rfl, KL, LN, LC⟩ := hrel
      by_cases hlt : j < l.length
      · obtain ⟨bb, off, rfl, hall⟩ := HR.out (by omega)
        obtain ⟨vi, hrow, hsub, ih⟩ := hall j hlt
        have hb := World.block_lt_of_cell? _ _ hrow.1
        simp only at hb
        have kw0 : Kp w0 wr := KL.out.to k0 (fun b h => by rcases h with rfl | rfl <;> omega)
        obtain ⟨e0, e1, e2, e3, e4, e5, e6, e7⟩ := hrow.kp kw0
        have KW0 := Lib.hid kw0
        have ca := cnt_at hlt
        have ct := cntL_take hlt
        have da := dep_at hlt
        have dt := depL_take hlt
        have dl := depL_le (l := l) j
        have dc := dep_cntL l
        generalize nth l j = x at *
        obtain ⟨k1, ⟨pk1, y1, m1, q1⟩, a1, t1, l1⟩ := x
        simp only [ND.k, ND.p, ND.a, ND.t, ND.l] at *
        obtain ⟨ad1, cp1, rfl⟩ := hsub.slice
        have z1 : (j : Int) < (l.length : Int) := by omega
        have cgl := (CG.out.kx KL.out (nX _ (by omega) (by omega)))
        have cg1 := cgl.cell
        have cg2 := cgl.lt
        have cg3 : ¬ BG = wr.heap.size := by omega
        have CGL := Lib.hid cgl
        have hbw : bb < wr.heap.size := Nat.lt_of_lt_of_le hb kw0.size
        have HLT := Lib.hid hlt
        have IH := Lib.hid (ih k1 ⟨pk1, y1, m1, q1⟩ a1 t1 (d + 1) (lev + 1))
        clear cgl kw0 hrow ih hall
        go_wp2_with fail
        have ka := Kp.alloc wr (.cells #[.int .i64 k1, .int .i64 pk1, .string y1, .string m1, .string q1, .bool a1, .bool t1, .slice ad1 l1.length cp1] 26)
        refine (IH.out _ _ _ (KW0.out.trans ka) (LN.out.kp ka) ((CV.out.kx KL.out (nX _ (by omega) (by omega))).kp ka) (CGL.out.kp ka) (LC.out.kp ka) (by omega) (by omega) (by omega) (by omega)).mono ?_
        rintro e w5 ⟨⟨r5, rfl⟩, kx5, cn5, cc5⟩
        have KL5 := Lib.hid (KL.out.trans ((KX.kp ka).trans kx5))
        have LN5 := Lib.hid cn5
        have LC5 := Lib.hid cc5
        clear kx5 cn5 cc5 ka e0 e1 e2 e3 e4 e5 e6 e7 cg1
        go_wp2
        go_roundw
        case rel => exact ⟨j + 1, HLT.out, by go_num, KL5, Lib.hid (by rw [ct]; have := LN5.out; rwa [show nd + 1 + ((cntL (l.take j) + cntN (.mk k1 ⟨pk1, y1, m1, q1⟩ a1 t1 l1) : Nat) : Int) = nd + 1 + (cntL (l.take j) : Int) + (cntN (.mk k1 ⟨pk1, y1, m1, q1⟩ a1 t1 l1) : Int) by omega]), Lib.hid (by have := LC5.out; rw [dt, max_step]; exact this)⟩
        case measure => have := HLT.out; simp [intOf]; omega
      · obtain rfl : j = l.length := by omega
        rw [List.take_length] at LN LC
        have LNE := LN.out
        have LCE := LC.out
        have KLE := KL.out
        go_wp2
        go_end0
        exact ⟨⟨_, rfl⟩, KLE, by rw [← FN.out]; rwa [show nd + ((cntL l + 1 : Nat) : Int) = nd + 1 + (cntL l : Int) by omega], by rw [← FC.out, show ((2 : Int) == 2).toNat = 1 from rfl]; rwa [show max c (d + ((depL l + 1 : Nat) : Int)) = max (max c (d + 1)) (d + 1 + (depL l : Int)) by omega]⟩
  · have q3 : (k == 2) = false := beq_eq_false_iff_ne.2 hk
    have HK := Lib.hid q3
    have ed : d = dd := by rw [← hdd, if_neg hk]
    subst ed
    clear hdd
    go_enter Tryd.func47, Tryd.ntmps47
    go_wp2_with fail
    obtain ⟨W2, hW2⟩ : ∃ x, x = (w.setCell ⟨BN, 0, none⟩ (.int .i64 (nd + 1))).alloc (.cells #[.int .i64 k, .int .i64 pk, .string y, .string m, .string q, .bool a, .bool t, .slice ad l.length cp] 26) := ⟨_, rfl⟩
    have kx2 : KX (fun b => b = BN ∨ b = BC) w W2 := by rw [hW2]; exact (KX.set (X := fun b => b = BN ∨ b = BC) (.inl rfl) w _).trans (KX.kp (Kp.alloc _ _))
    have gB : W2.heap[w.heap.size]? = some (.cells #[.int .i64 k, .int .i64 pk, .string y, .string m, .string q, .bool a, .bool t, .slice ad l.length cp] 26 (0, 0)) := by rw [hW2]; exact heap_at _ _ _ (by unfold World.setCell; simp)
    have cn2 : Cel W2 BN 3 (.int .i64 (nd + 1)) := by rw [hW2]; exact (CN.out.set _).kp (Kp.alloc _ _)
    have cc2 : Cel W2 BC 3 (.int .i64 c) := by rw [hW2]; exact (CC.out.other (fun e => h3 e.symm) _).kp (Kp.alloc _ _)
    rw [← hW2]
    clear hW2
    refine (visDeep_any BC d c W2 cc2 hc0 (by omega)).mono ?_
    rintro e w3 ⟨⟨r, rfl⟩, hw3⟩
    have kx3 : KX (fun b => b = BN ∨ b = BC) W2 w3 := by rw [hw3]; exact KX.set (X := fun b => b = BN ∨ b = BC) (.inr rfl) W2 _
    have KX3 := Lib.hid (kx2.trans kx3)
    have cn3 := Lib.hid (show Cel w3 BN 3 (.int .i64 (nd + 1)) by rw [hw3]; exact cn2.other h3 _)
    have cc3 := Lib.hid (show Cel w3 BC 3 (.int .i64 (max c d)) by rw [hw3]; exact cc2.set _)
    have nX : ∀ b, b ≠ BN → b ≠ BC → ¬ (b = BN ∨ b = BC) := fun b p q h => h.elim p q
    have gB3 := kx3.heap gB (nX _ (by omega) (by omega))
    obtain ⟨x0, x1, x2, x3, x4, x5, x6, x7⟩ := row8 gB3
    clear hw3 gB cn2 cc2 kx2 kx3 n1 n2 v1 x0 x1 x2 x3 x4 x5 x6 gB3
    go_wp2
    go_loopw [30] (fun i ws => ∃ j : Nat, j ≤ l.length ∧ i = .int .i64 j ∧ Hid (KX (fun b => b = BN ∨ b = BC) w ws) ∧ Hid (Cel ws BN 3 (.int .i64 (nd + 1 + (cntL (l.take j) : Int)))) ∧ Hid (Cel ws BC 3 (.int .i64 (max (max c d) (d + (depL (l.take j) : Int)))))) (fun i _ => l.length - (intOf i).toNat)
    case atStart => exact ⟨0, Nat.zero_le _, rfl, KX3, Lib.hid (by simpa [cntL] using cn3.out), Lib.hid (by simpa [depL, show max (max c d) d = max c d by omega] using cc3.out)⟩
    case round =>
      obtain ⟨j, hj, rfl, KL, LN, LC⟩ := hrel
      by_cases hlt : j < l.length
      · obtain ⟨bb, off, rfl, hall⟩ := HR.out (by omega)
        obtain ⟨vi, hrow, hsub, ih⟩ := hall j hlt
        have hb := World.block_lt_of_cell? _ _ hrow.1
        simp only at hb
        have kw0 : Kp w0 wr := KL.out.to k0 (fun b h => by rcases h with rfl | rfl <;> omega)
        obtain ⟨e0, e1, e2, e3, e4, e5, e6, e7⟩ := hrow.kp kw0
        have KW0 := Lib.hid kw0
        have ca := cnt_at hlt
        have ct := cntL_take hlt
        have da := dep_at hlt
        have dt := depL_take hlt
        have dl := depL_le (l := l) j
        have dc := dep_cntL l
        generalize nth l j = x at *
        obtain ⟨k1, ⟨pk1, y1, m1, q1⟩, a1, t1, l1⟩ := x
        simp only [ND.k, ND.p, ND.a, ND.t, ND.l] at *
        obtain ⟨ad1, cp1, rfl⟩ := hsub.slice
        have z1 : (j : Int) < (l.length : Int) := by omega
        have cgl := (CG.out.kx KL.out (nX _ (by omega) (by omega)))
        have cg1 := cgl.cell
        have cg2 := cgl.lt
        have cg3 : ¬ BG = wr.heap.size := by omega
        have CGL := Lib.hid cgl
        have hbw : bb < wr.heap.size := Nat.lt_of_lt_of_le hb kw0.size
        have HLT := Lib.hid hlt
        have IH := Lib.hid (ih k1 ⟨pk1, y1, m1, q1⟩ a1 t1 d (lev + 1))
        clear cgl kw0 hrow ih hall
        go_wp2_with fail
        have ka := Kp.alloc wr (.cells #[.int .i64 k1, .int .i64 pk1, .string y1, .string m1, .string q1, .bool a1, .bool t1, .slice ad1 l1.length cp1] 26)
        refine (IH.out _ _ _ (KW0.out.trans ka) (LN.out.kp ka) ((CV.out.kx KL.out (nX _ (by omega) (by omega))).kp ka) (CGL.out.kp ka) (LC.out.kp ka) (by omega) (by omega) (by omega) (by omega)).mono ?_
        rintro e w5 ⟨⟨r5, rfl⟩, kx5, cn5, cc5⟩
        have KL5 := Lib.hid (KL.out.trans ((KX.kp ka).trans kx5))
        have LN5 := Lib.hid cn5
        have LC5 := Lib.hid cc5
        clear kx5 cn5 cc5 ka e0 e1 e2 e3 e4 e5 e6 e7 cg1
        go_wp2
        go_roundw
        case rel => exact ⟨j + 1, HLT.out, by go_num, KL5, Lib.hid (by rw [ct]; have := LN5.out; rwa [show nd + 1 + ((cntL (l.take j) + cntN (.mk k1 ⟨pk1, y1, m1, q1⟩ a1 t1 l1) : Nat) : Int) = nd + 1 + (cntL (l.take j) : Int) + (cntN (.mk k1 ⟨pk1, y1, m1, q1⟩ a1 t1 l1) : Int) by omega]), Lib.hid (by have := LC5.out; rw [dt, max_step]; exact this)⟩
        case measure => have := HLT.out; simp [intOf]; omega
      · obtain rfl : j = l.length := by omega
        rw [List.take_length] at LN LC
        have LNE := LN.out
        have LCE := LC.out
        have KLE := KL.out
        go_wp2
        go_end0
        exact ⟨⟨_, rfl⟩, KLE, by rw [← FN.out]; rwa [show nd + ((cntL l + 1 : Nat) : Int) = nd + 1 + (cntL l : Int) by omega], by rw [← FC.out, HK.out, show false.toNat = 0 from rfl]; rwa [show max c (d + ((depL l + 0 : Nat) : Int)) = max (max c d) (d + (depL l : Int)) by omega]⟩
end Go.Proofs.YtgmigeehfhkimaaDoor

namespace Go.Proofs.YtgmigeehfhkimaaDoor
open Go.RowKit
set_option linter.unusedVariables false
set_option linter.unusedSimpArgs false
theorem KX.drop {X Y : Nat → Prop} {w W w' : World} (h : KX X W w') (k : Kp w W) (hXY : ∀ b, b < w.heap.size → X b → Y b) : KX Y w w' :=
  ⟨h.os.trans k.os, h.tape.trans k.tape, h.output.trans k.output, Nat.le_trans k.size h.size, fun i hi hy => (h.block i (Nat.lt_of_lt_of_le hi k.size) (fun x => hy (hXY i hi x))).trans (k.block i hi)⟩
set_option maxHeartbeats 16000000 in
set_option maxRecDepth 100000 in
theorem walkCount_any (n : ND) (v : Value) (w0 w : World) (BC : Nat) (c : Int) (h : NodesAt w0 v n.l) (k0 : Kp w0 w) (hB : w0.heap.size ≤ BC) (cc : Cel w BC 3 (.int .i64 c)) (hc : 0 ≤ c ∧ c + (cntN n : Int) ≤ 1000000) (hn : cntN n ≤ 1000) :
    Calls Tryd.prog 36 #[ndV n v, .func (.func 37) #[] #[.pointer (some ⟨BC, 0, none⟩)]] w fun e w' => (∃ r, e = .returned r) ∧ KX (fun b => b = BC) w w' ∧ Cel w' BC 3 (.int .i64 (c + (cntN n : Int))) := by
  have hmf : ∀ (fn : Fn) (first cap : Array Value) (w : World), (Instr.makeFunc fn first cap).run Tryd.prog w = .ok (.func fn first cap) w := fun _ _ _ _ => rfl
  have hlt := cc.lt
  have hs := k0.size
  have IH := Lib.hid (fun BN BV BG a1 a2 a3 a4 a5 b1 => walkCount1_any w0 BN BV BG BC a1 a2 a3 a4 a5 b1 hB h)
  obtain ⟨ad, cp, rfl⟩ := h.slice
  obtain ⟨k, pk, y, m, q, a, t, l, rfl⟩ := nd_dest n
  have H := Lib.hid h
  have CC := Lib.hid cc
  have K0 := Lib.hid k0
  unfold ndV at *
  simp only [ND.k, ND.p, ND.a, ND.t, ND.l] at *
  clear h cc k0
  go_enter Tryd.func36, Tryd.ntmps36
  go_wp2_with fail
  obtain ⟨W1, hW1⟩ : ∃ x, x = w.alloc (.cells #[.int .i64 k, .int .i64 pk, .string y, .string m, .string q, .bool a, .bool t, .slice ad l.length cp] 26) := ⟨_, rfl⟩
  have z1 : W1.heap.size = w.heap.size + 1 := by rw [hW1]; simp
  have k1 : Kp w W1 := by rw [hW1]; exact Kp.alloc _ _
  rw [← hW1]
  obtain ⟨W2, hW2⟩ : ∃ x, x = W1.alloc (.cells #[.func (.func 37) #[] #[.pointer (some ⟨BC, 0, none⟩)]] 43) := ⟨_, rfl⟩
  have z2 : W2.heap.size = w.heap.size + 1 + 1 := by rw [hW2]; simp [z1]
  have k2 : Kp W1 W2 := by rw [hW2]; exact Kp.alloc _ _
  have v2 : Cel W2 (w.heap.size + 1) 43 (.func (.func 37) #[] #[.pointer (some ⟨BC, 0, none⟩)]) := by rw [hW2]; exact heap_at _ _ _ z1
  rw [← hW2]
  obtain ⟨W3, hW3⟩ : ∃ x, x = W2.alloc (.cells #[.int .i64 0] 3) := ⟨_, rfl⟩
  have z3 : W3.heap.size = w.heap.size + 1 + 1 + 1 := by rw [hW3]; simp [z2]
  have k3 : Kp W2 W3 := by rw [hW3]; exact Kp.alloc _ _
  have n3 : Cel W3 (w.heap.size + 1 + 1) 3 (.int .i64 0) := by rw [hW3]; exact heap_at _ _ _ z2
  rw [← hW3]
  obtain ⟨W4, hW4⟩ : ∃ x, x = W3.alloc (.cells #[.func (.func 47) #[] #[.pointer (some ⟨w.heap.size + 1 + 1, 0, none⟩), .pointer (some ⟨w.heap.size + 1, 0, none⟩), .pointer (some ⟨w.heap.size + 1 + 1 + 1, 0, none⟩)]] 59) := ⟨_, rfl⟩
  have k4 : Kp W3 W4 := by rw [hW4]; exact Kp.alloc _ _
  have g4 : Cel W4 (w.heap.size + 1 + 1 + 1) 59 (.func (.func 47) #[] #[.pointer (some ⟨w.heap.size + 1 + 1, 0, none⟩), .pointer (some ⟨w.heap.size + 1, 0, none⟩), .pointer (some ⟨w.heap.size + 1 + 1 + 1, 0, none⟩)]) := by rw [hW4]; exact heap_at _ _ _ z3
  rw [← hW4]
  have kk : Kp w W4 := k1.trans (k2.trans (k3.trans k4))
  refine (IH.out (w.heap.size + 1 + 1) (w.heap.size + 1) (w.heap.size + 1 + 1 + 1) (by omega) (by omega) (by omega) (by omega) (by omega) (by omega) k ⟨pk, y, m, q⟩ a t 0 0 c 0 W4 (K0.out.trans kk) (n3.kp k4) (v2.kp (k3.trans k4)) g4 (CC.out.kp kk) (by omega) (by omega) (by omega) hc).mono ?_
  rintro e w5 ⟨⟨r, rfl⟩, kx5, _, cc5⟩
  have KX5 := Lib.hid (kx5.drop kk (Y := fun b => b = BC) (fun b hb h => h.elim (fun e => by omega) id))
  have CC5 := Lib.hid cc5
  clear kx5 cc5 hW1 hW2 hW3 hW4 k1 k2 k3 k4 n3 v2 g4 kk
  go_wp2
  go_end0
  exact ⟨⟨_, rfl⟩, KX5.out, CC5.out⟩
set_option maxHeartbeats 16000000 in
set_option maxRecDepth 100000 in
theorem tCount_any (n : ND) (v : Value) (w : World) (h : NodesAt w v n.l) (hn : cntN n ≤ 1000) :
    Calls Tryd.prog 16 #[ndV n v] w fun e w' => e = .returned (.int .i64 (cntN n)) ∧ Kp w w' := by
  have hmf : ∀ (fn : Fn) (first cap : Array Value) (w : World), (Instr.makeFunc fn first cap).run Tryd.prog w = .ok (.func fn first cap) w := fun _ _ _ _ => rfl
  have dc := dep_cnt n
  have IH := Lib.hid (fun w1 (q : Kp w w1) BC hB cc => walkCount_any n v w w1 BC 0 h q hB cc (by omega) hn)
  obtain ⟨rr, hrr⟩ : ∃ x : Int, 0 + (cntN n : Int) = x := ⟨_, rfl⟩
  have HR := Lib.hid (show rr = cntN n by rw [← hrr]; omega)
  rw [hrr] at IH
  rw [← HR.out]
  clear hrr dc hn
  obtain ⟨ad, cp, rfl⟩ := h.slice
  obtain ⟨k, pk, y, m, q, a, t, l, rfl⟩ := nd_dest n
  unfold ndV at *
  simp only [ND.k, ND.p, ND.a, ND.t, ND.l] at *
  clear h
  go_enter Tryd.func16, Tryd.ntmps16
  go_wp2_with fail
  obtain ⟨W1, hW1⟩ : ∃ x, x = w.alloc (.cells #[.int .i64 k, .int .i64 pk, .string y, .string m, .string q, .bool a, .bool t, .slice ad l.length cp] 26) := ⟨_, rfl⟩
  have z1 : W1.heap.size = w.heap.size + 1 := by rw [hW1]; simp
  have k1 : Kp w W1 := by rw [hW1]; exact Kp.alloc _ _
  rw [← hW1]
  obtain ⟨W2, hW2⟩ : ∃ x, x = W1.alloc (.cells #[.int .i64 0] 3) := ⟨_, rfl⟩
  have k2 : Kp W1 W2 := by rw [hW2]; exact Kp.alloc _ _
  have c2 : Cel W2 (w.heap.size + 1) 3 (.int .i64 0) := by rw [hW2]; exact heap_at _ _ _ z1
  rw [← hW2]
  have kk : Kp w W2 := k1.trans k2
  refine (IH.out W2 kk (w.heap.size + 1) (by omega) c2).mono ?_
  rintro e w5 ⟨⟨r, rfl⟩, kx5, cc5⟩
  have K5 := Lib.hid (kx5.to kk (fun b h => by omega))
  have x0 := cc5.cell
  clear kx5 cc5 hW1 hW2 k1 k2 c2 kk
  go_wp2
  go_ret
  exact ⟨rfl, K5.out⟩
set_option maxHeartbeats 16000000 in
set_option maxRecDepth 100000 in
theorem walkDeep_any (n : ND) (v : Value) (w0 w : World) (BC : Nat) (c : Int) (h : NodesAt w0 v n.l) (k0 : Kp w0 w) (hB : w0.heap.size ≤ BC) (cc : Cel w BC 3 (.int .i64 c)) (hc : 0 ≤ c ∧ c ≤ 1000000) (hn : cntN n ≤ 1000) :
    Calls Tryd.prog 36 #[ndV n v, .func (.func 38) #[] #[.pointer (some ⟨BC, 0, none⟩)]] w fun e w' => (∃ r, e = .returned r) ∧ KX (fun b => b = BC) w w' ∧ Cel w' BC 3 (.int .i64 (max c (depN n : Int))) := by
  have hmf : ∀ (fn : Fn) (first cap : Array Value) (w : World), (Instr.makeFunc fn first cap).run Tryd.prog w = .ok (.func fn first cap) w := fun _ _ _ _ => rfl
  have hlt := cc.lt
  have hs := k0.size
  have IH := Lib.hid (fun BN BV BG a1 a2 a3 a4 a5 b1 => walkDeep1_any w0 BN BV BG BC a1 a2 a3 a4 a5 b1 hB h)
  obtain ⟨ad, cp, rfl⟩ := h.slice
  obtain ⟨k, pk, y, m, q, a, t, l, rfl⟩ := nd_dest n
  have H := Lib.hid h
  have CC := Lib.hid cc
  have K0 := Lib.hid k0
  unfold ndV at *
  simp only [ND.k, ND.p, ND.a, ND.t, ND.l] at *
  clear h cc k0
  go_enter Tryd.func36, Tryd.ntmps36
  go_wp2_with fail
  obtain ⟨W1, hW1⟩ : ∃ x, x = w.alloc (.cells #[.int .i64 k, .int .i64 pk, .string y, .string m, .string q, .bool a, .bool t, .slice ad l.length cp] 26) := ⟨_, rfl⟩
  have z1 : W1.heap.size = w.heap.size + 1 := by rw [hW1]; simp
  have k1 : Kp w W1 := by rw [hW1]; exact Kp.alloc _ _
  rw [← hW1]
  obtain ⟨W2, hW2⟩ : ∃ x, x = W1.alloc (.cells #[.func (.func 38) #[] #[.pointer (some ⟨BC, 0, none⟩)]] 43) := ⟨_, rfl⟩
  have z2 : W2.heap.size = w.heap.size + 1 + 1 := by rw [hW2]; simp [z1]
  have k2 : Kp W1 W2 := by rw [hW2]; exact Kp.alloc _ _
  have v2 : Cel W2 (w.heap.size + 1) 43 (.func (.func 38) #[] #[.pointer (some ⟨BC, 0, none⟩)]) := by rw [hW2]; exact heap_at _ _ _ z1
  rw [← hW2]
  obtain ⟨W3, hW3⟩ : ∃ x, x = W2.alloc (.cells #[.int .i64 0] 3) := ⟨_, rfl⟩
  have z3 : W3.heap.size = w.heap.size + 1 + 1 + 1 := by rw [hW3]; simp [z2]
  have k3 : Kp W2 W3 := by rw [hW3]; exact Kp.alloc _ _
  have n3 : Cel W3 (w.heap.size + 1 + 1) 3 (.int .i64 0) := by rw [hW3]; exact heap_at _ _ _ z2
  rw [← hW3]
  obtain ⟨W4, hW4⟩ : ∃ x, x = W3.alloc (.cells #[.func (.func 47) #[] #[.pointer (some ⟨w.heap.size + 1 + 1, 0, none⟩), .pointer (some ⟨w.heap.size + 1, 0, none⟩), .pointer (some ⟨w.heap.size + 1 + 1 + 1, 0, none⟩)]] 59) := ⟨_, rfl⟩
  have k4 : Kp W3 W4 := by rw [hW4]; exact Kp.alloc _ _
  have g4 : Cel W4 (w.heap.size + 1 + 1 + 1) 59 (.func (.func 47) #[] #[.pointer (some ⟨w.heap.size + 1 + 1, 0, none⟩), .pointer (some ⟨w.heap.size + 1, 0, none⟩), .pointer (some ⟨w.heap.size + 1 + 1 + 1, 0, none⟩)]) := by rw [hW4]; exact heap_at _ _ _ z3
  rw [← hW4]
  have kk : Kp w W4 := k1.trans (k2.trans (k3.trans k4))
  refine (IH.out (w.heap.size + 1 + 1) (w.heap.size + 1) (w.heap.size + 1 + 1 + 1) (by omega) (by omega) (by omega) (by omega) (by omega) (by omega) k ⟨pk, y, m, q⟩ a t 0 0 c 0 W4 (K0.out.trans kk) (n3.kp k4) (v2.kp (k3.trans k4)) g4 (CC.out.kp kk) (by omega) (by omega) (by omega) hc).mono ?_
  rintro e w5 ⟨⟨r, rfl⟩, kx5, _, cc5⟩
  have KX5 := Lib.hid (kx5.drop kk (Y := fun b => b = BC) (fun b hb h => h.elim (fun e => by omega) id))
  have CC5 := Lib.hid cc5
  clear kx5 cc5 hW1 hW2 hW3 hW4 k1 k2 k3 k4 n3 v2 g4 kk
  go_wp2
  go_end0
  exact ⟨⟨_, rfl⟩, KX5.out, by have := CC5.out; rwa [Int.zero_add] at this⟩
set_option maxHeartbeats 16000000 in
set_option maxRecDepth 100000 in
theorem tDeep_any (n : ND) (v : Value) (w : World) (h : NodesAt w v n.l) (hn : cntN n ≤ 1000) :
    Calls Tryd.prog 17 #[ndV n v] w fun e w' => e = .returned (.int .i64 (depN n)) ∧ Kp w w' := by
  have hmf : ∀ (fn : Fn) (first cap : Array Value) (w : World), (Instr.makeFunc fn first cap).run Tryd.prog w = .ok (.func fn first cap) w := fun _ _ _ _ => rfl
  have dc := dep_cnt n
  have IH := Lib.hid (fun w1 (q : Kp w w1) BC hB cc => walkDeep_any n v w w1 BC 0 h q hB cc (by omega) hn)
  obtain ⟨rr, hrr⟩ : ∃ x : Int, max 0 (depN n : Int) = x := ⟨_, rfl⟩
  have HR := Lib.hid (show rr = depN n by rw [← hrr]; omega)
  rw [hrr] at IH
  rw [← HR.out]
  clear hrr dc hn
  obtain ⟨ad, cp, rfl⟩ := h.slice
  obtain ⟨k, pk, y, m, q, a, t, l, rfl⟩ := nd_dest n
  unfold ndV at *
  simp only [ND.k, ND.p, ND.a, ND.t, ND.l] at *
  clear h
  go_enter Tryd.func17, Tryd.ntmps17
  go_wp2_with fail
  obtain ⟨W1, hW1⟩ : ∃ x, x = w.alloc (.cells #[.int .i64 k, .int .i64 pk, .string y, .string m, .string q, .bool a, .bool t, .slice ad l.length cp] 26) := ⟨_, rfl⟩
  have z1 : W1.heap.size = w.heap.size + 1 := by rw [hW1]; simp
  have k1 : Kp w W1 := by rw [hW1]; exact Kp.alloc _ _
  rw [← hW1]
  obtain ⟨W2, hW2⟩ : ∃ x, x = W1.alloc (.cells #[.int .i64 0] 3) := ⟨_, rfl⟩
  have k2 : Kp W1 W2 := by rw [hW2]; exact Kp.alloc _ _
  have c2 : Cel W2 (w.heap.size + 1) 3 (.int .i64 0) := by rw [hW2]; exact heap_at _ _ _ z1
  rw [← hW2]
  have kk : Kp w W2 := k1.trans k2
  refine (IH.out W2 kk (w.heap.size + 1) (by omega) c2).mono ?_
  rintro e w5 ⟨⟨r, rfl⟩, kx5, cc5⟩
  have K5 := Lib.hid (kx5.to kk (fun b h => by omega))
  have x0 := cc5.cell
  clear kx5 cc5 hW1 hW2 k1 k2 c2 kk
  go_wp2
  go_ret
  exact ⟨rfl, K5.out⟩
end Go.Proofs.YtgmigeehfhkimaaDoor
