/-
  Joined: TrP, TrA.
-/
import Derived.Test.YtinpglfclbnhlaaGreatDoorGPtA
import Derived.Laws.StructEq
namespace Go.Proofs.YtinpglfclbnhlaaGreatDoor
set_option linter.unusedVariables false
set_option linter.unusedSimpArgs false
/-- a node, as plain data -/
inductive ND where
  | mk (k : Int) (p : PT) (a t : Bool) (l : List ND) : ND
def ND.k : ND → Int | .mk k _ _ _ _ => k
def ND.p : ND → PT | .mk _ p _ _ _ => p
def ND.a : ND → Bool | .mk _ _ a _ _ => a
def ND.t : ND → Bool | .mk _ _ _ t _ => t
def ND.l : ND → List ND | .mk _ _ _ _ l => l
mutual
def cntN : ND → Nat
  | .mk _ _ _ _ l => cntL l + 1
def cntL : List ND → Nat
  | [] => 0
  | x :: l => cntN x + cntL l
end
mutual
def depN : ND → Nat
  | .mk k _ _ _ l => depL l + (k == 2).toNat
def depL : List ND → Nat
  | [] => 0
  | x :: l => max (depN x) (depL l)
end
mutual
def hgtN : ND → Nat
  | .mk _ _ _ _ l => hgtL l + 1
def hgtL : List ND → Nat
  | [] => 0
  | x :: l => max (hgtN x) (hgtL l)
end
theorem cntL_append : ∀ a b : List ND, cntL (a ++ b) = cntL a + cntL b
  | [], b => by simp [cntL]
  | x :: a, b => by simp [cntL, cntL_append a b, Nat.add_assoc]
theorem depL_append : ∀ a b : List ND, depL (a ++ b) = max (depL a) (depL b)
  | [], b => by simp [depL]
  | x :: a, b => by simp [depL, depL_append a b, Nat.max_assoc]
mutual
theorem hgt_cnt : ∀ n : ND, hgtN n ≤ cntN n
  | .mk _ _ _ _ l => by simp only [hgtN, cntN]; have := hgt_cntL l; omega
theorem hgt_cntL : ∀ l : List ND, hgtL l ≤ cntL l
  | [] => by simp [hgtL, cntL]
  | x :: l => by simp only [hgtL, cntL]; have := hgt_cnt x; have := hgt_cntL l; omega
end
mutual
theorem dep_cnt : ∀ n : ND, depN n ≤ cntN n
  | .mk k _ _ _ l => by simp only [depN, cntN]; have := dep_cntL l; have := Bool.toNat_le (k == 2); omega
theorem dep_cntL : ∀ l : List ND, depL l ≤ cntL l
  | [] => by simp [depL, cntL]
  | x :: l => by simp only [depL, cntL]; have := dep_cnt x; have := dep_cntL l; omega
end
theorem cnt_pos (n : ND) : 1 ≤ cntN n := by cases n; simp only [cntN]; omega
theorem len_cntL : ∀ l : List ND, l.length ≤ cntL l
  | [] => by simp [cntL]
  | x :: l => by simp only [cntL, List.length_cons]; have := len_cntL l; have := cnt_pos x; omega
theorem cnt_mem : ∀ {l : List ND} {x : ND}, x ∈ l → cntN x ≤ cntL l
  | y :: l, x, h => by
    simp only [cntL]
    rcases List.mem_cons.1 h with rfl | h
    · omega
    · have := cnt_mem h; omega
def bareP (p : PT) : Bool := decide (p.k = 0) && (decide (p.y.size = 0) && (decide (p.m.size = 0) && decide (p.d.size = 0)))
def bareN (n : ND) : Bool := bareP n.p && (!n.a && !n.t)
section
variable (sp : PT → Bool)
def endN (n : ND) : Bool := (n.k == 0 && (sp n.p && n.l.isEmpty)) || ((n.k == 3 || n.k == 4) && (bareN n && n.l.isEmpty))
def twoN : List ND → Bool
  | [x, y] => endN sp x && endN sp y
  | _ => false
mutual
def rightN : ND → Bool
  | .mk k p a t l => (k == 0 && endN sp (.mk k p a t l)) || ((k == 1 && (bareN (.mk k p a t l) && twoN sp l)) || (k == 2 && (bareN (.mk k p a t l) && (!l.isEmpty && rightL l))))
def rightL : List ND → Bool
  | [] => true
  | x :: l => rightN x && rightL l
end
theorem rightL_all : ∀ l : List ND, rightL sp l = l.all (rightN sp)
  | [] => rfl
  | x :: l => by simp [rightL, rightL_all l]
theorem rightL_append (a b : List ND) : rightL sp (a ++ b) = (rightL sp a && rightL sp b) := by simp [rightL_all]
end
def eqP (p q : PT) : Bool := p.k == q.k && (p.y.toList == q.y.toList && (p.m.toList == q.m.toList && p.d.toList == q.d.toList))
theorem bytes_iff (a b : ByteArray) : (a.toList == b.toList) = true ↔ a = b := by
  rw [beq_iff_eq, ByteArray.toList_eq, ByteArray.toList_eq]
  constructor
  · intro h
    obtain ⟨⟨x⟩⟩ := a
    obtain ⟨⟨y⟩⟩ := b
    simp only at h
    rw [h]
  · intro h
    rw [h]
theorem eqP_iff (p q : PT) : eqP p q = true ↔ p = q := by
  obtain ⟨a, b, c, d⟩ := p
  obtain ⟨a', b', c', d'⟩ := q
  unfold eqP
  simp only [Bool.and_eq_true, bytes_iff, PT.mk.injEq]
  rw [beq_iff_eq]
mutual
def sameN : ND → ND → Bool
  | .mk k p a t l, .mk k' p' a' t' l' => decide (k = k') && (eqP p p' && (decide (a = a') && (decide (t = t') && sameL l l')))
def sameL : List ND → List ND → Bool
  | [], [] => true
  | x :: l, y :: l' => sameN x y && sameL l l'
  | _, _ => false
end
mutual
theorem same_iff : ∀ a b : ND, sameN a b = true ↔ a = b
  | .mk k p a t l, .mk k' p' a' t' l' => by
    simp only [sameN, Bool.and_eq_true, decide_eq_true_eq, eqP_iff, sameL_iff l l', ND.mk.injEq]
theorem sameL_iff : ∀ a b : List ND, sameL a b = true ↔ a = b
  | [], [] => by simp [sameL]
  | [], _ :: _ => by simp [sameL]
  | _ :: _, [] => by simp [sameL]
  | x :: l, y :: l' => by simp only [sameL, Bool.and_eq_true, same_iff x y, sameL_iff l l', List.cons.injEq]
end
mutual
def shortN : ND → Bool
  | .mk _ p _ _ l => (decide (p.y.size ≤ 10) && (decide (p.m.size ≤ 10) && decide (p.d.size ≤ 10))) && shortL l
def shortL : List ND → Bool
  | [] => true
  | x :: l => shortN x && shortL l
end
def fewN (n : ND) : Bool := decide (cntN n ≤ 120) && shortN n
def saneN (sp : PT → Bool) (n : ND) : Bool := decide (cntN n ≤ 64) && (decide (depN n ≤ 8) && rightN sp n)
end Go.Proofs.YtinpglfclbnhlaaGreatDoor

namespace Go.Proofs.YtinpglfclbnhlaaGreatDoor
open Go.RowKit
set_option linter.unusedVariables false
set_option linter.unusedSimpArgs false
/-- the boxes X turn, all else stays -/
structure KX (X : Nat → Prop) (w w' : World) : Prop where
  os : w'.os = w.os
  tape : w'.tape = w.tape
  output : w'.output = w.output
  size : w.heap.size ≤ w'.heap.size
  block : ∀ k, k < w.heap.size → ¬ X k → w'.heap[k]? = w.heap[k]?
theorem KX.refl (X : Nat → Prop) (w : World) : KX X w w := ⟨rfl, rfl, rfl, Nat.le_refl _, fun _ _ _ => rfl⟩
theorem KX.trans {X : Nat → Prop} {a b c : World} (h : KX X a b) (k : KX X b c) : KX X a c :=
  ⟨k.os.trans h.os, k.tape.trans h.tape, k.output.trans h.output, Nat.le_trans h.size k.size, fun i hi hb => (k.block i (Nat.lt_of_lt_of_le hi h.size) hb).trans (h.block i hi hb)⟩
theorem KX.kp {X : Nat → Prop} {w w' : World} (h : Kp w w') : KX X w w' := ⟨h.os, h.tape, h.output, h.size, fun i hi _ => h.block i hi⟩
theorem KX.set {X : Nat → Prop} {B : Nat} (hB : X B) (w : World) (v : Value) : KX X w (w.setCell ⟨B, 0, none⟩ v) :=
  ⟨rfl, rfl, rfl, by unfold World.setCell; simp, fun k _ hb => Below.heap_setCell _ _ _ k (fun e => hb (by rw [e]; exact hB))⟩
theorem KX.to {X : Nat → Prop} {w w0 w' : World} (h : KX X w0 w') (k : Kp w w0) (hB : ∀ b, X b → w.heap.size ≤ b) : Kp w w' :=
  Below.trans k ⟨h.os, h.tape, h.output, h.size, fun i hi => h.block i (by have := k.size; omega) (fun x => by have := hB i x; omega)⟩
theorem KX.heap {X : Nat → Prop} {b : Nat} {w w' : World} {o : Obj} (h : KX X w w') (c : w.heap[b]? = some o) (hb : ¬ X b) : w'.heap[b]? = some o :=
  (h.block b (Array.getElem?_eq_some_iff.1 c).1 hb).trans c
theorem KX.cell {X : Nat → Prop} {b o : Nat} {w w' : World} {x : Value} (h : KX X w w') (c : w.cell? ⟨b, o, none⟩ = some x) (hb : ¬ X b) : w'.cell? ⟨b, o, none⟩ = some x :=
  (World.cell?_of_block (w := w) (h.block b (World.block_lt_of_cell? _ _ c) hb)).trans c
/-- a variable's box -/
def Cel (w : World) (B : Nat) (t : TypeId) (v : Value) : Prop := w.heap[B]? = some (.cells #[v] t (0, 0))
theorem Cel.lt {w : World} {B : Nat} {t : TypeId} {v : Value} (h : Cel w B t v) : B < w.heap.size := (Array.getElem?_eq_some_iff.1 h).1
theorem Cel.cell {w : World} {B : Nat} {t : TypeId} {v : Value} (h : Cel w B t v) : w.cell? ⟨B, 0, none⟩ = some v := by simp [World.cell?, show w.heap[B]? = _ from h]
theorem Cel.frozen {w : World} {B : Nat} {t : TypeId} {v : Value} (h : Cel w B t v) : w.frozen? ⟨B, 0, none⟩ = false := by simp [World.frozen?, show w.heap[B]? = _ from h]
theorem Cel.kx {X : Nat → Prop} {w w' : World} {B : Nat} {t : TypeId} {v : Value} (h : Cel w B t v) (k : KX X w w') (hB : ¬ X B) : Cel w' B t v := k.heap h hB
theorem Cel.kp {w w' : World} {B : Nat} {t : TypeId} {v : Value} (h : Cel w B t v) (k : Kp w w') : Cel w' B t v := heap_block k h
theorem Cel.set {w : World} {B : Nat} {t : TypeId} {v : Value} (h : Cel w B t v) (v' : Value) : Cel (w.setCell ⟨B, 0, none⟩ v') B t v' := ps_heap h 0 v'
theorem Cel.other {w : World} {B C : Nat} {t : TypeId} {v : Value} (h : Cel w B t v) (hc : B ≠ C) (v' : Value) : Cel (w.setCell ⟨C, 0, none⟩ v') B t v := (ps_other hc 0 v').trans h
def nd0 : ND := .mk 0 ⟨0, ⟨#[]⟩, ⟨#[]⟩, ⟨#[]⟩⟩ false false []
def nth (l : List ND) (i : Nat) : ND := l.getD i nd0
theorem nth_mem {l : List ND} {i : Nat} (h : i < l.length) : nth l i ∈ l := by
  unfold nth
  simp [List.getD, h]
theorem nth_take {l : List ND} {i : Nat} (h : i < l.length) : l.take (i + 1) = l.take i ++ [nth l i] := by
  unfold nth
  rw [List.take_add_one]
  simp [List.getD, h]
theorem nth_split {l : List ND} {i : Nat} (h : i < l.length) : l = l.take i ++ nth l i :: l.drop (i + 1) := by
  have e : l.drop i = nth l i :: l.drop (i + 1) := by
    rw [List.drop_eq_getElem_cons h]
    unfold nth
    simp [List.getD, h]
  rw [← e, List.take_append_drop]
/-- the value of a node whose parts stand in lv -/
def ndV (n : ND) (lv : Value) : Value := .agg #[.int .i64 n.k, .int .i64 n.p.k, .string n.p.y, .string n.p.m, .string n.p.d, .bool n.a, .bool n.t, lv]
def RowN (w : World) (b o : Nat) (n : ND) (lv : Value) : Prop :=
  w.cell? ⟨b, o, none⟩ = some (.int .i64 n.k) ∧ w.cell? ⟨b, o + 1, none⟩ = some (.int .i64 n.p.k) ∧ w.cell? ⟨b, o + 2, none⟩ = some (.string n.p.y) ∧ w.cell? ⟨b, o + 3, none⟩ = some (.string n.p.m) ∧ w.cell? ⟨b, o + 4, none⟩ = some (.string n.p.d) ∧
  w.cell? ⟨b, o + 5, none⟩ = some (.bool n.a) ∧ w.cell? ⟨b, o + 6, none⟩ = some (.bool n.t) ∧ w.cell? ⟨b, o + 7, none⟩ = some lv
theorem RowN.kp {w w' : World} {b o : Nat} {n : ND} {lv : Value} (h : RowN w b o n lv) (k : Kp w w') : RowN w' b o n lv := by
  obtain ⟨h0, h1, h2, h3, h4, h5, h6, h7⟩ := h
  exact ⟨cell_up k h0, cell_up k h1, cell_up k h2, cell_up k h3, cell_up k h4, cell_up k h5, cell_up k h6, cell_up k h7⟩
/-- a list of nodes in memory -/
inductive NodesAt (w : World) : Value → List ND → Prop
  | none (ad : Option Addr) (c : Nat) : NodesAt w (.slice ad 0 c) []
  | row (l : List ND) (b off cap : Nat) (vs : Nat → Value) (hp : 0 < l.length) (hc : l.length ≤ cap) (hm : cap ≤ maxLen) (hr : ∀ i, i < l.length → RowN w b (off + i * 8) (nth l i) (vs i)) (hs : ∀ i, i < l.length → NodesAt w (vs i) (nth l i).l) :
    NodesAt w (.slice (some ⟨b, off, Option.none⟩) l.length cap) l
/-- what holds of a list's parts holds of it -/
theorem NodesAt.ind {w : World} {P : Value → List ND → Prop}
    (step : ∀ v l, (∃ ad c, v = .slice ad l.length c ∧ (0 < l.length → ∃ b off, ad = some ⟨b, off, Option.none⟩ ∧ ∀ i, i < l.length → ∃ vi, RowN w b (off + i * 8) (nth l i) vi ∧ NodesAt w vi (nth l i).l ∧ P vi (nth l i).l)) → P v l) :
    ∀ {v : Value} {l : List ND}, NodesAt w v l → P v l := by
  intro v l h
  induction h with
  | none ad c => exact step _ _ ⟨ad, c, rfl, fun h => by simp at h⟩
  | row l b off cap vs hp hc hm hr hs ih => exact step _ _ ⟨_, cap, rfl, fun _ => ⟨b, off, rfl, fun i hi => ⟨vs i, hr i hi, hs i hi, ih i hi⟩⟩⟩
theorem NodesAt.kp {w w' : World} {v : Value} {l : List ND} (h : NodesAt w v l) (k : Kp w w') : NodesAt w' v l := by
  induction h with
  | none ad c => exact .none ad c
  | row l b off cap vs hp hc hm hr hs ih => exact .row l b off cap vs hp hc hm (fun i hi => (hr i hi).kp k) ih
theorem NodesAt.slice {w : World} {v : Value} {l : List ND} (h : NodesAt w v l) : ∃ ad c, v = .slice ad l.length c := by
  cases h with
  | none ad c => exact ⟨ad, c, rfl⟩
  | row l b off cap vs hp hc hm hr hs => exact ⟨_, cap, rfl⟩
theorem NodesAt.len {w : World} {v : Value} {l : List ND} (h : NodesAt w v l) : l.length ≤ maxLen := by
  cases h with
  | none ad c => simp
  | row l b off cap vs hp hc hm hr hs => omega
mutual
/-- a node's integers fit -/
def ndG : ND → Prop
  | .mk k p _ _ l => (-9223372036854775808 ≤ k ∧ k ≤ 9223372036854775807 ∧ -9223372036854775808 ≤ p.k ∧ p.k ≤ 9223372036854775807) ∧ ndGL l
def ndGL : List ND → Prop
  | [] => True
  | x :: l => ndG x ∧ ndGL l
end
theorem ndGL_mem : ∀ {l : List ND}, ndGL l → ∀ x ∈ l, ndG x
  | [], _, _, h => by cases h
  | y :: l, g, x, h => by
    rcases List.mem_cons.1 h with rfl | h
    · exact g.1
    · exact ndGL_mem g.2 x h
theorem ndGL_nth {l : List ND} (h : ndGL l) {i : Nat} (hi : i < l.length) : ndG (nth l i) := ndGL_mem h _ (nth_mem hi)
theorem eta_nd (n : ND) : n = .mk n.k n.p n.a n.t n.l := by cases n; rfl
end Go.Proofs.YtinpglfclbnhlaaGreatDoor
