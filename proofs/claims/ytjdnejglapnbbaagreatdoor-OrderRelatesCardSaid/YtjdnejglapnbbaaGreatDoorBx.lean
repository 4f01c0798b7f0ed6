import Derived.Test.YtjdnejglapnbbaaGreatDoorGBa
import Derived.Test.YtjdnejglapnbbaaGreatDoorGLeafA
import Derived.Deep.MidRow
import Derived.Deep.CutRange
namespace Go.Proofs.YtjdnejglapnbbaaGreatDoor
open Go.RowKit
set_option linter.unusedVariables false
set_option linter.unusedSimpArgs false
theorem bx_heap1 {w : World} {B : Nat} {t : TypeId} {c : Array Value} {fr : Nat × Nat} (hB : w.heap[B]? = some (.cells c t fr)) (o : Nat) (x : Value) : (w.setCell ⟨B, o, none⟩ x).heap[B]? = some (.cells (c.setIfInBounds o x) t fr) := by
 unfold World.setCell
 simp only
 rw [Array.getElem?_modify, if_pos rfl, hB]
 rfl
theorem bx_other1 {w : World} {B C : Nat} (h : C ≠ B) (o : Nat) (x : Value) : (w.setCell ⟨B, o, none⟩ x).heap[C]? = w.heap[C]? := by
 unfold World.setCell
 simp only
 rw [Array.getElem?_modify, if_neg (Ne.symm h)]
def bxA : Array Value → Nat → List Value → Array Value
 | a, _, [] => a
 | a, o, c :: cs => bxA (a.setIfInBounds o c) (o + 1) cs
theorem bx_heap {B : Nat} {t : TypeId} {fr : Nat × Nat} : ∀ (cs : List Value) (o : Nat) {w : World} {a : Array Value}, w.heap[B]? = some (.cells a t fr) → (w.setCells B o cs).heap[B]? = some (.cells (bxA a o cs) t fr)
 | [], _, _, _, h => h
 | c :: cs, o, w, a, h => bx_heap cs (o + 1) (bx_heap1 h o c)
theorem bx_other {B C : Nat} (h : C ≠ B) : ∀ (cs : List Value) (o : Nat) (w : World), (w.setCells B o cs).heap[C]? = w.heap[C]?
 | [], _, _ => rfl
 | c :: cs, o, w => (bx_other h cs (o + 1) _).trans (bx_other1 h o c)
theorem bx_kp {w0 : World} {g : Nat} (hg : w0.heap.size ≤ g) : ∀ (cs : List Value) (o : Nat) {w : World}, Kp w0 w → Kp w0 (w.setCells g o cs)
 | [], _, _, k => k
 | c :: cs, o, w, k => bx_kp hg cs (o + 1) (Below.setCell k (p := ⟨g, o, none⟩) hg c)
theorem bx_there {w : World} {B : Nat} {t : TypeId} {a : Array Value} (h : w.heap[B]? = some (.cells a t (0, 0))) (o n : Nat) (e : o + n ≤ a.size) : w.there B o n := fun j hj => by
 have hl : o + j < a.size := by omega
 refine ⟨?_, by simp [World.frozen?, h]⟩
 simp [World.cell?, h, hl]
theorem bx_store {P : Program} {W w : World} {ops : Array Oper} {o : Oper} {a : Act} {K : Act → World → Prop} {Q : Exit → Act → World → Prop} {E : Prop} (hgd : o.guard = none) (ty : TypeId) (x y : Operand) (ho : o.op = .store ty x y)
  (B : Nat) (cs : List Value) (zs : Array Value) (hx : a.eval x = .pointer (some ⟨B, 0, none⟩)) (hy : a.eval y = .agg cs.toArray) (hk : Kp W w) (hW : W.heap.size ≤ B) (hB : w.heap[B]? = some (.cells zs ty (0, 0)))
  (hl : cs.length ≤ zs.size) (hs : bxA zs 0 cs = cs.toArray) (hi : (P.info? ty).map (·.size) = some cs.length) (h1 : cs.toArray.all (·.oneCell') = true)
  (h : ∀ F, F = w.setCells B 0 cs → Kp W F → F.heap[B]? = some (.cells cs.toArray ty (0, 0)) → K (a.put o.dst undef) F) : if Region.wanted o (yielded ops a.tmps) = true then Oper.wp P o a w K Q else E := by
 rw [if_pos (by simp [Region.wanted, hgd])]
 have g := bx_heap cs 0 hB
 rw [hs] at g
 exact wp_store_mid ty x y ho B 0 cs.toArray hx hy (by simpa using bx_there hB 0 cs.length (by omega)) (by simpa using hi) h1 (h _ rfl (bx_kp hW cs 0 hk) g)
theorem row4 {W : World} {B : Nat} {a b c d : Value} {t : TypeId} {fr : Nat × Nat} (h : W.heap[B]? = some (.cells #[a, b, c, d] t fr)) : W.cell? ⟨B, 0, none⟩ = some a ∧ W.cell? ⟨B, 1, none⟩ = some b ∧ W.cell? ⟨B, 2, none⟩ = some c ∧ W.cell? ⟨B, 3, none⟩ = some d := by
 refine ⟨?_, ?_, ?_, ?_⟩ <;> simp [World.cell?, h]
theorem row2 {W : World} {B : Nat} {a b : Value} {t : TypeId} {fr : Nat × Nat} (h : W.heap[B]? = some (.cells #[a, b] t fr)) : W.cell? ⟨B, 0, none⟩ = some a ∧ W.cell? ⟨B, 1, none⟩ = some b := by
 refine ⟨?_, ?_⟩ <;> simp [World.cell?, h]
theorem row3 {W : World} {B : Nat} {a b c : Value} {t : TypeId} {fr : Nat × Nat} (h : W.heap[B]? = some (.cells #[a, b, c] t fr)) : W.cell? ⟨B, 0, none⟩ = some a ∧ W.cell? ⟨B, 1, none⟩ = some b ∧ W.cell? ⟨B, 2, none⟩ = some c := by
 refine ⟨?_, ?_, ?_⟩ <;> simp [World.cell?, h]
theorem row1 {W : World} {B : Nat} {a : Value} {t : TypeId} {fr : Nat × Nat} (h : W.heap[B]? = some (.cells #[a] t fr)) : W.cell? ⟨B, 0, none⟩ = some a := by
 simp [World.cell?, h]
end Go.Proofs.YtjdnejglapnbbaaGreatDoor
