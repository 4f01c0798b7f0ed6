import Derived.Test.YtajllgjfndfdjaaGreatDoorGCnB
import Derived.Deep.CutRange
namespace Go.Proofs.YtajllgjfndfdjaaGreatDoor
open Go.RowKit Go.Shelf
set_option linter.unusedVariables false
set_option linter.unusedSimpArgs false
def NB (w : World) (b : Nat) (n : ND) : Prop := ∃ v, w.heap[b]? = some (.cells (cells1 n v) 26 (0, 0)) ∧ NodesAt w v n.l
theorem NB.kp {w w' : World} {b : Nat} {n : ND} (h : NB w b n) (k : Kp w w') : NB w' b n := by
 obtain ⟨v, g, hn⟩ := h
 exact ⟨v, heap_block k g, hn.kp k⟩
theorem NB.opn {w : World} {b : Nat} {n : ND} (h : NB w b n) : ∃ ad cp, w.heap[b]? = some (.cells #[.int .i64 n.k, .int .i64 n.p.k, .string n.p.y, .string n.p.m, .string n.p.d, .bool n.a, .bool n.t, .slice ad n.l.length cp] 26 (0, 0)) ∧ NodesAt w (.slice ad n.l.length cp) n.l := by
 obtain ⟨v, g, hn⟩ := h
 obtain ⟨ad, cp, rfl⟩ := hn.slice
 exact ⟨ad, cp, g, hn⟩
theorem NB.of {w : World} {b : Nat} {n : ND} {v : Value} (g : w.heap[b]? = some (.cells #[.int .i64 n.k, .int .i64 n.p.k, .string n.p.y, .string n.p.m, .string n.p.d, .bool n.a, .bool n.t, v] 26 (0, 0))) (h : NodesAt w v n.l) : NB w b n := ⟨v, g, h⟩
end Go.Proofs.YtajllgjfndfdjaaGreatDoor
