/-
  Walk of the statements of layer 18: the document's examples.
-/
import Derived.Test.YteneoimkfddhpaaDoorAllenB
import Derived.Test.YteneoimkfddhpaaDoorAllenC
import Derived.Test.YteneoimkfddhpaaDoorAllenN
namespace Go.Proofs.YteneoimkfddhpaaDoor
open Go.RowKit
set_option linter.unusedVariables false
theorem box2 {w w1 : World} {a b c d : Value} {t t' : TypeId} (k : Kp ((w.alloc (.cells #[a, b] t)).alloc (.cells #[c, d] t')) w1) :
    (w1.cell? ⟨w.heap.size, 0, none⟩ = some a ∧ w1.cell? ⟨w.heap.size, 1, none⟩ = some b) ∧ w1.cell? ⟨w.heap.size + 1, 0, none⟩ = some c ∧ w1.cell? ⟨w.heap.size + 1, 1, none⟩ = some d := by
  refine ⟨⟨?_, ?_⟩, ?_, ?_⟩
  · rw [k.cell (by simp; omega)]; simp
  · rw [k.cell (by simp; omega)]; simp
  · rw [k.cell (by simp)]; simp
  · rw [k.cell (by simp)]; simp
theorem kp2 (w : World) (a b : Obj) : Kp w ((w.alloc a).alloc b) := (Kp.alloc _ _).trans (Kp.alloc _ _)
set_option maxHeartbeats 1000000 in
set_option maxRecDepth 100000 in
theorem awake18 (w : World) (hT : TabNM w) :
    Calls Tryd.prog 14 #[] w fun e w' => e = .returned (.bool true) ∧ Kp w w' := by
  have A1 := Lib.hid (fun w => of_any 1 3 4 9 w (by omega) (by omega) (by omega) (by omega) (by omega) (by omega) (by omega) (by omega))
  have A2 := Lib.hid (fun w => of_any 1 5 4 9 w (by omega) (by omega) (by omega) (by omega) (by omega) (by omega) (by omega) (by omega))
  have A3 := Lib.hid (fun w => inverse_any 4 w)
  have A4 := Lib.hid (fun w (h : TabNM w) => name_any 11 w h)
  have A5 := Lib.hid (fun w => flip_any 1 w)
  have A6 := Lib.hid (fun w => list_any 5 w)
  rw [show relV 1 3 4 9 = 1 by decide, show ivB 1 3 4 9 = true by decide] at A1
  rw [show relV 1 5 4 9 = 2 by decide, show ivB 1 5 4 9 = true by decide] at A2
  rw [show invV 4 = 8 by decide, show invB 4 = true by decide] at A3
  rw [show nm 11 = ⟨#[109, 101, 116, 45, 98, 121]⟩ by rfl] at A4
  rw [show flip 1 = 4096 by decide] at A5
  rw [show (li 5 13).length = 2 by decide] at A6
  have HT := Lib.hid hT
  clear hT
  go_enter Tryd.func14, Tryd.ntmps14
  go_wp2_with fail; refine (A1.out _).mono ?_; rintro e w1 ⟨rfl, k1⟩; have H1 := Lib.hid (HT.out.kp k1); have K1 := Lib.hid k1; clear k1
  go_wp2_with fail; refine (A2.out _).mono ?_; rintro e w2 ⟨rfl, k2⟩; have H2 := Lib.hid (H1.out.kp k2); have K2 := Lib.hid k2; clear k2
  go_wp2_with fail; refine ((A3.out _)).mono ?_; rintro e w' ⟨rfl, rfl⟩
  go_wp2_with fail; refine ((A4.out _ H2.out)).mono ?_; rintro e w' ⟨rfl, rfl⟩
  go_wp2_with fail; refine ((A5.out _)).mono ?_; rintro e w' ⟨rfl, rfl⟩
  go_wp2_with fail; refine (A6.out _).mono ?_; rintro e w3 ⟨v, rfl, hown, k3⟩; have K3 := Lib.hid k3; clear k3
  obtain ⟨_, h2⟩ := hown
  rcases h2 with ⟨_, h2⟩ | ⟨g, cap, cur, rfl, h2⟩
  · cases h2
  · clear h2
    go_wp2
    go_ret
    exact ⟨rfl, (K1.out.trans K2.out).trans K3.out⟩
end Go.Proofs.YteneoimkfddhpaaDoor
