/-
  Contracts of the document's answer for layer 5: Union, rest, Minus, Clip, Wide.
-/
import Derived.Test.YtehpngppdcnohaaDoor5R
import Derived.Test.YtehpngppdcnohaaDoor5S
import Derived.Test.YtehpngppdcnohaaDoor5T
namespace Go.Proofs.YtehpngppdcnohaaDoor
open Go.RowKit
set_option linter.unusedVariables false
set_option linter.unusedSimpArgs false
set_option maxHeartbeats 1000000 in
theorem rclip_any (v : Value) (l : List R) (lo hi' : Int) (w : World) (hv : RunsAt w v l) (hl : I64R l) (hn : l.length ≤ 2000) (hi64 : I64R [(lo, hi')]) :
    Calls Tryd.prog 104 #[v, .int .i64 lo, .int .i64 hi'] w fun e w' => ∃ v' : Value, e = .returned v' ∧ RunsAt w' v' (interR l [(lo, hi')]) ∧ Kp w w' := by
  have C := Lib.hid (fun t => rmeet_any v (.slice (some ⟨w.heap.size, 0, none⟩) 1 1) l [(lo, hi')] (w.alloc (.cells #[.int .i64 lo, .int .i64 hi'] t)) (hv.kp (Kp.alloc _ _)) (lit_at w [(lo, hi')] _ _ rfl (by simp [maxLen])) hl hi64 hn (by simp))
  clear hv hl
  generalize interR l [(lo, hi')] = RES at *
  go_enter Tryd.func104, Tryd.ntmps104
  go_wp2_with fail
  refine (C.out _).mono ?_
  rintro e w1 ⟨v1, rfl, R1, kk⟩
  have RR := Lib.hid R1
  have K := Lib.hid kk
  clear R1 kk C
  go_wp2
  go_ret
  exact ⟨_, rfl, RR.out, (Kp.alloc _ _).trans K.out⟩
end Go.Proofs.YtehpngppdcnohaaDoor
