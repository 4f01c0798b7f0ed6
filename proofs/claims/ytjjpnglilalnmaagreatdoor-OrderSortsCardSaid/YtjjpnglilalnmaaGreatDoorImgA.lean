/-
  Contracts of package image: existing, Cover, touching, Touch, Inside.
-/
import Derived.Test.YtjjpnglilalnmaaGreatDoorImgP
import Derived.Test.YtjjpnglilalnmaaGreatDoorGUnit
namespace Go.Proofs.YtjjpnglilalnmaaGreatDoor
open Go.RowKit
set_option linter.unusedVariables false
set_option linter.unusedSimpArgs false
noncomputable def thV (k lo hi' : Int) : Value := if thB k lo hi' = true then .tuple #[.int .i64 (ofV k (max lo 0)), .int .i64 (ofV k (min hi' 3652424)), .bool true] else .tuple #[.int .i64 0, .int .i64 0, .bool false]
theorem one_row (w : World) (lo hi' : Int) : (w.alloc (.cells #[.int .i64 lo, .int .i64 hi'] 70)).ownsRow w.heap.size 70 2 (.slice (some ⟨w.heap.size, 0, none⟩) 1 1) 1 [.int .i64 lo, .int .i64 hi'] :=
  ⟨rfl, .inr ⟨w.heap.size, 1, _, rfl, Nat.le_refl _, heap_alloc_new w _, Nat.le_refl _, by unfold maxLen; omega, rfl, rfl⟩⟩
end Go.Proofs.YtjjpnglilalnmaaGreatDoor
