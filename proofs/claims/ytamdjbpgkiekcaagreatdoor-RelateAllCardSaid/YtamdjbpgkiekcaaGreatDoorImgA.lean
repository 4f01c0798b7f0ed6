import Derived.Test.YtamdjbpgkiekcaaGreatDoorImgP
import Derived.Test.YtamdjbpgkiekcaaGreatDoorGUnit
namespace Go.Proofs.YtamdjbpgkiekcaaGreatDoor
open Go.RowKit
set_option linter.unusedVariables false
set_option linter.unusedSimpArgs false
set_option maxHeartbeats 1000000 in
theorem existing_any (k : Int) (v : Value) (l : List R) (w : World) (hv : RunsAt w v l) (hl : I64R l) (hn : l.length ≤ 1000000) (T : Tabs w) :
  Calls Tryz.prog 145 #[.int .i64 k, v] w fun e w' => ∃ v' : Value, e = .returned v' ∧ w'.ownsRow w.heap.size 53 2 v' (unitsR k l).length (cellsR (unitsR k l)) ∧ Kp w w' := by
 have c := cnt_bd k
 have C := Lib.hid (count_any k w T.2)
 have D := Lib.hid (clip_any v l 0 (cnt k - 1) w hv hl hn (i64_one (by omega) (by omega) (by omega) (by omega)))
 have E : unitsR k l = interR l [(0, cnt k - 1)] := rfl
 rw [E]
 generalize interR l [(0, cnt k - 1)] = RES at *
 generalize cnt k = m at *
 clear hv hl E T
 go_enter Tryz.func145, Tryz.ntmps145
 go_wp2_with fail
 refine (C.out).mono ?_
 rintro e w' ⟨rfl, rfl⟩
 go_wp2_with fail
 refine (D.out).mono ?_
 rintro e w1 ⟨v1, rfl, own1, kk⟩
 have O := Lib.hid own1
 have K := Lib.hid kk
 clear own1 kk C D
 go_wp2
 go_ret
 exact ⟨_, rfl, O.out, K.out⟩
end Go.Proofs.YtamdjbpgkiekcaaGreatDoor
