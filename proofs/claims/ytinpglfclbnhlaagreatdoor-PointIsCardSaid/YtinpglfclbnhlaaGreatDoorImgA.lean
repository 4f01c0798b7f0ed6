/-
  Contracts of package image: existing, Cover, touching, Touch, Inside.
-/
import Derived.Test.YtinpglfclbnhlaaGreatDoorImgP
import Derived.Test.YtinpglfclbnhlaaGreatDoorGUnit
namespace Go.Proofs.YtinpglfclbnhlaaGreatDoor
open Go.RowKit
set_option linter.unusedVariables false
set_option linter.unusedSimpArgs false
set_option maxHeartbeats 1000000 in
theorem existing_any (k : Int) (v : Value) (l : List R) (w : World) (hv : RunsAt w v l) (hl : I64R l) (hn : l.length ≤ 1000000) (T : Tabs w) :
    Calls Tryz.prog 73 #[.int .i64 k, v] w fun e w' => ∃ v' : Value, e = .returned v' ∧ w'.ownsRow w.heap.size 37 2 v' (unitsR k l).length (cellsR (unitsR k l)) ∧ Kp w w' := by
  have c := cnt_bd k
  have C := Lib.hid (count_any k w T.2)
  have D := Lib.hid (clip_any v l 0 (cnt k - 1) w hv hl hn (i64_one (by omega) (by omega) (by omega) (by omega)))
  have E : unitsR k l = interR l [(0, cnt k - 1)] := rfl
  rw [E]
  generalize interR l [(0, cnt k - 1)] = RES at *
  generalize cnt k = m at *
  clear hv hl E T
  go_enter Tryz.func73, Tryz.ntmps73
  go_wp2_with fail
  refine (C.out).mono ?_
  rintro e w' ⟨rfl, rfl⟩
  go_wp2_with fail
  refine (D.out).mono ?_
  rintro e w1 ⟨v1, rfl, own1, kk⟩
  have O := Lib.hid own1
  have K := Lib.hid kk
  clear own1 kk C D
  go_wp2
  go_ret
  exact ⟨_, rfl, O.out, K.out⟩
set_option maxHeartbeats 4000000 in
set_option maxRecDepth 100000 in
theorem cover_any (k : Int) (v : Value) (l : List R) (w : World) (hv : RunsAt w v l) (hl : I64R l) (hn : l.length ≤ 1000000) (T : Tabs w) :
    Calls Tryz.prog 57 #[.int .i64 k, v] w fun e w' => ∃ v' : Value, e = .returned v' ∧ w'.ownsRow w.heap.size 37 2 v' (coverR k l).length (cellsR (coverR k l)) ∧ Kp w w' := by
  obtain ⟨i0, hi, hz0, hz1, hz2⟩ := info_parts infoR
  have C := Lib.hid (existing_any k v l w hv hl hn T)
  have SI := Lib.hid (cover_i64 k l)
  have hL : (unitsR k l).length ≤ 1000000 := unitsR_len hn
  have E : coverR k l = nf ((unitsR k l).map (cvF k)) := rfl
  rw [E]
  have HT := Lib.hid T
  clear hv hl E hn T
  generalize unitsR k l = L at *
  go_enter Tryz.func57, Tryz.ntmps57
  go_wp2_with fail
  refine (C.out).mono ?_
  rintro e w1 ⟨v1, rfl, own1, kk⟩
  have K1 := Lib.hid kk
  have R1 := Lib.hid (runsAt_own own1)
  obtain ⟨ad1, c1, rfl⟩ := R1.out.slice
  clear own1 kk C
  go_wp2
  go_loopw [5, 16] (fun u5 u16 wr => ∃ j : Nat, j ≤ L.length ∧ u16 = .int .i64 j ∧ Hid (wr.ownsRow w1.heap.size 37 2 u5 ((L.take j).map (cvF k)).length (cellsR ((L.take j).map (cvF k)))) ∧ Hid (Kp w1 wr)) (fun _ u16 _ => L.length - (intOf u16).toNat)
  case atStart => exact ⟨0, Nat.zero_le _, rfl, Lib.hid (World.ownsRow_nil _ _ _ _), Lib.hid (Kp.refl _)⟩
  case round =>
    obtain ⟨j, hj, rfl, O, K2⟩ := hrel
    by_cases hlt : j < L.length
    · rcases R1.out with ⟨_, _, _, e⟩ | ⟨b0, off, cap, ev, hc, hm, hx⟩
      · rw [e] at hlt; simp at hlt
      cases ev
      obtain ⟨d1, d2⟩ := rd_at hx K2.out j hlt
      clear hx hc hm
      have S := Lib.hid (show (L.take (j + 1)).map (cvF k) = (L.take j).map (cvF k) ++ [(firV k (at_ L j).1, lasV k (at_ L j).2)] by rw [take_at L j hlt, List.map_append]; rfl)
      have tl : ((L.take j).map (cvF k)).length ≤ j := by rw [List.length_map]; exact List.length_take_le _ _
      obtain ⟨lo, hi', ee⟩ : ∃ x y, at_ L j = (x, y) := ⟨_, _, rfl⟩
      rw [ee] at d1 d2 S
      simp only at d1 d2 S
      clear ee
      generalize (L.take j).map (cvF k) = M at *
      have hsz := K2.out.size
      have z0 : (0 : Int) ≤ (j : Int) := by omega
      have z1 : (j : Int) < (L.length : Int) := by omega
      have F := Lib.hid (fun wx (kx : Kp w wx) => first_any k lo wx (HT.out.kp kx).1 (HT.out.kp kx).2)
      have G := Lib.hid (fun wx (kx : Kp w wx) => last_any k hi' wx (HT.out.kp kx).1 (HT.out.kp kx).2)
      have K3 := Lib.hid (fun o => K2.out.trans (Kp.alloc wr o))
      go_wp2_with fail
      refine (F.out _ (K1.out.trans (K3.out _))).mono ?_
      rintro e w4 ⟨rfl, kk⟩
      have f1 : w4.cell? ⟨wr.heap.size, 1, none⟩ = some (.int .i64 hi') := (Below.cell (p := ⟨wr.heap.size, 1, none⟩) kk (by simp)).trans (by simp)
      have K4 := Lib.hid ((K3.out _).trans kk)
      have O4 := Lib.hid (own_kp (O.out.alloc _) kk)
      clear kk d1 d2 F
      go_wp2_with fail
      refine (G.out _ (K1.out.trans K4.out)).mono ?_
      rintro e w5 ⟨rfl, kk⟩
      have K5 := Lib.hid (K4.out.trans kk)
      have O5 := Lib.hid (own_kp O4.out kk)
      have hs5 := K5.out.size
      clear kk f1 G O4 K4
      generalize firV k lo = x at *
      generalize lasV k hi' = y at *
      go_wp2_with (at_builtin; refine wpList_app rfl (.tmp 34) (.tmp 38) 28 rfl w1.heap.size 37 i0 (.agg #[.int .i64 0, .int .i64 0]) 2 16 Tryz.underlying28 hi hz0 hz1 hz2 rfl (by decide) _ _ _ rfl (O5.out.alloc _) _ _ _ rfl (one_src _ _ _ _) rfl (by intro u hu; simp at hu; rcases hu with rfl | rfl <;> rfl) (by unfold maxLen; omega) (by omega) (by simp; omega) ?_; intro v4 w6 hown4 hgrow4 hat4)
      go_roundw
      case rel => exact ⟨j + 1, by omega, by go_num, Lib.hid (by rw [S.out]; exact own_snoc hown4), Lib.hid (Kp.grown (K5.out.trans (Kp.alloc _ _)) hgrow4 (fun j hj => (O.out.lt j hj).1))⟩
      case measure => simp [intOf]; omega
    · have A : L.take j = L := by rw [show j = L.length by omega, List.take_length]
      rw [A] at O
      clear A
      have q : decide ((j : Int) < L.length) = false := by simp; omega
      have C := Lib.hid (make_any _ _ wr (runsAt_own O.out) SI.out (by rw [List.length_map]; exact hL))
      have hsz := Nat.le_trans K1.out.size K2.out.size
      go_wp2_with fail
      refine (C.out).mono ?_
      rintro e w5 ⟨v5, rfl, own5, kk⟩
      have KK := Lib.hid (K1.out.trans (K2.out.trans kk))
      have OO := Lib.hid (own_mono own5 hsz)
      clear kk own5
      go_wp2
      go_ret
      exact ⟨_, rfl, OO.out, KK.out⟩
noncomputable def thV (k lo hi' : Int) : Value := if thB k lo hi' = true then .tuple #[.int .i64 (ofV k (max lo 0)), .int .i64 (ofV k (min hi' 3652424)), .bool true] else .tuple #[.int .i64 0, .int .i64 0, .bool false]
theorem one_row (w : World) (lo hi' : Int) : (w.alloc (.cells #[.int .i64 lo, .int .i64 hi'] 37)).ownsRow w.heap.size 37 2 (.slice (some ⟨w.heap.size, 0, none⟩) 1 1) 1 [.int .i64 lo, .int .i64 hi'] :=
  ⟨rfl, .inr ⟨w.heap.size, 1, _, rfl, Nat.le_refl _, heap_alloc_new w _, Nat.le_refl _, by unfold maxLen; omega, rfl, rfl⟩⟩
end Go.Proofs.YtinpglfclbnhlaaGreatDoor
