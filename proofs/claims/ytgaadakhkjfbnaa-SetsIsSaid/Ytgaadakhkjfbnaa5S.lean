/-
  Contracts of the document's answer for layer 5: Grow.
-/
import Derived.Test.Ytgaadakhkjfbnaa5P
namespace Go.Proofs.Ytgaadakhkjfbnaa
open Go.RowKit
set_option linter.unusedVariables false
set_option linter.unusedSimpArgs false
set_option maxHeartbeats 4000000 in
set_option maxRecDepth 100000 in
theorem rgrow_any (v : Value) (l : List R) (k : Int) (w : World) (hv : RunsAt w v l) (hl : I64R l) (hn : l.length ≤ 1000000) :
    Calls Try.prog 47 #[v, .int .i64 k] w fun e w' => ∃ v' : Value, e = .returned v' ∧ RunsAt w' v' (nf (shR (-(grK k)) (grK k) (nf l))) ∧ Kp w w' := by
  obtain ⟨i0, hi, hz0, hz1, hz2⟩ := info_parts infoR
  have mx := mixedS
  have g : 0 ≤ grK k ∧ grK k ≤ 2199023255552 := by unfold grK; omega
  obtain ⟨x, hx⟩ : ∃ x, min (max k 0) 2199023255552 = x := ⟨_, rfl⟩
  have E : grK k = x := hx
  rw [E] at g ⊢
  clear E
  have C := Lib.hid (asR_any v l w hv hl hn w (Kp.refl w))
  have nl := nf_len l
  have OK := Lib.hid (sane_ok (nf_sane l))
  have SI := Lib.hid (shR_i64 OK.out (a := -x) (b := x) (by omega) (by omega) (by omega) (by omega))
  have hL : (nf l).length ≤ 1000000 := by omega
  clear hv hl nl hn
  generalize nf l = L at *
  go_enter Try.func47, Try.ntmps47
  go_wp2_with fail
  refine (C.out).mono ?_
  rintro e w1 ⟨v1, rfl, R0, kk⟩
  have K1 := Lib.hid kk
  have R1 := Lib.hid R0
  obtain ⟨ad1, c1, rfl⟩ := R1.out.slice
  clear R0 kk C
  go_wp2
  go_loopw [7, 8] (fun u7 u8 wr => ∃ j : Nat, j ≤ L.length ∧ u8 = .int .i64 j ∧ Hid (wr.ownsRow w1.heap.size 35 2 u7 (shR (-x) x (L.take j)).length (cellsR (shR (-x) x (L.take j)))) ∧ Hid (Kp w1 wr)) (fun _ u8 _ => L.length - (intOf u8).toNat)
  case atStart => exact ⟨0, Nat.zero_le _, rfl, Lib.hid (World.ownsRow_nil _ _ _ _), Lib.hid (Kp.refl _)⟩
  case round =>
    obtain ⟨j, hj, rfl, O, K2⟩ := hrel
    by_cases hlt : j < L.length
    · rcases R1.out with ⟨_, _, _, e⟩ | ⟨b0, off, cap, ev, hc, hm, hx⟩
      · rw [e] at hlt; simp at hlt
      cases ev
      obtain ⟨d1, d2⟩ := rd_at hx K2.out j hlt
      have RD := Lib.hid (fun w' (kk : Kp w1 w') => rd_at hx kk j hlt)
      clear hx hc hm
      obtain ⟨o1, o2, o3⟩ := OK.out _ (at_mem hlt)
      have S := Lib.hid (show shR (-x) x (L.take (j + 1)) = shR (-x) x (L.take j) ++ [((at_ L j).1 - x, (at_ L j).2 + x)] from shR_take (-x) x L j hlt)
      have tl : (shR (-x) x (L.take j)).length ≤ j := by rw [shR_len]; exact List.length_take_le _ _
      obtain ⟨lo, hi', ee⟩ : ∃ x y, at_ L j = (x, y) := ⟨_, _, rfl⟩
      rw [ee] at d1 d2 o1 o2 o3 S RD
      simp only at d1 d2 o1 o2 o3 S RD
      clear ee
      have hsz := K2.out.size
      have wa : IntKind.i64.wrap (lo - x) = lo - x := by rw [IntKind.wrap_i64]; omega
      have wb : IntKind.i64.wrap (hi' + x) = hi' + x := by rw [IntKind.wrap_i64]; omega
      have z0 : (0 : Int) ≤ (j : Int) := by omega
      have z1 : (j : Int) < (L.length : Int) := by omega
      have KS := Lib.hid (fun w' (kk : Kp wr w') => RD.out _ (K2.out.trans kk))
      have KG := Lib.hid (fun ws w' (kk : Kp wr ws) (g : ws.grownBy w' u7.ownBlock) => (show (w'.cell? ⟨b0, off + j * 2, none⟩ = some (.int .i64 lo) ∧ w'.cell? ⟨b0, off + j * 2 + 1, none⟩ = some (.int .i64 hi')) ∧ Kp w1 w' from
        have k5 : Kp w1 w' := Kp.grown (K2.out.trans kk) g (fun j hj => (O.out.lt j hj).1)
        ⟨RD.out _ k5, k5⟩))
      generalize shR (-x) x (L.take j) = M at *
      go_wp2_with fail
      go_region_held3 (fun w' => w'.cell? ⟨b0, off + j * 2, none⟩ = some (.int .i64 lo) ∧ w'.cell? ⟨b0, off + j * 2 + 1, none⟩ = some (.int .i64 hi'))
        (first | assumption | exact KS.out _ (by first | exact Kp.drew _ | exact Kp.drewN _ _ | exact (Kp.drew _).trans (Kp.alloc _ _) | exact (Kp.drewN _ _).trans (Kp.alloc _ _)))
        (first | (refine step_append_lies _ rfl (.tmp 20) (.tmp 36) 22 rfl w1.heap.size 35 i0 (.agg #[.int .i64 0, .int .i64 0]) 2 16 Try.underlying22 hi hz0 hz1 hz2 rfl (by decide) u7 M.length (cellsR M) (by simp [Act.eval, Act.put]) (World.ownsRow.alloc O.out _) ⟨wr.heap.size, 0, none⟩ 1 1 [.int .i64 (lo - x), .int .i64 (hi' + x)] (by simp [Act.eval, Act.put]) rfl (cell_one_at _ _ _ _) (by intro u hu; simp at hu; rcases hu with rfl | rfl <;> rfl) (by decide) (by unfold maxLen; omega) (by omega) (by simp; omega) _ rfl ?_; intro g4 cap4 w4 hown4 hgrow4 hat4 hlt4; have kg4 := KG.out _ _ ((Kp.drew _).trans (Kp.alloc _ _)) hgrow4; have kg5 := kg4.1; have kg6 := kg4.2))
      all_goals go_wp2
      all_goals refine ⟨⟨j + 1, by omega, by go_num, Lib.hid (by rw [S.out]; exact own_snoc hown4), Lib.hid kg6⟩, by simp only [intOf]; omega⟩
    · have A : L.take j = L := by rw [show j = L.length by omega, List.take_length]
      rw [A] at O
      clear A
      have q : decide ((j : Int) < L.length) = false := by simp; omega
      have C := Lib.hid (rmake_any _ (shR (-x) x L) wr (runsAt_own O.out) SI.out (by rw [shR_len]; exact hL))
      go_wp2_with fail
      refine (C.out).mono ?_
      rintro e w5 ⟨v5, rfl, own5, kk⟩
      have KK := Lib.hid (K1.out.trans (K2.out.trans kk))
      have OO := Lib.hid own5
      clear kk own5
      go_wp2
      go_ret
      exact ⟨_, rfl, OO.out, KK.out⟩
end Go.Proofs.Ytgaadakhkjfbnaa
