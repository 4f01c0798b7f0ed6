import Derived.Test.YtajllgjfndfdjaaGreatDoorGBa
import Derived.Test.YtajllgjfndfdjaaGreatDoorGSoC
namespace Go.Proofs.YtajllgjfndfdjaaGreatDoor
open Go.RowKit
set_option linter.unusedVariables false
set_option linter.unusedSimpArgs false
theorem asS_any (v : Value) (l : List R) (w : World) (hv : RunsAt w v l) (hl : I64R l) (hn : l.length ≤ 1000000) : AsS v (nf l) w := by
 rcases Bool.eq_false_or_eq_true (saneB l) with h | h
 ·have s : sane l := by unfold saneB at h; exact of_decide_eq_true h
  rw [nf_of_sane s]
  exact asS_sane v l w hv hl s
 ·intro w1 kk
  have hv1 := hv.kp kk
  clear hv kk w
  have C := Lib.hid (sane_any v l w1 hv1 hl)
  rw [h] at C
  have D := Lib.hid (fun w => fun (h : RunsAt w v l) => make_any v l w h hl hn)
  have HV := Lib.hid hv1
  clear h hv1
  go_enter Tryz.func83, Tryz.ntmps83
  go_wp2_with fail
  refine (C.out).mono ?_
  rintro e w2 ⟨rfl, k1⟩
  have K1 := Lib.hid k1
  have D1 := Lib.hid (D.out _ (HV.out.kp k1))
  clear k1
  go_wp2_with fail
  refine (D1.out).mono ?_
  rintro e w3 ⟨v3, rfl, own3, k3⟩
  have K3 := Lib.hid k3
  have H3 := Lib.hid (runsAt_own own3)
  clear k3 own3
  go_wp2
  go_ret
  exact ⟨_, rfl, H3.out, K1.out.trans K3.out⟩
set_option maxHeartbeats 2000000 in
set_option maxRecDepth 100000 in
theorem sof_any (v : Value) (l : List Int) (w : World) (hv : IntsAt w v l) (hl : I64 l) (hn : l.length ≤ 1000000) :
  Calls Tryz.prog 91 #[v] w fun e w' => ∃ v' : Value, e = .returned v' ∧ w'.ownsRow w.heap.size 45 2 v' (nf (sing l)).length (cellsR (nf (sing l))) ∧ Kp w w' := by
 obtain ⟨i0, hi, hz0, hz1, hz2⟩ := info_parts infoR
 obtain ⟨ad, c, rfl⟩ := hv.slice
 have HV := Lib.hid hv
 have HI := Lib.hid (show I64R (sing l) from fun r hr => by
  unfold sing at hr
  simp only [List.mem_map] at hr
  obtain ⟨n, hn, rfl⟩ := hr
  exact ⟨(hl n hn).1, (hl n hn).2, (hl n hn).1, (hl n hn).2⟩)
 clear hv hl
 have hsl : (l.length : Int) ≤ 1000000 := by omega
 go_enter Tryz.func91, Tryz.ntmps91
 go_wp2_with (at_make; refine wpList_make_own _ rfl _ _ 41 rfl w.heap.size 45 i0 (.agg #[.int .i64 0, .int .i64 0]) 2 Tryz.underlying41 hi hz0 hz1 .i64 .i64 _ l.length rfl rfl rfl (by rw [hz2]; omega) (by unfold maxLen; omega) (Nat.le_refl _) ?_; intro w0 hown0 hgrow0)
 go_loopw [3, 11] (fun v i wr => ∃ k : Nat, k ≤ l.length ∧ i = .int .i64 k ∧ Hid (wr.ownsRow w.heap.size 45 2 v (sing (l.take k)).length (cellsR (sing (l.take k)))) ∧ Hid (Kp w wr)) (fun _ i _ => l.length - (intOf i).toNat)
 case atStart => exact ⟨0, Nat.zero_le _, rfl, Lib.hid hown0, Lib.hid ((Below.refl _ _).grown hgrow0 (Nat.le_refl _) (fun k h => by cases h))⟩
 case round =>
  obtain ⟨k, hk, rfl, O, K1⟩ := hrel
  by_cases hlt : k < l.length
  ·rcases HV.out with ⟨_, _, _, e⟩ | ⟨b, off, cap, ev, hc, hm, hx⟩
   ·rw [e] at hlt; simp at hlt
   cases ev
   have d1 := rd_int hx K1.out k hlt
   clear hx
   have S := Lib.hid (show sing (l.take (k + 1)) = sing (l.take k) ++ [(l.getD k 0, l.getD k 0)] by
    rw [sing_take, sing_take, take_at (sing l) k (by rw [sing_len]; exact hlt), sing_at l k hlt])
   have tl : (sing (l.take k)).length ≤ k := by rw [sing_len]; exact List.length_take_le _ _
   have hsz := K1.out.size
   generalize l.getD k 0 = n1 at d1 S
   have z0 : (0 : Int) ≤ (k : Int) := by omega
   have z1 : (k : Int) < (l.length : Int) := by omega
   go_wp2_with (at_builtin; refine wpList_app rfl (.tmp 15) (.tmp 19) 41 rfl w.heap.size 45 i0 (.agg #[.int .i64 0, .int .i64 0]) 2 16 Tryz.underlying41 hi hz0 hz1 hz2 rfl (by decide) _ _ _ rfl (O.out.alloc _) _ _ _ rfl (one_src _ _ _ _) rfl (by intro u hu; simp at hu; subst hu; rfl) (by unfold maxLen; omega) (by omega) (by simp; omega) ?_; intro v1 w1 hown1 hgrow1 hat1)
   go_roundw
   case rel => exact ⟨k + 1, by omega, by go_num, Lib.hid (by rw [S.out]; exact own_snoc hown1), Lib.hid (Kp.grown (K1.out.trans (Kp.alloc _ _)) hgrow1 (fun j hj => (O.out.lt j hj).1))⟩
   case measure => simp [intOf]; omega
  ·have A : l.take k = l := by rw [show k = l.length by omega, List.take_length]
   rw [A] at O
   clear A
   have q : decide ((k : Int) < l.length) = false := by simp; omega
   have C := Lib.hid (make_any _ (sing l) wr (runsAt_own O.out) HI.out (by rw [sing_len]; omega))
   have hsz := K1.out.size
   go_wp2_with fail
   refine (C.out).mono ?_
   rintro e w1 ⟨v1, rfl, own1, k1⟩
   have KK := Lib.hid (K1.out.trans k1)
   have OO := Lib.hid (own_mono own1 hsz)
   clear k1 own1
   go_wp2
   go_ret
   exact ⟨_, rfl, OO.out, KK.out⟩
theorem lit_at (w : World) (l : List R) (cs : Array Value) (t : TypeId) (hc : cs.toList = cellsR l) (hn : l.length ≤ maxLen) : RunsAt (w.alloc (.cells cs t)) (.slice (some ⟨w.heap.size, 0, none⟩) l.length l.length) l := by
 refine .inr ⟨w.heap.size, 0, l.length, rfl, Nat.le_refl _, hn, fun i hi => ?_⟩
 have c : ∀ j, j < l.length * 2 → (w.alloc (.cells cs t)).cell? ⟨w.heap.size, j, none⟩ = (cellsR l)[j]? := by
  intro j hj
  rw [← hc]
  have : j < cs.size := by rw [← Array.length_toList, hc, cellsR_length]; exact hj
  unfold World.cell?
  rw [heap_alloc_new]
  simp [this]
 rw [Nat.zero_add, c _ (by omega), c _ (by omega), cells_idx l _ (by omega), cells_idx l _ (by omega)]
 have e1 : i * 2 / 2 = i := by omega
 have e2 : (i * 2 + 1) / 2 = i := by omega
 have e3 : i * 2 % 2 = 0 := by omega
 have e4 : ¬ (i * 2 + 1) % 2 = 0 := by omega
 rw [e1, e2, if_pos e3, if_neg e4]
 exact ⟨rfl, rfl⟩
end Go.Proofs.YtajllgjfndfdjaaGreatDoor
