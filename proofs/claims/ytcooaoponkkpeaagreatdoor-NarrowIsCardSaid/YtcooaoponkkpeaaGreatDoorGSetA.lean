import Derived.Test.YtcooaoponkkpeaaGreatDoorGBa
import Derived.Test.YtcooaoponkkpeaaGreatDoorGSoC
set_option maxHeartbeats 2000000
set_option maxRecDepth 100000
namespace Go.Proofs.YtcooaoponkkpeaaGreatDoor
open Go.RowKit
set_option linter.unusedVariables false
set_option linter.unusedSimpArgs false
theorem asS_any (v : Value) (l : List R) (w : World) (hv : RunsAt w v l) (hl : I64R l) (hn : l.length ≤ 1000000) : AsS v (nf l) w := by
 rcases Bool.eq_false_or_eq_true (saneB l) with h | h
 ·have s : sane l := by unfold saneB at h; exact of_decide_eq_true h
  rw [nf_of_sane s]
  exact asS_sane v l w hv hl s
 ·intro w1 kk
  have hv1 := hv.kp kk
  clear hv kk w
  have C := Hd (sane_any v l w1 hv1 hl)
  rw [h] at C
  have D := Hd (fun w => fun (h : RunsAt w v l) => make_any v l w h hl hn)
  have HV := Hd hv1
  clear h hv1
  go_enter Tryz.func185, Tryz.ntmps185
  go_wp2_with fail
  refine (C.out).mono ?_
  rintro e w2 ⟨rfl, k1⟩
  have K1 := Hd k1
  have D1 := Hd (D.out _ (HV.out.kp k1))
  clear k1
  go_wp2_with fail
  refine (D1.out).mono ?_
  rintro e w3 ⟨v3, rfl, own3, k3⟩
  have K3 := Hd k3
  have H3 := Hd (runsAt_own own3)
  clear k3 own3
  go_wp2
  go_ret
  exact ⟨_, rfl, H3.out, K1.out.trans K3.out⟩
theorem sof_any (v : Value) (l : List Int) (w : World) (hv : IntsAt w v l) (hl : I64 l) (hn : l.length ≤ 1000000) :
  Calls Tryz.prog 192 #[v] w fun e w' => ∃ v' : Value, e = .returned v' ∧ w'.ownsRow w.heap.size 42 2 v' (nf (sing l)).length (cellsR (nf (sing l))) ∧ Kp w w' := by
 obtain ⟨i0, hi, hz0, hz1, hz2⟩ := info_parts infoR
 obtain ⟨ad, c, rfl⟩ := hv.slice
 have HV := Hd hv
 have HI := Hd (show I64R (sing l) from fun r hr => by
  unfold sing at hr
  simp only [List.mem_map] at hr
  obtain ⟨n, hn, rfl⟩ := hr
  exact ⟨(hl n hn).1, (hl n hn).2, (hl n hn).1, (hl n hn).2⟩)
 clear hv hl
 have hsl : (l.length : Int) ≤ 1000000 := by omega
 go_enter Tryz.func192, Tryz.ntmps192
 go_wp2_with (at_make; refine wpList_make_own _ rfl _ _ 34 rfl w.heap.size 42 i0 (.agg #[.int .i64 0, .int .i64 0]) 2 Tryz.underlying34 hi hz0 hz1 .i64 .i64 _ l.length rfl rfl rfl (by rw [hz2]; omega) (by unfold maxLen; omega) (Nat.le_refl _) ?_; intro w0 hown0 hgrow0)
 go_loopw [3, 11] (fun v i wr => ∃ k : Nat, k ≤ l.length ∧ i = .int .i64 k ∧ Hid (wr.ownsRow w.heap.size 42 2 v (sing (l.take k)).length (cellsR (sing (l.take k)))) ∧ Hid (Kp w wr)) (fun _ i _ => l.length - (intOf i).toNat)
 case atStart => exact ⟨0, Nat.zero_le _, rfl, Hd hown0, Hd ((Below.refl _ _).grown hgrow0 (Nat.le_refl _) (fun k h => by cases h))⟩
 case round =>
  obtain ⟨k, hk, rfl, O, K1⟩ := hrel
  by_cases hlt : k < l.length
  ·rcases HV.out with ⟨_, _, _, e⟩ | ⟨b, off, cap, ev, hc, hm, hx⟩
   ·rw [e] at hlt; simp at hlt
   cases ev
   have d1 := rd_int hx K1.out k hlt
   clear hx
   have S := Hd (show sing (l.take (k + 1)) = sing (l.take k) ++ [(l.getD k 0, l.getD k 0)] by
    rw [sing_take, sing_take, take_at (sing l) k (by rw [sing_len]; exact hlt), sing_at l k hlt])
   have tl : (sing (l.take k)).length ≤ k := by rw [sing_len]; exact List.length_take_le _ _
   have hsz := K1.out.size
   generalize l.getD k 0 = n1 at d1 S
   have z0 : (0 : Int) ≤ (k : Int) := by omega
   have z1 : (k : Int) < (l.length : Int) := by omega
   go_wp2_with (at_builtin; refine wpList_app rfl (.tmp 15) (.tmp 19) 34 rfl w.heap.size 42 i0 (.agg #[.int .i64 0, .int .i64 0]) 2 16 Tryz.underlying34 hi hz0 hz1 hz2 rfl (by decide) _ _ _ rfl (O.out.alloc _) _ _ _ rfl (one_src _ _ _ _) rfl (by intro u hu; simp at hu; subst hu; rfl) (by unfold maxLen; omega) (by omega) (by simp; omega) ?_; intro v1 w1 hown1 hgrow1 hat1)
   go_roundw
   case rel => exact ⟨k + 1, by omega, by go_num, Hd (by rw [S.out]; exact own_snoc hown1), Hd (Kp.grown (K1.out.trans (Kp.alloc _ _)) hgrow1 (fun j hj => (O.out.lt j hj).1))⟩
   case measure => simp [intOf]; omega
  ·have A : l.take k = l := by rw [show k = l.length by omega, List.take_length]
   rw [A] at O
   clear A
   have q : decide ((k : Int) < l.length) = false := by simp; omega
   have C := Hd (make_any _ (sing l) wr (runsAt_own O.out) HI.out (by rw [sing_len]; omega))
   have hsz := K1.out.size
   go_wp2_with fail
   refine (C.out).mono ?_
   rintro e w1 ⟨v1, rfl, own1, k1⟩
   have KK := Hd (K1.out.trans k1)
   have OO := Hd (own_mono own1 hsz)
   clear k1 own1
   go_wp2
   go_ret
   exact ⟨_, rfl, OO.out, KK.out⟩
def prv : List R → Int → Int × Bool
 | [], _ => (0, false)
 | r :: t, n => if (prv t n).2 = true then prv t n else if r.1 ≤ n then (min n r.2, true) else (0, false)
theorem prv_at : ∀ (l : List R) (n : Int) (i : Nat), i ≤ l.length → (∀ k, i ≤ k → k < l.length → n < (at_ l k).1) → (0 < i → (at_ l (i - 1)).1 ≤ n) → prv l n = if i = 0 then (0, false) else (min n (at_ l (i - 1)).2, true) := by
 intro l
 induction l with
 | nil => intro n i hi _ _; simp at hi; subst hi; rfl
 | cons r t ih =>
  intro n i hi h1 h2
  have e : ∀ k, at_ (r :: t) (k + 1) = at_ t k := fun k => by unfold at_; simp
  have e0 : at_ (r :: t) 0 = r := by unfold at_; simp
  rw [prv]
  cases i with
  | zero =>
   have g := ih n 0 (by omega) (fun k _ hk => by have := h1 (k + 1) (by omega) (by simpa using hk); rwa [e] at this) (fun h => by omega)
   rw [if_pos rfl] at g
   have g0 := h1 0 (by omega) (by simp)
   rw [e0] at g0
   rw [g, if_neg (by simp), if_neg (by omega), if_pos rfl]
  | succ j =>
   have g := ih n j (by simpa using hi) (fun k hk hk2 => by have := h1 (k + 1) (by omega) (by simpa using hk2); rwa [e] at this) (fun h => by
    have := h2 (by omega)
    rw [show j + 1 - 1 = (j - 1) + 1 by omega, e] at this
    exact this)
   have g0 := h2 (by omega)
   simp only [Nat.add_sub_cancel] at g0
   cases j with
   | zero =>
    rw [if_pos rfl] at g
    rw [e0] at g0
    rw [g, if_neg (by simp), if_pos g0, if_neg (by omega)]
    simp only [Nat.zero_add, Nat.sub_self, e0]
   | succ m =>
    rw [if_neg (by omega)] at g
    rw [g, if_pos rfl, if_neg (by omega)]
    simp only [Nat.add_sub_cancel, e]
def fP (l : List R) (n : Int) (k : Nat) : Bool := decide (l.length ≤ k) || decide (n < (at_ l k).1)
theorem sane_lo {l : List R} (h : sane l) : ∀ a b, a ≤ b → b < l.length → (at_ l a).1 ≤ (at_ l b).1 := by
 intro a b hab
 induction b with
 | zero =>
  intro _
  have e : a = 0 := by omega
  rw [e]; exact Int.le_refl _
 | succ b ih =>
  intro hb
  by_cases e : a = b + 1
  ·subst e; exact Int.le_refl _
  ·have g := ih (by omega) (by omega)
   have s := (sane_idx l).1 h (b + 1) hb
   have t := (sane_idx l).1 h b (by omega)
   have := s.2 (by omega)
   obtain ⟨o1, _⟩ := t.1
   simp only [Nat.add_sub_cancel] at this
   omega
theorem fP_mono {l : List R} (h : sane l) (n : Int) : ∀ a b, a ≤ b → fP l n a = true → fP l n b = true := by
 intro a b hab ha
 unfold fP at ha ⊢
 simp only [Bool.or_eq_true, decide_eq_true_eq] at ha ⊢
 by_cases c : l.length ≤ b
 ·exact .inl c
 ·right
  rcases ha with ha | ha
  ·omega
  ·have := sane_lo h a b hab (by omega); omega
theorem pclo_any (l : List R) (n : Int) (B0 B1 : Nat) (v : Value) (h : Nat) (w : World) (hh : h < l.length) (hl : (l.length : Int) ≤ 9223372036854775807) (hv : RunsAt w v l) (c0 : w.cell? ⟨B0, 0, none⟩ = some v) (c1 : w.cell? ⟨B1, 0, none⟩ = some (.int .i64 n)) :
  Calls Tryz.prog 188 #[.int .i64 h, .pointer (some ⟨B0, 0, none⟩), .pointer (some ⟨B1, 0, none⟩)] w fun e w' => e = .returned (.bool (fP l n h)) ∧ Kp w w' := by
 rcases hv with ⟨ad0, cp0, rfl, rfl⟩ | ⟨b, off, cap, rfl, hc, hm, hx⟩
 ·simp at hh
 obtain ⟨d1, d2⟩ := hx h hh
 have E := Hd (show fP l n h = decide (n < (at_ l h).1) by unfold fP; rw [show decide (l.length ≤ h) = false by simp; omega]; simp)
 have z1 : (0 : Int) ≤ (h : Int) := by omega
 have z2 : (h : Int) < l.length := by omega
 obtain ⟨y, ey⟩ : ∃ y, (at_ l h).1 = y := ⟨_, rfl⟩
 rw [ey] at d1 E
 clear hx ey d2 hc hm
 go_enter Tryz.func188, Tryz.ntmps188
 go_wp2_with fail
 go_quiet (fail)
 go_wp2
 go_ret
 exact ⟨ret_bool E.out.symm, Kp.drewN _ _⟩
theorem prev_of (ad : Option Addr) (ln cp : Nat) (l : List R) (n : Int) (w : World) (A : AsS (.slice ad ln cp) l w) (h : sane l) (hl : l.length ≤ 4611686018427387904) (nl : -9223372036854775808 ≤ n) (nh : n ≤ 9223372036854775807) :
  Calls Tryz.prog 132 #[.slice ad ln cp, .int .i64 n] w fun e w' => e = .returned (.tuple #[.int .i64 (prv l n).1, .bool (prv l n).2]) ∧ Kp w w' := by
 have C := Hd (A ((w.alloc (.cells #[.slice ad ln cp] 34)).alloc (.cells #[.int .i64 n] 3)) ((Kp.alloc _ _).trans (Kp.alloc _ _)))
 have MO := Hd (fP_mono h n)
 have PX := Hd (prv_at l n)
 have hmf : ∀ (fn : Fn) (first cap : Array Value) (w : World), (Instr.makeFunc fn first cap).run Tryz.prog w = .ok (.func fn first cap) w := fun _ _ _ _ => rfl
 clear A h
 go_enter Tryz.func132, Tryz.ntmps132
 go_wp2_with fail
 refine (C.out).mono ?_
 rintro e w1 ⟨v', rfl, hv, k1⟩
 have s1 := k1.size
 simp at s1
 have c0 : w1.cell? ⟨w.heap.size, 0, none⟩ = some (.slice ad ln cp) := by rw [k1.cell (by simp; omega)]; simp
 have c1 : w1.cell? ⟨w.heap.size + 1, 0, none⟩ = some (.int .i64 n) := by rw [k1.cell (by simp)]; simp
 have f0 : w1.frozen? ⟨w.heap.size, 0, none⟩ = false := by rw [k1.frozen (by simp; omega)]; simp
 obtain ⟨ad', c', rfl⟩ := hv.slice
 obtain ⟨W2, hW⟩ : ∃ W2, W2 = w1.setCell ⟨w.heap.size, 0, none⟩ (.slice ad' l.length c') := ⟨_, rfl⟩
 have KB : Below w.heap.size w W2 := by
  rw [hW]
  exact Below.setCell (p := ⟨w.heap.size, 0, none⟩) (Below.trans (Below.mono (Kp.alloc w _) (Nat.le_refl _)) (Below.trans (Below.mono (Kp.alloc _ _) (by simp)) (Below.mono k1 (by simp; omega)))) (Nat.le_refl _) _
 have RA : RunsAt W2 (.slice ad' l.length c') l := by rw [hW]; exact hv.set c0
 have e0 : W2.cell? ⟨w.heap.size, 0, none⟩ = some (.slice ad' l.length c') := by rw [hW]; exact World.cell?_setCell_same' _ _ _ (by rw [c0]; rfl)
 have e1 : W2.cell? ⟨w.heap.size + 1, 0, none⟩ = some (.int .i64 n) := by rw [hW, World.cell?_setCell_other _ _ _ _ (by simp)]; exact c1
 have sz : w.heap.size + 1 < W2.heap.size := by rw [hW]; simp [World.setCell]; omega
 have S := Hd (search_any 188 #[.pointer (some ⟨w.heap.size, 0, none⟩), .pointer (some ⟨w.heap.size + 1, 0, none⟩)] (fP l n) l.length W2 hl (enters_of Tryz.func188 (by kernel_rfl) rfl) MO.out
  (fun h w' hh k => pclo_any l n w.heap.size (w.heap.size + 1) (.slice ad' l.length c') h w' hh (by omega) (RA.kp k) ((k.cell (p := ⟨w.heap.size, 0, none⟩) (by show w.heap.size < _; omega)).trans e0) ((k.cell (p := ⟨w.heap.size + 1, 0, none⟩) sz).trans e1)))
 have KS := Hd (fun w' (k : Kp W2 w') => (show w'.cell? ⟨w.heap.size, 0, none⟩ = some (.slice ad' l.length c') ∧ w'.cell? ⟨w.heap.size + 1, 0, none⟩ = some (.int .i64 n) ∧ RunsAt w' (.slice ad' l.length c') l ∧ Below w.heap.size w w' from
  ⟨(k.cell (p := ⟨w.heap.size, 0, none⟩) (by show w.heap.size < _; omega)).trans e0, (k.cell (p := ⟨w.heap.size + 1, 0, none⟩) sz).trans e1, RA.kp k, KB.trans (Below.mono k (by omega))⟩))
 have HW := Hd hW.symm
 clear hW RA KB hv k1
 go_wp2_with fail
 rw [HW.out]
 refine (S.out).mono ?_
 rintro e w3 ⟨i, rfl, ⟨u1, u2, u3⟩, k3⟩
 obtain ⟨y0, y1, y2, y3⟩ := KS.out _ k3
 have NE := Hd (PX.out i u1 (fun k hk hk2 => by
  have := u3 k hk hk2
  unfold fP at this
  simp at this
  omega) (fun hi => by
  have := u2 (i - 1) (by omega)
  unfold fP at this
  simp at this
  exact this.2))
 have Y3 := Hd y3
 have Y2 := Hd y2
 clear u2 u3 k3 y3 y2 e0 e1 c0 c1 f0
 by_cases hi : i = 0
 ·have N2 := Hd (show prv l n = (0, false) by rw [NE.out, if_pos hi])
  have g : ((i : Int) == 0) = true := by simp; omega
  clear NE
  subst hi
  go_wp2
  go_ret2
  refine ⟨?_, Y3.out⟩
  rw [N2.out]
  rfl
 ·have N2 := Hd (show prv l n = (min n (at_ l (i - 1)).2, true) by rw [NE.out, if_neg hi])
  have g : ((i : Int) == 0) = false := by simp; omega
  have g' : ¬ (i : Int) = 0 := by omega
  have hi2 : i - 1 < l.length := by omega
  rcases Y2.out with ⟨_, _, _, e⟩ | ⟨b, off, cap, ev, hc, hm, hx⟩
  ·rw [e] at hi2; simp at hi2
  obtain ⟨d1, d2⟩ := hx (i - 1) hi2
  cases ev
  obtain ⟨hi1, ehi⟩ : ∃ x, (at_ l (i - 1)).2 = x := ⟨_, rfl⟩
  rw [ehi] at d2 N2
  have wi1 : IntKind.i64.wrap ((i : Int) - 1) = ((i - 1 : Nat) : Int) := by rw [IntKind.wrap_i64]; omega
  have z1 : (0 : Int) ≤ ((i - 1 : Nat) : Int) := by omega
  have z2 : ((i - 1 : Nat) : Int) < l.length := by omega
  clear NE hi ehi d1 hx Y2
  go_wp2_with fail
  go_quiet (fail)
  go_wp2
  go_ret2
  refine ⟨?_, Y3.out.trans (Below.mono (Kp.drewN _ _) Y3.out.size)⟩
  rw [N2.out]
  rfl
theorem has_no {l : List R} {n : Int} (hs : sane l) (h : ∀ i, i < l.length → ¬ ((at_ l i).1 ≤ n ∧ n ≤ (at_ l i).2)) : hasB l n = false := by
 rcases Bool.eq_false_or_eq_true (hasB l n) with g | g
 ·obtain ⟨r, hr, h1⟩ := (has_sane hs n).1 g
  obtain ⟨i, hi, e⟩ := List.getElem_of_mem hr
  refine absurd ?_ (h i hi)
  unfold at_; simp [List.getD, hi, e]; exact h1
 ·exact g
theorem has_yes {l : List R} {n : Int} (hs : sane l) {k : Nat} (hk : k < l.length) (h : (at_ l k).1 ≤ n ∧ n ≤ (at_ l k).2) : hasB l n = true := (has_sane hs n).2 ⟨_, at_mem hk, h⟩
theorem rhas_of (v : Value) (l : List R) (n : Int) (w : World) (A : AsR v l w) (h : sane l) (hl : l.length ≤ 1000000) :
  Calls Tryz.prog 93 #[v, .int .i64 n] w fun e w' => e = .returned (.bool (hasB l n)) ∧ Kp w w' := by
 have C := Hd (A w (Kp.refl w))
 have HS := Hd h
 clear A h
 go_enter Tryz.func93, Tryz.ntmps93
 go_wp2_with fail; refine (C.out).mono ?_; rintro e w1 ⟨v1, rfl, hv1, k1⟩; obtain ⟨ad1, c1, rfl⟩ := hv1.slice; have HV := Hd hv1; have K1 := Hd k1; clear hv1 k1
 go_wp2
 go_loopw [6] (fun i wr => ∃ k : Nat, k ≤ l.length ∧ i = .int .i64 k ∧ Hid (∀ i, i < k → ¬ ((at_ l i).1 ≤ n ∧ n ≤ (at_ l i).2)) ∧ Hid (Kp w1 wr)) (fun i _ => l.length - (intOf i).toNat)
 case atStart => exact ⟨0, by omega, rfl, Hd (fun i h => by omega), Hd (Kp.refl _)⟩
 case round =>
  obtain ⟨k, hk, rfl, NO, K2⟩ := hrel
  by_cases hlt : k < l.length
  ·rcases HV.out with ⟨_, _, _, e⟩ | ⟨b, off, cap, ev, hc, hm, hx⟩; { rw [e] at hlt; simp at hlt }; cases ev; obtain ⟨d1, d2⟩ := rd_at hx K2.out k hlt; clear hx
   have Y := Hd (has_yes HS.out hlt (n := n))
   have NX := Hd (fun (hn : ¬ ((at_ l k).1 ≤ n ∧ n ≤ (at_ l k).2)) => (show ∀ i, i < k + 1 → ¬ ((at_ l i).1 ≤ n ∧ n ≤ (at_ l i).2) from fun i hi => by
    by_cases c : i < k
    ·exact NO.out i c
    ·obtain rfl : i = k := by omega
     exact hn))
   obtain ⟨lo1, hi1, ee⟩ : ∃ x y, at_ l k = (x, y) := ⟨_, _, rfl⟩
   rw [ee] at d1 d2 Y NX
   simp only at d1 d2 Y NX
   clear ee
   have z1 : (0 : Int) ≤ (k : Int) := by omega
   have z2 : (k : Int) < l.length := by omega
   by_cases a1 : lo1 ≤ n
   ·have q1 : decide (lo1 ≤ n) = true := decide_eq_true a1
    by_cases a2 : n ≤ hi1
    ·have q2 : decide (n ≤ hi1) = true := decide_eq_true a2
     have YY := Hd (Y.out ⟨a1, a2⟩)
     go_wp2
     go_ret
     exact ⟨ret_bool YY.out.symm, K1.out.trans K2.out⟩
    ·have q2 : decide (n ≤ hi1) = false := decide_eq_false a2
     have N2 := Hd (NX.out (fun g => a2 g.2))
     go_wp2
     go_roundw
     case rel => exact ⟨k + 1, by omega, by go_num, N2, K2⟩
     case measure => simp [intOf]; omega
   ·have q1 : decide (lo1 ≤ n) = false := decide_eq_false a1
    have N2 := Hd (NX.out (fun g => a1 g.1))
    go_wp2
    go_roundw
    case rel => exact ⟨k + 1, by omega, by go_num, N2, K2⟩
    case measure => simp [intOf]; omega
  ·have N2 := Hd (has_no HS.out (n := n) (fun i hi => NO.out i (by omega)))
   have q : decide ((k : Int) < l.length) = false := by simp; omega
   go_wp2
   go_ret
   exact ⟨ret_bool N2.out.symm, K1.out.trans K2.out⟩
theorem rcount_of (v : Value) (l : List R) (w : World) (A : AsR v l w) (h : sane l) (hl : l.length ≤ 1000000) :
  Calls Tryz.prog 50 #[v] w fun e w' => e = .returned (.int .i64 (sumR l)) ∧ Kp w w' := by
 have C := Hd (A w (Kp.refl w))
 have H := Hd ((sane_idx l).1 h)
 have B := sumR_bd l (-1099511627776) h (fun r t e => by subst e; exact (sane_head h).2.1) (by omega)
 have TB := Hd (fun k => sumR_take_bd l k h)
 obtain ⟨_, B2⟩ := B
 clear A h
 go_enter Tryz.func50, Tryz.ntmps50
 go_wp2_with fail; refine (C.out).mono ?_; rintro e w1 ⟨v1, rfl, hv1, k1⟩; obtain ⟨ad1, c1, rfl⟩ := hv1.slice; have HV := Hd hv1; have K1 := Hd k1; clear hv1 k1
 go_wp2
 go_loopw [4, 5] (fun c i wr => ∃ k : Nat, k ≤ l.length ∧ i = .int .i64 k ∧ c = .int .i64 (sumR (l.take k)) ∧ Hid (Kp w1 wr)) (fun _ i _ => l.length - (intOf i).toNat)
 case atStart => exact ⟨0, by omega, rfl, rfl, Hd (Kp.refl _)⟩
 case round =>
  obtain ⟨k, hk, rfl, rfl, K2⟩ := hrel
  by_cases hlt : k < l.length
  ·rcases HV.out with ⟨_, _, _, e⟩ | ⟨b, off, cap, ev, hc, hm, hx⟩; { rw [e] at hlt; simp at hlt }; cases ev; obtain ⟨d1, d2⟩ := rd_at hx K2.out k hlt; clear hx
   obtain ⟨o1, o2, o3⟩ := (H.out k hlt).1
   have S := sumR_take l k hlt
   have t1 := TB.out k
   have t2 := TB.out (k + 1)
   rw [S] at t2
   obtain ⟨lo, hi', ee⟩ : ∃ x y, at_ l k = (x, y) := ⟨_, _, rfl⟩
   rw [ee] at d1 d2 o1 o2 o3 S t2
   simp only at d1 d2 o1 o2 o3 S t2
   have S2 := Hd S
   clear ee S
   generalize sumR (l.take k) = x at *
   obtain ⟨t3, t4⟩ := t1
   obtain ⟨t5, t6⟩ := t2
   have t7 : x + (hi' - lo + 1) ≤ 2199023255553 := by omega
   clear t6 t4
   have z1 : (0 : Int) ≤ (k : Int) := by omega
   have z2 : (k : Int) < l.length := by omega
   have wa : IntKind.i64.wrap (x + hi') = x + hi' := by rw [IntKind.wrap_i64]; omega
   have wb : IntKind.i64.wrap (x + hi' - lo) = x + hi' - lo := by rw [IntKind.wrap_i64]; omega
   have wc : IntKind.i64.wrap (x + hi' - lo + 1) = x + hi' - lo + 1 := by rw [IntKind.wrap_i64]; omega
   go_wp2_with fail
   go_quiet (fail)
   go_wp2
   go_roundw
   case rel => exact ⟨k + 1, by omega, by go_num, by rw [S2.out]; congr 1; omega, Hd (K2.out.trans (Kp.drewN _ _))⟩
   case measure => simp [intOf]; omega
  ·obtain rfl : k = l.length := by omega
   rw [List.take_length]
   have q : decide ((l.length : Int) < l.length) = false := by simp
   go_wp2
   go_ret
   exact ⟨rfl, K1.out.trans K2.out⟩
theorem at_ext {l m : List R} (hn : l.length = m.length) (h : ∀ i, i < l.length → at_ l i = at_ m i) : l = m := by
 apply List.ext_getElem hn
 intro i h1 h2
 have := h i h1
 unfold at_ at this
 simpa [List.getD, h1, h2] using this
theorem same_ne {l m : List R} {k : Nat} (h : at_ l k ≠ at_ m k) : decide (l = m) = false := decide_eq_false fun e => h (by rw [e])
theorem rsame_any (v u : Value) (l m : List R) (w : World) (hv : RunsAt w v l) (hu : RunsAt w u m) (hn : l.length ≤ 4000000) (hn2 : m.length ≤ 4000000) :
  Calls Tryz.prog 22 #[v, u] w fun e w' => e = .returned (.bool (decide (l = m))) ∧ Kp w w' := by
 obtain ⟨ad, c, rfl⟩ := hv.slice
 obtain ⟨ad', c', rfl⟩ := hu.slice
 have HV := Hd hv
 have HU := Hd hu
 clear hv hu
 by_cases hlen : l.length = m.length
 ·have q : ((l.length : Int) != (m.length : Int)) = false := by simp; omega
  have q' : ((l.length : Int) == (m.length : Int)) = true := by simp; omega
  have HLEN := Hd hlen
  rw [← hlen] at q q' ⊢
  clear hlen
  go_enter Tryz.func22, Tryz.ntmps22
  go_wp2
  go_loopw [5] (fun i wr => ∃ k : Nat, k ≤ l.length ∧ i = .int .i64 k ∧ Hid (∀ i, i < k → at_ l i = at_ m i) ∧ Hid (Kp w wr)) (fun i _ => l.length - (intOf i).toNat)
  case atStart => exact ⟨0, by omega, rfl, Hd (fun i h => by omega), Hd (Kp.refl _)⟩
  case round =>
   obtain ⟨k, hk, rfl, EQ, K1⟩ := hrel
   by_cases hlt : k < l.length
   ·rcases HV.out with ⟨_, _, _, e⟩ | ⟨b, off, cap, ev, hc, hm, hx⟩
    ·rw [e] at hlt; simp at hlt
    rcases HU.out with ⟨_, _, _, e⟩ | ⟨b', off', cap', ev', hc', hm', hx'⟩
    ·have := HLEN.out; rw [e] at this; simp at this; rw [this] at hlt; simp at hlt
    cases ev
    have ev2 := Hd ev'
    rw [← HLEN.out] at ev'
    cases ev'
    obtain ⟨d1, d2⟩ := rd_at hx K1.out k hlt
    obtain ⟨d3, d4⟩ := rd_at hx' K1.out k (by rw [← HLEN.out]; exact hlt)
    clear hx hx' ev2
    obtain ⟨x1, x2, e1⟩ : ∃ x y, at_ l k = (x, y) := ⟨_, _, rfl⟩
    obtain ⟨y1, y2, e2⟩ : ∃ x y, at_ m k = (x, y) := ⟨_, _, rfl⟩
    have NE := Hd (same_ne (l := l) (m := m) (k := k))
    rw [e1, e2] at NE
    have EE := Hd (And.intro e1 e2)
    rw [e1] at d1 d2
    rw [e2] at d3 d4
    simp only at d1 d2 d3 d4
    clear e1 e2
    have z1 : (0 : Int) ≤ (k : Int) := by omega
    have z2 : (k : Int) < l.length := by omega
    by_cases a1 : x1 = y1
    ·by_cases a2 : x2 = y2
     ·subst a1 a2
      go_wp2_with fail
      go_quiet (fail)
      go_wp2
      go_roundw
      case rel => exact ⟨k + 1, by omega, by go_num, Hd (fun i hi => by
       by_cases c : i < k
       ·exact EQ.out i c
       ·obtain rfl : i = k := by omega
        rw [EE.out.1, EE.out.2]), Hd (K1.out.trans (Kp.drewN _ _))⟩
      case measure => simp [intOf]; omega
     ·have N := Hd (NE.out (fun h => a2 (Prod.mk.inj h).2))
      subst a1
      have q2 : (x2 == y2) = false := by simpa using a2
      go_wp2_with fail
      go_quiet (fail)
      go_wp2
      go_ret
      exact ⟨ret_bool N.out.symm, K1.out.trans (Kp.drewN _ _)⟩
    ·have N := Hd (NE.out (fun h => a1 (Prod.mk.inj h).1))
     have q1 : (x1 == y1) = false := by simpa using a1
     go_wp2_with fail
     go_quiet (fail)
     go_wp2
     go_ret
     exact ⟨ret_bool N.out.symm, K1.out.trans (Kp.drewN _ _)⟩
   ·have D := Hd (decide_eq_true (at_ext HLEN.out (fun i hi => EQ.out i (by omega))))
    have q3 : decide ((k : Int) < l.length) = false := by simp; omega
    go_wp2
    go_ret
    exact ⟨ret_bool D.out.symm, K1.out⟩
 ·have q : ((l.length : Int) != (m.length : Int)) = true := by simp; omega
  have q' : ((l.length : Int) == (m.length : Int)) = false := by simp; omega
  have q2 : ¬ (l.length : Int) = (m.length : Int) := by omega
  have D := Hd (decide_eq_false (fun e : l = m => hlen (by rw [e])))
  go_enter Tryz.func22, Tryz.ntmps22
  go_wp2
  go_ret
  exact ⟨ret_bool D.out.symm, Kp.refl _⟩
theorem lit_at (w : World) (l : List R) (cs : Array Value) (t : TypeId) (hc : cs.toList = cellsR l) (hn : l.length ≤ maxLen) : RunsAt (w.alloc (.cells cs t)) (.slice (some ⟨w.heap.size, 0, none⟩) l.length l.length) l := by
 refine .inr ⟨w.heap.size, 0, l.length, rfl, Nat.le_refl _, hn, fun i hi => ?_⟩
 have c : ∀ j, j < l.length * 2 → (w.alloc (.cells cs t)).cell? ⟨w.heap.size, j, none⟩ = (cellsR l)[j]? := by
  intro j hj
  rw [← hc]
  have : j < cs.size := by rw [← Array.length_toList, hc, cellsR_length]; exact hj
  unfold World.cell?
  rw [heap_alloc_new]
  simp [this]
 rw [Nat.zero_add, c _ (by omega), c _ (by omega), cells_idx l _ (by omega), cells_idx l _ (by omega)]
 have e1 : i * 2 / 2 = i := by omega
 have e2 : (i * 2 + 1) / 2 = i := by omega
 have e3 : i * 2 % 2 = 0 := by omega
 have e4 : ¬ (i * 2 + 1) % 2 = 0 := by omega
 rw [e1, e2, if_pos e3, if_neg e4]
 exact ⟨rfl, rfl⟩
end Go.Proofs.YtcooaoponkkpeaaGreatDoor
