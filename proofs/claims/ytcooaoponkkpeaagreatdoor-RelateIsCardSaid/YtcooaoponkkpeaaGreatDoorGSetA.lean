import Derived.Test.YtcooaoponkkpeaaGreatDoorGBa
import Derived.Test.YtcooaoponkkpeaaGreatDoorGSoC
set_option maxHeartbeats 2000000
set_option maxRecDepth 100000
namespace Go.Proofs.YtcooaoponkkpeaaGreatDoor
open Go.RowKit
set_option linter.unusedVariables false
set_option linter.unusedSimpArgs false
theorem sof_any (v : Value) (l : List Int) (w : World) (hv : IntsAt w v l) (hl : I64 l) (hn : l.length ≤ 1000000) :
  Calls Tryz.prog 192 #[v] w fun e w' => ∃ v' : Value, e = .returned v' ∧ w'.ownsRow w.heap.size 42 2 v' (nf (sing l)).length (cellsR (nf (sing l))) ∧ Kp w w' := by
 obtain ⟨i0, hi, hz0, hz1, hz2⟩ := info_parts infoR
 obtain ⟨ad, c, rfl⟩ := hv.slice
 have HV := Hd hv
 have HI := Hd (show I64R (sing l) from fun r hr => by
  unfold sing at hr
  simp only [List.mem_map] at hr
  obtain ⟨n, hn, rfl⟩ := hr
  exact ⟨(hl n hn).1, (hl n hn).2, (hl n hn).1, (hl n hn).2⟩)
 clear hv hl
 have hsl : (l.length : Int) ≤ 1000000 := by omega
 go_enter Tryz.func192, Tryz.ntmps192
 go_wp2_with (at_make; refine wpList_make_own _ rfl _ _ 34 rfl w.heap.size 42 i0 (.agg #[.int .i64 0, .int .i64 0]) 2 Tryz.underlying34 hi hz0 hz1 .i64 .i64 _ l.length rfl rfl rfl (by rw [hz2]; omega) (by unfold maxLen; omega) (Nat.le_refl _) ?_; intro w0 hown0 hgrow0)
 go_loopw [3, 11] (fun v i wr => ∃ k : Nat, k ≤ l.length ∧ i = .int .i64 k ∧ Hid (wr.ownsRow w.heap.size 42 2 v (sing (l.take k)).length (cellsR (sing (l.take k)))) ∧ Hid (Kp w wr)) (fun _ i _ => l.length - (intOf i).toNat)
 case atStart => exact ⟨0, Nat.zero_le _, rfl, Hd hown0, Hd ((Below.refl _ _).grown hgrow0 (Nat.le_refl _) (fun k h => by cases h))⟩
 case round =>
  obtain ⟨k, hk, rfl, O, K1⟩ := hrel
  by_cases hlt : k < l.length
  ·rcases HV.out with ⟨_, _, _, e⟩ | ⟨b, off, cap, ev, hc, hm, hx⟩
   ·rw [e] at hlt; simp at hlt
   cases ev
   have d1 := rd_int hx K1.out k hlt
   clear hx
   have S := Hd (show sing (l.take (k + 1)) = sing (l.take k) ++ [(l.getD k 0, l.getD k 0)] by
    rw [sing_take, sing_take, take_at (sing l) k (by rw [sing_len]; exact hlt), sing_at l k hlt])
   have tl : (sing (l.take k)).length ≤ k := by rw [sing_len]; exact List.length_take_le _ _
   have hsz := K1.out.size
   generalize l.getD k 0 = n1 at d1 S
   have z0 : (0 : Int) ≤ (k : Int) := by omega
   have z1 : (k : Int) < (l.length : Int) := by omega
   go_wp2_with (at_builtin; refine wpList_app rfl (.tmp 15) (.tmp 19) 34 rfl w.heap.size 42 i0 (.agg #[.int .i64 0, .int .i64 0]) 2 16 Tryz.underlying34 hi hz0 hz1 hz2 rfl (by decide) _ _ _ rfl (O.out.alloc _) _ _ _ rfl (one_src _ _ _ _) rfl (by intro u hu; simp at hu; subst hu; rfl) (by unfold maxLen; omega) (by omega) (by simp; omega) ?_; intro v1 w1 hown1 hgrow1 hat1)
   go_roundw
   case rel => exact ⟨k + 1, by omega, by go_num, Hd (by rw [S.out]; exact own_snoc hown1), Hd (Kp.grown (K1.out.trans (Kp.alloc _ _)) hgrow1 (fun j hj => (O.out.lt j hj).1))⟩
   case measure => simp [intOf]; omega
  ·have A : l.take k = l := by rw [show k = l.length by omega, List.take_length]
   rw [A] at O
   clear A
   have q : decide ((k : Int) < l.length) = false := by simp; omega
   have C := Hd (make_any _ (sing l) wr (runsAt_own O.out) HI.out (by rw [sing_len]; omega))
   have hsz := K1.out.size
   go_wp2_with fail
   refine (C.out).mono ?_
   rintro e w1 ⟨v1, rfl, own1, k1⟩
   have KK := Hd (K1.out.trans k1)
   have OO := Hd (own_mono own1 hsz)
   clear k1 own1
   go_wp2
   go_ret
   exact ⟨_, rfl, OO.out, KK.out⟩
def prv : List R → Int → Int × Bool
 | [], _ => (0, false)
 | r :: t, n => if (prv t n).2 = true then prv t n else if r.1 ≤ n then (min n r.2, true) else (0, false)
theorem prv_at : ∀ (l : List R) (n : Int) (i : Nat), i ≤ l.length → (∀ k, i ≤ k → k < l.length → n < (at_ l k).1) → (0 < i → (at_ l (i - 1)).1 ≤ n) → prv l n = if i = 0 then (0, false) else (min n (at_ l (i - 1)).2, true) := by
 intro l
 induction l with
 | nil => intro n i hi _ _; simp at hi; subst hi; rfl
 | cons r t ih =>
  intro n i hi h1 h2
  have e : ∀ k, at_ (r :: t) (k + 1) = at_ t k := fun k => by unfold at_; simp
  have e0 : at_ (r :: t) 0 = r := by unfold at_; simp
  rw [prv]
  cases i with
  | zero =>
   have g := ih n 0 (by omega) (fun k _ hk => by have := h1 (k + 1) (by omega) (by simpa using hk); rwa [e] at this) (fun h => by omega)
   rw [if_pos rfl] at g
   have g0 := h1 0 (by omega) (by simp)
   rw [e0] at g0
   rw [g, if_neg (by simp), if_neg (by omega), if_pos rfl]
  | succ j =>
   have g := ih n j (by simpa using hi) (fun k hk hk2 => by have := h1 (k + 1) (by omega) (by simpa using hk2); rwa [e] at this) (fun h => by
    have := h2 (by omega)
    rw [show j + 1 - 1 = (j - 1) + 1 by omega, e] at this
    exact this)
   have g0 := h2 (by omega)
   simp only [Nat.add_sub_cancel] at g0
   cases j with
   | zero =>
    rw [if_pos rfl] at g
    rw [e0] at g0
    rw [g, if_neg (by simp), if_pos g0, if_neg (by omega)]
    simp only [Nat.zero_add, Nat.sub_self, e0]
   | succ m =>
    rw [if_neg (by omega)] at g
    rw [g, if_pos rfl, if_neg (by omega)]
    simp only [Nat.add_sub_cancel, e]
def fP (l : List R) (n : Int) (k : Nat) : Bool := decide (l.length ≤ k) || decide (n < (at_ l k).1)
theorem sane_lo {l : List R} (h : sane l) : ∀ a b, a ≤ b → b < l.length → (at_ l a).1 ≤ (at_ l b).1 := by
 intro a b hab
 induction b with
 | zero =>
  intro _
  have e : a = 0 := by omega
  rw [e]; exact Int.le_refl _
 | succ b ih =>
  intro hb
  by_cases e : a = b + 1
  ·subst e; exact Int.le_refl _
  ·have g := ih (by omega) (by omega)
   have s := (sane_idx l).1 h (b + 1) hb
   have t := (sane_idx l).1 h b (by omega)
   have := s.2 (by omega)
   obtain ⟨o1, _⟩ := t.1
   simp only [Nat.add_sub_cancel] at this
   omega
theorem fP_mono {l : List R} (h : sane l) (n : Int) : ∀ a b, a ≤ b → fP l n a = true → fP l n b = true := by
 intro a b hab ha
 unfold fP at ha ⊢
 simp only [Bool.or_eq_true, decide_eq_true_eq] at ha ⊢
 by_cases c : l.length ≤ b
 ·exact .inl c
 ·right
  rcases ha with ha | ha
  ·omega
  ·have := sane_lo h a b hab (by omega); omega
theorem rcount_of (v : Value) (l : List R) (w : World) (A : AsR v l w) (h : sane l) (hl : l.length ≤ 1000000) :
  Calls Tryz.prog 50 #[v] w fun e w' => e = .returned (.int .i64 (sumR l)) ∧ Kp w w' := by
 have C := Hd (A w (Kp.refl w))
 have H := Hd ((sane_idx l).1 h)
 have B := sumR_bd l (-1099511627776) h (fun r t e => by subst e; exact (sane_head h).2.1) (by omega)
 have TB := Hd (fun k => sumR_take_bd l k h)
 obtain ⟨_, B2⟩ := B
 clear A h
 go_enter Tryz.func50, Tryz.ntmps50
 go_wp2_with fail; refine (C.out).mono ?_; rintro e w1 ⟨v1, rfl, hv1, k1⟩; obtain ⟨ad1, c1, rfl⟩ := hv1.slice; have HV := Hd hv1; have K1 := Hd k1; clear hv1 k1
 go_wp2
 go_loopw [4, 5] (fun c i wr => ∃ k : Nat, k ≤ l.length ∧ i = .int .i64 k ∧ c = .int .i64 (sumR (l.take k)) ∧ Hid (Kp w1 wr)) (fun _ i _ => l.length - (intOf i).toNat)
 case atStart => exact ⟨0, by omega, rfl, rfl, Hd (Kp.refl _)⟩
 case round =>
  obtain ⟨k, hk, rfl, rfl, K2⟩ := hrel
  by_cases hlt : k < l.length
  ·rcases HV.out with ⟨_, _, _, e⟩ | ⟨b, off, cap, ev, hc, hm, hx⟩; { rw [e] at hlt; simp at hlt }; cases ev; obtain ⟨d1, d2⟩ := rd_at hx K2.out k hlt; clear hx
   obtain ⟨o1, o2, o3⟩ := (H.out k hlt).1
   have S := sumR_take l k hlt
   have t1 := TB.out k
   have t2 := TB.out (k + 1)
   rw [S] at t2
   obtain ⟨lo, hi', ee⟩ : ∃ x y, at_ l k = (x, y) := ⟨_, _, rfl⟩
   rw [ee] at d1 d2 o1 o2 o3 S t2
   simp only at d1 d2 o1 o2 o3 S t2
   have S2 := Hd S
   clear ee S
   generalize sumR (l.take k) = x at *
   obtain ⟨t3, t4⟩ := t1
   obtain ⟨t5, t6⟩ := t2
   have t7 : x + (hi' - lo + 1) ≤ 2199023255553 := by omega
   clear t6 t4
   have z1 : (0 : Int) ≤ (k : Int) := by omega
   have z2 : (k : Int) < l.length := by omega
   have wa : IntKind.i64.wrap (x + hi') = x + hi' := by rw [IntKind.wrap_i64]; omega
   have wb : IntKind.i64.wrap (x + hi' - lo) = x + hi' - lo := by rw [IntKind.wrap_i64]; omega
   have wc : IntKind.i64.wrap (x + hi' - lo + 1) = x + hi' - lo + 1 := by rw [IntKind.wrap_i64]; omega
   go_wp2_with fail
   go_quiet (fail)
   go_wp2
   go_roundw
   case rel => exact ⟨k + 1, by omega, by go_num, by rw [S2.out]; congr 1; omega, Hd (K2.out.trans (Kp.drewN _ _))⟩
   case measure => simp [intOf]; omega
  ·obtain rfl : k = l.length := by omega
   rw [List.take_length]
   have q : decide ((l.length : Int) < l.length) = false := by simp
   go_wp2
   go_ret
   exact ⟨rfl, K1.out.trans K2.out⟩
theorem rnext_of (v : Value) (l : List R) (n : Int) (w : World) (A : AsR v l w) (hl : l.length ≤ 1000000) :
  Calls Tryz.prog 125 #[v, .int .i64 n] w fun e w' => e = .returned (.tuple #[.int .i64 (nxt l n).1, .bool (nxt l n).2]) ∧ Kp w w' := by
 have C := Hd (A w (Kp.refl w))
 have NX := Hd (nxt_at l n)
 clear A
 go_enter Tryz.func125, Tryz.ntmps125
 go_wp2_with fail; refine (C.out).mono ?_; rintro e w1 ⟨v1, rfl, hv1, k1⟩; obtain ⟨ad1, c1, rfl⟩ := hv1.slice; have HV := Hd hv1; have K1 := Hd k1; clear hv1 k1
 go_wp2
 go_loopw [7] (fun i wr => ∃ k : Nat, k ≤ l.length ∧ i = .int .i64 k ∧ Hid (∀ i, i < k → (at_ l i).2 < n) ∧ Hid (Kp w1 wr)) (fun i _ => l.length - (intOf i).toNat)
 case atStart => exact ⟨0, by omega, rfl, Hd (fun i h => by omega), Hd (Kp.refl _)⟩
 case round =>
  obtain ⟨k, hk, rfl, NO, K2⟩ := hrel
  by_cases hlt : k < l.length
  ·rcases HV.out with ⟨_, _, _, e⟩ | ⟨b, off, cap, ev, hc, hm, hx⟩; { rw [e] at hlt; simp at hlt }; cases ev; obtain ⟨d1, d2⟩ := rd_at hx K2.out k hlt; clear hx
   have Y := Hd (fun (g : n ≤ (at_ l k).2) => NX.out k hk NO.out (fun _ => g))
   have N2 := Hd (fun (hn : (at_ l k).2 < n) => (show ∀ i, i < k + 1 → (at_ l i).2 < n from fun i hi => by
    by_cases c : i < k
    ·exact NO.out i c
    ·obtain rfl : i = k := by omega
     exact hn))
   obtain ⟨lo1, hi1, ee⟩ : ∃ x y, at_ l k = (x, y) := ⟨_, _, rfl⟩
   rw [ee] at d1 d2 Y N2
   simp only at d1 d2 Y N2
   clear ee
   have z1 : (0 : Int) ≤ (k : Int) := by omega
   have z2 : (k : Int) < l.length := by omega
   by_cases a1 : n ≤ hi1
   ·have q1 : decide (n ≤ hi1) = true := decide_eq_true a1
    have Y2 := Hd (Y.out a1)
    rw [if_neg (by omega)] at Y2
    clear Y N2 NX
    go_wp2
    go_ret2
    refine ⟨?_, K1.out.trans K2.out⟩
    rw [Y2.out]
    rfl
   ·have q1 : decide (n ≤ hi1) = false := decide_eq_false a1
    have N3 := Hd (N2.out (by omega))
    clear Y N2
    go_wp2
    go_roundw
    case rel => exact ⟨k + 1, by omega, by go_num, N3, K2⟩
    case measure => simp [intOf]; omega
  ·obtain rfl : k = l.length := by omega
   have Y2 := Hd (NX.out l.length (Nat.le_refl _) NO.out (fun h => by omega))
   rw [if_pos rfl] at Y2
   have q : decide ((l.length : Int) < l.length) = false := by simp
   go_wp2
   go_ret2
   refine ⟨?_, K1.out.trans K2.out⟩
   rw [Y2.out]
   rfl
theorem rprev_of (v : Value) (l : List R) (n : Int) (w : World) (A : AsR v l w) (hl : l.length ≤ 1000000) :
  Calls Tryz.prog 184 #[v, .int .i64 n] w fun e w' => e = .returned (.tuple #[.int .i64 (prv l n).1, .bool (prv l n).2]) ∧ Kp w w' := by
 have C := Hd (A w (Kp.refl w))
 have PX := Hd (prv_at l n)
 clear A
 go_enter Tryz.func184, Tryz.ntmps184
 go_wp2_with fail; refine (C.out).mono ?_; rintro e w1 ⟨v1, rfl, hv1, k1⟩; obtain ⟨ad1, c1, rfl⟩ := hv1.slice; have HV := Hd hv1; have K1 := Hd k1; clear hv1 k1
 have wl : IntKind.i64.wrap ((l.length : Int) - 1) = (l.length : Int) - 1 := by rw [IntKind.wrap_i64]; omega
 go_wp2
 go_loopw [7] (fun i wr => ∃ k : Nat, k ≤ l.length ∧ i = .int .i64 ((k : Int) - 1) ∧ Hid (∀ i, k ≤ i → i < l.length → n < (at_ l i).1) ∧ Hid (Kp w1 wr)) (fun i _ => (intOf i + 1).toNat)
 case atStart => exact ⟨l.length, by omega, rfl, Hd (fun i h g => by omega), Hd (Kp.refl _)⟩
 case round =>
  obtain ⟨k, hk, rfl, NO, K2⟩ := hrel
  cases k with
  | succ k =>
   have hlt : k < l.length := by omega
   rcases HV.out with ⟨_, _, _, e⟩ | ⟨b, off, cap, ev, hc, hm, hx⟩; { rw [e] at hlt; simp at hlt }; cases ev; obtain ⟨d1, d2⟩ := rd_at hx K2.out k hlt; clear hx
   have Y := Hd (fun (g : (at_ l k).1 ≤ n) => PX.out (k + 1) hk NO.out (fun _ => by rw [Nat.add_sub_cancel]; exact g))
   rw [if_neg (by omega), Nat.add_sub_cancel] at Y
   have N2 := Hd (fun (hn : n < (at_ l k).1) => (show ∀ i, k ≤ i → i < l.length → n < (at_ l i).1 from fun i hi hi2 => by
    by_cases c : k + 1 ≤ i
    ·exact NO.out i c hi2
    ·obtain rfl : i = k := by omega
     exact hn))
   obtain ⟨lo1, hi1, ee⟩ : ∃ x y, at_ l k = (x, y) := ⟨_, _, rfl⟩
   rw [ee] at d1 d2 Y N2
   simp only at d1 d2 Y N2
   clear ee
   have z1 : (0 : Int) ≤ (k : Int) := by omega
   have z2 : (k : Int) < l.length := by omega
   have wk : IntKind.i64.wrap ((k : Int) - 1) = (k : Int) - 1 := by rw [IntKind.wrap_i64]; omega
   have ek : (((k + 1 : Nat) : Int) - 1) = (k : Int) := by omega
   rw [ek]
   by_cases a1 : lo1 ≤ n
   ·have q1 : decide (lo1 ≤ n) = true := decide_eq_true a1
    have Y2 := Hd (Y.out a1)
    clear Y N2 PX
    go_wp2
    go_ret2
    refine ⟨?_, K1.out.trans K2.out⟩
    rw [Y2.out]
    rfl
   ·have q1 : decide (lo1 ≤ n) = false := decide_eq_false a1
    have N3 := Hd (N2.out (by omega))
    clear Y N2
    go_wp2
    go_roundw
    case rel => exact ⟨k, by omega, rfl, N3, K2⟩
    case measure => simp [intOf]
  | zero =>
   have Y2 := Hd (PX.out 0 (Nat.zero_le _) NO.out (fun h => by omega))
   rw [if_pos rfl] at Y2
   go_wp2
   go_ret2
   refine ⟨?_, K1.out.trans K2.out⟩
   rw [Y2.out]
   rfl
theorem lit_at (w : World) (l : List R) (cs : Array Value) (t : TypeId) (hc : cs.toList = cellsR l) (hn : l.length ≤ maxLen) : RunsAt (w.alloc (.cells cs t)) (.slice (some ⟨w.heap.size, 0, none⟩) l.length l.length) l := by
 refine .inr ⟨w.heap.size, 0, l.length, rfl, Nat.le_refl _, hn, fun i hi => ?_⟩
 have c : ∀ j, j < l.length * 2 → (w.alloc (.cells cs t)).cell? ⟨w.heap.size, j, none⟩ = (cellsR l)[j]? := by
  intro j hj
  rw [← hc]
  have : j < cs.size := by rw [← Array.length_toList, hc, cellsR_length]; exact hj
  unfold World.cell?
  rw [heap_alloc_new]
  simp [this]
 rw [Nat.zero_add, c _ (by omega), c _ (by omega), cells_idx l _ (by omega), cells_idx l _ (by omega)]
 have e1 : i * 2 / 2 = i := by omega
 have e2 : (i * 2 + 1) / 2 = i := by omega
 have e3 : i * 2 % 2 = 0 := by omega
 have e4 : ¬ (i * 2 + 1) % 2 = 0 := by omega
 rw [e1, e2, if_pos e3, if_neg e4]
 exact ⟨rfl, rfl⟩
end Go.Proofs.YtcooaoponkkpeaaGreatDoor
