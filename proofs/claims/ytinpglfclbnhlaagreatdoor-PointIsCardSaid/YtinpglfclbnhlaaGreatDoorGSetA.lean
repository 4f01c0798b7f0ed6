/-
  Joined: 4F, 4D, 4E, L4A.
-/
import Derived.Test.YtinpglfclbnhlaaGreatDoorGBa
import Derived.Test.YtinpglfclbnhlaaGreatDoorGSoC
namespace Go.Proofs.YtinpglfclbnhlaaGreatDoor
open Go.RowKit
set_option linter.unusedVariables false
set_option linter.unusedSimpArgs false
set_option maxHeartbeats 2000000 in
set_option maxRecDepth 100000 in
theorem sof_any (v : Value) (l : List Int) (w : World) (hv : IntsAt w v l) (hl : I64 l) (hn : l.length ≤ 1000000) :
    Calls Tryz.prog 82 #[v] w fun e w' => ∃ v' : Value, e = .returned v' ∧ w'.ownsRow w.heap.size 37 2 v' (nf (sing l)).length (cellsR (nf (sing l))) ∧ Kp w w' := by
  obtain ⟨i0, hi, hz0, hz1, hz2⟩ := info_parts infoR
  obtain ⟨ad, c, rfl⟩ := hv.slice
  have HV := Lib.hid hv
  have HI := Lib.hid (show I64R (sing l) from fun r hr => by
    unfold sing at hr
    simp only [List.mem_map] at hr
    obtain ⟨n, hn, rfl⟩ := hr
    exact ⟨(hl n hn).1, (hl n hn).2, (hl n hn).1, (hl n hn).2⟩)
  clear hv hl
  have hsl : (l.length : Int) ≤ 1000000 := by omega
  go_enter Tryz.func82, Tryz.ntmps82
  go_wp2_with (at_make; refine wpList_make_own _ rfl _ _ 28 rfl w.heap.size 37 i0 (.agg #[.int .i64 0, .int .i64 0]) 2 Tryz.underlying28 hi hz0 hz1 .i64 .i64 _ l.length rfl rfl rfl (by rw [hz2]; omega) (by unfold maxLen; omega) (Nat.le_refl _) ?_; intro w0 hown0 hgrow0)
  go_loopw [3, 11] (fun v i wr => ∃ k : Nat, k ≤ l.length ∧ i = .int .i64 k ∧ Hid (wr.ownsRow w.heap.size 37 2 v (sing (l.take k)).length (cellsR (sing (l.take k)))) ∧ Hid (Kp w wr)) (fun _ i _ => l.length - (intOf i).toNat)
  case atStart => exact ⟨0, Nat.zero_le _, rfl, Lib.hid hown0, Lib.hid ((Below.refl _ _).grown hgrow0 (Nat.le_refl _) (fun k h => by cases h))⟩
  case round =>
    obtain ⟨k, hk, rfl, O, K1⟩ := hrel
    by_cases hlt : k < l.length
    · rcases HV.out with ⟨_, _, _, e⟩ | ⟨b, off, cap, ev, hc, hm, hx⟩
      · rw [e] at hlt; simp at hlt
      cases ev
      have d1 := rd_int hx K1.out k hlt
      clear hx
      have S := Lib.hid (show sing (l.take (k + 1)) = sing (l.take k) ++ [(l.getD k 0, l.getD k 0)] by
        rw [sing_take, sing_take, take_at (sing l) k (by rw [sing_len]; exact hlt), sing_at l k hlt])
      have tl : (sing (l.take k)).length ≤ k := by rw [sing_len]; exact List.length_take_le _ _
      have hsz := K1.out.size
      generalize l.getD k 0 = n1 at d1 S
      have z0 : (0 : Int) ≤ (k : Int) := by omega
      have z1 : (k : Int) < (l.length : Int) := by omega
      go_wp2_with (at_builtin; refine wpList_app rfl (.tmp 15) (.tmp 19) 28 rfl w.heap.size 37 i0 (.agg #[.int .i64 0, .int .i64 0]) 2 16 Tryz.underlying28 hi hz0 hz1 hz2 rfl (by decide) _ _ _ rfl (O.out.alloc _) _ _ _ rfl (one_src _ _ _ _) rfl (by intro u hu; simp at hu; subst hu; rfl) (by unfold maxLen; omega) (by omega) (by simp; omega) ?_; intro v1 w1 hown1 hgrow1 hat1)
      go_roundw
      case rel => exact ⟨k + 1, by omega, by go_num, Lib.hid (by rw [S.out]; exact own_snoc hown1), Lib.hid (Kp.grown (K1.out.trans (Kp.alloc _ _)) hgrow1 (fun j hj => (O.out.lt j hj).1))⟩
      case measure => simp [intOf]; omega
    · have A : l.take k = l := by rw [show k = l.length by omega, List.take_length]
      rw [A] at O
      clear A
      have q : decide ((k : Int) < l.length) = false := by simp; omega
      have C := Lib.hid (make_any _ (sing l) wr (runsAt_own O.out) HI.out (by rw [sing_len]; omega))
      have hsz := K1.out.size
      go_wp2_with fail
      refine (C.out).mono ?_
      rintro e w1 ⟨v1, rfl, own1, k1⟩
      have KK := Lib.hid (K1.out.trans k1)
      have OO := Lib.hid (own_mono own1 hsz)
      clear k1 own1
      go_wp2
      go_ret
      exact ⟨_, rfl, OO.out, KK.out⟩
/-- the greatest number that is not above n -/
def prv : List R → Int → Int × Bool
  | [], _ => (0, false)
  | r :: t, n => if (prv t n).2 = true then prv t n else if r.1 ≤ n then (min n r.2, true) else (0, false)
theorem prv_at : ∀ (l : List R) (n : Int) (i : Nat), i ≤ l.length → (∀ k, i ≤ k → k < l.length → n < (at_ l k).1) → (0 < i → (at_ l (i - 1)).1 ≤ n) → prv l n = if i = 0 then (0, false) else (min n (at_ l (i - 1)).2, true) := by
  intro l
  induction l with
  | nil => intro n i hi _ _; simp at hi; subst hi; rfl
  | cons r t ih =>
    intro n i hi h1 h2
    have e : ∀ k, at_ (r :: t) (k + 1) = at_ t k := fun k => by unfold at_; simp
    have e0 : at_ (r :: t) 0 = r := by unfold at_; simp
    rw [prv]
    cases i with
    | zero =>
      have g := ih n 0 (by omega) (fun k _ hk => by have := h1 (k + 1) (by omega) (by simpa using hk); rwa [e] at this) (fun h => by omega)
      rw [if_pos rfl] at g
      have g0 := h1 0 (by omega) (by simp)
      rw [e0] at g0
      rw [g, if_neg (by simp), if_neg (by omega), if_pos rfl]
    | succ j =>
      have g := ih n j (by simpa using hi) (fun k hk hk2 => by have := h1 (k + 1) (by omega) (by simpa using hk2); rwa [e] at this) (fun h => by
        have := h2 (by omega)
        rw [show j + 1 - 1 = (j - 1) + 1 by omega, e] at this
        exact this)
      have g0 := h2 (by omega)
      simp only [Nat.add_sub_cancel] at g0
      cases j with
      | zero =>
        rw [if_pos rfl] at g
        rw [e0] at g0
        rw [g, if_neg (by simp), if_pos g0, if_neg (by omega)]
        simp only [Nat.zero_add, Nat.sub_self, e0]
      | succ m =>
        rw [if_neg (by omega)] at g
        rw [g, if_pos rfl, if_neg (by omega)]
        simp only [Nat.add_sub_cancel, e]
def fP (l : List R) (n : Int) (k : Nat) : Bool := decide (l.length ≤ k) || decide (n < (at_ l k).1)
theorem sane_lo {l : List R} (h : sane l) : ∀ a b, a ≤ b → b < l.length → (at_ l a).1 ≤ (at_ l b).1 := by
  intro a b hab
  induction b with
  | zero =>
    intro _
    have e : a = 0 := by omega
    rw [e]; exact Int.le_refl _
  | succ b ih =>
    intro hb
    by_cases e : a = b + 1
    · subst e; exact Int.le_refl _
    · have g := ih (by omega) (by omega)
      have s := (sane_idx l).1 h (b + 1) hb
      have t := (sane_idx l).1 h b (by omega)
      have := s.2 (by omega)
      obtain ⟨o1, _⟩ := t.1
      simp only [Nat.add_sub_cancel] at this
      omega
theorem fP_mono {l : List R} (h : sane l) (n : Int) : ∀ a b, a ≤ b → fP l n a = true → fP l n b = true := by
  intro a b hab ha
  unfold fP at ha ⊢
  simp only [Bool.or_eq_true, decide_eq_true_eq] at ha ⊢
  by_cases c : l.length ≤ b
  · exact .inl c
  · right
    rcases ha with ha | ha
    · omega
    · have := sane_lo h a b hab (by omega); omega
end Go.Proofs.YtinpglfclbnhlaaGreatDoor

namespace Go.Proofs.YtinpglfclbnhlaaGreatDoor
open Go.RowKit
set_option linter.unusedVariables false
set_option linter.unusedSimpArgs false
theorem has_no {l : List R} {n : Int} (hs : sane l) (h : ∀ i, i < l.length → ¬ ((at_ l i).1 ≤ n ∧ n ≤ (at_ l i).2)) : hasB l n = false := by
  rcases Bool.eq_false_or_eq_true (hasB l n) with g | g
  · obtain ⟨r, hr, h1⟩ := (has_sane hs n).1 g
    obtain ⟨i, hi, e⟩ := List.getElem_of_mem hr
    refine absurd ?_ (h i hi)
    unfold at_; simp [List.getD, hi, e]; exact h1
  · exact g
theorem has_yes {l : List R} {n : Int} (hs : sane l) {k : Nat} (hk : k < l.length) (h : (at_ l k).1 ≤ n ∧ n ≤ (at_ l k).2) : hasB l n = true := (has_sane hs n).2 ⟨_, at_mem hk, h⟩
end Go.Proofs.YtinpglfclbnhlaaGreatDoor

namespace Go.Proofs.YtinpglfclbnhlaaGreatDoor
open Go.RowKit
set_option linter.unusedVariables false
set_option linter.unusedSimpArgs false
theorem at_ext {l m : List R} (hn : l.length = m.length) (h : ∀ i, i < l.length → at_ l i = at_ m i) : l = m := by
  apply List.ext_getElem hn
  intro i h1 h2
  have := h i h1
  unfold at_ at this
  simpa [List.getD, h1, h2] using this
theorem same_ne {l m : List R} {k : Nat} (h : at_ l k ≠ at_ m k) : decide (l = m) = false := decide_eq_false fun e => h (by rw [e])
set_option maxHeartbeats 2000000 in
theorem rsame_any (v u : Value) (l m : List R) (w : World) (hv : RunsAt w v l) (hu : RunsAt w u m) (hn : l.length ≤ 4000000) (hn2 : m.length ≤ 4000000) :
    Calls Tryz.prog 12 #[v, u] w fun e w' => e = .returned (.bool (decide (l = m))) ∧ Kp w w' := by
  obtain ⟨ad, c, rfl⟩ := hv.slice
  obtain ⟨ad', c', rfl⟩ := hu.slice
  have HV := Lib.hid hv
  have HU := Lib.hid hu
  clear hv hu
  by_cases hlen : l.length = m.length
  · have q : ((l.length : Int) != (m.length : Int)) = false := by simp; omega
    have q' : ((l.length : Int) == (m.length : Int)) = true := by simp; omega
    have HLEN := Lib.hid hlen
    rw [← hlen] at q q' ⊢
    clear hlen
    go_enter Tryz.func12, Tryz.ntmps12
    go_wp2
    go_loopw [5] (fun i wr => ∃ k : Nat, k ≤ l.length ∧ i = .int .i64 k ∧ Hid (∀ i, i < k → at_ l i = at_ m i) ∧ Hid (Kp w wr)) (fun i _ => l.length - (intOf i).toNat)
    case atStart => exact ⟨0, by omega, rfl, Lib.hid (fun i h => by omega), Lib.hid (Kp.refl _)⟩
    case round =>
      obtain ⟨k, hk, rfl, EQ, K1⟩ := hrel
      by_cases hlt : k < l.length
      · rcases HV.out with ⟨_, _, _, e⟩ | ⟨b, off, cap, ev, hc, hm, hx⟩
        · rw [e] at hlt; simp at hlt
        rcases HU.out with ⟨_, _, _, e⟩ | ⟨b', off', cap', ev', hc', hm', hx'⟩
        · have := HLEN.out; rw [e] at this; simp at this; rw [this] at hlt; simp at hlt
        cases ev
        have ev2 := Lib.hid ev'
        rw [← HLEN.out] at ev'
        cases ev'
        obtain ⟨d1, d2⟩ := rd_at hx K1.out k hlt
        obtain ⟨d3, d4⟩ := rd_at hx' K1.out k (by rw [← HLEN.out]; exact hlt)
        clear hx hx' ev2
        obtain ⟨x1, x2, e1⟩ : ∃ x y, at_ l k = (x, y) := ⟨_, _, rfl⟩
        obtain ⟨y1, y2, e2⟩ : ∃ x y, at_ m k = (x, y) := ⟨_, _, rfl⟩
        have NE := Lib.hid (same_ne (l := l) (m := m) (k := k))
        rw [e1, e2] at NE
        have EE := Lib.hid (And.intro e1 e2)
        rw [e1] at d1 d2
        rw [e2] at d3 d4
        simp only at d1 d2 d3 d4
        clear e1 e2
        have z1 : (0 : Int) ≤ (k : Int) := by omega
        have z2 : (k : Int) < l.length := by omega
        by_cases a1 : x1 = y1
        · by_cases a2 : x2 = y2
          · subst a1 a2
            go_wp2_with fail
            go_quiet (fail)
            go_wp2
            go_roundw
            case rel => exact ⟨k + 1, by omega, by go_num, Lib.hid (fun i hi => by
              by_cases c : i < k
              · exact EQ.out i c
              · obtain rfl : i = k := by omega
                rw [EE.out.1, EE.out.2]), Lib.hid (K1.out.trans (Kp.drewN _ _))⟩
            case measure => simp [intOf]; omega
          · have N := Lib.hid (NE.out (fun h => a2 (Prod.mk.inj h).2))
            subst a1
            have q2 : (x2 == y2) = false := by simpa using a2
            go_wp2_with fail
            go_quiet (fail)
            go_wp2
            go_ret
            exact ⟨ret_bool N.out.symm, K1.out.trans (Kp.drewN _ _)⟩
        · have N := Lib.hid (NE.out (fun h => a1 (Prod.mk.inj h).1))
          have q1 : (x1 == y1) = false := by simpa using a1
          go_wp2_with fail
          go_quiet (fail)
          go_wp2
          go_ret
          exact ⟨ret_bool N.out.symm, K1.out.trans (Kp.drewN _ _)⟩
      · have D := Lib.hid (decide_eq_true (at_ext HLEN.out (fun i hi => EQ.out i (by omega))))
        have q3 : decide ((k : Int) < l.length) = false := by simp; omega
        go_wp2
        go_ret
        exact ⟨ret_bool D.out.symm, K1.out⟩
  · have q : ((l.length : Int) != (m.length : Int)) = true := by simp; omega
    have q' : ((l.length : Int) == (m.length : Int)) = false := by simp; omega
    have q2 : ¬ (l.length : Int) = (m.length : Int) := by omega
    have D := Lib.hid (decide_eq_false (fun e : l = m => hlen (by rw [e])))
    go_enter Tryz.func12, Tryz.ntmps12
    go_wp2
    go_ret
    exact ⟨ret_bool D.out.symm, Kp.refl _⟩
end Go.Proofs.YtinpglfclbnhlaaGreatDoor

namespace Go.Proofs.YtinpglfclbnhlaaGreatDoor
open Go.RowKit
set_option linter.unusedVariables false
set_option linter.unusedSimpArgs false
theorem lit_at (w : World) (l : List R) (cs : Array Value) (t : TypeId) (hc : cs.toList = cellsR l) (hn : l.length ≤ maxLen) : RunsAt (w.alloc (.cells cs t)) (.slice (some ⟨w.heap.size, 0, none⟩) l.length l.length) l := by
  refine .inr ⟨w.heap.size, 0, l.length, rfl, Nat.le_refl _, hn, fun i hi => ?_⟩
  have c : ∀ j, j < l.length * 2 → (w.alloc (.cells cs t)).cell? ⟨w.heap.size, j, none⟩ = (cellsR l)[j]? := by
    intro j hj
    rw [← hc]
    have : j < cs.size := by rw [← Array.length_toList, hc, cellsR_length]; exact hj
    unfold World.cell?
    rw [heap_alloc_new]
    simp [this]
  rw [Nat.zero_add, c _ (by omega), c _ (by omega), cells_idx l _ (by omega), cells_idx l _ (by omega)]
  have e1 : i * 2 / 2 = i := by omega
  have e2 : (i * 2 + 1) / 2 = i := by omega
  have e3 : i * 2 % 2 = 0 := by omega
  have e4 : ¬ (i * 2 + 1) % 2 = 0 := by omega
  rw [e1, e2, if_pos e3, if_neg e4]
  exact ⟨rfl, rfl⟩
theorem ilit_at (w : World) (l : List Int) (cs : Array Value) (t : TypeId) (hc : cs.toList = l.map (Value.int .i64)) (hn : l.length ≤ maxLen) : IntsAt (w.alloc (.cells cs t)) (.slice (some ⟨w.heap.size, 0, none⟩) l.length l.length) l := by
  refine .inr ⟨w.heap.size, 0, l.length, rfl, Nat.le_refl _, hn, fun i hi => ?_⟩
  have : i < cs.size := by rw [← Array.length_toList, hc]; simpa using hi
  rw [Nat.zero_add]
  have e : cs[i]? = (l.map (Value.int .i64))[i]? := by rw [← hc]; simp
  unfold World.cell?
  rw [heap_alloc_new]
  simp [e, hi, List.getD]
theorem sane_list {l : List R} (h : saneB l = true) : sane l := by unfold saneB at h; exact of_decide_eq_true h
end Go.Proofs.YtinpglfclbnhlaaGreatDoor
