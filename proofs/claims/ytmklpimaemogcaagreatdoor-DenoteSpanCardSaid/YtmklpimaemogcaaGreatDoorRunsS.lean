/-
  Contracts of package runs, of what is a set: asSet, Count, Next, Has.
-/
import Derived.Test.YtmklpimaemogcaaGreatDoorRunsC
import Derived.LoopTactic
import Derived.Shelf.Abstract
import Derived.Deep.QuietTactic
import Derived.BigQuiet
namespace Go.Proofs.YtmklpimaemogcaaGreatDoor
open Go.RowKit
set_option linter.unusedVariables false
theorem asSet_sane (v : Value) (l : List R) (w : World) (hv : RunsAt w v l) (hl : I64R l) (h : sane l) :
    Calls Tryz.prog 91 #[v] w fun e w' => ∃ v' : Value, e = .returned v' ∧ RunsAt w' v' l ∧ Kp w w' := by
  have C := Lib.hid (sane_any v l w hv hl)
  rw [saneB_yes h] at C
  have HV := Lib.hid (fun w' (k : Kp w w') => hv.kp k)
  clear hv
  go_enter Tryz.func91, Tryz.ntmps91
  go_wp2_with fail
  refine (C.out).mono ?_
  rintro e w1 ⟨rfl, k1⟩
  have K1 := Lib.hid k1
  clear k1
  go_wp2
  go_ret
  exact ⟨v, rfl, HV.out _ K1.out, K1.out⟩
/-- what a call of asSet gives -/
def AsS (v : Value) (l' : List R) (w : World) : Prop := ∀ w1, Kp w w1 → Calls Tryz.prog 91 #[v] w1 fun e w' => ∃ v' : Value, e = .returned v' ∧ RunsAt w' v' l' ∧ Kp w1 w'
theorem asS_sane (v : Value) (l : List R) (w : World) (hv : RunsAt w v l) (hl : I64R l) (h : sane l) : AsS v l w := fun w1 k => asSet_sane v l w1 (hv.kp k) hl h
def sumR : List R → Int
  | [] => 0
  | r :: t => r.2 - r.1 + 1 + sumR t
theorem sumR_append (a b : List R) : sumR (a ++ b) = sumR a + sumR b := by
  induction a with
  | nil => simp [sumR]
  | cons r t ih => rw [List.cons_append, sumR, sumR, ih]; omega
theorem sumR_take (l : List R) (k : Nat) (h : k < l.length) : sumR (l.take (k + 1)) = sumR (l.take k) + ((at_ l k).2 - (at_ l k).1 + 1) := by
  rw [take_at l k h, sumR_append, sumR, sumR]; omega
theorem sumR_bd : ∀ (l : List R) (lo : Int), sane l → (∀ r t, l = r :: t → lo ≤ r.1) → lo ≤ 1099511627777 → 0 ≤ sumR l ∧ sumR l ≤ 1099511627777 - lo := by
  intro l
  induction l with
  | nil => intro lo _ _ h; simp [sumR]; omega
  | cons r t ih =>
    intro lo hs hl hlo
    have g := sane_head hs
    have t' := sane_tail hs
    have l0 := hl r t rfl
    obtain ⟨g1, g2, g3⟩ := g
    have i := ih (r.2 + 1) t' (fun s u e => by
      subst e
      have := hs.2.1
      omega) (by omega)
    rw [sumR]
    omega
theorem sumR_take_bd (l : List R) (k : Nat) (h : sane l) : 0 ≤ sumR (l.take k) ∧ sumR (l.take k) ≤ sumR l := by
  have e := sumR_append (l.take k) (l.drop k)
  rw [List.take_append_drop] at e
  have pos : ∀ m : List R, (∀ r ∈ m, okR r) → 0 ≤ sumR m := by
    intro m
    induction m with
    | nil => intro _; simp [sumR]
    | cons r t ih =>
      intro hm
      have := hm r (by simp)
      have i := ih (fun x hx => hm x (by simp [hx]))
      obtain ⟨g1, _⟩ := this
      rw [sumR]; omega
  have al : ∀ r ∈ l, okR r := by
    intro r hr
    obtain ⟨i, hi, e⟩ := List.getElem_of_mem hr
    have := ((sane_idx l).1 h i hi).1
    unfold at_ at this
    simp [List.getD, hi, e] at this
    exact this
  have p1 := pos (l.take k) (fun r hr => al r (List.mem_of_mem_take hr))
  have p2 := pos (l.drop k) (fun r hr => al r (List.mem_of_mem_drop hr))
  omega
/-- the first place from which on all hold -/
def Cut (F : Nat → Bool) (N i : Nat) : Prop := i ≤ N ∧ (∀ k, k < i → F k = false) ∧ ∀ k, i ≤ k → k < N → F k = true
set_option maxHeartbeats 1000000 in
theorem search_any (g : FuncId) (cb : Array Value) (F : Nat → Bool) (N : Nat) (w : World) (hN : N ≤ 4611686018427387904) (eg : ∀ args w, (callFunc g args).run Tryz.prog w = .ok (.enter g args) w)
    (mono : ∀ a b, a ≤ b → F a = true → F b = true)
    (hs : ∀ (h : Nat) w', h < N → Kp w w' → Calls Tryz.prog g (#[.int .i64 h] ++ cb) w' fun e w'' => e = .returned (.bool (F h)) ∧ Kp w' w'') :
    Calls Tryz.prog 92 #[.int .i64 N, .func (.func g) #[] cb] w fun e w' => ∃ i : Nat, e = .returned (.int .i64 i) ∧ Cut F N i ∧ Kp w w' := by
  have HS := Lib.hid hs
  have MO := Lib.hid mono
  clear hs mono
  go_enter Tryz.func92, Tryz.ntmps92
  go_wp2
  go_loopw [5, 6] (fun i j wr => ∃ a b : Nat, a ≤ b ∧ b ≤ N ∧ i = .int .i64 a ∧ j = .int .i64 b ∧ Hid ((∀ k, k < a → F k = false) ∧ ∀ k, b ≤ k → k < N → F k = true) ∧ Kp w wr) (fun i j _ => (intOf j - intOf i).toNat)
  case atStart => exact ⟨0, N, by omega, by omega, rfl, rfl, ⟨fun k h => by omega, fun k h h2 => by omega⟩, Kp.refl _⟩
  case round =>
    obtain ⟨a, b, hab, hb, rfl, rfl, I, k1⟩ := hrel
    have K1 := Lib.hid k1
    clear k1
    by_cases hlt : a < b
    · have C := Lib.hid (HS.out ((a + b) / 2) _ (by omega) K1.out)
      have em : ((((a + b) / 2 : Nat)) : Int) = ((a : Int) + b) / 2 := by omega
      have m1 : a ≤ (a + b) / 2 := by omega
      have m2 : (a + b) / 2 < b := by omega
      rcases Bool.eq_false_or_eq_true (F ((a + b) / 2)) with f | f
      · have I2 : Hid ((∀ k, k < a → F k = false) ∧ ∀ k, (a + b) / 2 ≤ k → k < N → F k = true) := ⟨I.out.1, fun k h h2 => MO.out _ _ h f⟩
        rw [f] at C
        obtain ⟨m, hm⟩ : ∃ m, m = (a + b) / 2 := ⟨_, rfl⟩
        rw [← hm] at C em m1 m2 I2
        clear hm f
        rw [em] at C
        have EM := Lib.hid em.symm
        clear em
        go_wp2_with (go_at_fn g; refine (C.out).mono ?_; rintro e w' ⟨rfl, k2⟩)
        have hm3 : m ≤ N := by omega
        have dec : ((a : Int) + b) / 2 - a < (b : Int) - a := by omega
        refine ⟨⟨a, m, m1, hm3, rfl, congrArg (Value.int .i64) EM.out, I2, K1.out.trans k2⟩, by simp [intOf]; omega⟩
      · have I2 : Hid ((∀ k, k < (a + b) / 2 + 1 → F k = false) ∧ ∀ k, b ≤ k → k < N → F k = true) := ⟨fun k h => by
          rcases Bool.eq_false_or_eq_true (F k) with g | g
          · have := MO.out k ((a + b) / 2) (by omega) g
            rw [f] at this; cases this
          · exact g, I.out.2⟩
        rw [f] at C
        obtain ⟨m, hm⟩ : ∃ m, m = (a + b) / 2 := ⟨_, rfl⟩
        rw [← hm] at C em m1 m2 I2
        clear hm f
        rw [em] at C
        have EM := Lib.hid em.symm
        clear em
        go_wp2_with (go_at_fn g; refine (C.out).mono ?_; rintro e w' ⟨rfl, k2⟩)
        have e2 : ((a : Int) + b) / 2 + 1 = ((m + 1 : Nat) : Int) := by have := EM.out; omega
        refine ⟨⟨m + 1, b, by omega, hb, congrArg (Value.int .i64) e2, rfl, I2, K1.out.trans k2⟩, by simp [intOf]; omega⟩
    · obtain rfl : a = b := by omega
      go_wp2
      go_ret
      exact ⟨a, rfl, ⟨hb, I.out.1, I.out.2⟩, K1.out⟩
/-- the least number that is not below n -/
def nxt : List R → Int → Int × Bool
  | [], _ => (0, false)
  | r :: t, n => if n ≤ r.2 then (max n r.1, true) else nxt t n
theorem nxt_at : ∀ (l : List R) (n : Int) (i : Nat), i ≤ l.length → (∀ k, k < i → (at_ l k).2 < n) → (i < l.length → n ≤ (at_ l i).2) → nxt l n = if i = l.length then (0, false) else (max n (at_ l i).1, true) := by
  intro l
  induction l with
  | nil => intro n i hi _ _; simp at hi; subst hi; rfl
  | cons r t ih =>
    intro n i hi h1 h2
    rw [nxt]
    cases i with
    | zero =>
      have g := h2 (by simp)
      simp only [at_, List.getD_cons_zero] at g
      rw [if_pos g, if_neg (by simp)]
      simp [at_]
    | succ j =>
      have g := h1 0 (by omega)
      simp only [at_, List.getD_cons_zero] at g
      rw [if_neg (by omega)]
      have e : ∀ k, at_ (r :: t) (k + 1) = at_ t k := fun k => by unfold at_; simp
      rw [ih n j (by simpa using hi) (fun k hk => by have := h1 (k + 1) (by omega); rwa [e] at this) (fun hj => by have := h2 (by simpa using hj); rwa [e] at this), e]
      simp
def fB (l : List R) (n : Int) (k : Nat) : Bool := decide (l.length ≤ k) || decide (n ≤ (at_ l k).2)
theorem sane_up {l : List R} (h : sane l) : ∀ a b, a ≤ b → b < l.length → (at_ l a).2 ≤ (at_ l b).2 := by
  intro a b hab
  induction b with
  | zero =>
    intro _
    have e : a = 0 := by omega
    rw [e]
    exact Int.le_refl _
  | succ b ih =>
    intro hb
    by_cases e : a = b + 1
    · subst e; exact Int.le_refl _
    · have g := ih (by omega) (by omega)
      have s := (sane_idx l).1 h (b + 1) hb
      have := s.2 (by omega)
      obtain ⟨o1, _⟩ := s.1
      simp only [Nat.add_sub_cancel] at this
      omega
theorem fB_mono {l : List R} (h : sane l) (n : Int) : ∀ a b, a ≤ b → fB l n a = true → fB l n b = true := by
  intro a b hab ha
  unfold fB at ha ⊢
  simp only [Bool.or_eq_true, decide_eq_true_eq] at ha ⊢
  by_cases c : l.length ≤ b
  · exact .inl c
  · right
    rcases ha with ha | ha
    · omega
    · have := sane_up h a b hab (by omega); omega
set_option maxHeartbeats 1000000 in
theorem nclo_any (l : List R) (n : Int) (B0 B1 : Nat) (v : Value) (h : Nat) (w : World) (hh : h < l.length) (hl : (l.length : Int) ≤ 9223372036854775807) (hv : RunsAt w v l) (c0 : w.cell? ⟨B0, 0, none⟩ = some v) (c1 : w.cell? ⟨B1, 0, none⟩ = some (.int .i64 n)) :
    Calls Tryz.prog 93 #[.int .i64 h, .pointer (some ⟨B0, 0, none⟩), .pointer (some ⟨B1, 0, none⟩)] w fun e w' => e = .returned (.bool (fB l n h)) ∧ Kp w w' := by
  rcases hv with ⟨ad0, cp0, rfl, rfl⟩ | ⟨b, off, cap, rfl, hc, hm, hx⟩
  · simp at hh
  obtain ⟨d1, d2⟩ := hx h hh
  have E := Lib.hid (show fB l n h = decide (n ≤ (at_ l h).2) by unfold fB; rw [show decide (l.length ≤ h) = false by simp; omega]; simp)
  have z1 : (0 : Int) ≤ (h : Int) := by omega
  have z2 : (h : Int) < l.length := by omega
  obtain ⟨y, ey⟩ : ∃ y, (at_ l h).2 = y := ⟨_, rfl⟩
  rw [ey] at d2 E
  clear hx ey d1 hc hm
  go_enter Tryz.func93, Tryz.ntmps93
  go_wp2_with fail
  go_quiet (fail)
  go_wp2
  go_ret
  exact ⟨ret_bool E.out.symm, Kp.drewN _ _⟩
theorem RunsAt.set {w : World} {v : Value} {l : List R} (h : RunsAt w v l) {B : Nat} {ad : Option Addr} {ln cp : Nat} {u : Value} (c : w.cell? ⟨B, 0, none⟩ = some (.slice ad ln cp)) : RunsAt (w.setCell ⟨B, 0, none⟩ u) v l := by
  rcases h with h | ⟨b, off, cap, e, h1, h2, h3⟩
  · exact .inl h
  · refine .inr ⟨b, off, cap, e, h1, h2, fun i hi => ?_⟩
    obtain ⟨c1, c2⟩ := h3 i hi
    constructor
    · rw [World.cell?_setCell_other _ _ _ _ (fun q => by rw [← q, c] at c1; cases c1)]; exact c1
    · rw [World.cell?_setCell_other _ _ _ _ (fun q => by rw [← q, c] at c2; cases c2)]; exact c2
theorem RunsAt.slice {w : World} {v : Value} {l : List R} (h : RunsAt w v l) : ∃ ad c, v = .slice ad l.length c := by
  rcases h with ⟨ad0, cp0, rfl, rfl⟩ | ⟨b, off, cap, rfl, _⟩
  · exact ⟨_, _, rfl⟩
  · exact ⟨_, _, rfl⟩
set_option maxHeartbeats 2000000 in
theorem next_of (ad : Option Addr) (ln cp : Nat) (l : List R) (n : Int) (w : World) (A : AsS (.slice ad ln cp) l w) (h : sane l) (hl : l.length ≤ 4611686018427387904) (nl : -9223372036854775808 ≤ n) (nh : n ≤ 9223372036854775807) :
    Calls Tryz.prog 67 #[.slice ad ln cp, .int .i64 n] w fun e w' => e = .returned (.tuple #[.int .i64 (nxt l n).1, .bool (nxt l n).2]) ∧ Kp w w' := by
  have C := Lib.hid (A ((w.alloc (.cells #[.slice ad ln cp] 34)).alloc (.cells #[.int .i64 n] 3)) ((Kp.alloc _ _).trans (Kp.alloc _ _)))
  have MO := Lib.hid (fB_mono h n)
  have H := Lib.hid ((sane_idx l).1 h)
  have NX := Lib.hid (nxt_at l n)
  have hmf : ∀ (fn : Fn) (first cap : Array Value) (w : World), (Instr.makeFunc fn first cap).run Tryz.prog w = .ok (.func fn first cap) w := fun _ _ _ _ => rfl
  clear A h
  go_enter Tryz.func67, Tryz.ntmps67
  go_wp2_with fail
  refine (C.out).mono ?_
  rintro e w1 ⟨v', rfl, hv, k1⟩
  have s1 := k1.size
  simp at s1
  have c0 : w1.cell? ⟨w.heap.size, 0, none⟩ = some (.slice ad ln cp) := by rw [k1.cell (by simp; omega)]; simp
  have c1 : w1.cell? ⟨w.heap.size + 1, 0, none⟩ = some (.int .i64 n) := by rw [k1.cell (by simp)]; simp
  have f0 : w1.frozen? ⟨w.heap.size, 0, none⟩ = false := by rw [k1.frozen (by simp; omega)]; simp
  obtain ⟨ad', c', rfl⟩ := hv.slice
  obtain ⟨W2, hW⟩ : ∃ W2, W2 = w1.setCell ⟨w.heap.size, 0, none⟩ (.slice ad' l.length c') := ⟨_, rfl⟩
  have KB : Below w.heap.size w W2 := by
    rw [hW]
    exact Below.setCell (p := ⟨w.heap.size, 0, none⟩) (Below.trans (Below.mono (Kp.alloc w _) (Nat.le_refl _)) (Below.trans (Below.mono (Kp.alloc _ _) (by simp)) (Below.mono k1 (by simp; omega)))) (Nat.le_refl _) _
  have RA : RunsAt W2 (.slice ad' l.length c') l := by rw [hW]; exact hv.set c0
  have e0 : W2.cell? ⟨w.heap.size, 0, none⟩ = some (.slice ad' l.length c') := by rw [hW]; exact World.cell?_setCell_same' _ _ _ (by rw [c0]; rfl)
  have e1 : W2.cell? ⟨w.heap.size + 1, 0, none⟩ = some (.int .i64 n) := by rw [hW, World.cell?_setCell_other _ _ _ _ (by simp)]; exact c1
  have sz : w.heap.size + 1 < W2.heap.size := by rw [hW]; simp [World.setCell]; omega
  have S := Lib.hid (search_any 93 #[.pointer (some ⟨w.heap.size, 0, none⟩), .pointer (some ⟨w.heap.size + 1, 0, none⟩)] (fB l n) l.length W2 hl (enters_of Tryz.func93 (by kernel_rfl) rfl) MO.out
    (fun h w' hh k => nclo_any l n w.heap.size (w.heap.size + 1) (.slice ad' l.length c') h w' hh (by omega) (RA.kp k) ((k.cell (p := ⟨w.heap.size, 0, none⟩) (by show w.heap.size < _; omega)).trans e0) ((k.cell (p := ⟨w.heap.size + 1, 0, none⟩) sz).trans e1)))
  have KS := Lib.hid (fun w' (k : Kp W2 w') => (show w'.cell? ⟨w.heap.size, 0, none⟩ = some (.slice ad' l.length c') ∧ w'.cell? ⟨w.heap.size + 1, 0, none⟩ = some (.int .i64 n) ∧ RunsAt w' (.slice ad' l.length c') l ∧ Below w.heap.size w w' from
    ⟨(k.cell (p := ⟨w.heap.size, 0, none⟩) (by show w.heap.size < _; omega)).trans e0, (k.cell (p := ⟨w.heap.size + 1, 0, none⟩) sz).trans e1, RA.kp k, KB.trans (Below.mono k (by omega))⟩))
  have HW := Lib.hid hW.symm
  clear hW RA KB hv k1
  go_wp2_with fail
  rw [HW.out]
  refine (S.out).mono ?_
  rintro e w3 ⟨i, rfl, ⟨u1, u2, u3⟩, k3⟩
  obtain ⟨y0, y1, y2, y3⟩ := KS.out _ k3
  have NE := Lib.hid (NX.out i u1 (fun k hk => by
    have := u2 k hk
    unfold fB at this
    simp at this
    exact this.2) (fun hi => by
    have := u3 i (Nat.le_refl _) hi
    unfold fB at this
    simp at this
    omega))
  have Y3 := Lib.hid y3
  have Y2 := Lib.hid y2
  clear u2 u3 k3 y3 y2 e0 e1 c0 c1 f0
  by_cases hi : i = l.length
  · have N2 := Lib.hid (show nxt l n = (0, false) by rw [NE.out, if_pos hi])
    have g : ((i : Int) == (l.length : Int)) = true := by simp; omega
    clear NE hi
    go_wp2
    go_ret2
    refine ⟨?_, Y3.out⟩
    rw [N2.out]
    rfl
  · have N2 := Lib.hid (show nxt l n = (max n (at_ l i).1, true) by rw [NE.out, if_neg hi])
    have g : ((i : Int) == (l.length : Int)) = false := by simp; omega
    have hi2 : i < l.length := by omega
    rcases Y2.out with ⟨_, _, _, e⟩ | ⟨b, off, cap, ev, hc, hm, hx⟩
    · rw [e] at hi2; simp at hi2
    obtain ⟨d1, d2⟩ := hx i hi2
    cases ev
    obtain ⟨lo, elo⟩ : ∃ x, (at_ l i).1 = x := ⟨_, rfl⟩
    rw [elo] at d1 N2
    have z1 : (0 : Int) ≤ (i : Int) := by omega
    have z2 : (i : Int) < l.length := by omega
    clear NE hi elo d2 hx Y2
    by_cases hnl : n < lo
    · have N3 := Lib.hid (show nxt l n = (lo, true) by rw [N2.out, Int.max_eq_right (by omega)])
      clear N2
      go_wp2_with fail
      go_quiet (fail)
      go_wp2
      go_ret2
      refine ⟨?_, Y3.out.trans (Below.mono (Kp.drewN _ _) Y3.out.size)⟩
      rw [N3.out]
      rfl
    · have N3 := Lib.hid (show nxt l n = (n, true) by rw [N2.out, Int.max_eq_left (by omega)])
      clear N2
      go_wp2_with fail
      go_quiet (fail)
      go_wp2
      go_ret2
      refine ⟨?_, Y3.out.trans (Below.mono (Kp.drewN _ _) Y3.out.size)⟩
      rw [N3.out]
      rfl
def hasB (l : List R) (n : Int) : Bool := (nxt l n).2 && ((nxt l n).1 == n)
theorem has_of (ad : Option Addr) (ln cp : Nat) (l : List R) (n : Int) (w : World) (A : AsS (.slice ad ln cp) l w) (h : sane l) (hl : l.length ≤ 4611686018427387904) (nl : -9223372036854775808 ≤ n) (nh : n ≤ 9223372036854775807) :
    Calls Tryz.prog 43 #[.slice ad ln cp, .int .i64 n] w fun e w' => e = .returned (.bool (hasB l n)) ∧ Kp w w' := by
  have C := Lib.hid (next_of ad ln cp l n w A h hl nl nh)
  have E := Lib.hid (show hasB l n = ((nxt l n).2 && ((nxt l n).1 == n)) from rfl)
  obtain ⟨R, hR⟩ : ∃ R, nxt l n = R := ⟨_, rfl⟩
  rw [hR] at C E
  obtain ⟨x, y⟩ := R
  simp only at C E
  clear A h hl hR
  cases y
  · have E2 := Lib.hid (show hasB l n = false from E.out)
    go_enter Tryz.func43, Tryz.ntmps43
    go_wp2_with fail
    refine (C.out).mono ?_
    rintro e w1 ⟨rfl, k1⟩
    have K1 := Lib.hid k1
    clear k1
    go_wp2
    go_ret
    exact ⟨ret_bool E2.out.symm, K1.out⟩
  · have E2 := Lib.hid (show hasB l n = (x == n) from E.out)
    go_enter Tryz.func43, Tryz.ntmps43
    go_wp2_with fail
    refine (C.out).mono ?_
    rintro e w1 ⟨rfl, k1⟩
    have K1 := Lib.hid k1
    clear k1
    go_wp2
    go_ret
    exact ⟨ret_bool E2.out.symm, K1.out⟩
theorem has_sane : ∀ {l : List R}, sane l → ∀ n, hasB l n = true ↔ ∃ r ∈ l, r.1 ≤ n ∧ n ≤ r.2 := by
  intro l
  induction l with
  | nil => intro _ n; unfold hasB; simp [nxt]
  | cons r t ih =>
    intro hs n
    have i := ih (sane_tail hs) n
    unfold hasB at i ⊢
    rw [nxt]
    by_cases c : n ≤ r.2
    · rw [if_pos c]
      simp only [Bool.true_and, beq_iff_eq]
      constructor
      · intro h
        exact ⟨r, by simp, by omega, c⟩
      · rintro ⟨q, hq, q1, q2⟩
        rcases List.mem_cons.1 hq with rfl | hq
        · omega
        · exfalso
          obtain ⟨k, hk, e⟩ := List.getElem_of_mem hq
          have b := sane_beyond hs q.1 ⟨q, hq, Int.le_refl _, by omega, by
            have g := ((sane_idx t).1 (sane_tail hs) k hk).1
            unfold at_ at g
            simp [List.getD, hk, e] at g
            exact ⟨g.2.1, by have := g.1; have := g.2.2; omega⟩⟩
          omega
    · rw [if_neg c, i]
      constructor
      · rintro ⟨q, hq, h⟩; exact ⟨q, by simp [hq], h⟩
      · rintro ⟨q, hq, q1, q2⟩
        rcases List.mem_cons.1 hq with rfl | hq
        · omega
        · exact ⟨q, hq, q1, q2⟩
end Go.Proofs.YtmklpimaemogcaaGreatDoor
