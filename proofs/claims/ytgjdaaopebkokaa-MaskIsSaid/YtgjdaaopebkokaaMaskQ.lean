/-
  Layer 6: four digits, and one of them hidden: plain mathematics.
-/
import Derived.Test.YtgjdaaopebkokaaMaskP
namespace Go.Proofs.Ytgjdaaopebkokaa
open Go.RowKit
set_option linter.unusedVariables false
/-- four signs -/
def four (a b c d : Nat) : ByteArray := strOfNums [(a : Int), b, c, d]
theorem four_size (a b c d : Nat) : (four a b c d).size = 4 := by unfold four; rw [strOfNums_size]; rfl
theorem four_bt (a b c d : Nat) (ha : a < 256) (hb : b < 256) (hc : c < 256) (hd : d < 256) : bt (four a b c d) 0 = a ∧ bt (four a b c d) 1 = b ∧ bt (four a b c d) 2 = c ∧ bt (four a b c d) 3 = d := by
  unfold four
  refine ⟨?_, ?_, ?_, ?_⟩
  · rw [bt_strOf _ 0 (by simp) (by simp; omega)]; simp
  · rw [bt_strOf _ 1 (by simp) (by simp; omega)]; simp
  · rw [bt_strOf _ 2 (by simp) (by simp; omega)]; simp
  · rw [bt_strOf _ 3 (by simp) (by simp; omega)]; simp
def okS (b : Nat) : Prop := b = 88 ∨ (48 ≤ b ∧ b ≤ 57)
theorem four_sane (a b c d : Nat) (ha : okS a) (hb : okS b) (hc : okS c) (hd : okS d) : saneM (four a b c d) = true := by
  unfold okS at ha hb hc hd
  obtain ⟨e0, e1, e2, e3⟩ := four_bt a b c d (by omega) (by omega) (by omega) (by omega)
  unfold saneM
  rw [four_size, show decide (1 ≤ 4 ∧ 4 ≤ 4) = true by decide, Bool.true_and]
  refine upB_of fun i hi => ?_
  have : i = 0 ∨ i = 1 ∨ i = 2 ∨ i = 3 := by omega
  rcases this with rfl | rfl | rfl | rfl
  · rw [e0]; unfold okB digB; simp; omega
  · rw [e1]; unfold okB digB; simp; omega
  · rw [e2]; unfold okB digB; simp; omega
  · rw [e3]; unfold okB digB; simp; omega
theorem four_match (a b c d : Nat) (ha : okS a) (hb : okS b) (hc : okS c) (hd : okS d) (n : Int) :
    matchM (four a b c d) n = true ↔ 0 ≤ n ∧ n < 10000 ∧ (a = 88 ∨ (a : Int) - 48 = n / 1000 % 10) ∧ (b = 88 ∨ (b : Int) - 48 = n / 100 % 10) ∧ (c = 88 ∨ (c : Int) - 48 = n / 10 % 10) ∧ (d = 88 ∨ (d : Int) - 48 = n % 10) := by
  rw [match_iff (four_sane a b c d ha hb hc hd), four_size]
  unfold okS at ha hb hc hd
  obtain ⟨e0, e1, e2, e3⟩ := four_bt a b c d (by omega) (by omega) (by omega) (by omega)
  have p4 : P10 4 = 10000 := by decide
  have p3 : P10 3 = 1000 := by decide
  have p2 : P10 2 = 100 := by decide
  have p1 : P10 1 = 10 := by decide
  have p0 : P10 0 = 1 := by decide
  rw [p4]
  constructor
  · rintro ⟨h1, h2, h3⟩
    have g0 := h3 0 (by omega)
    have g1 := h3 1 (by omega)
    have g2 := h3 2 (by omega)
    have g3 := h3 3 (by omega)
    simp only [Nat.sub_zero, Nat.reduceSub, e0, e1, e2, e3, p3, p2, p1, p0] at g0 g1 g2 g3
    refine ⟨h1, h2, g0, g1, g2, ?_⟩
    rwa [Int.ediv_one] at g3
  · rintro ⟨h1, h2, g0, g1, g2, g3⟩
    refine ⟨h1, h2, fun i hi => ?_⟩
    have : i = 0 ∨ i = 1 ∨ i = 2 ∨ i = 3 := by omega
    rcases this with rfl | rfl | rfl | rfl
    · simp only [Nat.sub_zero, Nat.reduceSub, e0, p3]; exact g0
    · simp only [Nat.reduceSub, e1, p2]; exact g1
    · simp only [Nat.reduceSub, e2, p1]; exact g2
    · simp only [Nat.reduceSub, e3, p0, Int.ediv_one]; exact g3
theorem four_count (a b c d : Nat) (ha : okS a) (hb : okS b) (hc : okS c) (hd : okS d) :
    countM (four a b c d) = (if a = 88 then 10 else 1) * (if b = 88 then 10 else 1) * (if c = 88 then 10 else 1) * (if d = 88 then 10 else 1) := by
  unfold countM
  rw [if_pos (four_sane a b c d ha hb hc hd), four_size]
  unfold okS at ha hb hc hd
  obtain ⟨e0, e1, e2, e3⟩ := four_bt a b c d (by omega) (by omega) (by omega) (by omega)
  simp only [cntM, e0, e1, e2, e3, beq_iff_eq]
  repeat' split
  all_goals rfl
theorem furL_one (b : Nat) (v : Int) (h : b ≠ 88) : furL b [(v, v)] = [(10 * v + ((b : Int) - 48), 10 * v + ((b : Int) - 48))] := by
  unfold furL
  simp only [List.flatMap_cons, List.flatMap_nil, List.append_nil]
  unfold furR
  rw [if_neg h, show (v - v + 1).toNat = 1 by omega, digR_snoc]
  simp [digR]
theorem four_set (a b c d : Nat) (ha : 48 ≤ a ∧ a ≤ 57) (hb : 48 ≤ b ∧ b ≤ 57) (hc : 48 ≤ c ∧ c ≤ 57) (hd : 48 ≤ d ∧ d ≤ 57) :
    (at_ (setM (four a b c d)) 0).1 = 1000 * ((a : Int) - 48) + 100 * ((b : Int) - 48) + 10 * ((c : Int) - 48) + ((d : Int) - 48) := by
  obtain ⟨e0, e1, e2, e3⟩ := four_bt a b c d (by omega) (by omega) (by omega) (by omega)
  unfold setM
  rw [if_pos (four_sane a b c d (.inr ha) (.inr hb) (.inr hc) (.inr hd)), four_size]
  simp only [setK, e0, e1, e2, e3]
  rw [furL_one a 0 (by omega), furL_one b _ (by omega), furL_one c _ (by omega), furL_one d _ (by omega)]
  simp only [at_, List.getD_cons_zero]
  omega
/-- the digits of a number -/
def dg (x : Nat) (q : Nat) : Nat := 48 + x / q % 10
theorem dg_ok (x q : Nat) : 48 ≤ dg x q ∧ dg x q ≤ 57 := by unfold dg; omega
def wri (x : Nat) : ByteArray := four (dg x 1000) (dg x 100) (dg x 10) (dg x 1)
theorem wri_sane (x : Nat) : saneM (wri x) = true := four_sane _ _ _ _ (.inr (dg_ok x _)) (.inr (dg_ok x _)) (.inr (dg_ok x _)) (.inr (dg_ok x _))
theorem wri_match (x : Nat) (hx : x < 10000) (n : Int) : matchM (wri x) n = (n == (x : Int)) := by
  rw [Bool.eq_iff_iff, beq_iff_eq]
  unfold wri
  rw [four_match _ _ _ _ (.inr (dg_ok x _)) (.inr (dg_ok x _)) (.inr (dg_ok x _)) (.inr (dg_ok x _))]
  unfold dg
  omega
theorem wri_only (x : Nat) : onlyB (wri x) = true := by
  unfold onlyB wri
  rw [four_count _ _ _ _ (.inr (dg_ok x _)) (.inr (dg_ok x _)) (.inr (dg_ok x _)) (.inr (dg_ok x _))]
  have h1 := dg_ok x 1000
  have h2 := dg_ok x 100
  have h3 := dg_ok x 10
  have h4 := dg_ok x 1
  rw [if_neg (by omega), if_neg (by omega), if_neg (by omega), if_neg (by omega)]
  rfl
theorem wri_val (x : Nat) (hx : x < 10000) : onlyV (wri x) = x := by
  unfold onlyV
  rw [if_pos (wri_only x)]
  unfold wri
  rw [four_set _ _ _ _ (dg_ok x _) (dg_ok x _) (dg_ok x _) (dg_ok x _)]
  unfold dg
  omega
/-- one of them hidden -/
def hidI (x i : Nat) : ByteArray := if i = 0 then four 88 (dg x 100) (dg x 10) (dg x 1) else if i = 1 then four (dg x 1000) 88 (dg x 10) (dg x 1) else if i = 2 then four (dg x 1000) (dg x 100) 88 (dg x 1) else four (dg x 1000) (dg x 100) (dg x 10) 88
theorem hid_count (x i : Nat) : countM (hidI x i) = 10 := by
  have h1 := dg_ok x 1000
  have h2 := dg_ok x 100
  have h3 := dg_ok x 10
  have h4 := dg_ok x 1
  unfold hidI
  repeat' split
  all_goals rw [four_count _ _ _ _ (by unfold okS; omega) (by unfold okS; omega) (by unfold okS; omega) (by unfold okS; omega)]
  · rw [if_pos rfl, if_neg (by omega), if_neg (by omega), if_neg (by omega)]; rfl
  · rw [if_neg (by omega), if_pos rfl, if_neg (by omega), if_neg (by omega)]; rfl
  · rw [if_neg (by omega), if_neg (by omega), if_pos rfl, if_neg (by omega)]; rfl
  · rw [if_neg (by omega), if_neg (by omega), if_neg (by omega), if_pos rfl]; rfl
theorem hid_only (x i : Nat) : onlyB (hidI x i) = false := by unfold onlyB; rw [hid_count]; rfl
theorem hid_match (x i : Nat) (hx : x < 10000) : matchM (hidI x i) x = true := by
  have h1 := dg_ok x 1000
  have h2 := dg_ok x 100
  have h3 := dg_ok x 10
  have h4 := dg_ok x 1
  unfold hidI
  repeat' split
  all_goals
    rw [four_match _ _ _ _ (by unfold okS; omega) (by unfold okS; omega) (by unfold okS; omega) (by unfold okS; omega)]
    unfold dg
    omega
/-- the first three alone do not match a number of four digits -/
theorem three_no (s : ByteArray) (h : s.size = 3) (n : Int) (hn : 1000 ≤ n) : matchM s n = false := by
  unfold matchM
  rw [h, show P10 3 = 1000 by decide, show decide (n < 1000) = false by simp; omega]
  simp
theorem wri_eq (x : Nat) : wri x = ⟨#[UInt8.ofNat (dg x 1000), UInt8.ofNat (dg x 100), UInt8.ofNat (dg x 10), UInt8.ofNat (dg x 1)]⟩ := by
  unfold wri four strOfNums
  simp
theorem hid0 (x : Nat) : hidI x 0 = ⟨#[88, UInt8.ofNat (dg x 100), UInt8.ofNat (dg x 10), UInt8.ofNat (dg x 1)]⟩ := by
  unfold hidI four strOfNums
  simp
theorem hid1 (x : Nat) : hidI x 1 = ⟨#[UInt8.ofNat (dg x 1000), 88, UInt8.ofNat (dg x 10), UInt8.ofNat (dg x 1)]⟩ := by
  unfold hidI four strOfNums
  simp
theorem hid2 (x : Nat) : hidI x 2 = ⟨#[UInt8.ofNat (dg x 1000), UInt8.ofNat (dg x 100), 88, UInt8.ofNat (dg x 1)]⟩ := by
  unfold hidI four strOfNums
  simp
theorem hid3 (x : Nat) : hidI x 3 = ⟨#[UInt8.ofNat (dg x 1000), UInt8.ofNat (dg x 100), UInt8.ofNat (dg x 10), 88]⟩ := by
  unfold hidI four strOfNums
  simp
end Go.Proofs.Ytgjdaaopebkokaa
