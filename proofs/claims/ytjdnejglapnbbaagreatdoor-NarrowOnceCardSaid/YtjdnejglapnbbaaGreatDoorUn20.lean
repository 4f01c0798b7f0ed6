/-
  Contract of lustrumref20.Units: how many units some leaves have.
-/
import Derived.Test.YtjdnejglapnbbaaGreatDoorGEnv
import Derived.Test.YtjdnejglapnbbaaGreatDoorGSetA
import Derived.LoopTactic
namespace Go.Proofs.YtjdnejglapnbbaaGreatDoor
open Go.RowKit
set_option linter.unusedVariables false
set_option linter.unusedSimpArgs false
/-! few families -/
def uniF (f : LF) : Int := 1 + if f.sp = false ∧ f.u ≠ 0 then sumR (nf f.a) else 0
def unitsN : List LF → Int
  | [] => 0
  | f :: l => uniF f + unitsN l
theorem unitsN_append (l m : List LF) : unitsN (l ++ m) = unitsN l + unitsN m := by
  induction l with
  | nil => simp [unitsN]
  | cons f l ih => simp only [List.cons_append, unitsN, ih]; omega
theorem unitsN_take {l : List LF} {k : Nat} (h : k < l.length) : unitsN (l.take (k + 1)) = unitsN (l.take k) + uniF (lat l k) := by
  rw [take_lat l k h, unitsN_append]
  simp [unitsN]
theorem sumN_bd (a : List R) (h : a.length ≤ 1000000) : 0 ≤ sumR (nf a) ∧ sumR (nf a) ≤ 2199023255553 := by
  obtain ⟨b1, b2⟩ := sumR_bd (nf a) (-1099511627776) (nf_sane a) (fun r t e => by have h := nf_sane a; rw [e] at h; exact (sane_head h).2.1) (by omega)
  omega
theorem uniF_bd (f : LF) (h : f.a.length ≤ 1000000) : 1 ≤ uniF f ∧ uniF f ≤ 2199023255554 := by
  have := sumN_bd f.a h
  unfold uniF
  split <;> omega
theorem unitsN_bd {l : List LF} (h : LsOk l) : 0 ≤ unitsN l ∧ unitsN l ≤ 2199023255554 * (l.length : Int) := by
  induction l with
  | nil => simp [unitsN]
  | cons f l ih =>
    have a := uniF_bd f (by have := (h f (by simp)).2.2.1; omega)
    have b := ih fun g hg => h g (by simp [hg])
    simp only [unitsN, List.length_cons]
    omega
set_option maxHeartbeats 16000000 in
set_option maxRecDepth 100000 in
theorem units20_any (v : Value) (l : List LF) (w : World) (hv : LeavesAt w v l) (hl : LsOk l) (hn : l.length ≤ 100) :
    Calls Tryz.prog 22 #[v] w fun e w' => e = .returned (.int .i64 (unitsN l)) ∧ Kp w w' := by
  obtain ⟨ad, cp, rfl⟩ := hv.slice
  have HV := Lib.hid hv
  have HL := Lib.hid hl
  have UT := Lib.hid (fun k (h : k < l.length) => unitsN_take (l := l) h)
  have UB := Lib.hid (fun k => unitsN_bd (l := l.take k) fun f hf => hl f (List.mem_of_mem_take hf))
  have UE := Lib.hid (show unitsN (l.take l.length) = unitsN l by rw [List.take_length])
  clear hv hl
  go_enter Tryz.func22, Tryz.ntmps22
  go_wp2
  go_loopw [3, 4] (fun n i wr => ∃ k : Nat, k ≤ l.length ∧ n = .int .i64 (unitsN (l.take k)) ∧ i = .int .i64 k ∧ Hid (Kp w wr)) (fun _ i _ => l.length - (intOf i).toNat)
  case atStart => exact ⟨0, Nat.zero_le _, rfl, rfl, Lib.hid (Kp.refl _)⟩
  case round =>
    obtain ⟨k, hk, rfl, rfl, J⟩ := hrel
    by_cases hlt : k < l.length
    · have q1 : decide ((k : Int) < (l.length : Int)) = true := decide_eq_true (by omega)
      have ut := UT.out k hlt
      have b1 := UB.out k
      rw [List.length_take, Nat.min_eq_left (by omega)] at b1
      rcases HV.out.kp J.out with ⟨_, _, _, e⟩ | ⟨b0, off, cap, ev, hc, hmx, hx⟩
      · rw [e] at hlt; simp at hlt
      cases ev
      obtain ⟨va, vb, d0, d1, d2, d3, ra, rb⟩ := hx k hlt
      have LOK := HL.out _ (lat_mem hlt)
      obtain ⟨f, hf⟩ : ∃ f, lat l k = f := ⟨_, rfl⟩
      rw [hf] at d0 d1 ra rb
      (try rw [hf] at LOK)
      obtain ⟨sp, u, a, b⟩ := f
      simp only at d0 d1 ra rb
      (try simp only at LOK)
      obtain ⟨aa, ca, rfl⟩ := ra.slice
      obtain ⟨ab, cb, rfl⟩ := rb.slice
      have HF := Lib.hid hf
      have z1 : (k : Int) < (l.length : Int) := by omega
      have z2 : (0 : Int) ≤ (k : Int) := by omega
      clear hx hc hmx hf
      have e1 : lat l k = ⟨sp, u, a, b⟩ := HF.out
      rw [e1] at ut
      have CC := Lib.hid (fun w1 (kk : Kp wr w1) => rcount_of _ (nf a) w1 (asR_any _ a w1 (ra.kp kk) LOK.1 (by have := LOK.2.2.1; omega)) (nf_sane a) (Nat.le_trans (nf_len a) (by have := LOK.2.2.1; omega)))
      have sb := sumN_bd a (by have := LOK.2.2.1; omega)
      have UT2 := Lib.hid ut
      generalize unitsN (l.take k) = n at *
      have wn : IntKind.i64.wrap (n + 1) = n + 1 := by rw [IntKind.wrap_i64]; omega
      have wm : IntKind.i64.wrap (n + 1 + sumR (nf a)) = n + 1 + sumR (nf a) := by rw [IntKind.wrap_i64]; omega
      obtain ⟨s, hs⟩ : ∃ s, sumR (nf a) = s := ⟨_, rfl⟩
      rw [hs] at CC sb wm
      have HS := Lib.hid hs
      clear hs
      clear ut e1 ra rb
      cases sp with
      | true =>
        have U3 := Lib.hid (show unitsN (l.take (k + 1)) = n + 1 by rw [UT2.out]; unfold uniF; rw [if_neg (by simp)]; omega)
        go_wp2
        go_roundw
        case rel => exact ⟨k + 1, by omega, by rw [U3.out], by go_num, J⟩
        case measure => simp [intOf]; omega
      | false =>
        by_cases hu : u = 0
        · subst hu
          have U3 := Lib.hid (show unitsN (l.take (k + 1)) = n + 1 by rw [UT2.out]; unfold uniF; rw [if_neg (by simp)]; omega)
          go_wp2
          go_roundw
          case rel => exact ⟨k + 1, by omega, by rw [U3.out], by go_num, J⟩
          case measure => simp [intOf]; omega
        · have g1 : (u == 0) = false := by simpa using hu
          have g2 : (!(u == 0)) = true := by rw [g1]; rfl
          have U3 := Lib.hid (show unitsN (l.take (k + 1)) = n + 1 + sumR (nf a) by rw [UT2.out]; unfold uniF; rw [if_pos ⟨rfl, hu⟩]; simp only; omega)
          go_wp2_with fail
          refine (CC.out _ (Kp.refl _)).mono ?_
          rintro e w2 ⟨rfl, k2⟩
          have J2 := Lib.hid (J.out.trans k2)
          clear k2
          go_wp2
          go_roundw
          case rel => exact ⟨k + 1, by omega, by rw [U3.out, HS.out], by go_num, J2⟩
          case measure => simp [intOf]; omega
    · have q1 : decide ((k : Int) < (l.length : Int)) = false := decide_eq_false (by omega)
      have ek : k = l.length := by omega
      subst ek
      rw [UE.out]
      go_wp2
      go_ret
      exact ⟨rfl, J.out⟩
end Go.Proofs.YtjdnejglapnbbaaGreatDoor
