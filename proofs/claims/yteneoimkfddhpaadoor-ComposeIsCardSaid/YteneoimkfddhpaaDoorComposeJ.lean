/-
  The document's answer for layer 19: of a relation the pairs of intervals that stand in it.
-/
import Derived.Test.YteneoimkfddhpaaDoorComposeI
namespace Go.Proofs.YteneoimkfddhpaaDoor
open Go.RowKit
set_option linter.unusedVariables false
theorem own_kp {w w' : World} {base : Nat} {e : TypeId} {size : Nat} {v : Value} {n : Nat} {xs : List Value} (h : w.ownsRow base e size v n xs) (k : Kp w w') : w'.ownsRow base e size v n xs := by
  refine ⟨h.1, ?_⟩
  rcases h.2 with h2 | ⟨g, cap, cur, e1, hb, hg, rest⟩
  · exact .inl h2
  · exact .inr ⟨g, cap, cur, e1, hb, (k.block g (h.lt g (by rw [e1]; rfl)).2).trans hg, rest⟩
def rowsK (r : Int) : Nat → List NN
  | 0 => []
  | k + 1 => if (rel (iv (k / 15)).1 (iv (k / 15)).2 (iv (k % 15)).1 (iv (k % 15)).2 == r) = true then rowsK r k ++ [(k / 15, k % 15)] else rowsK r k
theorem rowsK_len (r : Int) (k : Nat) : (rowsK r k).length ≤ k := by
  induction k with
  | zero => simp [rowsK]
  | succ k ih =>
    rw [rowsK]
    split
    · rw [List.length_append, List.length_singleton]; omega
    · omega
theorem rowsK_mem (r : Int) (x : NN) : ∀ k, k ≤ 225 → (x ∈ rowsK r k ↔ x.2 < 15 ∧ 15 * x.1 + x.2 < k ∧ rel (iv x.1).1 (iv x.1).2 (iv x.2).1 (iv x.2).2 = r) := by
  intro k
  induction k with
  | zero => intro _; simp [rowsK]
  | succ k ih =>
    intro hk
    have ih := ih (by omega)
    rw [rowsK]
    by_cases h : (rel (iv (k / 15)).1 (iv (k / 15)).2 (iv (k % 15)).1 (iv (k % 15)).2 == r) = true
    · rw [if_pos h, List.mem_append, List.mem_singleton, ih]
      rw [beq_iff_eq] at h
      constructor
      · rintro (⟨h1, h2, h3⟩ | rfl)
        · exact ⟨h1, by omega, h3⟩
        · exact ⟨by simp only; omega, by simp only; omega, h⟩
      · rintro ⟨h1, h2, h3⟩
        by_cases e : 15 * x.1 + x.2 = k
        · right
          have : x.1 = k / 15 ∧ x.2 = k % 15 := by omega
          exact Prod.ext this.1 this.2
        · exact .inl ⟨h1, by omega, h3⟩
    · rw [if_neg h, ih]
      rw [beq_iff_eq] at h
      constructor
      · rintro ⟨h1, h2, h3⟩
        exact ⟨h1, by omega, h3⟩
      · rintro ⟨h1, h2, h3⟩
        by_cases e : 15 * x.1 + x.2 = k
        · have : x.1 = k / 15 ∧ x.2 = k % 15 := by omega
          rw [this.1, this.2] at h3
          exact absurd h3 h
        · exact ⟨h1, by omega, h3⟩
set_option maxHeartbeats 4000000 in
set_option maxRecDepth 100000 in
theorem rows_any (v : Value) (r : Int) (w : World) (hv : PairsAt w v ivN) :
    Calls Tryd.prog 43 #[v, .int .i64 r] w fun e w' => ∃ v' : Value, e = .returned v' ∧ PairsAt w' v' (rowsK r 225) ∧ Kp w w' := by
  obtain ⟨i0, hi, hz0, hz1, hz2⟩ := info_parts info2
  rcases hv with ⟨_, h⟩ | ⟨b, cap, rfl, hb, hx⟩
  · cases h
  have l15 : ivN.length = 15 := rfl
  rw [l15] at hx ⊢
  have HX := Lib.hid hx
  clear hx l15
  go_enter Tryd.func43, Tryd.ntmps43
  go_wp2
  go_loopw [5, 6] (fun v i wr => ∃ s : Nat, s ≤ 15 ∧ i = .int .i64 s ∧ wr.ownsRow w.heap.size 54 2 v (rowsK r (15 * s)).length (cellsN (rowsK r (15 * s))) ∧ Kp w wr) (fun _ i _ => 15 - (intOf i).toNat)
  case atStart => exact ⟨0, by omega, rfl, World.ownsRow_nil _ _ _ _, Kp.refl _⟩
  case round =>
    obtain ⟨s, hs, rfl, hown, k1⟩ := hrel
    have K1 := Lib.hid k1
    have O1 := Lib.hid hown
    clear k1 hown
    by_cases hlt : s < 15
    · have hd : decide ((s : Int) < 15) = true := by simp; omega
      go_wp2
      go_loopw [5, 7] (fun v i wr => ∃ t : Nat, t ≤ 15 ∧ i = .int .i64 t ∧ wr.ownsRow w.heap.size 54 2 v (rowsK r (15 * s + t)).length (cellsN (rowsK r (15 * s + t))) ∧ Kp w wr) (fun _ i _ => 15 - (intOf i).toNat)
      case atStart => exact ⟨0, by omega, rfl, O1.out, K1.out⟩
      case round =>
        obtain ⟨t, ht, rfl, hown, k1⟩ := hrel
        have K2 := Lib.hid k1
        have hsz := k1.size
        by_cases hlt2 : t < 15
        · obtain ⟨c1, c2⟩ := HX.out s hlt
          obtain ⟨c3, c4⟩ := HX.out t hlt2
          have d1 := (Below.cell (p := ⟨b, s * 2, none⟩) k1 hb).trans c1
          have d2 := (Below.cell (p := ⟨b, s * 2 + 1, none⟩) k1 hb).trans c2
          have d3 := (Below.cell (p := ⟨b, t * 2, none⟩) k1 hb).trans c3
          have d4 := (Below.cell (p := ⟨b, t * 2 + 1, none⟩) k1 hb).trans c4
          clear c1 c2 c3 c4 k1
          have e1 := ivN_iv s
          have e2 := ivN_iv t
          have b1 := iv_bd s
          have b2 := iv_bd t
          have S := Lib.hid (show rowsK r (15 * s + (t + 1)) = if (rel (iv s).1 (iv s).2 (iv t).1 (iv t).2 == r) = true then rowsK r (15 * s + t) ++ [(s, t)] else rowsK r (15 * s + t) by
            have h := show rowsK r (15 * s + t + 1) = if (rel (iv ((15 * s + t) / 15)).1 (iv ((15 * s + t) / 15)).2 (iv ((15 * s + t) % 15)).1 (iv ((15 * s + t) % 15)).2 == r) = true then rowsK r (15 * s + t) ++ [((15 * s + t) / 15, (15 * s + t) % 15)] else rowsK r (15 * s + t) from rfl
            rwa [show (15 * s + t) / 15 = s by omega, show (15 * s + t) % 15 = t by omega] at h)
          have nl := rowsK_len r (15 * s + t)
          rw [← e1] at b1
          rw [← e2] at b2
          rw [← e1, ← e2] at S
          simp only at b1 b2 S
          generalize ((atN ivN s).1 : Int) = p1 at *
          generalize ((atN ivN s).2 : Int) = p2 at *
          generalize ((atN ivN t).1 : Int) = q1 at *
          generalize ((atN ivN t).2 : Int) = q2 at *
          have C := Lib.hid (fun w => refOf_any p1 p2 q1 q2 w (by omega) (by omega) (by omega) (by omega) (by omega) (by omega) (by omega) (by omega))
          rw [show relV p1 p2 q1 q2 = rel p1 p2 q1 q2 by unfold relV ivB; simp [b1.2.1, b2.2.1], show ivB p1 p2 q1 q2 = true by unfold ivB; simp [b1.2.1, b2.2.1]] at C
          generalize rel p1 p2 q1 q2 = x at *
          have HB := Lib.hid (Nat.lt_of_lt_of_le hb hsz)
          have KS := Lib.hid (fun w' (k : Kp wr w') => (show w'.cell? ⟨b, s * 2, none⟩ = some (.int .i64 p1) ∧ w'.cell? ⟨b, s * 2 + 1, none⟩ = some (.int .i64 p2) ∧ w'.cell? ⟨b, t * 2, none⟩ = some (.int .i64 q1) ∧ w'.cell? ⟨b, t * 2 + 1, none⟩ = some (.int .i64 q2) ∧ Kp wr w' from
            ⟨(Below.cell (p := ⟨b, s * 2, none⟩) k HB.out).trans d1, (Below.cell (p := ⟨b, s * 2 + 1, none⟩) k HB.out).trans d2, (Below.cell (p := ⟨b, t * 2, none⟩) k HB.out).trans d3, (Below.cell (p := ⟨b, t * 2 + 1, none⟩) k HB.out).trans d4, k⟩))
          clear b1 b2 e1 e2
          have z1 : (0 : Int) ≤ (s : Int) := by omega
          have z2 : (s : Int) < 15 := by omega
          have z3 : (0 : Int) ≤ (t : Int) := by omega
          have z4 : (t : Int) < 15 := by omega
          generalize rowsK r (15 * s + t) = L at *
          have H := Lib.hid hown
          clear hown
          rcases Bool.eq_false_or_eq_true (x == r) with g | g
          · rw [g] at S
            have S2 := Lib.hid (show rowsK r (15 * s + (t + 1)) = L ++ [(s, t)] from S.out)
            clear S
            go_wp2_with fail
            go_region_held3 (fun w' => w'.cell? ⟨b, s * 2, none⟩ = some (.int .i64 p1) ∧ w'.cell? ⟨b, s * 2 + 1, none⟩ = some (.int .i64 p2) ∧ w'.cell? ⟨b, t * 2, none⟩ = some (.int .i64 q1) ∧ w'.cell? ⟨b, t * 2 + 1, none⟩ = some (.int .i64 q2) ∧ Kp wr w') (first | exact KS.out _ (by first | assumption | exact Kp.drew _))
              (first | (go_at_call 16; refine (C.out _).mono ?_; rintro e w2 ⟨rfl, k1⟩; have k2 := (Kp.drew wr).trans k1))
            have K3 := Lib.hid (K2.out.trans k2)
            have hown := own_kp H.out k2
            have hsz2 := K3.out.size
            go_wp2_with (at_builtin; go_must (refine wpList_append_own _ rfl (.tmp 37) (.tmp 41) 52 rfl w.heap.size 54 i0 (.agg #[.int .i64 0, .int .i64 0]) 2 16 Tryd.underlying52 hi hz0 hz1 hz2 rfl (by decide) _ _ _ rfl (hown.alloc _) ⟨_, 0, none⟩ 1 1 [.int .i64 s, .int .i64 t] rfl rfl (cell_two_a _ _ _ _) (by intro u hu; simp at hu; rcases hu with rfl | rfl <;> rfl) (by unfold maxLen; omega) (by omega) (by simp; omega) ?_); intro v1 w1 hown1 hgrow1 hnil1)
            go_roundw
            case rel => exact ⟨t + 1, by omega, by go_num, by rw [S2.out, cellsN_append, List.length_append]; exact hown1, kp_grown1 K3.out hgrow1 (fun j hj => (hown.lt j hj).1)⟩
            case measure => simp [intOf]; omega
          · rw [g] at S
            have S2 := Lib.hid (show rowsK r (15 * s + (t + 1)) = L from S.out)
            clear S
            go_wp2_with fail
            go_region_held3 (fun w' => w'.cell? ⟨b, s * 2, none⟩ = some (.int .i64 p1) ∧ w'.cell? ⟨b, s * 2 + 1, none⟩ = some (.int .i64 p2) ∧ w'.cell? ⟨b, t * 2, none⟩ = some (.int .i64 q1) ∧ w'.cell? ⟨b, t * 2 + 1, none⟩ = some (.int .i64 q2) ∧ Kp wr w') (first | exact KS.out _ (by first | assumption | exact Kp.drew _))
              (first | (go_at_call 16; refine (C.out _).mono ?_; rintro e w2 ⟨rfl, k1⟩; have k2 := (Kp.drew wr).trans k1))
            have K3 := Lib.hid (K2.out.trans k2)
            have hown := Lib.hid (own_kp H.out k2)
            go_wp2
            go_roundw
            case rel => exact ⟨t + 1, by omega, by go_num, by rw [S2.out]; exact hown.out, K3.out⟩
            case measure => simp [intOf]; omega
        · obtain rfl : t = 15 := by omega
          rw [show 15 * s + 15 = 15 * (s + 1) by omega] at hown
          clear k1
          go_wp2
          go_roundw
          case rel => exact ⟨s + 1, by omega, by go_num, hown, K2.out⟩
          case measure => simp [intOf]; omega
    · obtain rfl : s = 15 := by omega
      go_wp2
      go_ret
      exact ⟨_, rfl, pairsAt_own O1.out, K1.out⟩
end Go.Proofs.YteneoimkfddhpaaDoor
