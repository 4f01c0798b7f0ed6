/-
  Joined: ImgQ, 5R, 5S, 5T, 5U, ImgR, ImgS, ImgT.
-/
import Derived.Test.YtinpglfclbnhlaaGreatDoorGImgB
import Derived.Test.YtinpglfclbnhlaaGreatDoorGSetC
namespace Go.Proofs.YtinpglfclbnhlaaGreatDoor
set_option linter.unusedVariables false
set_option linter.unusedSimpArgs false
theorem runF_mem {r : R} {n : Int} : n ∈ runF r ↔ r.1 ≤ n ∧ n ≤ r.2 := by
  unfold runF upF
  simp only [List.mem_map, List.mem_range]
  constructor
  · rintro ⟨i, hi, rfl⟩; omega
  · rintro ⟨a, b⟩
    exact ⟨(n - r.1).toNat, by omega, by omega⟩
theorem nums_mem {l : List R} (h : ∀ r ∈ l, okR r) {n : Int} : n ∈ nums l ↔ memR l n := by
  unfold nums memR
  simp only [List.mem_flatMap, runF_mem]
  constructor
  · rintro ⟨r, hr, a, b⟩
    obtain ⟨o1, o2, o3⟩ := h r hr
    exact ⟨r, hr, a, b, by omega, by omega⟩
  · rintro ⟨r, hr, a, b, _⟩
    exact ⟨r, hr, a, b⟩
theorem nums_lt : ∀ {l : List R}, sane l → (nums l).Pairwise (fun a b => a < b) := by
  intro l
  induction l with
  | nil => intro _; exact List.Pairwise.nil
  | cons r t ih =>
    intro h
    rw [show nums (r :: t) = runF r ++ nums t by simp [nums]]
    refine List.pairwise_append.2 ⟨?_, ih (sane_tail h), ?_⟩
    · unfold runF upF
      refine List.Pairwise.map _ ?_ List.pairwise_lt_range
      intro a b hab
      omega
    · intro x hx y hy
      have g := sane_beyond h y ((nums_mem (sane_ok (sane_tail h))).1 hy)
      have := (runF_mem.1 hx).2
      omega
theorem sane_sing {l : List Int} (h : ∀ n ∈ l, -1099511627776 ≤ n ∧ n ≤ 1099511627776) (p : l.Pairwise (fun a b => a + 1 < b)) : sane (sing l) := by
  refine sane_pw.2 ⟨?_, ?_⟩
  · intro r hr
    unfold sing at hr
    simp only [List.mem_map] at hr
    obtain ⟨n, hn, rfl⟩ := hr
    have := h n hn
    exact ⟨Int.le_refl _, this.1, this.2⟩
  · unfold sing
    exact List.Pairwise.map _ (fun a b h => h) p
theorem fst_gap {k i j : Int} (k0 : k ≠ 0) (h : 0 ≤ i) (hij : i < j) (hj : j < cnt k) : fst k i + 1 < fst k j := by
  have n := unit_next h hij hj
  obtain ⟨a1, a2, a3, a4, a5⟩ := months h (show i < cnt k by omega) k0
  have m := mon_lt _ _ a1 a2
  omega
theorem lst_gap {k i j : Int} (k0 : k ≠ 0) (h : 0 ≤ i) (hij : i < j) (hj : j < cnt k) : lst k i + 1 < lst k j := by
  have n := unit_next h hij hj
  obtain ⟨a1, a2, a3, a4, a5⟩ := months (show 0 ≤ j by omega) hj k0
  have m := mon_lt _ _ a1 a2
  omega
theorem units_num {k : Int} {s : List R} {n : Int} (h : n ∈ nums (unitsR k s)) : 0 ≤ n ∧ n < cnt k ∧ memR s n := by
  have := (unitsR_mem k s n).1 ((nums_mem (sane_ok (unitsR_sane k s))).1 h)
  exact ⟨this.2.1, this.2.2, this.1⟩
theorem firs_sane {k : Int} (k0 : k ≠ 0) (s : List R) : sane (sing ((nums (unitsR k s)).map (firV k))) := by
  refine sane_sing ?_ ?_
  · intro n hn
    simp only [List.mem_map] at hn
    obtain ⟨i, _, rfl⟩ := hn
    have := firV_bd k i
    omega
  · refine List.pairwise_map.2 ((List.Pairwise.imp_of_mem ?_) (nums_lt (unitsR_sane k s)))
    intro a b ha hb hab
    obtain ⟨a1, a2, _⟩ := units_num ha
    obtain ⟨b1, b2, _⟩ := units_num hb
    rw [firV_in a1 a2, firV_in b1 b2]
    exact fst_gap k0 a1 hab b2
theorem lass_sane {k : Int} (k0 : k ≠ 0) (s : List R) : sane (sing ((nums (unitsR k s)).map (lasV k))) := by
  refine sane_sing ?_ ?_
  · intro n hn
    simp only [List.mem_map] at hn
    obtain ⟨i, _, rfl⟩ := hn
    have := lasV_bd k i
    omega
  · refine List.pairwise_map.2 ((List.Pairwise.imp_of_mem ?_) (nums_lt (unitsR_sane k s)))
    intro a b ha hb hab
    obtain ⟨a1, a2, _⟩ := units_num ha
    obtain ⟨b1, b2, _⟩ := units_num hb
    rw [lasV_in a1 a2, lasV_in b1 b2]
    exact lst_gap k0 a1 hab b2
/-- what the list of edges is, without bringing it to order -/
theorem edgR_fir (k : Int) (s : List R) : edgR (firV k) k s = if edgB k s = true then (if k = 0 then unitsR k s else sing ((nums (unitsR k s)).map (firV k))) else [] := by
  unfold edgR
  by_cases h : k = 0
  · rw [if_pos h, if_pos h]
  · rw [if_neg h, if_neg h, nf_of_sane (firs_sane h s)]
theorem edgR_las (k : Int) (s : List R) : edgR (lasV k) k s = if edgB k s = true then (if k = 0 then unitsR k s else sing ((nums (unitsR k s)).map (lasV k))) else [] := by
  unfold edgR
  by_cases h : k = 0
  · rw [if_pos h, if_pos h]
  · rw [if_neg h, if_neg h, nf_of_sane (lass_sane h s)]
theorem edgR_fsane (k : Int) (s : List R) : sane (edgR (firV k) k s) := by
  unfold edgR
  split
  · split
    · exact unitsR_sane k s
    · exact nf_sane _
  · exact trivial
theorem edgR_lsane (k : Int) (s : List R) : sane (edgR (lasV k) k s) := by
  unfold edgR
  split
  · split
    · exact unitsR_sane k s
    · exact nf_sane _
  · exact trivial
theorem edgR_len (V : Int → Int) (k : Int) (s : List R) : (edgR V k s).length ≤ 400 := by
  unfold edgR edgB
  by_cases h : k = 0
  · simp only [if_pos h]
    split
    · rename_i g; exact of_decide_eq_true g
    · simp
  · simp only [if_neg h]
    split
    · rename_i g
      have g := of_decide_eq_true g
      have := nf_len (sing ((nums (unitsR k s)).map V))
      rw [sing_len, List.length_map] at this
      omega
    · simp
theorem insR_sane (k lo hi' : Int) : sane (insR k lo hi') := by
  unfold insR
  split
  · exact nf_sane _
  · exact trivial
theorem touR_sane (k lo hi' : Int) : sane (touR k lo hi') := by
  unfold touR
  split
  · rename_i h
    unfold thB at h
    simp only [Bool.and_eq_true, decide_eq_true_eq] at h
    have b1 := ofV_bd k (max lo 0)
    have b2 := ofV_bd k (min hi' 3652424)
    have m : ofV k (max lo 0) ≤ ofV k (min hi' 3652424) := by
      obtain ⟨u1, u2, u3, u4⟩ := unum_ok h.2
      have e2 : ofV k (min hi' 3652424) = unum k (min hi' 3652424) := by unfold ofV; rw [if_pos h.2]
      rcases Bool.eq_false_or_eq_true (okO k (max lo 0)) with o | o
      · obtain ⟨v1, v2, v3, v4⟩ := unum_ok o
        have e1 : ofV k (max lo 0) = unum k (max lo 0) := by unfold ofV; rw [if_pos o]
        rw [e1, e2]
        rcases Int.lt_or_le (unum k (min hi' 3652424)) (unum k (max lo 0)) with c | c
        · have := unit_next (k := k) u1 c v2
          omega
        · exact c
      · have e1 : ofV k (max lo 0) = 0 := by unfold ofV; rw [o]; rfl
        omega
    exact sane_cons ⟨m, by simp only; omega, by simp only; omega⟩ (by intro s t h; cases h) trivial
  · exact trivial
end Go.Proofs.YtinpglfclbnhlaaGreatDoor

namespace Go.Proofs.YtinpglfclbnhlaaGreatDoor
open Go.RowKit
set_option linter.unusedVariables false
set_option linter.unusedSimpArgs false
end Go.Proofs.YtinpglfclbnhlaaGreatDoor

namespace Go.Proofs.YtinpglfclbnhlaaGreatDoor
open Go.RowKit
set_option linter.unusedVariables false
set_option linter.unusedSimpArgs false
set_option maxHeartbeats 4000000 in
set_option maxRecDepth 100000 in
theorem rgrow_any (v : Value) (l : List R) (k : Int) (w : World) (hv : RunsAt w v l) (hl : I64R l) (hn : l.length ≤ 1000000) :
    Calls Tryz.prog 29 #[v, .int .i64 k] w fun e w' => ∃ v' : Value, e = .returned v' ∧ RunsAt w' v' (nf (shR (-(grK k)) (grK k) (nf l))) ∧ Kp w w' := by
  obtain ⟨i0, hi, hz0, hz1, hz2⟩ := info_parts infoR
  have mx := mixedS
  have g : 0 ≤ grK k ∧ grK k ≤ 2199023255552 := by unfold grK; omega
  obtain ⟨x, hx⟩ : ∃ x, min (max k 0) 2199023255552 = x := ⟨_, rfl⟩
  have E : grK k = x := hx
  rw [E] at g ⊢
  clear E
  have C := Lib.hid (asR_any v l w hv hl hn w (Kp.refl w))
  have nl := nf_len l
  have OK := Lib.hid (sane_ok (nf_sane l))
  have SI := Lib.hid (shR_i64 OK.out (a := -x) (b := x) (by omega) (by omega) (by omega) (by omega))
  have hL : (nf l).length ≤ 1000000 := by omega
  clear hv hl nl hn
  generalize nf l = L at *
  go_enter Tryz.func29, Tryz.ntmps29
  go_wp2_with fail
  refine (C.out).mono ?_
  rintro e w1 ⟨v1, rfl, R0, kk⟩
  have K1 := Lib.hid kk
  have R1 := Lib.hid R0
  obtain ⟨ad1, c1, rfl⟩ := R1.out.slice
  clear R0 kk C
  go_wp2
  go_loopw [7, 8] (fun u7 u8 wr => ∃ j : Nat, j ≤ L.length ∧ u8 = .int .i64 j ∧ Hid (wr.ownsRow w1.heap.size 37 2 u7 (shR (-x) x (L.take j)).length (cellsR (shR (-x) x (L.take j)))) ∧ Hid (Kp w1 wr)) (fun _ u8 _ => L.length - (intOf u8).toNat)
  case atStart => exact ⟨0, Nat.zero_le _, rfl, Lib.hid (World.ownsRow_nil _ _ _ _), Lib.hid (Kp.refl _)⟩
  case round =>
    obtain ⟨j, hj, rfl, O, K2⟩ := hrel
    by_cases hlt : j < L.length
    · rcases R1.out with ⟨_, _, _, e⟩ | ⟨b0, off, cap, ev, hc, hm, hx⟩
      · rw [e] at hlt; simp at hlt
      cases ev
      obtain ⟨d1, d2⟩ := rd_at hx K2.out j hlt
      have RD := Lib.hid (fun w' (kk : Kp w1 w') => rd_at hx kk j hlt)
      clear hx hc hm
      obtain ⟨o1, o2, o3⟩ := OK.out _ (at_mem hlt)
      have S := Lib.hid (show shR (-x) x (L.take (j + 1)) = shR (-x) x (L.take j) ++ [((at_ L j).1 - x, (at_ L j).2 + x)] from shR_take (-x) x L j hlt)
      have tl : (shR (-x) x (L.take j)).length ≤ j := by rw [shR_len]; exact List.length_take_le _ _
      obtain ⟨lo, hi', ee⟩ : ∃ x y, at_ L j = (x, y) := ⟨_, _, rfl⟩
      rw [ee] at d1 d2 o1 o2 o3 S RD
      simp only at d1 d2 o1 o2 o3 S RD
      clear ee
      have hsz := K2.out.size
      have wa : IntKind.i64.wrap (lo - x) = lo - x := by rw [IntKind.wrap_i64]; omega
      have wb : IntKind.i64.wrap (hi' + x) = hi' + x := by rw [IntKind.wrap_i64]; omega
      have z0 : (0 : Int) ≤ (j : Int) := by omega
      have z1 : (j : Int) < (L.length : Int) := by omega
      have KS := Lib.hid (fun w' (kk : Kp wr w') => RD.out _ (K2.out.trans kk))
      have KG := Lib.hid (fun ws w' (kk : Kp wr ws) (g : ws.grownBy w' u7.ownBlock) => (show (w'.cell? ⟨b0, off + j * 2, none⟩ = some (.int .i64 lo) ∧ w'.cell? ⟨b0, off + j * 2 + 1, none⟩ = some (.int .i64 hi')) ∧ Kp w1 w' from
        have k5 : Kp w1 w' := Kp.grown (K2.out.trans kk) g (fun j hj => (O.out.lt j hj).1)
        ⟨RD.out _ k5, k5⟩))
      generalize shR (-x) x (L.take j) = M at *
      go_wp2_with fail
      go_region_held3 (fun w' => w'.cell? ⟨b0, off + j * 2, none⟩ = some (.int .i64 lo) ∧ w'.cell? ⟨b0, off + j * 2 + 1, none⟩ = some (.int .i64 hi'))
        (first | assumption | exact KS.out _ (by first | exact Kp.drew _ | exact Kp.drewN _ _ | exact (Kp.drew _).trans (Kp.alloc _ _) | exact (Kp.drewN _ _).trans (Kp.alloc _ _)))
        (first | (refine step_append_lies _ rfl (.tmp 20) (.tmp 36) 28 rfl w1.heap.size 37 i0 (.agg #[.int .i64 0, .int .i64 0]) 2 16 Tryz.underlying28 hi hz0 hz1 hz2 rfl (by decide) u7 M.length (cellsR M) (by simp [Act.eval, Act.put]) (World.ownsRow.alloc O.out _) ⟨wr.heap.size, 0, none⟩ 1 1 [.int .i64 (lo - x), .int .i64 (hi' + x)] (by simp [Act.eval, Act.put]) rfl (cell_one_at _ _ _ _) (by intro u hu; simp at hu; rcases hu with rfl | rfl <;> rfl) (by decide) (by unfold maxLen; omega) (by omega) (by simp; omega) _ rfl ?_; intro g4 cap4 w4 hown4 hgrow4 hat4 hlt4; have kg4 := KG.out _ _ ((Kp.drew _).trans (Kp.alloc _ _)) hgrow4; have kg5 := kg4.1; have kg6 := kg4.2))
      all_goals go_wp2
      all_goals refine ⟨⟨j + 1, by omega, by go_num, Lib.hid (by rw [S.out]; exact own_snoc hown4), Lib.hid kg6⟩, by simp only [intOf]; omega⟩
    · have A : L.take j = L := by rw [show j = L.length by omega, List.take_length]
      rw [A] at O
      clear A
      have q : decide ((j : Int) < L.length) = false := by simp; omega
      have C := Lib.hid (rmake_any _ (shR (-x) x L) wr (runsAt_own O.out) SI.out (by rw [shR_len]; exact hL))
      go_wp2_with fail
      refine (C.out).mono ?_
      rintro e w5 ⟨v5, rfl, own5, kk⟩
      have KK := Lib.hid (K1.out.trans (K2.out.trans kk))
      have OO := Lib.hid own5
      clear kk own5
      go_wp2
      go_ret
      exact ⟨_, rfl, OO.out, KK.out⟩
end Go.Proofs.YtinpglfclbnhlaaGreatDoor

namespace Go.Proofs.YtinpglfclbnhlaaGreatDoor
open Go.RowKit
set_option linter.unusedVariables false
set_option linter.unusedSimpArgs false
set_option maxHeartbeats 8000000 in
set_option maxRecDepth 100000 in
theorem rmeet_any (v u : Value) (l m : List R) (w : World) (hv : RunsAt w v l) (hu : RunsAt w u m) (hl : I64R l) (hm : I64R m) (hn : l.length ≤ 1000000) (hn2 : m.length ≤ 1000000) :
    Calls Tryz.prog 69 #[v, u] w fun e w' => ∃ v' : Value, e = .returned v' ∧ RunsAt w' v' (interR l m) ∧ Kp w w' := by
  obtain ⟨i0, hi, hz0, hz1, hz2⟩ := info_parts infoR
  have mx := mixedS
  have C1 := Lib.hid (fun w' (k : Kp w w') => asR_any v l w' (hv.kp k) hl (by omega) w' (Kp.refl _))
  have C2 := Lib.hid (fun w' (k : Kp w w') => asR_any u m w' (hu.kp k) hm (by omega) w' (Kp.refl _))
  have lA : (nf l).length ≤ 1000000 := by have := nf_len l; omega
  have lB : (nf m).length ≤ 1000000 := by have := nf_len m; omega
  have FIN := Lib.hid (mtL_inter l m)
  have OKA := Lib.hid (sane_ok (nf_sane l))
  have OKB := Lib.hid (sane_ok (nf_sane m))
  clear hv hu hl hm hn hn2
  generalize nf l = A at *
  generalize nf m = B at *
  generalize interR l m = RES at *
  go_enter Tryz.func69, Tryz.ntmps69
  go_wp2_with fail
  refine (C1.out _ (Kp.refl _)).mono ?_
  rintro e w1 ⟨v1, rfl, R0, k2⟩
  have C3 := Lib.hid (C2.out w1 k2)
  clear C2
  go_wp2_with fail
  refine (C3.out).mono ?_
  rintro e w2 ⟨v2, rfl, R02, kk2⟩
  have K2 := Lib.hid (k2.trans kk2)
  have R2 := Lib.hid R02
  have R1 := Lib.hid (R0.kp kk2)
  obtain ⟨ad1, c1, rfl⟩ := R1.out.slice
  obtain ⟨ad2, c2, rfl⟩ := R2.out.slice
  clear R0 R02 kk2 k2 C1 C3
  go_wp2
  go_loopw [7, 8] (fun u7 u8 wr => ∃ i : Nat, i ≤ A.length ∧ u8 = .int .i64 i ∧ Hid (wr.ownsRow w2.heap.size 37 2 u7 (mtO A B i 0).length (cellsR (mtO A B i 0))) ∧ Hid (Kp w2 wr)) (fun _ u8 _ => A.length - (intOf u8).toNat)
  case atStart => exact ⟨0, Nat.zero_le _, rfl, Lib.hid (by rw [mtO_start]; exact World.ownsRow_nil _ _ _ _), Lib.hid (Kp.refl _)⟩
  case round =>
    obtain ⟨wo, hwo⟩ : ∃ x : World, x = wr := ⟨wr, rfl⟩
    subst hwo
    obtain ⟨i, hiA, rfl, O, K3⟩ := hrel
    by_cases hlt : i < A.length
    · have z0 : (0 : Int) ≤ (i : Int) := by omega
      have z1 : (i : Int) < (A.length : Int) := by omega
      have ROW := Lib.hid (mtO_row A B i hlt)
      go_wp2
      go_loopw [7, 9] (fun u7 u9 wq => ∃ k : Nat, k ≤ B.length ∧ u9 = .int .i64 k ∧ Hid (wq.ownsRow w2.heap.size 37 2 u7 (mtO A B i k).length (cellsR (mtO A B i k))) ∧ Hid (Kp w2 wq)) (fun _ u9 _ => B.length - (intOf u9).toNat)
      case atStart => exact ⟨0, Nat.zero_le _, rfl, O, K3⟩
      case round =>
        obtain ⟨wq, hwq⟩ : ∃ x : World, x = wr := ⟨wr, rfl⟩
        subst hwq
        clear O K3
        obtain ⟨k, hkB, rfl, O, K3⟩ := hrel
        by_cases hlk : k < B.length
        · rcases R1.out with ⟨_, _, _, e⟩ | ⟨b1, off1, cap1, ev, hc, hm, hx⟩
          · rw [e] at hlt; simp at hlt
          cases ev
          rcases R2.out with ⟨_, _, _, e⟩ | ⟨b2, off2, cap2, ev, hc2, hm2, hx2⟩
          · rw [e] at hlk; simp at hlk
          cases ev
          have RD := Lib.hid (fun w' (kk : Kp w2 w') => And.intro (rd_at hx kk i hlt) (rd_at hx2 kk k hlk))
          clear hx hc hm hx2 hc2 hm2
          obtain ⟨p1, p2, p3⟩ := OKA.out _ (at_mem hlt)
          obtain ⟨s1, s2, s3⟩ := OKB.out _ (at_mem hlk)
          have NX := Lib.hid (mtO_next A B i k hlk)
          have ml : (mtO A B i k).length ≤ 1000000 * 1000000 := mtO_len hlt hkB lA lB
          obtain ⟨al, ah, ea⟩ : ∃ x y, at_ A i = (x, y) := ⟨_, _, rfl⟩
          obtain ⟨bl, bh, eb⟩ : ∃ x y, at_ B k = (x, y) := ⟨_, _, rfl⟩
          rw [ea] at p1 p2 p3 NX RD
          rw [eb] at s1 s2 s3 NX RD
          simp only at p1 p2 p3 s1 s2 s3 RD
          clear ea eb
          have y0 : (0 : Int) ≤ (k : Int) := by omega
          have y1 : (k : Int) < (B.length : Int) := by omega
          have hsz := K3.out.size
          have KS := Lib.hid (fun w' (kk : Kp wq w') => RD.out _ (K3.out.trans kk))
          have KG := Lib.hid (fun ws w' (kk : Kp wq ws) (g : ws.grownBy w' u7.ownBlock) => (show ((w'.cell? ⟨b1, off1 + i * 2, none⟩ = some (.int .i64 al) ∧ w'.cell? ⟨b1, off1 + i * 2 + 1, none⟩ = some (.int .i64 ah)) ∧ (w'.cell? ⟨b2, off2 + k * 2, none⟩ = some (.int .i64 bl) ∧ w'.cell? ⟨b2, off2 + k * 2 + 1, none⟩ = some (.int .i64 bh))) ∧ Kp w2 w' from
            have k5 : Kp w2 w' := Kp.grown (K3.out.trans kk) g (fun j hj => (O.out.lt j hj).1)
            ⟨RD.out _ k5, k5⟩))
          obtain ⟨⟨d1, d2⟩, d3, d4⟩ := RD.out _ K3.out
          generalize mtO A B i k = M at *
          by_cases c : max al bl ≤ min ah bh
          · have q1 : decide (max al bl ≤ min ah bh) = true := decide_eq_true c
            have EN := Lib.hid (show ov (al, ah) (bl, bh) = [(max al bl, min ah bh)] by unfold ov; simp only; rw [if_pos c])
            clear c
            go_wp2_with fail
            go_quiet (fail)
            have KQ := Lib.hid (Kp.drewN wq nq)
            have O2 := Lib.hid (own_kp O.out KQ.out)
            generalize wq.drewN nq = wy at KQ O2 ⊢
            clear d1 d2 d3 d4
            obtain ⟨⟨d1, d2⟩, d3, d4⟩ := KS.out _ KQ.out
            have hsy := Nat.le_trans hsz KQ.out.size
            go_wp2_with fail
            go_region_held3 (fun w' => (w'.cell? ⟨b1, off1 + i * 2, none⟩ = some (.int .i64 al) ∧ w'.cell? ⟨b1, off1 + i * 2 + 1, none⟩ = some (.int .i64 ah)) ∧ (w'.cell? ⟨b2, off2 + k * 2, none⟩ = some (.int .i64 bl) ∧ w'.cell? ⟨b2, off2 + k * 2 + 1, none⟩ = some (.int .i64 bh)))
              (first | assumption | exact KS.out _ (KQ.out.trans (by first | exact Kp.drew _ | exact Kp.drewN _ _ | exact (Kp.drew _).trans (Kp.alloc _ _) | exact (Kp.drewN _ _).trans (Kp.alloc _ _))))
              (first | (refine step_append_lies _ rfl (.tmp 49) (.tmp 73) 28 rfl w2.heap.size 37 i0 (.agg #[.int .i64 0, .int .i64 0]) 2 16 Tryz.underlying28 hi hz0 hz1 hz2 rfl (by decide) u7 M.length (cellsR M) (by simp [Act.eval, Act.put]) (World.ownsRow.alloc O2.out _) ⟨wy.heap.size, 0, none⟩ 1 1 [.int .i64 (max al bl), .int .i64 (min ah bh)] (by simp [Act.eval, Act.put]) rfl (cell_one_at _ _ _ _) (by intro u hu; simp at hu; rcases hu with rfl | rfl <;> rfl) (by decide) (by unfold maxLen; omega) (by omega) (by simp; omega) _ rfl ?_; intro g4 cap4 w4 hown4 hgrow4 hat4 hlt4; have kg4 := KG.out _ _ (KQ.out.trans ((Kp.drew _).trans (Kp.alloc _ _))) hgrow4; have kg5 := kg4.1; have kg6 := kg4.2))
            all_goals go_wp2
            all_goals refine ⟨⟨k + 1, by omega, by go_num, Lib.hid (by rw [NX.out, EN.out]; exact own_snoc hown4), Lib.hid kg6⟩, by simp only [intOf]; omega⟩
          · have q1 : decide (max al bl ≤ min ah bh) = false := decide_eq_false c
            have EN := Lib.hid (show ov (al, ah) (bl, bh) = [] by unfold ov; simp only; rw [if_neg c])
            clear c
            go_wp2_with fail
            go_quiet (fail)
            go_wp2
            refine ⟨⟨k + 1, by omega, by go_num, Lib.hid (by rw [NX.out, EN.out, List.append_nil]; exact own_drewN O.out _), Lib.hid (K3.out.trans (Kp.drewN _ _))⟩, by simp only [intOf]; omega⟩
        · obtain rfl : k = B.length := by omega
          have q0 : decide ((B.length : Int) < B.length) = false := by simp
          have O2 := O.out
          rw [ROW.out] at O2
          have O3 := Lib.hid O2
          clear O O2
          go_wp2
          refine ⟨⟨i + 1, by omega, by go_num, O3, K3⟩, by simp only [intOf]; omega⟩
    · obtain rfl : i = A.length := by omega
      have q0 : decide ((A.length : Int) < A.length) = false := by simp
      have O2 := O.out
      rw [mtO_end, FIN.out] at O2
      have O3 := Lib.hid (runsAt_own O2)
      clear O O2
      go_wp2
      go_ret
      exact ⟨_, rfl, O3.out, K2.out.trans K3.out⟩
end Go.Proofs.YtinpglfclbnhlaaGreatDoor

namespace Go.Proofs.YtinpglfclbnhlaaGreatDoor
open Go.RowKit
set_option linter.unusedVariables false
set_option linter.unusedSimpArgs false
set_option maxHeartbeats 1000000 in
theorem rclip_any (v : Value) (l : List R) (lo hi' : Int) (w : World) (hv : RunsAt w v l) (hl : I64R l) (hn : l.length ≤ 1000000) (hi64 : I64R [(lo, hi')]) :
    Calls Tryz.prog 50 #[v, .int .i64 lo, .int .i64 hi'] w fun e w' => ∃ v' : Value, e = .returned v' ∧ RunsAt w' v' (interR l [(lo, hi')]) ∧ Kp w w' := by
  have C := Lib.hid (fun t => rmeet_any v (.slice (some ⟨w.heap.size, 0, none⟩) 1 1) l [(lo, hi')] (w.alloc (.cells #[.int .i64 lo, .int .i64 hi'] t)) (hv.kp (Kp.alloc _ _)) (lit_at w [(lo, hi')] _ _ rfl (by simp [maxLen])) hl hi64 hn (by simp))
  clear hv hl
  generalize interR l [(lo, hi')] = RES at *
  go_enter Tryz.func50, Tryz.ntmps50
  go_wp2_with fail
  refine (C.out _).mono ?_
  rintro e w1 ⟨v1, rfl, R1, kk⟩
  have RR := Lib.hid R1
  have K := Lib.hid kk
  clear R1 kk C
  go_wp2
  go_ret
  exact ⟨_, rfl, RR.out, (Kp.alloc _ _).trans K.out⟩
end Go.Proofs.YtinpglfclbnhlaaGreatDoor

namespace Go.Proofs.YtinpglfclbnhlaaGreatDoor
open Go.RowKit
set_option linter.unusedVariables false
set_option linter.unusedSimpArgs false
set_option maxHeartbeats 1000000 in
theorem runits_any (k : Int) (v : Value) (s : List R) (w : World) (hv : RunsAt w v s) (hl : I64R s) (hn : s.length ≤ 1000000) :
    Calls Tryz.prog 28 #[.int .i64 k, v] w fun e w' => ∃ v' : Value, e = .returned v' ∧ RunsAt w' v' (unitsR k s) ∧ Kp w w' := by
  have c := cnt_bd k
  have C := Lib.hid (rcount_any k w)
  have D := Lib.hid (rclip_any v s 0 (cnt k - 1) w hv hl hn (i64_one (by omega) (by omega) (by omega) (by omega)))
  have E : unitsR k s = interR s [(0, cnt k - 1)] := rfl
  rw [E]
  generalize interR s [(0, cnt k - 1)] = RES at *
  generalize cnt k = m at *
  clear hv hl E
  go_enter Tryz.func28, Tryz.ntmps28
  go_wp2_with fail
  refine (C.out).mono ?_
  rintro e w' ⟨rfl, rfl⟩
  go_wp2_with fail
  refine (D.out).mono ?_
  rintro e w1 ⟨v1, rfl, R1, kk⟩
  have RR := Lib.hid R1
  have K := Lib.hid kk
  clear R1 kk C D
  go_wp2
  go_ret
  exact ⟨_, rfl, RR.out, K.out⟩
set_option maxHeartbeats 1000000 in
theorem rends0_any (b : Bool) (v : Value) (s : List R) (w : World) (hv : RunsAt w v s) (hl : I64R s) (hn : s.length ≤ 1000000) :
    Calls Tryz.prog 47 #[.int .i64 0, v, .bool b] w fun e w' => ∃ v' : Value, e = .returned (.tuple #[v', .bool (edgB 0 s)]) ∧ RunsAt w' v' (unitsR 0 s) ∧ Kp w w' := by
  have C := Lib.hid (runits_any 0 v s w hv hl hn)
  have EB : edgB 0 s = decide ((unitsR 0 s).length ≤ 400) := by unfold edgB; rw [if_pos rfl]
  rw [EB]
  clear hv hl EB
  generalize unitsR 0 s = L at *
  have E : decide ((L.length : Int) ≤ 400) = decide (L.length ≤ 400) := by
    by_cases h : L.length ≤ 400
    · rw [decide_eq_true h, decide_eq_true (by omega)]
    · rw [decide_eq_false h, decide_eq_false (by omega)]
  obtain ⟨D, hD⟩ : ∃ D, decide (L.length ≤ 400) = D := ⟨_, rfl⟩
  rw [hD]
  rw [hD] at E
  clear hD
  go_enter Tryz.func47, Tryz.ntmps47
  go_wp2_with fail
  refine (C.out).mono ?_
  rintro e w1 ⟨v1, rfl, R1, kk⟩
  obtain ⟨a1, c1, rfl⟩ := R1.slice
  have RR := Lib.hid R1
  have K := Lib.hid kk
  clear R1 kk C
  go_wp2
  go_ret2
  exact ⟨_, rfl, RR.out, K.out⟩
set_option maxRecDepth 100000 in
set_option maxHeartbeats 4000000 in
theorem rendsfalse_any (k : Int) (k0 : k ≠ 0) (v : Value) (s : List R) (w : World) (hv : RunsAt w v s) (hl : I64R s) (hn : s.length ≤ 1000000) :
    Calls Tryz.prog 47 #[.int .i64 k, v, .bool false] w fun e w' => ∃ v' : Value, e = .returned (.tuple #[v', .bool (decide ((nums (unitsR k s)).length ≤ 400))]) ∧ RunsAt w' v' (if (nums (unitsR k s)).length ≤ 400 then sing ((nums (unitsR k s)).map (firV k)) else []) ∧ Kp w w' := by
  obtain ⟨i0, hi, hz0, hz1, hz2⟩ := info_parts infoR
  have C := Lib.hid (runits_any k v s w hv hl hn)
  have q0 : (k == 0) = false := by simp [k0]
  have cb := cnt_bd k
  have hu := fun r hr => unitsR_in (k := k) (s := s) (r := r) hr
  have hlen := unitsR_len (k := k) hn
  clear hv hl
  generalize unitsR k s = L at *
  obtain ⟨bb, hbb⟩ : ∃ b, decide ((nums L).length ≤ 400) = b := ⟨_, rfl⟩
  obtain ⟨rl, hrl⟩ : ∃ l, (if (nums L).length ≤ 400 then sing ((nums L).map (firV k)) else []) = l := ⟨_, rfl⟩
  rw [hbb, hrl]
  have HB := Lib.hid hbb
  have HL := Lib.hid hrl
  clear hbb hrl
  go_enter Tryz.func47, Tryz.ntmps47
  go_wp2_with fail
  refine (C.out).mono ?_
  rintro e w1 ⟨v1, rfl, R1, kk⟩
  obtain ⟨a1, c1, rfl⟩ := R1.slice
  have RR := Lib.hid R1
  have K1 := Lib.hid kk
  clear R1 kk C
  go_wp2
  go_loopw [9, 10] (fun u9 i wr => ∃ j : Nat, j ≤ L.length ∧ i = .int .i64 j ∧ Hid ((nums (L.take j)).length ≤ 400) ∧ Hid (wr.ownsRow w1.heap.size 37 2 u9 (sing ((nums (L.take j)).map (firV k))).length (cellsR (sing ((nums (L.take j)).map (firV k))))) ∧ Hid (Kp w1 wr)) (fun _ i _ => L.length - (intOf i).toNat)
  case atStart => exact ⟨0, Nat.zero_le _, rfl, Lib.hid (by simp [nums]), Lib.hid (World.ownsRow_nil _ _ _ _), Lib.hid (Kp.refl _)⟩
  case round =>
    obtain ⟨j, hj, rfl, NL, O, K2⟩ := hrel
    obtain ⟨wo, HW⟩ : ∃ x, x = wr := ⟨_, rfl⟩
    subst HW
    by_cases hlt : j < L.length
    · rcases RR.out with ⟨_, _, _, e⟩ | ⟨b0, off, cap, ev, hc, hm, hx⟩
      · rw [e] at hlt; simp at hlt
      cases ev
      have NT := Lib.hid (nums_take L j hlt)
      have NP := Lib.hid (fun m hm => nums_part L j m hlt hm)
      obtain ⟨h1, h2, h3⟩ := hu (at_ L j) (by unfold at_; simp [List.getD, hlt])
      obtain ⟨c1, c2⟩ := hx j hlt
      have D1 := Lib.hid (fun wx (kx : Kp w1 wx) => (Below.cell (p := ⟨b0, off + j * 2, none⟩) kx (World.block_lt_of_cell? _ _ c1)).trans c1)
      have D2 := Lib.hid (fun wx (kx : Kp w1 wx) => (Below.cell (p := ⟨b0, off + j * 2 + 1, none⟩) kx (World.block_lt_of_cell? _ _ c2)).trans c2)
      clear hx hc hm c1 c2
      obtain ⟨lo, hi', ee⟩ : ∃ x y, at_ L j = (x, y) := ⟨_, _, rfl⟩
      rw [ee] at D1 D2 h1 h2 h3 NT NP
      simp only at D1 D2 h1 h2 h3 NP
      clear ee
      have hsz := K2.out.size
      have z0 : (0 : Int) ≤ (j : Int) := by omega
      have z1 : (j : Int) < (L.length : Int) := by omega
      have d1 := D1.out _ K2.out
      go_wp2
      go_loopw [9, 11] (fun u9 i wr => ∃ m : Nat, m ≤ (hi' - lo + 1).toNat ∧ i = .int .i64 (lo + (m : Int)) ∧ Hid ((nums (L.take j) ++ upF lo m).length ≤ 400) ∧ Hid (wr.ownsRow w1.heap.size 37 2 u9 (sing ((nums (L.take j) ++ upF lo m).map (firV k))).length (cellsR (sing ((nums (L.take j) ++ upF lo m).map (firV k))))) ∧ Hid (Kp w1 wr)) (fun _ i _ => (hi' + 1 - intOf i).toNat)
      case atStart => exact ⟨0, Nat.zero_le _, by simp, by rw [show upF lo 0 = [] from rfl, List.append_nil]; exact NL, by rw [show upF lo 0 = [] from rfl, List.append_nil]; exact O, K2⟩
      case round =>
        obtain ⟨m, hm, rfl, NM, OM, K4⟩ := hrel
        have d2 := D2.out _ K4.out
        by_cases hlm : lo + (m : Int) ≤ hi'
        · have q1 : decide (lo + (m : Int) ≤ hi') = true := decide_eq_true hlm
          have hm1 : m + 1 ≤ (hi' - lo + 1).toNat := by omega
          have pf := NP.out (m + 1) hm1
          rw [upF_succ, ← List.append_assoc] at pf
          obtain ⟨P, hP⟩ : ∃ P, nums (L.take j) ++ upF lo m = P := ⟨_, rfl⟩
          rw [hP] at pf NM OM
          have S := Lib.hid (show sing ((nums (L.take j) ++ upF lo (m + 1)).map (firV k)) = sing (P.map (firV k)) ++ [(firV k (lo + (m : Int)), firV k (lo + (m : Int)))] by rw [upF_succ, ← List.append_assoc, hP]; simp [sing])
          have SL := Lib.hid (show (nums (L.take j) ++ upF lo (m + 1)).length = P.length + 1 by rw [upF_succ, ← List.append_assoc, hP]; simp)
          have PF := Lib.hid pf.length_le
          have tl : (sing (P.map (firV k))).length = P.length := by rw [sing_len, List.length_map]
          have nm := NM.out
          clear pf hP
          generalize sing (P.map (firV k)) = M at *
          have F := Lib.hid (fun wx => rfirst_any k (lo + (m : Int)) wx)
          have G := Lib.hid (fun wx => rlast_any k (lo + (m : Int)) wx)
          have hsz4 := K4.out.size
          have tl2 : M.length ≤ 400 := by omega
          have TL := Lib.hid tl
          clear tl
          go_wp2_with fail
          refine (F.out _).mono ?_
          rintro e w' ⟨rfl, rfl⟩
          generalize firV k (lo + (m : Int)) = d at *
          by_cases h5 : M.length = 400
          · have q5 : decide ((400 : Int) < (M.length : Int) + 1) = true := by simp; omega
            have q6 : decide ((400 : Int) < ((M.length + 1 : Nat) : Int)) = true := by simp; omega
            go_wp2_with (at_builtin; refine wpList_app rfl (.tmp 59) (.tmp 63) 28 rfl w1.heap.size 37 i0 (.agg #[.int .i64 0, .int .i64 0]) 2 16 Tryz.underlying28 hi hz0 hz1 hz2 rfl (by decide) _ _ _ rfl (OM.out.alloc _) _ _ _ rfl (one_src _ _ _ _) rfl (by intro u hu; simp at hu; rcases hu with rfl | rfl <;> rfl) (by unfold maxLen; omega) (by omega) (by simp; omega) ?_; intro v4 w6 hown4 hgrow4 hat4; obtain ⟨a4, cp4, rfl⟩ := own_slice hown4)
            have EN : Hid (¬ (nums L).length ≤ 400) := by have z := PF.out; have z2 := TL.out; simp only [List.length_append, List.length_singleton] at z; unfold Hid; omega
            have KK := Lib.hid (K1.out.trans (Kp.grown (K4.out.trans (Kp.alloc wr (.cells #[.int .i64 d, .int .i64 d] 37))) hgrow4 (fun j hj => (OM.out.lt j hj).1)))
            clear hown4 hgrow4 hat4
            try go_wp2
            go_ret2
            exact ⟨.slice none 0 0, by (rw [← HB.out, decide_eq_false EN.out]; try rfl), by rw [← HL.out, if_neg EN.out]; exact .inl ⟨_, _, rfl, rfl⟩, KK.out⟩
          · have q5 : decide ((400 : Int) < (M.length : Int) + 1) = false := by simp; omega
            have h6 : (M.length : Int) + 1 ≤ 400 := by omega
            have q6 : decide ((400 : Int) < ((M.length + 1 : Nat) : Int)) = false := by simp; omega
            go_wp2_with (at_builtin; refine wpList_app rfl (.tmp 59) (.tmp 63) 28 rfl w1.heap.size 37 i0 (.agg #[.int .i64 0, .int .i64 0]) 2 16 Tryz.underlying28 hi hz0 hz1 hz2 rfl (by decide) _ _ _ rfl (OM.out.alloc _) _ _ _ rfl (one_src _ _ _ _) rfl (by intro u hu; simp at hu; rcases hu with rfl | rfl <;> rfl) (by unfold maxLen; omega) (by omega) (by simp; omega) ?_; intro v4 w6 hown4 hgrow4 hat4; obtain ⟨a4, cp4, rfl⟩ := own_slice hown4)
            have KK := Lib.hid (Kp.grown (K4.out.trans (Kp.alloc wr (.cells #[.int .i64 d, .int .i64 d] 37))) hgrow4 (fun j hj => (OM.out.lt j hj).1))
            have OO := Lib.hid (own_snoc hown4)
            clear hown4 hgrow4 hat4
            try go_wp2
            go_roundw
            case rel => exact ⟨m + 1, hm1, by go_num, Lib.hid (by have := TL.out; rw [SL.out]; omega), Lib.hid (by rw [S.out]; exact OO.out), KK⟩
            case measure => simp [intOf]; omega
        · have q1 : decide (lo + (m : Int) ≤ hi') = false := decide_eq_false hlm
          have em : m = (hi' - lo + 1).toNat := by omega
          have EE : nums (L.take (j + 1)) = nums (L.take j) ++ upF lo m := by rw [NT.out]; unfold runF; simp only; rw [← em]
          rw [← EE] at NM OM
          go_wp2
          go_roundw
          case rel => exact ⟨j + 1, by omega, by go_num, NM, OM, K4⟩
          case measure => simp [intOf]; omega
    · have A : L.take j = L := by rw [show j = L.length by omega, List.take_length]
      rw [A] at O NL
      have q : decide ((j : Int) < L.length) = false := by simp; omega
      obtain ⟨a9, c9, rfl⟩ := own_slice O.out
      have RES := Lib.hid (runsAt_own O.out)
      clear A O
      have KK := Lib.hid (K1.out.trans K2.out)
      go_wp2
      go_ret2
      refine ⟨.slice a9 _ c9, by (rw [← HB.out, decide_eq_true NL.out]; try rfl), by rw [← HL.out, if_pos NL.out]; exact RES.out, KK.out⟩
set_option maxRecDepth 100000 in
set_option maxHeartbeats 4000000 in
theorem rendstrue_any (k : Int) (k0 : k ≠ 0) (v : Value) (s : List R) (w : World) (hv : RunsAt w v s) (hl : I64R s) (hn : s.length ≤ 1000000) :
    Calls Tryz.prog 47 #[.int .i64 k, v, .bool true] w fun e w' => ∃ v' : Value, e = .returned (.tuple #[v', .bool (decide ((nums (unitsR k s)).length ≤ 400))]) ∧ RunsAt w' v' (if (nums (unitsR k s)).length ≤ 400 then sing ((nums (unitsR k s)).map (lasV k)) else []) ∧ Kp w w' := by
  obtain ⟨i0, hi, hz0, hz1, hz2⟩ := info_parts infoR
  have C := Lib.hid (runits_any k v s w hv hl hn)
  have q0 : (k == 0) = false := by simp [k0]
  have cb := cnt_bd k
  have hu := fun r hr => unitsR_in (k := k) (s := s) (r := r) hr
  have hlen := unitsR_len (k := k) hn
  clear hv hl
  generalize unitsR k s = L at *
  obtain ⟨bb, hbb⟩ : ∃ b, decide ((nums L).length ≤ 400) = b := ⟨_, rfl⟩
  obtain ⟨rl, hrl⟩ : ∃ l, (if (nums L).length ≤ 400 then sing ((nums L).map (lasV k)) else []) = l := ⟨_, rfl⟩
  rw [hbb, hrl]
  have HB := Lib.hid hbb
  have HL := Lib.hid hrl
  clear hbb hrl
  go_enter Tryz.func47, Tryz.ntmps47
  go_wp2_with fail
  refine (C.out).mono ?_
  rintro e w1 ⟨v1, rfl, R1, kk⟩
  obtain ⟨a1, c1, rfl⟩ := R1.slice
  have RR := Lib.hid R1
  have K1 := Lib.hid kk
  clear R1 kk C
  go_wp2
  go_loopw [9, 10] (fun u9 i wr => ∃ j : Nat, j ≤ L.length ∧ i = .int .i64 j ∧ Hid ((nums (L.take j)).length ≤ 400) ∧ Hid (wr.ownsRow w1.heap.size 37 2 u9 (sing ((nums (L.take j)).map (lasV k))).length (cellsR (sing ((nums (L.take j)).map (lasV k))))) ∧ Hid (Kp w1 wr)) (fun _ i _ => L.length - (intOf i).toNat)
  case atStart => exact ⟨0, Nat.zero_le _, rfl, Lib.hid (by simp [nums]), Lib.hid (World.ownsRow_nil _ _ _ _), Lib.hid (Kp.refl _)⟩
  case round =>
    obtain ⟨j, hj, rfl, NL, O, K2⟩ := hrel
    obtain ⟨wo, HW⟩ : ∃ x, x = wr := ⟨_, rfl⟩
    subst HW
    by_cases hlt : j < L.length
    · rcases RR.out with ⟨_, _, _, e⟩ | ⟨b0, off, cap, ev, hc, hm, hx⟩
      · rw [e] at hlt; simp at hlt
      cases ev
      have NT := Lib.hid (nums_take L j hlt)
      have NP := Lib.hid (fun m hm => nums_part L j m hlt hm)
      obtain ⟨h1, h2, h3⟩ := hu (at_ L j) (by unfold at_; simp [List.getD, hlt])
      obtain ⟨c1, c2⟩ := hx j hlt
      have D1 := Lib.hid (fun wx (kx : Kp w1 wx) => (Below.cell (p := ⟨b0, off + j * 2, none⟩) kx (World.block_lt_of_cell? _ _ c1)).trans c1)
      have D2 := Lib.hid (fun wx (kx : Kp w1 wx) => (Below.cell (p := ⟨b0, off + j * 2 + 1, none⟩) kx (World.block_lt_of_cell? _ _ c2)).trans c2)
      clear hx hc hm c1 c2
      obtain ⟨lo, hi', ee⟩ : ∃ x y, at_ L j = (x, y) := ⟨_, _, rfl⟩
      rw [ee] at D1 D2 h1 h2 h3 NT NP
      simp only at D1 D2 h1 h2 h3 NP
      clear ee
      have hsz := K2.out.size
      have z0 : (0 : Int) ≤ (j : Int) := by omega
      have z1 : (j : Int) < (L.length : Int) := by omega
      have d1 := D1.out _ K2.out
      go_wp2
      go_loopw [9, 11] (fun u9 i wr => ∃ m : Nat, m ≤ (hi' - lo + 1).toNat ∧ i = .int .i64 (lo + (m : Int)) ∧ Hid ((nums (L.take j) ++ upF lo m).length ≤ 400) ∧ Hid (wr.ownsRow w1.heap.size 37 2 u9 (sing ((nums (L.take j) ++ upF lo m).map (lasV k))).length (cellsR (sing ((nums (L.take j) ++ upF lo m).map (lasV k))))) ∧ Hid (Kp w1 wr)) (fun _ i _ => (hi' + 1 - intOf i).toNat)
      case atStart => exact ⟨0, Nat.zero_le _, by simp, by rw [show upF lo 0 = [] from rfl, List.append_nil]; exact NL, by rw [show upF lo 0 = [] from rfl, List.append_nil]; exact O, K2⟩
      case round =>
        obtain ⟨m, hm, rfl, NM, OM, K4⟩ := hrel
        have d2 := D2.out _ K4.out
        by_cases hlm : lo + (m : Int) ≤ hi'
        · have q1 : decide (lo + (m : Int) ≤ hi') = true := decide_eq_true hlm
          have hm1 : m + 1 ≤ (hi' - lo + 1).toNat := by omega
          have pf := NP.out (m + 1) hm1
          rw [upF_succ, ← List.append_assoc] at pf
          obtain ⟨P, hP⟩ : ∃ P, nums (L.take j) ++ upF lo m = P := ⟨_, rfl⟩
          rw [hP] at pf NM OM
          have S := Lib.hid (show sing ((nums (L.take j) ++ upF lo (m + 1)).map (lasV k)) = sing (P.map (lasV k)) ++ [(lasV k (lo + (m : Int)), lasV k (lo + (m : Int)))] by rw [upF_succ, ← List.append_assoc, hP]; simp [sing])
          have SL := Lib.hid (show (nums (L.take j) ++ upF lo (m + 1)).length = P.length + 1 by rw [upF_succ, ← List.append_assoc, hP]; simp)
          have PF := Lib.hid pf.length_le
          have tl : (sing (P.map (lasV k))).length = P.length := by rw [sing_len, List.length_map]
          have nm := NM.out
          clear pf hP
          generalize sing (P.map (lasV k)) = M at *
          have F := Lib.hid (fun wx => rfirst_any k (lo + (m : Int)) wx)
          have G := Lib.hid (fun wx => rlast_any k (lo + (m : Int)) wx)
          have hsz4 := K4.out.size
          have tl2 : M.length ≤ 400 := by omega
          have TL := Lib.hid tl
          clear tl
          go_wp2_with fail
          refine (F.out _).mono ?_
          rintro e w' ⟨rfl, rfl⟩
          go_wp2_with fail
          refine (G.out _).mono ?_
          rintro e w' ⟨rfl, rfl⟩
          generalize lasV k (lo + (m : Int)) = d at *
          by_cases h5 : M.length = 400
          · have q5 : decide ((400 : Int) < (M.length : Int) + 1) = true := by simp; omega
            have q6 : decide ((400 : Int) < ((M.length + 1 : Nat) : Int)) = true := by simp; omega
            go_wp2_with (at_builtin; refine wpList_app rfl (.tmp 59) (.tmp 63) 28 rfl w1.heap.size 37 i0 (.agg #[.int .i64 0, .int .i64 0]) 2 16 Tryz.underlying28 hi hz0 hz1 hz2 rfl (by decide) _ _ _ rfl (OM.out.alloc _) _ _ _ rfl (one_src _ _ _ _) rfl (by intro u hu; simp at hu; rcases hu with rfl | rfl <;> rfl) (by unfold maxLen; omega) (by omega) (by simp; omega) ?_; intro v4 w6 hown4 hgrow4 hat4; obtain ⟨a4, cp4, rfl⟩ := own_slice hown4)
            have EN : Hid (¬ (nums L).length ≤ 400) := by have z := PF.out; have z2 := TL.out; simp only [List.length_append, List.length_singleton] at z; unfold Hid; omega
            have KK := Lib.hid (K1.out.trans (Kp.grown (K4.out.trans (Kp.alloc wr (.cells #[.int .i64 d, .int .i64 d] 37))) hgrow4 (fun j hj => (OM.out.lt j hj).1)))
            clear hown4 hgrow4 hat4
            try go_wp2
            go_ret2
            exact ⟨.slice none 0 0, by (rw [← HB.out, decide_eq_false EN.out]; try rfl), by rw [← HL.out, if_neg EN.out]; exact .inl ⟨_, _, rfl, rfl⟩, KK.out⟩
          · have q5 : decide ((400 : Int) < (M.length : Int) + 1) = false := by simp; omega
            have h6 : (M.length : Int) + 1 ≤ 400 := by omega
            have q6 : decide ((400 : Int) < ((M.length + 1 : Nat) : Int)) = false := by simp; omega
            go_wp2_with (at_builtin; refine wpList_app rfl (.tmp 59) (.tmp 63) 28 rfl w1.heap.size 37 i0 (.agg #[.int .i64 0, .int .i64 0]) 2 16 Tryz.underlying28 hi hz0 hz1 hz2 rfl (by decide) _ _ _ rfl (OM.out.alloc _) _ _ _ rfl (one_src _ _ _ _) rfl (by intro u hu; simp at hu; rcases hu with rfl | rfl <;> rfl) (by unfold maxLen; omega) (by omega) (by simp; omega) ?_; intro v4 w6 hown4 hgrow4 hat4; obtain ⟨a4, cp4, rfl⟩ := own_slice hown4)
            have KK := Lib.hid (Kp.grown (K4.out.trans (Kp.alloc wr (.cells #[.int .i64 d, .int .i64 d] 37))) hgrow4 (fun j hj => (OM.out.lt j hj).1))
            have OO := Lib.hid (own_snoc hown4)
            clear hown4 hgrow4 hat4
            try go_wp2
            go_roundw
            case rel => exact ⟨m + 1, hm1, by go_num, Lib.hid (by have := TL.out; rw [SL.out]; omega), Lib.hid (by rw [S.out]; exact OO.out), KK⟩
            case measure => simp [intOf]; omega
        · have q1 : decide (lo + (m : Int) ≤ hi') = false := decide_eq_false hlm
          have em : m = (hi' - lo + 1).toNat := by omega
          have EE : nums (L.take (j + 1)) = nums (L.take j) ++ upF lo m := by rw [NT.out]; unfold runF; simp only; rw [← em]
          rw [← EE] at NM OM
          go_wp2
          go_roundw
          case rel => exact ⟨j + 1, by omega, by go_num, NM, OM, K4⟩
          case measure => simp [intOf]; omega
    · have A : L.take j = L := by rw [show j = L.length by omega, List.take_length]
      rw [A] at O NL
      have q : decide ((j : Int) < L.length) = false := by simp; omega
      obtain ⟨a9, c9, rfl⟩ := own_slice O.out
      have RES := Lib.hid (runsAt_own O.out)
      clear A O
      have KK := Lib.hid (K1.out.trans K2.out)
      go_wp2
      go_ret2
      refine ⟨.slice a9 _ c9, by (rw [← HB.out, decide_eq_true NL.out]; try rfl), by rw [← HL.out, if_pos NL.out]; exact RES.out, KK.out⟩
end Go.Proofs.YtinpglfclbnhlaaGreatDoor

namespace Go.Proofs.YtinpglfclbnhlaaGreatDoor
open Go.RowKit
set_option linter.unusedVariables false
set_option linter.unusedSimpArgs false
theorem fst_low : fst 2 0 = 60 := by
  obtain ⟨a1, a2, a3, a4, a5⟩ := months (k := 2) (i := 0) (Int.le_refl _) (by decide) (by decide)
  rw [a4, show sm 2 0 = 2 by decide, mon_2]
theorem okO_in {k d : Int} (h : 0 < cnt k) (h0 : 0 ≤ d) (h1 : d ≤ 3652424) (g : k = 2 → 60 ≤ d) : okO k d = true := by
  rcases Bool.eq_false_or_eq_true (okO k d) with e | e
  · exact e
  · rcases okO_no e h0 h1 with c | ⟨c, c2⟩
    · omega
    · have := g c; omega
theorem okO_out {k d : Int} (h : okO k d = true) : 0 < cnt k ∧ 0 ≤ d ∧ d ≤ 3652424 ∧ (k = 2 → 60 ≤ d) := by
  obtain ⟨a, b, c, e⟩ := (okO_iff k d).1 h
  refine ⟨a, b, c, fun k2 => ?_⟩
  subst k2
  obtain ⟨u1, u2, u3, u4⟩ := unum_ok h
  have := fst_mono (k := 2) (Int.le_refl 0) u1 u2
  rw [fst_low] at this
  omega
theorem ofV_low : ofV 2 60 = 0 := by
  have ok : okO 2 60 = true := okO_in (by decide) (by decide) (by decide) (fun _ => Int.le_refl _)
  obtain ⟨u1, u2, u3, u4⟩ := unum_ok ok
  unfold ofV
  rw [if_pos ok]
  rcases Int.lt_or_le 0 (unum 2 60) with c | c
  · have := unit_next (k := 2) (Int.le_refl 0) c u2
    have := span_bd (k := 2) (Int.le_refl 0) (by omega)
    rw [fst_low] at this
    omega
  · omega
/-- the document's least day -/
def lowD (k lo : Int) : Int := if k = 2 then max (max lo 0) 60 else max lo 0
noncomputable def thR (k lo hi' : Int) : Bool := decide (lowD k lo ≤ min hi' 3652424) && (okO k (lowD k lo) && okO k (min hi' 3652424))
theorem thR_eq (k lo hi' : Int) : thR k lo hi' = thB k lo hi' := by
  rw [Bool.eq_iff_iff]
  unfold thR thB
  simp only [Bool.and_eq_true, decide_eq_true_eq]
  have b : max lo 0 ≤ lowD k lo := by unfold lowD; split <;> omega
  constructor
  · rintro ⟨h1, h2, h3⟩
    exact ⟨by omega, h3⟩
  · rintro ⟨h1, h3⟩
    obtain ⟨c1, c2, c3, c4⟩ := okO_out h3
    have : lowD k lo ≤ min hi' 3652424 := by
      unfold lowD
      split
      · rename_i e; have := c4 e; omega
      · omega
    exact ⟨this, okO_in c1 (by omega) (by omega) (by intro e; unfold lowD; rw [if_pos e]; omega), h3⟩
theorem thB_of {k lo hi' : Int} (h : thB k lo hi' = true) : ofV k (max lo 0) = ofV k (lowD k lo) := by
  unfold lowD
  split
  · rename_i e
    subst e
    by_cases c : 60 ≤ max lo 0
    · rw [show max (max lo 0) 60 = max lo 0 by omega]
    · rw [show max (max lo 0) 60 = 60 by omega, ofV_low]
      unfold ofV
      rcases Bool.eq_false_or_eq_true (okO 2 (max lo 0)) with o | o
      · have := (okO_out o).2.2.2 rfl; omega
      · rw [o]; rfl
  · rfl
noncomputable def touS (k lo hi' : Int) : List R := if thR k lo hi' = true then [(ofV k (lowD k lo), ofV k (min hi' 3652424))] else []
theorem touS_eq (k lo hi' : Int) : touS k lo hi' = touR k lo hi' := by
  unfold touS touR
  rw [thR_eq]
  split
  · rename_i h; rw [thB_of h]
  · rfl
noncomputable def insS (k lo hi' : Int) : List R := if thR k lo hi' = true then nf [(ofV k (lowD k lo) + (if firV k (ofV k (lowD k lo)) < lowD k lo then 1 else 0), ofV k (min hi' 3652424) - (if min hi' 3652424 < lasV k (ofV k (min hi' 3652424)) then 1 else 0))] else []
theorem insS_eq (k lo hi' : Int) : insS k lo hi' = insR k lo hi' := by
  unfold insS insR
  rw [thR_eq]
  split
  · rename_i h
    unfold insP
    rw [thB_of h]
    have ok := h
    rw [← thR_eq] at ok
    unfold thR at ok
    simp only [Bool.and_eq_true, decide_eq_true_eq] at ok
    obtain ⟨o1, o2, o3⟩ := ok
    obtain ⟨u1, u2, u3, u4⟩ := unum_ok o2
    obtain ⟨v1, v2, v3, v4⟩ := unum_ok o3
    have e1 : ofV k (lowD k lo) = unum k (lowD k lo) := by unfold ofV; rw [if_pos o2]
    have e2 : ofV k (min hi' 3652424) = unum k (min hi' 3652424) := by unfold ofV; rw [if_pos o3]
    rw [e1, e2, firV_in u1 u2, lasV_in v1 v2]
    have s1 := span_bd u1 u2
    have s2 := span_bd v1 v2
    have x1 : (fst k (unum k (lowD k lo)) < lowD k lo) ↔ (fst k (unum k (lowD k lo)) < lo) := by
      unfold lowD
      split
      · rename_i e
        subst e
        have := fst_mono (k := 2) (Int.le_refl 0) u1 u2
        rw [fst_low] at this
        unfold lowD at this
        rw [if_pos rfl] at this
        omega
      · rename_i e
        unfold lowD at s1
        rw [if_neg e] at s1
        omega
    have x2 : (min hi' 3652424 < lst k (unum k (min hi' 3652424))) ↔ (hi' < lst k (unum k (min hi' 3652424))) := by omega
    simp only [x1, x2]
  · rfl
theorem rendsF_all (k : Int) (v : Value) (s : List R) (w : World) (hv : RunsAt w v s) (hl : I64R s) (hn : s.length ≤ 1000000) :
    Calls Tryz.prog 47 #[.int .i64 k, v, .bool false] w fun e w' => ∃ (v' : Value) (l : List R), e = .returned (.tuple #[v', .bool (edgB k s)]) ∧ RunsAt w' v' l ∧ (edgB k s = true → l = edgR (firV k) k s) ∧ Kp w w' := by
  by_cases h : k = 0
  · subst h
    refine (rends0_any false v s w hv hl hn).mono ?_
    rintro e w' ⟨v', rfl, r, kk⟩
    exact ⟨v', _, rfl, r, fun g => by unfold edgR; rw [if_pos g, if_pos rfl], kk⟩
  · refine (rendsfalse_any k h v s w hv hl hn).mono ?_
    rintro e w' ⟨v', rfl, r, kk⟩
    have E : edgB k s = decide ((nums (unitsR k s)).length ≤ 400) := by unfold edgB; rw [if_neg h]
    refine ⟨v', _, by rw [E], r, fun g => ?_, kk⟩
    rw [edgR_fir, if_pos g, if_neg h]
    rw [E] at g
    rw [if_pos (of_decide_eq_true g)]
theorem rendsL_all (k : Int) (v : Value) (s : List R) (w : World) (hv : RunsAt w v s) (hl : I64R s) (hn : s.length ≤ 1000000) :
    Calls Tryz.prog 47 #[.int .i64 k, v, .bool true] w fun e w' => ∃ (v' : Value) (l : List R), e = .returned (.tuple #[v', .bool (edgB k s)]) ∧ RunsAt w' v' l ∧ (edgB k s = true → l = edgR (lasV k) k s) ∧ Kp w w' := by
  by_cases h : k = 0
  · subst h
    refine (rends0_any true v s w hv hl hn).mono ?_
    rintro e w' ⟨v', rfl, r, kk⟩
    exact ⟨v', _, rfl, r, fun g => by unfold edgR; rw [if_pos g, if_pos rfl], kk⟩
  · refine (rendstrue_any k h v s w hv hl hn).mono ?_
    rintro e w' ⟨v', rfl, r, kk⟩
    have E : edgB k s = decide ((nums (unitsR k s)).length ≤ 400) := by unfold edgB; rw [if_neg h]
    refine ⟨v', _, by rw [E], r, fun g => ?_, kk⟩
    rw [edgR_las, if_pos g, if_neg h]
    rw [E] at g
    rw [if_pos (of_decide_eq_true g)]
set_option maxHeartbeats 1000000 in
theorem rstarts_any (k : Int) (v : Value) (s : List R) (w : World) (hv : RunsAt w v s) (hl : I64R s) (hn : s.length ≤ 1000000) :
    Calls Tryz.prog 24 #[.int .i64 k, v] w fun e w' => ∃ v' : Value, e = .returned (.tuple #[v', .bool (edgB k s)]) ∧ RunsAt w' v' (edgR (firV k) k s) ∧ Kp w w' := by
  have C := Lib.hid (rendsF_all k v s w hv hl hn)
  have N := Lib.hid (show edgB k s = false → edgR (firV k) k s = [] from fun h => by unfold edgR; rw [h]; rfl)
  generalize edgR (firV k) k s = L at *
  clear hv hl
  generalize edgB k s = b at *
  cases b with
  | true =>
    go_enter Tryz.func24, Tryz.ntmps24
    go_wp2_with fail
    refine (C.out).mono ?_
    rintro e w1 ⟨v1, l, rfl, R1, el, kk⟩
    obtain rfl := el trivial
    obtain ⟨a1, c1, rfl⟩ := R1.slice
    have RR := Lib.hid R1
    have K := Lib.hid kk
    clear R1 kk C el
    go_wp2
    go_ret2
    exact ⟨_, rfl, RR.out, K.out⟩
  | false =>
    obtain rfl := N.out rfl
    go_enter Tryz.func24, Tryz.ntmps24
    go_wp2_with fail
    refine (C.out).mono ?_
    rintro e w1 ⟨v1, l, rfl, R1, el, kk⟩
    obtain ⟨a1, c1, rfl⟩ := R1.slice
    have K := Lib.hid kk
    clear R1 kk C el
    go_wp2
    go_ret2
    exact ⟨_, rfl, .inl ⟨_, _, rfl, rfl⟩, K.out⟩
end Go.Proofs.YtinpglfclbnhlaaGreatDoor

namespace Go.Proofs.YtinpglfclbnhlaaGreatDoor
open Go.RowKit
set_option linter.unusedVariables false
set_option linter.unusedSimpArgs false
end Go.Proofs.YtinpglfclbnhlaaGreatDoor
