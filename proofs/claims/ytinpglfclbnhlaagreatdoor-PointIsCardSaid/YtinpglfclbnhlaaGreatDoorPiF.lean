/-
  Layer 8, the document's answer: contracts of Set, Near (PointIs).
-/
import Derived.Test.YtinpglfclbnhlaaGreatDoorPiE
import Derived.Test.YtinpglfclbnhlaaGreatDoorGImgC
import Derived.Test.YtinpglfclbnhlaaGreatDoorGPtU
import Derived.Test.YtinpglfclbnhlaaGreatDoorGL8
import Derived.Test.YtinpglfclbnhlaaGreatDoorGLeafA
namespace Go.Proofs.YtinpglfclbnhlaaGreatDoor
open Go.RowKit
set_option linter.unusedVariables false
set_option linter.unusedSimpArgs false
theorem dyP_nf {p : PT} (h0 : p.k = 0) (i : Nat) : sane (dyP p i) ∧ ∀ n, memR (dyP p i) n → 0 ≤ n ∧ n ≤ 3652424 := by
  have e : dyL p = ((numsL p.y 0 9999).take i).flatMap (dyF p.m p.d) ++ ((numsL p.y 0 9999).drop i).flatMap (dyF p.m p.d) := by
    unfold dyL
    conv => lhs; rw [← List.take_append_drop i (numsL p.y 0 9999), List.flatMap_append]
  have a := dy_lt p
  have b := dy_bd h0
  rw [e] at a b
  have q : dyP p i = nf (sing (((numsL p.y 0 9999).take i).flatMap (dyF p.m p.d))) := by
    rw [dyP_eq]
    exact is_set (List.pairwise_append.1 a).1 (fun n h => by have := b n (List.mem_append.2 (.inl h)); omega)
  refine ⟨sane_eq q, fun n hn => ?_⟩
  rw [q, is_mem (fun n h => by have := b n (List.mem_append.2 (.inl h)); omega)] at hn
  exact b n (List.mem_append.2 (.inl hn))
theorem rUn_len (p : PT) : (rUn p).length ≤ 1000000 := by
  have a := num_len p.y 0 9999
  have b := num_len p.m 1 12
  have c := num_len p.m 1 4
  have h1 := fz_bd (numsL p.y 0 9999) (fun y => (numsL p.m 1 12).map fun m => y * 12 + m - 1) 12 (fun x _ => by rw [List.length_map]; omega)
  have h2 := fz_bd (numsL p.y 0 9999) (fun y => (numsL p.m 1 4).map fun m => y * 4 + m - 1) 4 (fun x _ => by rw [List.length_map]; omega)
  have h3 := puts_le (unL p) []
  have h4 : (unL p).length ≤ 120000 := by
    unfold unL
    split
    · omega
    · split <;> omega
  unfold rUn
  rw [List.length_nil] at h3
  omega
/-- what units answers -/
def URp (p : PT) (L : List R) : Prop := (p.k = 0 → (∃ i, L = dyP p i) ∧ (L.length ≤ 800 ∧ (L = dyT p ∨ (400 < L.length ∧ 400 < (dyT p).length)))) ∧ (p.k ≠ 0 → L = rUn p)
theorem un_ok {p : PT} {L : List R} (hs : saneP p = true) (h : URp p L) : I64R L ∧ L.length ≤ 1000000 ∧ setE p = (if edgB p.k L = true then 0 else 8) ∧ setS p = (if edgB p.k L = true then L else []) := by
  by_cases h0 : p.k = 0
  · obtain ⟨⟨i, e⟩, l, q⟩ := h.1 h0
    obtain ⟨s, g⟩ := dyP_nf h0 i
    have r := is_ref0 hs h0
    rw [← e] at s g
    have U : unitsR 0 L = L := un_same s (fun n hn => by
      have := g n hn
      have c0 : cnt 0 = 3652425 := rfl
      omega)
    have ED : edgB p.k L = decide (L.length ≤ 400) := by
      unfold edgB
      rw [h0, if_pos rfl, U]
    refine ⟨sane_i64 s, by omega, ?_⟩
    rw [ED, r.1, r.2]
    rcases q with rfl | ⟨q1, q2⟩
    · by_cases c : (dyT p).length ≤ 400
      · rw [decide_eq_true c, if_pos c, if_pos c]
        exact ⟨rfl, rfl⟩
      · rw [decide_eq_false c, if_neg c, if_neg c]
        exact ⟨rfl, rfl⟩
    · have c1 : ¬ L.length ≤ 400 := by omega
      have c2 : ¬ (dyT p).length ≤ 400 := by omega
      rw [decide_eq_false c1, if_neg c2, if_neg c2]
      exact ⟨rfl, rfl⟩
  · obtain rfl := h.2 h0
    exact ⟨sane_i64 (is_rsane p), rUn_len p, is_ref hs h0⟩
theorem runits8_any (p : PT) (w : World) (hs : saneP p = true) (hy : p.y.size ≤ 10) (hm : p.m.size ≤ 10) (hd : p.d.size ≤ 10) : Calls Tryz.prog 23 #[ptV p] w fun e w' => ∃ v' L, e = .returned v' ∧ w'.ownsRow w.heap.size 37 2 v' L.length (cellsR L) ∧ URp p L ∧ Kp w w' := by
  have k := (sane_kind hs).1
  obtain ⟨pk, y, m, d⟩ := p
  simp only at k hy hm hd
  have hk : pk = 0 ∨ pk = 1 ∨ pk = 2 ∨ (pk = 3 ∨ pk = 4 ∨ pk = 5) := by omega
  rcases hk with rfl | rfl | rfl | hk
  · refine (runits8_0 y m d w hy hm hd).mono ?_
    rintro e w' ⟨v, L, rfl, o, a, b, kk⟩
    exact ⟨v, L, rfl, o, ⟨fun _ => ⟨a, b⟩, fun h => absurd rfl h⟩, kk⟩
  · refine (runits8_1 y m d w hy hm hd).mono ?_
    rintro e w' ⟨v, rfl, o, kk⟩
    exact ⟨v, _, rfl, o, ⟨fun h => absurd h (show ¬ (1 : Int) = 0 by decide), fun _ => rfl⟩, kk⟩
  · refine (runits8_2 y m d w hy hm hd).mono ?_
    rintro e w' ⟨v, rfl, o, kk⟩
    exact ⟨v, _, rfl, o, ⟨fun h => absurd h (show ¬ (2 : Int) = 0 by decide), fun _ => rfl⟩, kk⟩
  · refine (runits8_3 pk hk y m d w hy).mono ?_
    rintro e w' ⟨v, rfl, o, kk⟩
    exact ⟨v, _, rfl, o, ⟨fun h => absurd (show pk = 0 from h) (by omega), fun _ => rfl⟩, kk⟩
set_option maxHeartbeats 16000000 in
set_option maxRecDepth 100000 in
theorem rset8_any (p : PT) (w : World) (hy : p.y.size ≤ 10) (hm : p.m.size ≤ 10) (hd : p.d.size ≤ 10) :
    Calls Tryz.prog 9 #[ptV p] w fun e w' => ∃ v' : Value, e = .returned (.tuple #[v', .int .i64 (setE p)]) ∧ w'.ownsRow w.heap.size 37 2 v' (setS p).length (cellsR (setS p)) ∧ Kp w w' := by
  obtain ⟨k, y, m, d⟩ := p
  have CS := Lib.hid (fun w1 => rsane8_any ⟨k, y, m, d⟩ w1 hy hm hd)
  have CU0 := fun hs w1 => runits8_any ⟨k, y, m, d⟩ w1 hs hy hm hd
  have NO : saneP ⟨k, y, m, d⟩ = false → setE ⟨k, y, m, d⟩ = 2 ∧ setS ⟨k, y, m, d⟩ = [] := fun h => by
    unfold setE setS
    rw [h]
    exact ⟨rfl, rfl⟩
  simp only [ptV] at *
  clear hy hm hd
  obtain ⟨V3, hVb⟩ : ∃ x, x = w.alloc (.cells #[.int .i64 k, .string y, .string m, .string d] 23) := ⟨_, rfl⟩
  have kab : Kp w V3 := by rw [hVb]; exact Kp.alloc _ _
  have gqb0 : V3.heap[w.heap.size]? = some (.cells #[.int .i64 k, .string y, .string m, .string d] 23 (0, 0)) := by rw [hVb]; exact heap_at _ _ _ (by first | rfl | simp)
  have KSb := Lib.hid (fun w' (kq : Kp V3 w') => show w'.cell? ⟨w.heap.size, 0, none⟩ = some (.int .i64 k) ∧ w'.cell? ⟨w.heap.size, 1, none⟩ = some (.string y) ∧ w'.cell? ⟨w.heap.size, 2, none⟩ = some (.string m) ∧ w'.cell? ⟨w.heap.size, 3, none⟩ = some (.string d) ∧ Kp V3 w' from ⟨(row4 (heap_block kq gqb0)).1, (row4 (heap_block kq gqb0)).2.1, (row4 (heap_block kq gqb0)).2.2.1, (row4 (heap_block kq gqb0)).2.2.2, kq⟩)
  have GQb0 := Lib.hid gqb0
  have HVb := Lib.hid hVb
  have KB := Lib.hid kab
  clear hVb kab gqb0
  have kkV3 : Kp V3 V3 := Kp.refl _
  rcases Bool.eq_false_or_eq_true (saneP ⟨k, y, m, d⟩) with hs | hs
  · clear NO
    have CU := Lib.hid (CU0 hs)
    have UK := Lib.hid (fun L h => un_ok (p := ⟨k, y, m, d⟩) (L := L) hs h)
    generalize setE ⟨k, y, m, d⟩ = er at *
    generalize setS ⟨k, y, m, d⟩ = sr at *
    generalize URp ⟨k, y, m, d⟩ = UR at *
    rw [hs] at CS
    clear CU0 hs
    go_enter Tryz.func9, Tryz.ntmps9
    go_wp2_with fail
    rw [← HVb.out]
    obtain ⟨e0, e1, e2, e3, _⟩ := KSb.out V3 (Kp.refl _)
    go_wp2_with fail
    refine (CS.out _).mono ?_
    rintro e w1 ⟨rfl, kk⟩
    have K1 := Lib.hid kk
    clear kk e0 e1 e2 e3
    obtain ⟨e0, e1, e2, e3, _⟩ := KSb.out w1 K1.out
    go_wp2_with fail
    refine (CU.out _).mono ?_
    rintro e w2 ⟨v2, L, rfl, o2, ur, kk⟩
    obtain ⟨il, ll, es, ss⟩ := UK.out L ur
    obtain ⟨qa, qc, rfl⟩ := own_slice o2
    have K2 := Lib.hid (K1.out.trans kk)
    have CE := Lib.hid (rstarts_any k _ L w2 (runsAt_own o2) il ll)
    have O2 := Lib.hid (own_mono o2 (KB.out.trans K1.out).size)
    generalize edgB k L = be at *
    clear kk o2 ur il ll e0 e1 e2 e3 UK CU CS
    obtain ⟨e0, e1, e2, e3, _⟩ := KSb.out w2 K2.out
    go_wp2_with fail
    refine CE.out.mono ?_
    rintro e w3 ⟨v3, rfl, R3, kk⟩
    have K3 := Lib.hid (KB.out.trans (K2.out.trans kk))
    have O3 := Lib.hid (own_kp O2.out kk)
    clear kk R3 CE e0 e1 e2 e3
    cases be with
    | true =>
      rw [if_pos rfl] at es ss
      subst es ss
      go_wp2
      refine bodyPost_ret (results_tmp2 rfl _ _ _) rfl ?_
      exact ⟨_, rfl, O3.out, K3.out⟩
    | false =>
      rw [if_neg (by decide)] at es ss
      subst es ss
      go_wp2
      refine bodyPost_ret (results_tmp2 rfl _ _ _) rfl ?_
      exact ⟨_, rfl, World.ownsRow_nil _ _ _ _, K3.out⟩
  · obtain ⟨es, ss⟩ := NO hs
    rw [es, ss]
    rw [hs] at CS
    clear NO es ss hs CU0
    go_enter Tryz.func9, Tryz.ntmps9
    go_wp2_with fail
    rw [← HVb.out]
    obtain ⟨e0, e1, e2, e3, _⟩ := KSb.out V3 (Kp.refl _)
    go_wp2_with fail
    refine (CS.out _).mono ?_
    rintro e w1 ⟨rfl, kk⟩
    have K1 := Lib.hid kk
    clear kk e0 e1 e2 e3
    obtain ⟨e0, e1, e2, e3, _⟩ := KSb.out w1 K1.out
    go_wp2
    refine bodyPost_ret (results_tmp2 rfl _ _ _) rfl ?_
    exact ⟨_, rfl, World.ownsRow_nil _ _ _ _, KB.out.trans K1.out⟩
end Go.Proofs.YtinpglfclbnhlaaGreatDoor
