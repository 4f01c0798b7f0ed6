/-
  Layer 22: all pairs of a list of families (the law's own helper).
-/
import Derived.Test.YtjdnejglapnbbaaGreatDoorNwM
import Derived.Test.YtjdnejglapnbbaaGreatDoorGLeafB
import Derived.Test.YtjdnejglapnbbaaGreatDoorRlQ
namespace Go.Proofs.YtjdnejglapnbbaaGreatDoor
open Go.RowKit
set_option linter.unusedVariables false
set_option linter.unusedSimpArgs false
theorem flat_le {α β : Type} (f : α → List β) (c : Nat) : ∀ l : List α, (∀ x ∈ l, (f x).length ≤ c) → (l.flatMap f).length ≤ c * l.length
  | [], _ => by simp
  | x :: l, h => by
    rw [List.flatMap_cons, List.length_append, List.length_cons]
    have a := h x (by simp)
    have b := flat_le f c l fun y hy => h y (by simp [hy])
    have : c * (l.length + 1) = c * l.length + c := Nat.mul_succ _ _
    omega
theorem infoPr : (Tryz.prog.info? 35).map (fun i => (i.zero, i.size, i.bytes)) = some (some (.agg #[.int .i64 0, .int .i64 0]), 2, 16) := by kernel_rfl
def OwnP (w : World) (base : Nat) (v : Value) (l : List R) : Prop := w.ownsRow base 35 2 v l.length (cellsR l)
theorem OwnP.runs {w : World} {base : Nat} {v : Value} {l : List R} (h : OwnP w base v l) : RunsAt w v l := runsAt_own h
theorem OwnP.slice {w : World} {base : Nat} {v : Value} {l : List R} (h : OwnP w base v l) : ∃ ad c, v = .slice ad l.length c := h.runs.slice
theorem OwnP.nil (w : World) (base : Nat) : OwnP w base (.slice none 0 0) [] := World.ownsRow_nil _ _ _ _
def hasP (l : List LF) : Int → Int → Prop := fun S T => hasL l S T = true
noncomputable def okAll (l : List LF) : Bool := l.all fun f => startsB (famR f) && endsB (famR f)
theorem nums_ge : ∀ {s : List R}, (∀ r ∈ s, okR r) → s.length ≤ (nums s).length
  | [], _ => by simp
  | r :: s, h => by
    have ih := nums_ge (s := s) fun q hq => h q (by simp [hq])
    have o := h r (by simp)
    unfold okR at o
    have e : nums (r :: s) = runF r ++ nums s := by unfold nums; rw [List.flatMap_cons]
    have l1 : (runF r).length = (r.2 - r.1 + 1).toNat := upF_len _ _
    rw [e, List.length_append, List.length_cons, l1]
    omega
theorem nums_nodup {s : List R} (h : sane s) : (nums s).Nodup := (nums_lt h).imp fun h => by omega
/-- few pairs have few starts and few ends -/
theorem few_pairs {F : Fam} (h : FOK F) (hl : (pairsF F).length ≤ 200) : startsB F = true ∧ endsB F = true := by
  cases F with
  | units k s =>
    have e : (pairsF (.units k s)).length = (nums s).length := by show ((nums s).map _).length = _; rw [List.length_map]
    have g := nums_ge (sane_ok (setB_sane h))
    have b : edgB k s = true := by
      unfold edgB
      rw [setB_units h]
      split <;> rw [decide_eq_true_iff] <;> omega
    exact ⟨b, b⟩
  | span s e =>
    have ss := setB_sane h.1
    have se := setB_sane h.2.1
    have g1 := nums_ge (sane_ok ss)
    have g2 := nums_ge (sane_ok se)
    have n1 := nodup_le (l := nums s) (m := (pairsF (.span s e)).map Prod.fst) (nums_nodup ss) fun x hx => by
      have m := (nums_mem (sane_ok ss)).1 hx
      obtain ⟨t, mt, hle⟩ := h.2.2.1 x m
      exact List.mem_map.2 ⟨(x, t), (mem_pairs h x t).2 ((hasF_span ss se x t).2 ⟨hle, m, mt⟩), rfl⟩
    have n2 := nodup_le (l := nums e) (m := (pairsF (.span s e)).map Prod.snd) (nums_nodup se) fun x hx => by
      have m := (nums_mem (sane_ok se)).1 hx
      obtain ⟨t, mt, hle⟩ := h.2.2.2 x m
      exact List.mem_map.2 ⟨(t, x), (mem_pairs h t x).2 ((hasF_span ss se t x).2 ⟨hle, mt, m⟩), rfl⟩
    rw [List.length_map] at n1 n2
    exact ⟨decide_eq_true (by omega), decide_eq_true (by omega)⟩
noncomputable def pls (l : List LF) : List R := l.flatMap fun f => pairsF (famR f)
noncomputable def fewP (l : List LF) : Bool := l.all fun f => decide ((pairsF (famR f)).length ≤ 200)
theorem pls_take {l : List LF} {k : Nat} (h : k < l.length) : pls (l.take (k + 1)) = pls (l.take k) ++ pairsF (famR (lat l k)) := by unfold pls; rw [take_lat l k h]; simp
theorem pls_mem (l : List LF) (p : R) : p ∈ pls l ↔ hasP l p.1 p.2 := by
  unfold pls hasP hasL
  rw [List.mem_flatMap, List.any_eq_true]
  exact ⟨fun ⟨f, hf, h⟩ => ⟨f, hf, (mem_pairs (famR_ok f) p.1 p.2).1 h⟩, fun ⟨f, hf, h⟩ => ⟨f, hf, (mem_pairs (famR_ok f) p.1 p.2).2 h⟩⟩
theorem fewP_no {l : List LF} {k : Nat} (h : k < l.length) (g : 200 < (pairsF (famR (lat l k))).length) : fewP l = false := by
  unfold fewP
  rw [List.all_eq_false]
  exact ⟨_, lat_mem h, by rw [decide_eq_false (by omega)]; simp⟩
theorem fewP_yes {l : List LF} (h : ∀ i, i < l.length → (pairsF (famR (lat l i))).length ≤ 200) : fewP l = true := by
  unfold fewP
  rw [List.all_eq_true]
  intro f hf
  obtain ⟨i, hi, rfl⟩ := List.mem_iff_getElem.1 hf
  have := h i hi
  unfold lat at this
  rw [List.getD_eq_getElem?_getD, List.getElem?_eq_getElem hi] at this
  rw [show (some l[i]).getD _ = l[i] from rfl] at this
  exact decide_eq_true this
theorem fewP_ok {l : List LF} (h : fewP l = true) : okAll l = true ∧ (pls l).length ≤ 200 * l.length := by
  have a := List.all_eq_true.1 h
  refine ⟨?_, flat_le _ _ _ fun f hf => by simpa using a f hf⟩
  unfold okAll
  rw [List.all_eq_true]
  intro f hf
  have := few_pairs (famR_ok f) (by simpa using a f hf)
  rw [this.1, this.2]
  rfl
theorem take201 {L : List R} (n : Int) (hn : n = 201) : (200 < (L.take (min n 1000).toNat).length ↔ 200 < L.length) ∧ (L.length ≤ 200 → L.take (min n 1000).toNat = L) := by
  have e : (min n 1000).toNat = 201 := by omega
  rw [e, List.length_take]
  exact ⟨by omega, fun h => List.take_of_length_le (by omega)⟩
set_option maxHeartbeats 16000000 in
set_option maxRecDepth 100000 in
theorem pairs22_any (v : Value) (l : List LF) (w : World) (hv : LeavesAt w v l) (hl : LsOk l) (hn : l.length ≤ 12) (T : Tabs w) :
    Calls Tryz.prog 39 #[v] w fun e w' => (fewP l = true → ∃ u, e = .returned (.tuple #[u, .bool true]) ∧ RunsAt w' u (pls l)) ∧ (fewP l = false → e = .returned (.tuple #[.slice none 0 0, .bool false])) ∧ Kp w w' := by
  obtain ⟨ad, cp, rfl⟩ := hv.slice
  obtain ⟨i0, hi, hz0, hz1, hz2⟩ := info_parts infoPr
  have HV := Lib.hid hv
  have HL := Lib.hid hl
  have TT := Lib.hid T
  have NO := Lib.hid (fun k (h : k < l.length) g => fewP_no (l := l) h g)
  have YES := Lib.hid (fun h => fewP_yes (l := l) h)
  have PT := Lib.hid (fun k (h : k < l.length) => pls_take (l := l) h)
  have PB := Lib.hid (fun k (h : k ≤ l.length) (g : ∀ i, i < k → (pairsF (famR (lat l i))).length ≤ 200) => show (pls (l.take k)).length ≤ 200 * k by
    have q : ∀ n, n ≤ k → (pls (l.take n)).length ≤ 200 * n := by
      intro n hn
      induction n with
      | zero => simp [pls]
      | succ n ih =>
        rw [pls_take (by omega), List.length_append]
        have := g n (by omega)
        have := ih (by omega)
        omega
    exact q k (Nat.le_refl _))
  have PE := Lib.hid (show pls (l.take l.length) = pls l by rw [List.take_length])
  clear hv hl T
  go_enter Tryz.func39, Tryz.ntmps39
  go_wp2
  go_loopw [4, 5] (fun s i wr => ∃ k : Nat, k ≤ l.length ∧ i = .int .i64 k ∧ Hid (OwnP wr w.heap.size s (pls (l.take k))) ∧ Hid (∀ i, i < k → (pairsF (famR (lat l i))).length ≤ 200) ∧ Hid (Kp w wr)) (fun _ i _ => l.length - (intOf i).toNat)
  case atStart => exact ⟨0, Nat.zero_le _, rfl, Lib.hid (OwnP.nil _ _), Lib.hid (fun i h => by omega), Lib.hid (Kp.refl w)⟩
  case round =>
    obtain ⟨k, hk, rfl, OW, FA, J⟩ := hrel
    obtain ⟨as0, cs0, rfl⟩ := OW.out.slice
    by_cases hlt : k < l.length
    · have q1 : decide ((k : Int) < (l.length : Int)) = true := decide_eq_true (by omega)
      have pb := PB.out k hk FA.out
      have PN := Lib.hid (PT.out k hlt)
      rcases HV.out.kp J.out with ⟨_, _, _, e⟩ | ⟨b0, off, cap, ev, hc, hmx, hx⟩
      · rw [e] at hlt; simp at hlt
      cases ev
      obtain ⟨va, vb, d0, d1, d2, d3, ra, rb⟩ := hx k hlt
      have LOK := HL.out _ (lat_mem hlt)
      obtain ⟨f, hf⟩ : ∃ f, lat l k = f := ⟨_, rfl⟩
      rw [hf] at d0 d1 ra rb
      (try rw [hf] at LOK)
      obtain ⟨sp, u, a, b⟩ := f
      simp only at d0 d1 ra rb
      (try simp only at LOK)
      obtain ⟨aa, ca, rfl⟩ := ra.slice
      obtain ⟨ab, cb, rfl⟩ := rb.slice
      have HF := Lib.hid hf
      have z1 : (k : Int) < (l.length : Int) := by omega
      have z2 : (0 : Int) ≤ (k : Int) := by omega
      clear hx hc hmx hf
      have e0 : lat l k = ⟨sp, u, a, b⟩ := HF.out
      have CP := Lib.hid (fun w1 (kk : Kp wr w1) => leafPairs_any ⟨sp, u, a, b⟩ _ _ 201 w1 ⟨ra.kp kk, rb.kp kk, LOK.1, LOK.2.1, LOK.2.2.1, LOK.2.2.2⟩ (TT.out.kp (J.out.trans kk)))
      simp only [leafV] at CP
      have N := Lib.hid (fun (g : 200 < (pairsF (famR ⟨sp, u, a, b⟩)).length) => NO.out k hlt (show 200 < (pairsF (famR (lat l k))).length by rw [e0]; exact g))
      have Y := Lib.hid (fun (g : (pairsF (famR ⟨sp, u, a, b⟩)).length ≤ 200) => (by rw [e0]; exact g : (pairsF (famR (lat l k))).length ≤ 200))
      have TK := Lib.hid (take201 (L := pairsF (famR ⟨sp, u, a, b⟩)) 201 rfl)
      replace PN := Lib.hid (show pls (l.take (k + 1)) = pls (l.take k) ++ pairsF (famR ⟨sp, u, a, b⟩) by rw [PN.out, e0])
      generalize pairsF (famR ⟨sp, u, a, b⟩) = P at *
      obtain ⟨P2, hP2⟩ : ∃ x, P.take (min (201 : Int) 1000).toNat = x := ⟨_, rfl⟩
      rw [hP2] at CP TK
      generalize hQ : pls (l.take k) = Q at *
      have KR := Lib.hid (Kp.refl wr)
      have LP := Lib.hid (show P2.length ≤ 201 by rw [← hP2, List.length_take]; omega)
      clear ra rb YES PB PT hQ hP2 e0
      go_wp2_with fail
      refine (CP.out _ (by first | with_reducible exact KR.out | with_reducible exact KR.out.trans (Kp.alloc _ _) | with_reducible exact (KR.out.trans (Kp.alloc _ _)).trans (Kp.alloc _ _) | with_reducible exact ((KR.out.trans (Kp.alloc _ _)).trans (Kp.alloc _ _)).trans (Kp.alloc _ _) | with_reducible exact KR.out.trans (Kp.drew _) | with_reducible exact KR.out.trans (Kp.drewN _ _))).mono ?_
      rintro e w1 ⟨v1, rfl, o1, kk⟩
      have O1 := Lib.hid (show RunsAt w1 v1 P2 from runsAt_own o1)
      obtain ⟨a1, c1, rfl⟩ := O1.out.slice
      have JJ := Lib.hid ((show Kp wr _ from (by first | with_reducible exact KR.out | with_reducible exact KR.out.trans (Kp.alloc _ _) | with_reducible exact (KR.out.trans (Kp.alloc _ _)).trans (Kp.alloc _ _) | with_reducible exact ((KR.out.trans (Kp.alloc _ _)).trans (Kp.alloc _ _)).trans (Kp.alloc _ _) | with_reducible exact KR.out.trans (Kp.drew _) | with_reducible exact KR.out.trans (Kp.drewN _ _))).trans kk)
      have OW1 := Lib.hid (own_kp OW.out JJ.out)
      have J1 := Lib.hid (J.out.trans JJ.out)
      clear o1 kk d0 d1 d2 d3
      by_cases h2 : 200 < P2.length
      · have hf := N.out (TK.out.1.1 h2)
        have g1 : decide ((P2.length : Int) > 200) = true := decide_eq_true (by omega)
        have g2 : decide ((200 : Int) < (P2.length : Int)) = true := decide_eq_true (by omega)
        have g3 : decide (200 < P2.length) = true := decide_eq_true h2
        have HFF := Lib.hid hf
        clear hf N Y
        go_wp2
        go_ret2
        exact ⟨fun h => (by rw [HFF.out] at h; cases h), fun _ => rfl, J1.out⟩
      · have h3 : P.length ≤ 200 := by
          rcases Nat.lt_or_ge 200 P.length with h | h
          · exact absurd (TK.out.1.2 h) h2
          · exact h
        have e2 := TK.out.2 h3
        subst e2
        have g1 : decide ((P2.length : Int) > 200) = false := decide_eq_false (by omega)
        have g2 : decide ((200 : Int) < (P2.length : Int)) = false := decide_eq_false (by omega)
        have g3 : decide (200 < P2.length) = false := decide_eq_false h2
        have FA2 := Lib.hid (show ∀ i, i < k + 1 → (pairsF (famR (lat l i))).length ≤ 200 from fun i hi => by
          by_cases c : i < k
          · exact FA.out i c
          · obtain rfl : i = k := by omega
            exact Y.out h3)
        have bs := J1.out.size
        have lp2 := LP.out
        clear TK h2 h3 N Y
        go_wp2_with (at_builtin; refine Hid.out ?_)
        refine Lib.hid ?_
        refine wpList_app rfl (.tmp 21) (.tmp 22) 49 rfl w.heap.size 35 i0 _ 2 16 Tryz.underlying49 hi hz0 hz1 hz2 rfl (by decide) _ Q.length (cellsR Q) rfl OW1.out _ P2.length (cellsR P2) rfl O1.out.src (by rw [cellsR_length]) (cells_one _) (by unfold maxLen; omega) (by omega) bs ?_
        intro v7 w6 hown hgrow hat
        have O2 := Lib.hid (show OwnP w6 w.heap.size v7 (pls (l.take (k + 1))) by
          rw [PN.out]
          unfold OwnP
          rw [List.length_append, cellsR_append]
          exact hown)
        have J2 := Lib.hid (J1.out.grown hgrow (fun j hj => (OW1.out.lt j hj).1))
        obtain ⟨a9, c9, rfl⟩ := O2.out.slice
        clear hown hgrow hat
        go_wp2
        go_roundw
        case rel => exact ⟨k + 1, by omega, by go_num, O2, FA2, J2⟩
        case measure => simp [intOf]; omega
    · have q1 : decide ((k : Int) < (l.length : Int)) = false := decide_eq_false (by omega)
      obtain rfl : k = l.length := by omega
      have hf := YES.out FA.out
      have HFF := Lib.hid hf
      have OW2 := Lib.hid (show RunsAt wr (.slice as0 (pls (l.take l.length)).length cs0) (pls l) by have h := OW.out.runs; rw [PE.out] at h ⊢; exact h)
      have LE := Lib.hid (show (pls (l.take l.length)).length = (pls l).length by rw [PE.out])
      clear hf
      go_wp2
      go_ret2
      exact ⟨fun _ => ⟨_, rfl, OW2.out⟩, fun h => (by rw [HFF.out] at h; cases h), J.out⟩
end Go.Proofs.YtjdnejglapnbbaaGreatDoor
