/-
  Joined: L11D, L11G, LPrintLex.
-/
import Derived.Test.YtjiikianmjmgcaaDoorGPrA
import Derived.Test.YtjiikianmjmgcaaDoorGLex
import Derived.Test.YtjiikianmjmgcaaDoorGTrB
import Derived.Test.YtjiikianmjmgcaaDoorCards
import Derived.Test.YtjiikianmjmgcaaDoorTie
import Derived.WalkKit
import Derived.ProofKit
import Derived.OpenShut
import Derived.ShutString
import Derived.ChangeOld
import Derived.Below
import Derived.Test.YtjiikianmjmgcaaDoor8T
import Derived.Deep.DeepHandedRow
import Derived.Lib.LaidTab
import Derived.Carry
namespace Go.Proofs.YtjiikianmjmgcaaDoor
open Go.RowKit Go.Shelf
set_option linter.unusedVariables false
set_option linter.unusedSimpArgs false
theorem ptsL_append : ∀ a b : List ND, ptsL (a ++ b) = ptsL a + ptsL b
  | [], b => by simp [ptsL]
  | x :: a, b => by simp [ptsL, ptsL_append a b, Nat.add_assoc]
theorem ptsL_take {l : List ND} {i : Nat} (h : i < l.length) : ptsL (l.take (i + 1)) = ptsL (l.take i) + ptsN (nth l i) := by
  rw [nth_take h, ptsL_append]
  simp [ptsL]
mutual
theorem pts_cnt : ∀ n : ND, ptsN n ≤ cntN n
  | .mk k _ _ _ l => by simp only [ptsN, cntN]; have := pts_cntL l; have := Bool.toNat_le (k == 0); omega
theorem pts_cntL : ∀ l : List ND, ptsL l ≤ cntL l
  | [] => by simp [ptsL, cntL]
  | x :: l => by simp only [ptsL, cntL]; have := pts_cnt x; have := pts_cntL l; omega
end
theorem nobl_take {L : List UInt8} {i : Nat} (h : i < L.length) : nobl (L.take (i + 1)) = nobl (L.take i) ++ (if (L.getD i 0).toNat = 32 then [] else [L.getD i 0]) := by
  rw [List.take_succ_eq_append_getElem h, nobl_append]
  have e : L.getD i 0 = L[i] := by simp [List.getD, h]
  rw [e]
  by_cases c : L[i].toNat = 32
  · rw [if_pos c]
    have : L[i] = 32 := UInt8.toNat_inj.1 c
    rw [this]
    rfl
  · rw [if_neg c]
    have : L[i] ≠ 32 := fun h => c (by rw [h]; rfl)
    simp [nobl, this]
theorem nobl_len (L : List UInt8) : (nobl L).length ≤ L.length := List.length_filter_le ..
theorem words_take (T : List Tk) {j : Nat} (h : j < T.length) : words (T.take (j + 1)) = words (T.take j) + (if (tk T j).1 = 0 then 1 else 0) := by
  rw [tk_take T j h, words_append]
  by_cases c : (tk T j).1 = 0
  · rw [if_pos c]; simp [words, c]
  · rw [if_neg c]; simp [words, c]
theorem words_len (T : List Tk) : words T ≤ T.length := List.length_filter_le ..
theorem words_end (T : List Tk) (s : ByteArray) : words (T ++ [endT s]) = words T := by rw [words_append]; simp [words, endT]
set_option maxHeartbeats 16000000 in
set_option maxRecDepth 100000 in
theorem rpts_any (w0 : World) : ∀ {v : Value} {l : List ND}, NodesAt w0 v l → ∀ (k : Int) (p : PT) (a t : Bool) (w : World), Kp w0 w → cntL l ≤ 2000000 →
      Calls Tryd.prog 44 #[ndV (.mk k p a t l) v] w fun e w' => e = .returned (.int .i64 (ptsN (.mk k p a t l))) ∧ Kp w w' := by
  refine @NodesAt.ind w0 (fun v l => ∀ (k : Int) (p : PT) (a t : Bool) (w : World), Kp w0 w → cntL l ≤ 2000000 →
      Calls Tryd.prog 44 #[ndV (.mk k p a t l) v] w fun e w' => e = .returned (.int .i64 (ptsN (.mk k p a t l))) ∧ Kp w w') ?_
  rintro v l ⟨ad, cp, rfl, hrow⟩ k p a t w k0 hl
  have ll := len_cntL l
  obtain ⟨pk, y, m, q⟩ := p
  have HR := Lib.hid hrow
  unfold ndV at *
  simp only [ND.k, ND.p, ND.a, ND.t] at *
  obtain ⟨W0, hW⟩ : ∃ x, x = w.alloc (.cells #[.int .i64 k, .int .i64 pk, .string y, .string m, .string q, .bool a, .bool t, .slice ad l.length cp] 46) := ⟨_, rfl⟩
  have kw : Kp w W0 := by rw [hW]; exact Kp.alloc _ _
  have gB : W0.heap[w.heap.size]? = some (.cells #[.int .i64 k, .int .i64 pk, .string y, .string m, .string q, .bool a, .bool t, .slice ad l.length cp] 46 (0, 0)) := by rw [hW]; exact heap_at _ _ _ rfl
  have KW := Lib.hid kw
  have K0W := Lib.hid (k0.trans kw)
  have GB := Lib.hid (fun w1 (q : Kp W0 w1) => heap_block q gB)
  have HW := Lib.hid hW
  clear hrow k0 kw gB hW
  have ed : (ptsN (.mk k ⟨pk, y, m, q⟩ a t l) : Int) = ((k == 0).toNat : Int) + (ptsL l : Int) := by simp only [ptsN]; omega
  rw [ed]
  clear ed
  have HPL := Lib.hid (pts_cntL l)
  obtain ⟨c0, hc0⟩ : ∃ z : Int, ((k == 0).toNat : Int) = z := ⟨_, rfl⟩
  have h01 : 0 ≤ c0 ∧ c0 ≤ 1 := by have := Bool.toNat_le (k == 0); omega
  rw [hc0]
  have HCASE : (k = 0 ∧ c0 = 1) ∨ (k ≠ 0 ∧ c0 = 0) := by
    by_cases h : k = 0
    · subst h; exact .inl ⟨rfl, hc0.symm⟩
    · rw [beq_eq_false_iff_ne.2 h] at hc0; exact .inr ⟨h, hc0.symm⟩
  clear hc0
  rcases HCASE with ⟨h1, h2⟩ | ⟨h1, h2⟩
  · have q0 : (k == 0) = true := by rw [h1]; rfl
    subst h2
    clear h1 h01
    go_enter Tryd.func44, Tryd.ntmps44
    go_wp2_with fail
    rw [← HW.out]
    obtain ⟨x0, x1, x2, x3, x4, x5, x6, x7⟩ := row8 (GB.out _ (Kp.refl _))
    go_wp2
    go_loopw [3, 4] (fun s i ws => ∃ j : Nat, j ≤ l.length ∧ i = .int .i64 j ∧ s = .int .i64 (1 + (ptsL (l.take j) : Int)) ∧ Hid (Kp W0 ws)) (fun _ i _ => l.length - (intOf i).toNat)
    case atStart => exact ⟨0, Nat.zero_le _, rfl, by simp [ptsL], Lib.hid (Kp.refl _)⟩
    case round =>
      clear x0 x1 x2 x3 x4 x5 x6 x7
      obtain ⟨j, hj, rfl, rfl, KL⟩ := hrel
      by_cases hlt : j < l.length
      · obtain ⟨bk, off, rfl, hall⟩ := HR.out (by omega)
        obtain ⟨vi, hrow, hsub, ih⟩ := hall j hlt
        have kw0 : Kp w0 wr := K0W.out.trans KL.out
        obtain ⟨e0, e1, e2, e3, e4, e5, e6, e7⟩ := hrow.kp kw0
        have KW0 := Lib.hid kw0
        have ca := cnt_at hlt
        have ct := cntL_take hlt
        clear hall
        obtain ⟨x, hx⟩ : ∃ x, nth l j = x := ⟨_, rfl⟩
        rw [hx] at e0 e1 e2 e3 e4 e5 e6 ca ct ih hsub
        have NTH := Lib.hid hx
        clear hx hrow
        obtain ⟨k1, ⟨pk1, y1, m1, q1⟩, a1, t1, l1⟩ := x
        simp only [ND.k, ND.p, ND.a, ND.t, ND.l] at e0 e1 e2 e3 e4 e5 e6 ih hsub
        obtain ⟨ad1, cp1, rfl⟩ := hsub.slice
        have cc1 : cntN (.mk k1 ⟨pk1, y1, m1, q1⟩ a1 t1 l1) = cntL l1 + 1 := rfl
        have IHc := ih k1 ⟨pk1, y1, m1, q1⟩ a1 t1
        (try unfold ndV at IHc)
        simp only [ND.k, ND.p, ND.a, ND.t, ND.l] at IHc
        have IH := Lib.hid IHc
        have HC1 := Lib.hid (show cntL l1 ≤ 2000000 by omega)
        obtain ⟨_, _, _, _, _, _, _, x7⟩ := row8 (GB.out _ KL.out)
        have z1 : (j : Int) < (l.length : Int) := by omega
        have z3 : (0 : Int) ≤ (j : Int) := by omega
        have HLT := Lib.hid hlt
        clear kw0 ih hsub IHc
        have dt := Lib.hid (ptsL_take hlt)
        have dj : ptsL (l.take j) ≤ 2000001 := by have h1 := pts_cntL (l.take j); have h2 := cntL_le (l := l) j; omega
        have dx : ptsN (.mk k1 ⟨pk1, y1, m1, q1⟩ a1 t1 l1) ≤ 2000001 := by have := pts_cnt (.mk k1 ⟨pk1, y1, m1, q1⟩ a1 t1 l1); omega
        go_wp2_with fail
        refine (IH.out _ KW0.out HC1.out).mono ?_
        rintro e w5 ⟨rfl, kk⟩
        have KL5 := Lib.hid (KL.out.trans kk)
        clear kk e0 e1 e2 e3 e4 e5 e6 e7 x7
        obtain ⟨dd, hdd⟩ : ∃ z, ptsN (.mk k1 ⟨pk1, y1, m1, q1⟩ a1 t1 l1) = z := ⟨_, rfl⟩
        obtain ⟨dk, hdk⟩ : ∃ z, ptsL (l.take j) = z := ⟨_, rfl⟩
        rw [hdd] at dx ⊢
        rw [hdk] at dj ⊢
        have HDD := Lib.hid hdd
        have HDK := Lib.hid hdk
        clear hdd hdk
        go_wp2
        go_roundw
        case rel => exact ⟨j + 1, HLT.out, by go_num, by rw [dt.out, NTH.out, HDD.out, HDK.out]; first | go_num | (congr 1; omega), KL5⟩
        case measure => have := HLT.out; simp [intOf]; omega
      · obtain rfl : j = l.length := by omega
        rw [List.take_length]
        obtain ⟨x0, _, _, _, _, _, _, x7⟩ := row8 (GB.out _ KL.out)
        go_wp2
        go_ret
        exact ⟨rfl, KW.out.trans KL.out⟩
  · have q0 : (k == 0) = false := beq_eq_false_iff_ne.2 h1
    subst h2
    clear h1 h01
    go_enter Tryd.func44, Tryd.ntmps44
    go_wp2_with fail
    rw [← HW.out]
    obtain ⟨x0, x1, x2, x3, x4, x5, x6, x7⟩ := row8 (GB.out _ (Kp.refl _))
    go_wp2
    go_loopw [3, 4] (fun s i ws => ∃ j : Nat, j ≤ l.length ∧ i = .int .i64 j ∧ s = .int .i64 (0 + (ptsL (l.take j) : Int)) ∧ Hid (Kp W0 ws)) (fun _ i _ => l.length - (intOf i).toNat)
    case atStart => exact ⟨0, Nat.zero_le _, rfl, by simp [ptsL], Lib.hid (Kp.refl _)⟩
    case round =>
      clear x0 x1 x2 x3 x4 x5 x6 x7
      obtain ⟨j, hj, rfl, rfl, KL⟩ := hrel
      by_cases hlt : j < l.length
      · obtain ⟨bk, off, rfl, hall⟩ := HR.out (by omega)
        obtain ⟨vi, hrow, hsub, ih⟩ := hall j hlt
        have kw0 : Kp w0 wr := K0W.out.trans KL.out
        obtain ⟨e0, e1, e2, e3, e4, e5, e6, e7⟩ := hrow.kp kw0
        have KW0 := Lib.hid kw0
        have ca := cnt_at hlt
        have ct := cntL_take hlt
        clear hall
        obtain ⟨x, hx⟩ : ∃ x, nth l j = x := ⟨_, rfl⟩
        rw [hx] at e0 e1 e2 e3 e4 e5 e6 ca ct ih hsub
        have NTH := Lib.hid hx
        clear hx hrow
        obtain ⟨k1, ⟨pk1, y1, m1, q1⟩, a1, t1, l1⟩ := x
        simp only [ND.k, ND.p, ND.a, ND.t, ND.l] at e0 e1 e2 e3 e4 e5 e6 ih hsub
        obtain ⟨ad1, cp1, rfl⟩ := hsub.slice
        have cc1 : cntN (.mk k1 ⟨pk1, y1, m1, q1⟩ a1 t1 l1) = cntL l1 + 1 := rfl
        have IHc := ih k1 ⟨pk1, y1, m1, q1⟩ a1 t1
        (try unfold ndV at IHc)
        simp only [ND.k, ND.p, ND.a, ND.t, ND.l] at IHc
        have IH := Lib.hid IHc
        have HC1 := Lib.hid (show cntL l1 ≤ 2000000 by omega)
        obtain ⟨_, _, _, _, _, _, _, x7⟩ := row8 (GB.out _ KL.out)
        have z1 : (j : Int) < (l.length : Int) := by omega
        have z3 : (0 : Int) ≤ (j : Int) := by omega
        have HLT := Lib.hid hlt
        clear kw0 ih hsub IHc
        have dt := Lib.hid (ptsL_take hlt)
        have dj : ptsL (l.take j) ≤ 2000001 := by have h1 := pts_cntL (l.take j); have h2 := cntL_le (l := l) j; omega
        have dx : ptsN (.mk k1 ⟨pk1, y1, m1, q1⟩ a1 t1 l1) ≤ 2000001 := by have := pts_cnt (.mk k1 ⟨pk1, y1, m1, q1⟩ a1 t1 l1); omega
        go_wp2_with fail
        refine (IH.out _ KW0.out HC1.out).mono ?_
        rintro e w5 ⟨rfl, kk⟩
        have KL5 := Lib.hid (KL.out.trans kk)
        clear kk e0 e1 e2 e3 e4 e5 e6 e7 x7
        obtain ⟨dd, hdd⟩ : ∃ z, ptsN (.mk k1 ⟨pk1, y1, m1, q1⟩ a1 t1 l1) = z := ⟨_, rfl⟩
        obtain ⟨dk, hdk⟩ : ∃ z, ptsL (l.take j) = z := ⟨_, rfl⟩
        rw [hdd] at dx ⊢
        rw [hdk] at dj ⊢
        have HDD := Lib.hid hdd
        have HDK := Lib.hid hdk
        clear hdd hdk
        go_wp2
        go_roundw
        case rel => exact ⟨j + 1, HLT.out, by go_num, by rw [dt.out, NTH.out, HDD.out, HDK.out]; first | go_num | (congr 1; omega), KL5⟩
        case measure => have := HLT.out; simp [intOf]; omega
      · obtain rfl : j = l.length := by omega
        rw [List.take_length]
        obtain ⟨x0, _, _, _, _, _, _, x7⟩ := row8 (GB.out _ KL.out)
        go_wp2
        go_ret
        exact ⟨rfl, KW.out.trans KL.out⟩
set_option maxHeartbeats 16000000 in
set_option maxRecDepth 100000 in
theorem printLex_no (k pk : Int) (y m q : ByteArray) (a t : Bool) (l : List ND) (ad : Option Addr) (cp : Nat) (w : World) (hu : NodesAt w (.slice ad l.length cp) l) (bn : cntL l ≤ 2000000) (T : TabSH w) (hf : fewN (.mk k ⟨pk, y, m, q⟩ a t l : ND) = false) : Calls Tryd.prog 10 #[.agg #[.int .i64 k, .int .i64 pk, .string y, .string m, .string q, .bool a, .bool t, .slice ad l.length cp]] w fun e w' => e = .returned (.bool true) ∧ Kp w w' := by
  have AW := Lib.hid (fun w1 (qq : Kp w w1) => awake11 w1 (T.kp qq))
  have F1 : ∀ w1, Kp w w1 → Calls Tryd.prog 24 #[.agg #[.int .i64 k, .int .i64 pk, .string y, .string m, .string q, .bool a, .bool t, .slice ad l.length cp]] w1 fun e w' => e = .returned (.bool (fewN (.mk k ⟨pk, y, m, q⟩ a t l : ND))) ∧ Kp w1 w' := fun w1 qq => rfewN_any (.mk k ⟨pk, y, m, q⟩ a t l : ND) (.slice ad l.length cp) w1 (hu.kp qq) bn
  rw [hf] at F1
  have F1H := Lib.hid F1
  clear F1 hu T hf bn
  go_enter Tryd.func10, Tryd.ntmps10
  go_wp2_with fail
  refine (AW.out _ (Kp.alloc _ _)).mono ?_
  rintro e w1 ⟨rfl, kk⟩
  have K1 := Lib.hid ((Kp.alloc _ _).trans kk)
  have GA1 := Lib.hid (heap_block kk (heap_at w (.cells #[.int .i64 k, .int .i64 pk, .string y, .string m, .string q, .bool a, .bool t, .slice ad l.length cp] 46) w.heap.size rfl))
  clear kk
  obtain ⟨x0, x1, x2, x3, x4, x5, x6, x7⟩ := row8 GA1.out
  go_wp2_with fail
  refine (F1H.out _ K1.out).mono ?_
  rintro e w2 ⟨rfl, kk⟩
  have K2 := Lib.hid (K1.out.trans kk)
  have GA := Lib.hid (heap_block kk GA1.out)
  clear kk x0 x1 x2 x3 x4 x5 x6 x7 GA1
  go_wp2
  go_ret
  exact ⟨rfl, K2.out⟩
set_option maxHeartbeats 16000000 in
set_option maxRecDepth 100000 in
theorem printLex_none (k pk : Int) (y m q : ByteArray) (a t : Bool) (l : List ND) (ad : Option Addr) (cp : Nat) (w : World) (hu : NodesAt w (.slice ad l.length cp) l) (bn : cntL l ≤ 2000000) (T : TabSH w) (hf : fewN (.mk k ⟨pk, y, m, q⟩ a t l : ND) = true) (hs : saneN saneP (.mk k ⟨pk, y, m, q⟩ a t l : ND) = false) : Calls Tryd.prog 10 #[.agg #[.int .i64 k, .int .i64 pk, .string y, .string m, .string q, .bool a, .bool t, .slice ad l.length cp]] w fun e w' => e = .returned (.bool true) ∧ Kp w w' := by
  have AW := Lib.hid (fun w1 (qq : Kp w w1) => awake11 w1 (T.kp qq))
  have F1 : ∀ w1, Kp w w1 → Calls Tryd.prog 24 #[.agg #[.int .i64 k, .int .i64 pk, .string y, .string m, .string q, .bool a, .bool t, .slice ad l.length cp]] w1 fun e w' => e = .returned (.bool (fewN (.mk k ⟨pk, y, m, q⟩ a t l : ND))) ∧ Kp w1 w' := fun w1 qq => rfewN_any (.mk k ⟨pk, y, m, q⟩ a t l : ND) (.slice ad l.length cp) w1 (hu.kp qq) bn
  rw [hf] at F1
  have F1H := Lib.hid F1
  have cn := few_cnt hf
  have PS : ∀ w1, Kp w w1 → Calls Tryd.prog 25 #[.agg #[.int .i64 k, .int .i64 pk, .string y, .string m, .string q, .bool a, .bool t, .slice ad l.length cp]] w1 fun e w' => e = .returned (.bool (saneN saneP (.mk k ⟨pk, y, m, q⟩ a t l : ND))) ∧ Kp w1 w' := fun w1 qq => tSane_any (.mk k ⟨pk, y, m, q⟩ a t l : ND) (.slice ad l.length cp) w1 (hu.kp qq) cn (T.kp qq)
  have PSH := Lib.hid PS
  clear PS
  rw [hs] at PSH
  clear F1 hu T hf bn cn hs
  go_enter Tryd.func10, Tryd.ntmps10
  go_wp2_with fail
  refine (AW.out _ (Kp.alloc _ _)).mono ?_
  rintro e w1 ⟨rfl, kk⟩
  have K1 := Lib.hid ((Kp.alloc _ _).trans kk)
  have GA1 := Lib.hid (heap_block kk (heap_at w (.cells #[.int .i64 k, .int .i64 pk, .string y, .string m, .string q, .bool a, .bool t, .slice ad l.length cp] 46) w.heap.size rfl))
  clear kk
  obtain ⟨x0, x1, x2, x3, x4, x5, x6, x7⟩ := row8 GA1.out
  go_wp2_with fail
  refine (F1H.out _ K1.out).mono ?_
  rintro e w2 ⟨rfl, kk⟩
  have K2 := Lib.hid (K1.out.trans kk)
  have GA := Lib.hid (heap_block kk GA1.out)
  clear kk x0 x1 x2 x3 x4 x5 x6 x7 GA1
  obtain ⟨x0, x1, x2, x3, x4, x5, x6, x7⟩ := row8 GA.out
  go_wp2_with fail
  refine (PSH.out _ K2.out).mono ?_
  rintro e w3 ⟨rfl, kk⟩
  have K3 := Lib.hid (K2.out.trans kk)
  have GA3 := Lib.hid (heap_block kk GA.out)
  clear kk x0 x1 x2 x3 x4 x5 x6 x7 GA
  go_wp2
  go_ret
  exact ⟨rfl, K3.out⟩
set_option maxHeartbeats 16000000 in
set_option maxRecDepth 100000 in
theorem printLex_some (k pk : Int) (y m q : ByteArray) (a t : Bool) (l : List ND) (ad : Option Addr) (cp : Nat) (w : World) (hu : NodesAt w (.slice ad l.length cp) l) (bn : cntL l ≤ 2000000) (T : TabSH w) (hf : fewN (.mk k ⟨pk, y, m, q⟩ a t l : ND) = true) (hs : saneN saneP (.mk k ⟨pk, y, m, q⟩ a t l : ND) = true) : Calls Tryd.prog 10 #[.agg #[.int .i64 k, .int .i64 pk, .string y, .string m, .string q, .bool a, .bool t, .slice ad l.length cp]] w fun e w' => e = .returned (.bool true) ∧ Kp w w' := by
  have AW := Lib.hid (fun w1 (qq : Kp w w1) => awake11 w1 (T.kp qq))
  have F1 : ∀ w1, Kp w w1 → Calls Tryd.prog 24 #[.agg #[.int .i64 k, .int .i64 pk, .string y, .string m, .string q, .bool a, .bool t, .slice ad l.length cp]] w1 fun e w' => e = .returned (.bool (fewN (.mk k ⟨pk, y, m, q⟩ a t l : ND))) ∧ Kp w1 w' := fun w1 qq => rfewN_any (.mk k ⟨pk, y, m, q⟩ a t l : ND) (.slice ad l.length cp) w1 (hu.kp qq) bn
  rw [hf] at F1
  have F1H := Lib.hid F1
  have cn := few_cnt hf
  have PS : ∀ w1, Kp w w1 → Calls Tryd.prog 25 #[.agg #[.int .i64 k, .int .i64 pk, .string y, .string m, .string q, .bool a, .bool t, .slice ad l.length cp]] w1 fun e w' => e = .returned (.bool (saneN saneP (.mk k ⟨pk, y, m, q⟩ a t l : ND))) ∧ Kp w1 w' := fun w1 qq => tSane_any (.mk k ⟨pk, y, m, q⟩ a t l : ND) (.slice ad l.length cp) w1 (hu.kp qq) cn (T.kp qq)
  have PSH := Lib.hid PS
  clear PS
  rw [hs] at PSH
  have PT : ∀ w1, Kp w w1 → Calls Tryd.prog 39 #[.agg #[.int .i64 k, .int .i64 pk, .string y, .string m, .string q, .bool a, .bool t, .slice ad l.length cp]] w1 fun e w' => e = .returned (.string (bs (textN (.mk k ⟨pk, y, m, q⟩ a t l : ND)))) ∧ Kp w1 w' := fun w1 qq => ptext_any (.mk k ⟨pk, y, m, q⟩ a t l : ND) (.slice ad l.length cp) w1 (hu.kp qq) cn (T.kp qq)
  have PTH := Lib.hid PT
  clear PT
  have PP : ∀ w1, Kp w w1 → Calls Tryd.prog 44 #[.agg #[.int .i64 k, .int .i64 pk, .string y, .string m, .string q, .bool a, .bool t, .slice ad l.length cp]] w1 fun e w' => e = .returned (.int .i64 (ptsN (.mk k ⟨pk, y, m, q⟩ a t l : ND) : Nat)) ∧ Kp w1 w' := fun w1 qq => rpts_any w hu k ⟨pk, y, m, q⟩ a t w1 qq bn
  have PPH := Lib.hid PP
  clear PP
  rw [show textN (.mk k ⟨pk, y, m, q⟩ a t l : ND) = txN (.mk k ⟨pk, y, m, q⟩ a t l : ND) by unfold textN; rw [if_pos hs]] at PTH
  obtain ⟨ts, hlx, hwd, hsh⟩ := text_tks hs
  have tl := (txN_len900 hs).1
  have pc := pts_cnt (.mk k ⟨pk, y, m, q⟩ a t l : ND)
  obtain ⟨L, hL⟩ : ∃ u, txN (.mk k ⟨pk, y, m, q⟩ a t l : ND) = u := ⟨_, rfl⟩
  obtain ⟨np, hnp⟩ : ∃ u, ptsN (.mk k ⟨pk, y, m, q⟩ a t l : ND) = u := ⟨_, rfl⟩
  rw [hL] at PTH hlx hsh tl
  rw [hnp] at PPH hwd pc
  have hsz : (bs L).size = L.length := bs_size L
  have hsl : (bs L).data.toList = L := list_bs L
  obtain ⟨s, hs9⟩ : ∃ u, bs L = u := ⟨_, rfl⟩
  rw [hs9] at PTH hsz hsl
  have hls : s.size ≤ 894 := by omega
  have CA := Lib.hid (fun w1 => lallN s ts w1 (by omega) (by rw [hsl]; exact hlx))
  have CS := Lib.hid (fun v w1 hv => lshowT s v L ts none w1 hv hlx (by omega))
  rw [hsh] at CS
  have TLEN := (lx_show s hlx (by omega)).1
  have TWF := Lib.hid ((lx_show s hlx (by omega)).2.2)
  have HWD := Lib.hid (show words (ts ++ [endT s]) = np by rw [words_end]; exact hwd)
  have BT := Lib.hid (fun i (h : i < s.size) => show (s[i]'h).toNat = (L.getD i 0).toNat from by rw [bt_at s i h]; unfold bt; rw [hsl])
  have CUT := Lib.hid (fun i (h : i + 1 ≤ s.size) => fun wx => show (Instr.slice 9 (.string s) (some (.int .i64 (i : Int))) (some (.int .i64 ((i : Int) + 1))) none).run Tryd.prog wx = .ok (.string (bs [L.getD i 0])) wx from by
    have hx := cut_str s i 1 h wx
    rw [show s.extract i (i + 1) = bs [L.getD i 0] from by
      have hi : i < L.length := by omega
      have e2 : (s.extract i (i + 1)).data.toList = (L.drop i).take 1 := by rw [ex_list, hsl]; congr 1; omega
      rw [← bs_list (s.extract i (i + 1)), e2, show L.getD i 0 = L[i] by simp [List.getD, hi], List.drop_eq_getElem_cons hi]
      rfl] at hx
    exact hx)
  have NT := Lib.hid (fun i (h : i < L.length) => nobl_take h)
  have NL := Lib.hid (fun i => Nat.le_trans (nobl_len (L.take i)) (by rw [List.length_take]; exact Nat.min_le_right i L.length))
  have WT := Lib.hid (fun j (h : j < (ts ++ [endT s]).length) => words_take (ts ++ [endT s]) h)
  have WL := Lib.hid (fun j => Nat.le_trans (words_len ((ts ++ [endT s]).take j)) (by rw [List.length_take]; exact Nat.min_le_left j _))
  obtain ⟨TT, hTT⟩ : ∃ u, ts ++ [endT s] = u := ⟨_, rfl⟩
  rw [hTT] at CA CS TLEN TWF HWD WT WL
  have HSZ := Lib.hid hsz
  have np9 : (np : Int) ≤ 1000 := by omega
  have tln : TT.length ≤ 1000 := TLEN
  have LLS := Lib.hid (show L.length = s.size from hsz.symm)
  have HLS := Lib.hid hls
  have TLN := Lib.hid tln
  have NP9 := Lib.hid np9
  clear hls tln np9 tl hsz F1 hu T hf bn cn hs hlx hwd hsh hL hnp hs9 hTT hsl pc TLEN
  go_enter Tryd.func10, Tryd.ntmps10
  go_wp2_with fail
  refine (AW.out _ (Kp.alloc _ _)).mono ?_
  rintro e w1 ⟨rfl, kk⟩
  have K1 := Lib.hid ((Kp.alloc _ _).trans kk)
  have GA1 := Lib.hid (heap_block kk (heap_at w (.cells #[.int .i64 k, .int .i64 pk, .string y, .string m, .string q, .bool a, .bool t, .slice ad l.length cp] 46) w.heap.size rfl))
  clear kk
  obtain ⟨x0, x1, x2, x3, x4, x5, x6, x7⟩ := row8 GA1.out
  go_wp2_with fail
  refine (F1H.out _ K1.out).mono ?_
  rintro e w2 ⟨rfl, kk⟩
  have K2 := Lib.hid (K1.out.trans kk)
  have GA := Lib.hid (heap_block kk GA1.out)
  clear kk x0 x1 x2 x3 x4 x5 x6 x7 GA1
  obtain ⟨x0, x1, x2, x3, x4, x5, x6, x7⟩ := row8 GA.out
  go_wp2_with fail
  refine (PSH.out _ K2.out).mono ?_
  rintro e w3 ⟨rfl, kk⟩
  have K3 := Lib.hid (K2.out.trans kk)
  have GA3 := Lib.hid (heap_block kk GA.out)
  clear kk x0 x1 x2 x3 x4 x5 x6 x7 GA
  obtain ⟨x0, x1, x2, x3, x4, x5, x6, x7⟩ := row8 GA3.out
  go_wp2_with fail
  refine (PTH.out _ K3.out).mono ?_
  rintro e w4 ⟨rfl, kk⟩
  have K4 := Lib.hid (K3.out.trans kk)
  have GB4 := Lib.hid (heap_block kk GA3.out)
  clear kk x0 x1 x2 x3 x4 x5 x6 x7 GA3
  go_wp2_with fail
  refine (CA.out _).mono ?_
  rintro e w5 ⟨v, rfl, hv, kk⟩
  have K5 := Lib.hid (K4.out.trans kk)
  have GB := Lib.hid (heap_block kk GB4.out)
  have HV := Lib.hid hv
  obtain ⟨adv, cpv, rfl⟩ := hv.slice
  clear kk hv GB4
  go_wp2
  have hls := HLS.out
  go_loopw [8, 9] (fun b i ws => ∃ j : Nat, j ≤ s.size ∧ i = .int .i64 j ∧ b = .string (bs (nobl (L.take j))) ∧ w5 = ws) (fun _ i _ => s.size - (intOf i).toNat)
  case atStart => exact ⟨0, Nat.zero_le _, rfl, rfl, rfl⟩
  case round =>
    obtain ⟨i, hi, rfl, rfl, rfl⟩ := hrel
    by_cases hlt2 : i < s.size
    · have hlt : i < L.length := by rw [LLS.out]; exact hlt2
      have hbt := BT.out i hlt2
      have hcut := CUT.out i (by omega)
      have nt := NT.out i hlt
      have nl := NL.out i
      have z1 : (i : Int) < (s.size : Int) := by omega
      have z3 : (0 : Int) ≤ (i : Int) := by omega
      have cb := (L.getD i 0).toNat_lt
      obtain ⟨c, hc⟩ : ∃ u, L.getD i 0 = u := ⟨_, rfl⟩
      rw [hc] at hbt hcut nt cb
      obtain ⟨b, hb⟩ : ∃ u, c.toNat = u := ⟨_, rfl⟩
      rw [hb] at hbt nt cb
      have l2 : (bs (nobl (L.take i))).size ≤ 1000 := by have := LLS.out; rw [bs_size]; omega
      have HLT := Lib.hid hlt2
      clear hlt
      by_cases c32 : b = 32
      · have f1 : ((b : Int) != 32) = false := by rw [c32]; rfl
        rw [if_pos c32, List.append_nil] at nt
        have NTH := Lib.hid nt
        clear c32 nt hc hb nl hcut
        go_wp2
        go_roundw
        case rel => exact ⟨i + 1, HLT.out, by go_num, by rw [NTH.out], trivial⟩
        case measure => have := HLT.out; simp [intOf]; omega
      · have f1 : ((b : Int) != 32) = true := by rw [bne_iff_ne]; omega
        rw [if_neg c32] at nt
        have NTH := Lib.hid (show bs (nobl (L.take (i + 1))) = bs (nobl (L.take i)) ++ bs [c] by rw [nt, bs_append])
        obtain ⟨tj, htj⟩ : ∃ u, bs (nobl (L.take i)) = u := ⟨_, rfl⟩
        rw [htj] at NTH l2 ⊢
        obtain ⟨tc, htc⟩ : ∃ u, bs [c] = u := ⟨_, rfl⟩
        have l3 : tc.size ≤ 1 := by rw [← htc, bs_size]; simp
        rw [htc] at NTH hcut
        clear c32 nt hc hb nl htj htc
        go_wp2
        go_roundw
        case rel => exact ⟨i + 1, HLT.out, by go_num, by rw [NTH.out], trivial⟩
        case measure => have := HLT.out; simp [intOf]; omega
    · obtain rfl : i = s.size := by omega
      rw [← LLS.out, List.take_length, LLS.out]
      have tln := TLN.out
      obtain ⟨tb, htb⟩ : ∃ u, bs (nobl L) = u := ⟨_, rfl⟩
      rw [htb] at CS ⊢
      clear htb
      go_wp2
      go_loopw [10, 11] (fun c i ws => ∃ j : Nat, j ≤ TT.length ∧ i = .int .i64 j ∧ c = .int .i64 (words (TT.take j) : Nat) ∧ w5 = ws) (fun _ i _ => TT.length - (intOf i).toNat)
      case atStart => exact ⟨0, Nat.zero_le _, rfl, rfl, rfl⟩
      case round =>
        obtain ⟨j, hj, rfl, rfl, rfl⟩ := hrel
        by_cases hlt2 : j < TT.length
        · rcases HV.out with ⟨_, _, _, e⟩ | ⟨bk, off, cap, ev, hc, hm, hx⟩
          · rw [e] at hlt2; simp at hlt2
          cases ev
          obtain ⟨d1, d2, d3⟩ := rd_tok hx (Kp.refl _) j hlt2
          have wt := WT.out j hlt2
          have wl := WL.out j
          have z1 : (j : Int) < (TT.length : Int) := by omega
          have z3 : (0 : Int) ≤ (j : Int) := by omega
          have HLT := Lib.hid hlt2
          obtain ⟨kd, hkd⟩ : ∃ u, (tk TT j).1 = u := ⟨_, rfl⟩
          rw [hkd] at d1 wt
          obtain ⟨wd, hwd⟩ : ∃ u, words (TT.take j) = u := ⟨_, rfl⟩
          rw [hwd] at wt wl ⊢
          clear hkd hwd hx hc hm d2 d3
          by_cases k0 : kd = 0
          · have f1 : (kd == 0) = true := by rw [k0]; rfl
            rw [if_pos k0] at wt
            have WTH := Lib.hid wt
            clear k0 wt
            go_wp2
            go_roundw
            case rel => exact ⟨j + 1, HLT.out, by go_num, by rw [WTH.out]; first | go_num | (congr 1; omega), trivial⟩
            case measure => have := HLT.out; simp [intOf]; omega
          · have f1 : (kd == 0) = false := beq_eq_false_iff_ne.2 k0
            rw [if_neg k0, Nat.add_zero] at wt
            have WTH := Lib.hid wt
            clear k0 wt
            go_wp2
            go_roundw
            case rel => exact ⟨j + 1, HLT.out, by go_num, by rw [WTH.out]; rfl, trivial⟩
            case measure => have := HLT.out; simp [intOf]; omega
        · obtain rfl : j = TT.length := by omega
          rw [List.take_length, HWD.out]
          have np9 := NP9.out
          go_wp2_with fail
          refine (CS.out _ _ HV.out).mono ?_
          rintro e w6 ⟨rfl, kk⟩
          have K6 := Lib.hid (K5.out.trans kk)
          obtain ⟨x0, x1, x2, x3, x4, x5, x6, x7⟩ := row8 (heap_block kk GB.out)
          clear kk
          go_wp2_with fail
          refine (PPH.out _ K6.out).mono ?_
          rintro e w7 ⟨rfl, kk⟩
          have K7 := Lib.hid (K6.out.trans kk)
          clear kk x0 x1 x2 x3 x4 x5 x6 x7
          go_wp2
          go_ret
          exact ⟨by first | rfl | simp, K7.out⟩
theorem printLex_yes (k pk : Int) (y m q : ByteArray) (a t : Bool) (l : List ND) (ad : Option Addr) (cp : Nat) (w : World) (hu : NodesAt w (.slice ad l.length cp) l) (bn : cntL l ≤ 2000000) (T : TabSH w) (hf : fewN (.mk k ⟨pk, y, m, q⟩ a t l : ND) = true) : Calls Tryd.prog 10 #[.agg #[.int .i64 k, .int .i64 pk, .string y, .string m, .string q, .bool a, .bool t, .slice ad l.length cp]] w fun e w' => e = .returned (.bool true) ∧ Kp w w' := by
  rcases Bool.eq_false_or_eq_true (saneN saneP (.mk k ⟨pk, y, m, q⟩ a t l : ND)) with hs | hs
  rotate_left
  · exact printLex_none k pk y m q a t l ad cp w hu bn T hf hs
  · exact printLex_some k pk y m q a t l ad cp w hu bn T hf hs
theorem printLex_walk (n : ND) (u : Value) (w : World) (hu : NodesAt w u n.l) (bn : wgtN n ≤ 1048576) (T : TabSH w) :
    Calls Tryd.prog 10 #[ndV n u] w fun e w' => e = .returned (.bool true) ∧ Kp w w' := by
  have cn := cntL_of_wgt bn
  obtain ⟨ad, cp, rfl⟩ := hu.slice
  obtain ⟨k, pk, y, q, d, a, t, l, rfl⟩ := nd_dest n
  rcases Bool.eq_false_or_eq_true (fewN (.mk k ⟨pk, y, q, d⟩ a t l)) with f1 | f1
  rotate_left
  · exact printLex_no k pk y q d a t l ad cp w hu cn T f1
  exact printLex_yes k pk y q d a t l ad cp w hu cn T f1
end Go.Proofs.YtjiikianmjmgcaaDoor

namespace Go.Proofs.YtjiikianmjmgcaaDoor
open Go.RowKit
set_option linter.unusedVariables false
set_option linter.unusedSimpArgs false
set_option maxHeartbeats 16000000 in
set_option maxRecDepth 100000 in
theorem printLex_noG (k pk : Int) (y m q : ByteArray) (a t : Bool) (l : List ND) (ad : Option Addr) (cp : Nat) (w : World) (hu : NodesAt w (.slice ad l.length cp) l) (T : TabSH w) (hf : fewG (.mk k ⟨pk, y, m, q⟩ a t l : ND) = false) : Calls Tryd.prog 10 #[.agg #[.int .i64 k, .int .i64 pk, .string y, .string m, .string q, .bool a, .bool t, .slice ad l.length cp]] w fun e w' => e = .returned (.bool true) ∧ Kp w w' := by
  have AW := Lib.hid (fun w1 (qq : Kp w w1) => awake11 w1 (T.kp qq))
  have F1 : ∀ w1, Kp w w1 → Calls Tryd.prog 24 #[.agg #[.int .i64 k, .int .i64 pk, .string y, .string m, .string q, .bool a, .bool t, .slice ad l.length cp]] w1 fun e w' => e = .returned (.bool (fewG (.mk k ⟨pk, y, m, q⟩ a t l : ND))) ∧ Kp w1 w' := fun w1 qq => rfewG_any (.mk k ⟨pk, y, m, q⟩ a t l : ND) (.slice ad l.length cp) w1 (hu.kp qq)
  rw [hf] at F1
  have F1H := Lib.hid F1
  clear F1 hu T hf
  go_enter Tryd.func10, Tryd.ntmps10
  go_wp2_with fail
  refine (AW.out _ (Kp.alloc _ _)).mono ?_
  rintro e w1 ⟨rfl, kk⟩
  have K1 := Lib.hid ((Kp.alloc _ _).trans kk)
  have GA1 := Lib.hid (heap_block kk (heap_at w (.cells #[.int .i64 k, .int .i64 pk, .string y, .string m, .string q, .bool a, .bool t, .slice ad l.length cp] 46) w.heap.size rfl))
  clear kk
  obtain ⟨x0, x1, x2, x3, x4, x5, x6, x7⟩ := row8 GA1.out
  go_wp2_with fail
  refine (F1H.out _ K1.out).mono ?_
  rintro e w2 ⟨rfl, kk⟩
  have K2 := Lib.hid (K1.out.trans kk)
  have GA := Lib.hid (heap_block kk GA1.out)
  clear kk x0 x1 x2 x3 x4 x5 x6 x7 GA1
  go_wp2
  go_ret
  exact ⟨rfl, K2.out⟩
set_option maxHeartbeats 16000000 in
set_option maxRecDepth 100000 in
theorem printLex_noneG (k pk : Int) (y m q : ByteArray) (a t : Bool) (l : List ND) (ad : Option Addr) (cp : Nat) (w : World) (hu : NodesAt w (.slice ad l.length cp) l) (T : TabSH w) (hf : fewG (.mk k ⟨pk, y, m, q⟩ a t l : ND) = true) (hs : saneN saneP (.mk k ⟨pk, y, m, q⟩ a t l : ND) = false) : Calls Tryd.prog 10 #[.agg #[.int .i64 k, .int .i64 pk, .string y, .string m, .string q, .bool a, .bool t, .slice ad l.length cp]] w fun e w' => e = .returned (.bool true) ∧ Kp w w' := by
  have AW := Lib.hid (fun w1 (qq : Kp w w1) => awake11 w1 (T.kp qq))
  have F1 : ∀ w1, Kp w w1 → Calls Tryd.prog 24 #[.agg #[.int .i64 k, .int .i64 pk, .string y, .string m, .string q, .bool a, .bool t, .slice ad l.length cp]] w1 fun e w' => e = .returned (.bool (fewG (.mk k ⟨pk, y, m, q⟩ a t l : ND))) ∧ Kp w1 w' := fun w1 qq => rfewG_any (.mk k ⟨pk, y, m, q⟩ a t l : ND) (.slice ad l.length cp) w1 (hu.kp qq)
  rw [hf] at F1
  have F1H := Lib.hid F1
  have PS : ∀ w1, Kp w w1 → Calls Tryd.prog 25 #[.agg #[.int .i64 k, .int .i64 pk, .string y, .string m, .string q, .bool a, .bool t, .slice ad l.length cp]] w1 fun e w' => e = .returned (.bool (saneN saneP (.mk k ⟨pk, y, m, q⟩ a t l : ND))) ∧ Kp w1 w' := fun w1 qq => tSaneG_any (.mk k ⟨pk, y, m, q⟩ a t l : ND) (.slice ad l.length cp) w1 (hu.kp qq) (T.kp qq)
  have PSH := Lib.hid PS
  clear PS
  rw [hs] at PSH
  clear F1 hu T hf hs
  go_enter Tryd.func10, Tryd.ntmps10
  go_wp2_with fail
  refine (AW.out _ (Kp.alloc _ _)).mono ?_
  rintro e w1 ⟨rfl, kk⟩
  have K1 := Lib.hid ((Kp.alloc _ _).trans kk)
  have GA1 := Lib.hid (heap_block kk (heap_at w (.cells #[.int .i64 k, .int .i64 pk, .string y, .string m, .string q, .bool a, .bool t, .slice ad l.length cp] 46) w.heap.size rfl))
  clear kk
  obtain ⟨x0, x1, x2, x3, x4, x5, x6, x7⟩ := row8 GA1.out
  go_wp2_with fail
  refine (F1H.out _ K1.out).mono ?_
  rintro e w2 ⟨rfl, kk⟩
  have K2 := Lib.hid (K1.out.trans kk)
  have GA := Lib.hid (heap_block kk GA1.out)
  clear kk x0 x1 x2 x3 x4 x5 x6 x7 GA1
  obtain ⟨x0, x1, x2, x3, x4, x5, x6, x7⟩ := row8 GA.out
  go_wp2_with fail
  refine (PSH.out _ K2.out).mono ?_
  rintro e w3 ⟨rfl, kk⟩
  have K3 := Lib.hid (K2.out.trans kk)
  clear kk x0 x1 x2 x3 x4 x5 x6 x7 GA
  go_wp2
  go_ret
  exact ⟨rfl, K3.out⟩
theorem printLex_walkG (n : ND) (u : Value) (w : World) (hu : NodesAt w u n.l) (T : TabSH w) :
    Calls Tryd.prog 10 #[ndV n u] w fun e w' => e = .returned (.bool true) ∧ Kp w w' := by
  obtain ⟨ad, cp, rfl⟩ := hu.slice
  obtain ⟨k, pk, y, q, d, a, t, l, rfl⟩ := nd_dest n
  rcases Bool.eq_false_or_eq_true (fewG (.mk k ⟨pk, y, q, d⟩ a t l)) with f1 | f1
  · rcases Bool.eq_false_or_eq_true (saneN saneP (.mk k ⟨pk, y, q, d⟩ a t l)) with s1 | s1
    rotate_left
    · exact printLex_noneG k pk y q d a t l ad cp w hu T f1 s1
    have c1 : cntN (.mk k ⟨pk, y, q, d⟩ a t l) ≤ 64 := by
      have h := s1
      unfold saneN at h
      simp only [Bool.and_eq_true, decide_eq_true_eq] at h
      exact h.1
    have e1 : cntN (.mk k ⟨pk, y, q, d⟩ a t l) = cntL l + 1 := rfl
    exact printLex_yes k pk y q d a t l ad cp w hu (by omega) T (fewG_N f1 c1)
  · exact printLex_noG k pk y q d a t l ad cp w hu T f1
end Go.Proofs.YtjiikianmjmgcaaDoor

namespace Go.Proofs.YtjiikianmjmgcaaDoor.lawPrintLex
open Go.ChangeShapes Go.WideShapes Go.ChangeAt Go.RowKit
open Go.ChangeMaps (open_string shut_string)
set_option linter.unusedVariables false

theorem own : ownKnob Tryd.prog.godebug = none := by kernel_rfl
theorem laidOut : laidOutB Tryd.prog = true := by kernel_rfl

/-- A world for the witness: the settled one, each table holding what its initialiser lays. -/
noncomputable def laidWorld (os : Os) : World :=
  { World.holding Tryd.prog os ⟨#[], #[], []⟩ with heap := ((World.holding Tryd.prog os ⟨#[], #[], []⟩).heap.modify 0 fun
      | .cells _ t frozen => .cells #[.int .i64 4, .int .i64 2, .int .i64 2, .int .i64 12, .string ⟨#[]⟩, .int .i64 4, .int .i64 2, .int .i64 0, .int .i64 12, .string ⟨#[]⟩, .int .i64 4, .int .i64 1, .int .i64 0, .int .i64 4, .string ⟨#[]⟩, .int .i64 4, .int .i64 0, .int .i64 0, .int .i64 0, .string ⟨#[]⟩, .int .i64 3, .int .i64 0, .int .i64 0, .int .i64 0, .string ⟨#[100]⟩, .int .i64 2, .int .i64 0, .int .i64 0, .int .i64 0, .string ⟨#[99]⟩] t frozen
      | o => o) }
theorem laid_met (os : Os) : laidMet Tryd.prog Rows.printLexRow.laid ((laidWorld os).forCall (fun _ _ => 0) ⟨#[], #[.agg #[.int .i64 0, .int .i64 0, .string ByteArray.empty, .string ByteArray.empty, .string ByteArray.empty, .bool false, .bool false, .slice none 0 0]], []⟩).memory :=
  laidMet_of_run' 8 (by kernel_rfl) (by kernel_rfl)
theorem reads (os : Os) {H : Type} (enc : TypeId × Value → H) : ∃ places, DataW.whole enc Tryd.prog ((laidWorld os).forCall (fun _ _ => 0) ⟨#[], #[.agg #[.int .i64 0, .int .i64 0, .string ByteArray.empty, .string ByteArray.empty, .string ByteArray.empty, .bool false, .bool false, .slice none 0 0]], []⟩).memory Tryd.f10.params.toList Rows.printLexSpec.vars false (#[.agg #[.int .i64 0, .int .i64 0, .string ByteArray.empty, .string ByteArray.empty, .string ByteArray.empty, .bool false, .bool false, .slice none 0 0]] : Array Value).toList 8 = some ([.agg [.lit (.int .i64 0), .agg [.lit (.int .i64 0), .lit (.string []), .lit (.string []), .lit (.string [])], .lit (.bool false), .lit (.bool false), .nil]], [], places) :=
  ⟨[], by kernel_rfl⟩

set_option maxRecDepth 100000 in
theorem contract (H : Type) (enc : TypeId × Value → H) (W : World) (base : Nat) (args : Array Value) (ds gs : List (DataW H)) (before : List MemPlace)
    (hval : ∀ (j : Nat) t v, Tryd.f10.params[j]? = some t → args[j]? = some v → Value.okWide Tryd.prog W .any base t v)
    (hW : DataW.Whole enc Tryd.prog Tryd.f10.params.toList Rows.printLexSpec.vars false W args.toList ds gs before) (hL : laidMetH Tryd.prog Rows.printLexRow.laid W) :
    Calls Tryd.prog 10 args W fun e W' => ∃ v, e = .returned v ∧ Rows.printLexSpec.post enc Tryd.prog Tryd.f10 false true false false W args v W' := by
  have hW' := hW
  have hltA : ∀ x ∈ before, x.block < W.heap.size := fun x hx => by simpa using hW'.lt x hx
  obtain ⟨p, q, hA0, hV, rfl, hfz, hnd⟩ := hW
  have hA : DataW.TrodAll enc Tryd.prog W 0 (fun _ => true) true Tryd.f10.params.toList args.toList ds p := hA0
  rw [Tryd.params10] at hA hval
  obtain ⟨v0, vs0, d0, ds0, p0, q0, hargs, rfl, rfl, h0, r0⟩ := trodAll_cons hA
  obtain ⟨rfl, rfl, rfl⟩ := trodAll_nil r0
  obtain rfl : args = #[v0] := by cases args; simp_all
  obtain ⟨rfl, rfl⟩ := trodVars_none hV
  have hk0 := h0
  obtain ⟨n0, u0, rfl, hn0, gn0, wg0⟩ := open_node (hval 0 46 v0 rfl rfl) h0
  clear hA0
  simp only [List.append_nil] at hW'
  refine (printLex_walkG n0 u0 W hn0 (tabs_of1 hL)).mono fun e W' ⟨he, hg⟩ => ?_
  subst he
  have bel : Below W.heap.size W W' := hg
  exact ⟨_, rfl, _, _, _, [], _, [], hW', trodAll_mk1 (shut_bool Tryd.underlying4 _), (trodAll_cons_mk (Below.trod laidOut (by kernel_rfl) (of_decide_eq_true (by kernel_rfl)) hk0 bel (fun x hx => hltA x (by simp [hx]))) trodAll_mk0), rfl, bel.frame _, fun h => by cases h⟩

set_option maxRecDepth 100000 in
theorem lifted (os : Os) (started : os.Started) (H : Type) (enc : TypeId × Value → H) (F : Stop.Interp) :
    ReturnsInHanded {} Tryd.checked os 10 .any ((OpenSpec.ofChange Rows.printLexSpec).preRow enc Tryd.prog Tryd.f10 Rows.printLexRow.domain false Rows.printLexRow.laid) (((OpenSpec.ofChange Rows.printLexSpec).at F).post enc Tryd.prog Tryd.f10 false true false false) := by
  obtain ⟨places, hx⟩ := reads os enc
  refine returnsInHanded_of_row (C := Tryd.checked) (s := OpenSpec.ofChange Rows.printLexSpec) own started (by kernel_rfl) Tryd.func10
    (witness_row_at (enc := enc) (C := Tryd.checked) false (laidWorld os) #[.agg #[.int .i64 0, .int .i64 0, .string ByteArray.empty, .string ByteArray.empty, .string ByteArray.empty, .bool false, .bool false, .slice none 0 0]] rfl (by kernel_rfl) (by kernel_rfl) (by kernel_rfl)
      (OpenSpec.preRow_of_cond 8 hx (by kernel_rfl) (fun k hk => by cases hk) (by kernel_rfl) (laid_met os))) ?_
  intro W base args ds gs before hval hW _ hcond _ hL _ _
  exact contract H enc W base args ds gs before hval hW hL

theorem said : Rows.PrintLexSaid :=
  OpenClaim.holds_of_cond 10 Tryd.f10 rfl rfl rfl rfl rfl rfl rfl ⟨rfl, rfl, rfl, rfl, rfl⟩ rfl rfl rfl rfl rfl (by kernel_rfl) Tryd.func10 (by kernel_rfl)
    (of_decide_eq_true (by kernel_rfl)) (by unfold Func.isWrapper; first | (rw [if_pos (by decide +kernel)]; kernel_rfl) | (rw [if_neg (by decide +kernel)]; exact ⟨rfl, rfl⟩))
    (fun os started H enc _ F => by rw [OpenClaim.pre_eq_preRow]; exact lifted os started H enc F)

theorem plain (f : FuncId) (fn : Func) (hf : Tryd.pinned.checked.prog.funcNamed "lustrum/lustrumlaw11.PrintLex" = some f) (hfn : Tryd.pinned.checked.prog.funcs[f]? = some fn) :
    false = Tryd.pinned.checked.prog.looks [] ∧ ∀ (j : Nat) t, fn.params[j]? = some t → Tryd.pinned.checked.prog.wantsStandIn t = false := by
  obtain rfl : f = 10 := Option.some.inj ((show Tryd.prog.funcNamed "lustrum/lustrumlaw11.PrintLex" = some 10 by kernel_rfl).symm.trans hf) |>.symm
  obtain rfl : fn = Tryd.f10 := (Option.some.inj (Tryd.func10.symm.trans hfn)).symm
  refine ⟨by kernel_rfl, fun j t ht => ?_⟩
  rw [Tryd.params10] at ht
  have hm := Array.mem_of_getElem? ht
  have ho : t = 46 := by first | simpa using hm | (simp at hm; rcases hm with h <;> simp [h])
  subst ho
  exact (show Tryd.prog.wantsStandIn 46 = false by kernel_rfl)

/-- THE CARD. -/
theorem proved : Rows.PrintLexCardSaid :=
  Claim7.holds_tied_plain_at .later [] _ _ _ _ said (fun _ h => by cases h) (by kernel_rfl) (fun _ h => by cases h) printLex_row_tie rfl ⟨rfl, rfl⟩ (by kernel_rfl) rfl plain (by kernel_rfl)
#print axioms proved
end Go.Proofs.YtjiikianmjmgcaaDoor.lawPrintLex
