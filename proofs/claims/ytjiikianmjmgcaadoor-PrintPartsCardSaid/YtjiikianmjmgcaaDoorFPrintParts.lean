/-
  Joined: L11C, L11F, LPrintParts.
-/
import Derived.Test.YtjiikianmjmgcaaDoorGPrA
import Derived.Test.YtjiikianmjmgcaaDoorGTrB
import Derived.Test.YtjiikianmjmgcaaDoorCards
import Derived.Test.YtjiikianmjmgcaaDoorTie
import Derived.WalkKit
import Derived.ProofKit
import Derived.OpenShut
import Derived.ShutString
import Derived.ChangeOld
import Derived.Below
import Derived.Test.YtjiikianmjmgcaaDoor8T
import Derived.Deep.DeepHandedRow
import Derived.Lib.LaidTab
import Derived.Carry
namespace Go.Proofs.YtjiikianmjmgcaaDoor
open Go.RowKit
set_option linter.unusedVariables false
set_option linter.unusedSimpArgs false
theorem txJ_head {l : List ND} (h : 0 < l.length) (b c : List UInt8) : txJ l b c = b ++ txJ l [] c := by
  cases l with
  | nil => simp at h
  | cons x l => simp [txJ]
theorem sane_elem {k : Int} {p : PT} {a t : Bool} {l : List ND} (h : saneN saneP (.mk k p a t l) = true) (hk : k = 2) {i : Nat} (hi : i < l.length) : saneN saneP (nth l i) = true := by
  subst hk
  unfold saneN at *
  simp only [Bool.and_eq_true, decide_eq_true_eq] at *
  obtain ⟨h1, h2, h3⟩ := h
  have e : rightN saneP (.mk 2 p a t l) = (bareN (.mk 2 p a t l) && (!l.isEmpty && rightL saneP l)) := by simp [rightN]
  rw [e, Bool.and_eq_true, Bool.and_eq_true, rightL_all] at h3
  have ca := cnt_at hi
  have da := dep_at hi
  simp only [cntN, depN] at h1 h2
  exact ⟨by omega, by omega, List.all_eq_true.1 h3.2.2 _ (nth_mem hi)⟩
theorem sane_right {n : ND} (h : saneN saneP n = true) : rightN saneP n = true := by
  unfold saneN at h
  simp only [Bool.and_eq_true] at h
  exact h.2.2
set_option maxHeartbeats 16000000 in
set_option maxRecDepth 100000 in
theorem pside_3 (pk : Int) (y m q : ByteArray) (a t : Bool) (ad : Option Addr) (n cp : Nat) (w : World) : Calls Tryd.prog 41 #[.agg #[.int .i64 3, .int .i64 pk, .string y, .string m, .string q, .bool a, .bool t, .slice ad n cp]] w fun e w' => e = .returned (.string (bs [46, 46])) ∧ Kp w w' := by
  go_enter Tryd.func41, Tryd.ntmps41
  go_wp2
  go_ret
  exact ⟨rfl, Kp.alloc _ _⟩
set_option maxHeartbeats 16000000 in
set_option maxRecDepth 100000 in
theorem pside_4 (pk : Int) (y m q : ByteArray) (a t : Bool) (ad : Option Addr) (n cp : Nat) (w : World) : Calls Tryd.prog 41 #[.agg #[.int .i64 4, .int .i64 pk, .string y, .string m, .string q, .bool a, .bool t, .slice ad n cp]] w fun e w' => e = .returned (.string (bs [42])) ∧ Kp w w' := by
  go_enter Tryd.func41, Tryd.ntmps41
  go_wp2
  go_ret
  exact ⟨rfl, Kp.alloc _ _⟩
set_option maxHeartbeats 16000000 in
set_option maxRecDepth 100000 in
theorem pside_0 (pk : Int) (y m q : ByteArray) (a t : Bool) (ad : Option Addr) (n cp : Nat) (w : World) (hs : saneP ⟨pk, y, m, q⟩ = true) (T : TabSH w) : Calls Tryd.prog 41 #[.agg #[.int .i64 0, .int .i64 pk, .string y, .string m, .string q, .bool a, .bool t, .slice ad n cp]] w fun e w' => e = .returned (.string (bs (tlP ⟨pk, y, m, q⟩ ++ (mrk a 63 ++ mrk t 126)))) ∧ Kp w w' := by
  obtain ⟨W0, hW⟩ : ∃ x, x = w.alloc (.cells #[.int .i64 0, .int .i64 pk, .string y, .string m, .string q, .bool a, .bool t, .slice ad n cp] 46) := ⟨_, rfl⟩
  have kw : Kp w W0 := by rw [hW]; exact Kp.alloc _ _
  have gB : W0.heap[w.heap.size]? = some (.cells #[.int .i64 0, .int .i64 pk, .string y, .string m, .string q, .bool a, .bool t, .slice ad n cp] 46 (0, 0)) := by rw [hW]; exact heap_at _ _ _ rfl
  have GB := Lib.hid (fun w1 (q : Kp W0 w1) => heap_block q gB)
  have KW := Lib.hid kw
  have HW := Lib.hid hW
  have C := Lib.hid (fun w1 (qq : Kp w w1) => show Calls Tryd.prog 18 #[.agg #[.int .i64 pk, .string y, .string m, .string q]] w1 fun e w' => e = .returned (.string (bs (tlP ⟨pk, y, m, q⟩))) ∧ Kp w1 w' from textb_any ⟨pk, y, m, q⟩ w1 (T.kp qq))
  have lp : (bs (tlP ⟨pk, y, m, q⟩)).size ≤ 10 := by rw [bs_size]; exact tlP_len hs
  rw [bs_append, bs_append]
  obtain ⟨tp, htp⟩ : ∃ u, bs (tlP ⟨pk, y, m, q⟩) = u := ⟨_, rfl⟩
  rw [htp] at C lp ⊢
  clear htp hs kw gB hW T
  have R00 : tp ++ (bs (mrk false 63) ++ bs (mrk false 126)) = tp := by show tp ++ (⟨#[]⟩ ++ ⟨#[]⟩ : ByteArray) = tp; rw [bempty, bempty]
  have R10 : tp ++ (bs (mrk true 63) ++ bs (mrk false 126)) = tp ++ (⟨#[63]⟩ : ByteArray) := by show tp ++ ((⟨#[63]⟩ : ByteArray) ++ ⟨#[]⟩) = _; rw [bempty]
  have R01 : tp ++ (bs (mrk false 63) ++ bs (mrk true 126)) = tp ++ (⟨#[126]⟩ : ByteArray) := rfl
  have R11 : tp ++ (bs (mrk true 63) ++ bs (mrk true 126)) = tp ++ (⟨#[63]⟩ : ByteArray) ++ (⟨#[126]⟩ : ByteArray) := by rw [ByteArray.append_assoc]; rfl
  have RR := Lib.hid (And.intro R00 (And.intro R10 (And.intro R01 R11)))
  clear R00 R10 R01 R11
  cases a <;> cases t
  · have RE := Lib.hid RR.out.1
    obtain ⟨r, hr⟩ : ∃ r, tp ++ (bs (mrk false 63) ++ bs (mrk false 126)) = r := ⟨_, rfl⟩
    rw [hr]
    have HR2 := Lib.hid (hr.symm.trans RE.out)
    clear hr RE RR
    go_enter Tryd.func41, Tryd.ntmps41
    go_wp2_with fail
    rw [← HW.out]
    refine (C.out _ KW.out).mono ?_
    rintro e w1 ⟨rfl, kk⟩
    have K1 := Lib.hid kk
    clear kk
    obtain ⟨x0, x1, x2, x3, x4, x5, x6, x7⟩ := row8 (GB.out _ K1.out)
    go_wp2
    go_ret
    exact ⟨by rw [HR2.out]; rfl, KW.out.trans K1.out⟩
  · have RE := Lib.hid RR.out.2.2.1
    obtain ⟨r, hr⟩ : ∃ r, tp ++ (bs (mrk false 63) ++ bs (mrk true 126)) = r := ⟨_, rfl⟩
    rw [hr]
    have HR2 := Lib.hid (hr.symm.trans RE.out)
    clear hr RE RR
    go_enter Tryd.func41, Tryd.ntmps41
    go_wp2_with fail
    rw [← HW.out]
    refine (C.out _ KW.out).mono ?_
    rintro e w1 ⟨rfl, kk⟩
    have K1 := Lib.hid kk
    clear kk
    obtain ⟨x0, x1, x2, x3, x4, x5, x6, x7⟩ := row8 (GB.out _ K1.out)
    go_wp2
    go_ret
    exact ⟨by rw [HR2.out]; rfl, KW.out.trans K1.out⟩
  · have RE := Lib.hid RR.out.2.1
    obtain ⟨r, hr⟩ : ∃ r, tp ++ (bs (mrk true 63) ++ bs (mrk false 126)) = r := ⟨_, rfl⟩
    rw [hr]
    have HR2 := Lib.hid (hr.symm.trans RE.out)
    clear hr RE RR
    go_enter Tryd.func41, Tryd.ntmps41
    go_wp2_with fail
    rw [← HW.out]
    refine (C.out _ KW.out).mono ?_
    rintro e w1 ⟨rfl, kk⟩
    have K1 := Lib.hid kk
    clear kk
    obtain ⟨x0, x1, x2, x3, x4, x5, x6, x7⟩ := row8 (GB.out _ K1.out)
    go_wp2
    go_ret
    exact ⟨by rw [HR2.out]; rfl, KW.out.trans K1.out⟩
  · have RE := Lib.hid RR.out.2.2.2
    obtain ⟨r, hr⟩ : ∃ r, tp ++ (bs (mrk true 63) ++ bs (mrk true 126)) = r := ⟨_, rfl⟩
    rw [hr]
    have HR2 := Lib.hid (hr.symm.trans RE.out)
    clear hr RE RR
    go_enter Tryd.func41, Tryd.ntmps41
    go_wp2_with fail
    rw [← HW.out]
    refine (C.out _ KW.out).mono ?_
    rintro e w1 ⟨rfl, kk⟩
    have K1 := Lib.hid kk
    clear kk
    obtain ⟨x0, x1, x2, x3, x4, x5, x6, x7⟩ := row8 (GB.out _ K1.out)
    go_wp2
    go_ret
    exact ⟨by rw [HR2.out]; rfl, KW.out.trans K1.out⟩
theorem pside_any (n : ND) (v : Value) (w : World) (h : endN saneP n = true) (hv : ∃ ad c, v = .slice ad n.l.length c) (T : TabSH w) : Calls Tryd.prog 41 #[ndV n v] w fun e w' => e = .returned (.string (bs (txN n))) ∧ Kp w w' := by
  obtain ⟨ad, c, rfl⟩ := hv
  rcases endN_kind h with ⟨p, a, t, rfl, hp⟩ | rfl | rfl
  · have := pside_0 p.k p.y p.m p.d a t ad 0 c w hp T
    rw [show txN (.mk 0 p a t []) = tlP p ++ (mrk a 63 ++ mrk t 126) by simp [txN]]
    exact this
  · exact pside_3 0 ⟨#[]⟩ ⟨#[]⟩ ⟨#[]⟩ false false ad 0 c w
  · exact pside_4 0 ⟨#[]⟩ ⟨#[]⟩ ⟨#[]⟩ false false ad 0 c w
set_option maxHeartbeats 16000000 in
set_option maxRecDepth 100000 in
theorem printParts_no (k pk : Int) (y m q : ByteArray) (a t : Bool) (l : List ND) (ad : Option Addr) (cp : Nat) (w : World) (hu : NodesAt w (.slice ad l.length cp) l) (bn : cntL l ≤ 2000000) (T : TabSH w) (hf : fewN (.mk k ⟨pk, y, m, q⟩ a t l : ND) = false) : Calls Tryd.prog 9 #[.agg #[.int .i64 k, .int .i64 pk, .string y, .string m, .string q, .bool a, .bool t, .slice ad l.length cp]] w fun e w' => e = .returned (.bool true) ∧ Kp w w' := by
  have AW := Lib.hid (fun w1 (qq : Kp w w1) => awake11 w1 (T.kp qq))
  have F1 : ∀ w1, Kp w w1 → Calls Tryd.prog 24 #[.agg #[.int .i64 k, .int .i64 pk, .string y, .string m, .string q, .bool a, .bool t, .slice ad l.length cp]] w1 fun e w' => e = .returned (.bool (fewN (.mk k ⟨pk, y, m, q⟩ a t l : ND))) ∧ Kp w1 w' := fun w1 qq => rfewN_any (.mk k ⟨pk, y, m, q⟩ a t l : ND) (.slice ad l.length cp) w1 (hu.kp qq) bn
  rw [hf] at F1
  have F1H := Lib.hid F1
  clear F1 hu T hf bn
  go_enter Tryd.func9, Tryd.ntmps9
  go_wp2_with fail
  refine (AW.out _ (Kp.alloc _ _)).mono ?_
  rintro e w1 ⟨rfl, kk⟩
  have K1 := Lib.hid ((Kp.alloc _ _).trans kk)
  have GA1 := Lib.hid (heap_block kk (heap_at w (.cells #[.int .i64 k, .int .i64 pk, .string y, .string m, .string q, .bool a, .bool t, .slice ad l.length cp] 46) w.heap.size rfl))
  clear kk
  obtain ⟨x0, x1, x2, x3, x4, x5, x6, x7⟩ := row8 GA1.out
  go_wp2_with fail
  refine (F1H.out _ K1.out).mono ?_
  rintro e w2 ⟨rfl, kk⟩
  have K2 := Lib.hid (K1.out.trans kk)
  have GA := Lib.hid (heap_block kk GA1.out)
  clear kk x0 x1 x2 x3 x4 x5 x6 x7 GA1
  go_wp2
  go_ret
  exact ⟨rfl, K2.out⟩
set_option maxHeartbeats 16000000 in
set_option maxRecDepth 100000 in
theorem printParts_none (k pk : Int) (y m q : ByteArray) (a t : Bool) (l : List ND) (ad : Option Addr) (cp : Nat) (w : World) (hu : NodesAt w (.slice ad l.length cp) l) (bn : cntL l ≤ 2000000) (T : TabSH w) (hf : fewN (.mk k ⟨pk, y, m, q⟩ a t l : ND) = true) (hs : saneN saneP (.mk k ⟨pk, y, m, q⟩ a t l : ND) = false) : Calls Tryd.prog 9 #[.agg #[.int .i64 k, .int .i64 pk, .string y, .string m, .string q, .bool a, .bool t, .slice ad l.length cp]] w fun e w' => e = .returned (.bool true) ∧ Kp w w' := by
  have AW := Lib.hid (fun w1 (qq : Kp w w1) => awake11 w1 (T.kp qq))
  have F1 : ∀ w1, Kp w w1 → Calls Tryd.prog 24 #[.agg #[.int .i64 k, .int .i64 pk, .string y, .string m, .string q, .bool a, .bool t, .slice ad l.length cp]] w1 fun e w' => e = .returned (.bool (fewN (.mk k ⟨pk, y, m, q⟩ a t l : ND))) ∧ Kp w1 w' := fun w1 qq => rfewN_any (.mk k ⟨pk, y, m, q⟩ a t l : ND) (.slice ad l.length cp) w1 (hu.kp qq) bn
  rw [hf] at F1
  have F1H := Lib.hid F1
  have cn := few_cnt hf
  have PT : ∀ w1, Kp w w1 → Calls Tryd.prog 39 #[.agg #[.int .i64 k, .int .i64 pk, .string y, .string m, .string q, .bool a, .bool t, .slice ad l.length cp]] w1 fun e w' => e = .returned (.string (bs (textN (.mk k ⟨pk, y, m, q⟩ a t l : ND)))) ∧ Kp w1 w' := fun w1 qq => ptext_any (.mk k ⟨pk, y, m, q⟩ a t l : ND) (.slice ad l.length cp) w1 (hu.kp qq) cn (T.kp qq)
  have PTH := Lib.hid PT
  clear PT
  have PS : ∀ w1, Kp w w1 → Calls Tryd.prog 25 #[.agg #[.int .i64 k, .int .i64 pk, .string y, .string m, .string q, .bool a, .bool t, .slice ad l.length cp]] w1 fun e w' => e = .returned (.bool (saneN saneP (.mk k ⟨pk, y, m, q⟩ a t l : ND))) ∧ Kp w1 w' := fun w1 qq => tSane_any (.mk k ⟨pk, y, m, q⟩ a t l : ND) (.slice ad l.length cp) w1 (hu.kp qq) cn (T.kp qq)
  have PSH := Lib.hid PS
  clear PS
  rw [show bs (textN (.mk k ⟨pk, y, m, q⟩ a t l : ND)) = (⟨#[]⟩ : ByteArray) by unfold textN; rw [hs]; rfl] at PTH
  rw [hs] at PSH
  clear F1 hu T hf bn cn hs
  go_enter Tryd.func9, Tryd.ntmps9
  go_wp2_with fail
  refine (AW.out _ (Kp.alloc _ _)).mono ?_
  rintro e w1 ⟨rfl, kk⟩
  have K1 := Lib.hid ((Kp.alloc _ _).trans kk)
  have GA1 := Lib.hid (heap_block kk (heap_at w (.cells #[.int .i64 k, .int .i64 pk, .string y, .string m, .string q, .bool a, .bool t, .slice ad l.length cp] 46) w.heap.size rfl))
  clear kk
  obtain ⟨x0, x1, x2, x3, x4, x5, x6, x7⟩ := row8 GA1.out
  go_wp2_with fail
  refine (F1H.out _ K1.out).mono ?_
  rintro e w2 ⟨rfl, kk⟩
  have K2 := Lib.hid (K1.out.trans kk)
  have GA := Lib.hid (heap_block kk GA1.out)
  clear kk x0 x1 x2 x3 x4 x5 x6 x7 GA1
  obtain ⟨x0, x1, x2, x3, x4, x5, x6, x7⟩ := row8 GA.out
  go_wp2_with fail
  refine (PTH.out _ K2.out).mono ?_
  rintro e w3 ⟨rfl, kk⟩
  have K3 := Lib.hid (K2.out.trans kk)
  have GA3 := Lib.hid (heap_block kk GA.out)
  clear kk x0 x1 x2 x3 x4 x5 x6 x7 GA
  obtain ⟨x0, x1, x2, x3, x4, x5, x6, x7⟩ := row8 GA3.out
  go_wp2_with fail
  refine (PSH.out _ K3.out).mono ?_
  rintro e w4 ⟨rfl, kk⟩
  have K4 := Lib.hid (K3.out.trans kk)
  have GB := Lib.hid (fun w1 (qq : Kp w4 w1) => heap_block (kk.trans qq) GA3.out)
  clear kk x0 x1 x2 x3 x4 x5 x6 x7 GA3
  go_wp2
  go_ret
  exact ⟨rfl, K4.out⟩
set_option maxHeartbeats 16000000 in
set_option maxRecDepth 100000 in
theorem printParts_0 (pk : Int) (y m q : ByteArray) (a t : Bool) (l : List ND) (ad : Option Addr) (cp : Nat) (w : World) (hu : NodesAt w (.slice ad l.length cp) l) (bn : cntL l ≤ 2000000) (T : TabSH w) (hf : fewN (.mk 0 ⟨pk, y, m, q⟩ a t l : ND) = true) (hs : saneN saneP (.mk 0 ⟨pk, y, m, q⟩ a t l : ND) = true) : Calls Tryd.prog 9 #[.agg #[.int .i64 0, .int .i64 pk, .string y, .string m, .string q, .bool a, .bool t, .slice ad l.length cp]] w fun e w' => e = .returned (.bool true) ∧ Kp w w' := by
  have AW := Lib.hid (fun w1 (qq : Kp w w1) => awake11 w1 (T.kp qq))
  have F1 : ∀ w1, Kp w w1 → Calls Tryd.prog 24 #[.agg #[.int .i64 0, .int .i64 pk, .string y, .string m, .string q, .bool a, .bool t, .slice ad l.length cp]] w1 fun e w' => e = .returned (.bool (fewN (.mk 0 ⟨pk, y, m, q⟩ a t l : ND))) ∧ Kp w1 w' := fun w1 qq => rfewN_any (.mk 0 ⟨pk, y, m, q⟩ a t l : ND) (.slice ad l.length cp) w1 (hu.kp qq) bn
  rw [hf] at F1
  have F1H := Lib.hid F1
  have cn := few_cnt hf
  have PT : ∀ w1, Kp w w1 → Calls Tryd.prog 39 #[.agg #[.int .i64 0, .int .i64 pk, .string y, .string m, .string q, .bool a, .bool t, .slice ad l.length cp]] w1 fun e w' => e = .returned (.string (bs (textN (.mk 0 ⟨pk, y, m, q⟩ a t l : ND)))) ∧ Kp w1 w' := fun w1 qq => ptext_any (.mk 0 ⟨pk, y, m, q⟩ a t l : ND) (.slice ad l.length cp) w1 (hu.kp qq) cn (T.kp qq)
  have PTH := Lib.hid PT
  clear PT
  have PS : ∀ w1, Kp w w1 → Calls Tryd.prog 25 #[.agg #[.int .i64 0, .int .i64 pk, .string y, .string m, .string q, .bool a, .bool t, .slice ad l.length cp]] w1 fun e w' => e = .returned (.bool (saneN saneP (.mk 0 ⟨pk, y, m, q⟩ a t l : ND))) ∧ Kp w1 w' := fun w1 qq => tSane_any (.mk 0 ⟨pk, y, m, q⟩ a t l : ND) (.slice ad l.length cp) w1 (hu.kp qq) cn (T.kp qq)
  have PSH := Lib.hid PS
  clear PS
  rw [show bs (textN (.mk 0 ⟨pk, y, m, q⟩ a t l : ND)) = bs (txN (.mk 0 ⟨pk, y, m, q⟩ a t l : ND)) by unfold textN; rw [if_pos hs]] at PTH
  rw [hs] at PSH
  have tl := txN_len900 hs
  have tz : (bs (txN (.mk 0 ⟨pk, y, m, q⟩ a t l : ND))).size ≤ 894 ∧ 1 ≤ (bs (txN (.mk 0 ⟨pk, y, m, q⟩ a t l : ND))).size := by rw [bs_size]; exact tl
  obtain ⟨tx, htx⟩ : ∃ u, bs (txN (.mk 0 ⟨pk, y, m, q⟩ a t l : ND)) = u := ⟨_, rfl⟩
  rw [htx] at PTH tz
  have tz1 : (tx.size : Int) ≤ 894 := by omega
  have tz2 : (1 : Int) ≤ (tx.size : Int) := by omega
  have tz3 : decide ((tx.size : Int) ≤ 2000) = true := decide_eq_true (by omega)
  have tz4 : decide ((0 : Int) < (tx.size : Int)) = true := decide_eq_true (by omega)
  have tz5 : decide (tx.size ≤ 2000) = true := decide_eq_true (by omega)
  have tz6 : decide (0 < tx.size) = true := decide_eq_true (by omega)
  have HTX := Lib.hid htx
  clear htx tl
  have ES : endN saneP (.mk 0 ⟨pk, y, m, q⟩ a t l : ND) = true := by
    rcases rightN_kind (sane_right hs) with ⟨p', a', t', e, hp⟩ | ⟨x, z, e, _⟩ | ⟨x, l', e, _⟩
    · rw [e]; exact end_point hp
    · simp at e
    · simp at e
  have PD : ∀ w1, Kp w w1 → Calls Tryd.prog 41 #[.agg #[.int .i64 0, .int .i64 pk, .string y, .string m, .string q, .bool a, .bool t, .slice ad l.length cp]] w1 fun e w' => e = .returned (.string tx) ∧ Kp w1 w' := fun w1 qq => by
    have this := pside_any (.mk 0 ⟨pk, y, m, q⟩ a t l : ND) (.slice ad l.length cp) w1 ES ⟨_, _, rfl⟩ (T.kp qq)
    rw [HTX.out] at this
    exact this
  have PDH := Lib.hid PD
  clear PD
  clear F1 hu T hf bn cn hs ES
  go_enter Tryd.func9, Tryd.ntmps9
  go_wp2_with fail
  refine (AW.out _ (Kp.alloc _ _)).mono ?_
  rintro e w1 ⟨rfl, kk⟩
  have K1 := Lib.hid ((Kp.alloc _ _).trans kk)
  have GA1 := Lib.hid (heap_block kk (heap_at w (.cells #[.int .i64 0, .int .i64 pk, .string y, .string m, .string q, .bool a, .bool t, .slice ad l.length cp] 46) w.heap.size rfl))
  clear kk
  obtain ⟨x0, x1, x2, x3, x4, x5, x6, x7⟩ := row8 GA1.out
  go_wp2_with fail
  refine (F1H.out _ K1.out).mono ?_
  rintro e w2 ⟨rfl, kk⟩
  have K2 := Lib.hid (K1.out.trans kk)
  have GA := Lib.hid (heap_block kk GA1.out)
  clear kk x0 x1 x2 x3 x4 x5 x6 x7 GA1
  obtain ⟨x0, x1, x2, x3, x4, x5, x6, x7⟩ := row8 GA.out
  go_wp2_with fail
  refine (PTH.out _ K2.out).mono ?_
  rintro e w3 ⟨rfl, kk⟩
  have K3 := Lib.hid (K2.out.trans kk)
  have GA3 := Lib.hid (heap_block kk GA.out)
  clear kk x0 x1 x2 x3 x4 x5 x6 x7 GA
  obtain ⟨x0, x1, x2, x3, x4, x5, x6, x7⟩ := row8 GA3.out
  go_wp2_with fail
  refine (PSH.out _ K3.out).mono ?_
  rintro e w4 ⟨rfl, kk⟩
  have K4 := Lib.hid (K3.out.trans kk)
  have GB := Lib.hid (fun w1 (qq : Kp w4 w1) => heap_block (kk.trans qq) GA3.out)
  clear kk x0 x1 x2 x3 x4 x5 x6 x7 GA3
  obtain ⟨x0, x1, x2, x3, x4, x5, x6, x7⟩ := row8 (GB.out _ (Kp.refl _))
  go_wp2_with fail
  refine (PDH.out _ K4.out).mono ?_
  rintro e w5 ⟨rfl, kk⟩
  have K5 := Lib.hid kk
  clear kk x0 x1 x2 x3 x4 x5 x6 x7
  have KE := K4.out.trans K5.out
  go_wp2
  go_ret
  exact ⟨by first | rfl | simp, KE⟩
abbrev ppS0 : Oper := { dst := some 52, op := Go.Op.fieldAddr 46 (Go.Operand.tmp 1) 4, type := 0, pos := "law.go:51", after := #[], guard := none }
abbrev ppS1 : Oper := { dst := some 53, op := Go.Op.load 44 (Go.Operand.tmp 52), type := 44, pos := "law.go:51", after := #[{ on := 0, ground := Go.Ground.data }], guard := none }
abbrev ppS2 : Oper := { dst := some 54, op := Go.Op.indexAddr 44 (Go.Operand.tmp 53) (Go.Operand.const (Go.Value.int Go.IntKind.i64 0)), type := 0, pos := "law.go:51", after := #[{ on := 1, ground := Go.Ground.data }], guard := none }
abbrev ppS3 : Oper := { dst := some 55, op := Go.Op.load 46 (Go.Operand.tmp 54), type := 46, pos := "law.go:51", after := #[{ on := 2, ground := Go.Ground.data }], guard := none }
abbrev ppS4 : Oper := { dst := some 56, op := Go.Op.call { callee := Go.Callee.value (Go.Operand.func 41), args := #[Go.Operand.tmp 55], argTypes := #[46] }, type := 9, pos := "law.go:51", after := #[{ on := 3, ground := Go.Ground.data }], guard := none }
abbrev ppS5 : Oper := { dst := some 57, op := Go.Op.binOp Go.BinOp.add 9 (Go.Operand.tmp 56) (Go.Operand.const (Go.Value.string { data := #[47] })) 9, type := 9, pos := "law.go:51", after := #[{ on := 4, ground := Go.Ground.data }], guard := none }
abbrev ppS6 : Oper := { dst := some 58, op := Go.Op.fieldAddr 46 (Go.Operand.tmp 1) 4, type := 0, pos := "law.go:51", after := #[], guard := none }
abbrev ppS7 : Oper := { dst := some 59, op := Go.Op.load 44 (Go.Operand.tmp 58), type := 44, pos := "law.go:51", after := #[{ on := 6, ground := Go.Ground.data }], guard := none }
abbrev ppS8 : Oper := { dst := some 60, op := Go.Op.indexAddr 44 (Go.Operand.tmp 59) (Go.Operand.const (Go.Value.int Go.IntKind.i64 1)), type := 0, pos := "law.go:51", after := #[{ on := 7, ground := Go.Ground.data }], guard := none }
abbrev ppS9 : Oper := { dst := some 61, op := Go.Op.load 46 (Go.Operand.tmp 60), type := 46, pos := "law.go:51", after := #[{ on := 8, ground := Go.Ground.data }], guard := none }
abbrev ppS10 : Oper := { dst := some 62, op := Go.Op.call { callee := Go.Callee.value (Go.Operand.func 41), args := #[Go.Operand.tmp 61], argTypes := #[46] }, type := 9, pos := "law.go:51", after := #[{ on := 9, ground := Go.Ground.data }, { on := 4, ground := Go.Ground.chain }], guard := none }
abbrev ppS11 : Oper := { dst := some 63, op := Go.Op.binOp Go.BinOp.add 9 (Go.Operand.tmp 57) (Go.Operand.tmp 62) 9, type := 9, pos := "law.go:51", after := #[{ on := 5, ground := Go.Ground.data }, { on := 10, ground := Go.Ground.data }], guard := none }
abbrev ppS12 : Oper := { dst := some 5, op := Go.Op.assign (Go.Operand.tmp 63), type := 9, pos := "law.go:51", after := #[{ on := 11, ground := Go.Ground.data }, { on := 10, ground := Go.Ground.chain }, { on := 0, ground := Go.Ground.phase }, { on := 1, ground := Go.Ground.phase }, { on := 2, ground := Go.Ground.phase }, { on := 3, ground := Go.Ground.phase }, { on := 4, ground := Go.Ground.phase }, { on := 5, ground := Go.Ground.phase }, { on := 6, ground := Go.Ground.phase }, { on := 7, ground := Go.Ground.phase }, { on := 8, ground := Go.Ground.phase }, { on := 9, ground := Go.Ground.phase }, { on := 10, ground := Go.Ground.phase }, { on := 11, ground := Go.Ground.phase }], guard := none }
set_option maxHeartbeats 16000000 in
set_option maxRecDepth 100000 in
theorem printParts_1 (pk : Int) (y m q : ByteArray) (a t : Bool) (l : List ND) (ad : Option Addr) (cp : Nat) (w : World) (hu : NodesAt w (.slice ad l.length cp) l) (bn : cntL l ≤ 2000000) (T : TabSH w) (hf : fewN (.mk 1 ⟨pk, y, m, q⟩ a t l : ND) = true) (hs : saneN saneP (.mk 1 ⟨pk, y, m, q⟩ a t l : ND) = true) : Calls Tryd.prog 9 #[.agg #[.int .i64 1, .int .i64 pk, .string y, .string m, .string q, .bool a, .bool t, .slice ad l.length cp]] w fun e w' => e = .returned (.bool true) ∧ Kp w w' := by
  have AW := Lib.hid (fun w1 (qq : Kp w w1) => awake11 w1 (T.kp qq))
  have F1 : ∀ w1, Kp w w1 → Calls Tryd.prog 24 #[.agg #[.int .i64 1, .int .i64 pk, .string y, .string m, .string q, .bool a, .bool t, .slice ad l.length cp]] w1 fun e w' => e = .returned (.bool (fewN (.mk 1 ⟨pk, y, m, q⟩ a t l : ND))) ∧ Kp w1 w' := fun w1 qq => rfewN_any (.mk 1 ⟨pk, y, m, q⟩ a t l : ND) (.slice ad l.length cp) w1 (hu.kp qq) bn
  rw [hf] at F1
  have F1H := Lib.hid F1
  have cn := few_cnt hf
  have PT : ∀ w1, Kp w w1 → Calls Tryd.prog 39 #[.agg #[.int .i64 1, .int .i64 pk, .string y, .string m, .string q, .bool a, .bool t, .slice ad l.length cp]] w1 fun e w' => e = .returned (.string (bs (textN (.mk 1 ⟨pk, y, m, q⟩ a t l : ND)))) ∧ Kp w1 w' := fun w1 qq => ptext_any (.mk 1 ⟨pk, y, m, q⟩ a t l : ND) (.slice ad l.length cp) w1 (hu.kp qq) cn (T.kp qq)
  have PTH := Lib.hid PT
  clear PT
  have PS : ∀ w1, Kp w w1 → Calls Tryd.prog 25 #[.agg #[.int .i64 1, .int .i64 pk, .string y, .string m, .string q, .bool a, .bool t, .slice ad l.length cp]] w1 fun e w' => e = .returned (.bool (saneN saneP (.mk 1 ⟨pk, y, m, q⟩ a t l : ND))) ∧ Kp w1 w' := fun w1 qq => tSane_any (.mk 1 ⟨pk, y, m, q⟩ a t l : ND) (.slice ad l.length cp) w1 (hu.kp qq) cn (T.kp qq)
  have PSH := Lib.hid PS
  clear PS
  rw [show bs (textN (.mk 1 ⟨pk, y, m, q⟩ a t l : ND)) = bs (txN (.mk 1 ⟨pk, y, m, q⟩ a t l : ND)) by unfold textN; rw [if_pos hs]] at PTH
  rw [hs] at PSH
  have tl := txN_len900 hs
  obtain ⟨x, z, rfl, ex, ez⟩ : ∃ x z, l = [x, z] ∧ endN saneP x = true ∧ endN saneP z = true := by
    rcases rightN_kind (sane_right hs) with ⟨p', a', t', e, hp⟩ | ⟨x, z, e, h1, h2⟩ | ⟨x, l', e, _⟩
    · simp at e
    · simp only [ND.mk.injEq] at e; exact ⟨x, z, e.2.2.2.2, h1, h2⟩
    · simp at e
  have tz : (bs (txN (.mk 1 ⟨pk, y, m, q⟩ a t [x, z] : ND))).size ≤ 894 ∧ 1 ≤ (bs (txN (.mk 1 ⟨pk, y, m, q⟩ a t [x, z] : ND))).size := by rw [bs_size]; exact tl
  obtain ⟨tx, htx⟩ : ∃ u, bs (txN (.mk 1 ⟨pk, y, m, q⟩ a t [x, z] : ND)) = u := ⟨_, rfl⟩
  rw [htx] at PTH tz
  have tz1 : (tx.size : Int) ≤ 894 := by omega
  have tz2 : (1 : Int) ≤ (tx.size : Int) := by omega
  have tz3 : decide ((tx.size : Int) ≤ 2000) = true := decide_eq_true (by omega)
  have tz4 : decide ((0 : Int) < (tx.size : Int)) = true := decide_eq_true (by omega)
  have tz5 : decide (tx.size ≤ 2000) = true := decide_eq_true (by omega)
  have tz6 : decide (0 < tx.size) = true := decide_eq_true (by omega)
  have HTX := Lib.hid htx
  clear htx tl
  obtain ⟨bk, off, vx, hadx, rx, sx⟩ := hu.get (i := 0) (by simp)
  obtain ⟨bk', off', vz, hadz, rz, sz⟩ := hu.get (i := 1) (by simp)
  obtain ⟨rfl, rfl⟩ : bk = bk' ∧ off = off' := by rw [hadx] at hadz; simp at hadz; exact hadz
  subst hadx
  rw [show nth [x, z] 0 = x from rfl] at rx sx
  rw [show nth [x, z] 1 = z from rfl] at rz sz
  have lx : (bs (txN x)).size ≤ 1000 ∧ (bs (txN z)).size ≤ 1000 := by
    have h1 := (end_len ex).1
    have h2 := (end_len ez).1
    have c1 : cntN x = 1 := by rw [cntN_mk, endN_leaf ex]; rfl
    have c2 : cntN z = 1 := by rw [cntN_mk, endN_leaf ez]; rfl
    rw [bs_size, bs_size]
    omega
  obtain ⟨lx, lz⟩ := lx
  have CX := Lib.hid (fun w1 (qq : Kp w w1) => pside_any x vx w1 ex sx.slice (T.kp qq))
  have CZ := Lib.hid (fun w1 (qq : Kp w w1) => pside_any z vz w1 ez sz.slice (T.kp qq))
  have HEQ := Lib.hid (show (bs (txN x) ++ (⟨#[47]⟩ : ByteArray)) ++ bs (txN z) = tx by rw [← HTX.out, show txN (.mk 1 ⟨pk, y, m, q⟩ a t [x, z]) = txN x ++ ([47] ++ txN z) by simp [txN, txJ], bs_append, bs_append, ByteArray.append_assoc]; rfl)
  obtain ⟨sx', hsx⟩ : ∃ u, bs (txN x) = u := ⟨_, rfl⟩
  obtain ⟨sz', hsz⟩ : ∃ u, bs (txN z) = u := ⟨_, rfl⟩
  rw [hsx] at CX lx HEQ
  rw [hsz] at CZ lz HEQ
  have q1 : ¬ 9223372036854775807 < sx'.size + 1 := by omega
  have q2 : ¬ 9223372036854775807 < sx'.size + 1 + sz'.size := by omega
  obtain ⟨adx, cpx, rfl⟩ := sx.slice
  obtain ⟨adz, cpz, rfl⟩ := sz.slice
  have RX := Lib.hid rx
  have RZ := Lib.hid rz
  obtain ⟨k1, ⟨pk1, y1, m1, q1⟩, a1, t1, l1⟩ := x
  obtain ⟨k2, ⟨pk2, y2, m2, q2⟩, a2, t2, l2⟩ := z
  unfold RowN at RX RZ
  unfold ndV at CX CZ
  simp only [ND.k, ND.p, ND.a, ND.t, ND.l, List.length_cons, List.length_nil, Nat.reduceAdd, Nat.zero_mul, Nat.add_zero, Nat.one_mul] at *
  obtain ⟨g0, g1, g2, g3, g4, g5, g6, g7⟩ := RX.out
  obtain ⟨h0, h1, h2, h3, h4, h5, h6, h7⟩ := RZ.out
  have LX := Lib.hid (fun w1 (qq : Kp w w1) => And.intro (cell_up qq g0) (And.intro (cell_up qq g1) (And.intro (cell_up qq g2) (And.intro (cell_up qq g3) (And.intro (cell_up qq g4) (And.intro (cell_up qq g5) (And.intro (cell_up qq g6) (cell_up qq g7))))))))
  have LZ := Lib.hid (fun w1 (qq : Kp w w1) => And.intro (cell_up qq h0) (And.intro (cell_up qq h1) (And.intro (cell_up qq h2) (And.intro (cell_up qq h3) (And.intro (cell_up qq h4) (And.intro (cell_up qq h5) (And.intro (cell_up qq h6) (cell_up qq h7))))))))
  clear F1 hu T hf bn cn hs ex ez rx rz sx sz hsx hsz g0 g1 g2 g3 g4 g5 g6 g7 h0 h1 h2 h3 h4 h5 h6 h7 RX RZ HTX
  go_enter Tryd.func9, Tryd.ntmps9
  go_wp2_with fail
  refine (AW.out _ (Kp.alloc _ _)).mono ?_
  rintro e w1 ⟨rfl, kk⟩
  have K1 := Lib.hid ((Kp.alloc _ _).trans kk)
  have GA1 := Lib.hid (heap_block kk (heap_at w (.cells #[.int .i64 1, .int .i64 pk, .string y, .string m, .string q, .bool a, .bool t, .slice (some ⟨bk, off, none⟩) 2 cp] 46) w.heap.size rfl))
  clear kk
  obtain ⟨x0, x1, x2, x3, x4, x5, x6, x7⟩ := row8 GA1.out
  go_wp2_with fail
  refine (F1H.out _ K1.out).mono ?_
  rintro e w2 ⟨rfl, kk⟩
  have K2 := Lib.hid (K1.out.trans kk)
  have GA := Lib.hid (heap_block kk GA1.out)
  clear kk x0 x1 x2 x3 x4 x5 x6 x7 GA1
  obtain ⟨x0, x1, x2, x3, x4, x5, x6, x7⟩ := row8 GA.out
  go_wp2_with fail
  refine (PTH.out _ K2.out).mono ?_
  rintro e w3 ⟨rfl, kk⟩
  have K3 := Lib.hid (K2.out.trans kk)
  have GA3 := Lib.hid (heap_block kk GA.out)
  clear kk x0 x1 x2 x3 x4 x5 x6 x7 GA
  obtain ⟨x0, x1, x2, x3, x4, x5, x6, x7⟩ := row8 GA3.out
  go_wp2_with fail
  refine (PSH.out _ K3.out).mono ?_
  rintro e w4 ⟨rfl, kk⟩
  have K4 := Lib.hid (K3.out.trans kk)
  have GB := Lib.hid (fun w1 (qq : Kp w4 w1) => heap_block (kk.trans qq) GA3.out)
  clear kk x0 x1 x2 x3 x4 x5 x6 x7 GA3
  obtain ⟨x0, x1, x2, x3, x4, x5, x6, x7⟩ := row8 (GB.out _ (Kp.refl _))
  have KS := Lib.hid (fun w' (qq : Kp w4 w') => show w'.cell? ⟨w.heap.size, 7, none⟩ = some (.slice (some ⟨bk, off, none⟩) 2 cp) ∧ w'.cell? ⟨bk, off, none⟩ = some (.int .i64 k1) ∧ w'.cell? ⟨bk, off + 1, none⟩ = some (.int .i64 pk1) ∧ w'.cell? ⟨bk, off + 2, none⟩ = some (.string y1) ∧ w'.cell? ⟨bk, off + 3, none⟩ = some (.string m1) ∧ w'.cell? ⟨bk, off + 4, none⟩ = some (.string q1) ∧ w'.cell? ⟨bk, off + 5, none⟩ = some (.bool a1) ∧ w'.cell? ⟨bk, off + 6, none⟩ = some (.bool t1) ∧ w'.cell? ⟨bk, off + 7, none⟩ = some (.slice adx l1.length cpx) ∧ w'.cell? ⟨bk, off + 8, none⟩ = some (.int .i64 k2) ∧ w'.cell? ⟨bk, off + 9, none⟩ = some (.int .i64 pk2) ∧ w'.cell? ⟨bk, off + 10, none⟩ = some (.string y2) ∧ w'.cell? ⟨bk, off + 11, none⟩ = some (.string m2) ∧ w'.cell? ⟨bk, off + 12, none⟩ = some (.string q2) ∧ w'.cell? ⟨bk, off + 13, none⟩ = some (.bool a2) ∧ w'.cell? ⟨bk, off + 14, none⟩ = some (.bool t2) ∧ w'.cell? ⟨bk, off + 15, none⟩ = some (.slice adz l2.length cpz) ∧ Kp w4 w' from ⟨(row8 (GB.out _ qq)).2.2.2.2.2.2.2, (LX.out _ (K4.out.trans qq)).1, (LX.out _ (K4.out.trans qq)).2.1, (LX.out _ (K4.out.trans qq)).2.2.1, (LX.out _ (K4.out.trans qq)).2.2.2.1, (LX.out _ (K4.out.trans qq)).2.2.2.2.1, (LX.out _ (K4.out.trans qq)).2.2.2.2.2.1, (LX.out _ (K4.out.trans qq)).2.2.2.2.2.2.1, (LX.out _ (K4.out.trans qq)).2.2.2.2.2.2.2, (LZ.out _ (K4.out.trans qq)).1, (LZ.out _ (K4.out.trans qq)).2.1, (LZ.out _ (K4.out.trans qq)).2.2.1, (LZ.out _ (K4.out.trans qq)).2.2.2.1, (LZ.out _ (K4.out.trans qq)).2.2.2.2.1, (LZ.out _ (K4.out.trans qq)).2.2.2.2.2.1, (LZ.out _ (K4.out.trans qq)).2.2.2.2.2.2.1, (LZ.out _ (K4.out.trans qq)).2.2.2.2.2.2.2, qq⟩)
  go_wp2_with fail
  refine wp_region_held_drew (S := fun w' => w'.cell? ⟨w.heap.size, 7, none⟩ = some (.slice (some ⟨bk, off, none⟩) 2 cp) ∧ w'.cell? ⟨bk, off, none⟩ = some (.int .i64 k1) ∧ w'.cell? ⟨bk, off + 1, none⟩ = some (.int .i64 pk1) ∧ w'.cell? ⟨bk, off + 2, none⟩ = some (.string y1) ∧ w'.cell? ⟨bk, off + 3, none⟩ = some (.string m1) ∧ w'.cell? ⟨bk, off + 4, none⟩ = some (.string q1) ∧ w'.cell? ⟨bk, off + 5, none⟩ = some (.bool a1) ∧ w'.cell? ⟨bk, off + 6, none⟩ = some (.bool t1) ∧ w'.cell? ⟨bk, off + 7, none⟩ = some (.slice adx l1.length cpx) ∧ w'.cell? ⟨bk, off + 8, none⟩ = some (.int .i64 k2) ∧ w'.cell? ⟨bk, off + 9, none⟩ = some (.int .i64 pk2) ∧ w'.cell? ⟨bk, off + 10, none⟩ = some (.string y2) ∧ w'.cell? ⟨bk, off + 11, none⟩ = some (.string m2) ∧ w'.cell? ⟨bk, off + 12, none⟩ = some (.string q2) ∧ w'.cell? ⟨bk, off + 13, none⟩ = some (.bool a2) ∧ w'.cell? ⟨bk, off + 14, none⟩ = some (.bool t2) ∧ w'.cell? ⟨bk, off + 15, none⟩ = some (.slice adz l2.length cpz) ∧ Kp w4 w') (by kernel_rfl) ?_ (fun hHeld0 => ?_)
  · (try dsimp only); exact KS.out _ (by first | assumption | exact Kp.drew _ | exact Kp.refl _)
  refine tkW (v := ?_) 0 ppS0 rfl (by kernel_rfl) (by kernel_rfl) (by kernel_rfl) (fun _ _ _ h => h) (by rfl) ?_ (by assumption) ?_
  rotate_left
  · intro w hSw; (try dsimp only at hSw); go_simp; (try with_reducible rfl)
  (try simp only [Act.put, ppS0, List.setIfInBounds_toArray, List.set_cons_zero, List.set_cons_succ])
  refine tkW (v := ?_) 1 ppS1 rfl (by kernel_rfl) (by kernel_rfl) (by kernel_rfl) (fun _ _ _ h => h) (by rfl) ?_ (by assumption) ?_
  rotate_left
  · intro w hSw; (try dsimp only at hSw); go_simp; (try with_reducible rfl)
  (try simp only [Act.put, ppS1, List.setIfInBounds_toArray, List.set_cons_zero, List.set_cons_succ])
  refine tkW (v := ?_) 2 ppS2 rfl (by kernel_rfl) (by kernel_rfl) (by kernel_rfl) (fun _ _ _ h => h) (by rfl) ?_ (by assumption) ?_
  rotate_left
  · intro w hSw; (try dsimp only at hSw); go_simp; (try with_reducible rfl)
  (try simp only [Act.put, ppS2, List.setIfInBounds_toArray, List.set_cons_zero, List.set_cons_succ])
  refine tkW (v := ?_) 3 ppS3 rfl (by kernel_rfl) (by kernel_rfl) (by kernel_rfl) (fun _ _ _ h => h) (by rfl) ?_ (by assumption) ?_
  rotate_left
  · intro w hSw; (try dsimp only at hSw); go_simp; (try with_reducible rfl)
  (try simp only [Act.put, ppS3, List.setIfInBounds_toArray, List.set_cons_zero, List.set_cons_succ])
  refine tkW (v := ?_) 6 ppS6 rfl (by kernel_rfl) (by kernel_rfl) (by kernel_rfl) (fun _ _ _ h => h) (by rfl) ?_ (by assumption) ?_
  rotate_left
  · intro w hSw; (try dsimp only at hSw); go_simp; (try with_reducible rfl)
  (try simp only [Act.put, ppS6, List.setIfInBounds_toArray, List.set_cons_zero, List.set_cons_succ])
  refine tkW (v := ?_) 7 ppS7 rfl (by kernel_rfl) (by kernel_rfl) (by kernel_rfl) (fun _ _ _ h => h) (by rfl) ?_ (by assumption) ?_
  rotate_left
  · intro w hSw; (try dsimp only at hSw); go_simp; (try with_reducible rfl)
  (try simp only [Act.put, ppS7, List.setIfInBounds_toArray, List.set_cons_zero, List.set_cons_succ])
  refine tkW (v := ?_) 8 ppS8 rfl (by kernel_rfl) (by kernel_rfl) (by kernel_rfl) (fun _ _ _ h => h) (by rfl) ?_ (by assumption) ?_
  rotate_left
  · intro w hSw; (try dsimp only at hSw); go_simp; (try with_reducible rfl)
  (try simp only [Act.put, ppS8, List.setIfInBounds_toArray, List.set_cons_zero, List.set_cons_succ])
  refine tkW (v := ?_) 9 ppS9 rfl (by kernel_rfl) (by kernel_rfl) (by kernel_rfl) (fun _ _ _ h => h) (by rfl) ?_ (by assumption) ?_
  rotate_left
  · intro w hSw; (try dsimp only at hSw); go_simp; (try with_reducible rfl)
  (try simp only [Act.put, ppS9, List.setIfInBounds_toArray, List.set_cons_zero, List.set_cons_succ])
  refine tkE 4 ppS4 rfl (by kernel_rfl) (fun K hK => ?_)
  go_simp
  (refine (CX.out _ (K4.out.trans (by first | assumption | exact Kp.drew _ | exact Kp.refl _))).mono ?_; rintro e w' ⟨rfl, kq⟩; have k2 := Kp.trans (show Kp w4 _ from (by first | assumption | exact Kp.drew _ | exact Kp.refl _)) kq; clear kq)
  (try go_wp2_with fail)
  refine hK.out _ _ ?_ (fun hHeld1 => ?_)
  · (try dsimp only); exact KS.out _ (by first | assumption | exact Kp.drew _ | exact Kp.refl _)
  clear hK K hHeld0
  (try simp only [Act.put, ppS4, List.setIfInBounds_toArray, List.set_cons_zero, List.set_cons_succ])
  refine tkW (v := ?_) 5 ppS5 rfl (by kernel_rfl) (by kernel_rfl) (by kernel_rfl) (fun _ _ _ h => h) (by rfl) ?_ (by assumption) ?_
  rotate_left
  · intro w hSw; (try dsimp only at hSw); go_simp; (try with_reducible rfl)
  (try simp only [Act.put, ppS5, List.setIfInBounds_toArray, List.set_cons_zero, List.set_cons_succ])
  refine tkE 10 ppS10 rfl (by kernel_rfl) (fun K hK => ?_)
  go_simp
  (refine (CZ.out _ (K4.out.trans (by first | assumption | exact Kp.drew _ | exact Kp.refl _))).mono ?_; rintro e w' ⟨rfl, kq⟩; have k2 := Kp.trans (show Kp w4 _ from (by first | assumption | exact Kp.drew _ | exact Kp.refl _)) kq; clear kq)
  (try go_wp2_with fail)
  refine hK.out _ _ ?_ (fun hHeld2 => ?_)
  · (try dsimp only); exact KS.out _ (by first | assumption | exact Kp.drew _ | exact Kp.refl _)
  clear hK K hHeld1
  (try simp only [Act.put, ppS10, List.setIfInBounds_toArray, List.set_cons_zero, List.set_cons_succ])
  refine tkW (v := ?_) 11 ppS11 rfl (by kernel_rfl) (by kernel_rfl) (by kernel_rfl) (fun _ _ _ h => h) (by rfl) ?_ (by assumption) ?_
  rotate_left
  · intro w hSw; (try dsimp only at hSw); go_simp; (try with_reducible rfl)
  (try simp only [Act.put, ppS11, List.setIfInBounds_toArray, List.set_cons_zero, List.set_cons_succ])
  refine tkW (v := ?_) 12 ppS12 rfl (by kernel_rfl) (by kernel_rfl) (by kernel_rfl) (fun _ _ _ h => h) (by rfl) ?_ (by assumption) ?_
  rotate_left
  · intro w hSw; (try dsimp only at hSw); go_simp; (try with_reducible rfl)
  (try simp only [Act.put, ppS12, List.setIfInBounds_toArray, List.set_cons_zero, List.set_cons_succ])
  refine wpAnyH_done (by kernel_rfl) ?_ _
  have heq := HEQ.out
  have KE := K4.out.trans k2
  clear KS k2 x0 x1 x2 x3 x4 x5 x6 x7
  (try rw [heq])
  go_wp2
  go_ret
  exact ⟨by first | rfl | simp, KE⟩
set_option maxHeartbeats 16000000 in
set_option maxRecDepth 100000 in
theorem printParts_2 (pk : Int) (y m q : ByteArray) (a t : Bool) (l : List ND) (ad : Option Addr) (cp : Nat) (w : World) (hu : NodesAt w (.slice ad l.length cp) l) (bn : cntL l ≤ 2000000) (T : TabSH w) (hf : fewN (.mk 2 ⟨pk, y, m, q⟩ a t l : ND) = true) (hs : saneN saneP (.mk 2 ⟨pk, y, m, q⟩ a t l : ND) = true) : Calls Tryd.prog 9 #[.agg #[.int .i64 2, .int .i64 pk, .string y, .string m, .string q, .bool a, .bool t, .slice ad l.length cp]] w fun e w' => e = .returned (.bool true) ∧ Kp w w' := by
  have AW := Lib.hid (fun w1 (qq : Kp w w1) => awake11 w1 (T.kp qq))
  have F1 : ∀ w1, Kp w w1 → Calls Tryd.prog 24 #[.agg #[.int .i64 2, .int .i64 pk, .string y, .string m, .string q, .bool a, .bool t, .slice ad l.length cp]] w1 fun e w' => e = .returned (.bool (fewN (.mk 2 ⟨pk, y, m, q⟩ a t l : ND))) ∧ Kp w1 w' := fun w1 qq => rfewN_any (.mk 2 ⟨pk, y, m, q⟩ a t l : ND) (.slice ad l.length cp) w1 (hu.kp qq) bn
  rw [hf] at F1
  have F1H := Lib.hid F1
  have cn := few_cnt hf
  have PT : ∀ w1, Kp w w1 → Calls Tryd.prog 39 #[.agg #[.int .i64 2, .int .i64 pk, .string y, .string m, .string q, .bool a, .bool t, .slice ad l.length cp]] w1 fun e w' => e = .returned (.string (bs (textN (.mk 2 ⟨pk, y, m, q⟩ a t l : ND)))) ∧ Kp w1 w' := fun w1 qq => ptext_any (.mk 2 ⟨pk, y, m, q⟩ a t l : ND) (.slice ad l.length cp) w1 (hu.kp qq) cn (T.kp qq)
  have PTH := Lib.hid PT
  clear PT
  have PS : ∀ w1, Kp w w1 → Calls Tryd.prog 25 #[.agg #[.int .i64 2, .int .i64 pk, .string y, .string m, .string q, .bool a, .bool t, .slice ad l.length cp]] w1 fun e w' => e = .returned (.bool (saneN saneP (.mk 2 ⟨pk, y, m, q⟩ a t l : ND))) ∧ Kp w1 w' := fun w1 qq => tSane_any (.mk 2 ⟨pk, y, m, q⟩ a t l : ND) (.slice ad l.length cp) w1 (hu.kp qq) cn (T.kp qq)
  have PSH := Lib.hid PS
  clear PS
  rw [show bs (textN (.mk 2 ⟨pk, y, m, q⟩ a t l : ND)) = bs (txN (.mk 2 ⟨pk, y, m, q⟩ a t l : ND)) by unfold textN; rw [if_pos hs]] at PTH
  rw [hs] at PSH
  have tl := txN_len900 hs
  have tz : (bs (txN (.mk 2 ⟨pk, y, m, q⟩ a t l : ND))).size ≤ 894 ∧ 1 ≤ (bs (txN (.mk 2 ⟨pk, y, m, q⟩ a t l : ND))).size := by rw [bs_size]; exact tl
  obtain ⟨tx, htx⟩ : ∃ u, bs (txN (.mk 2 ⟨pk, y, m, q⟩ a t l : ND)) = u := ⟨_, rfl⟩
  rw [htx] at PTH tz
  have tz1 : (tx.size : Int) ≤ 894 := by omega
  have tz2 : (1 : Int) ≤ (tx.size : Int) := by omega
  have tz3 : decide ((tx.size : Int) ≤ 2000) = true := decide_eq_true (by omega)
  have tz4 : decide ((0 : Int) < (tx.size : Int)) = true := decide_eq_true (by omega)
  have tz5 : decide (tx.size ≤ 2000) = true := decide_eq_true (by omega)
  have tz6 : decide (0 < tx.size) = true := decide_eq_true (by omega)
  have HTX := Lib.hid htx
  clear htx tl
  have SEL := Lib.hid (fun i (hi : i < l.length) => sane_elem hs rfl (i := i) hi)
  have hpos : 0 < l.length := by
    rcases rightN_kind (sane_right hs) with ⟨p', a', t', e, hp⟩ | ⟨x, z, e, h1, h2⟩ | ⟨x, l', e, _⟩
    · simp at e
    · simp at e
    · simp only [ND.mk.injEq] at e; rw [e.2.2.2.2]; simp
  have tl9 : (txJ l [] [44, 32]).length + 2 ≤ 1000 := by
    have h1 := (txN_len900 hs).1
    rw [show txN (.mk 2 ⟨pk, y, m, q⟩ a t l : ND) = txJ l [91] [44, 32] ++ [93] by simp [txN], txJ_head hpos [91] [44, 32], List.length_append, List.length_append] at h1
    simp only [List.length_cons, List.length_nil] at h1
    omega
  have HL9 := Lib.hid tl9
  have HEQ := Lib.hid (show ((⟨#[91]⟩ : ByteArray) ++ bs (txJ l [] [44, 32])) ++ (⟨#[93]⟩ : ByteArray) = tx by
    rw [← HTX.out, show txN (.mk 2 ⟨pk, y, m, q⟩ a t l : ND) = txJ l [91] [44, 32] ++ [93] by simp [txN], txJ_head hpos [91] [44, 32], bs_append, bs_append]
    rfl)
  have HU := Lib.hid hu
  have TH := Lib.hid (fun w1 (qq : Kp w w1) => T.kp qq)
  have TK := Lib.hid (fun i (hi : i < l.length) => txJ_take hi [] [44, 32])
  have TL := Lib.hid (fun i => txJ_le l i [] [44, 32])
  have ll : l.length ≤ 1000 := by have := len_cntL l; have e : cntN (.mk 2 ⟨pk, y, m, q⟩ a t l : ND) = cntL l + 1 := rfl; omega
  have CL := Lib.hid (fun i (hi : i < l.length) => show cntN (nth l i) ≤ 1000 from by have := cnt_mem (nth_mem hi); have e : cntN (.mk 2 ⟨pk, y, m, q⟩ a t l : ND) = cntL l + 1 := rfl; omega)
  clear F1 hu T hf bn cn hs hpos tl9 HTX
  go_enter Tryd.func9, Tryd.ntmps9
  go_wp2_with fail
  refine (AW.out _ (Kp.alloc _ _)).mono ?_
  rintro e w1 ⟨rfl, kk⟩
  have K1 := Lib.hid ((Kp.alloc _ _).trans kk)
  have GA1 := Lib.hid (heap_block kk (heap_at w (.cells #[.int .i64 2, .int .i64 pk, .string y, .string m, .string q, .bool a, .bool t, .slice ad l.length cp] 46) w.heap.size rfl))
  clear kk
  obtain ⟨x0, x1, x2, x3, x4, x5, x6, x7⟩ := row8 GA1.out
  go_wp2_with fail
  refine (F1H.out _ K1.out).mono ?_
  rintro e w2 ⟨rfl, kk⟩
  have K2 := Lib.hid (K1.out.trans kk)
  have GA := Lib.hid (heap_block kk GA1.out)
  clear kk x0 x1 x2 x3 x4 x5 x6 x7 GA1
  obtain ⟨x0, x1, x2, x3, x4, x5, x6, x7⟩ := row8 GA.out
  go_wp2_with fail
  refine (PTH.out _ K2.out).mono ?_
  rintro e w3 ⟨rfl, kk⟩
  have K3 := Lib.hid (K2.out.trans kk)
  have GA3 := Lib.hid (heap_block kk GA.out)
  clear kk x0 x1 x2 x3 x4 x5 x6 x7 GA
  obtain ⟨x0, x1, x2, x3, x4, x5, x6, x7⟩ := row8 GA3.out
  go_wp2_with fail
  refine (PSH.out _ K3.out).mono ?_
  rintro e w4 ⟨rfl, kk⟩
  have K4 := Lib.hid (K3.out.trans kk)
  have GB := Lib.hid (fun w1 (qq : Kp w4 w1) => heap_block (kk.trans qq) GA3.out)
  clear kk x0 x1 x2 x3 x4 x5 x6 x7 GA3
  obtain ⟨x0, x1, x2, x3, x4, x5, x6, x7⟩ := row8 (GB.out _ (Kp.refl _))
  go_wp2
  go_loopw [5, 6] (fun s i ws => ∃ j : Nat, j ≤ l.length ∧ i = .int .i64 j ∧ s = .string (bs (txJ (l.take j) [] [44, 32])) ∧ Hid (Kp w4 ws)) (fun _ i _ => l.length - (intOf i).toNat)
  case atStart => exact ⟨0, Nat.zero_le _, rfl, rfl, Lib.hid (Kp.refl _)⟩
  case round =>
    clear x0 x1 x2 x3 x4 x5 x6 x7
    obtain ⟨j, hj, rfl, rfl, KJ⟩ := hrel
    obtain ⟨x0, x1, x2, x3, x4, x5, x6, x7⟩ := row8 (GB.out _ KJ.out)
    by_cases hlt : j < l.length
    · obtain ⟨bk, off, vi, rfl, hrow, hsub⟩ := HU.out.get hlt
      have kw0 : Kp w wr := K4.out.trans KJ.out
      obtain ⟨e0, e1, e2, e3, e4, e5, e6, e7⟩ := hrow.kp kw0
      have sj := SEL.out j hlt
      have cj := CL.out j hlt
      have tk := TK.out j hlt
      have tl := TL.out (j + 1)
      have hl9 := HL9.out
      rw [tk, List.length_append, List.length_append] at tl
      obtain ⟨x, hx⟩ : ∃ x, nth l j = x := ⟨_, rfl⟩
      rw [hx] at e0 e1 e2 e3 e4 e5 e6 sj cj tk tl hsub
      have IX : ∀ w1, Kp wr w1 → Calls Tryd.prog 39 #[ndV x vi] w1 fun e w' => e = .returned (.string (bs (txN x))) ∧ Kp w1 w' := fun w1 k1 => by
        have this := ptext_any x vi w1 (hsub.kp (kw0.trans k1)) cj (TH.out _ (kw0.trans k1))
        rwa [show textN x = txN x by unfold textN; rw [if_pos sj]] at this
      have l1 : (bs (txN x)).size ≤ 1000 := by rw [bs_size]; omega
      have l2 : (bs (txJ (l.take j) [] [44, 32])).size ≤ 1000 := by rw [bs_size]; omega
      have TKH := Lib.hid (show bs (txJ (l.take (j + 1)) [] [44, 32]) = (if j = 0 then bs (txJ (l.take j) [] [44, 32]) else bs (txJ (l.take j) [] [44, 32]) ++ (⟨#[44, 32]⟩ : ByteArray)) ++ bs (txN x) by
        rw [tk, bs_append, bs_append]
        by_cases e : j = 0
        · rw [if_pos e, if_pos e]; show bs _ ++ ((⟨#[]⟩ : ByteArray) ++ bs (txN x)) = _; rw [bempty0]
        · rw [if_neg e, if_neg e, ← ByteArray.append_assoc]; rfl)
      obtain ⟨tx', htx⟩ : ∃ u, bs (txN x) = u := ⟨_, rfl⟩
      rw [htx] at IX l1 TKH
      obtain ⟨tj, htj⟩ : ∃ u, bs (txJ (l.take j) [] [44, 32]) = u := ⟨_, rfl⟩
      rw [htj] at l2 TKH ⊢
      clear hx hrow sj cj tk tl hl9 htx htj kw0
      obtain ⟨k1, ⟨pk1, y1, m1, q1⟩, a1, t1, l1'⟩ := x
      simp only [ND.k, ND.p, ND.a, ND.t, ND.l] at e0 e1 e2 e3 e4 e5 e6 hsub
      obtain ⟨ad1, cp1, rfl⟩ := hsub.slice
      (try unfold ndV at IX)
      simp only [ND.k, ND.p, ND.a, ND.t, ND.l] at IX
      have IXH := Lib.hid IX
      have z1 : (j : Int) < (l.length : Int) := by omega
      have z3 : (0 : Int) ≤ (j : Int) := by omega
      have HLT := Lib.hid hlt
      clear hsub IX
      by_cases hj0 : j = 0
      · have g1 : decide ((0 : Int) < (j : Int)) = false := decide_eq_false (by omega)
        have g2 : decide (0 < j) = false := decide_eq_false (by omega)
        rw [if_pos hj0] at TKH
        clear hj0
        go_wp2_with fail
        refine (IXH.out _ (Kp.refl _)).mono ?_
        rintro e w7 ⟨rfl, kk⟩
        have K7 := Lib.hid (KJ.out.trans kk)
        clear kk e0 e1 e2 e3 e4 e5 e6 e7 x0 x1 x2 x3 x4 x5 x6 x7
        go_wp2
        go_roundw
        case rel => exact ⟨j + 1, HLT.out, by go_num, by rw [TKH.out], K7⟩
        case measure => have := HLT.out; simp [intOf]; omega
      · have g1 : decide ((0 : Int) < (j : Int)) = true := decide_eq_true (by omega)
        have g2 : decide (0 < j) = true := decide_eq_true (by omega)
        rw [if_neg hj0] at TKH
        have q1 : ¬ 9223372036854775807 < tj.size + 2 := by omega
        have q2 : ¬ 9223372036854775807 < tj.size + 2 + tx'.size := by omega
        clear hj0
        go_wp2_with fail
        refine (IXH.out _ (Kp.refl _)).mono ?_
        rintro e w7 ⟨rfl, kk⟩
        have K7 := Lib.hid (KJ.out.trans kk)
        clear kk e0 e1 e2 e3 e4 e5 e6 e7 x0 x1 x2 x3 x4 x5 x6 x7
        go_wp2
        go_roundw
        case rel => exact ⟨j + 1, HLT.out, by go_num, by rw [TKH.out], K7⟩
        case measure => have := HLT.out; simp [intOf]; omega
    · obtain rfl : j = l.length := by omega
      rw [List.take_length]
      have hl9 := HL9.out
      have lz : (bs (txJ l [] [44, 32])).size ≤ 1000 := by rw [bs_size]; omega
      have heq := HEQ.out
      obtain ⟨tj, htj⟩ : ∃ u, bs (txJ l [] [44, 32]) = u := ⟨_, rfl⟩
      rw [htj] at lz heq ⊢
      have KE := K4.out.trans KJ.out
      have e9 : (tx.toList == ((⟨#[91]⟩ : ByteArray) ++ tj ++ (⟨#[93]⟩ : ByteArray)).toList) = true := by rw [heq]; simp
      have q1 : ¬ 9223372036854775807 < 1 + tj.size := by omega
      have q2 : ¬ 9223372036854775807 < 1 + tj.size + 1 := by omega
      clear htj hl9 HEQ heq
      go_wp2
      go_ret
      exact ⟨by first | rfl | simp, KE⟩
theorem printParts_yes (k pk : Int) (y m q : ByteArray) (a t : Bool) (l : List ND) (ad : Option Addr) (cp : Nat) (w : World) (hu : NodesAt w (.slice ad l.length cp) l) (bn : cntL l ≤ 2000000) (T : TabSH w) (hf : fewN (.mk k ⟨pk, y, m, q⟩ a t l : ND) = true) : Calls Tryd.prog 9 #[.agg #[.int .i64 k, .int .i64 pk, .string y, .string m, .string q, .bool a, .bool t, .slice ad l.length cp]] w fun e w' => e = .returned (.bool true) ∧ Kp w w' := by
  rcases Bool.eq_false_or_eq_true (saneN saneP (.mk k ⟨pk, y, m, q⟩ a t l : ND)) with hs | hs
  rotate_left
  · exact printParts_none k pk y m q a t l ad cp w hu bn T hf hs
  have hk : k = 0 ∨ k = 1 ∨ k = 2 := by
    rcases rightN_kind (sane_right hs) with ⟨p', a', t', e, hp⟩ | ⟨x, z, e, h1, h2⟩ | ⟨x, l', e, _⟩
    · simp only [ND.mk.injEq] at e; exact .inl e.1
    · simp only [ND.mk.injEq] at e; exact .inr (.inl e.1)
    · simp only [ND.mk.injEq] at e; exact .inr (.inr e.1)
  rcases hk with rfl | rfl | rfl
  · exact printParts_0 pk y m q a t l ad cp w hu bn T hf hs
  · exact printParts_1 pk y m q a t l ad cp w hu bn T hf hs
  · exact printParts_2 pk y m q a t l ad cp w hu bn T hf hs
theorem printParts_walk (n : ND) (u : Value) (w : World) (hu : NodesAt w u n.l) (bn : wgtN n ≤ 1048576) (T : TabSH w) :
    Calls Tryd.prog 9 #[ndV n u] w fun e w' => e = .returned (.bool true) ∧ Kp w w' := by
  have cn := cntL_of_wgt bn
  obtain ⟨ad, cp, rfl⟩ := hu.slice
  obtain ⟨k, pk, y, q, d, a, t, l, rfl⟩ := nd_dest n
  rcases Bool.eq_false_or_eq_true (fewN (.mk k ⟨pk, y, q, d⟩ a t l)) with f1 | f1
  rotate_left
  · exact printParts_no k pk y q d a t l ad cp w hu cn T f1
  exact printParts_yes k pk y q d a t l ad cp w hu cn T f1
end Go.Proofs.YtjiikianmjmgcaaDoor

namespace Go.Proofs.YtjiikianmjmgcaaDoor
open Go.RowKit
set_option linter.unusedVariables false
set_option linter.unusedSimpArgs false
set_option maxHeartbeats 16000000 in
set_option maxRecDepth 100000 in
theorem printParts_noG (k pk : Int) (y m q : ByteArray) (a t : Bool) (l : List ND) (ad : Option Addr) (cp : Nat) (w : World) (hu : NodesAt w (.slice ad l.length cp) l) (T : TabSH w) (hf : fewG (.mk k ⟨pk, y, m, q⟩ a t l : ND) = false) : Calls Tryd.prog 9 #[.agg #[.int .i64 k, .int .i64 pk, .string y, .string m, .string q, .bool a, .bool t, .slice ad l.length cp]] w fun e w' => e = .returned (.bool true) ∧ Kp w w' := by
  have AW := Lib.hid (fun w1 (qq : Kp w w1) => awake11 w1 (T.kp qq))
  have F1 : ∀ w1, Kp w w1 → Calls Tryd.prog 24 #[.agg #[.int .i64 k, .int .i64 pk, .string y, .string m, .string q, .bool a, .bool t, .slice ad l.length cp]] w1 fun e w' => e = .returned (.bool (fewG (.mk k ⟨pk, y, m, q⟩ a t l : ND))) ∧ Kp w1 w' := fun w1 qq => rfewG_any (.mk k ⟨pk, y, m, q⟩ a t l : ND) (.slice ad l.length cp) w1 (hu.kp qq)
  rw [hf] at F1
  have F1H := Lib.hid F1
  clear F1 hu T hf
  go_enter Tryd.func9, Tryd.ntmps9
  go_wp2_with fail
  refine (AW.out _ (Kp.alloc _ _)).mono ?_
  rintro e w1 ⟨rfl, kk⟩
  have K1 := Lib.hid ((Kp.alloc _ _).trans kk)
  have GA1 := Lib.hid (heap_block kk (heap_at w (.cells #[.int .i64 k, .int .i64 pk, .string y, .string m, .string q, .bool a, .bool t, .slice ad l.length cp] 46) w.heap.size rfl))
  clear kk
  obtain ⟨x0, x1, x2, x3, x4, x5, x6, x7⟩ := row8 GA1.out
  go_wp2_with fail
  refine (F1H.out _ K1.out).mono ?_
  rintro e w2 ⟨rfl, kk⟩
  have K2 := Lib.hid (K1.out.trans kk)
  have GA := Lib.hid (heap_block kk GA1.out)
  clear kk x0 x1 x2 x3 x4 x5 x6 x7 GA1
  go_wp2
  go_ret
  exact ⟨rfl, K2.out⟩
set_option maxHeartbeats 16000000 in
set_option maxRecDepth 100000 in
theorem printParts_noneG (k pk : Int) (y m q : ByteArray) (a t : Bool) (l : List ND) (ad : Option Addr) (cp : Nat) (w : World) (hu : NodesAt w (.slice ad l.length cp) l) (T : TabSH w) (hf : fewG (.mk k ⟨pk, y, m, q⟩ a t l : ND) = true) (hs : saneN saneP (.mk k ⟨pk, y, m, q⟩ a t l : ND) = false) : Calls Tryd.prog 9 #[.agg #[.int .i64 k, .int .i64 pk, .string y, .string m, .string q, .bool a, .bool t, .slice ad l.length cp]] w fun e w' => e = .returned (.bool true) ∧ Kp w w' := by
  have AW := Lib.hid (fun w1 (qq : Kp w w1) => awake11 w1 (T.kp qq))
  have F1 : ∀ w1, Kp w w1 → Calls Tryd.prog 24 #[.agg #[.int .i64 k, .int .i64 pk, .string y, .string m, .string q, .bool a, .bool t, .slice ad l.length cp]] w1 fun e w' => e = .returned (.bool (fewG (.mk k ⟨pk, y, m, q⟩ a t l : ND))) ∧ Kp w1 w' := fun w1 qq => rfewG_any (.mk k ⟨pk, y, m, q⟩ a t l : ND) (.slice ad l.length cp) w1 (hu.kp qq)
  rw [hf] at F1
  have F1H := Lib.hid F1
  have PT : ∀ w1, Kp w w1 → Calls Tryd.prog 39 #[.agg #[.int .i64 k, .int .i64 pk, .string y, .string m, .string q, .bool a, .bool t, .slice ad l.length cp]] w1 fun e w' => e = .returned (.string ⟨#[]⟩) ∧ Kp w1 w' := fun w1 qq => ptextG_no (.mk k ⟨pk, y, m, q⟩ a t l : ND) (.slice ad l.length cp) w1 (hu.kp qq) hs (T.kp qq)
  have PTH := Lib.hid PT
  clear PT
  have PS : ∀ w1, Kp w w1 → Calls Tryd.prog 25 #[.agg #[.int .i64 k, .int .i64 pk, .string y, .string m, .string q, .bool a, .bool t, .slice ad l.length cp]] w1 fun e w' => e = .returned (.bool (saneN saneP (.mk k ⟨pk, y, m, q⟩ a t l : ND))) ∧ Kp w1 w' := fun w1 qq => tSaneG_any (.mk k ⟨pk, y, m, q⟩ a t l : ND) (.slice ad l.length cp) w1 (hu.kp qq) (T.kp qq)
  have PSH := Lib.hid PS
  clear PS
  rw [hs] at PSH
  clear F1 hu T hf hs
  go_enter Tryd.func9, Tryd.ntmps9
  go_wp2_with fail
  refine (AW.out _ (Kp.alloc _ _)).mono ?_
  rintro e w1 ⟨rfl, kk⟩
  have K1 := Lib.hid ((Kp.alloc _ _).trans kk)
  have GA1 := Lib.hid (heap_block kk (heap_at w (.cells #[.int .i64 k, .int .i64 pk, .string y, .string m, .string q, .bool a, .bool t, .slice ad l.length cp] 46) w.heap.size rfl))
  clear kk
  obtain ⟨x0, x1, x2, x3, x4, x5, x6, x7⟩ := row8 GA1.out
  go_wp2_with fail
  refine (F1H.out _ K1.out).mono ?_
  rintro e w2 ⟨rfl, kk⟩
  have K2 := Lib.hid (K1.out.trans kk)
  have GA := Lib.hid (heap_block kk GA1.out)
  clear kk x0 x1 x2 x3 x4 x5 x6 x7 GA1
  obtain ⟨x0, x1, x2, x3, x4, x5, x6, x7⟩ := row8 GA.out
  go_wp2_with fail
  refine (PTH.out _ K2.out).mono ?_
  rintro e w3 ⟨rfl, kk⟩
  have K3 := Lib.hid (K2.out.trans kk)
  have GA3 := Lib.hid (heap_block kk GA.out)
  clear kk x0 x1 x2 x3 x4 x5 x6 x7 GA
  obtain ⟨x0, x1, x2, x3, x4, x5, x6, x7⟩ := row8 GA3.out
  go_wp2_with fail
  refine (PSH.out _ K3.out).mono ?_
  rintro e w4 ⟨rfl, kk⟩
  have K4 := Lib.hid (K3.out.trans kk)
  clear kk x0 x1 x2 x3 x4 x5 x6 x7 GA3
  go_wp2
  go_ret
  exact ⟨rfl, K4.out⟩
theorem printParts_walkG (n : ND) (u : Value) (w : World) (hu : NodesAt w u n.l) (T : TabSH w) :
    Calls Tryd.prog 9 #[ndV n u] w fun e w' => e = .returned (.bool true) ∧ Kp w w' := by
  obtain ⟨ad, cp, rfl⟩ := hu.slice
  obtain ⟨k, pk, y, q, d, a, t, l, rfl⟩ := nd_dest n
  rcases Bool.eq_false_or_eq_true (fewG (.mk k ⟨pk, y, q, d⟩ a t l)) with f1 | f1
  · rcases Bool.eq_false_or_eq_true (saneN saneP (.mk k ⟨pk, y, q, d⟩ a t l)) with s1 | s1
    rotate_left
    · exact printParts_noneG k pk y q d a t l ad cp w hu T f1 s1
    have c1 : cntN (.mk k ⟨pk, y, q, d⟩ a t l) ≤ 64 := by
      have h := s1
      unfold saneN at h
      simp only [Bool.and_eq_true, decide_eq_true_eq] at h
      exact h.1
    have e1 : cntN (.mk k ⟨pk, y, q, d⟩ a t l) = cntL l + 1 := rfl
    exact printParts_yes k pk y q d a t l ad cp w hu (by omega) T (fewG_N f1 c1)
  · exact printParts_noG k pk y q d a t l ad cp w hu T f1
end Go.Proofs.YtjiikianmjmgcaaDoor

namespace Go.Proofs.YtjiikianmjmgcaaDoor.lawPrintParts
open Go.ChangeShapes Go.WideShapes Go.ChangeAt Go.RowKit
open Go.ChangeMaps (open_string shut_string)
set_option linter.unusedVariables false

theorem own : ownKnob Tryd.prog.godebug = none := by kernel_rfl
theorem laidOut : laidOutB Tryd.prog = true := by kernel_rfl

/-- A world for the witness: the settled one, each table holding what its initialiser lays. -/
noncomputable def laidWorld (os : Os) : World :=
  { World.holding Tryd.prog os ⟨#[], #[], []⟩ with heap := ((World.holding Tryd.prog os ⟨#[], #[], []⟩).heap.modify 0 fun
      | .cells _ t frozen => .cells #[.int .i64 4, .int .i64 2, .int .i64 2, .int .i64 12, .string ⟨#[]⟩, .int .i64 4, .int .i64 2, .int .i64 0, .int .i64 12, .string ⟨#[]⟩, .int .i64 4, .int .i64 1, .int .i64 0, .int .i64 4, .string ⟨#[]⟩, .int .i64 4, .int .i64 0, .int .i64 0, .int .i64 0, .string ⟨#[]⟩, .int .i64 3, .int .i64 0, .int .i64 0, .int .i64 0, .string ⟨#[100]⟩, .int .i64 2, .int .i64 0, .int .i64 0, .int .i64 0, .string ⟨#[99]⟩] t frozen
      | o => o) }
theorem laid_met (os : Os) : laidMet Tryd.prog Rows.printPartsRow.laid ((laidWorld os).forCall (fun _ _ => 0) ⟨#[], #[.agg #[.int .i64 0, .int .i64 0, .string ByteArray.empty, .string ByteArray.empty, .string ByteArray.empty, .bool false, .bool false, .slice none 0 0]], []⟩).memory :=
  laidMet_of_run' 8 (by kernel_rfl) (by kernel_rfl)
theorem reads (os : Os) {H : Type} (enc : TypeId × Value → H) : ∃ places, DataW.whole enc Tryd.prog ((laidWorld os).forCall (fun _ _ => 0) ⟨#[], #[.agg #[.int .i64 0, .int .i64 0, .string ByteArray.empty, .string ByteArray.empty, .string ByteArray.empty, .bool false, .bool false, .slice none 0 0]], []⟩).memory Tryd.f9.params.toList Rows.printPartsSpec.vars false (#[.agg #[.int .i64 0, .int .i64 0, .string ByteArray.empty, .string ByteArray.empty, .string ByteArray.empty, .bool false, .bool false, .slice none 0 0]] : Array Value).toList 8 = some ([.agg [.lit (.int .i64 0), .agg [.lit (.int .i64 0), .lit (.string []), .lit (.string []), .lit (.string [])], .lit (.bool false), .lit (.bool false), .nil]], [], places) :=
  ⟨[], by kernel_rfl⟩

set_option maxRecDepth 100000 in
theorem contract (H : Type) (enc : TypeId × Value → H) (W : World) (base : Nat) (args : Array Value) (ds gs : List (DataW H)) (before : List MemPlace)
    (hval : ∀ (j : Nat) t v, Tryd.f9.params[j]? = some t → args[j]? = some v → Value.okWide Tryd.prog W .any base t v)
    (hW : DataW.Whole enc Tryd.prog Tryd.f9.params.toList Rows.printPartsSpec.vars false W args.toList ds gs before) (hL : laidMetH Tryd.prog Rows.printPartsRow.laid W) :
    Calls Tryd.prog 9 args W fun e W' => ∃ v, e = .returned v ∧ Rows.printPartsSpec.post enc Tryd.prog Tryd.f9 false true false false W args v W' := by
  have hW' := hW
  have hltA : ∀ x ∈ before, x.block < W.heap.size := fun x hx => by simpa using hW'.lt x hx
  obtain ⟨p, q, hA0, hV, rfl, hfz, hnd⟩ := hW
  have hA : DataW.TrodAll enc Tryd.prog W 0 (fun _ => true) true Tryd.f9.params.toList args.toList ds p := hA0
  rw [Tryd.params9] at hA hval
  obtain ⟨v0, vs0, d0, ds0, p0, q0, hargs, rfl, rfl, h0, r0⟩ := trodAll_cons hA
  obtain ⟨rfl, rfl, rfl⟩ := trodAll_nil r0
  obtain rfl : args = #[v0] := by cases args; simp_all
  obtain ⟨rfl, rfl⟩ := trodVars_none hV
  have hk0 := h0
  obtain ⟨n0, u0, rfl, hn0, gn0, wg0⟩ := open_node (hval 0 46 v0 rfl rfl) h0
  clear hA0
  simp only [List.append_nil] at hW'
  refine (printParts_walkG n0 u0 W hn0 (tabs_of1 hL)).mono fun e W' ⟨he, hg⟩ => ?_
  subst he
  have bel : Below W.heap.size W W' := hg
  exact ⟨_, rfl, _, _, _, [], _, [], hW', trodAll_mk1 (shut_bool Tryd.underlying4 _), (trodAll_cons_mk (Below.trod laidOut (by kernel_rfl) (of_decide_eq_true (by kernel_rfl)) hk0 bel (fun x hx => hltA x (by simp [hx]))) trodAll_mk0), rfl, bel.frame _, fun h => by cases h⟩

set_option maxRecDepth 100000 in
theorem lifted (os : Os) (started : os.Started) (H : Type) (enc : TypeId × Value → H) (F : Stop.Interp) :
    ReturnsInHanded {} Tryd.checked os 9 .any ((OpenSpec.ofChange Rows.printPartsSpec).preRow enc Tryd.prog Tryd.f9 Rows.printPartsRow.domain false Rows.printPartsRow.laid) (((OpenSpec.ofChange Rows.printPartsSpec).at F).post enc Tryd.prog Tryd.f9 false true false false) := by
  obtain ⟨places, hx⟩ := reads os enc
  refine returnsInHanded_of_row (C := Tryd.checked) (s := OpenSpec.ofChange Rows.printPartsSpec) own started (by kernel_rfl) Tryd.func9
    (witness_row_at (enc := enc) (C := Tryd.checked) false (laidWorld os) #[.agg #[.int .i64 0, .int .i64 0, .string ByteArray.empty, .string ByteArray.empty, .string ByteArray.empty, .bool false, .bool false, .slice none 0 0]] rfl (by kernel_rfl) (by kernel_rfl) (by kernel_rfl)
      (OpenSpec.preRow_of_cond 8 hx (by kernel_rfl) (fun k hk => by cases hk) (by kernel_rfl) (laid_met os))) ?_
  intro W base args ds gs before hval hW _ hcond _ hL _ _
  exact contract H enc W base args ds gs before hval hW hL

theorem said : Rows.PrintPartsSaid :=
  OpenClaim.holds_of_cond 9 Tryd.f9 rfl rfl rfl rfl rfl rfl rfl ⟨rfl, rfl, rfl, rfl, rfl⟩ rfl rfl rfl rfl rfl (by kernel_rfl) Tryd.func9 (by kernel_rfl)
    (of_decide_eq_true (by kernel_rfl)) (by unfold Func.isWrapper; first | (rw [if_pos (by decide +kernel)]; kernel_rfl) | (rw [if_neg (by decide +kernel)]; exact ⟨rfl, rfl⟩))
    (fun os started H enc _ F => by rw [OpenClaim.pre_eq_preRow]; exact lifted os started H enc F)

theorem plain (f : FuncId) (fn : Func) (hf : Tryd.pinned.checked.prog.funcNamed "lustrum/lustrumlaw11.PrintParts" = some f) (hfn : Tryd.pinned.checked.prog.funcs[f]? = some fn) :
    false = Tryd.pinned.checked.prog.looks [] ∧ ∀ (j : Nat) t, fn.params[j]? = some t → Tryd.pinned.checked.prog.wantsStandIn t = false := by
  obtain rfl : f = 9 := Option.some.inj ((show Tryd.prog.funcNamed "lustrum/lustrumlaw11.PrintParts" = some 9 by kernel_rfl).symm.trans hf) |>.symm
  obtain rfl : fn = Tryd.f9 := (Option.some.inj (Tryd.func9.symm.trans hfn)).symm
  refine ⟨by kernel_rfl, fun j t ht => ?_⟩
  rw [Tryd.params9] at ht
  have hm := Array.mem_of_getElem? ht
  have ho : t = 46 := by first | simpa using hm | (simp at hm; rcases hm with h <;> simp [h])
  subst ho
  exact (show Tryd.prog.wantsStandIn 46 = false by kernel_rfl)

/-- THE CARD. -/
theorem proved : Rows.PrintPartsCardSaid :=
  Claim7.holds_tied_plain_at .later [] _ _ _ _ said (fun _ h => by cases h) (by kernel_rfl) (fun _ h => by cases h) printParts_row_tie rfl ⟨rfl, rfl⟩ (by kernel_rfl) rfl plain (by kernel_rfl)
#print axioms proved
end Go.Proofs.YtjiikianmjmgcaaDoor.lawPrintParts
