/-
  Contracts of the document's answer for layer 9: All, Few, Same.
-/
import Derived.Test.YtgaadakhkjfbnaaLexE
namespace Go.Proofs.Ytgaadakhkjfbnaa
open Go.RowKit Go.Shelf
set_option linter.unusedVariables false
set_option linter.unusedSimpArgs false
theorem oneT_src2 (w : World) (o : Obj) (k a : Int) (s : ByteArray) (t : TypeId) : SrcAt ((w.alloc o).alloc (.cells #[.int .i64 k, .int .i64 a, .string s] t)) (.slice (some ⟨w.heap.size + 1, 0, none⟩) 1 1) 1 [.int .i64 k, .int .i64 a, .string s] := by
  have h := oneT_src (w.alloc o) k a s t
  simpa using h
/-- what the document's All tells -/
def RAllOut (s : ByteArray) (ts : List Tk) (e : Option Nat) (w : World) (en : Ending) (w' : World) : Prop :=
  Kp w w' ∧ ((2000 < s.size ∧ en = .returned (.tuple #[.slice none 0 0, .int .i64 2000, .int .i64 7])) ∨
    (s.size ≤ 2000 ∧ ∃ q, e = some q ∧ en = .returned (.tuple #[.slice none 0 0, .int .i64 (q : Nat), .int .i64 1])) ∨
    (s.size ≤ 2000 ∧ e = none ∧ ∃ v, en = .returned (.tuple #[v, .int .i64 (s.size : Nat), .int .i64 0]) ∧ ToksAt w' v (ts ++ [(9, (s.size : Int), [])])))
set_option maxHeartbeats 8000000 in
set_option maxRecDepth 100000 in
theorem rall_any (s : ByteArray) (ts : List Tk) (e : Option Nat) (w : World) (hs : s.size ≤ maxLen) (hx : Lx s.data.toList 0 ts e) :
    Calls Try.prog 55 #[.string s] w (RAllOut s ts e w) := by
  obtain ⟨i0, hi, hz0, hz1, hz2⟩ := info_parts infoT
  have HL : s.data.toList.length = s.size := by simp
  have hs' : s.size ≤ 9223372036854775807 := by unfold maxLen at hs; omega
  by_cases h2000 : 2000 < s.size
  · have q : decide ((2000 : Int) < s.size) = true := decide_eq_true (by omega)
    clear hx
    go_enter Try.func55, Try.ntmps55
    go_wp2
    go_ret3
    exact ⟨Kp.refl _, .inl ⟨h2000, rfl⟩⟩
  · have q : decide ((2000 : Int) < s.size) = false := decide_eq_false (by omega)
    have hs2 : s.size ≤ 2000 := by omega
    have HX := Lib.hid hx
    clear hx hs h2000
    go_enter Try.func55, Try.ntmps55
    go_wp2
    go_loopw [5, 6] (fun u5 u6 wr => ∃ (k : Nat) (acc rest : List Tk), k ≤ s.size ∧ u6 = .int .i64 k ∧ Hid (Lx (s.data.toList.drop k) k rest e) ∧ Hid (acc ++ rest = ts) ∧ acc.length ≤ k ∧
      Hid (wr.ownsRow w.heap.size 55 3 u5 acc.length (cellsT acc)) ∧ Hid (Kp w wr)) (fun _ u6 _ => s.size - (intOf u6).toNat)
    case atStart => exact ⟨0, [], ts, Nat.zero_le _, rfl, HX, Lib.hid rfl, Nat.le_refl _, Lib.hid (World.ownsRow_nil _ _ _ _), Lib.hid (Kp.refl _)⟩
    case round =>
      clear HX
      obtain ⟨k, acc, rest, hk, rfl, HX, HA, hl, O, K2⟩ := hrel
      by_cases hlt : k < s.size
      · have z0 : (0 : Int) ≤ (k : Int) := by omega
        have z1 : (k : Int) < (s.size : Int) := by omega
        have hx := HX.out
        rw [drop_at s k hlt] at hx
        by_cases h32 : (s[k]'hlt) = 32
        · have eb : (s[k]'hlt).toNat = 32 := by rw [h32]; rfl
          rw [h32] at hx
          have HX2 := Lib.hid (lx_blank hx)
          clear HX hx h32
          go_wp2
          refine ⟨⟨k + 1, acc, rest, by omega, by go_num, HX2, HA, by omega, O, K2⟩, by simp only [intOf]; omega⟩
        · obtain ⟨b, eb⟩ : ∃ b : Nat, (s[k]'hlt).toNat = b := ⟨_, rfl⟩
          have hb0 : b ≠ 32 := fun h => h32 (UInt8.toNat_inj.1 (by rw [eb, h]; rfl))
          have hb : ((b : Int) == 32) = false := by simp; omega
          have C1 := Lib.hid (fun wx => one_any s k wx hlt (by omega))
          have hsz := K2.out.size
          have TP := Lib.hid (fun kd n x (h : tok (s.data.toList.drop k) = some (kd, n, x)) => (show 1 ≤ n ∧ k + n ≤ s.size from by have := tok_pos h; rw [List.length_drop, HL] at this; omega))
          cases ht : tok (s.data.toList.drop k) with
          | none =>
            have B := Lib.hid (show e = some k by
              rw [drop_at s k hlt] at ht
              exact (lx_bad hx h32 ht).2)
            clear hx h32
            have HT := Lib.hid ht
            clear ht
            go_wp2_with fail
            refine (C1.out _).mono ?_
            rintro en w' ⟨kk, he⟩
            rw [HT.out] at he
            simp only at he
            subst he
            have K3 := Lib.hid (K2.out.trans kk)
            clear kk C1 TP
            go_wp2
            go_ret3
            exact ⟨K3.out.trans (by first | exact Kp.refl _ | exact Kp.alloc _ _), .inr (.inl ⟨hs2, k, B.out, rfl⟩)⟩
          | some q3 =>
            obtain ⟨kd, n, x⟩ := q3
            obtain ⟨t1, t2⟩ := TP.out _ _ _ ht
            obtain ⟨r, er, B⟩ : ∃ r, rest = (kd, (k : Int), x) :: r ∧ Lx (s.data.toList.drop (k + n)) (k + n) r e := by
              have h2 := ht
              rw [drop_at s k hlt] at h2
              obtain ⟨r, e1, e2⟩ := lx_step hx h32 h2
              refine ⟨r, e1, ?_⟩
              rw [← drop_at s k hlt, List.drop_drop] at e2
              exact e2
            subst er
            have B2 := Lib.hid B
            have HT := Lib.hid ht
            have qn : ((n : Int) == 0) = false := by simp; omega
            have n1 : (k : Int) + n ≤ 2000 := by omega
            clear hx h32 ht B TP
            go_wp2_with fail
            refine (C1.out _).mono ?_
            rintro en w2 ⟨kk, he⟩
            rw [HT.out] at he
            simp only at he
            subst he
            have K3 := Lib.hid (K2.out.trans kk)
            have O2 := Lib.hid (own_kp O.out kk)
            have hsz2 := K3.out.size
            clear kk C1
            go_wp2_with (at_builtin; refine wpList_app rfl (.tmp 31) (.tmp 33) 46 rfl w.heap.size 55 i0 (.agg #[.int .i64 0, .int .i64 0, .string { data := #[] }]) 3 32 Try.underlying46 hi hz0 hz1 hz2 rfl (by decide) _ _ _ rfl ((O2.out.alloc _).alloc _) _ _ _ rfl (oneT_src2 _ _ _ _ _ _) rfl oneT_cell (by unfold maxLen; omega) (by omega) (by simp; omega) ?_; intro v4 w4 hown4 hgrow4 hat4)
            refine ⟨⟨k + n, acc ++ [(kd, (k : Int), x)], r, by omega, by go_num, B2, Lib.hid (by rw [List.append_assoc]; exact HA.out), by simp; omega, Lib.hid (by have h := ownT_snoc hown4; rw [list_bs] at h; exact h), Lib.hid (Kp.grown (K3.out.trans ((Kp.alloc _ _).trans (Kp.alloc _ _))) hgrow4 (fun j hj => (O2.out.lt j hj).1))⟩, by simp only [intOf]; omega⟩
      · obtain rfl : k = s.size := by omega
        have qk : decide ((s.size : Int) < s.size) = false := by simp
        have hx := HX.out
        rw [List.drop_of_length_le (by omega)] at hx
        obtain ⟨rfl, he⟩ := lx_nil hx
        rw [List.append_nil] at HA
        have HE := Lib.hid he
        have hsz := K2.out.size
        clear hx HX he
        go_wp2_with (at_builtin; refine wpList_app rfl (.tmp 38) (.tmp 42) 46 rfl w.heap.size 55 i0 (.agg #[.int .i64 0, .int .i64 0, .string { data := #[] }]) 3 32 Try.underlying46 hi hz0 hz1 hz2 rfl (by decide) _ _ _ rfl (O.out.alloc _) _ _ _ rfl (oneT_src _ _ _ _ _) rfl oneT_cell (by unfold maxLen; omega) (by omega) (by simp; omega) ?_; intro v4 w4 hown4 hgrow4 hat4)
        go_ret3
        refine ⟨Kp.grown (K2.out.trans (Kp.alloc _ _)) hgrow4 (fun j hj => (O.out.lt j hj).1), .inr (.inr ⟨hs2, HE.out, _, rfl, ?_⟩)⟩
        have h := ownT_snoc hown4
        rw [HA.out] at h
        exact toksAt_own h
def fewB (l : List Tk) : Bool := l.all (fun t => decide (t.2.2.length ≤ 40)) && decide (l.length ≤ 60)
theorem few_no {l : List Tk} {k : Nat} (h : k < l.length) (g : 40 < (tk l k).2.2.length) : fewB l = false := by
  unfold fewB
  have : l.all (fun t => decide (t.2.2.length ≤ 40)) = false := by
    rw [List.all_eq_false]
    exact ⟨tk l k, tk_mem h, by simp; omega⟩
  rw [this]; rfl
theorem few_yes {l : List Tk} (h : ∀ i, i < l.length → (tk l i).2.2.length ≤ 40) : fewB l = decide (l.length ≤ 60) := by
  unfold fewB
  have : l.all (fun t => decide (t.2.2.length ≤ 40)) = true := by
    rw [List.all_eq_true]
    intro t ht
    obtain ⟨i, hi, e⟩ := List.getElem_of_mem ht
    have := h i hi
    rw [show tk l i = t by unfold tk; simp [List.getD, hi, e]] at this
    simpa using this
  rw [this]; rfl
set_option maxHeartbeats 2000000 in
theorem few_any (v : Value) (l : List Tk) (w : World) (hv : ToksAt w v l) :
    Calls Try.prog 53 #[v] w fun e w' => e = .returned (.bool (fewB l)) ∧ Kp w w' := by
  have hm : l.length ≤ 9223372036854775807 := by have := hv.len; unfold maxLen at this; omega
  obtain ⟨ad, c, rfl⟩ := hv.slice
  have HV := Lib.hid hv
  clear hv
  go_enter Try.func53, Try.ntmps53
  go_wp2
  go_loopw [3] (fun u3 wr => ∃ k : Nat, k ≤ l.length ∧ u3 = .int .i64 k ∧ Hid (∀ i, i < k → (tk l i).2.2.length ≤ 40) ∧ Hid (Kp w wr)) (fun u3 _ => l.length - (intOf u3).toNat)
  case atStart => exact ⟨0, Nat.zero_le _, rfl, Lib.hid (fun i hi => by omega), Lib.hid (Kp.refl _)⟩
  case round =>
    obtain ⟨k, hk, rfl, H, K1⟩ := hrel
    by_cases hlt : k < l.length
    · rcases HV.out with ⟨_, _, _, e⟩ | ⟨b, off, cap, ev, hc, hmm, hx⟩
      · rw [e] at hlt; simp at hlt
      cases ev
      obtain ⟨d1, d2, d3⟩ := rd_tok hx K1.out k hlt
      clear hx hc hmm d1 d2
      have z1 : (0 : Int) ≤ (k : Int) := by omega
      have z2 : (k : Int) < l.length := by omega
      have NO := Lib.hid (few_no (l := l) (k := k) hlt)
      have SZ := bs_size (tk l k).2.2
      by_cases h : (tk l k).2.2.length ≤ 40
      · have HH := Lib.hid (show ∀ i, i < k + 1 → (tk l i).2.2.length ≤ 40 from fun i hi => by
          by_cases e : i = k
          · subst e; exact h
          · exact H.out i (by omega))
        generalize bs (tk l k).2.2 = x at *
        have q : decide ((40 : Int) < x.size) = false := by simp; omega
        clear SZ h
        go_wp2
        go_roundw
        case rel => exact ⟨k + 1, by omega, by go_num, HH, K1⟩
        case measure => simp [intOf]; omega
      · have N := Lib.hid (NO.out (by omega))
        generalize bs (tk l k).2.2 = x at *
        have q : decide ((40 : Int) < x.size) = true := by simp; omega
        clear SZ h
        go_wp2
        go_ret
        exact ⟨ret_bool N.out.symm, K1.out⟩
    · have Y := Lib.hid (few_yes (fun i hi => H.out i (by omega)))
      have q : decide ((k : Int) < l.length) = false := by simp; omega
      have e2 : decide ((l.length : Int) ≤ 60) = decide (l.length ≤ 60) := by
        have : ((l.length : Int) ≤ 60) ↔ l.length ≤ 60 := by omega
        simp only [this]
      have E2 := Lib.hid e2
      clear e2
      go_wp2
      go_ret
      refine ⟨ret_bool ?_, K1.out⟩
      rw [Y.out]
      first | exact E2.out | (simp; done) | (congr 1; apply propext; omega)
set_option maxHeartbeats 2000000 in
theorem sameT_any (v u : Value) (l : List Tk) (w : World) (hv : ToksAt w v l) (hu : ToksAt w u l) :
    Calls Try.prog 56 #[v, u] w fun e w' => e = .returned (.bool true) ∧ Kp w w' := by
  have hm : l.length ≤ 9223372036854775807 := by have := hv.len; unfold maxLen at this; omega
  obtain ⟨ad, c, rfl⟩ := hv.slice
  obtain ⟨ad', c', rfl⟩ := hu.slice
  have HV := Lib.hid hv
  have HU := Lib.hid hu
  clear hv hu
  go_enter Try.func56, Try.ntmps56
  go_wp2
  go_loopw [5] (fun i wr => ∃ k : Nat, k ≤ l.length ∧ i = .int .i64 k ∧ Hid (Kp w wr)) (fun i _ => l.length - (intOf i).toNat)
  case atStart => exact ⟨0, by omega, rfl, Lib.hid (Kp.refl _)⟩
  case round =>
    obtain ⟨k, hk, rfl, K1⟩ := hrel
    by_cases hlt : k < l.length
    · rcases HV.out with ⟨_, _, _, e⟩ | ⟨b, off, cap, ev, hc, hm, hx⟩
      · rw [e] at hlt; simp at hlt
      rcases HU.out with ⟨_, _, _, e⟩ | ⟨b', off', cap', ev', hc', hm', hx'⟩
      · rw [e] at hlt; simp at hlt
      cases ev
      cases ev'
      obtain ⟨d1, d2, d3⟩ := rd_tok hx K1.out k hlt
      obtain ⟨d4, d5, d6⟩ := rd_tok hx' K1.out k hlt
      clear hx hx'
      generalize bs (tk l k).2.2 = x at *
      generalize (tk l k).1 = y at *
      generalize (tk l k).2.1 = z at *
      have z1 : (0 : Int) ≤ (k : Int) := by omega
      have z2 : (k : Int) < l.length := by omega
      go_wp2_with fail
      go_quiet (fail)
      go_wp2
      go_roundw
      case rel => exact ⟨k + 1, by omega, by go_num, Lib.hid (K1.out.trans (Kp.drewN _ _))⟩
      case measure => simp [intOf]; omega
    · have q3 : decide ((k : Int) < l.length) = false := by simp; omega
      go_wp2
      go_ret
      exact ⟨rfl, K1.out⟩
end Go.Proofs.Ytgaadakhkjfbnaa
