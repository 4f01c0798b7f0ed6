/-
  Contracts of the document's answer for layer 9: text, Show.
-/
import Derived.Test.YtgaadakhkjfbnaaLexF
namespace Go.Proofs.Ytgaadakhkjfbnaa
open Go.RowKit Go.Shelf
set_option linter.unusedVariables false
set_option linter.unusedSimpArgs false
theorem bs_append (a b : List UInt8) : bs (a ++ b) = bs a ++ bs b := by
  unfold bs; apply ByteArray.ext; simp [ByteArray.data_append]
theorem shw_no {k : Int} (h : k < 0 ∨ 8 < k) : shw k = [] := by
  unfold shw
  repeat' split
  all_goals first | omega | rfl
set_option maxHeartbeats 4000000 in
set_option maxRecDepth 100000 in
theorem text_any (kd a : Int) (x : ByteArray) (w : World) :
    Calls Try.prog 78 #[.agg #[.int .i64 kd, .int .i64 a, .string x]] w fun e w' => e = .returned (.string (if kd = 0 then x else bs (shw kd))) ∧ Kp w w' := by
  by_cases h1 : kd < 0
  · have q1 : decide (kd < 0) = true := decide_eq_true h1
    rw [if_neg (by omega), shw_no (.inl h1)]
    clear h1
    go_enter Try.func78, Try.ntmps78
    go_wp2
    go_ret
    exact ⟨rfl, by first | exact (Kp.alloc _ _).trans (Kp.alloc _ _) | exact Kp.alloc _ _⟩
  · have q1 : decide (kd < 0) = false := decide_eq_false h1
    by_cases h2 : 8 < kd
    · have q2 : decide (8 < kd) = true := decide_eq_true h2
      rw [if_neg (by omega), shw_no (.inr h2)]
      go_enter Try.func78, Try.ntmps78
      go_wp2
      go_ret
      exact ⟨rfl, by first | exact (Kp.alloc _ _).trans (Kp.alloc _ _) | exact Kp.alloc _ _⟩
    · obtain rfl | rfl | rfl | rfl | rfl | rfl | rfl | rfl | rfl : kd = 0 ∨ kd = 1 ∨ kd = 2 ∨ kd = 3 ∨ kd = 4 ∨ kd = 5 ∨ kd = 6 ∨ kd = 7 ∨ kd = 8 := by omega
      all_goals
        clear h1 h2 q1
        go_enter Try.func78, Try.ntmps78
        go_wp2
        go_ret
        exact ⟨rfl, by first | exact (Kp.alloc _ _).trans (Kp.alloc _ _) | exact Kp.alloc _ _⟩
/-- the part of a token, behind a word or not -/
def pc (p : Bool) (t : Tk) : List UInt8 := if t.1 = 0 then (if p then [32] else []) ++ t.2.2 else shw t.1
theorem sh_cons (b : Bool) (t : Tk) (r : List Tk) : sh b (t :: r) = pc b t ++ sh (t.1 == 0) r := rfl
def lw (b : Bool) (l : List Tk) : Bool := match l.getLast? with | none => b | some u => u.1 == 0
theorem sh_snoc : ∀ (l : List Tk) (b : Bool) (t : Tk), sh b (l ++ [t]) = sh b l ++ pc (lw b l) t := by
  intro l
  induction l with
  | nil => intro b t; show pc b t ++ [] = [] ++ pc b t; simp
  | cons u r ih =>
    intro b t
    have e : lw b (u :: r) = lw (u.1 == 0) r := by
      unfold lw
      cases r with
      | nil => rfl
      | cons v r' =>
        rw [List.getLast?_cons_cons]
        cases h : (v :: r').getLast? with
        | none => simp at h
        | some u => rfl
    rw [List.cons_append, sh_cons, sh_cons, ih, e, List.append_assoc]
theorem lw_take (l : List Tk) (k : Nat) (h : k < l.length) : lw false (l.take k) = (decide (0 < k) && ((tk l (k - 1)).1 == 0)) := by
  cases k with
  | zero => rfl
  | succ k =>
    have e : (l.take (k + 1)).getLast? = some (tk l k) := by
      rw [tk_take l k (by omega)]; simp
    unfold lw
    rw [e]
    simp
theorem sh_take (l : List Tk) (k : Nat) (h : k < l.length) : sh false (l.take (k + 1)) = sh false (l.take k) ++ pc (decide (0 < k) && ((tk l (k - 1)).1 == 0)) (tk l k) := by
  rw [tk_take l k h, sh_snoc, lw_take l k h]
theorem shw_len (k : Int) : (shw k).length ≤ 2 := by
  unfold shw
  repeat' split
  all_goals simp
theorem pc_len (p : Bool) (t : Tk) (n : Nat) (h : t.2.2.length ≤ n) : (pc p t).length ≤ n + 2 := by
  have := shw_len t.1
  unfold pc
  split
  · rw [List.length_append]; split <;> simp <;> omega
  · omega
theorem sh_bd : ∀ (l : List Tk) (b : Bool) (n : Nat), (∀ t ∈ l, t.2.2.length ≤ n) → (sh b l).length ≤ l.length * (n + 2) := by
  intro l
  induction l with
  | nil => intro b n _; simp [sh]
  | cons t r ih =>
    intro b n h
    have h1 := ih (t.1 == 0) n (fun u hu => h u (by simp [hu]))
    have h2 := pc_len b t n (h t (by simp))
    rw [sh_cons, List.length_append, List.length_cons, Nat.succ_mul]
    omega
set_option maxHeartbeats 4000000 in
set_option maxRecDepth 100000 in
theorem rshow_any (v : Value) (l : List Tk) (w : World) (hv : ToksAt w v l) (hl : l.length ≤ 1000) (hx : ∀ t ∈ l, t.2.2.length ≤ 1000) :
    Calls Try.prog 58 #[v] w fun e w' => e = .returned (.string (bs (sh false l))) ∧ Kp w w' := by
  obtain ⟨ad, c, rfl⟩ := hv.slice
  have HV := Lib.hid hv
  have HX := Lib.hid hx
  clear hv hx
  go_enter Try.func58, Try.ntmps58
  go_wp2
  go_loopw [3, 4] (fun u3 u4 wr => ∃ k : Nat, k ≤ l.length ∧ u4 = .int .i64 k ∧ u3 = .string (bs (sh false (l.take k))) ∧ Hid (Kp w wr)) (fun _ u4 _ => l.length - (intOf u4).toNat)
  case atStart => exact ⟨0, Nat.zero_le _, rfl, rfl, Lib.hid (Kp.refl _)⟩
  case round =>
    obtain ⟨k, hk, rfl, rfl, K1⟩ := hrel
    by_cases hlt : k < l.length
    · rcases HV.out with ⟨_, _, _, e⟩ | ⟨b, off, cap, ev, hc, hm, hx⟩
      · rw [e] at hlt; simp at hlt
      cases ev
      obtain ⟨d1, d2, d3⟩ := rd_tok hx K1.out k hlt
      have D0 := Lib.hid (fun (h : k - 1 < l.length) => (rd_tok hx K1.out (k - 1) h).1)
      clear hx hc hm
      have z1 : (0 : Int) ≤ (k : Int) := by omega
      have z2 : (k : Int) < l.length := by omega
      have ST := Lib.hid (sh_take l k hlt)
      have SB := sh_bd (l.take k) false 1000 (fun t ht => HX.out t (List.mem_of_mem_take ht))
      have SL : (sh false (l.take k)).length ≤ 1002000 := by
        have : (l.take k).length ≤ 1000 := by rw [List.length_take]; omega
        have := Nat.mul_le_mul_right (1000 + 2) this
        omega
      have TL := HX.out _ (tk_mem hlt)
      have C := Lib.hid (fun wx => text_any (tk l k).1 (tk l k).2.1 (bs (tk l k).2.2) wx)
      obtain ⟨kd, a, x, ee⟩ : ∃ kd a x, tk l k = (kd, a, x) := ⟨_, _, _, rfl⟩
      rw [ee] at d1 d2 d3 ST TL C
      simp only at d1 d2 d3 TL C
      clear ee SB
      have E1 := Lib.hid (fun p : Bool => show bs (sh false (l.take k) ++ pc p (kd, a, x)) = (if kd = 0 ∧ p = true then bs (sh false (l.take k)) ++ (⟨#[32]⟩ : ByteArray) else bs (sh false (l.take k))) ++ (if kd = 0 then bs x else bs (shw kd)) by
        rw [bs_append]
        unfold pc
        simp only
        by_cases hk : kd = 0
        · cases p with
          | true => rw [if_pos hk, if_pos rfl, if_pos ⟨hk, rfl⟩, if_pos hk, bs_append, ← ByteArray.append_assoc]; rfl
          | false => rw [if_pos hk, if_neg (by simp), if_neg (by simp), if_pos hk]; rfl
        · rw [if_neg hk, if_neg (fun h => hk h.1), if_neg hk])
      have SZ1 := bs_size (sh false (l.take k))
      have SZ2 := bs_size x
      have SZ3 := bs_size (shw kd)
      have SWL := shw_len kd
      generalize sh false (l.take k) = S at *
      generalize hbs : bs S = BS at *
      obtain ⟨tt, htt⟩ : ∃ tt, (if kd = 0 then bs x else bs (shw kd)) = tt := ⟨_, rfl⟩
      rw [htt] at C
      have TT : tt.size ≤ 1000 := by rw [← htt]; split <;> omega
      have HTT := Lib.hid htt
      clear htt
      by_cases hk0 : k = 0
      · have g1 : decide (0 < k) = false := by simp; omega
        have g1' : decide ((0 : Int) < k) = false := by simp; omega
        rw [g1, Bool.false_and] at ST
        have F := Lib.hid (show bs (sh false (l.take (k + 1))) = BS ++ tt by rw [ST.out, E1.out, if_neg (by simp), HTT.out])
        by_cases hkd : kd = 0
        all_goals
          first
          | (have e1 : (kd == 0) = true := by simpa using hkd)
          | (have e1 : (kd == 0) = false := by simpa using hkd)
          have HKD := Lib.hid hkd
          have HK0 := Lib.hid hk0
          clear hkd hk0 E1 ST
          go_wp2_with fail
          refine (C.out _).mono ?_
          rintro e w2 ⟨rfl, kk⟩
          have K2 := Lib.hid (K1.out.trans kk)
          clear kk
          go_wp2
          refine ⟨⟨k + 1, by omega, by go_num, by rw [F.out], K2⟩, by simp only [intOf]; omega⟩
      · obtain ⟨j, rfl⟩ : ∃ j, k = j + 1 := ⟨k - 1, by omega⟩
        have g1 : decide (0 < j + 1) = true := by simp
        have d0 := D0.out (by omega)
        rw [show j + 1 - 1 = j by omega] at d0 ST
        rw [g1, Bool.true_and] at ST
        generalize (tk l j).1 = pk at *
        have b1 : (j : Int) + 1 ≤ 1000 := by omega
        have b2 : (j : Int) < l.length := by omega
        have b3 : (0 : Int) ≤ j := by omega
        have b4 : (j : Int) + 1 < l.length := by omega
        clear hk0 D0 g1 z1 z2
        by_cases hkd : kd = 0
        · have e1 : (kd == 0) = true := by simpa using hkd
          by_cases hpk : pk = 0
          · have e2 : (pk == 0) = true := by simpa using hpk
            rw [e2] at ST
            have F := Lib.hid (show bs (sh false (l.take (j + 1 + 1))) = BS ++ (⟨#[32]⟩ : ByteArray) ++ tt by rw [ST.out, E1.out, if_pos ⟨hkd, rfl⟩, HTT.out])
            have HKD := Lib.hid hkd
            have HPK := Lib.hid hpk
            clear hkd hpk E1 ST
            go_wp2_with fail
            refine (C.out _).mono ?_
            rintro e w2 ⟨rfl, kk⟩
            have K2 := Lib.hid (K1.out.trans kk)
            clear kk
            go_wp2
            refine ⟨⟨j + 1 + 1, by omega, by go_num, by rw [F.out], K2⟩, by simp only [intOf]; omega⟩
          · have e2 : (pk == 0) = false := by simpa using hpk
            rw [e2] at ST
            have F := Lib.hid (show bs (sh false (l.take (j + 1 + 1))) = BS ++ tt by rw [ST.out, E1.out, if_neg (by simp), HTT.out])
            have HKD := Lib.hid hkd
            have HPK := Lib.hid hpk
            clear hkd hpk E1 ST
            go_wp2_with fail
            refine (C.out _).mono ?_
            rintro e w2 ⟨rfl, kk⟩
            have K2 := Lib.hid (K1.out.trans kk)
            clear kk
            go_wp2
            refine ⟨⟨j + 1 + 1, by omega, by go_num, by rw [F.out], K2⟩, by simp only [intOf]; omega⟩
        · have e1 : (kd == 0) = false := by simpa using hkd
          have F := Lib.hid (show bs (sh false (l.take (j + 1 + 1))) = BS ++ tt by rw [ST.out, E1.out, if_neg (fun h => hkd h.1), HTT.out])
          have HKD := Lib.hid hkd
          clear hkd E1 ST
          go_wp2_with fail
          refine (C.out _).mono ?_
          rintro e w2 ⟨rfl, kk⟩
          have K2 := Lib.hid (K1.out.trans kk)
          clear kk
          go_wp2
          refine ⟨⟨j + 1 + 1, by omega, by go_num, by rw [F.out], K2⟩, by simp only [intOf]; omega⟩
    · have q : decide ((k : Int) < l.length) = false := by simp; omega
      have A : l.take k = l := by rw [show k = l.length by omega, List.take_length]
      rw [A]
      clear A
      go_wp2
      go_ret
      exact ⟨rfl, K1.out⟩
end Go.Proofs.Ytgaadakhkjfbnaa
