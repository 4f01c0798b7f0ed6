/-
  Layer 9: the walk of LexJoin.
-/
import Derived.Test.YtgaadakhkjfbnaaL9D
namespace Go.Proofs.Ytgaadakhkjfbnaa
open Go.RowKit Go.Shelf
set_option linter.unusedVariables false
set_option linter.unusedSimpArgs false
theorem tk_append (a b : List Tk) (j : Nat) : tk (a ++ b) (a.length + j) = tk b j := by
  unfold tk; simp [List.getD, List.getElem?_append_right]
theorem tk_left' (a b : List Tk) (i : Nat) (h : i < a.length) : tk (a ++ b) i = tk a i := by
  unfold tk; simp [List.getD, List.getElem?_append, h]
theorem tk_map (d : Nat) (b : List Tk) (j : Nat) (h : j < b.length) : tk (b.map (mv d)) j = mv d (tk b j) := by
  unfold tk; simp [List.getD, h]
/-- the tokens of two texts, one by one -/
theorem join_tk (ts ts2 : List Tk) (s t u : ByteArray) (hu : u.size = s.size + 1 + t.size) :
    ((ts ++ ts2.map (mv (s.size + 1))) ++ [endT u]).length = ts.length + ts2.length + 1 ∧
    (∀ i, i < ts.length → tk ((ts ++ ts2.map (mv (s.size + 1))) ++ [endT u]) i = tk (ts ++ [endT s]) i) ∧
    (∀ j, j ≤ ts2.length → tk ((ts ++ ts2.map (mv (s.size + 1))) ++ [endT u]) (ts.length + j) = ((tk (ts2 ++ [endT t]) j).1, (tk (ts2 ++ [endT t]) j).2.1 + (s.size : Int) + 1, (tk (ts2 ++ [endT t]) j).2.2)) := by
  refine ⟨by simp; omega, fun i hi => ?_, fun j hj => ?_⟩
  · rw [List.append_assoc, tk_left' _ _ i hi, tk_left ts _ i hi]
  · rw [List.append_assoc, tk_append]
    by_cases h : j < ts2.length
    · rw [tk_left _ _ j (by simpa using h), tk_map _ _ _ h, tk_left _ _ j h]
      show ((tk ts2 j).1, (tk ts2 j).2.1 + ((s.size + 1 : Nat) : Int), (tk ts2 j).2.2) = _
      congr 2
      omega
    · obtain rfl : j = ts2.length := by omega
      have e : (ts2.map (mv (s.size + 1))).length = ts2.length := by simp
      have e2 := tk_last (ts2.map (mv (s.size + 1))) (endT u)
      rw [e] at e2
      rw [e2, tk_last]
      unfold endT
      simp only
      rw [hu]
      congr 2
      omega
theorem toks_open {w : World} {v : Value} {l : List Tk} {n : Nat} (h : ToksAt w v l) (hn : l.length = n + 1) :
    ∃ b off cap, v = .slice (some ⟨b, off, none⟩) (n + 1) cap ∧ Hid (∀ (w' : World) (kk : Kp w w') i, i < n + 1 → w'.cell? ⟨b, off + i * 3, none⟩ = some (.int .i64 (tk l i).1) ∧ w'.cell? ⟨b, off + i * 3 + 1, none⟩ = some (.int .i64 (tk l i).2.1) ∧ w'.cell? ⟨b, off + i * 3 + 2, none⟩ = some (.string (bs (tk l i).2.2))) := by
  rcases h with ⟨_, _, _, e⟩ | ⟨b, off, cap, ev, h1, h2, hx⟩
  · rw [e] at hn; simp at hn
  · exact ⟨b, off, cap, by rw [← hn]; exact ev, Lib.hid (fun w' kk i hi => rd_tok hx kk i (by omega))⟩
set_option maxHeartbeats 8000000 in
set_option maxRecDepth 100000 in
theorem lexJoin_walk (s t : ByteArray) (w : World) (hs : s.size ≤ maxLen) (ht : t.size ≤ maxLen) :
    Calls Try.prog 20 #[.string s, .string t] w fun e w' => e = .returned (.bool true) ∧ Kp w w' := by
  have hs' : s.size ≤ 9223372036854775807 := by unfold maxLen at hs; omega
  have ht' : t.size ≤ 9223372036854775807 := by unfold maxLen at ht; omega
  by_cases h4 : 400 < s.size
  · have q : decide ((400 : Int) < s.size) = true := decide_eq_true (by omega)
    go_enter Try.func20, Try.ntmps20
    go_wp2_with fail; refine (awake09 _).mono ?_; rintro e w1 ⟨rfl, kk⟩; have K1 := Lib.hid ((Lib.hid (Kp.refl w)).out.trans kk); clear kk
    go_wp2
    go_ret
    exact ⟨rfl, K1.out⟩
  have q : decide ((400 : Int) < s.size) = false := decide_eq_false (by omega)
  by_cases h5 : 400 < t.size
  · have q2 : decide ((400 : Int) < t.size) = true := decide_eq_true (by omega)
    go_enter Try.func20, Try.ntmps20
    go_wp2_with fail; refine (awake09 _).mono ?_; rintro e w1 ⟨rfl, kk⟩; have K1 := Lib.hid ((Lib.hid (Kp.refl w)).out.trans kk); clear kk
    go_wp2
    go_ret
    exact ⟨rfl, K1.out⟩
  have q2 : decide ((400 : Int) < t.size) = false := decide_eq_false (by omega)
  obtain ⟨ts, e0, hx⟩ := lx_ex s.data.toList 0
  obtain ⟨ts2, e2, hy⟩ := lx_ex t.data.toList 0
  have HL : s.data.toList.length = s.size := by simp
  have HL2 : t.data.toList.length = t.size := by simp
  have hs4 : (s.size : Int) ≤ 400 := by omega
  have ht4 : (t.size : Int) ≤ 400 := by omega
  have E : (s ++ { data := #[32] } ++ t).data.toList = s.data.toList ++ 32 :: t.data.toList := by simp [ByteArray.data_append]
  have SZ : (s ++ { data := #[32] } ++ t).size = s.size + 1 + t.size := by rw [ByteArray.size_append, ByteArray.size_append]; rfl
  cases e0 with
  | some p =>
    have C1 := Lib.hid (fun w1 => lallS s ts p w1 (by omega) hx)
    have C3 := Lib.hid (fun w1 => lallS (s ++ { data := #[32] } ++ t) ts p w1 (by omega) (by rw [E]; exact lx_err hx rfl))
    cases e2 with
    | some p2 =>
      have C2 := Lib.hid (fun w1 => lallS t ts2 p2 w1 (by omega) hy)
      clear hs ht hx hy HL HL2 E SZ
      go_enter Try.func20, Try.ntmps20
      go_wp2_with fail; refine (awake09 _).mono ?_; rintro e w1 ⟨rfl, kk⟩; have K1 := Lib.hid ((Lib.hid (Kp.refl w)).out.trans kk); clear kk
      go_wp2_with fail; refine (C1.out _).mono ?_; rintro e w2 ⟨rfl, kk⟩; have K2 := Lib.hid (K1.out.trans kk); clear kk
      go_wp2_with fail; refine (C2.out _).mono ?_; rintro e w3 ⟨rfl, kk⟩; have K3 := Lib.hid (K2.out.trans kk); clear kk
      go_wp2_with fail; refine (C3.out _).mono ?_; rintro e w4 ⟨rfl, kk⟩; have K4 := Lib.hid (K3.out.trans kk); clear kk
      go_wp2
      go_ret
      exact ⟨rfl, K4.out⟩
    | none =>
      have C2 := Lib.hid (fun w1 => lallN t ts2 w1 (by omega) hy)
      clear hs ht hx hy HL HL2 E SZ
      go_enter Try.func20, Try.ntmps20
      go_wp2_with fail; refine (awake09 _).mono ?_; rintro e w1 ⟨rfl, kk⟩; have K1 := Lib.hid ((Lib.hid (Kp.refl w)).out.trans kk); clear kk
      go_wp2_with fail; refine (C1.out _).mono ?_; rintro e w2 ⟨rfl, kk⟩; have K2 := Lib.hid (K1.out.trans kk); clear kk
      go_wp2_with fail; refine (C2.out _).mono ?_; rintro e w3 ⟨vw3, rfl, tw3, kk⟩; have K3 := Lib.hid (K2.out.trans kk)
      clear kk tw3
      go_wp2_with fail; refine (C3.out _).mono ?_; rintro e w4 ⟨rfl, kk⟩; have K4 := Lib.hid (K3.out.trans kk); clear kk
      go_wp2
      go_ret
      exact ⟨rfl, K4.out⟩
  | none =>
    have C1 := Lib.hid (fun w1 => lallN s ts w1 (by omega) hx)
    have J := lx_join hx hy
    rw [HL, ← E] at J
    cases e2 with
    | some p2 =>
      have C2 := Lib.hid (fun w1 => lallS t ts2 p2 w1 (by omega) hy)
      have C3 := Lib.hid (fun w1 => lallS (s ++ { data := #[32] } ++ t) _ _ w1 (by omega) J)
      clear hs ht hx hy HL HL2 E SZ J
      go_enter Try.func20, Try.ntmps20
      go_wp2_with fail; refine (awake09 _).mono ?_; rintro e w1 ⟨rfl, kk⟩; have K1 := Lib.hid ((Lib.hid (Kp.refl w)).out.trans kk); clear kk
      go_wp2_with fail; refine (C1.out _).mono ?_; rintro e w2 ⟨vw2, rfl, tw2, kk⟩; have K2 := Lib.hid (K1.out.trans kk)
      clear kk tw2
      go_wp2_with fail; refine (C2.out _).mono ?_; rintro e w3 ⟨rfl, kk⟩; have K3 := Lib.hid (K2.out.trans kk); clear kk
      go_wp2_with fail; refine (C3.out _).mono ?_; rintro e w4 ⟨rfl, kk⟩; have K4 := Lib.hid (K3.out.trans kk); clear kk
      go_wp2
      go_ret
      exact ⟨rfl, K4.out⟩
    | none =>
      have C2 := Lib.hid (fun w1 => lallN t ts2 w1 (by omega) hy)
      have C3 := Lib.hid (fun w1 => lallN (s ++ { data := #[32] } ++ t) _ w1 (by omega) J)
      obtain ⟨J1, J2, J3⟩ := join_tk ts ts2 s t (s ++ { data := #[32] } ++ t) SZ
      have A1 : (ts ++ [endT s]).length = ts.length + 1 := by simp
      have A2 : (ts2 ++ [endT t]).length = ts2.length + 1 := by simp
      have L1 := lx_len hx
      have L2 := lx_len hy
      rw [HL] at L1
      rw [HL2] at L2
      have AT := Lib.hid (fun j (hj : j ≤ ts2.length) => (show 0 ≤ (tk (ts2 ++ [endT t]) j).2.1 ∧ (tk (ts2 ++ [endT t]) j).2.1 ≤ 400 from by
        by_cases h : j < ts2.length
        · rw [tk_left _ _ j h]
          have := lx_at hy _ (tk_mem h)
          rw [HL2] at this
          omega
        · obtain rfl : j = ts2.length := by omega
          rw [tk_last]
          unfold endT
          simp only
          omega))
      generalize ts ++ [endT s] = TA at *
      generalize ts2 ++ [endT t] = TB at *
      generalize ts ++ ts2.map (mv (s.size + 1)) ++ [endT (s ++ { data := #[32] } ++ t)] = TC at *
      obtain ⟨n1, en1⟩ : ∃ n, ts.length = n := ⟨_, rfl⟩
      obtain ⟨n2, en2⟩ : ∃ n, ts2.length = n := ⟨_, rfl⟩
      rw [en1] at J1 J2 J3 A1 L1
      rw [en2] at J1 J3 A2 L2 AT
      have HJ1 := Lib.hid J1
      have HJ2 := Lib.hid J2
      have HJ3 := Lib.hid J3
      have HA1 := Lib.hid A1
      have HA2 := Lib.hid A2
      have HSZ := Lib.hid SZ
      clear hs ht hx hy HL HL2 E SZ J en1 en2 J1 J2 J3 A1 A2
      go_enter Try.func20, Try.ntmps20
      go_wp2_with fail; refine (awake09 _).mono ?_; rintro e w1 ⟨rfl, kk⟩; have K1 := Lib.hid ((Lib.hid (Kp.refl w)).out.trans kk); clear kk
      go_wp2_with fail; refine (C1.out _).mono ?_; rintro e w2 ⟨vw2, rfl, tw2, kk⟩; have K2 := Lib.hid (K1.out.trans kk)
      have RA0 := Lib.hid tw2
      clear kk tw2
      go_wp2_with fail; refine (C2.out _).mono ?_; rintro e w3 ⟨vw3, rfl, tw3, kk⟩; have K3 := Lib.hid (K2.out.trans kk)
      have RA1 := Lib.hid (RA0.out.kp kk)
      have RB0 := Lib.hid tw3
      clear kk tw3 RA0
      go_wp2_with fail; refine (C3.out _).mono ?_; rintro e w4 ⟨vw4, rfl, tw4, kk⟩; have K4 := Lib.hid (K3.out.trans kk)
      have RA := Lib.hid (RA1.out.kp kk)
      have RB := Lib.hid (RB0.out.kp kk)
      have RC := Lib.hid tw4
      clear kk tw4 RA1 RB0
      obtain ⟨ba, oa, ca, ev, HXA⟩ : ∃ b off cap, vw2 = .slice (some ⟨b, off, none⟩) (n1 + 1) cap ∧ Hid (∀ (w' : World) (kk : Kp w4 w') i, i < n1 + 1 → w'.cell? ⟨b, off + i * 3, none⟩ = some (.int .i64 (tk TA i).1) ∧ w'.cell? ⟨b, off + i * 3 + 1, none⟩ = some (.int .i64 (tk TA i).2.1) ∧ w'.cell? ⟨b, off + i * 3 + 2, none⟩ = some (.string (bs (tk TA i).2.2))) := toks_open RA.out HA1.out
      subst ev
      obtain ⟨bb, ob, cb, ev, HXB⟩ : ∃ b off cap, vw3 = .slice (some ⟨b, off, none⟩) (n2 + 1) cap ∧ Hid (∀ (w' : World) (kk : Kp w4 w') i, i < n2 + 1 → w'.cell? ⟨b, off + i * 3, none⟩ = some (.int .i64 (tk TB i).1) ∧ w'.cell? ⟨b, off + i * 3 + 1, none⟩ = some (.int .i64 (tk TB i).2.1) ∧ w'.cell? ⟨b, off + i * 3 + 2, none⟩ = some (.string (bs (tk TB i).2.2))) := toks_open RB.out HA2.out
      subst ev
      obtain ⟨bc, oc, cc, ev, HXC⟩ : ∃ b off cap, vw4 = .slice (some ⟨b, off, none⟩) (n1 + n2 + 1) cap ∧ Hid (∀ (w' : World) (kk : Kp w4 w') i, i < n1 + n2 + 1 → w'.cell? ⟨b, off + i * 3, none⟩ = some (.int .i64 (tk TC i).1) ∧ w'.cell? ⟨b, off + i * 3 + 1, none⟩ = some (.int .i64 (tk TC i).2.1) ∧ w'.cell? ⟨b, off + i * 3 + 2, none⟩ = some (.string (bs (tk TC i).2.2))) := toks_open RC.out HJ1.out
      subst ev
      have SZ2 := HSZ.out
      generalize s ++ { data := #[32] } ++ t = u at *
      have n1b : (n1 : Int) ≤ 400 := by omega
      have n2b : (n2 : Int) ≤ 400 := by omega
      have usz : (u.size : Int) = (s.size : Int) + 1 + (t.size : Int) := by omega
      have qa : ((n1 : Int) + 1 == 0) = false := by simp; omega
      have qb : ((n1 : Int) + n2 + 1 != (n1 : Int) + ((n2 : Int) + 1)) = false := by simp; omega
      clear SZ2
      go_wp2
      go_loopw [15] (fun u15 wr => ∃ k : Nat, k ≤ n1 + n2 + 1 ∧ u15 = .int .i64 k ∧ Hid (Kp w4 wr)) (fun u15 _ => n1 + n2 + 1 - (intOf u15).toNat)
      case atStart => exact ⟨0, Nat.zero_le _, rfl, Lib.hid (Kp.refl _)⟩
      case round =>
        obtain ⟨k, hk, rfl, K5⟩ := hrel
        clear qa qb
        by_cases hlt : k < n1 + n2 + 1
        · obtain ⟨d1, d2, d3⟩ := HXC.out wr K5.out k hlt
          by_cases hk1 : k < n1
          · obtain ⟨d4, d5, d6⟩ := HXA.out wr K5.out k (by omega)
            have e := HJ2.out k hk1
            rw [e] at d1 d2 d3
            clear e
            generalize bs (tk TA k).2.2 = x at *
            generalize (tk TA k).1 = y at *
            generalize (tk TA k).2.1 = z at *
            have z0 : (0 : Int) ≤ k := by omega
            have z1 : (k : Int) < n1 := by omega
            have z2 : decide ((k : Int) < n1) = true := decide_eq_true z1
            have z3 : decide (k < n1) = true := decide_eq_true hk1
            have z4 : (k : Int) < (n1 : Int) + 1 := by omega
            have z5 : (k : Int) < (n1 : Int) + n2 + 1 := by omega
            go_wp2_with fail
            go_quiet (fail)
            go_wp2
            refine ⟨⟨k + 1, by omega, by go_num, Lib.hid (K5.out.trans (Kp.drewN _ _))⟩, by simp only [intOf]; omega⟩
          · obtain ⟨j, rfl⟩ : ∃ j, k = n1 + j := ⟨k - n1, by omega⟩
            obtain ⟨d4, d5, d6⟩ := HXB.out wr K5.out j (by omega)
            have e := HJ3.out j (by omega)
            have at_ := AT.out j (by omega)
            rw [e] at d1 d2 d3
            simp only at d1 d2 d3
            clear e
            have DC := Lib.hid (fun (o : Obj) => (show (wr.alloc o).cell? ⟨bc, oc + (n1 + j) * 3, none⟩ = some (.int .i64 (tk TB j).1) ∧ True from ⟨(Below.cell (p := ⟨bc, oc + (n1 + j) * 3, none⟩) (Kp.alloc wr o) (World.block_lt_of_cell? _ _ d1)).trans d1, trivial⟩))
            have blk := World.block_lt_of_cell? _ _ d1
            generalize bs (tk TB j).2.2 = x at *
            generalize (tk TB j).1 = y at *
            generalize (tk TB j).2.1 = z at *
            have z0 : (0 : Int) ≤ j := by omega
            have z1 : (j : Int) ≤ n2 := by omega
            have z2 : decide ((n1 : Int) + j < n1) = false := decide_eq_false (by omega)
            have z3 : decide (n1 + j < n1) = false := decide_eq_false (by omega)
            have z4 : (n1 : Int) + j - ((n1 : Int) + 1) + 1 = j := by omega
            have z6 : (j : Int) < (n2 : Int) + 1 := by omega
            have z7 : (0 : Int) ≤ n1 := by omega
            have z5 : (n1 : Int) + j < (n1 : Int) + n2 + 1 := by omega
            clear DC
            go_wp2_with fail
            have f1 : (wr.alloc (.cells #[.int .i64 y, .int .i64 (z + s.size + 1), .string x] 55)).cell? ⟨wr.heap.size, 0, none⟩ = some (.int .i64 y) := by simp
            have f2 : (wr.alloc (.cells #[.int .i64 y, .int .i64 (z + s.size + 1), .string x] 55)).cell? ⟨wr.heap.size, 1, none⟩ = some (.int .i64 (z + s.size + 1)) := by simp
            have f3 : (wr.alloc (.cells #[.int .i64 y, .int .i64 (z + s.size + 1), .string x] 55)).cell? ⟨wr.heap.size, 2, none⟩ = some (.string x) := by simp
            have KA := Kp.alloc wr (.cells #[.int .i64 y, .int .i64 (z + s.size + 1), .string x] 55)
            have g1 := (Below.cell (p := ⟨bc, oc + (n1 + j) * 3, none⟩) KA blk).trans d1
            have g2 := (Below.cell (p := ⟨bc, oc + (n1 + j) * 3 + 1, none⟩) KA blk).trans d2
            have g3 := (Below.cell (p := ⟨bc, oc + (n1 + j) * 3 + 2, none⟩) KA blk).trans d3
            have K6 := Lib.hid (K5.out.trans KA)
            clear d1 d2 d3 d4 d5 d6 KA blk
            generalize wr.alloc (.cells #[.int .i64 y, .int .i64 (z + s.size + 1), .string x] 55) = w6 at *
            go_quiet (fail)
            go_wp2
            refine ⟨⟨n1 + j + 1, by omega, by go_num, Lib.hid (K6.out.trans (Kp.drewN _ _))⟩, by simp only [intOf]; omega⟩
        · obtain rfl : k = n1 + n2 + 1 := by omega
          have y3 : decide ((n1 : Int) + n2 + 1 < (n1 : Int) + n2 + 1) = false := by simp
          go_wp2
          go_ret
          exact ⟨by simp, K4.out.trans K5.out⟩
end Go.Proofs.Ytgaadakhkjfbnaa
