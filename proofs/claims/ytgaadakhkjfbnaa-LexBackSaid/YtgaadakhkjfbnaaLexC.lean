/-
  Rows of tokens; the contract of lex.All.
-/
import Derived.Test.YtgaadakhkjfbnaaLexB
namespace Go.Proofs.Ytgaadakhkjfbnaa
open Go.RowKit Go.Shelf
set_option linter.unusedVariables false
set_option linter.unusedSimpArgs false
theorem infoT : (Try.prog.info? 55).map (fun i => (i.zero, i.size, i.bytes)) = some (some (.agg #[.int .i64 0, .int .i64 0, .string { data := #[] }]), 3, 32) := by kernel_rfl
def bs (l : List UInt8) : ByteArray := ⟨l.toArray⟩
theorem bs_list (s : ByteArray) : bs s.data.toList = s := by unfold bs; simp
theorem list_bs (l : List UInt8) : (bs l).data.toList = l := by unfold bs; simp
theorem bs_size (l : List UInt8) : (bs l).size = l.length := by unfold bs; simp [ByteArray.size]
def cellsT (l : List Tk) : List Value := l.flatMap fun t => [.int .i64 t.1, .int .i64 t.2.1, .string (bs t.2.2)]
theorem cellsT_append (a b : List Tk) : cellsT (a ++ b) = cellsT a ++ cellsT b := by unfold cellsT; simp
theorem cellsT_length (l : List Tk) : (cellsT l).length = l.length * 3 := by unfold cellsT; induction l with | nil => rfl | cons r t ih => simp at ih ⊢; omega
def tk (l : List Tk) (i : Nat) : Tk := l.getD i (0, 0, [])
theorem tk_mem {l : List Tk} {i : Nat} (h : i < l.length) : tk l i ∈ l := by
  have : tk l i = l[i] := by unfold tk; simp [List.getD, h]
  rw [this]; exact List.getElem_mem h
theorem tk_take (l : List Tk) (k : Nat) (h : k < l.length) : l.take (k + 1) = l.take k ++ [tk l k] := by
  rw [List.take_succ_eq_append_getElem h]; unfold tk; simp [List.getD, h]
/-- a slice of tokens reads as this list -/
def ToksAt (w : World) (v : Value) (l : List Tk) : Prop :=
  (∃ ad cp, v = .slice ad 0 cp ∧ l = []) ∨ ∃ b off cap, v = .slice (some ⟨b, off, none⟩) l.length cap ∧ l.length ≤ cap ∧ cap ≤ maxLen ∧
    ∀ i, i < l.length → w.cell? ⟨b, off + i * 3, none⟩ = some (.int .i64 (tk l i).1) ∧ w.cell? ⟨b, off + i * 3 + 1, none⟩ = some (.int .i64 (tk l i).2.1) ∧ w.cell? ⟨b, off + i * 3 + 2, none⟩ = some (.string (bs (tk l i).2.2))
theorem ToksAt.slice {w : World} {v : Value} {l : List Tk} (h : ToksAt w v l) : ∃ ad c, v = .slice ad l.length c := by
  rcases h with ⟨ad, cp, rfl, rfl⟩ | ⟨b, off, cap, rfl, _⟩
  · exact ⟨_, _, rfl⟩
  · exact ⟨_, _, rfl⟩
theorem rd_tok {w wr : World} {b off : Nat} {l : List Tk} (hx : ∀ i, i < l.length → w.cell? ⟨b, off + i * 3, none⟩ = some (.int .i64 (tk l i).1) ∧ w.cell? ⟨b, off + i * 3 + 1, none⟩ = some (.int .i64 (tk l i).2.1) ∧ w.cell? ⟨b, off + i * 3 + 2, none⟩ = some (.string (bs (tk l i).2.2))) (k : Kp w wr) (i : Nat) (hi : i < l.length) :
    wr.cell? ⟨b, off + i * 3, none⟩ = some (.int .i64 (tk l i).1) ∧ wr.cell? ⟨b, off + i * 3 + 1, none⟩ = some (.int .i64 (tk l i).2.1) ∧ wr.cell? ⟨b, off + i * 3 + 2, none⟩ = some (.string (bs (tk l i).2.2)) := by
  obtain ⟨c1, c2, c3⟩ := hx i hi
  exact ⟨(Below.cell (p := ⟨b, off + i * 3, none⟩) k (World.block_lt_of_cell? _ _ c1)).trans c1, (Below.cell (p := ⟨b, off + i * 3 + 1, none⟩) k (World.block_lt_of_cell? _ _ c2)).trans c2, (Below.cell (p := ⟨b, off + i * 3 + 2, none⟩) k (World.block_lt_of_cell? _ _ c3)).trans c3⟩
theorem ToksAt.kp {w w' : World} {v : Value} {l : List Tk} (h : ToksAt w v l) (k : Kp w w') : ToksAt w' v l := by
  rcases h with h | ⟨b, off, cap, e, h1, h2, h3⟩
  · exact .inl h
  · exact .inr ⟨b, off, cap, e, h1, h2, fun i hi => rd_tok h3 k i hi⟩
theorem ToksAt.len {w : World} {v : Value} {l : List Tk} (h : ToksAt w v l) : l.length ≤ maxLen := by
  rcases h with ⟨_, _, _, rfl⟩ | ⟨_, _, _, _, h1, h2, _⟩
  · simp
  · omega
theorem cellsT_idx : ∀ (m : List Tk) (k : Nat), k < m.length → (cellsT m)[k * 3]? = some (.int .i64 (tk m k).1) ∧ (cellsT m)[k * 3 + 1]? = some (.int .i64 (tk m k).2.1) ∧ (cellsT m)[k * 3 + 2]? = some (.string (bs (tk m k).2.2)) := by
  intro m
  induction m with
  | nil => intro k hk; simp at hk
  | cons r t ih =>
    intro k hk
    have e : cellsT (r :: t) = .int .i64 r.1 :: .int .i64 r.2.1 :: .string (bs r.2.2) :: cellsT t := by unfold cellsT; simp
    cases k with
    | zero => rw [e]; exact ⟨rfl, rfl, rfl⟩
    | succ k =>
      have g := ih k (by simpa using hk)
      rw [e, show (k + 1) * 3 = k * 3 + 3 by omega]
      exact g
theorem toksAt_own {w : World} {base : Nat} {e : TypeId} {v : Value} {l : List Tk} (h : w.ownsRow base e 3 v l.length (cellsT l)) : ToksAt w v l := by
  rcases h.2 with ⟨e1, h0⟩ | ⟨g, cp, cur, rfl, h2, h3, h4, h5, h6, h7⟩
  · exact .inl ⟨_, _, e1, List.length_eq_zero_iff.1 h0⟩
  · refine .inr ⟨g, 0, cp, rfl, h4, h5, fun i hi => ?_⟩
    obtain ⟨c1, c2, c3⟩ := cellsT_idx l i hi
    rw [Nat.zero_add, h.cellAt _ (by omega), h.cellAt _ (by omega), h.cellAt _ (by omega)]
    exact ⟨c1, c2, c3⟩
theorem ownT_len {w : World} {base : Nat} {e : TypeId} {v : Value} {l m : List Tk} (h : w.ownsRow base e 3 v (l.length + m.length) (cellsT l ++ cellsT m)) : w.ownsRow base e 3 v (l ++ m).length (cellsT (l ++ m)) := by
  rw [cellsT_append, List.length_append]; exact h
theorem ownT_snoc {w : World} {base : Nat} {e : TypeId} {v : Value} {l : List Tk} {k a : Int} {s : ByteArray} (h : w.ownsRow base e 3 v (l.length + 1) (cellsT l ++ [.int .i64 k, .int .i64 a, .string s])) : w.ownsRow base e 3 v (l ++ [(k, a, s.data.toList)]).length (cellsT (l ++ [(k, a, s.data.toList)])) := by
  refine ownT_len (m := [(k, a, s.data.toList)]) ?_
  have e : cellsT [(k, a, s.data.toList)] = [.int .i64 k, .int .i64 a, .string s] := by unfold cellsT; simp [bs_list]
  rw [e]; exact h
theorem oneT_src (w : World) (k a : Int) (s : ByteArray) (t : TypeId) : SrcAt (w.alloc (.cells #[.int .i64 k, .int .i64 a, .string s] t)) (.slice (some ⟨w.heap.size, 0, none⟩) 1 1) 1 [.int .i64 k, .int .i64 a, .string s] := by
  refine .inr ⟨_, _, rfl, fun j u hu => ?_⟩
  match j, hu with
  | 0, hu => simp at hu; subst hu; simp [Addr.add]
  | 1, hu => simp at hu; subst hu; simp [Addr.add]
  | 2, hu => simp at hu; subst hu; simp [Addr.add]
theorem oneT_cell {k a : Int} {s : ByteArray} : ∀ u ∈ [Value.int .i64 k, .int .i64 a, .string s], u.oneCell' = true := by
  intro u hu; simp at hu; rcases hu with rfl | rfl | rfl <;> rfl
theorem cut_str (s : ByteArray) (a n : Nat) (h : a + n ≤ s.size) (wx : World) : (Instr.slice 9 (.string s) (some (.int .i64 (a : Int))) (some (.int .i64 ((a : Int) + (n : Int)))) none).run Try.prog wx = .ok (.string (s.extract a (a + n))) wx := by
  rw [run_slice_string _ _ _ _ _ _ _ Try.underlying9 (by omega) (by omega) (by omega)]
  rw [show ((a : Int) + (n : Int)).toNat = a + n by omega, Int.toNat_natCast]
theorem drop_at (s : ByteArray) (k : Nat) (h : k < s.size) : s.data.toList.drop k = (s[k]'h) :: s.data.toList.drop (k + 1) := by
  have h' : k < s.data.toList.length := by simpa using h
  rw [List.drop_eq_getElem_cons h']; rfl
/-- what lex.All tells -/
def AllOut (s : ByteArray) (ts : List Tk) (e : Option Nat) (w : World) (en : Ending) (w' : World) : Prop :=
  Kp w w' ∧ ((2000 < s.size ∧ en = .returned (.tuple #[.slice none 0 0, .int .i64 2000, .int .i64 7])) ∨
    (s.size ≤ 2000 ∧ ∃ q, e = some q ∧ en = .returned (.tuple #[.slice none 0 0, .int .i64 (q : Nat), .int .i64 1])) ∨
    (s.size ≤ 2000 ∧ e = none ∧ ∃ v, en = .returned (.tuple #[v, .int .i64 (s.size : Nat), .int .i64 0]) ∧ w'.ownsRow w.heap.size 55 3 v (ts ++ [(9, (s.size : Int), [])]).length (cellsT (ts ++ [(9, (s.size : Int), [])]))))
set_option maxHeartbeats 8000000 in
set_option maxRecDepth 100000 in
theorem lall_any (s : ByteArray) (ts : List Tk) (e : Option Nat) (w : World) (hs : s.size ≤ maxLen) (hx : Lx s.data.toList 0 ts e) :
    Calls Try.prog 54 #[.string s] w (AllOut s ts e w) := by
  obtain ⟨i0, hi, hz0, hz1, hz2⟩ := info_parts infoT
  have HL : s.data.toList.length = s.size := by simp
  have hs' : s.size ≤ 9223372036854775807 := by unfold maxLen at hs; omega
  by_cases h2000 : 2000 < s.size
  · have q : decide ((2000 : Int) < s.size) = true := decide_eq_true (by omega)
    clear hx
    go_enter Try.func54, Try.ntmps54
    go_wp2
    go_ret3
    exact ⟨Kp.refl _, .inl ⟨h2000, rfl⟩⟩
  · have q : decide ((2000 : Int) < s.size) = false := decide_eq_false (by omega)
    have hs2 : s.size ≤ 2000 := by omega
    have HX := Lib.hid hx
    have CS := Lib.hid signs_any
    clear hx hs h2000
    go_enter Try.func54, Try.ntmps54
    go_wp2_with fail
    refine (CS.out _).mono ?_
    rintro en w1 ⟨m, rfl, hm, hm2, kk⟩
    have K1 := Lib.hid kk
    have HM := Lib.hid hm
    clear kk hm CS
    go_wp2
    go_loopw [5, 7] (fun u5 u7 wr => ∃ (k : Nat) (acc rest : List Tk), k ≤ s.size ∧ u7 = .int .i64 k ∧ Hid (Lx (s.data.toList.drop k) k rest e) ∧ Hid (acc ++ rest = ts) ∧ acc.length ≤ k ∧
      Hid (wr.ownsRow w1.heap.size 55 3 u5 acc.length (cellsT acc)) ∧ Hid (Kp w1 wr)) (fun _ u7 _ => s.size - (intOf u7).toNat)
    case atStart => exact ⟨0, [], ts, Nat.zero_le _, rfl, HX, Lib.hid rfl, Nat.le_refl _, Lib.hid (World.ownsRow_nil _ _ _ _), Lib.hid (Kp.refl _)⟩
    case round =>
      clear HX
      obtain ⟨k, acc, rest, hk, rfl, HX, HA, hl, O, K2⟩ := hrel
      by_cases hlt : k < s.size
      · have z0 : (0 : Int) ≤ (k : Int) := by omega
        have z1 : (k : Int) < (s.size : Int) := by omega
        have hx := HX.out
        rw [drop_at s k hlt] at hx
        by_cases h32 : (s[k]'hlt) = 32
        · have eb : (s[k]'hlt).toNat = 32 := by rw [h32]; rfl
          rw [h32] at hx
          have HX2 := Lib.hid (lx_blank hx)
          clear HX hx h32
          go_wp2
          refine ⟨⟨k + 1, acc, rest, by omega, by go_num, HX2, HA, by omega, O, K2⟩, by simp only [intOf]; omega⟩
        · obtain ⟨b, eb⟩ : ∃ b : Nat, (s[k]'hlt).toNat = b := ⟨_, rfl⟩
          have hb0 : b ≠ 32 := fun h => h32 (UInt8.toNat_inj.1 (by rw [eb, h]; rfl))
          have hb : ((b : Int) == 32) = false := by simp; omega
          have E1 := Lib.hid (show (s.extract k s.size).data.toList = s.data.toList.drop k by rw [ex_list]; exact List.take_of_length_le (by simp))
          have EX := Lib.hid (fun n => show (s.extract k (k + n)).data.toList = (s.data.toList.drop k).take n by rw [ex_list]; congr 1; omega)
          have W1 := wl_le (s.data.toList.drop k)
          have S1 := sl_le (s.data.toList.drop k)
          rw [List.length_drop, HL] at W1 S1
          have C1 := Lib.hid (wlen_any (s.extract k s.size))
          have C2 := Lib.hid (fun (wx : World) (h : SM wx m 8 signsD) => slen_any (s.extract k s.size) m wx (by rw [ByteArray.size_extract]; unfold maxLen; omega) h)
          rw [E1.out] at C1 C2
          have TK := Lib.hid (show tok (s.data.toList.drop k) = if 0 < wl (s.data.toList.drop k) then some (0, wl (s.data.toList.drop k), (s.data.toList.drop k).take (wl (s.data.toList.drop k))) else if sl (s.data.toList.drop k) = 0 then none else some (sgn ((s.data.toList.drop k).take (sl (s.data.toList.drop k))), sl (s.data.toList.drop k), []) from rfl)
          have STEP := Lib.hid (fun kd n x (h : tok (s.data.toList.drop k) = some (kd, n, x)) => (show ∃ r, rest = (kd, (k : Int), x) :: r ∧ Lx (s.data.toList.drop (k + n)) (k + n) r e by
            have h2 := h
            rw [drop_at s k hlt] at h2
            obtain ⟨r, e1, e2⟩ := lx_step hx h32 h2
            refine ⟨r, e1, ?_⟩
            rw [← drop_at s k hlt, List.drop_drop] at e2
            exact e2))
          have BAD := Lib.hid (fun (h : tok (s.data.toList.drop k) = none) => (show e = some k by
            rw [drop_at s k hlt] at h
            exact (lx_bad hx h32 h).2))
          have hsz := K2.out.size
          have hsE : (s.extract k s.size).size ≤ 9223372036854775807 := by rw [ByteArray.size_extract]; omega
          have HMK := Lib.hid (HM.out.kp K2.out)
          have TKS := Lib.hid (fun n => Go.WideMaps.keyOf_string_mk Try.underlying9 (s := s.extract k (k + n)) (by rw [ByteArray.size_extract]; unfold maxLen; omega))
          generalize wl (s.data.toList.drop k) = n at *
          generalize sl (s.data.toList.drop k) = n2 at *
          generalize s.data.toList.drop k = L at *
          clear hx h32 HX
          by_cases hn : n = 0
          · subst hn
            by_cases hn2 : n2 = 0
            · subst hn2
              have B := Lib.hid (BAD.out (by rw [TK.out, if_neg (by omega), if_pos rfl]))
              go_wp2_with fail
              refine (C1.out _ hsE).mono ?_
              rintro en w' ⟨rfl, rfl⟩
              go_wp2_with fail
              refine (C2.out _ HMK.out).mono ?_
              rintro en w' ⟨rfl, rfl⟩
              go_wp2
              go_ret3
              exact ⟨K1.out.trans K2.out, .inr (.inl ⟨hs2, k, B.out, rfl⟩)⟩
            · obtain ⟨r, er, B⟩ := STEP.out _ _ _ (by rw [TK.out, if_neg (by omega), if_neg hn2])
              subst er
              have B2 := Lib.hid B
              have q2 : ((n2 : Int) == 0) = false := by simp; omega
              have n0 : (0 : Int) ≤ n2 := by omega
              have n1 : (k : Int) + n2 ≤ s.size := by omega
              have hcut := cut_str s k n2 (by omega)
              clear B TK STEP BAD
              go_wp2_with fail
              refine (C1.out _ hsE).mono ?_
              rintro en w' ⟨rfl, rfl⟩
              go_wp2_with fail
              refine (C2.out _ HMK.out).mono ?_
              rintro en w' ⟨rfl, rfl⟩
              have ek := EX.out n2
              go_wp2_with (first
                | (at_lookup; refine wpList_lookup_own_int _ rfl _ _ 67 rfl 9 3 .i64 keyS Try.underlying67 Try.underlying3 (Try.zeroValue3 _) m 8 signsD rfl HMK.out _ _ rfl (TKS.out n2) ?_; intro c hat hwc; rw [signsD_at, EX.out n2] at hat; have hc := Lib.hid (show c = sgn (L.take n2) by simpa using hat.symm); clear hat hwc)
                | (at_builtin; refine wpList_app rfl (.tmp 51) (.tmp 62) 46 rfl w1.heap.size 55 i0 (.agg #[.int .i64 0, .int .i64 0, .string { data := #[] }]) 3 32 Try.underlying46 hi hz0 hz1 hz2 rfl (by decide) _ _ _ rfl (O.out.alloc _) _ _ _ rfl (oneT_src _ _ _ _ _) rfl oneT_cell (by unfold maxLen; omega) (by omega) (by simp; omega) ?_; intro v4 w4 hown4 hgrow4 hat4))
              refine ⟨⟨k + n2, acc ++ [(c, (k : Int), [])], r, by omega, by go_num, B2, Lib.hid (by rw [List.append_assoc, hc.out]; exact HA.out), by simp; omega, Lib.hid (by have h := ownT_snoc hown4; exact h), Lib.hid (Kp.grown (K2.out.trans (Kp.alloc _ _)) hgrow4 (fun j hj => (O.out.lt j hj).1))⟩, by simp only [intOf]; omega⟩
          · obtain ⟨r, er, B⟩ := STEP.out _ _ _ (by rw [TK.out, if_pos (by omega)])
            subst er
            have B2 := Lib.hid B
            have q2 : decide ((0 : Int) < n) = true := by simp; omega
            have n0 : (0 : Int) ≤ n := by omega
            have n1 : (k : Int) + n ≤ s.size := by omega
            have hcut := cut_str s k n (by omega)
            clear B TK STEP BAD
            go_wp2_with fail
            refine (C1.out _ hsE).mono ?_
            rintro en w' ⟨rfl, rfl⟩
            go_wp2_with (at_builtin; refine wpList_app rfl (.tmp 29) (.tmp 38) 46 rfl w1.heap.size 55 i0 (.agg #[.int .i64 0, .int .i64 0, .string { data := #[] }]) 3 32 Try.underlying46 hi hz0 hz1 hz2 rfl (by decide) _ _ _ rfl (O.out.alloc _) _ _ _ rfl (oneT_src _ _ _ _ _) rfl oneT_cell (by unfold maxLen; omega) (by omega) (by simp; omega) ?_; intro v4 w4 hown4 hgrow4 hat4)
            refine ⟨⟨k + n, acc ++ [(0, (k : Int), L.take n)], r, by omega, by go_num, B2, Lib.hid (by rw [List.append_assoc]; exact HA.out), by simp; omega, Lib.hid (by have h := ownT_snoc hown4; rw [EX.out n] at h; exact h), Lib.hid (Kp.grown (K2.out.trans (Kp.alloc _ _)) hgrow4 (fun j hj => (O.out.lt j hj).1))⟩, by simp only [intOf]; omega⟩
      · obtain rfl : k = s.size := by omega
        have qk : decide ((s.size : Int) < s.size) = false := by simp
        have hx := HX.out
        rw [List.drop_of_length_le (by omega)] at hx
        obtain ⟨rfl, he⟩ := lx_nil hx
        rw [List.append_nil] at HA
        have HE := Lib.hid he
        have hsz := K2.out.size
        clear hx HX he
        go_wp2_with (at_builtin; refine wpList_app rfl (.tmp 67) (.tmp 71) 46 rfl w1.heap.size 55 i0 (.agg #[.int .i64 0, .int .i64 0, .string { data := #[] }]) 3 32 Try.underlying46 hi hz0 hz1 hz2 rfl (by decide) _ _ _ rfl (O.out.alloc _) _ _ _ rfl (oneT_src _ _ _ _ _) rfl oneT_cell (by unfold maxLen; omega) (by omega) (by simp; omega) ?_; intro v4 w4 hown4 hgrow4 hat4)
        go_ret3
        refine ⟨K1.out.trans (Kp.grown (K2.out.trans (Kp.alloc _ _)) hgrow4 (fun j hj => (O.out.lt j hj).1)), .inr (.inr ⟨hs2, HE.out, _, rfl, ?_⟩)⟩
        have h := ownT_snoc hown4
        rw [HA.out] at h
        exact own_mono h K1.out.size
end Go.Proofs.Ytgaadakhkjfbnaa
