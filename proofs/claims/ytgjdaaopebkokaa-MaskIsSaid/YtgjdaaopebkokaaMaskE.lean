/-
  Contracts of package mask: Only, Meet.
-/
import Derived.Test.YtgjdaaopebkokaaMaskD
import Derived.Deep.DeepMust
import Derived.Laws.BytesArg
namespace Go.Proofs.Ytgjdaaopebkokaa
open Go.RowKit Go.Lib
set_option linter.unusedVariables false
def onlyB (s : ByteArray) : Bool := countM s == 1
def onlyV (s : ByteArray) : Int := if onlyB s then (at_ (setM s) 0).1 else 0
theorem count_sane {s : ByteArray} (h : onlyB s = true) : saneM s = true := by
  unfold onlyB countM at h
  rcases Bool.eq_false_or_eq_true (saneM s) with g | g
  · exact g
  · rw [g] at h; simp at h
theorem setM_ne {s : ByteArray} (h : saneM s = true) : setM s ≠ [] := by
  unfold setM
  rw [if_pos h]
  exact (setK_ok s (mk_of h).ok s.size (Nat.le_refl _)).2.2
set_option maxHeartbeats 1000000 in
theorem monly_any (s : ByteArray) (w : World) :
    Calls Try.prog 16 #[.string s] w fun e w' => e = .returned (.tuple #[.int .i64 (onlyV s), .bool (onlyB s)]) ∧ Kp w w' := by
  have C1 := Lib.hid (fun w => mcount_any s w)
  have C2 := Lib.hid (fun w => mset_any s w)
  rcases Bool.eq_false_or_eq_true (onlyB s) with h | h
  · have hne := setM_ne (count_sane h)
    rw [show onlyV s = (at_ (setM s) 0).1 by unfold onlyV; rw [h]; rfl, h]
    have g : (countM s != 1) = false := by unfold onlyB at h; simp at h ⊢; exact h
    have HN := Lib.hid hne
    generalize setM s = l at *
    generalize countM s = c at *
    clear h hne
    go_enter Try.func16, Try.ntmps16
    go_wp2_with fail
    refine (C1.out _).mono ?_
    rintro e w1 ⟨rfl, k1⟩
    have K1 := Lib.hid k1
    clear k1
    go_wp2_with fail
    refine (C2.out _).mono ?_
    rintro e w2 ⟨v, rfl, own, k2⟩
    have K2 := Lib.hid (K1.out.trans k2)
    rcases runsAt_own own with ⟨_, e⟩ | ⟨b, off, cap, rfl, hc, hm, hx⟩
    · exact absurd e HN.out
    have hl : 0 < l.length := by
      rcases Nat.eq_zero_or_pos l.length with e | e
      · exact absurd (List.length_eq_zero_iff.1 e) HN.out
      · exact e
    obtain ⟨c1, c2⟩ := hx 0 hl
    have HX := Lib.hid hx
    clear hx own k2
    have hl2 : (0 : Int) < l.length := by omega
    simp only [Nat.zero_mul, Nat.add_zero] at c1
    go_wp2
    go_ret2
    exact ⟨rfl, K2.out⟩
  · rw [show onlyV s = 0 by unfold onlyV; rw [h]; rfl, h]
    have g : (countM s != 1) = true := by unfold onlyB at h; simp at h ⊢; exact h
    generalize countM s = c at *
    clear h
    go_enter Try.func16, Try.ntmps16
    go_wp2_with fail
    refine (C1.out _).mono ?_
    rintro e w1 ⟨rfl, k1⟩
    have K1 := Lib.hid k1
    clear k1
    go_wp2
    go_ret2
    exact ⟨rfl, K1.out⟩
/-- the mask of both: a sign -/
def meC (a b : ByteArray) (i : Nat) : Nat := if bt a i = 88 then bt b i else bt a i
def meL (a b : ByteArray) : Nat → List Int
  | 0 => []
  | k + 1 => meL a b k ++ [(meC a b k : Int)]
def clB (a b : ByteArray) (i : Nat) : Bool := (bt a i != 88) && (bt b i != 88) && (bt a i != bt b i)
def noCl (a b : ByteArray) : Nat → Bool
  | 0 => true
  | k + 1 => noCl a b k && !clB a b k
def meetB (a b : ByteArray) : Bool := saneM a && saneM b && (a.size == b.size) && noCl a b a.size
def meetS (a b : ByteArray) : ByteArray := if meetB a b then strOfNums (meL a b a.size) else ByteArray.empty
theorem meL_len (a b : ByteArray) (k : Nat) : (meL a b k).length = k := by
  induction k with
  | zero => rfl
  | succ k ih => rw [meL, List.length_append, ih]; rfl
theorem noCl_no {a b : ByteArray} {k i : Nat} (hi : i < k) (h : clB a b i = true) : noCl a b k = false := by
  induction k with
  | zero => omega
  | succ k ih =>
    rw [noCl]
    by_cases e : i = k
    · subst e; rw [h]; simp
    · rw [ih (by omega), Bool.false_and]
def cells8 (l : List Int) : List Value := l.map (Value.int .u8)
theorem info8 : (Try.prog.info? 5).map (fun i => (i.zero, i.size, i.bytes)) = some (some (.int .u8 0), 1, 1) := by kernel_rfl
theorem cell_one_a (w : World) (a : Value) (t : TypeId) : ∀ j u, [a][j]? = some u → (w.alloc (.cells #[a] t)).cell? ((⟨w.heap.size, 0, none⟩ : Addr).add j) = some u := by
  intro j u hu
  rcases j with _ | j
  · simp at hu; subst hu; simp [Addr.add]
  · simp at hu
theorem grown_iter {wr w1 : World} {base : Nat} {e : TypeId} {size : Nat} {v : Value} {n : Nat} {xs : List Value} {o1 : Obj} {I p : Nat} {s : ByteArray} (g : (wr.alloc o1).grownBy w1 v.ownBlock) (hI : wr.heap[I]? = some (.stringIter s p)) (hown : wr.ownsRow base e size v n xs) : w1.heap[I]? = some (.stringIter s p) := by
  have hB := (Array.getElem?_eq_some_iff.1 hI).1
  have e : w1.heap[I]? = (wr.alloc o1).heap[I]? := g.block I (by simp; omega) (fun c => by
    rcases hown.2 with ⟨rfl, _⟩ | ⟨gg, cap, cur, rfl, _, hg, _⟩
    · cases c
    · have e2 : I = gg := Option.some.inj c
      rw [← e2, hI] at hg
      cases hg)
  rw [e, Below.heap_alloc _ _ _ hB, hI]
theorem own_bytes {w : World} {base : Nat} {e : TypeId} {v : Value} {l : List Int} (h : w.ownsRow base e 1 v l.length (cells8 l)) (hn : l ≠ []) : ∃ g cap, v = .slice (some ⟨g, 0, none⟩) l.length cap ∧ ∀ i, i < l.length → w.cell? ⟨g, 0 + i, none⟩ = some (.int .u8 (l.getD i 0)) := by
  rcases h.2 with ⟨_, h0⟩ | ⟨g, cp, cur, rfl, h2, h3, h4, h5, h6, h7⟩
  · exact absurd (List.length_eq_zero_iff.1 h0) hn
  · refine ⟨g, cp, rfl, fun i hi => ?_⟩
    rw [Nat.zero_add, h.cellAt _ (by omega)]
    unfold cells8
    rw [List.getElem?_map, List.getD_eq_getElem?_getD, List.getElem?_eq_getElem hi]
    rfl
theorem Kp.of_grown {w w' : World} {row : Option Nat} (g : w.grownBy w' row) (h : row = none := by rfl) : Kp w w' :=
  (Below.refl _ _).grown g (Nat.le_refl _) (fun k hk => by rw [h] at hk; cases hk)
set_option maxHeartbeats 4000000 in
set_option maxRecDepth 100000 in
theorem meet_yes (a b : ByteArray) (w : World) (ha : saneM a = true) (hb : saneM b = true) (hl : a.size = b.size) :
    Calls Try.prog 14 #[.string a, .string b] w fun e w' => e = .returned (.tuple #[.string (meetS a b), .bool (meetB a b)]) ∧ Kp w w' := by
  obtain ⟨i0, hi, hz0, hz1, hz2⟩ := info_parts info8
  have C1 := Lib.hid (fun w => msane_any a w)
  have C2 := Lib.hid (fun w => msane_any b w)
  rw [ha] at C1
  rw [hb] at C2
  have M := mk_of ha
  have M' := mk_of hb
  obtain ⟨m1, m2, m3⟩ := M
  have MA := Lib.hid m3
  have MB := Lib.hid M'.ok
  have MB2 := Lib.hid (show meetB a b = noCl a b a.size by unfold meetB; rw [ha, hb, hl]; simp)
  have HL := Lib.hid hl
  have d0 : ((a.size : Int) != (b.size : Int)) = false := by rw [hl]; simp
  clear m3 M' ha hb hl
  go_enter Try.func14, Try.ntmps14
  go_wp2_with fail
  refine (C1.out _).mono ?_
  rintro e w1 ⟨rfl, k1⟩
  have K1 := Lib.hid k1
  clear k1
  go_wp2_with fail
  refine (C2.out _).mono ?_
  rintro e w2 ⟨rfl, k1⟩
  have K2 := Lib.hid (K1.out.trans k1)
  have hsz := K2.out.size
  clear k1
  go_wp2_with (at_make; refine wpList_make_own _ rfl _ _ 37 rfl w.heap.size 5 i0 (.int .u8 0) 1 Try.underlying37 hi hz0 hz1 .i64 .i64 4 4 rfl rfl rfl (by rw [hz2]; omega) (by unfold maxLen; omega) hsz ?_; intro w0 hown0 hgrow0)
  have I0 := Lib.hid (World.iter_heap w0 a 0)
  have kw0 : Kp w w0 := K2.out.trans (Kp.of_grown hgrow0)
  have K3 := Lib.hid kw0
  have hsz3 := kw0.size
  clear kw0
  go_wp2
  go_loopw [6] (fun v wr => ∃ pos : Nat, pos ≤ a.size ∧ wr.heap[w0.heap.size]? = some (.stringIter a pos) ∧ wr.ownsRow w.heap.size 5 1 v (meL a b pos).length (cells8 (meL a b pos)) ∧ noCl a b pos = true ∧ Kp w wr) (fun _ wr => a.size - wr.iterPos w0.heap.size)
  case atStart => exact ⟨0, by omega, I0.out, hown0.alloc _, rfl, K3.out.trans (Kp.iter _ _ _)⟩
  case round =>
    obtain ⟨pos, hp, hI, hown, hnc, k2⟩ := hrel
    have K4 := Lib.hid k2
    have hsz2 := k2.size
    have NC := Lib.hid hnc
    clear k2 hnc hown0 hgrow0
    by_cases hlt : pos < a.size
    · have hlt2 : pos < b.size := by rw [← HL.out]; exact hlt
      have m4 := MA.out pos hlt
      have m5 := MB.out pos hlt2
      have SL := Lib.hid (show meL a b (pos + 1) = meL a b pos ++ [(meC a b pos : Int)] from rfl)
      have SC := Lib.hid (show noCl a b (pos + 1) = (noCl a b pos && !clB a b pos) from rfl)
      have SN := Lib.hid (fun h => noCl_no (a := a) (b := b) hlt h)
      have CD : clB a b pos = ((bt a pos != 88) && (bt b pos != 88) && (bt a pos != bt b pos)) := rfl
      have MD : meC a b pos = if bt a pos = 88 then bt b pos else bt a pos := rfl
      obtain ⟨x, ex⟩ : ∃ x, bt a pos = x := ⟨_, rfl⟩
      obtain ⟨y, ey⟩ : ∃ y, bt b pos = y := ⟨_, rfl⟩
      have hby := bt_at b pos hlt2
      rw [ey] at hby
      rw [ex] at m4
      rw [ey] at m5
      rw [ex, ey] at CD MD
      have hnx := next_in (P := Try.prog) wr w0.heap.size a pos x hI hlt ex (by omega)
      have ip := Lib.hid (iterPos_of hI)
      have hI1 := Lib.hid (iterAt_heap wr w0.heap.size a pos (pos + 1) hI)
      have own1 := own_iterAt hown hI (pos + 1)
      have K5 := Lib.hid (below_iterAt (B := w.heap.size) K4.out (by omega : w.heap.size ≤ w0.heap.size) a (pos + 1))
      have ll := meL_len a b pos
      have hzz : (0 : Int) ≤ (pos : Int) := by omega
      have hzz2 : (pos : Int) < b.size := by omega
      clear ex ey hI hown
      generalize wr.iterAt w0.heap.size a (pos + 1) = W1 at hnx hI1 own1 K5
      have O1 := Lib.hid own1
      clear own1
      by_cases hx : x = 88
      · have gx : ((x : Int) == 88) = true := by simp; omega
        have MC : Hid (meC a b pos = y) := by unfold Hid; rw [MD, if_pos hx]
        have CC : Hid (clB a b pos = false) := by unfold Hid; rw [CD]; simp [hx]
        clear MD CD hx
        have gy : ((y : Int) != 88) = true ∨ ((y : Int) != 88) = false := by rcases Bool.eq_false_or_eq_true ((y : Int) != 88) with h | h <;> simp [h]
        rcases gy with gy | gy
        · go_wp2_with (at_builtin; go_must (refine wpList_append_own _ rfl (.tmp 46) (.tmp 49) 37 rfl w.heap.size 5 i0 (.int .u8 0) 1 1 Try.underlying37 hi hz0 hz1 hz2 rfl (by decide) _ _ _ rfl (O1.out.alloc _) ⟨_, 0, none⟩ 1 1 [.int .u8 (y : Nat)] rfl rfl (cell_one_a _ _ _) (by intro u hu; simp at hu; subst hu; rfl) (by unfold maxLen; omega) (by omega) (by have := K5.out.size; simp; omega) ?_); intro v1 w4 hown1 hgrow1 hnil1); refine ⟨⟨pos + 1, by omega, grown_iter hgrow1 hI1.out O1.out, ?_, by rw [SC.out, NC.out, CC.out]; rfl, kp_grown1 K5.out hgrow1 (fun j hj => (O1.out.lt j hj).1)⟩, by rw [ip.out, iterPos_of (grown_iter hgrow1 hI1.out O1.out)]; omega⟩; rw [SL.out, MC.out, List.length_append]; unfold cells8 at hown1 ⊢; rw [List.map_append]; exact hown1
        · go_wp2_with (at_builtin; go_must (refine wpList_append_own _ rfl (.tmp 46) (.tmp 49) 37 rfl w.heap.size 5 i0 (.int .u8 0) 1 1 Try.underlying37 hi hz0 hz1 hz2 rfl (by decide) _ _ _ rfl (O1.out.alloc _) ⟨_, 0, none⟩ 1 1 [.int .u8 (y : Nat)] rfl rfl (cell_one_a _ _ _) (by intro u hu; simp at hu; subst hu; rfl) (by unfold maxLen; omega) (by omega) (by have := K5.out.size; simp; omega) ?_); intro v1 w4 hown1 hgrow1 hnil1); refine ⟨⟨pos + 1, by omega, grown_iter hgrow1 hI1.out O1.out, ?_, by rw [SC.out, NC.out, CC.out]; rfl, kp_grown1 K5.out hgrow1 (fun j hj => (O1.out.lt j hj).1)⟩, by rw [ip.out, iterPos_of (grown_iter hgrow1 hI1.out O1.out)]; omega⟩; rw [SL.out, MC.out, List.length_append]; unfold cells8 at hown1 ⊢; rw [List.map_append]; exact hown1
      · have gx : ((x : Int) == 88) = false := by simp; omega
        have MC : Hid (meC a b pos = x) := by unfold Hid; rw [MD, if_neg hx]
        by_cases hy : y = 88
        · have gy : ((y : Int) != 88) = false := by simp; omega
          have CC : Hid (clB a b pos = false) := by unfold Hid; rw [CD]; simp [hy]
          clear MD CD hx hy
          go_wp2_with (at_builtin; go_must (refine wpList_append_own _ rfl (.tmp 46) (.tmp 49) 37 rfl w.heap.size 5 i0 (.int .u8 0) 1 1 Try.underlying37 hi hz0 hz1 hz2 rfl (by decide) _ _ _ rfl (O1.out.alloc _) ⟨_, 0, none⟩ 1 1 [.int .u8 (x : Nat)] rfl rfl (cell_one_a _ _ _) (by intro u hu; simp at hu; subst hu; rfl) (by unfold maxLen; omega) (by omega) (by have := K5.out.size; simp; omega) ?_); intro v1 w4 hown1 hgrow1 hnil1); refine ⟨⟨pos + 1, by omega, grown_iter hgrow1 hI1.out O1.out, ?_, by rw [SC.out, NC.out, CC.out]; rfl, kp_grown1 K5.out hgrow1 (fun j hj => (O1.out.lt j hj).1)⟩, by rw [ip.out, iterPos_of (grown_iter hgrow1 hI1.out O1.out)]; omega⟩; rw [SL.out, MC.out, List.length_append]; unfold cells8 at hown1 ⊢; rw [List.map_append]; exact hown1
        · have gy : ((y : Int) != 88) = true := by simp; omega
          by_cases hxy : y = x
          · have gz : ((y : Int) != (x : Int)) = false := by simp; omega
            have CC : Hid (clB a b pos = false) := by unfold Hid; rw [CD]; simp [hxy]
            clear MD CD hx hy hxy
            go_wp2_with (at_builtin; go_must (refine wpList_append_own _ rfl (.tmp 46) (.tmp 49) 37 rfl w.heap.size 5 i0 (.int .u8 0) 1 1 Try.underlying37 hi hz0 hz1 hz2 rfl (by decide) _ _ _ rfl (O1.out.alloc _) ⟨_, 0, none⟩ 1 1 [.int .u8 (x : Nat)] rfl rfl (cell_one_a _ _ _) (by intro u hu; simp at hu; subst hu; rfl) (by unfold maxLen; omega) (by omega) (by have := K5.out.size; simp; omega) ?_); intro v1 w4 hown1 hgrow1 hnil1); refine ⟨⟨pos + 1, by omega, grown_iter hgrow1 hI1.out O1.out, ?_, by rw [SC.out, NC.out, CC.out]; rfl, kp_grown1 K5.out hgrow1 (fun j hj => (O1.out.lt j hj).1)⟩, by rw [ip.out, iterPos_of (grown_iter hgrow1 hI1.out O1.out)]; omega⟩; rw [SL.out, MC.out, List.length_append]; unfold cells8 at hown1 ⊢; rw [List.map_append]; exact hown1
          · have gz : ((y : Int) != (x : Int)) = true := by simp; omega
            have CC : clB a b pos = true := by rw [CD]; simp [hx, hy]; omega
            have NO := Lib.hid (show meetB a b = false by rw [MB2.out]; exact SN.out CC)
            have NS := Lib.hid (show meetS a b = ByteArray.empty by unfold meetS; rw [NO.out]; rfl)
            clear MD CD hx hy hxy CC SN SC
            go_wp2
            go_ret2
            refine ⟨?_, K5.out⟩
            rw [NO.out, NS.out]
            rfl
    · obtain rfl : pos = a.size := by omega
      have hnx : ∀ ty, (Instr.next (.pointer (some ⟨w0.heap.size, 0, none⟩)) true ty).run Try.prog wr = _ := fun ty => run_next_end_at wr w0.heap.size a a.size ty hI hlt
      have YES := Lib.hid (show meetB a b = true by rw [MB2.out, NC.out])
      have YS := Lib.hid (show meetS a b = strOfNums (meL a b a.size) by unfold meetS; rw [YES.out]; rfl)
      have ne : meL a b a.size ≠ [] := by intro c; have := meL_len a b a.size; rw [c] at this; simp at this; omega
      obtain ⟨g, cap, rfl, hc⟩ := own_bytes hown ne
      have hcv := run_convert_bytes_arg (P := Try.prog) wr 37 5 Try.underlying37 Try.underlying5 g 0 (meL a b a.size).length cap (meL a b a.size) rfl hc 9 Try.underlying9
      have HH := Lib.hid hown
      clear hown hc hI ne
      generalize strOfNums (meL a b a.size) = r at *
      go_wp2
      go_ret2
      refine ⟨?_, K4.out⟩
      rw [YES.out, YS.out]
      rfl
theorem mmeet_any (a b : ByteArray) (w : World) (la : a.size ≤ maxLen) (lb : b.size ≤ maxLen) :
    Calls Try.prog 14 #[.string a, .string b] w fun e w' => e = .returned (.tuple #[.string (meetS a b), .bool (meetB a b)]) ∧ Kp w w' := by
  unfold maxLen at la lb
  have C1 := Lib.hid (fun w => msane_any a w)
  have C2 := Lib.hid (fun w => msane_any b w)
  rcases Bool.eq_false_or_eq_true (saneM a) with ha | ha
  · rcases Bool.eq_false_or_eq_true (saneM b) with hb | hb
    · by_cases hl : a.size = b.size
      · exact meet_yes a b w ha hb hl
      · have NO : meetB a b = false := by unfold meetB; rw [show (a.size == b.size) = false by simpa using hl]; simp
        have NS : meetS a b = ByteArray.empty := by unfold meetS; rw [NO]; rfl
        rw [NO, NS]
        rw [ha] at C1
        rw [hb] at C2
        have d0 : ((a.size : Int) != (b.size : Int)) = true := by simp; omega
        clear ha hb hl NO NS
        go_enter Try.func14, Try.ntmps14
        go_wp2_with fail; refine (C1.out _).mono ?_; rintro e w1 ⟨rfl, k1⟩; have K1 := Lib.hid (id k1); clear k1
        go_wp2_with fail; refine (C2.out _).mono ?_; rintro e w2 ⟨rfl, k1⟩; have K2 := Lib.hid (K1.out.trans k1); clear k1
        go_wp2
        go_ret2
        exact ⟨rfl, K2.out⟩
    · have NO : meetB a b = false := by unfold meetB; rw [hb]; simp
      have NS : meetS a b = ByteArray.empty := by unfold meetS; rw [NO]; rfl
      rw [NO, NS]
      rw [ha] at C1
      rw [hb] at C2
      clear ha hb NO NS
      go_enter Try.func14, Try.ntmps14
      go_wp2_with fail; refine (C1.out _).mono ?_; rintro e w1 ⟨rfl, k1⟩; have K1 := Lib.hid (id k1); clear k1
      go_wp2_with fail; refine (C2.out _).mono ?_; rintro e w2 ⟨rfl, k1⟩; have K2 := Lib.hid (K1.out.trans k1); clear k1
      go_wp2
      go_ret2
      exact ⟨rfl, K2.out⟩
  · have NO : meetB a b = false := by unfold meetB; rw [ha]; simp
    have NS : meetS a b = ByteArray.empty := by unfold meetS; rw [NO]; rfl
    rw [NO, NS]
    rw [ha] at C1
    clear ha NO NS
    go_enter Try.func14, Try.ntmps14
    go_wp2_with fail; refine (C1.out _).mono ?_; rintro e w1 ⟨rfl, k1⟩; have K1 := Lib.hid (id k1); clear k1
    go_wp2
    go_ret2
    exact ⟨rfl, K1.out⟩
end Go.Proofs.Ytgjdaaopebkokaa
