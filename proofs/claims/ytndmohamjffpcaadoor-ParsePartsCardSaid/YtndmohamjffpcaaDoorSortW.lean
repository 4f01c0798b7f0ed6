/-
  slices.SortFunc at runs, and the contract of runs.Make.
-/
import Derived.Test.YtndmohamjffpcaaDoorSortZ
import Derived.Test.YtndmohamjffpcaaDoorRow
import Derived.Test.YtndmohamjffpcaaDoorRunsD
namespace Go.Proofs.YtndmohamjffpcaaDoor
open Go.RowKit Go.Sort Go.Shelf
set_option linter.unusedVariables false
set_option linter.unusedSimpArgs false
theorem sortFunc_any {b off n : Nat} (cap : Nat) (d : Array R) (w : World) (h0 : HoldsK encR 2 w b off d) (hs : d.size = n) (hb : b < w.heap.size) (hsm : n ≤ 4294967295) :
    Calls Tryd.prog 76 #[.slice (some ⟨b, off, none⟩) n cap, fvR] w fun ex w' => ex = .returned (.tuple #[]) ∧ ∃ d', PermIn 0 n d d' ∧ SortedIn ltR 0 n d' ∧ SW w b off d' w' := by
  have R0 : RowR w b off n := ⟨hb, ⟨d, h0, hs⟩, by omega⟩
  have bl : bitsLen n ≤ 62 := (bitsLen_le_iff n 62).2 (by omega)
  obtain ⟨p1, p2⟩ := pdq_sorts ltR swoR d 0 n (bitsLen n) true true (Nat.zero_le _) (by omega) (Or.inl rfl)
  have CP := Lib.hid (pdq_any R0 cap hsm (n - 0 + 1) 0 n (bitsLen n) d w (by omega) hs (SWK.start h0) (Nat.zero_le _) (Nat.le_refl _) (by omega) (Or.inl rfl))
  have CB := Lib.hid (fun w => len_any n w (by omega) (by omega))
  rw [Int.toNat_natCast] at CB
  have P := Lib.hid (And.intro p1 p2)
  have wr : IntKind.u64.wrap (n : Int) = n := by rw [IntKind.wrap_u64]; omega
  generalize bitsLen n = k at *
  clear R0 p1 p2 h0
  unfold fvR at CP ⊢
  go_enter Tryd.func76, Tryd.ntmps76
  go_wp2_with (first | (go_at_call 80; refine (CB.out _).mono ?_; rintro e w' ⟨rfl, rfl⟩) | (go_at_call 79; refine (CP.out).mono ?_; rintro e w' ⟨rfl, h1⟩))
  go_end0
  exact ⟨rfl, _, P.out.1, P.out.2, h1⟩
theorem below_put {w : World} {b off m : Nat} {d : Array R} {os : Array Obj} {base : Nat} (hb : base ≤ b) (hw : base ≤ w.heap.size) : Go.RowKit.Below base w (sortWorldK encR 2 w b off m d os) := by
  refine ⟨rfl, rfl, rfl, ?_, fun k hk => ?_⟩
  · simp [sortWorldK, grow, putRowK, putRow, mapBlock, Sort.ahead]
  · simp only [sortWorldK, grow, putRowK, putRow, mapBlock, Sort.ahead]
    rw [Array.getElem?_append_left (by simp; omega), Array.getElem?_modify, if_neg (by omega)]
theorem SW.below {w W : World} {b off : Nat} {d : Array R} (h : SW w b off d W) {base : Nat} (hb : base ≤ b) (hw : base ≤ w.heap.size) : Go.RowKit.Below base w W := by
  obtain ⟨m, os, rfl⟩ := h
  exact below_put hb hw
theorem holds_row {w : World} {base g cap : Nat} {T : TypeId} {l : List R} (h : w.ownsRow base T 2 (.slice (some ⟨g, 0, none⟩) l.length cap) l.length (cellsR l)) : HoldsK encR 2 w g 0 l.toArray := by
  intro j hj
  rw [size_flatK] at hj
  simp only [List.size_toArray] at hj
  refine ⟨?_, by rw [Nat.zero_add]; exact h.frozenAt j⟩
  rw [Nat.zero_add, h.cellAt j hj, cells_idx l j hj, get_flatK _ _ _ _ (by simpa using hj)]
  have hj2 : j / 2 < l.length := by omega
  have e : l.toArray[j / 2]! = at_ l (j / 2) := by unfold at_; simp [List.getD, hj2]
  rw [e]
  have : j % 2 = 0 ∨ j % 2 = 1 := by omega
  rcases this with e2 | e2 <;> rw [e2] <;> rfl
theorem runsAt_holds {w : World} {g n cap : Nat} {d : Array R} (h : HoldsK encR 2 w g 0 d) (hs : d.size = n) (h1 : n ≤ cap) (h2 : cap ≤ maxLen) : RunsAt w (.slice (some ⟨g, 0, none⟩) n cap) d.toList := by
  refine .inr ⟨g, 0, cap, by rw [Array.length_toList, hs], by rw [Array.length_toList, hs]; exact h1, h2, fun i hi => ?_⟩
  have hi2 : i < d.size := by simpa using hi
  have e : at_ d.toList i = d[i]! := by unfold at_; simp [List.getD, hi2]
  rw [e]
  have a1 := HoldsK.cells h lenR hi2 0 _ rfl
  have a2 := HoldsK.cells h lenR hi2 1 _ rfl
  simp only [Addr.add_lit] at a1 a2
  exact ⟨by simpa using a1, by simpa using a2⟩
theorem sorted_nf {l : List R} {n : Nat} {d' : Array R} (hn : (wi l).length = n) (p : PermIn 0 n (wi l).toArray d') (s : SortedIn ltR 0 n d') : jn d'.toList = nf l ∧ ∀ r ∈ d'.toList, okR r := by
  have hs : d'.size = n := by rw [p.1]; simpa using hn
  have pm : d'.toList.Perm (wi l) := by
    have := p.2.2
    rw [Array.extract_eq_self_of_le (by omega), Array.extract_eq_self_of_le (by simp [hn])] at this
    simpa using this
  have ok : ∀ r ∈ d'.toList, okR r := fun r hr => wi_ok r (pm.mem_iff.1 hr)
  have rs : rises d'.toList := by
    unfold rises
    rw [List.pairwise_iff_getElem]
    intro i j hi hj hij
    have hi2 : i < d'.size := by simpa using hi
    have hj2 : j < d'.size := by simpa using hj
    have := s i j (Nat.zero_le _) hij (by omega)
    unfold ltR at this
    rw [decide_eq_false_iff_not, getElem!_pos d' i hi2, getElem!_pos d' j hj2] at this
    simp only [Array.getElem_toList]
    omega
  obtain ⟨a, b, _⟩ := jn_ok d'.toList ok rs
  refine ⟨(nf_eq a fun m => ?_).symm, ok⟩
  rw [b m, ← wi_mem l m]
  unfold memR
  exact ⟨fun ⟨r, hr, g⟩ => ⟨r, pm.mem_iff.1 hr, g⟩, fun ⟨r, hr, g⟩ => ⟨r, pm.mem_iff.2 hr, g⟩⟩
set_option maxHeartbeats 1000000 in
theorem make_any (v : Value) (l : List R) (w : World) (hv : RunsAt w v l) (hl : I64R l) (hn : l.length ≤ 1000000) :
    Calls Tryd.prog 72 #[v] w fun e w' => ∃ v' : Value, e = .returned v' ∧ w'.ownsRow w.heap.size 118 2 v' (nf l).length (cellsR (nf l)) ∧ Kp w w' := by
  have C1 := Lib.hid (within_any v l w hv hl hn)
  have len := wi_len l
  have C2 := Lib.hid (fun (u : Value) w1 (h : RunsAt w1 u (wi l)) => sane_any u (wi l) w1 h (ok_i64 wi_ok))
  have hmf : ∀ (fn : Fn) (first cap : Array Value) (w : World), (Instr.makeFunc fn first cap).run Tryd.prog w = .ok (.func fn first cap) w := fun _ _ _ _ => rfl
  rcases Bool.eq_false_or_eq_true (saneB (wi l)) with h | h
  · have E : nf l = wi l := nf_eq (by unfold saneB at h; exact of_decide_eq_true h) (wi_mem l)
    rw [E]
    rw [h] at C2
    clear h E hv
    go_enter Tryd.func72, Tryd.ntmps72
    go_wp2_with fail
    refine (C1.out).mono ?_
    rintro e w1 ⟨v1, rfl, own, k1⟩
    have O := Lib.hid own
    have K1 := Lib.hid k1
    have C3 := Lib.hid (C2.out v1 w1 (runsAt_own own))
    clear own k1 C1 C2
    go_wp2_with fail
    refine (C3.out).mono ?_
    rintro e w2 ⟨rfl, k2⟩
    have K2 := Lib.hid k2
    clear k2
    go_wp2
    go_ret
    exact ⟨_, rfl, own_kp O.out K2.out, K1.out.trans K2.out⟩
  · rw [h] at C2
    have ne : 0 < (wi l).length := by
      rcases Nat.eq_zero_or_pos (wi l).length with e | e
      · have := List.length_eq_zero_iff.1 e
        rw [this] at h
        exact absurd h (by decide)
      · exact e
    clear h hv
    go_enter Tryd.func72, Tryd.ntmps72
    go_wp2_with fail
    refine (C1.out).mono ?_
    rintro e w1 ⟨v1, rfl, own, k1⟩
    have C3 := Lib.hid (C2.out v1 w1 (runsAt_own own))
    obtain ⟨g, cp, rfl, gb, gl⟩ := World.ownsRow.form own ne
    have O := Lib.hid own
    have K1 := Lib.hid k1
    have s1 := k1.size
    clear own k1 C1 C2
    go_wp2_with fail
    refine (C3.out).mono ?_
    rintro e w2 ⟨rfl, k2⟩
    have s2 := k2.size
    have HH : HoldsK encR 2 (w2.alloc (.cells #[] 126)) g 0 (wi l).toArray := holds_row ((own_kp O.out k2).alloc _)
    have C4 := Lib.hid (sortFunc_any (n := (wi l).length) cp (wi l).toArray (w2.alloc (.cells #[] 126)) HH (by simp) (by simp; omega) (by omega))
    unfold fvR at C4
    have K2 := Lib.hid k2
    clear k2 HH
    go_wp2_with (go_at_call 76; refine (C4.out).mono ?_; rintro e w3 ⟨rfl, d', p, s, hW⟩)
    obtain ⟨E, ok⟩ := sorted_nf rfl p s
    have capb : (wi l).length ≤ cp ∧ cp ≤ maxLen := by
      rcases O.out.2 with ⟨e, _⟩ | ⟨g', cap', cur, e, _, _, h1, h2, _⟩
      · cases e
      · cases e; exact ⟨h1, h2⟩
    have hs' : d'.size = (wi l).length := by rw [p.1]; simp
    have HH : HoldsK encR 2 (w2.alloc (.cells #[] 126)) g 0 (wi l).toArray := holds_row ((own_kp O.out K2.out).alloc _)
    have HD : HoldsK encR 2 w3 g 0 d' := SWK.holds hW (by simp; omega) HH (by simp [hs'])
    have C5 := Lib.hid (joined_any (.slice (some ⟨g, 0, none⟩) (wi l).length cp) d'.toList w3 (runsAt_holds HD hs' capb.1 capb.2) ok (by rw [Array.length_toList, hs']; omega))
    rw [E] at C5
    have K3 := Lib.hid (SW.below hW gb (by simp; omega))
    have s3 := SWK.le hW
    simp only [World.size_alloc] at s3
    clear hW HD HH p s E ok capb hs' C4
    go_wp2_with (go_at_call 78; refine (C5.out).mono ?_; rintro e w4 ⟨v4, rfl, own4, k4⟩)
    go_ret
    refine ⟨v4, rfl, own_mono own4 (by omega), ?_⟩
    exact Below.trans (K1.out) (Below.trans (Below.trans (Below.mono K2.out s1) (Below.mono (Kp.alloc w2 _) (by omega))) (Below.trans K3.out (Below.mono k4 (by omega))))
end Go.Proofs.YtndmohamjffpcaaDoor
