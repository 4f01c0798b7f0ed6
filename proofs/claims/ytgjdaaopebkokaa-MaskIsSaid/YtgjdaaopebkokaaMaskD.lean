/-
  Contracts of package mask: Set, Only.
-/
import Derived.Test.YtgjdaaopebkokaaMaskC
import Derived.Lib.OthersKept
namespace Go.Proofs.Ytgjdaaopebkokaa
open Go.RowKit Go.Lib
set_option linter.unusedVariables false
theorem runsAt_own {w : World} {base : Nat} {e : TypeId} {v : Value} {l : List R} (h : w.ownsRow base e 2 v l.length (cellsR l)) : RunsAt w v l := by
  rcases h.2 with ⟨e1, h0⟩ | ⟨g, cp, cur, rfl, h2, h3, h4, h5, h6, h7⟩
  · exact .inl ⟨e1, List.length_eq_zero_iff.1 h0⟩
  · refine .inr ⟨g, 0, cp, rfl, h4, h5, fun i hi => ?_⟩
    have c : ∀ (m : List R) (k : Nat), k < m.length → (cellsR m)[k * 2]? = some (.int .i64 (at_ m k).1) ∧ (cellsR m)[k * 2 + 1]? = some (.int .i64 (at_ m k).2) := by
      intro m
      induction m with
      | nil => intro k hk; simp at hk
      | cons r t ih =>
        intro k hk
        have e : cellsR (r :: t) = [.int .i64 r.1, .int .i64 r.2] ++ cellsR t := by unfold cellsR; simp
        cases k with
        | zero => rw [e]; exact ⟨rfl, rfl⟩
        | succ k =>
          have g := ih k (by simpa using hk)
          rw [e, List.getElem?_append_right (by simp; omega), List.getElem?_append_right (by simp; omega)]
          rw [show (k + 1) * 2 - [Value.int .i64 r.1, Value.int .i64 r.2].length = k * 2 by simp; omega, show (k + 1) * 2 + 1 - [Value.int .i64 r.1, Value.int .i64 r.2].length = k * 2 + 1 by simp; omega]
          exact g
    obtain ⟨c1, c2⟩ := c l i hi
    rw [Nat.zero_add, h.cellAt _ (by omega), h.cellAt _ (by omega)]
    exact ⟨c1, c2⟩
theorem own_mono {w : World} {base base' : Nat} {e : TypeId} {size : Nat} {v : Value} {n : Nat} {xs : List Value} (h : w.ownsRow base e size v n xs) (hb : base' ≤ base) : w.ownsRow base' e size v n xs :=
  ⟨h.1, h.2.imp id fun ⟨g, cap, cur, e1, h1, r⟩ => ⟨g, cap, cur, e1, Nat.le_trans hb h1, r⟩⟩
theorem own_iterAt {w : World} {base : Nat} {e : TypeId} {size : Nat} {v : Value} {n : Nat} {xs : List Value} {k : Nat} {s : ByteArray} {pos : Nat} (h : w.ownsRow base e size v n xs) (hk : w.heap[k]? = some (.stringIter s pos)) (p : Nat) : (w.iterAt k s p).ownsRow base e size v n xs := by
  refine ⟨h.1, ?_⟩
  rcases h.2 with h2 | ⟨g, cap, cur, e1, hb, hg, rest⟩
  · exact .inl h2
  · refine .inr ⟨g, cap, cur, e1, hb, ?_, rest⟩
    rw [iterAt_other _ _ _ _ _ (by intro c; rw [c, hk] at hg; cases hg)]
    exact hg
theorem own_kp {w w' : World} {base : Nat} {e : TypeId} {size : Nat} {v : Value} {n : Nat} {xs : List Value} (h : w.ownsRow base e size v n xs) (k : Kp w w') : w'.ownsRow base e size v n xs := by
  refine ⟨h.1, ?_⟩
  rcases h.2 with h2 | ⟨g, cap, cur, e1, hb, hg, rest⟩
  · exact .inl h2
  · exact .inr ⟨g, cap, cur, e1, hb, (k.block g (h.lt g (by rw [e1]; rfl)).2).trans hg, rest⟩
theorem next_in {P : Program} (w : World) (k : Nat) (s : ByteArray) (pos b : Nat) (hk : w.heap[k]? = some (.stringIter s pos)) (h : pos < s.size) (eb : bt s pos = b) (ha : b < 128) : ∀ ty,
    (Instr.next (.pointer (some ⟨k, 0, none⟩)) true ty).run P w = .ok (.tuple #[.bool true, .int .i64 pos, .int .i32 (b : Int)]) (w.iterAt k s (pos + 1)) := fun ty => by
  have := run_next_ascii_at (P := P) w k s pos ty hk h (by rw [bt_at, eb]; exact ha)
  rw [bt_at, eb] at this
  exact this
theorem iterPos_of {w : World} {k : Nat} {s : ByteArray} {pos : Nat} (hk : w.heap[k]? = some (.stringIter s pos)) : w.iterPos k = pos := by simp [World.iterPos, hk]
set_option maxHeartbeats 2000000 in
theorem mset_any (s : ByteArray) (w : World) :
    Calls Try.prog 23 #[.string s] w fun e w' => ∃ v : Value, e = .returned v ∧ w'.ownsRow w.heap.size 40 2 v (setM s).length (cellsR (setM s)) ∧ Kp w w' := by
  have C := Lib.hid (fun w => msane_any s w)
  rcases Bool.eq_false_or_eq_true (saneM s) with h | h
  · rw [h] at C
    have M := mk_of h
    obtain ⟨m1, m2, m3⟩ := M
    have OK := Lib.hid (setK_ok s m3)
    have M3 := Lib.hid m3
    clear m3
    rw [show setM s = setK s s.size by unfold setM; rw [h]; rfl]
    clear h
    go_enter Try.func23, Try.ntmps23
    go_wp2_with fail
    refine (C.out _).mono ?_
    rintro e w1 ⟨rfl, k1⟩
    have K1 := Lib.hid k1
    have hsz := k1.size
    clear k1
    have O0 := Lib.hid (World.ownsRow_lit (base := w.heap.size) (e := 40) (size := 2) w1 #[.int .i64 0, .int .i64 0] 1 hsz (by unfold maxLen; omega) rfl)
    have I0 := Lib.hid (World.iter_heap (w1.alloc (.cells #[.int .i64 0, .int .i64 0] 40)) s 0)
    go_wp2
    go_loopw [3, 5] (fun v _ wr => ∃ pos : Nat, pos ≤ s.size ∧ wr.heap[w1.heap.size + 1]? = some (.stringIter s pos) ∧ wr.ownsRow w.heap.size 40 2 v (setK s pos).length (cellsR (setK s pos)) ∧ Kp w wr) (fun _ _ wr => s.size - wr.iterPos (w1.heap.size + 1))
    case atStart => exact ⟨0, by omega, by simpa using I0.out, O0.out.alloc _, (K1.out.trans (Kp.alloc _ _)).trans (Kp.iter _ _ _)⟩
    case round =>
      obtain ⟨pos, hp, hI, hown, k2⟩ := hrel
      have K2 := Lib.hid k2
      have hsz2 := k2.size
      clear k2
      by_cases hlt : pos < s.size
      · have m4 := M3.out pos hlt
        have ok := OK.out pos (by omega)
        obtain ⟨b, eb⟩ : ∃ b, bt s pos = b := ⟨_, rfl⟩
        have S := Lib.hid (show setK s (pos + 1) = furL b (setK s pos) by rw [← eb]; rfl)
        rw [eb] at m4
        have hnx := next_in (P := Try.prog) wr (w1.heap.size + 1) s pos b hI hlt eb (by omega)
        have ip := Lib.hid (iterPos_of hI)
        have hI1 := Lib.hid (iterAt_heap wr (w1.heap.size + 1) s pos (pos + 1) hI)
        have own1 := Lib.hid (own_iterAt hown hI (pos + 1))
        have K3 := Lib.hid (below_iterAt (B := w.heap.size) K2.out (by omega : w.heap.size ≤ w1.heap.size + 1) s (pos + 1))
        have bd := P10_le pos (by omega)
        have tl : T10 pos ≤ 1000 := by
          have : pos = 0 ∨ pos = 1 ∨ pos = 2 ∨ pos = 3 := by omega
          rcases this with rfl | rfl | rfl | rfl <;> decide
        have g1 : Gd 1000 (setK s pos) := fun r hr => by have := ok.1 r hr; have e := T10_P10 pos; exact ⟨this.1, this.2.1, by omega⟩
        have F := Lib.hid (fun v w hv => further_any v (setK s pos) b w hv g1 (Nat.le_trans ok.2.1 tl) m4)
        clear ok g1 eb hI hown m4
        generalize wr.iterAt (w1.heap.size + 1) s (pos + 1) = W1 at hnx hI1 own1 K3
        go_wp2_with fail
        refine (F.out _ _ (runsAt_own own1.out)).mono ?_
        rintro e w3 ⟨v3, rfl, o3, k3⟩
        have O3 := Lib.hid o3
        have K4 := Lib.hid (K3.out.trans (Below.mono k3 K3.out.size))
        have I3 := Lib.hid ((k3.block _ (by have := hI1.out; exact (Array.getElem?_eq_some_iff.1 this).1)).trans hI1.out)
        clear o3 k3
        go_wp2
        go_roundw
        case rel => exact ⟨pos + 1, by omega, I3.out, by rw [S.out]; exact own_mono O3.out K3.out.size, K4.out⟩
        case measure => rw [ip.out, iterPos_of I3.out]; omega
      · obtain rfl : pos = s.size := by omega
        have hnx : ∀ ty, (Instr.next (.pointer (some ⟨w1.heap.size + 1, 0, none⟩)) true ty).run Try.prog wr = _ := fun ty => run_next_end_at wr (w1.heap.size + 1) s s.size ty hI hlt
        have H := Lib.hid hown
        clear hown hI
        go_wp2
        go_ret
        exact ⟨_, rfl, H.out, K2.out⟩
  · rw [h] at C
    rw [show setM s = [] by unfold setM; rw [h]; rfl]
    clear h
    go_enter Try.func23, Try.ntmps23
    go_wp2_with fail
    refine (C.out _).mono ?_
    rintro e w1 ⟨rfl, k1⟩
    have K1 := Lib.hid k1
    clear k1
    go_wp2
    go_ret
    exact ⟨_, rfl, World.ownsRow_nil _ _ _ _, K1.out⟩
end Go.Proofs.Ytgjdaaopebkokaa
