/-
  Joined: MaskN, MaskA, MaskC, MaskD, MaskE, MaskP, MaskV1.
-/
import Derived.Test.YtinpglfclbnhlaaGreatDoorMaskM
import Derived.Test.YtinpglfclbnhlaaGreatDoorGBa
import Derived.Test.YtinpglfclbnhlaaGreatDoorChecked
import Derived.LoopTactic
import Derived.OwnWalk
import Derived.Deep.DeepMust
import Derived.Deep.AppendLies
import Derived.Lib.OthersKept
import Derived.Laws.BytesArg
namespace Go.Proofs.YtinpglfclbnhlaaGreatDoor
open Go.RowKit
set_option linter.unusedVariables false
def digR (b : Nat) (lo : Int) (j : Nat) : List R := (List.range j).map fun (i : Nat) => (10 * (lo + i) + ((b : Int) - 48), 10 * (lo + i) + ((b : Int) - 48))
theorem digR_snoc (b : Nat) (lo : Int) (j : Nat) : digR b lo (j + 1) = digR b lo j ++ [(10 * (lo + j) + ((b : Int) - 48), 10 * (lo + j) + ((b : Int) - 48))] := by
  unfold digR; rw [List.range_succ]; simp
theorem digR_len (b : Nat) (lo : Int) (j : Nat) : (digR b lo j).length = j := by unfold digR; simp
def furR (b : Nat) (r : R) : List R := if b = 88 then [(10 * r.1, 10 * r.2 + 9)] else digR b r.1 (r.2 - r.1 + 1).toNat
def furL (b : Nat) (l : List R) : List R := l.flatMap (furR b)
theorem furL_append (b : Nat) (l m : List R) : furL b (l ++ m) = furL b l ++ furL b m := by unfold furL; simp
theorem furL_snoc (b : Nat) (l : List R) (k : Nat) (h : k < l.length) : furL b (l.take (k + 1)) = furL b (l.take k) ++ furR b (at_ l k) := by
  rw [take_at l k h, furL_append]; unfold furL; simp
theorem furL_take_len (b : Nat) (l : List R) (k : Nat) : (furL b (l.take k)).length ≤ (furL b l).length := by
  have := furL_append b (l.take k) (l.drop k)
  rw [List.take_append_drop] at this
  rw [this, List.length_append]; omega
def tot : List R → Nat
  | [] => 0
  | r :: t => (r.2 - r.1 + 1).toNat + tot t
theorem tot_append (a b : List R) : tot (a ++ b) = tot a + tot b := by
  induction a with
  | nil => simp [tot]
  | cons r t ih => rw [List.cons_append, tot, tot, ih]; omega
def Gd (m : Int) (l : List R) : Prop := ∀ r ∈ l, 0 ≤ r.1 ∧ r.1 ≤ r.2 ∧ r.2 < m
theorem Gd.tot {m : Int} {l : List R} (h : Gd m l) : l.length ≤ Proofs.YtinpglfclbnhlaaGreatDoor.tot l := by
  induction l with
  | nil => exact Nat.zero_le _
  | cons r t ih =>
    have g := h r (by simp)
    have := ih (fun x hx => h x (by simp [hx]))
    rw [List.length_cons, Proofs.YtinpglfclbnhlaaGreatDoor.tot]; omega
theorem digR_tot (b : Nat) (lo : Int) (j : Nat) : tot (digR b lo j) = j := by
  induction j with
  | zero => rfl
  | succ j ih => rw [digR_snoc, tot_append, ih, tot, tot]; omega
theorem furR_tot (b : Nat) (r : R) (h : r.1 ≤ r.2) : tot (furR b r) ≤ 10 * (r.2 - r.1 + 1).toNat := by
  unfold furR
  split
  · rw [tot, tot]; simp only; omega
  · rw [digR_tot]; omega
theorem furL_tot {b : Nat} {m : Int} {l : List R} (h : Gd m l) : tot (furL b l) ≤ 10 * tot l := by
  induction l with
  | nil => simp [furL, tot]
  | cons r t ih =>
    have g := h r (by simp)
    have i := ih (fun x hx => h x (by simp [hx]))
    have e : furL b (r :: t) = furR b r ++ furL b t := by unfold furL; simp
    have f := furR_tot b r g.2.1
    rw [e, tot_append, tot]; omega
theorem furL_gd {b : Nat} {m : Int} {l : List R} (h : Gd m l) (hb : b = 88 ∨ (48 ≤ b ∧ b ≤ 57)) : Gd (10 * m) (furL b l) := by
  intro x hx
  unfold furL at hx
  obtain ⟨r, hr, hx⟩ := List.mem_flatMap.1 hx
  obtain ⟨g1, g2, g3⟩ := h r hr
  unfold furR at hx
  split at hx
  · simp only [List.mem_singleton] at hx
    subst hx
    simp only
    omega
  · unfold digR at hx
    obtain ⟨i, hi, rfl⟩ := List.mem_map.1 hx
    have hi := List.mem_range.1 hi
    simp only
    omega
def setK (s : ByteArray) : Nat → List R
  | 0 => [(0, 0)]
  | k + 1 => furL (bt s k) (setK s k)
def setM (s : ByteArray) : List R := if saneM s then setK s s.size else []
def T10 : Nat → Nat
  | 0 => 1
  | k + 1 => 10 * T10 k
theorem T10_le (k : Nat) (h : k ≤ 4) : T10 k ≤ 10000 := by
  have : k = 0 ∨ k = 1 ∨ k = 2 ∨ k = 3 ∨ k = 4 := by omega
  rcases this with rfl | rfl | rfl | rfl | rfl <;> decide
theorem T10_P10 (k : Nat) : ((T10 k : Nat) : Int) = P10 k := by
  induction k with
  | zero => rfl
  | succ k ih => rw [T10, P10]; omega
theorem setK_ok (s : ByteArray) (h : ∀ i, i < s.size → bt s i = 88 ∨ (48 ≤ bt s i ∧ bt s i ≤ 57)) : ∀ k, k ≤ s.size → Gd (P10 k) (setK s k) ∧ tot (setK s k) ≤ T10 k ∧ setK s k ≠ [] := by
  intro k
  induction k with
  | zero =>
    intro _
    refine ⟨?_, (show ((0 : Int) - 0 + 1).toNat + 0 ≤ 1 by decide), by simp [setK]⟩
    intro r hr
    simp [setK] at hr
    subst hr
    decide
  | succ k ih =>
    intro hk
    obtain ⟨g, t, n⟩ := ih (by omega)
    have hb := h k (by omega)
    refine ⟨furL_gd g hb, ?_, ?_⟩
    · have := furL_tot (b := bt s k) g
      rw [setK, T10]; omega
    · rw [setK]
      intro c
      cases e : setK s k with
      | nil => exact n e
      | cons r u =>
        rw [e] at c g
        have gr := g r (by simp)
        have e2 : furL (bt s k) (r :: u) = furR (bt s k) r ++ furL (bt s k) u := by unfold furL; simp
        rw [e2] at c
        have c2 := (List.append_eq_nil_iff.1 c).1
        unfold furR at c2
        split at c2
        · cases c2
        · have := congrArg List.length c2
          rw [digR_len] at this
          simp at this
          omega
end Go.Proofs.YtinpglfclbnhlaaGreatDoor

namespace Go.Proofs.YtinpglfclbnhlaaGreatDoor
open Go.RowKit
set_option linter.unusedVariables false
theorem isDigit_any (r : Int) (w : World) : Calls Tryz.prog 54 #[.int .i32 r] w fun e w' => e = .returned (.bool (digB r)) ∧ w = w' := by
  go_enter Tryz.func54, Tryz.ntmps54
  go_wp2
  all_goals go_ret
  all_goals refine ⟨ret_bool ?_, rfl⟩
  all_goals unfold digB; rw [Bool.eq_iff_iff]
  all_goals simp
  all_goals try omega
theorem value_any (r : Int) (w : World) (h : 48 ≤ r) (h2 : r ≤ 57) : Calls Tryz.prog 72 #[.int .i32 r] w fun e w' => e = .returned (.int .i64 (r - 48)) ∧ w = w' := by
  go_enter Tryz.func72, Tryz.ntmps72
  go_wp2
  go_ret
  exact ⟨rfl, rfl⟩
set_option maxHeartbeats 1000000 in
theorem msane_any (s : ByteArray) (w : World) :
    Calls Tryz.prog 32 #[.string s] w fun e w' => e = .returned (.bool (saneM s)) ∧ Kp w w' := by
  by_cases h1 : s.size < 1
  · rw [show saneM s = false by unfold saneM; rw [show decide (1 ≤ s.size ∧ s.size ≤ 4) = false by simp; omega]; rfl]
    go_enter Tryz.func32, Tryz.ntmps32
    go_wp2
    go_ret
    exact ⟨rfl, Kp.refl _⟩
  by_cases h2 : 4 < s.size
  · rw [show saneM s = false by unfold saneM; rw [show decide (1 ≤ s.size ∧ s.size ≤ 4) = false by simp; omega]; rfl]
    go_enter Tryz.func32, Tryz.ntmps32
    go_wp2
    go_ret
    exact ⟨rfl, Kp.refl _⟩
  have SM := Lib.hid (show saneM s = upB s s.size by unfold saneM; rw [show decide (1 ≤ s.size ∧ s.size ≤ 4) = true by simp; omega]; rfl)
  go_enter Tryz.func32, Tryz.ntmps32
  go_wp2
  go_loopw [4] (fun _ w' => ∃ pos : Nat, pos ≤ s.size ∧ w' = w.iter s pos ∧ upB s pos = true) (fun _ w' => s.size - w'.iterPos w.heap.size)
  case atStart => exact ⟨0, by omega, rfl, rfl⟩
  case round =>
    obtain ⟨pos, hp, rfl, hu⟩ := hrel
    have HU := Lib.hid hu
    clear hu
    by_cases hlt : pos < s.size
    · obtain ⟨b, eb⟩ : ∃ b, bt s pos = b := ⟨_, rfl⟩
      have UN := Lib.hid (fun h => upB_no (s := s) (k := s.size) (i := pos) hlt h)
      have UY := Lib.hid (show upB s (pos + 1) = (upB s pos && okB (bt s pos)) from rfl)
      rw [eb] at UN UY
      have C := Lib.hid (fun (r : Int) w => isDigit_any r w)
      rcases Nat.lt_or_ge b 128 with hb | hb
      · have hnx := next_at (P := Tryz.prog) w s pos b hlt eb hb
        rcases Bool.eq_false_or_eq_true (okB b) with g | g
        · have UY2 := Lib.hid (show upB s (pos + 1) = true by rw [UY.out, HU.out, g]; rfl)
          have g2 := ok_cases g
          clear g UY UN eb
          by_cases hx : b = 88
          · subst hx
            clear g2
            go_wp2
            go_roundw
            case rel => exact ⟨pos + 1, by omega, rfl, UY2.out⟩
            case measure => simp; omega
          · have g3 : digB b = true := by unfold digB; simp; omega
            have g4 : ((b : Int) != 88) = true := by simp; omega
            clear g2
            go_wp2_with fail
            refine (C.out _ _).mono ?_
            rw [g3]
            rintro e w' ⟨rfl, rfl⟩
            go_wp2
            go_roundw
            case rel => exact ⟨pos + 1, by omega, rfl, UY2.out⟩
            case measure => simp; omega
        · have UN2 := Lib.hid (show saneM s = false by rw [SM.out]; exact UN.out g)
          have g2 := ok_no g
          have g3 : digB b = false := by unfold digB; simp; omega
          have g4 : ((b : Int) != 88) = true := by simp; omega
          clear g UY UN eb g2
          go_wp2_with fail
          refine (C.out _ _).mono ?_
          rw [g3]
          rintro e w' ⟨rfl, rfl⟩
          go_wp2
          go_ret
          exact ⟨ret_bool UN2.out.symm, Kp.iter _ _ _⟩
      · obtain ⟨r, p, r1, r2, hnx⟩ := next_hi (P := Tryz.prog) w s pos b hlt eb hb
        have UN2 := Lib.hid (show saneM s = false by rw [SM.out]; exact UN.out (by unfold okB digB; simp; omega))
        have g3 : digB r = false := by unfold digB; simp; omega
        have g4 : ((r : Int) != 88) = true := by simp; omega
        clear UY UN eb hb
        go_wp2_with fail
        refine (C.out _ _).mono ?_
        rw [g3]
        rintro e w' ⟨rfl, rfl⟩
        go_wp2
        go_ret
        exact ⟨ret_bool UN2.out.symm, Kp.iter _ _ _⟩
    · obtain rfl : pos = s.size := by omega
      have hnx : ∀ ty, (Instr.next (.pointer (some ⟨w.heap.size, 0, none⟩)) true ty).run Tryz.prog (w.iter s s.size) = _ := fun ty => run_next_end w s s.size ty hlt
      have UY2 := Lib.hid (show saneM s = true by rw [SM.out, HU.out])
      go_wp2
      go_ret
      exact ⟨ret_bool UY2.out.symm, Kp.iter _ _ _⟩
end Go.Proofs.YtinpglfclbnhlaaGreatDoor

namespace Go.Proofs.YtinpglfclbnhlaaGreatDoor
open Go.RowKit
set_option linter.unusedVariables false
theorem cell_two_a (w : World) (a b : Value) (t : TypeId) : ∀ j u, [a, b][j]? = some u → (w.alloc (.cells #[a, b] t)).cell? ((⟨w.heap.size, 0, none⟩ : Addr).add j) = some u := by
  intro j u hu
  rcases j with _ | _ | j
  · simp at hu; subst hu; simp [Addr.add]
  · simp at hu; subst hu; simp [Addr.add]
  · simp at hu
theorem kp_grown1 {w wr w1 : World} {v : Value} {o1 : Obj} (k : Kp w wr) (g : (wr.alloc o1).grownBy w1 v.ownBlock) (h : ∀ j, v.ownBlock = some j → w.heap.size ≤ j) : Kp w w1 := by
  have s : w.heap.size ≤ wr.heap.size := k.size
  have k2 : Below w.heap.size w (wr.alloc o1) := Below.alloc k s o1
  exact k2.grown g (by simp; omega) h
theorem mgrown_cell {wr w1 : World} {v : Value} {o1 : Obj} {B o : Nat} (g : (wr.alloc o1).grownBy w1 v.ownBlock) (hB : B < wr.heap.size) (hn : ∀ j, v.ownBlock = some j → j ≠ B) : w1.cell? ⟨B, o, none⟩ = wr.cell? ⟨B, o, none⟩ := by
  have e : w1.heap[B]? = (wr.alloc o1).heap[B]? := g.block B (by simp; omega) (fun c => hn B c.symm rfl)
  have e2 : w1.heap[B]? = wr.heap[B]? := by rw [e]; exact Below.heap_alloc _ _ _ hB
  exact World.cell?_of_block (w := wr) e2
theorem own_ne {g1 : Nat} {o : Option Nat} {B H : Nat} (ne : ∀ j, o = some j → j ≠ B) (hat : o = some g1 ∨ g1 = H) (h : B < H) : ∀ g, (some g1 : Option Nat) = some g → g ≠ B := by
  intro g hg
  have e := Option.some.inj hg
  rcases hat with h' | h'
  · exact e ▸ ne g1 h'
  · omega
set_option maxHeartbeats 4000000 in
set_option maxRecDepth 100000 in
theorem further_any (v : Value) (l : List R) (b : Nat) (w : World) (hv : RunsAt w v l) (hg : Gd 1000 l) (ht : tot l ≤ 1000) (hb : b = 88 ∨ (48 ≤ b ∧ b ≤ 57)) :
    Calls Tryz.prog 56 #[v, .int .i32 b] w fun e w' => ∃ v' : Value, e = .returned v' ∧ w'.ownsRow w.heap.size 37 2 v' (furL b l).length (cellsR (furL b l)) ∧ Kp w w' := by
  obtain ⟨i0, hi, hz0, hz1, hz2⟩ := info_parts infoR
  rcases hv with ⟨ad0, cp0, rfl, rfl⟩ | ⟨b0, off, cap, rfl, hc, hm, hx⟩
  · go_enter Tryz.func56, Tryz.ntmps56
    go_wp2_with (at_make; refine wpList_make_own _ rfl _ _ 28 rfl w.heap.size 37 i0 (.agg #[.int .i64 0, .int .i64 0]) 2 Tryz.underlying28 hi hz0 hz1 .i64 .i64 _ 0 rfl rfl rfl (by rw [hz2]; omega) (by unfold maxLen; omega) (Nat.le_refl _) ?_; intro w0 hown0 hgrow0)
    go_loopw [5, 15] (fun v i wr => i = .int .i64 0 ∧ wr.ownsRow w.heap.size 37 2 v 0 [] ∧ Kp w wr) (fun _ _ _ => 0)
    case atStart => exact ⟨rfl, hown0, (Below.refl _ _).grown hgrow0 (Nat.le_refl _) (fun k h => by cases h)⟩
    case round =>
      obtain ⟨rfl, hown, k1⟩ := hrel
      go_wp2
      go_ret
      exact ⟨_, rfl, hown, k1⟩
  · have hm2 : l.length ≤ 1000 := Nat.le_trans hg.tot ht
    have ft := furL_tot (b := b) hg
    have fl := (furL_gd hg hb).tot
    have FT := Lib.hid (fun k => Nat.le_trans (furL_take_len b l k) (show (furL b l).length ≤ 10000 by omega))
    have FS := Lib.hid (fun k h => furL_snoc b l k h)
    have HX := Lib.hid hx
    have HG := Lib.hid hg
    clear hx hg ft fl
    go_enter Tryz.func56, Tryz.ntmps56
    go_wp2_with (at_make; refine wpList_make_own _ rfl _ _ 28 rfl w.heap.size 37 i0 (.agg #[.int .i64 0, .int .i64 0]) 2 Tryz.underlying28 hi hz0 hz1 .i64 .i64 _ l.length rfl rfl rfl (by rw [hz2]; omega) (by unfold maxLen; omega) (Nat.le_refl _) ?_; intro w0 hown0 hgrow0)
    go_loopw [5, 15] (fun v i wr => ∃ k : Nat, k ≤ l.length ∧ i = .int .i64 k ∧ wr.ownsRow w.heap.size 37 2 v (furL b (l.take k)).length (cellsR (furL b (l.take k))) ∧ Kp w wr) (fun _ i _ => l.length - (intOf i).toNat)
    case atStart => exact ⟨0, Nat.zero_le _, rfl, hown0, (Below.refl _ _).grown hgrow0 (Nat.le_refl _) (fun k h => by cases h)⟩
    case round =>
      obtain ⟨k, hk, rfl, hown, k1⟩ := hrel
      have K1 := Lib.hid k1
      have hsz := k1.size
      clear k1
      by_cases hlt : k < l.length
      · obtain ⟨c1, c2⟩ := HX.out k hlt
        have d1 := (Below.cell (p := ⟨b0, off + k * 2, none⟩) K1.out (World.block_lt_of_cell? _ _ c1)).trans c1
        have d2 := (Below.cell (p := ⟨b0, off + k * 2 + 1, none⟩) K1.out (World.block_lt_of_cell? _ _ c2)).trans c2
        clear c1 c2
        have mem : at_ l k ∈ l := by
          have : at_ l k = l[k] := by unfold at_; simp [List.getD, hlt]
          rw [this]; exact List.getElem_mem hlt
        obtain ⟨o1, o2, o3⟩ := HG.out _ mem
        have S := FS.out k hlt
        have al := FT.out k
        obtain ⟨lo, hi', ee⟩ : ∃ x y, at_ l k = (x, y) := ⟨_, _, rfl⟩
        rw [ee] at d1 d2 o1 o2 o3 S
        simp only at d1 d2 o1 o2 o3
        clear ee mem
        generalize furL b (l.take k) = a at *
        by_cases h88 : b = 88
        · have g88 : ((b : Int) == 88) = true := by simp; omega
          have S2 := Lib.hid (show furL b (l.take (k + 1)) = a ++ [(10 * lo, 10 * hi' + 9)] by rw [S]; unfold furR; rw [if_pos h88])
          clear S hb h88
          have e9 : 10 * hi' + 10 - 1 = 10 * hi' + 9 := by omega
          go_wp2_with (at_builtin; go_must (refine wpList_append_own _ rfl (.tmp 21) (.tmp 31) 28 rfl w.heap.size 37 i0 (.agg #[.int .i64 0, .int .i64 0]) 2 16 Tryz.underlying28 hi hz0 hz1 hz2 rfl (by decide) _ _ _ rfl ((hown.alloc _).alloc _) ⟨_, 0, none⟩ 1 1 [.int .i64 (10 * lo), .int .i64 (10 * hi' + 9)] rfl rfl (cell_two_next _ _ _ _ _) (by intro u hu; simp at hu; rcases hu with rfl | rfl <;> rfl) (by unfold maxLen; omega) (by omega) (by simp; omega) ?_); intro v1 w1 hown1 hgrow1 hnil1)
          go_roundw
          case rel => exact ⟨k + 1, by omega, by go_num, by rw [S2.out, cellsR_append, List.length_append]; exact hown1, kp_grown K1.out hgrow1 (fun j hj => (hown.lt j hj).1)⟩
          case measure => simp [intOf]; omega
        · have hb2 : 48 ≤ b ∧ b ≤ 57 := by omega
          obtain ⟨hb3, hb4⟩ := hb2
          have V := Lib.hid (fun w => value_any (b : Int) w (by omega) (by omega))
          have S2 := Lib.hid (show furL b (l.take (k + 1)) = a ++ digR b lo (hi' - lo + 1).toNat by rw [S]; unfold furR; rw [if_neg h88])
          have g88 : ((b : Int) == 88) = false := by simp; omega
          clear S hb
          have OW := Lib.hid hown
          have L0 := Lib.hid (fun j h => (hown.lt j h).2)
          clear hown
          go_wp2
          go_loopw [5, 8, 9] (fun v i _ wr2 => ∃ j : Nat, lo + j ≤ hi' + 1 ∧ i = .int .i64 (lo + j) ∧ wr2.ownsRow w.heap.size 37 2 v (a ++ digR b lo j).length (cellsR (a ++ digR b lo j)) ∧ (∀ g, v.ownBlock = some g → g ≠ wr.heap.size) ∧ wr.heap.size < wr2.heap.size ∧ wr2.cell? ⟨wr.heap.size, 1, none⟩ = some (.int .i64 hi') ∧ Kp w wr2) (fun _ i _ _ => (hi' + 1 - intOf i).toNat)
          case atStart =>
            refine ⟨0, by omega, by simp, ?_, fun g h => by have := L0.out g h; omega, by simp, by simp, K1.out.trans (Kp.alloc _ _)⟩
            rw [show a ++ digR b lo 0 = a by unfold digR; simp]
            exact OW.out.alloc _
          case round =>
            obtain ⟨j, hj, rfl, hown, hne, hBs, hB, k2⟩ := hrel
            have K2 := Lib.hid k2
            have hsz2 := k2.size
            clear k2
            by_cases hjl : lo + j ≤ hi'
            · have hd : decide (lo + (j : Int) ≤ hi') = true := by simpa using hjl
              have D := Lib.hid (digR_snoc b lo j)
              have dl := digR_len b lo j
              have al2 : (a ++ digR b lo j).length ≤ 20000 := by rw [List.length_append]; omega
              have NE := Lib.hid hne
              obtain ⟨A, eA⟩ : ∃ A, a ++ digR b lo j = A := ⟨_, rfl⟩
              rw [eA] at hown al2
              have EA := Lib.hid eA
              clear eA dl hne
              go_wp2_with fail; refine (V.out _).mono ?_; rintro e w' ⟨rfl, rfl⟩
              go_wp2_with (at_builtin; go_must (refine wpList_append_lies _ rfl (.tmp 46) (.tmp 50) 28 rfl w.heap.size 37 i0 (.agg #[.int .i64 0, .int .i64 0]) 2 16 Tryz.underlying28 hi hz0 hz1 hz2 rfl (by decide) _ _ _ rfl (hown.alloc _) ⟨_, 0, none⟩ 1 1 [.int .i64 (10 * (lo + j) + (b - 48)), .int .i64 (10 * (lo + j) + (b - 48))] rfl rfl (cell_two_a _ _ _ _) (by intro u hu; simp at hu; rcases hu with rfl | rfl <;> rfl) (by omega) (by unfold maxLen; omega) (by omega) (by simp; omega) _ rfl ?_); intro g1 cp1 w1 hown1 hgrow1 hat1 hlt1)
              refine ⟨⟨j + 1, by omega, congrArg (Value.int .i64) (by omega), ?_, own_ne NE.out hat1 (by simp; omega), ?_, ?_, kp_grown1 K2.out hgrow1 (fun j hj => (hown.lt j hj).1)⟩, by simp [intOf]; omega⟩
              · rw [D.out, ← List.append_assoc, EA.out, cellsR_append, List.length_append]
                exact hown1
              · have := hgrow1.size; simp at this; omega
              · rw [mgrown_cell hgrow1 hBs NE.out]; exact hB
            · have hd : decide (lo + (j : Int) ≤ hi') = false := by simpa using hjl
              have ej : j = (hi' - lo + 1).toNat := by omega
              rw [ej, ← S2.out] at hown
              have H := Lib.hid hown
              clear hown ej
              go_wp2
              go_roundw
              case rel => exact ⟨k + 1, by omega, by go_num, H.out, K2.out⟩
              case measure => simp [intOf]; omega
      · obtain rfl : k = l.length := by omega
        rw [List.take_length] at hown
        have H := Lib.hid hown
        clear hown
        go_wp2
        go_ret
        exact ⟨_, rfl, H.out, K1.out⟩
end Go.Proofs.YtinpglfclbnhlaaGreatDoor

namespace Go.Proofs.YtinpglfclbnhlaaGreatDoor
open Go.RowKit Go.Lib
set_option linter.unusedVariables false
theorem own_iterAt {w : World} {base : Nat} {e : TypeId} {size : Nat} {v : Value} {n : Nat} {xs : List Value} {k : Nat} {s : ByteArray} {pos : Nat} (h : w.ownsRow base e size v n xs) (hk : w.heap[k]? = some (.stringIter s pos)) (p : Nat) : (w.iterAt k s p).ownsRow base e size v n xs := by
  refine ⟨h.1, ?_⟩
  rcases h.2 with h2 | ⟨g, cap, cur, e1, hb, hg, rest⟩
  · exact .inl h2
  · refine .inr ⟨g, cap, cur, e1, hb, ?_, rest⟩
    rw [iterAt_other _ _ _ _ _ (by intro c; rw [c, hk] at hg; cases hg)]
    exact hg
theorem next_in {P : Program} (w : World) (k : Nat) (s : ByteArray) (pos b : Nat) (hk : w.heap[k]? = some (.stringIter s pos)) (h : pos < s.size) (eb : bt s pos = b) (ha : b < 128) : ∀ ty,
    (Instr.next (.pointer (some ⟨k, 0, none⟩)) true ty).run P w = .ok (.tuple #[.bool true, .int .i64 pos, .int .i32 (b : Int)]) (w.iterAt k s (pos + 1)) := fun ty => by
  have := run_next_ascii_at (P := P) w k s pos ty hk h (by rw [bt_at, eb]; exact ha)
  rw [bt_at, eb] at this
  exact this
theorem iterPos_of {w : World} {k : Nat} {s : ByteArray} {pos : Nat} (hk : w.heap[k]? = some (.stringIter s pos)) : w.iterPos k = pos := by simp [World.iterPos, hk]
set_option maxHeartbeats 2000000 in
theorem mset_any (s : ByteArray) (w : World) :
    Calls Tryz.prog 37 #[.string s] w fun e w' => ∃ v : Value, e = .returned v ∧ w'.ownsRow w.heap.size 37 2 v (setM s).length (cellsR (setM s)) ∧ Kp w w' := by
  have C := Lib.hid (fun w => msane_any s w)
  rcases Bool.eq_false_or_eq_true (saneM s) with h | h
  · rw [h] at C
    have M := mk_of h
    obtain ⟨m1, m2, m3⟩ := M
    have OK := Lib.hid (setK_ok s m3)
    have M3 := Lib.hid m3
    clear m3
    rw [show setM s = setK s s.size by unfold setM; rw [h]; rfl]
    clear h
    go_enter Tryz.func37, Tryz.ntmps37
    go_wp2_with fail
    refine (C.out _).mono ?_
    rintro e w1 ⟨rfl, k1⟩
    have K1 := Lib.hid k1
    have hsz := k1.size
    clear k1
    have O0 := Lib.hid (World.ownsRow_lit (base := w.heap.size) (e := 37) (size := 2) w1 #[.int .i64 0, .int .i64 0] 1 hsz (by unfold maxLen; omega) rfl)
    have I0 := Lib.hid (World.iter_heap (w1.alloc (.cells #[.int .i64 0, .int .i64 0] 37)) s 0)
    go_wp2
    go_loopw [3, 5] (fun v _ wr => ∃ pos : Nat, pos ≤ s.size ∧ wr.heap[w1.heap.size + 1]? = some (.stringIter s pos) ∧ wr.ownsRow w.heap.size 37 2 v (setK s pos).length (cellsR (setK s pos)) ∧ Kp w wr) (fun _ _ wr => s.size - wr.iterPos (w1.heap.size + 1))
    case atStart => exact ⟨0, by omega, by simpa using I0.out, O0.out.alloc _, (K1.out.trans (Kp.alloc _ _)).trans (Kp.iter _ _ _)⟩
    case round =>
      obtain ⟨pos, hp, hI, hown, k2⟩ := hrel
      have K2 := Lib.hid k2
      have hsz2 := k2.size
      clear k2
      by_cases hlt : pos < s.size
      · have m4 := M3.out pos hlt
        have ok := OK.out pos (by omega)
        obtain ⟨b, eb⟩ : ∃ b, bt s pos = b := ⟨_, rfl⟩
        have S := Lib.hid (show setK s (pos + 1) = furL b (setK s pos) by rw [← eb]; rfl)
        rw [eb] at m4
        have hnx := next_in (P := Tryz.prog) wr (w1.heap.size + 1) s pos b hI hlt eb (by omega)
        have ip := Lib.hid (iterPos_of hI)
        have hI1 := Lib.hid (iterAt_heap wr (w1.heap.size + 1) s pos (pos + 1) hI)
        have own1 := Lib.hid (own_iterAt hown hI (pos + 1))
        have K3 := Lib.hid (below_iterAt (B := w.heap.size) K2.out (by omega : w.heap.size ≤ w1.heap.size + 1) s (pos + 1))
        have bd := P10_le pos (by omega)
        have tl : T10 pos ≤ 1000 := by
          have : pos = 0 ∨ pos = 1 ∨ pos = 2 ∨ pos = 3 := by omega
          rcases this with rfl | rfl | rfl | rfl <;> decide
        have g1 : Gd 1000 (setK s pos) := fun r hr => by have := ok.1 r hr; have e := T10_P10 pos; exact ⟨this.1, this.2.1, by omega⟩
        have F := Lib.hid (fun v w hv => further_any v (setK s pos) b w hv g1 (Nat.le_trans ok.2.1 tl) m4)
        clear ok g1 eb hI hown m4
        generalize wr.iterAt (w1.heap.size + 1) s (pos + 1) = W1 at hnx hI1 own1 K3
        go_wp2_with fail
        refine (F.out _ _ (runsAt_own own1.out)).mono ?_
        rintro e w3 ⟨v3, rfl, o3, k3⟩
        have O3 := Lib.hid o3
        have K4 := Lib.hid (K3.out.trans (Below.mono k3 K3.out.size))
        have I3 := Lib.hid ((k3.block _ (by have := hI1.out; exact (Array.getElem?_eq_some_iff.1 this).1)).trans hI1.out)
        clear o3 k3
        go_wp2
        go_roundw
        case rel => exact ⟨pos + 1, by omega, I3.out, by rw [S.out]; exact own_mono O3.out K3.out.size, K4.out⟩
        case measure => rw [ip.out, iterPos_of I3.out]; omega
      · obtain rfl : pos = s.size := by omega
        have hnx : ∀ ty, (Instr.next (.pointer (some ⟨w1.heap.size + 1, 0, none⟩)) true ty).run Tryz.prog wr = _ := fun ty => run_next_end_at wr (w1.heap.size + 1) s s.size ty hI hlt
        have H := Lib.hid hown
        clear hown hI
        go_wp2
        go_ret
        exact ⟨_, rfl, H.out, K2.out⟩
  · rw [h] at C
    rw [show setM s = [] by unfold setM; rw [h]; rfl]
    clear h
    go_enter Tryz.func37, Tryz.ntmps37
    go_wp2_with fail
    refine (C.out _).mono ?_
    rintro e w1 ⟨rfl, k1⟩
    have K1 := Lib.hid k1
    clear k1
    go_wp2
    go_ret
    exact ⟨_, rfl, World.ownsRow_nil _ _ _ _, K1.out⟩
end Go.Proofs.YtinpglfclbnhlaaGreatDoor

namespace Go.Proofs.YtinpglfclbnhlaaGreatDoor
open Go.RowKit Go.Lib
set_option linter.unusedVariables false
def onlyB (s : ByteArray) : Bool := countM s == 1
def onlyV (s : ByteArray) : Int := if onlyB s then (at_ (setM s) 0).1 else 0
theorem count_sane {s : ByteArray} (h : onlyB s = true) : saneM s = true := by
  unfold onlyB countM at h
  rcases Bool.eq_false_or_eq_true (saneM s) with g | g
  · exact g
  · rw [g] at h; simp at h
theorem setM_ne {s : ByteArray} (h : saneM s = true) : setM s ≠ [] := by
  unfold setM
  rw [if_pos h]
  exact (setK_ok s (mk_of h).ok s.size (Nat.le_refl _)).2.2
/-- the mask of both: a sign -/
def meC (a b : ByteArray) (i : Nat) : Nat := if bt a i = 88 then bt b i else bt a i
def meL (a b : ByteArray) : Nat → List Int
  | 0 => []
  | k + 1 => meL a b k ++ [(meC a b k : Int)]
def clB (a b : ByteArray) (i : Nat) : Bool := (bt a i != 88) && (bt b i != 88) && (bt a i != bt b i)
def noCl (a b : ByteArray) : Nat → Bool
  | 0 => true
  | k + 1 => noCl a b k && !clB a b k
def meetB (a b : ByteArray) : Bool := saneM a && saneM b && (a.size == b.size) && noCl a b a.size
def meetS (a b : ByteArray) : ByteArray := if meetB a b then strOfNums (meL a b a.size) else ByteArray.empty
theorem meL_len (a b : ByteArray) (k : Nat) : (meL a b k).length = k := by
  induction k with
  | zero => rfl
  | succ k ih => rw [meL, List.length_append, ih]; rfl
theorem noCl_no {a b : ByteArray} {k i : Nat} (hi : i < k) (h : clB a b i = true) : noCl a b k = false := by
  induction k with
  | zero => omega
  | succ k ih =>
    rw [noCl]
    by_cases e : i = k
    · subst e; rw [h]; simp
    · rw [ih (by omega), Bool.false_and]
def cells8 (l : List Int) : List Value := l.map (Value.int .u8)
theorem info8 : (Tryz.prog.info? 5).map (fun i => (i.zero, i.size, i.bytes)) = some (some (.int .u8 0), 1, 1) := by kernel_rfl
theorem cell_one_a (w : World) (a : Value) (t : TypeId) : ∀ j u, [a][j]? = some u → (w.alloc (.cells #[a] t)).cell? ((⟨w.heap.size, 0, none⟩ : Addr).add j) = some u := by
  intro j u hu
  rcases j with _ | j
  · simp at hu; subst hu; simp [Addr.add]
  · simp at hu
theorem grown_iter {wr w1 : World} {base : Nat} {e : TypeId} {size : Nat} {v : Value} {n : Nat} {xs : List Value} {o1 : Obj} {I p : Nat} {s : ByteArray} (g : (wr.alloc o1).grownBy w1 v.ownBlock) (hI : wr.heap[I]? = some (.stringIter s p)) (hown : wr.ownsRow base e size v n xs) : w1.heap[I]? = some (.stringIter s p) := by
  have hB := (Array.getElem?_eq_some_iff.1 hI).1
  have e : w1.heap[I]? = (wr.alloc o1).heap[I]? := g.block I (by simp; omega) (fun c => by
    rcases hown.2 with ⟨rfl, _⟩ | ⟨gg, cap, cur, rfl, _, hg, _⟩
    · cases c
    · have e2 : I = gg := Option.some.inj c
      rw [← e2, hI] at hg
      cases hg)
  rw [e, Below.heap_alloc _ _ _ hB, hI]
theorem own_bytes {w : World} {base : Nat} {e : TypeId} {v : Value} {l : List Int} (h : w.ownsRow base e 1 v l.length (cells8 l)) (hn : l ≠ []) : ∃ g cap, v = .slice (some ⟨g, 0, none⟩) l.length cap ∧ ∀ i, i < l.length → w.cell? ⟨g, 0 + i, none⟩ = some (.int .u8 (l.getD i 0)) := by
  rcases h.2 with ⟨_, h0⟩ | ⟨g, cp, cur, rfl, h2, h3, h4, h5, h6, h7⟩
  · exact absurd (List.length_eq_zero_iff.1 h0) hn
  · refine ⟨g, cp, rfl, fun i hi => ?_⟩
    rw [Nat.zero_add, h.cellAt _ (by omega)]
    unfold cells8
    rw [List.getElem?_map, List.getD_eq_getElem?_getD, List.getElem?_eq_getElem hi]
    rfl
theorem Kp.of_grown {w w' : World} {row : Option Nat} (g : w.grownBy w' row) (h : row = none := by rfl) : Kp w w' :=
  (Below.refl _ _).grown g (Nat.le_refl _) (fun k hk => by rw [h] at hk; cases hk)
end Go.Proofs.YtinpglfclbnhlaaGreatDoor

namespace Go.Proofs.YtinpglfclbnhlaaGreatDoor
open Go.RowKit
set_option linter.unusedVariables false
theorem fits_at {s : ByteArray} {n : Int} {k : Nat} (h : fitsM s n k = true) : ∀ i, i < k → fitB (bt s i) n (P10 (s.size - 1 - i)) = true := by
  induction k with
  | zero => intro i hi; omega
  | succ k ih =>
    intro i hi
    rw [fitsM, Bool.and_eq_true] at h
    by_cases e : i = k
    · subst e; exact h.2
    · exact ih h.1 i (by omega)
theorem fits_of {s : ByteArray} {n : Int} : ∀ {k : Nat}, (∀ i, i < k → fitB (bt s i) n (P10 (s.size - 1 - i)) = true) → fitsM s n k = true := by
  intro k
  induction k with
  | zero => intro _; rfl
  | succ k ih => intro h; rw [fitsM, ih (fun i hi => h i (by omega)), h k (by omega)]; rfl
theorem noCl_at {a b : ByteArray} {k : Nat} (h : noCl a b k = true) : ∀ i, i < k → clB a b i = false := by
  intro i hi
  rcases Bool.eq_false_or_eq_true (clB a b i) with g | g
  · have := noCl_no hi g; rw [h] at this; cases this
  · exact g
theorem noCl_of {a b : ByteArray} : ∀ {k : Nat}, (∀ i, i < k → clB a b i = false) → noCl a b k = true := by
  intro k
  induction k with
  | zero => intro _; rfl
  | succ k ih => intro h; rw [noCl, ih (fun i hi => h i (by omega)), h k (by omega)]; rfl
theorem cl_cases (a b : ByteArray) (i : Nat) : clB a b i = true ↔ bt a i ≠ 88 ∧ bt b i ≠ 88 ∧ bt a i ≠ bt b i := by
  unfold clB; simp [and_assoc]
theorem cl_no (a b : ByteArray) (i : Nat) : clB a b i = false ↔ bt a i = 88 ∨ bt b i = 88 ∨ bt a i = bt b i := by
  have := cl_cases a b i
  rcases Bool.eq_false_or_eq_true (clB a b i) with g | g
  · rw [g] at this ⊢; simp at this ⊢; omega
  · rw [g] at this ⊢; simp at this ⊢; omega
theorem cl_comm (a b : ByteArray) (i : Nat) : clB a b i = clB b a i := by
  rw [Bool.eq_iff_iff, cl_cases, cl_cases]; omega
theorem noCl_comm (a b : ByteArray) (k : Nat) : noCl a b k = noCl b a k := by
  induction k with
  | zero => rfl
  | succ k ih => rw [noCl, noCl, ih, cl_comm]
theorem meetB_comm (a b : ByteArray) : meetB a b = meetB b a := by
  unfold meetB
  by_cases h : a.size = b.size
  · rw [h, noCl_comm a b]; simp; rw [Bool.and_comm (saneM a)]
  · rw [show (a.size == b.size) = false by simpa using h, show (b.size == a.size) = false by simp; omega]; simp
theorem meL_comm (a b : ByteArray) (k : Nat) (h : noCl a b k = true) : meL a b k = meL b a k := by
  induction k with
  | zero => rfl
  | succ k ih =>
    have g := (cl_no a b k).1 (noCl_at h k (by omega))
    rw [noCl, Bool.and_eq_true] at h
    rw [meL, meL, ih h.1]
    congr 3
    unfold meC
    split <;> split <;> omega
structure Meets (a b : ByteArray) : Prop where
  sa : saneM a = true
  sb : saneM b = true
  sz : a.size = b.size
  no : ∀ i, i < a.size → bt a i = 88 ∨ bt b i = 88 ∨ bt a i = bt b i
theorem meets_of {a b : ByteArray} (h : meetB a b = true) : Meets a b := by
  unfold meetB at h
  simp only [Bool.and_eq_true, beq_iff_eq] at h
  exact ⟨h.1.1.1, h.1.1.2, h.1.2, fun i hi => (cl_no a b i).1 (noCl_at h.2 i hi)⟩
theorem meetS_comm (a b : ByteArray) : meetS a b = meetS b a := by
  unfold meetS
  rw [meetB_comm b a]
  rcases Bool.eq_false_or_eq_true (meetB a b) with h | h
  · rw [h]
    have m := meets_of h
    have n : noCl a b a.size = true := by unfold meetB at h; simp only [Bool.and_eq_true] at h; exact h.2
    simp only [if_true]
    rw [meL_comm a b _ n, m.sz]
  · rw [h]; rfl
theorem bt_strOf (L : List Int) (i : Nat) (hi : i < L.length) (h : 0 ≤ L.getD i 0 ∧ L.getD i 0 < 256) : bt (strOfNums L) i = (L.getD i 0).toNat := by
  unfold bt
  rw [strOfNums_data, List.getD_eq_getElem?_getD, List.getElem?_map, List.getElem?_eq_getElem hi]
  rw [List.getD_eq_getElem?_getD, List.getElem?_eq_getElem hi] at h ⊢
  simp only [Option.map_some, Option.getD_some] at h ⊢
  rw [UInt8.toNat_ofNat']
  omega
theorem meL_at (a b : ByteArray) (k i : Nat) (hi : i < k) : (meL a b k).getD i 0 = (meC a b i : Int) := by
  induction k with
  | zero => omega
  | succ k ih =>
    rw [meL, List.getD_eq_getElem?_getD]
    by_cases e : i = k
    · subst e
      rw [List.getElem?_append_right (by rw [meL_len]; omega), meL_len]; simp
    · rw [List.getElem?_append_left (by rw [meL_len]; omega), ← List.getD_eq_getElem?_getD]
      exact ih (by omega)
theorem meet_size {a b : ByteArray} (h : meetB a b = true) : (meetS a b).size = a.size := by
  unfold meetS; rw [if_pos h, strOfNums_size, meL_len]
theorem meC_ok {a b : ByteArray} (m : Meets a b) (i : Nat) (hi : i < a.size) : meC a b i = 88 ∨ (48 ≤ meC a b i ∧ meC a b i ≤ 57) := by
  have x := (mk_of m.sa).ok i hi
  have y := (mk_of m.sb).ok i (by rw [← m.sz]; exact hi)
  unfold meC; split <;> omega
theorem meet_bt {a b : ByteArray} (h : meetB a b = true) (i : Nat) (hi : i < a.size) : bt (meetS a b) i = meC a b i := by
  have m := meets_of h
  have c := meC_ok m i hi
  unfold meetS
  rw [if_pos h, bt_strOf _ _ (by rw [meL_len]; exact hi) (by rw [meL_at _ _ _ _ hi]; omega), meL_at _ _ _ _ hi]
  omega
theorem meet_sane {a b : ByteArray} (h : meetB a b = true) : saneM (meetS a b) = true := by
  have m := meets_of h
  have k := mk_of m.sa
  unfold saneM
  rw [meet_size h, show decide (1 ≤ a.size ∧ a.size ≤ 4) = true by simp; exact ⟨k.lo, k.hi⟩, Bool.true_and]
  refine upB_of fun i hi => ?_
  rw [meet_bt h i hi]
  have c := meC_ok m i hi
  unfold okB digB
  simp
  omega
theorem match_iff {s : ByteArray} (h : saneM s = true) (n : Int) : matchM s n = true ↔ 0 ≤ n ∧ n < P10 s.size ∧ ∀ i, i < s.size → bt s i = 88 ∨ (bt s i : Int) - 48 = n / P10 (s.size - 1 - i) % 10 := by
  unfold matchM
  rw [h]
  simp only [Bool.true_and, Bool.and_eq_true, decide_eq_true_eq, and_assoc]
  constructor
  · rintro ⟨h1, h2, h3⟩
    refine ⟨h1, h2, fun i hi => ?_⟩
    have := fits_at h3 i hi
    unfold fitB at this
    simpa using this
  · rintro ⟨h1, h2, h3⟩
    refine ⟨h1, h2, fits_of fun i hi => ?_⟩
    unfold fitB
    simpa using h3 i hi
theorem meet_match {a b : ByteArray} (h : meetB a b = true) (n : Int) : matchM (meetS a b) n = (matchM a n && matchM b n) := by
  have m := meets_of h
  rw [Bool.eq_iff_iff, Bool.and_eq_true, match_iff (meet_sane h), match_iff m.sa, match_iff m.sb, meet_size h, m.sz]
  have x := (mk_of m.sa).ok
  constructor
  · rintro ⟨h1, h2, h3⟩
    refine ⟨⟨h1, h2, fun i hi => ?_⟩, h1, h2, fun i hi => ?_⟩
    · have g := h3 i hi
      have c := m.no i (by rw [m.sz]; exact hi)
      rw [meet_bt h i (by rw [m.sz]; exact hi)] at g
      unfold meC at g
      split at g <;> omega
    · have g := h3 i hi
      have c := m.no i (by rw [m.sz]; exact hi)
      rw [meet_bt h i (by rw [m.sz]; exact hi)] at g
      unfold meC at g
      split at g <;> omega
  · rintro ⟨⟨h1, h2, h3⟩, _, _, h4⟩
    refine ⟨h1, h2, fun i hi => ?_⟩
    have g1 := h3 i hi
    have g2 := h4 i hi
    rw [meet_bt h i (by rw [m.sz]; exact hi)]
    unfold meC
    split <;> omega
theorem meet_none {a b : ByteArray} (ha : saneM a = true) (hb : saneM b = true) (hs : a.size = b.size) (h : meetB a b = false) (n : Int) : (matchM a n && matchM b n) = false := by
  rcases Bool.eq_false_or_eq_true (matchM a n && matchM b n) with g | g
  · exfalso
    rw [Bool.and_eq_true, match_iff ha, match_iff hb] at g
    obtain ⟨⟨_, _, g1⟩, _, _, g2⟩ := g
    have c : noCl a b a.size = true := noCl_of fun i hi => (cl_no a b i).2 (by
      have e1 := g1 i hi
      have e2 := g2 i (by rw [← hs]; exact hi)
      rw [hs] at e1
      omega)
    unfold meetB at h
    rw [ha, hb, c, hs] at h
    simp at h
  · exact g
end Go.Proofs.YtinpglfclbnhlaaGreatDoor

namespace Go.Proofs.YtinpglfclbnhlaaGreatDoor
open Go.RowKit
set_option linter.unusedVariables false
theorem sane_append : ∀ (a b : List R), sane a → sane b → (∀ x ∈ a, ∀ y ∈ b, x.2 + 1 < y.1) → sane (a ++ b) := by
  intro a
  induction a with
  | nil => intro b _ hb _; exact hb
  | cons r t ih =>
    intro b ha hb h
    rw [List.cons_append]
    refine sane_cons (sane_head ha) ?_ (ih b (sane_tail ha) hb (fun x hx y hy => h x (by simp [hx]) y hy))
    intro q u e
    cases t with
    | nil => simp at e; subst e; exact h r (by simp) q (by simp)
    | cons p v =>
      simp at e
      have := ha.2.1
      rw [← e.1]; exact this
theorem sane_one (r : R) (h : okR r) : sane [r] := sane_cons h (fun _ _ e => by cases e) trivial
theorem digR_mem {b : Nat} {lo : Int} {j : Nat} {x : R} (h : x ∈ digR b lo j) : ∃ i : Nat, i < j ∧ x = (10 * (lo + i) + ((b : Int) - 48), 10 * (lo + i) + ((b : Int) - 48)) := by
  unfold digR at h
  obtain ⟨i, hi, e⟩ := List.mem_map.1 h
  exact ⟨i, List.mem_range.1 hi, e.symm⟩
theorem digR_sane (b : Nat) (lo : Int) (hb : 48 ≤ b ∧ b ≤ 57) (h0 : 0 ≤ lo) : ∀ j : Nat, lo + j ≤ 100000 → sane (digR b lo j) := by
  intro j
  induction j with
  | zero => intro _; exact trivial
  | succ j ih =>
    intro hj
    rw [digR_snoc]
    refine sane_append _ _ (ih (by omega)) (sane_one _ ⟨by simp, by simp only; omega, by simp only; omega⟩) ?_
    intro x hx y hy
    obtain ⟨i, hi, rfl⟩ := digR_mem hx
    simp only [List.mem_singleton] at hy
    subst hy
    simp only
    omega
theorem furR_rng {b : Nat} {r : R} (hb : b = 88 ∨ (48 ≤ b ∧ b ≤ 57)) {x : R} (h : x ∈ furR b r) : 10 * r.1 ≤ x.1 ∧ x.2 ≤ 10 * r.2 + 9 := by
  unfold furR at h
  split at h
  · simp only [List.mem_singleton] at h; subst h; simp only; omega
  · obtain ⟨i, hi, rfl⟩ := digR_mem h
    simp only; omega
theorem furR_sane {b : Nat} {r : R} (hb : b = 88 ∨ (48 ≤ b ∧ b ≤ 57)) (h : 0 ≤ r.1 ∧ r.1 ≤ r.2 ∧ r.2 < 10000) : sane (furR b r) := by
  unfold furR
  split
  · exact sane_one _ ⟨by simp only; omega, by simp only; omega, by simp only; omega⟩
  · exact digR_sane b r.1 (by omega) h.1 _ (by omega)
theorem furL_cons (b : Nat) (r : R) (t : List R) : furL b (r :: t) = furR b r ++ furL b t := by unfold furL; simp
theorem furL_sane {b : Nat} (hb : b = 88 ∨ (48 ≤ b ∧ b ≤ 57)) : ∀ {l : List R}, sane l → Gd 10000 l → sane (furL b l) := by
  intro l
  induction l with
  | nil => intro _ _; exact trivial
  | cons r t ih =>
    intro hs hg
    rw [furL_cons]
    refine sane_append _ _ (furR_sane hb (hg r (by simp))) (ih (sane_tail hs) (fun x hx => hg x (by simp [hx]))) ?_
    intro x hx y hy
    have x1 := furR_rng hb hx
    unfold furL at hy
    obtain ⟨q, hq, hy⟩ := List.mem_flatMap.1 hy
    have y1 := furR_rng hb hy
    have gq := hg q (by simp [hq])
    have bq := sane_beyond hs q.1 ⟨q, hq, Int.le_refl _, gq.2.1, by omega, by omega⟩
    omega
theorem setK_sane (s : ByteArray) (h : ∀ i, i < s.size → bt s i = 88 ∨ (48 ≤ bt s i ∧ bt s i ≤ 57)) (h4 : s.size ≤ 4) : ∀ k, k ≤ s.size → sane (setK s k) := by
  intro k
  induction k with
  | zero => intro _; exact sane_one _ ⟨by decide, by decide, by decide⟩
  | succ k ih =>
    intro hk
    have g := (setK_ok s h k (by omega)).1
    have p := P10_le k (by omega)
    exact furL_sane (h k (by omega)) (ih (by omega)) (fun r hr => by have := g r hr; omega)
theorem setM_sane (s : ByteArray) : sane (setM s) := by
  unfold setM
  split
  · rename_i h
    have m := mk_of h
    exact setK_sane s m.ok m.hi s.size (Nat.le_refl _)
  · exact trivial
def inL (l : List R) (n : Int) : Prop := ∃ r ∈ l, r.1 ≤ n ∧ n ≤ r.2
theorem inL_fur {b : Nat} (hb : b = 88 ∨ (48 ≤ b ∧ b ≤ 57)) (l : List R) (h : ∀ r ∈ l, r.1 ≤ r.2) (n : Int) : inL (furL b l) n ↔ inL l (n / 10) ∧ (b = 88 ∨ (b : Int) - 48 = n % 10) := by
  constructor
  · rintro ⟨x, hx, x1, x2⟩
    unfold furL at hx
    obtain ⟨r, hr, hx⟩ := List.mem_flatMap.1 hx
    unfold furR at hx
    split at hx
    · simp only [List.mem_singleton] at hx
      subst hx
      simp only at x1 x2
      exact ⟨⟨r, hr, by omega, by omega⟩, by omega⟩
    · obtain ⟨i, hi, rfl⟩ := digR_mem hx
      simp only at x1 x2
      exact ⟨⟨r, hr, by omega, by omega⟩, by omega⟩
  · rintro ⟨⟨r, hr, r1, r2⟩, g⟩
    have hrr := h r hr
    by_cases c : b = 88
    · refine ⟨(10 * r.1, 10 * r.2 + 9), ?_, by simp only; omega, by simp only; omega⟩
      unfold furL
      refine List.mem_flatMap.2 ⟨r, hr, ?_⟩
      unfold furR
      rw [if_pos c]; simp
    · refine ⟨(10 * (r.1 + ((n / 10 - r.1).toNat : Nat)) + ((b : Int) - 48), 10 * (r.1 + ((n / 10 - r.1).toNat : Nat)) + ((b : Int) - 48)), ?_, by simp only; omega, by simp only; omega⟩
      unfold furL
      refine List.mem_flatMap.2 ⟨r, hr, ?_⟩
      unfold furR
      rw [if_neg c]
      unfold digR
      exact List.mem_map.2 ⟨(n / 10 - r.1).toNat, List.mem_range.2 (by omega), rfl⟩
theorem inL_set (s : ByteArray) (h : ∀ i, i < s.size → bt s i = 88 ∨ (48 ≤ bt s i ∧ bt s i ≤ 57)) : ∀ k, k ≤ s.size → ∀ n, inL (setK s k) n ↔ 0 ≤ n ∧ n < P10 k ∧ ∀ i, i < k → bt s i = 88 ∨ (bt s i : Int) - 48 = n / P10 (k - 1 - i) % 10 := by
  intro k
  induction k with
  | zero =>
    intro _ n
    unfold inL setK P10
    simp only [List.mem_singleton, exists_eq_left]
    constructor
    · rintro ⟨h1, h2⟩; exact ⟨h1, by omega, fun i hi => by omega⟩
    · rintro ⟨h1, h2, _⟩; exact ⟨h1, by omega⟩
  | succ k ih =>
    intro hk n
    have g := (setK_ok s h k (by omega)).1
    have hb := h k (by omega)
    rw [setK, inL_fur hb _ (fun r hr => (g r hr).2.1), ih (by omega), P10]
    have pk := P10_pos k
    have dv : ∀ i, i < k → n / 10 / P10 (k - 1 - i) = n / P10 (k - i) := fun i hi => by
      have e : k - i = (k - 1 - i) + 1 := by omega
      rw [e, P10, Int.ediv_ediv, if_neg (by omega), Int.sub_zero]
    constructor
    · rintro ⟨⟨h1, h2, h3⟩, h4⟩
      refine ⟨by omega, by omega, fun i hi => ?_⟩
      by_cases e : i = k
      · subst e
        rw [show i + 1 - 1 - i = 0 by omega, P10, Int.ediv_one]
        exact h4
      · have := h3 i (by omega)
        rw [dv i (by omega)] at this
        rwa [show k + 1 - 1 - i = k - i by omega]
    · rintro ⟨h1, h2, h3⟩
      refine ⟨⟨by omega, by omega, fun i hi => ?_⟩, ?_⟩
      · have := h3 i (by omega)
        rw [dv i hi]
        rwa [show k + 1 - 1 - i = k - i by omega] at this
      · have := h3 k (by omega)
        rwa [show k + 1 - 1 - k = 0 by omega, P10, Int.ediv_one] at this
theorem setM_has (s : ByteArray) (n : Int) : hasB (setM s) n = matchM s n := by
  rw [Bool.eq_iff_iff, has_sane (setM_sane s)]
  rcases Bool.eq_false_or_eq_true (saneM s) with h | h
  · have m := mk_of h
    rw [match_iff h]
    have e : setM s = setK s s.size := by unfold setM; rw [h]; rfl
    rw [e]
    exact inL_set s m.ok s.size (Nat.le_refl _) n
  · have e : setM s = [] := by unfold setM; rw [h]; rfl
    rw [e]
    unfold matchM
    rw [h]
    simp
end Go.Proofs.YtinpglfclbnhlaaGreatDoor
