/-
  Joined: SortS, SortG, SortT, SortP, SortQ.
-/
import Derived.Test.YtinpglfclbnhlaaGreatDoorGSoA
import Derived.Deep.Cut
import Derived.Deep.CutRange
namespace Go.Proofs.YtinpglfclbnhlaaGreatDoor
open Go.RowKit Go.Sort Go.Shelf
set_option linter.unusedVariables false
theorem RowR.swap2 {w0 W : World} {b off n : Nat} {d : Array R} (r : RowR w0 b off n) (h : SW w0 b off d W) (hs : d.size = n) (i j : Nat) (hi : i < n) (hj : j < n) :
    ∃ x1 x2 y1 y2 : Int,
      (W.cell? ⟨b, off + i * 2, none⟩ = some (.int .i64 x1) ∧ W.cell? ⟨b, off + i * 2 + 1, none⟩ = some (.int .i64 x2) ∧ W.frozen? ⟨b, off + i * 2, none⟩ = false ∧ W.frozen? ⟨b, off + i * 2 + 1, none⟩ = false) ∧
      (W.cell? ⟨b, off + j * 2, none⟩ = some (.int .i64 y1) ∧ W.cell? ⟨b, off + j * 2 + 1, none⟩ = some (.int .i64 y2) ∧ W.frozen? ⟨b, off + j * 2, none⟩ = false ∧ W.frozen? ⟨b, off + j * 2 + 1, none⟩ = false) ∧
      ((W.setCell ⟨b, off + i * 2, none⟩ (.int .i64 y1)).cell? ⟨b, off + j * 2, none⟩ = some (.int .i64 y1) ∧ ((W.setCell ⟨b, off + i * 2, none⟩ (.int .i64 y1)).setCell ⟨b, off + i * 2 + 1, none⟩ (.int .i64 y2)).cell? ⟨b, off + j * 2 + 1, none⟩ = some (.int .i64 y2)) ∧
      Hid (SW w0 b off (swp d i j) ((((W.setCell ⟨b, off + i * 2, none⟩ (.int .i64 y1)).setCell ⟨b, off + i * 2 + 1, none⟩ (.int .i64 y2)).setCell ⟨b, off + j * 2, none⟩ (.int .i64 x1)).setCell ⟨b, off + j * 2 + 1, none⟩ (.int .i64 x2)).drew) := by
  obtain ⟨x1, x2, y1, y2, f, g, HS⟩ := r.swap h hs i j hi hj
  refine ⟨x1, x2, y1, y2, f, g, ?_, HS⟩
  by_cases e : i = j
  · subst e
    exact ⟨World.cell?_setCell_same' _ _ _ (by rw [f.1]; rfl), World.cell?_setCell_same' _ _ _ (by rw [World.cell?_setCell_other _ _ _ _ (by intro h; simp only [Addr.mk.injEq] at h; omega), f.2.1]; rfl)⟩
  · refine ⟨?_, ?_⟩
    · rw [World.cell?_setCell_other _ _ _ _ (by intro h; simp only [Addr.mk.injEq] at h; omega)]; exact g.1
    · rw [World.cell?_setCell_other _ _ _ _ (by intro h; simp only [Addr.mk.injEq] at h; omega), World.cell?_setCell_other _ _ _ _ (by intro h; simp only [Addr.mk.injEq] at h; omega)]; exact g.2.1
end Go.Proofs.YtinpglfclbnhlaaGreatDoor

namespace Go.Proofs.YtinpglfclbnhlaaGreatDoor
open Go.RowKit Go.Sort Go.Shelf
set_option linter.unusedVariables false
theorem sift_size (hi first : Nat) : ∀ (m r : Nat) (d : Array R), hi - r ≤ m → (siftDown ltR hi first r d).size = d.size := by
  intro m
  induction m with
  | zero => intro r d h; rw [sift_stop _ _ _ _ (by omega)]
  | succ m ih =>
    intro r d h
    by_cases c : 2 * r + 1 < hi
    · rw [sift_step _ _ _ _ c]
      have : r < chF d hi first r := by unfold chF; split <;> omega
      split
      · rw [ih _ _ (by omega), size_swp]
      · rfl
    · rw [sift_stop _ _ _ _ c]
set_option maxHeartbeats 2000000 in
theorem heap_any {w0 : World} {b off n : Nat} (R0 : RowR w0 b off n) (cap : Nat) (d : Array R) (a l : Nat) (w : World) (hW : SW w0 b off d w) (hs : d.size = n) (hl : a + l ≤ n) (h12 : 12 < l) :
    Calls Tryz.prog 98 #[.slice (some ⟨b, off, none⟩) n cap, .int .i64 a, .int .i64 ((a : Int) + l), fvR] w fun e w' => e = .returned (.tuple #[]) ∧ SW w0 b off (Sort.heapSort ltR d a (a + l)) w' := by
  have hn := R0.hn
  have CS := Lib.hid (fun (d : Array R) (lo hi : Nat) w hW hs hhi hlo => sift_any R0 cap d lo hi a w hW hs hhi hlo)
  have RW := Lib.hid R0
  clear R0
  have HW := Lib.hid hW
  clear hW
  have ws : IntKind.i64.wrap ((a : Int) + l - a) = l := by rw [IntKind.wrap_i64]; omega
  unfold fvR at CS ⊢
  go_enter Tryz.func98, Tryz.ntmps98
  go_wp2
  go_loopw [11] (fun vi wr => ∃ (k : Nat) (x : Int) (dk : Array R), vi = .int .i64 x ∧ x = (k : Int) - 1 ∧ k ≤ l ∧ dk.size = n ∧ SW w0 b off dk wr ∧ Hid (heapBuild ltR l a k dk = heapBuild ltR l a ((l - 1) / 2 + 1) d)) (fun vi _ => (intOf vi + 1).toNat)
  case atStart => exact ⟨(l - 1) / 2 + 1, _, d, rfl, by omega, by omega, hs, HW.out, Lib.hid rfl⟩
  case round =>
    obtain ⟨k, x, dk, rfl, hx, hkl, hsk, hwr, HO⟩ := hrel
    have HWR := Lib.hid hwr
    clear hwr
    cases k with
    | zero =>
      have ex : x = -1 := by omega
      subst ex
      clear hx
      go_wp2
      go_loopw [12] (fun vi wr2 => ∃ (k : Nat) (x : Int) (dj : Array R), vi = .int .i64 x ∧ x = (k : Int) - 1 ∧ k ≤ l ∧ dj.size = n ∧ SW w0 b off dj wr2 ∧ Hid (heapPop ltR a k dj = heapPop ltR a l dk)) (fun vi _ => (intOf vi + 1).toNat)
      case atStart => exact ⟨l, _, dk, rfl, by omega, by omega, hsk, HWR.out, Lib.hid rfl⟩
      case round =>
        obtain ⟨k, x, dj, rfl, hx, hkl, hsj, hwr, HI⟩ := hrel
        have HJ := Lib.hid hwr
        clear hwr
        cases k with
        | zero =>
          have ex : x = -1 := by omega
          subst ex
          clear hx
          go_wp2
          go_end0
          refine ⟨rfl, ?_⟩
          unfold Sort.heapSort
          rw [Nat.add_sub_cancel_left, ← HO.out]
          show SW w0 b off (heapPop ltR a l dk) _
          rw [← HI.out]
          exact HJ.out
        | succ k =>
          have ex : x = (k : Int) := by omega
          subst ex
          clear hx
          have g0 : decide ((0 : Int) ≤ k) = true := decide_eq_true (by omega)
          have t1 : ((a : Int) + (k : Int)).toNat = a + k := by omega
          have m1 : (a : Int) + (k : Int) < (n : Int) := by omega
          have m2 : (a : Int) < (n : Int) := by omega
          have n1 : (0 : Int) ≤ (a : Int) + (k : Int) := by omega
          have v1 : IntKind.i64.wrap ((a : Int) + (k : Int)) = (a : Int) + (k : Int) := by rw [IntKind.wrap_i64]; omega
          obtain ⟨x1, x2, y1, y2, ⟨fa, fb, fc, fd⟩, ⟨ga, gb, gc, gd⟩, ⟨ka, kb⟩, HS⟩ := RW.out.swap2 HJ.out hsj a (a + k) (by omega) (by omega)
          go_wp2_with fail
          go_region
          all_goals go_wp2_with fail
          all_goals (refine (CS.out (swp dj a (a + k)) 0 k _ HS.out (by rw [size_swp]; exact hsj) (by omega) (by omega)).mono ?_; rintro e w2 ⟨rfl, h2⟩)
          go_wp2
          refine ⟨⟨k, _, _, rfl, by omega, by omega, ?_, h2, ?_⟩, ?_⟩
          · rw [sift_size k a _ 0 _ (Nat.le_refl _), size_swp]; exact hsj
          · exact Lib.hid (by rw [← HI.out]; rfl)
          · simp only [intOf]; omega
    | succ k =>
      have ex : x = (k : Int) := by omega
      subst ex
      clear hx
      have g0 : decide ((0 : Int) ≤ k) = true := decide_eq_true (by omega)
      go_wp2_with fail
      refine (CS.out dk k l _ HWR.out hsk (by omega) (by omega)).mono ?_
      rintro e w2 ⟨rfl, h2⟩
      go_wp2
      refine ⟨⟨k, _, _, rfl, by omega, by omega, ?_, h2, ?_⟩, ?_⟩
      · rw [sift_size l a _ k _ (Nat.le_refl _)]; exact hsk
      · exact Lib.hid (by rw [← HO.out]; rfl)
      · simp only [intOf]; omega
end Go.Proofs.YtinpglfclbnhlaaGreatDoor

namespace Go.Proofs.YtinpglfclbnhlaaGreatDoor
open Go.RowKit Go.Sort Go.Shelf
set_option linter.unusedVariables false
set_option linter.unusedSimpArgs false
theorem su_go (p : R → Bool) (d : Array R) (j i : Nat) (h : i ≤ j) (hp : p d[i]! = true) : scanUp p d j i = scanUp p d j (i + 1) := by
  rw [scanUp, if_pos (by simp [h, hp])]
theorem su_stop (p : R → Bool) (d : Array R) (j i : Nat) (h : ¬ i ≤ j ∨ p d[i]! = false) : scanUp p d j i = i := by
  rw [scanUp, if_neg]
  rcases h with h | h <;> simp [h]
theorem su_bd (p : R → Bool) (d : Array R) (j : Nat) : ∀ (m i : Nat), j + 1 - i ≤ m → i ≤ j + 1 → i ≤ scanUp p d j i ∧ scanUp p d j i ≤ j + 1 := by
  intro m
  induction m with
  | zero => intro i h h2; rw [su_stop p d j i (.inl (by omega))]; omega
  | succ m ih =>
    intro i h h2
    by_cases c : i ≤ j
    · cases hp : p d[i]! with
      | true => rw [su_go p d j i c hp]; have := ih (i + 1) (by omega) (by omega); omega
      | false => rw [su_stop p d j i (.inr hp)]; omega
    · rw [su_stop p d j i (.inl c)]; omega
theorem sd_go (p : R → Bool) (d : Array R) (i j : Nat) (h : i ≤ j + 1) (hp : p d[j + 1]! = true) : scanDown p d i (j + 1) = scanDown p d i j := by
  rw [scanDown, if_pos (by simp [h, hp])]
theorem sd_stop (p : R → Bool) (d : Array R) (i j : Nat) (h0 : 1 ≤ i) (h : ¬ i ≤ j ∨ p d[j]! = false) : scanDown p d i j = j := by
  cases j with
  | zero => rw [scanDown]
  | succ j =>
    rw [scanDown, if_neg]
    rcases h with h | h <;> simp [h]
theorem sd_bd (p : R → Bool) (d : Array R) (i : Nat) (h0 : 1 ≤ i) : ∀ j, i ≤ j + 1 → i ≤ scanDown p d i j + 1 ∧ scanDown p d i j ≤ j := by
  intro j
  induction j with
  | zero => intro h; rw [scanDown]; omega
  | succ j ih =>
    intro h
    by_cases c : i ≤ j + 1
    · cases hp : p d[j + 1]! with
      | true => rw [sd_go p d i j c hp]; have := ih (by omega); omega
      | false => rw [sd_stop p d i (j + 1) h0 (.inr hp)]; omega
    · rw [sd_stop p d i (j + 1) h0 (.inl c)]; omega
end Go.Proofs.YtinpglfclbnhlaaGreatDoor

namespace Go.Proofs.YtinpglfclbnhlaaGreatDoor
open Go.RowKit Go.Sort Go.Shelf
set_option linter.unusedVariables false
set_option linter.unusedSimpArgs false
theorem part_stop (a i j : Nat) (d : Array R) (i2 j2 : Nat) (e1 : scanUp (fun x => ltR x d[a]!) d j i = i2) (e2 : scanDown (fun x => !ltR x d[a]!) d i2 j = j2) (h : i2 > j2) : partLoop ltR a i j d = (j2, d) := by
  rw [partLoop]; simp only [e1, e2]; rw [if_pos h]
theorem part_go (a i j : Nat) (d : Array R) (i2 j2 : Nat) (e1 : scanUp (fun x => ltR x d[a]!) d j i = i2) (e2 : scanDown (fun x => !ltR x d[a]!) d i2 j = j2) (h : ¬ i2 > j2) (h1 : i ≤ i2) (h2 : j2 ≤ j) (h0 : 1 ≤ i) : partLoop ltR a i j d = partLoop ltR a (i2 + 1) (j2 - 1) (swp d i2 j2) := by
  rw [partLoop]; simp only [e1, e2]; rw [if_neg h, dif_pos (by omega)]
set_option maxHeartbeats 4000000 in
set_option maxRecDepth 100000 in
theorem part_any {w0 : World} {b off n : Nat} (R0 : RowR w0 b off n) (cap : Nat) (d : Array R) (a c pv : Nat) (w : World) (hW : SW w0 b off d w) (hs : d.size = n) (hac : a < c) (hc : c + 1 ≤ n) (hp1 : a ≤ pv) (hp2 : pv < c + 1) :
    Calls Tryz.prog 104 #[.slice (some ⟨b, off, none⟩) n cap, .int .i64 a, .int .i64 ((c : Int) + 1), .int .i64 pv, fvR] w fun e w' => e = .returned (.tuple #[.int .i64 (Sort.partition ltR d a (c + 1) pv).1, .bool (Sort.partition ltR d a (c + 1) pv).2.1]) ∧ SW w0 b off (Sort.partition ltR d a (c + 1) pv).2.2 w' := by
  have mx := mixed
  have hn := R0.hn
  have RW := Lib.hid R0
  clear R0
  obtain ⟨x1, x2, y1, y2, ⟨fa, fb, fc, fd⟩, ⟨ga, gb, gc, gd⟩, ⟨ka, kb⟩, HS⟩ := RW.out.swap2 hW hs a pv (by omega) (by omega)
  have za : (a : Int) < (n : Int) := by omega
  have zp : (pv : Int) < (n : Int) := by omega
  have wc0 : IntKind.i64.wrap ((c : Int) + 1 - 1) = (c : Int) := by rw [IntKind.wrap_i64]; omega
  have wc : IntKind.i64.wrap (c : Int) = (c : Int) := by rw [IntKind.wrap_i64]; omega
  have wa : IntKind.i64.wrap ((a : Int) + 1) = (a : Int) + 1 := by rw [IntKind.wrap_i64]; omega
  obtain ⟨dk, hdk⟩ : ∃ dk, dk = swp d a pv := ⟨_, rfl⟩
  obtain ⟨i1, hi1⟩ : ∃ i, i = a + 1 := ⟨_, rfl⟩
  have hsk : dk.size = n := by rw [hdk, size_swp]; exact hs
  have ei1 : (a : Int) + 1 = (i1 : Int) := by omega
  rw [← hdk] at HS
  have EI1 := Lib.hid ei1
  clear ei1
  have EP : Sort.partition ltR d a (c + 1) pv = (
      let i := scanUp (fun x => ltR x dk[a]!) dk c i1
      let j := scanDown (fun x => !ltR x dk[a]!) dk i c
      if i > j then (j, true, swp dk j a) else
        let r := partLoop ltR a (i + 1) (j - 1) (swp dk i j)
        (r.1, false, swp r.2 r.1 a)) := by
    rw [hdk, hi1]; rfl
  generalize Sort.partition ltR d a (c + 1) pv = res at EP ⊢
  dsimp only at EP
  have HR := Lib.hid EP.symm
  have HDK := Lib.hid hdk
  have HI1 := Lib.hid hi1
  clear EP hdk hW hi1
  unfold fvR
  go_enter Tryz.func104, Tryz.ntmps104
  go_wp2_with fail
  go_region
  have HS1 := HS
  generalize ((((w.setCell ⟨b, off + a * 2, none⟩ (.int .i64 y1)).setCell ⟨b, off + a * 2 + 1, none⟩ (.int .i64 y2)).setCell ⟨b, off + pv * 2, none⟩ (.int .i64 x1)).setCell ⟨b, off + pv * 2 + 1, none⟩ (.int .i64 x2)).drew = W1 at HS1 ⊢
  clear fa fb fc fd ga gb gc gd ka kb HS
  go_wp2_with fail
  rw [EI1.out]
  have hi1a : a + 1 ≤ i1 := Nat.le_of_eq HI1.out.symm
  have hi1b : i1 ≤ a + 1 := Nat.le_of_eq HI1.out
  go_loopw [12] (fun v wr => ∃ p1 : Nat, v = .int .i64 p1 ∧ i1 ≤ p1 ∧ p1 ≤ c + 1 ∧ Hid (SW w0 b off dk wr) ∧ Hid (scanUp (fun x => ltR x dk[a]!) dk c p1 = scanUp (fun x => ltR x dk[a]!) dk c i1)) (fun v _ => c + 1 - (intOf v).toNat)
  case atStart => exact ⟨i1, rfl, by omega, by omega, HS1, Lib.hid rfl⟩
  case round =>
    obtain ⟨p1, rfl, h11, h21, HP1, HE1⟩ := hrel
    go_upto_region 3 with fail
    go_cut [47] from 32 to 49 (fun v w' => ∃ gb : Bool, v = .bool gb ∧ Hid (gb = (decide (p1 ≤ c) && (fun x => ltR x dk[a]!) dk[p1]!)) ∧ Hid (SW w0 b off dk w'))
    case first =>
      by_cases hle : p1 ≤ c
      · have z1 : (p1 : Int) < (n : Int) := by omega
        have za : (a : Int) < (n : Int) := by omega
        have g1 : decide ((p1 : Int) ≤ (c : Int)) = true := decide_eq_true (by omega)
        have g1' : (p1 : Int) ≤ (c : Int) := by omega
        obtain ⟨x1, x2, y1, y2, cf, hcf, cj1, cj2, cp1, cp2, CX⟩ := RW.out.two HP1.out hsk p1 a (by omega) (by omega)
        have HCF := Lib.hid hcf
        clear hcf
        rcases hl : decide (cf < 0) with _ | _
        · have hcn : ¬ cf < 0 := of_decide_eq_false hl
          go_wp2_with fail
          go_quiet_grown (first | (go_at_call 79; exact CX.out _ _))
          go_wp2
          go_meet
          case rel => exact ⟨false, rfl, Lib.hid (by simp [← HCF.out, hl]; try omega), Lib.hid (HP1.out.grown _ _)⟩
        · have hcn : cf < 0 := of_decide_eq_true hl
          go_wp2_with fail
          go_quiet_grown (first | (go_at_call 79; exact CX.out _ _))
          go_wp2
          go_meet
          case rel => exact ⟨true, rfl, Lib.hid (by simp [← HCF.out, hl]; try omega), Lib.hid (HP1.out.grown _ _)⟩
      · have g1 : decide ((p1 : Int) ≤ (c : Int)) = false := decide_eq_false (by omega)
        have g1' : ¬ (p1 : Int) ≤ (c : Int) := by omega
        go_wp2_with fail
        go_region
        all_goals go_wp2
        go_meet
        case rel => exact ⟨false, rfl, Lib.hid (by rw [decide_eq_false hle]; rfl), Lib.hid HP1.out.drew⟩
    case rest =>
      obtain ⟨gb, rfl, HB, HQ1⟩ := hcut
      clear HP1
      cases gb with
      | true =>
        have h : p1 ≤ c ∧ (fun x => ltR x dk[a]!) dk[p1]! = true := by have := HB.out; simpa using this.symm
        obtain ⟨ha, hb⟩ := h
        go_wp2
        refine ⟨⟨p1 + 1, by go_num, by omega, by omega, HQ1, Lib.hid ?_⟩, ?_⟩
        · rw [← HE1.out]; exact (su_go (fun x => ltR x dk[a]!) dk c p1 ha hb).symm
        · simp only [intOf]; omega
      | false =>
        have HZ1 : Hid (¬ p1 ≤ c ∨ (fun x => ltR x dk[a]!) dk[p1]! = false) := Lib.hid (by have := HB.out.symm; rw [Bool.and_eq_false_iff] at this; exact this.imp (fun h => of_decide_eq_false h) id)
        have HX1 : Hid (scanUp (fun x => ltR x dk[a]!) dk c i1 = p1) := Lib.hid (by rw [← HE1.out]; exact su_stop (fun x => ltR x dk[a]!) dk c p1 HZ1.out)
        clear HB HE1
        go_wp2_with fail
        go_loopw [13] (fun v wr => ∃ p2 : Nat, v = .int .i64 p2 ∧ p1 ≤ p2 + 1 ∧ p2 ≤ c ∧ Hid (SW w0 b off dk wr) ∧ Hid (scanDown (fun x => !ltR x dk[a]!) dk p1 p2 = scanDown (fun x => !ltR x dk[a]!) dk p1 c)) (fun v _ => (intOf v).toNat)
        case atStart => exact ⟨c, rfl, by omega, by omega, HQ1, Lib.hid rfl⟩
        case round =>
          obtain ⟨p2, rfl, h12, h22, HP2, HE2⟩ := hrel
          go_upto_region 5 with fail
          go_cut [66] from 50 to 68 (fun v w' => ∃ gb : Bool, v = .bool gb ∧ Hid (gb = (decide (p1 ≤ p2) && (fun x => !ltR x dk[a]!) dk[p2]!)) ∧ Hid (SW w0 b off dk w'))
          case first =>
            by_cases hle : p1 ≤ p2
            · obtain ⟨q, rfl⟩ : ∃ q, p2 = q + 1 := ⟨p2 - 1, by omega⟩
              have wq : IntKind.i64.wrap (q : Int) = (q : Int) := by rw [IntKind.wrap_i64]; omega
              have e0 : ((q : Int) + 1).toNat = q + 1 := by omega
              have z1 : (q : Int) + 1 < (n : Int) := by omega
              have z0 : (0 : Int) ≤ (q : Int) + 1 := by omega
              have za : (a : Int) < (n : Int) := by omega
              have g1 : decide ((p1 : Int) ≤ (q : Int) + 1) = true := decide_eq_true (by omega)
              have g1' : (p1 : Int) ≤ (q : Int) + 1 := by omega
              obtain ⟨x1, x2, y1, y2, cf, hcf, cj1, cj2, cp1, cp2, CX⟩ := RW.out.two HP2.out hsk (q + 1) a (by omega) (by omega)
              have HCF := Lib.hid hcf
              clear hcf
              rcases hl : decide (cf < 0) with _ | _
              · have hcn : ¬ cf < 0 := of_decide_eq_false hl
                go_wp2_with fail
                go_quiet_grown (first | (go_at_call 79; exact CX.out _ _))
                go_wp2
                go_meet
                case rel => exact ⟨true, rfl, Lib.hid (by simp [← HCF.out, hl]; try omega), Lib.hid (HP2.out.grown _ _)⟩
              · have hcn : cf < 0 := of_decide_eq_true hl
                go_wp2_with fail
                go_quiet_grown (first | (go_at_call 79; exact CX.out _ _))
                go_wp2
                go_meet
                case rel => exact ⟨false, rfl, Lib.hid (by simp [← HCF.out, hl]; try omega), Lib.hid (HP2.out.grown _ _)⟩
            · have g1 : decide ((p1 : Int) ≤ (p2 : Int)) = false := decide_eq_false (by omega)
              have g1' : ¬ (p1 : Int) ≤ (p2 : Int) := by omega
              go_wp2_with fail
              go_region
              all_goals go_wp2
              go_meet
              case rel => exact ⟨false, rfl, Lib.hid (by rw [decide_eq_false hle]; rfl), Lib.hid HP2.out.drew⟩
          case rest =>
            obtain ⟨gb, rfl, HB, HQ2⟩ := hcut
            clear HP2
            cases gb with
            | true =>
              have h : p1 ≤ p2 ∧ (fun x => !ltR x dk[a]!) dk[p2]! = true := by have := HB.out; simpa using this.symm
              obtain ⟨ha, hb⟩ := h
              obtain ⟨q, rfl⟩ : ∃ q, p2 = q + 1 := ⟨p2 - 1, by omega⟩
              have wq : IntKind.i64.wrap (q : Int) = (q : Int) := by rw [IntKind.wrap_i64]; omega
              go_wp2
              refine ⟨⟨q, by go_num, by omega, by omega, HQ2, Lib.hid ?_⟩, ?_⟩
              · rw [← HE2.out]; exact (sd_go (fun x => !ltR x dk[a]!) dk p1 q ha hb).symm
              · simp only [intOf]; omega
            | false =>
              have HZ2 : Hid (¬ p1 ≤ p2 ∨ (fun x => !ltR x dk[a]!) dk[p2]! = false) := Lib.hid (by have := HB.out.symm; rw [Bool.and_eq_false_iff] at this; exact this.imp (fun h => of_decide_eq_false h) id)
              have HX2 : Hid (scanDown (fun x => !ltR x dk[a]!) dk p1 c = p2) := Lib.hid (by rw [← HE2.out]; exact sd_stop (fun x => !ltR x dk[a]!) dk p1 p2 (by omega) HZ2.out)
              clear HB HE2
              have za : (a : Int) < (n : Int) := by omega
              by_cases hgt1 : p1 > p2
              · have g2 : decide ((p1 : Int) > (p2 : Int)) = true := decide_eq_true (by omega)
                have g2' : (p2 : Int) < (p1 : Int) := by omega
                have zj : (p2 : Int) < (n : Int) := by omega
                obtain ⟨x1, x2, y1, y2, ⟨fa, fb, fc, fd⟩, ⟨ga, gb, gc, gd⟩, ⟨ka, kb⟩, HSw⟩ := RW.out.swap2 HQ2.out hsk p2 a (by omega) (by omega)
                go_wp2_with fail
                go_region
                all_goals go_wp2
                (try simp only [Exit.inBlock, Exit.then]); refine bodyPost_ret (results_tmp2 rfl _ _ _) rfl ?_
                have er : res = (p2, true, swp dk p2 a) := HR.out.symm.trans (by simp only [HX1.out, HX2.out, if_pos hgt1])
                rw [er]
                exact ⟨rfl, HSw.out⟩
              · have g2 : decide ((p1 : Int) > (p2 : Int)) = false := decide_eq_false (by omega)
                have g2' : ¬ (p2 : Int) < (p1 : Int) := by omega
                have hne : p1 ≠ p2 := by
                  intro e
                  rcases HZ1.out with h | h
                  · omega
                  · rcases HZ2.out with h' | h'
                    · omega
                    · rw [← e] at h'
                      have h2 : ltR dk[p1]! dk[a]! = false := h
                      have h3 : (!ltR dk[p1]! dk[a]!) = false := h'
                      rw [h2] at h3
                      simp at h3
                obtain ⟨q, rfl⟩ : ∃ q, p2 = q + 1 := ⟨p2 - 1, by omega⟩
                have wq : IntKind.i64.wrap (q : Int) = (q : Int) := by rw [IntKind.wrap_i64]; omega
                have wq2 : IntKind.i64.wrap ((q : Int) + 1 - 1) = (q : Int) := by rw [IntKind.wrap_i64]; omega
                have wp : IntKind.i64.wrap ((p1 : Int) + 1) = (p1 : Int) + 1 := by rw [IntKind.wrap_i64]; omega
                have e0 : ((q : Int) + 1).toNat = q + 1 := by omega
                have z1 : (q : Int) + 1 < (n : Int) := by omega
                have z0 : (0 : Int) ≤ (q : Int) + 1 := by omega
                have zp : (p1 : Int) < (n : Int) := by omega
                obtain ⟨x1, x2, y1, y2, ⟨fa, fb, fc, fd⟩, ⟨ga, gb, gc, gd⟩, ⟨ka, kb⟩, HSw⟩ := RW.out.swap2 HQ2.out hsk p1 (q + 1) (by omega) (by omega)
                go_wp2_with fail
                go_region
                all_goals go_wp2_with fail
                clear fa fb fc fd ga gb gc gd ka kb
                go_loopw [12, 13] (fun vi vj wr => ∃ (i3 j3 : Nat) (dj : Array R), vi = .int .i64 i3 ∧ vj = .int .i64 j3 ∧ a + 1 ≤ i3 ∧ i3 ≤ j3 + 1 ∧ j3 ≤ c ∧ a ≤ j3 ∧ dj.size = n ∧ Hid (SW w0 b off dj wr) ∧ Hid (partLoop ltR a i3 j3 dj = partLoop ltR a (p1 + 1) q (swp dk p1 (q + 1)))) (fun vi vj _ => (intOf vj).toNat + 1 - (intOf vi).toNat)
                case atStart => exact ⟨p1 + 1, q, swp dk p1 (q + 1), by go_num, by go_num, by omega, by omega, by omega, by omega, by rw [size_swp]; exact hsk, HSw, Lib.hid rfl⟩
                case round =>
                  obtain ⟨i3, j3, dj, rfl, rfl, k1, k2, k3, k4, hsj, HS3, HM⟩ := hrel
                  go_wp2_with fail
                  go_loopw [12] (fun v wr => ∃ p3 : Nat, v = .int .i64 p3 ∧ i3 ≤ p3 ∧ p3 ≤ j3 + 1 ∧ Hid (SW w0 b off dj wr) ∧ Hid (scanUp (fun x => ltR x dj[a]!) dj j3 p3 = scanUp (fun x => ltR x dj[a]!) dj j3 i3)) (fun v _ => j3 + 1 - (intOf v).toNat)
                  case atStart => exact ⟨i3, rfl, by omega, by omega, HS3, Lib.hid rfl⟩
                  case round =>
                    obtain ⟨p3, rfl, h13, h23, HP3, HE3⟩ := hrel
                    go_upto_region 13 with fail
                    go_cut [120] from 105 to 122 (fun v w' => ∃ gb : Bool, v = .bool gb ∧ Hid (gb = (decide (p3 ≤ j3) && (fun x => ltR x dj[a]!) dj[p3]!)) ∧ Hid (SW w0 b off dj w'))
                    case first =>
                      by_cases hle : p3 ≤ j3
                      · have z1 : (p3 : Int) < (n : Int) := by omega
                        have za : (a : Int) < (n : Int) := by omega
                        have g1 : decide ((p3 : Int) ≤ (j3 : Int)) = true := decide_eq_true (by omega)
                        have g1' : (p3 : Int) ≤ (j3 : Int) := by omega
                        obtain ⟨x1, x2, y1, y2, cf, hcf, cj1, cj2, cp1, cp2, CX⟩ := RW.out.two HP3.out hsj p3 a (by omega) (by omega)
                        have HCF := Lib.hid hcf
                        clear hcf
                        rcases hl : decide (cf < 0) with _ | _
                        · have hcn : ¬ cf < 0 := of_decide_eq_false hl
                          go_wp2_with fail
                          go_quiet_grown (first | (go_at_call 79; exact CX.out _ _))
                          go_wp2
                          go_meet
                          case rel => exact ⟨false, rfl, Lib.hid (by simp [← HCF.out, hl]; try omega), Lib.hid (HP3.out.grown _ _)⟩
                        · have hcn : cf < 0 := of_decide_eq_true hl
                          go_wp2_with fail
                          go_quiet_grown (first | (go_at_call 79; exact CX.out _ _))
                          go_wp2
                          go_meet
                          case rel => exact ⟨true, rfl, Lib.hid (by simp [← HCF.out, hl]; try omega), Lib.hid (HP3.out.grown _ _)⟩
                      · have g1 : decide ((p3 : Int) ≤ (j3 : Int)) = false := decide_eq_false (by omega)
                        have g1' : ¬ (p3 : Int) ≤ (j3 : Int) := by omega
                        go_wp2_with fail
                        go_region
                        all_goals go_wp2
                        go_meet
                        case rel => exact ⟨false, rfl, Lib.hid (by rw [decide_eq_false hle]; rfl), Lib.hid HP3.out.drew⟩
                    case rest =>
                      obtain ⟨gb, rfl, HB, HQ3⟩ := hcut
                      clear HP3
                      cases gb with
                      | true =>
                        have h : p3 ≤ j3 ∧ (fun x => ltR x dj[a]!) dj[p3]! = true := by have := HB.out; simpa using this.symm
                        obtain ⟨ha, hb⟩ := h
                        go_wp2
                        refine ⟨⟨p3 + 1, by go_num, by omega, by omega, HQ3, Lib.hid ?_⟩, ?_⟩
                        · rw [← HE3.out]; exact (su_go (fun x => ltR x dj[a]!) dj j3 p3 ha hb).symm
                        · simp only [intOf]; omega
                      | false =>
                        have HZ3 : Hid (¬ p3 ≤ j3 ∨ (fun x => ltR x dj[a]!) dj[p3]! = false) := Lib.hid (by have := HB.out.symm; rw [Bool.and_eq_false_iff] at this; exact this.imp (fun h => of_decide_eq_false h) id)
                        have HX3 : Hid (scanUp (fun x => ltR x dj[a]!) dj j3 i3 = p3) := Lib.hid (by rw [← HE3.out]; exact su_stop (fun x => ltR x dj[a]!) dj j3 p3 HZ3.out)
                        clear HB HE3
                        go_wp2_with fail
                        go_loopw [13] (fun v wr => ∃ p4 : Nat, v = .int .i64 p4 ∧ p3 ≤ p4 + 1 ∧ p4 ≤ j3 ∧ Hid (SW w0 b off dj wr) ∧ Hid (scanDown (fun x => !ltR x dj[a]!) dj p3 p4 = scanDown (fun x => !ltR x dj[a]!) dj p3 j3)) (fun v _ => (intOf v).toNat)
                        case atStart => exact ⟨j3, rfl, by omega, by omega, HQ3, Lib.hid rfl⟩
                        case round =>
                          obtain ⟨p4, rfl, h14, h24, HP4, HE4⟩ := hrel
                          go_upto_region 15 with fail
                          go_cut [139] from 123 to 141 (fun v w' => ∃ gb : Bool, v = .bool gb ∧ Hid (gb = (decide (p3 ≤ p4) && (fun x => !ltR x dj[a]!) dj[p4]!)) ∧ Hid (SW w0 b off dj w'))
                          case first =>
                            by_cases hle : p3 ≤ p4
                            · obtain ⟨q, rfl⟩ : ∃ q, p4 = q + 1 := ⟨p4 - 1, by omega⟩
                              have wq : IntKind.i64.wrap (q : Int) = (q : Int) := by rw [IntKind.wrap_i64]; omega
                              have e0 : ((q : Int) + 1).toNat = q + 1 := by omega
                              have z1 : (q : Int) + 1 < (n : Int) := by omega
                              have z0 : (0 : Int) ≤ (q : Int) + 1 := by omega
                              have za : (a : Int) < (n : Int) := by omega
                              have g1 : decide ((p3 : Int) ≤ (q : Int) + 1) = true := decide_eq_true (by omega)
                              have g1' : (p3 : Int) ≤ (q : Int) + 1 := by omega
                              obtain ⟨x1, x2, y1, y2, cf, hcf, cj1, cj2, cp1, cp2, CX⟩ := RW.out.two HP4.out hsj (q + 1) a (by omega) (by omega)
                              have HCF := Lib.hid hcf
                              clear hcf
                              rcases hl : decide (cf < 0) with _ | _
                              · have hcn : ¬ cf < 0 := of_decide_eq_false hl
                                go_wp2_with fail
                                go_quiet_grown (first | (go_at_call 79; exact CX.out _ _))
                                go_wp2
                                go_meet
                                case rel => exact ⟨true, rfl, Lib.hid (by simp [← HCF.out, hl]; try omega), Lib.hid (HP4.out.grown _ _)⟩
                              · have hcn : cf < 0 := of_decide_eq_true hl
                                go_wp2_with fail
                                go_quiet_grown (first | (go_at_call 79; exact CX.out _ _))
                                go_wp2
                                go_meet
                                case rel => exact ⟨false, rfl, Lib.hid (by simp [← HCF.out, hl]; try omega), Lib.hid (HP4.out.grown _ _)⟩
                            · have g1 : decide ((p3 : Int) ≤ (p4 : Int)) = false := decide_eq_false (by omega)
                              have g1' : ¬ (p3 : Int) ≤ (p4 : Int) := by omega
                              go_wp2_with fail
                              go_region
                              all_goals go_wp2
                              go_meet
                              case rel => exact ⟨false, rfl, Lib.hid (by rw [decide_eq_false hle]; rfl), Lib.hid HP4.out.drew⟩
                          case rest =>
                            obtain ⟨gb, rfl, HB, HQ4⟩ := hcut
                            clear HP4
                            cases gb with
                            | true =>
                              have h : p3 ≤ p4 ∧ (fun x => !ltR x dj[a]!) dj[p4]! = true := by have := HB.out; simpa using this.symm
                              obtain ⟨ha, hb⟩ := h
                              obtain ⟨q, rfl⟩ : ∃ q, p4 = q + 1 := ⟨p4 - 1, by omega⟩
                              have wq : IntKind.i64.wrap (q : Int) = (q : Int) := by rw [IntKind.wrap_i64]; omega
                              go_wp2
                              refine ⟨⟨q, by go_num, by omega, by omega, HQ4, Lib.hid ?_⟩, ?_⟩
                              · rw [← HE4.out]; exact (sd_go (fun x => !ltR x dj[a]!) dj p3 q ha hb).symm
                              · simp only [intOf]; omega
                            | false =>
                              have HZ4 : Hid (¬ p3 ≤ p4 ∨ (fun x => !ltR x dj[a]!) dj[p4]! = false) := Lib.hid (by have := HB.out.symm; rw [Bool.and_eq_false_iff] at this; exact this.imp (fun h => of_decide_eq_false h) id)
                              have HX4 : Hid (scanDown (fun x => !ltR x dj[a]!) dj p3 j3 = p4) := Lib.hid (by rw [← HE4.out]; exact sd_stop (fun x => !ltR x dj[a]!) dj p3 p4 (by omega) HZ4.out)
                              clear HB HE4
                              have za : (a : Int) < (n : Int) := by omega
                              by_cases hgt3 : p3 > p4
                              · have g2 : decide ((p3 : Int) > (p4 : Int)) = true := decide_eq_true (by omega)
                                have g2' : (p4 : Int) < (p3 : Int) := by omega
                                have zj : (p4 : Int) < (n : Int) := by omega
                                obtain ⟨x1, x2, y1, y2, ⟨fa, fb, fc, fd⟩, ⟨ga, gb, gc, gd⟩, ⟨ka, kb⟩, HSw⟩ := RW.out.swap2 HQ4.out hsj p4 a (by omega) (by omega)
                                go_wp2_with fail
                                go_region
                                all_goals go_wp2
                                (try simp only [Exit.inBlock, Exit.then]); refine bodyPost_ret (results_tmp2 rfl _ _ _) rfl ?_
                                have hp := part_stop a i3 j3 dj p3 p4 HX3.out HX4.out hgt3
                                have er : res = (p4, false, swp dj p4 a) := HR.out.symm.trans (by simp only [HX1.out, HX2.out, if_neg hgt1, Nat.add_sub_cancel]; rw [← HM.out, hp])
                                rw [er]
                                exact ⟨rfl, HSw.out⟩
                              · have g2 : decide ((p3 : Int) > (p4 : Int)) = false := decide_eq_false (by omega)
                                have g2' : ¬ (p4 : Int) < (p3 : Int) := by omega
                                have hne : p3 ≠ p4 := by
                                  intro e
                                  rcases HZ3.out with h | h
                                  · omega
                                  · rcases HZ4.out with h' | h'
                                    · omega
                                    · rw [← e] at h'
                                      have h2 : ltR dj[p3]! dj[a]! = false := h
                                      have h3 : (!ltR dj[p3]! dj[a]!) = false := h'
                                      rw [h2] at h3
                                      simp at h3
                                obtain ⟨r, rfl⟩ : ∃ r, p4 = r + 1 := ⟨p4 - 1, by omega⟩
                                have wr9 : IntKind.i64.wrap (r : Int) = (r : Int) := by rw [IntKind.wrap_i64]; omega
                                have wr92 : IntKind.i64.wrap ((r : Int) + 1 - 1) = (r : Int) := by rw [IntKind.wrap_i64]; omega
                                have wp : IntKind.i64.wrap ((p3 : Int) + 1) = (p3 : Int) + 1 := by rw [IntKind.wrap_i64]; omega
                                have e0 : ((r : Int) + 1).toNat = r + 1 := by omega
                                have z1 : (r : Int) + 1 < (n : Int) := by omega
                                have z0 : (0 : Int) ≤ (r : Int) + 1 := by omega
                                have zp : (p3 : Int) < (n : Int) := by omega
                                obtain ⟨x1, x2, y1, y2, ⟨fa, fb, fc, fd⟩, ⟨ga, gb, gc, gd⟩, ⟨ka, kb⟩, HSw⟩ := RW.out.swap2 HQ4.out hsj p3 (r + 1) (by omega) (by omega)
                                go_wp2_with fail
                                go_region
                                all_goals go_wp2
                                refine ⟨⟨p3 + 1, r, swp dj p3 (r + 1), by go_num, by go_num, by omega, by omega, by omega, by omega, by rw [size_swp]; exact hsj, HSw, Lib.hid ?_⟩, ?_⟩
                                · rw [← HM.out]
                                  have h := part_go a i3 j3 dj p3 (r + 1) HX3.out HX4.out hgt3 (by omega) (by omega) (by omega)
                                  rw [h]; rfl
                                · simp only [intOf]; omega
end Go.Proofs.YtinpglfclbnhlaaGreatDoor

namespace Go.Proofs.YtinpglfclbnhlaaGreatDoor
open Go.RowKit Go.Sort Go.Shelf
set_option linter.unusedVariables false
set_option linter.unusedSimpArgs false
theorem partEq_stop (a i j : Nat) (d : Array R) (i2 j2 : Nat) (e1 : scanUp (fun x => !ltR d[a]! x) d j i = i2) (e2 : scanDown (fun x => ltR d[a]! x) d i2 j = j2) (h : i2 > j2) : partEqLoop ltR a i j d = (i2, d) := by
  rw [partEqLoop]; simp only [e1, e2]; rw [if_pos h]
theorem partEq_go (a i j : Nat) (d : Array R) (i2 j2 : Nat) (e1 : scanUp (fun x => !ltR d[a]! x) d j i = i2) (e2 : scanDown (fun x => ltR d[a]! x) d i2 j = j2) (h : ¬ i2 > j2) (h1 : i ≤ i2) (h2 : j2 ≤ j) (h0 : 1 ≤ i) : partEqLoop ltR a i j d = partEqLoop ltR a (i2 + 1) (j2 - 1) (swp d i2 j2) := by
  rw [partEqLoop]; simp only [e1, e2]; rw [if_neg h, dif_pos (by omega)]
set_option maxHeartbeats 4000000 in
set_option maxRecDepth 100000 in
theorem partEq_any {w0 : World} {b off n : Nat} (R0 : RowR w0 b off n) (cap : Nat) (d : Array R) (a c pv : Nat) (w : World) (hW : SW w0 b off d w) (hs : d.size = n) (hac : a < c) (hc : c + 1 ≤ n) (hp1 : a ≤ pv) (hp2 : pv < c + 1) :
    Calls Tryz.prog 103 #[.slice (some ⟨b, off, none⟩) n cap, .int .i64 a, .int .i64 ((c : Int) + 1), .int .i64 pv, fvR] w fun e w' => e = .returned (.int .i64 (Sort.partitionEqual ltR d a (c + 1) pv).1) ∧ SW w0 b off (Sort.partitionEqual ltR d a (c + 1) pv).2 w' := by
  have mx := mixed
  have hn := R0.hn
  have RW := Lib.hid R0
  clear R0
  obtain ⟨x1, x2, y1, y2, ⟨fa, fb, fc, fd⟩, ⟨ga, gb, gc, gd⟩, ⟨ka, kb⟩, HS⟩ := RW.out.swap2 hW hs a pv (by omega) (by omega)
  have za : (a : Int) < (n : Int) := by omega
  have zp : (pv : Int) < (n : Int) := by omega
  have wc0 : IntKind.i64.wrap ((c : Int) + 1 - 1) = (c : Int) := by rw [IntKind.wrap_i64]; omega
  have wc : IntKind.i64.wrap (c : Int) = (c : Int) := by rw [IntKind.wrap_i64]; omega
  have wa : IntKind.i64.wrap ((a : Int) + 1) = (a : Int) + 1 := by rw [IntKind.wrap_i64]; omega
  obtain ⟨dk, hdk⟩ : ∃ dk, dk = swp d a pv := ⟨_, rfl⟩
  have hsk : dk.size = n := by rw [hdk, size_swp]; exact hs
  rw [← hdk] at HS
  have EP : Sort.partitionEqual ltR d a (c + 1) pv = partEqLoop ltR a (a + 1) c dk := by rw [hdk]; rfl
  rw [EP]
  have HDK := Lib.hid hdk
  clear EP hdk hW
  unfold fvR
  go_enter Tryz.func103, Tryz.ntmps103
  go_wp2_with fail
  go_region
  have HS1 := HS
  generalize ((((w.setCell ⟨b, off + a * 2, none⟩ (.int .i64 y1)).setCell ⟨b, off + a * 2 + 1, none⟩ (.int .i64 y2)).setCell ⟨b, off + pv * 2, none⟩ (.int .i64 x1)).setCell ⟨b, off + pv * 2 + 1, none⟩ (.int .i64 x2)).drew = W1 at HS1 ⊢
  clear fa fb fc fd ga gb gc gd ka kb HS
  go_wp2_with fail
  go_loopw [11, 12] (fun vi vj wr => ∃ (i3 j3 : Nat) (dj : Array R), vi = .int .i64 i3 ∧ vj = .int .i64 j3 ∧ a + 1 ≤ i3 ∧ i3 ≤ j3 + 1 ∧ j3 ≤ c ∧ a ≤ j3 ∧ dj.size = n ∧ Hid (SW w0 b off dj wr) ∧ Hid (partEqLoop ltR a i3 j3 dj = partEqLoop ltR a (a + 1) c dk)) (fun vi vj _ => (intOf vj).toNat + 1 - (intOf vi).toNat)
  case atStart => exact ⟨a + 1, c, dk, by go_num, by go_num, by omega, by omega, by omega, by omega, hsk, HS1, Lib.hid rfl⟩
  case round =>
    obtain ⟨i3, j3, dj, rfl, rfl, k1, k2, k3, k4, hsj, HS3, HM⟩ := hrel
    go_wp2_with fail
    go_loopw [11] (fun v wr => ∃ p3 : Nat, v = .int .i64 p3 ∧ i3 ≤ p3 ∧ p3 ≤ j3 + 1 ∧ Hid (SW w0 b off dj wr) ∧ Hid (scanUp (fun x => !ltR dj[a]! x) dj j3 p3 = scanUp (fun x => !ltR dj[a]! x) dj j3 i3)) (fun v _ => j3 + 1 - (intOf v).toNat)
    case atStart => exact ⟨i3, rfl, by omega, by omega, HS3, Lib.hid rfl⟩
    case round =>
      obtain ⟨p3, rfl, h13, h23, HP3, HE3⟩ := hrel
      go_upto_region 3 with fail
      go_cut [47] from 31 to 49 (fun v w' => ∃ gb : Bool, v = .bool gb ∧ Hid (gb = (decide (p3 ≤ j3) && (fun x => !ltR dj[a]! x) dj[p3]!)) ∧ Hid (SW w0 b off dj w'))
      case first =>
        by_cases hle : p3 ≤ j3
        · have z1 : (p3 : Int) < (n : Int) := by omega
          have za : (a : Int) < (n : Int) := by omega
          have g1 : decide ((p3 : Int) ≤ (j3 : Int)) = true := decide_eq_true (by omega)
          have g1' : (p3 : Int) ≤ (j3 : Int) := by omega
          obtain ⟨x1, x2, y1, y2, cf, hcf, cj1, cj2, cp1, cp2, CX⟩ := RW.out.two HP3.out hsj a p3 (by omega) (by omega)
          have HCF := Lib.hid hcf
          clear hcf
          rcases hl : decide (cf < 0) with _ | _
          · have hcn : ¬ cf < 0 := of_decide_eq_false hl
            go_wp2_with fail
            go_quiet_grown (first | (go_at_call 79; exact CX.out _ _))
            go_wp2
            go_meet
            case rel => exact ⟨true, rfl, Lib.hid (by simp [← HCF.out, hl]; try omega), Lib.hid (HP3.out.grown _ _)⟩
          · have hcn : cf < 0 := of_decide_eq_true hl
            go_wp2_with fail
            go_quiet_grown (first | (go_at_call 79; exact CX.out _ _))
            go_wp2
            go_meet
            case rel => exact ⟨false, rfl, Lib.hid (by simp [← HCF.out, hl]; try omega), Lib.hid (HP3.out.grown _ _)⟩
        · have g1 : decide ((p3 : Int) ≤ (j3 : Int)) = false := decide_eq_false (by omega)
          have g1' : ¬ (p3 : Int) ≤ (j3 : Int) := by omega
          go_wp2_with fail
          go_region
          all_goals go_wp2
          go_meet
          case rel => exact ⟨false, rfl, Lib.hid (by rw [decide_eq_false hle]; rfl), Lib.hid HP3.out.drew⟩
      case rest =>
        obtain ⟨gb, rfl, HB, HQ3⟩ := hcut
        clear HP3
        cases gb with
        | true =>
          have h : p3 ≤ j3 ∧ (fun x => !ltR dj[a]! x) dj[p3]! = true := by have := HB.out; simpa using this.symm
          obtain ⟨ha, hb⟩ := h
          go_wp2
          refine ⟨⟨p3 + 1, by go_num, by omega, by omega, HQ3, Lib.hid ?_⟩, ?_⟩
          · rw [← HE3.out]; exact (su_go (fun x => !ltR dj[a]! x) dj j3 p3 ha hb).symm
          · simp only [intOf]; omega
        | false =>
          have HZ3 : Hid (¬ p3 ≤ j3 ∨ (fun x => !ltR dj[a]! x) dj[p3]! = false) := Lib.hid (by have := HB.out.symm; rw [Bool.and_eq_false_iff] at this; exact this.imp (fun h => of_decide_eq_false h) id)
          have HX3 : Hid (scanUp (fun x => !ltR dj[a]! x) dj j3 i3 = p3) := Lib.hid (by rw [← HE3.out]; exact su_stop (fun x => !ltR dj[a]! x) dj j3 p3 HZ3.out)
          clear HB HE3
          go_wp2_with fail
          go_loopw [12] (fun v wr => ∃ p4 : Nat, v = .int .i64 p4 ∧ p3 ≤ p4 + 1 ∧ p4 ≤ j3 ∧ Hid (SW w0 b off dj wr) ∧ Hid (scanDown (fun x => ltR dj[a]! x) dj p3 p4 = scanDown (fun x => ltR dj[a]! x) dj p3 j3)) (fun v _ => (intOf v).toNat)
          case atStart => exact ⟨j3, rfl, by omega, by omega, HQ3, Lib.hid rfl⟩
          case round =>
            obtain ⟨p4, rfl, h14, h24, HP4, HE4⟩ := hrel
            go_upto_region 5 with fail
            go_cut [65] from 50 to 67 (fun v w' => ∃ gb : Bool, v = .bool gb ∧ Hid (gb = (decide (p3 ≤ p4) && (fun x => ltR dj[a]! x) dj[p4]!)) ∧ Hid (SW w0 b off dj w'))
            case first =>
              by_cases hle : p3 ≤ p4
              · obtain ⟨q, rfl⟩ : ∃ q, p4 = q + 1 := ⟨p4 - 1, by omega⟩
                have wq : IntKind.i64.wrap (q : Int) = (q : Int) := by rw [IntKind.wrap_i64]; omega
                have e0 : ((q : Int) + 1).toNat = q + 1 := by omega
                have z1 : (q : Int) + 1 < (n : Int) := by omega
                have z0 : (0 : Int) ≤ (q : Int) + 1 := by omega
                have za : (a : Int) < (n : Int) := by omega
                have g1 : decide ((p3 : Int) ≤ (q : Int) + 1) = true := decide_eq_true (by omega)
                have g1' : (p3 : Int) ≤ (q : Int) + 1 := by omega
                obtain ⟨x1, x2, y1, y2, cf, hcf, cj1, cj2, cp1, cp2, CX⟩ := RW.out.two HP4.out hsj a (q + 1) (by omega) (by omega)
                have HCF := Lib.hid hcf
                clear hcf
                rcases hl : decide (cf < 0) with _ | _
                · have hcn : ¬ cf < 0 := of_decide_eq_false hl
                  go_wp2_with fail
                  go_quiet_grown (first | (go_at_call 79; exact CX.out _ _))
                  go_wp2
                  go_meet
                  case rel => exact ⟨false, rfl, Lib.hid (by simp [← HCF.out, hl]; try omega), Lib.hid (HP4.out.grown _ _)⟩
                · have hcn : cf < 0 := of_decide_eq_true hl
                  go_wp2_with fail
                  go_quiet_grown (first | (go_at_call 79; exact CX.out _ _))
                  go_wp2
                  go_meet
                  case rel => exact ⟨true, rfl, Lib.hid (by simp [← HCF.out, hl]; try omega), Lib.hid (HP4.out.grown _ _)⟩
              · have g1 : decide ((p3 : Int) ≤ (p4 : Int)) = false := decide_eq_false (by omega)
                have g1' : ¬ (p3 : Int) ≤ (p4 : Int) := by omega
                go_wp2_with fail
                go_region
                all_goals go_wp2
                go_meet
                case rel => exact ⟨false, rfl, Lib.hid (by rw [decide_eq_false hle]; rfl), Lib.hid HP4.out.drew⟩
            case rest =>
              obtain ⟨gb, rfl, HB, HQ4⟩ := hcut
              clear HP4
              cases gb with
              | true =>
                have h : p3 ≤ p4 ∧ (fun x => ltR dj[a]! x) dj[p4]! = true := by have := HB.out; simpa using this.symm
                obtain ⟨ha, hb⟩ := h
                obtain ⟨q, rfl⟩ : ∃ q, p4 = q + 1 := ⟨p4 - 1, by omega⟩
                have wq : IntKind.i64.wrap (q : Int) = (q : Int) := by rw [IntKind.wrap_i64]; omega
                go_wp2
                refine ⟨⟨q, by go_num, by omega, by omega, HQ4, Lib.hid ?_⟩, ?_⟩
                · rw [← HE4.out]; exact (sd_go (fun x => ltR dj[a]! x) dj p3 q ha hb).symm
                · simp only [intOf]; omega
              | false =>
                have HZ4 : Hid (¬ p3 ≤ p4 ∨ (fun x => ltR dj[a]! x) dj[p4]! = false) := Lib.hid (by have := HB.out.symm; rw [Bool.and_eq_false_iff] at this; exact this.imp (fun h => of_decide_eq_false h) id)
                have HX4 : Hid (scanDown (fun x => ltR dj[a]! x) dj p3 j3 = p4) := Lib.hid (by rw [← HE4.out]; exact sd_stop (fun x => ltR dj[a]! x) dj p3 p4 (by omega) HZ4.out)
                clear HB HE4
                have za : (a : Int) < (n : Int) := by omega
                by_cases hgt : p3 > p4
                · have g2 : decide ((p3 : Int) > (p4 : Int)) = true := decide_eq_true (by omega)
                  have g2' : (p4 : Int) < (p3 : Int) := by omega
                  go_wp2
                  go_ret
                  have hp := partEq_stop a i3 j3 dj p3 p4 HX3.out HX4.out hgt
                  rw [← HM.out, hp]
                  exact ⟨rfl, HQ4.out⟩
                · have g2 : decide ((p3 : Int) > (p4 : Int)) = false := decide_eq_false (by omega)
                  have g2' : ¬ (p4 : Int) < (p3 : Int) := by omega
                  have hne : p3 ≠ p4 := by
                    intro e
                    rcases HZ3.out with h | h
                    · omega
                    · rcases HZ4.out with h' | h'
                      · omega
                      · rw [← e] at h'
                        have h3 : ltR dj[a]! dj[p3]! = false := h'
                        have h2 : (!ltR dj[a]! dj[p3]!) = false := h
                        rw [h3] at h2
                        simp at h2
                  obtain ⟨q, rfl⟩ : ∃ q, p4 = q + 1 := ⟨p4 - 1, by omega⟩
                  have wq : IntKind.i64.wrap (q : Int) = (q : Int) := by rw [IntKind.wrap_i64]; omega
                  have wq2 : IntKind.i64.wrap ((q : Int) + 1 - 1) = (q : Int) := by rw [IntKind.wrap_i64]; omega
                  have wp : IntKind.i64.wrap ((p3 : Int) + 1) = (p3 : Int) + 1 := by rw [IntKind.wrap_i64]; omega
                  have e0 : ((q : Int) + 1).toNat = q + 1 := by omega
                  have z1 : (q : Int) + 1 < (n : Int) := by omega
                  have z0 : (0 : Int) ≤ (q : Int) + 1 := by omega
                  have zp : (p3 : Int) < (n : Int) := by omega
                  obtain ⟨x1, x2, y1, y2, ⟨fa, fb, fc, fd⟩, ⟨ga, gb, gc, gd⟩, ⟨ka, kb⟩, HSw⟩ := RW.out.swap2 HQ4.out hsj p3 (q + 1) (by omega) (by omega)
                  go_wp2_with fail
                  go_region
                  all_goals go_wp2
                  refine ⟨⟨p3 + 1, q, swp dj p3 (q + 1), by go_num, by go_num, by omega, by omega, by omega, by omega, by rw [size_swp]; exact hsj, HSw, Lib.hid ?_⟩, ?_⟩
                  · rw [← HM.out]
                    have h := partEq_go a i3 j3 dj p3 (q + 1) HX3.out HX4.out hgt (by omega) (by omega) (by omega)
                    rw [h]; rfl
                  · simp only [intOf]; omega
end Go.Proofs.YtinpglfclbnhlaaGreatDoor
