/-
  Contracts of package compose: the innermost closure.
-/
import Derived.Test.YteneoimkfddhpaaDoorComposeB
import Derived.RegionTactic
namespace Go.Proofs.YteneoimkfddhpaaDoor
open Go.RowKit
set_option linter.unusedVariables false
theorem or_nat (a b : Nat) (ha : a < 8192) (hb : b < 8192) : bits .or .i64 (a : Int) (b : Int) = ((a ||| b : Nat) : Int) := by
  have l : a ||| b < 2 ^ 13 := Nat.or_lt_two_pow (by omega) (by omega)
  have key : (BitVec.ofInt 64 (a : Int) ||| BitVec.ofInt 64 (b : Int)).toNat = a ||| b := by
    rw [BitVec.toNat_or, BitVec.ofInt_natCast, BitVec.ofInt_natCast, BitVec.toNat_ofNat, BitVec.toNat_ofNat, Nat.mod_eq_of_lt (by omega), Nat.mod_eq_of_lt (by omega)]
  show IntKind.i64.wrap ((BitVec.ofInt 64 (a : Int) ||| BitVec.ofInt 64 (b : Int)).toNat : Nat) = _
  rw [key, IntKind.wrap_i64]; omega
theorem pow12 {x : Nat} (h : x ≤ 12) : 2 ^ x < 8192 := by
  have := Nat.pow_le_pow_right (n := 2) (by omega) h; omega
theorem or_bit {acc x : Nat} (ha : acc < 8192) (hx : x ≤ 12) : bits .or .i64 (acc : Int) (IntKind.i64.wrap (2 ^ x)) = ((acc ||| 2 ^ x : Nat) : Int) := by
  have p := pow12 hx
  have e : IntKind.i64.wrap ((2 : Int) ^ x) = ((2 ^ x : Nat) : Int) := by
    have q : ((2 ^ x : Nat) : Int) < 8192 := Int.ofNat_lt.2 p
    have q0 : (0 : Int) ≤ ((2 ^ x : Nat) : Int) := Int.natCast_nonneg _
    rw [show ((2 : Int) ^ x) = ((2 ^ x : Nat) : Int) by simp, IntKind.wrap_i64]
    generalize ((2 ^ x : Nat) : Int) = y at *
    omega
  rw [e, or_nat _ _ ha p]
theorem fin3 {w W1 w2 w' : World} {B : Nat} {a b c d e f m n v : Int} {acc r : Nat} (q : Qc W1 B a b c d e f m n acc) (u : But B w W1) (k3 : Kp W1 w2) (k4 : Kp w2.drew w') (h : v = (r : Int)) :
    Qc (w'.setCell ⟨B, 8, none⟩ (.int .i64 v)) B a b c d e f m n r ∧ But B w (w'.setCell ⟨B, 8, none⟩ (.int .i64 v)) := by
  have k := (k3.trans (Kp.drew _)).trans k4
  subst h
  exact ⟨(q.kp k).set (i := 8) (by omega) rfl, (u.trans (But.kp k B)).trans (But.set B 8 _ _)⟩
theorem cb_of {W1 w2 : World} {R : World → Prop} (k : Kp W1 w2) (h : ∀ w', Kp W1 w' → R w') : ∀ w', Kp w2.drew w' → R w' := fun w' g => h w' ((k.trans (Kp.drew _)).trans g)
set_option maxHeartbeats 1000000 in
set_option maxRecDepth 100000 in
theorem clo3_no (a b c d e f e' f' m n acc : Int) (B C : Nat) (w : World) (al : 0 ≤ a) (ah : a ≤ 4) (bl : 0 ≤ b) (bh : b ≤ 4) (cl : 0 ≤ c) (ch : c ≤ 4) (dl : 0 ≤ d) (dh : d ≤ 4) (e'l : 0 ≤ e') (e'h : e' ≤ 4) (f'l : 0 ≤ f') (f'h : f' ≤ 4) (h1 : a ≤ b) (h2 : c ≤ d) (h3 : e' ≤ f')
    (hQ : Qc w B a b c d e f m n acc) (hC : C < w.heap.size) (hn : C ≠ B) (hc : w.cell? ⟨C, 0, none⟩ = some (.pointer (some ⟨B, 0, none⟩)))
    (s : Nat) (hs : s ≤ 12) (es : (s : Int) = rel c d e' f') (hb : bitB n s = false) :
    Calls Tryd.prog 50 #[.agg #[.int .i64 e', .int .i64 f'], .pointer (some ⟨C, 0, none⟩)] w fun e w' => e = .returned (.tuple #[]) ∧ Qc w' B a b c d e' f' m n acc ∧ But B w w' := by
  have C1 := Lib.hid (fun w => ofSecond_any a b c d e' f' w cl ch dl dh e'l e'h f'l f'h h2 h3)
  have C2 := Lib.hid (fun w => chas_any n s w hs)
  rw [← es] at C1
  rw [hb] at C2
  clear es hb
  obtain ⟨q0, q1, q2, q3, q4, q5, q6, q7, q8⟩ := hQ.cells
  obtain ⟨g0, g1, g2, g3, g4, g5, g8⟩ := hQ.free
  have hB := hQ.1
  have hn' : B ≠ C := fun h => hn h.symm
  obtain ⟨W1, hW⟩ : ∃ W1, W1 = ((w.setCell ⟨B, 4, none⟩ (.int .i64 e')).setCell ⟨B, 5, none⟩ (.int .i64 f')).alloc (.cells #[.int .i64 e', .int .i64 f'] 23) := ⟨_, rfl⟩
  have Q1 : Qc W1 B a b c d e' f' m n acc := by
    rw [hW]
    exact (((hQ.set (i := 4) (v := e') (a' := a) (b' := b) (c' := c) (d' := d) (e' := e') (f' := f) (m' := m) (n' := n) (k' := acc) (by omega) rfl).set (i := 5) (v := f') (a' := a) (b' := b) (c' := c) (d' := d) (e' := e') (f' := f') (m' := m) (n' := n) (k' := acc) (by omega) rfl)).kp (Kp.alloc _ _)
  have U1 : But B w W1 := by rw [hW]; exact ((But.set B 4 _ _).trans (But.set B 5 _ _)).trans (But.kp (Kp.alloc _ _) B)
  have c1 := (U1.cell hC hn (o := 0)).trans hc
  have UH := Lib.hid U1
  obtain ⟨q0, q1, q2, q3, q4, q5, q6, q7, q8⟩ := Q1.cells
  have KS := Lib.hid (fun w' (k : Kp W1 w') => (show w'.cell? ⟨C, 0, none⟩ = some (.pointer (some ⟨B, 0, none⟩)) ∧ w'.cell? ⟨B, 0, none⟩ = some (.int .i64 a) ∧ w'.cell? ⟨B, 1, none⟩ = some (.int .i64 b) ∧ w'.cell? ⟨B, 2, none⟩ = some (.int .i64 c) ∧ w'.cell? ⟨B, 3, none⟩ = some (.int .i64 d) ∧ w'.cell? ⟨B, 4, none⟩ = some (.int .i64 e') ∧ w'.cell? ⟨B, 5, none⟩ = some (.int .i64 f') ∧ w'.cell? ⟨B, 7, none⟩ = some (.int .i64 n) ∧ w'.cell? ⟨B, 8, none⟩ = some (.int .i64 acc) ∧ w'.frozen? ⟨B, 8, none⟩ = false ∧ Kp W1 w' from
    have z := (Q1.kp k).cells
    ⟨(k.cell (p := ⟨C, 0, none⟩) (Nat.lt_of_lt_of_le hC U1.size)).trans c1, z.1, z.2.1, z.2.2.1, z.2.2.2.1, z.2.2.2.2.1, z.2.2.2.2.2.1, z.2.2.2.2.2.2.2.1, z.2.2.2.2.2.2.2.2, (Q1.kp k).free.2.2.2.2.2.2, k⟩))
  have QH := Lib.hid Q1
  clear Q1 U1
  have HW := Lib.hid hW.symm
  clear hW
  go_enter Tryd.func50, Tryd.ntmps50
  go_wp2_with fail
  rw [HW.out]
  clear HW
  go_region_held3 (fun w' => w'.cell? ⟨C, 0, none⟩ = some (.pointer (some ⟨B, 0, none⟩)) ∧ w'.cell? ⟨B, 0, none⟩ = some (.int .i64 a) ∧ w'.cell? ⟨B, 1, none⟩ = some (.int .i64 b) ∧ w'.cell? ⟨B, 2, none⟩ = some (.int .i64 c) ∧ w'.cell? ⟨B, 3, none⟩ = some (.int .i64 d) ∧ w'.cell? ⟨B, 4, none⟩ = some (.int .i64 e') ∧ w'.cell? ⟨B, 5, none⟩ = some (.int .i64 f') ∧ w'.cell? ⟨B, 7, none⟩ = some (.int .i64 n) ∧ w'.cell? ⟨B, 8, none⟩ = some (.int .i64 acc) ∧ w'.frozen? ⟨B, 8, none⟩ = false ∧ Kp W1 w') (first | exact KS.out _ (by first | assumption | exact Kp.drew _))
    (first | (go_at_call 51; refine (C1.out _).mono ?_; rintro e w' ⟨rfl, k1⟩; have k2 := (Kp.drew W1).trans k1) | (go_at_call 47; refine (C2.out _).mono ?_; rintro e w' ⟨rfl, rfl⟩))
  go_wp2
  go_end0
  exact ⟨rfl, QH.out.kp k2, UH.out.trans (But.kp k2 B)⟩
set_option maxHeartbeats 4000000 in
set_option maxRecDepth 100000 in
theorem clo3_yes (a b c d e f e' f' m n : Int) (acc : Nat) (B C : Nat) (w : World) (al : 0 ≤ a) (ah : a ≤ 4) (bl : 0 ≤ b) (bh : b ≤ 4) (cl : 0 ≤ c) (ch : c ≤ 4) (dl : 0 ≤ d) (dh : d ≤ 4) (e'l : 0 ≤ e') (e'h : e' ≤ 4) (f'l : 0 ≤ f') (f'h : f' ≤ 4) (h1 : a ≤ b) (h2 : c ≤ d) (h3 : e' ≤ f')
    (hQ : Qc w B a b c d e f m n acc) (hC : C < w.heap.size) (hn : C ≠ B) (hc : w.cell? ⟨C, 0, none⟩ = some (.pointer (some ⟨B, 0, none⟩)))
    (s : Nat) (hs : s ≤ 12) (hacc : acc < 8192) (es : (s : Int) = rel c d e' f') (hb : bitB n s = true) (x : Nat) (hx : x ≤ 12) (ex : (x : Int) = rel a b e' f') :
    Calls Tryd.prog 50 #[.agg #[.int .i64 e', .int .i64 f'], .pointer (some ⟨C, 0, none⟩)] w fun e w' => e = .returned (.tuple #[]) ∧ Qc w' B a b c d e' f' m n (acc ||| 2 ^ x : Nat) ∧ But B w w' := by
  have C1 := Lib.hid (fun w => ofSecond_any a b c d e' f' w cl ch dl dh e'l e'h f'l f'h h2 h3)
  have C2 := Lib.hid (fun w => chas_any n s w hs)
  have C3 := Lib.hid (fun w => ofBoth_any a b c d e' f' w al ah bl bh e'l e'h f'l f'h h1 h3)
  rw [← es] at C1
  rw [← ex] at C3
  rw [hb] at C2
  clear es hb ex
  obtain ⟨q0, q1, q2, q3, q4, q5, q6, q7, q8⟩ := hQ.cells
  obtain ⟨g0, g1, g2, g3, g4, g5, g8⟩ := hQ.free
  have hB := hQ.1
  have hn' : B ≠ C := fun h => hn h.symm
  obtain ⟨W1, hW⟩ : ∃ W1, W1 = ((w.setCell ⟨B, 4, none⟩ (.int .i64 e')).setCell ⟨B, 5, none⟩ (.int .i64 f')).alloc (.cells #[.int .i64 e', .int .i64 f'] 23) := ⟨_, rfl⟩
  have Q1 : Qc W1 B a b c d e' f' m n acc := by
    rw [hW]
    exact (((hQ.set (i := 4) (v := e') (a' := a) (b' := b) (c' := c) (d' := d) (e' := e') (f' := f) (m' := m) (n' := n) (k' := acc) (by omega) rfl).set (i := 5) (v := f') (a' := a) (b' := b) (c' := c) (d' := d) (e' := e') (f' := f') (m' := m) (n' := n) (k' := acc) (by omega) rfl)).kp (Kp.alloc _ _)
  have U1 : But B w W1 := by rw [hW]; exact ((But.set B 4 _ _).trans (But.set B 5 _ _)).trans (But.kp (Kp.alloc _ _) B)
  have c1 := (U1.cell hC hn (o := 0)).trans hc
  have UH := Lib.hid U1
  obtain ⟨q0, q1, q2, q3, q4, q5, q6, q7, q8⟩ := Q1.cells
  have KS := Lib.hid (fun w' (k : Kp W1 w') => (show w'.cell? ⟨C, 0, none⟩ = some (.pointer (some ⟨B, 0, none⟩)) ∧ w'.cell? ⟨B, 0, none⟩ = some (.int .i64 a) ∧ w'.cell? ⟨B, 1, none⟩ = some (.int .i64 b) ∧ w'.cell? ⟨B, 2, none⟩ = some (.int .i64 c) ∧ w'.cell? ⟨B, 3, none⟩ = some (.int .i64 d) ∧ w'.cell? ⟨B, 4, none⟩ = some (.int .i64 e') ∧ w'.cell? ⟨B, 5, none⟩ = some (.int .i64 f') ∧ w'.cell? ⟨B, 7, none⟩ = some (.int .i64 n) ∧ w'.cell? ⟨B, 8, none⟩ = some (.int .i64 acc) ∧ w'.frozen? ⟨B, 8, none⟩ = false ∧ Kp W1 w' from
    have z := (Q1.kp k).cells
    ⟨(k.cell (p := ⟨C, 0, none⟩) (Nat.lt_of_lt_of_le hC U1.size)).trans c1, z.1, z.2.1, z.2.2.1, z.2.2.2.1, z.2.2.2.2.1, z.2.2.2.2.2.1, z.2.2.2.2.2.2.2.1, z.2.2.2.2.2.2.2.2, (Q1.kp k).free.2.2.2.2.2.2, k⟩))
  have QH := Lib.hid Q1
  clear Q1 U1
  have HW := Lib.hid hW.symm
  clear hW
  go_enter Tryd.func50, Tryd.ntmps50
  go_wp2_with fail
  rw [HW.out]
  clear HW
  go_region_held3 (fun w' => w'.cell? ⟨C, 0, none⟩ = some (.pointer (some ⟨B, 0, none⟩)) ∧ w'.cell? ⟨B, 0, none⟩ = some (.int .i64 a) ∧ w'.cell? ⟨B, 1, none⟩ = some (.int .i64 b) ∧ w'.cell? ⟨B, 2, none⟩ = some (.int .i64 c) ∧ w'.cell? ⟨B, 3, none⟩ = some (.int .i64 d) ∧ w'.cell? ⟨B, 4, none⟩ = some (.int .i64 e') ∧ w'.cell? ⟨B, 5, none⟩ = some (.int .i64 f') ∧ w'.cell? ⟨B, 7, none⟩ = some (.int .i64 n) ∧ w'.cell? ⟨B, 8, none⟩ = some (.int .i64 acc) ∧ w'.frozen? ⟨B, 8, none⟩ = false ∧ Kp W1 w') (first | exact KS.out _ (by first | assumption | exact Kp.drew _))
    (first | (go_at_call 51; refine (C1.out _).mono ?_; rintro e w' ⟨rfl, k1⟩; have k2 := (Kp.drew W1).trans k1) | (go_at_call 47; refine (C2.out _).mono ?_; rintro e w' ⟨rfl, rfl⟩))
  go_wp2_with fail
  obtain ⟨s1, s2, s3, s4, s5, s6, s7, s8, s9, s10, _⟩ := KS.out _ k2
  have CB := Lib.hid (cb_of k2 KS.out)
  have k3 := Lib.hid k2
  clear k2
  go_region_with (first | (go_at_call 52; refine (C3.out _).mono ?_; rintro e w' ⟨rfl, k4⟩; obtain ⟨s11, s12, s13, s14, s15, s16, s17, s18, s19, s20, _⟩ := CB.out _ k4; have k5 := Lib.hid k4; clear k4))
  all_goals
    go_wp2
    go_end0
    exact ⟨rfl, fin3 QH.out UH.out k3.out k5.out (or_bit hacc hx)⟩
end Go.Proofs.YteneoimkfddhpaaDoor
