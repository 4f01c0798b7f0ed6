/-
  Contracts of package compose: the closure within a closure.
-/
import Derived.Test.YteneoimkfddhpaaDoorComposeF
namespace Go.Proofs.YteneoimkfddhpaaDoor
open Go.RowKit
set_option linter.unusedVariables false
set_option maxHeartbeats 1000000 in
set_option maxRecDepth 100000 in
theorem clo2_no (a b c d e f p1 p2 s t m n : Int) (acc : Nat) (B C : Nat) (w : World) (p1l : 0 ≤ p1) (p1h : p1 ≤ 4) (p2l : 0 ≤ p2) (p2h : p2 ≤ 4) (sl : 0 ≤ s) (sh : s ≤ 4) (tl : 0 ≤ t) (th : t ≤ 4) (h1 : p1 ≤ p2) (h2 : s ≤ t)
    (hQ : Qc w B a b c d e f m n acc) (hC : C < w.heap.size) (hn : C ≠ B) (hc : w.cell? ⟨C, 0, none⟩ = some (.int .i64 p1)) (hc' : w.cell? ⟨C, 1, none⟩ = some (.int .i64 p2))
    (r : Nat) (hr : r ≤ 12) (er : (r : Int) = rel p1 p2 s t) (hb : bitB m r = false) :
    Calls Tryd.prog 46 #[.agg #[.int .i64 s, .int .i64 t], .pointer (some ⟨C, 0, none⟩), .pointer (some ⟨B, 0, none⟩)] w fun e1 w' => e1 = .returned (.tuple #[]) ∧ Qc w' B p1 p2 s t e f m n acc ∧ But B w w' := by
  have C1 := Lib.hid (fun w => ofFirst_any p1 p2 s t e f w p1l p1h p2l p2h sl sh tl th h1 h2)
  have C2 := Lib.hid (fun w => chas_any m r w hr)
  rw [← er] at C1
  rw [hb] at C2
  clear er hb
  obtain ⟨q0, q1, q2, q3, q4, q5, q6, q7, q8⟩ := hQ.cells
  obtain ⟨g0, g1, g2, g3, g4, g5, g8⟩ := hQ.free
  have hB := hQ.1
  have hn' : B ≠ C := fun h => hn h.symm
  obtain ⟨W1, hW⟩ : ∃ W1, W1 = (((((w.setCell ⟨B, 0, none⟩ (.int .i64 p1)).setCell ⟨B, 1, none⟩ (.int .i64 p2)).setCell ⟨B, 2, none⟩ (.int .i64 s)).setCell ⟨B, 3, none⟩ (.int .i64 t)).alloc (.cells #[.int .i64 s, .int .i64 t] 23)).drew := ⟨_, rfl⟩
  have Q1 : Qc W1 B p1 p2 s t e f m n acc := by
    rw [hW]
    exact (((((hQ.set (i := 0) (v := p1) (a' := p1) (b' := b) (c' := c) (d' := d) (e' := e) (f' := f) (m' := m) (n' := n) (k' := acc) (by omega) rfl).set (i := 1) (v := p2) (a' := p1) (b' := p2) (c' := c) (d' := d) (e' := e) (f' := f) (m' := m) (n' := n) (k' := acc) (by omega) rfl).set (i := 2) (v := s) (a' := p1) (b' := p2) (c' := s) (d' := d) (e' := e) (f' := f) (m' := m) (n' := n) (k' := acc) (by omega) rfl).set (i := 3) (v := t) (a' := p1) (b' := p2) (c' := s) (d' := t) (e' := e) (f' := f) (m' := m) (n' := n) (k' := acc) (by omega) rfl).kp (Kp.alloc _ _)).kp (Kp.drew _)
  have U1 : But B w W1 := by rw [hW]; exact (((((But.set B 0 _ _).trans (But.set B 1 _ _)).trans (But.set B 2 _ _)).trans (But.set B 3 _ _)).trans (But.kp (Kp.alloc _ _) B)).trans (But.kp (Kp.drew _) B)
  have KS := Lib.hid (fun w' (k : Kp W1 w') => (show w'.cell? ⟨B, 0, none⟩ = some (.int .i64 p1) ∧ w'.cell? ⟨B, 1, none⟩ = some (.int .i64 p2) ∧ w'.cell? ⟨B, 2, none⟩ = some (.int .i64 s) ∧ w'.cell? ⟨B, 3, none⟩ = some (.int .i64 t) ∧ w'.cell? ⟨B, 4, none⟩ = some (.int .i64 e) ∧ w'.cell? ⟨B, 5, none⟩ = some (.int .i64 f) ∧ w'.cell? ⟨B, 6, none⟩ = some (.int .i64 m) ∧ Kp W1 w' from
    have z := (Q1.kp k).cells
    ⟨z.1, z.2.1, z.2.2.1, z.2.2.2.1, z.2.2.2.2.1, z.2.2.2.2.2.1, z.2.2.2.2.2.2.1, k⟩))
  have QH := Lib.hid Q1
  have UH := Lib.hid U1
  have HW := Lib.hid hW.symm
  clear hW Q1 U1
  go_enter Tryd.func46, Tryd.ntmps46
  go_wp2_with fail
  go_region
  go_wp2_with fail
  rw [HW.out]
  clear HW
  go_region_held3 (fun w' => w'.cell? ⟨B, 0, none⟩ = some (.int .i64 p1) ∧ w'.cell? ⟨B, 1, none⟩ = some (.int .i64 p2) ∧ w'.cell? ⟨B, 2, none⟩ = some (.int .i64 s) ∧ w'.cell? ⟨B, 3, none⟩ = some (.int .i64 t) ∧ w'.cell? ⟨B, 4, none⟩ = some (.int .i64 e) ∧ w'.cell? ⟨B, 5, none⟩ = some (.int .i64 f) ∧ w'.cell? ⟨B, 6, none⟩ = some (.int .i64 m) ∧ Kp W1 w') (first | exact KS.out _ (by first | assumption | exact Kp.drew _))
    (first | (go_at_call 48; refine (C1.out _).mono ?_; rintro e w' ⟨rfl, k1⟩; have k2 := (Kp.drew W1).trans k1) | (go_at_call 47; refine (C2.out _).mono ?_; rintro e w' ⟨rfl, rfl⟩))
  go_wp2
  go_end0
  exact ⟨rfl, QH.out.kp k2, UH.out.trans (But.kp k2 B)⟩
set_option maxHeartbeats 1000000 in
set_option maxRecDepth 100000 in
theorem clo2_yes (a b c d e f p1 p2 s t m n : Int) (acc : Nat) (B C : Nat) (w : World) (p1l : 0 ≤ p1) (p1h : p1 ≤ 4) (p2l : 0 ≤ p2) (p2h : p2 ≤ 4) (sl : 0 ≤ s) (sh : s ≤ 4) (tl : 0 ≤ t) (th : t ≤ 4) (h1 : p1 ≤ p2) (h2 : s ≤ t)
    (hQ : Qc w B a b c d e f m n acc) (hC : C < w.heap.size) (hn : C ≠ B) (hc : w.cell? ⟨C, 0, none⟩ = some (.int .i64 p1)) (hc' : w.cell? ⟨C, 1, none⟩ = some (.int .i64 p2))
    (r : Nat) (hr : r ≤ 12) (er : (r : Int) = rel p1 p2 s t) (hb : bitB m r = true) (hacc : acc < 8192) :
    Calls Tryd.prog 46 #[.agg #[.int .i64 s, .int .i64 t], .pointer (some ⟨C, 0, none⟩), .pointer (some ⟨B, 0, none⟩)] w fun e1 w' => e1 = .returned (.tuple #[]) ∧ (∃ e f : Int, Qc w' B p1 p2 s t e f m n (thirdK (bA n) (p1, p2) (s, t) acc 15 : Nat)) ∧ But B w w' := by
  have C1 := Lib.hid (fun w => ofFirst_any p1 p2 s t e f w p1l p1h p2l p2h sl sh tl th h1 h2)
  have C2 := Lib.hid (fun w => chas_any m r w hr)
  rw [← er] at C1
  rw [hb] at C2
  have C3 := Lib.hid (fun w h => third_any (p1, p2) (s, t) e f m n acc B w ⟨p1l, h1, p2h⟩ ⟨sl, h2, th⟩ hacc h)
  generalize thirdK (bA n) (p1, p2) (s, t) acc 15 = res at *
  clear er hb
  obtain ⟨q0, q1, q2, q3, q4, q5, q6, q7, q8⟩ := hQ.cells
  obtain ⟨g0, g1, g2, g3, g4, g5, g8⟩ := hQ.free
  have hB := hQ.1
  have hn' : B ≠ C := fun h => hn h.symm
  obtain ⟨W1, hW⟩ : ∃ W1, W1 = (((((w.setCell ⟨B, 0, none⟩ (.int .i64 p1)).setCell ⟨B, 1, none⟩ (.int .i64 p2)).setCell ⟨B, 2, none⟩ (.int .i64 s)).setCell ⟨B, 3, none⟩ (.int .i64 t)).alloc (.cells #[.int .i64 s, .int .i64 t] 23)).drew := ⟨_, rfl⟩
  have Q1 : Qc W1 B p1 p2 s t e f m n acc := by
    rw [hW]
    exact (((((hQ.set (i := 0) (v := p1) (a' := p1) (b' := b) (c' := c) (d' := d) (e' := e) (f' := f) (m' := m) (n' := n) (k' := acc) (by omega) rfl).set (i := 1) (v := p2) (a' := p1) (b' := p2) (c' := c) (d' := d) (e' := e) (f' := f) (m' := m) (n' := n) (k' := acc) (by omega) rfl).set (i := 2) (v := s) (a' := p1) (b' := p2) (c' := s) (d' := d) (e' := e) (f' := f) (m' := m) (n' := n) (k' := acc) (by omega) rfl).set (i := 3) (v := t) (a' := p1) (b' := p2) (c' := s) (d' := t) (e' := e) (f' := f) (m' := m) (n' := n) (k' := acc) (by omega) rfl).kp (Kp.alloc _ _)).kp (Kp.drew _)
  have U1 : But B w W1 := by rw [hW]; exact (((((But.set B 0 _ _).trans (But.set B 1 _ _)).trans (But.set B 2 _ _)).trans (But.set B 3 _ _)).trans (But.kp (Kp.alloc _ _) B)).trans (But.kp (Kp.drew _) B)
  have KS := Lib.hid (fun w' (k : Kp W1 w') => (show w'.cell? ⟨B, 0, none⟩ = some (.int .i64 p1) ∧ w'.cell? ⟨B, 1, none⟩ = some (.int .i64 p2) ∧ w'.cell? ⟨B, 2, none⟩ = some (.int .i64 s) ∧ w'.cell? ⟨B, 3, none⟩ = some (.int .i64 t) ∧ w'.cell? ⟨B, 4, none⟩ = some (.int .i64 e) ∧ w'.cell? ⟨B, 5, none⟩ = some (.int .i64 f) ∧ w'.cell? ⟨B, 6, none⟩ = some (.int .i64 m) ∧ Kp W1 w' from
    have z := (Q1.kp k).cells
    ⟨z.1, z.2.1, z.2.2.1, z.2.2.2.1, z.2.2.2.2.1, z.2.2.2.2.2.1, z.2.2.2.2.2.2.1, k⟩))
  have QH := Lib.hid Q1
  have UH := Lib.hid U1
  have HW := Lib.hid hW.symm
  clear hW Q1 U1
  go_enter Tryd.func46, Tryd.ntmps46
  go_wp2_with fail
  go_region
  go_wp2_with fail
  rw [HW.out]
  clear HW
  go_region_held3 (fun w' => w'.cell? ⟨B, 0, none⟩ = some (.int .i64 p1) ∧ w'.cell? ⟨B, 1, none⟩ = some (.int .i64 p2) ∧ w'.cell? ⟨B, 2, none⟩ = some (.int .i64 s) ∧ w'.cell? ⟨B, 3, none⟩ = some (.int .i64 t) ∧ w'.cell? ⟨B, 4, none⟩ = some (.int .i64 e) ∧ w'.cell? ⟨B, 5, none⟩ = some (.int .i64 f) ∧ w'.cell? ⟨B, 6, none⟩ = some (.int .i64 m) ∧ Kp W1 w') (first | exact KS.out _ (by first | assumption | exact Kp.drew _))
    (first | (go_at_call 48; refine (C1.out _).mono ?_; rintro e w' ⟨rfl, k1⟩; have k2 := (Kp.drew W1).trans k1) | (go_at_call 47; refine (C2.out _).mono ?_; rintro e w' ⟨rfl, rfl⟩))
  have Q2 := Lib.hid (QH.out.kp k2)
  have U2 := Lib.hid (UH.out.trans (But.kp k2 B))
  go_wp2_with fail
  refine (C3.out _ Q2.out).mono ?_
  rintro e1 w3 ⟨rfl, q3, u3⟩
  have Q3 := Lib.hid q3
  have U3 := Lib.hid u3
  clear q3 u3
  go_wp2
  go_end0
  exact ⟨rfl, Q3.out, U2.out.trans U3.out⟩
end Go.Proofs.YteneoimkfddhpaaDoor
