import Derived.Test.YtcooaoponkkpeaaGreatDoorJM
import Derived.Test.YtcooaoponkkpeaaGreatDoorRlL
import Derived.Test.YtcooaoponkkpeaaGreatDoorJA
namespace Go.Proofs.YtcooaoponkkpeaaGreatDoor
open Go.RowKit
set_option linter.unusedVariables false
set_option linter.unusedSimpArgs false
def relP (P Q : Int → Int → Prop) (r : Nat) : Prop := ∃ S T S' T', P S T ∧ Q S' T' ∧ rel S T S' T' = r
def prOk (P : Int → Int → Prop) : Prop := ∀ S T, P S T → 0 ≤ S ∧ S ≤ T ∧ T ≤ 3652424
theorem ask_rel {Q : Int → Int → Prop} {L : List R} (hL : prOk fun S T => (S, T) ∈ L) (hQ : prOk Q) {r : Nat} (hr : r ≤ 12) : (∃ p ∈ L, askP Q r p) ↔ relP (fun S T => (S, T) ∈ L) Q r := by
 unfold askP relP
 constructor
 ·rintro ⟨⟨S, T⟩, hp, S', T', hq, hb⟩
  have a := hL S T hp
  have b := hQ S' T' hq
  exact ⟨S, T, S', T', hp, hq, (way_rel hr a.2.1 b.2.1 a.1 a.2.2 b.1 b.2.2).1 hb⟩
 ·rintro ⟨S, T, S', T', hp, hq, hb⟩
  have a := hL S T hp
  have b := hQ S' T' hq
  exact ⟨(S, T), hp, S', T', hq, (way_rel hr a.2.1 b.2.1 a.1 a.2.2 b.1 b.2.2).2 hb⟩
theorem ls_ok {d : Bool} {A B : List R} (h : LsOkP d A B) : prOk (lsP d A B) := by
 intro S T g
 have a := ls_le h g
 have b := h.ba _ a.2.1
 have c := h.bb _ a.2.2
 omega
theorem ex_ok {d d' : Bool} {A B C D : List R} (h : LsOkP d A B) : prOk fun S T => (S, T) ∈ exPs d A B C D := fun S T g => ls_ok h S T (exPs_in h g)
theorem ask_ex {d d' : Bool} {A B C D : List R} (h : LsOkP d A B) (g : LsOkP d' C D) {r : Nat} (hr : r ≤ 12) : (∃ p ∈ exPs d A B C D, askP (lsP d' C D) r p) ↔ relP (lsP d A B) (lsP d' C D) r := by
 rw [ask_rel (ex_ok (d' := d') h) (ls_ok g) hr]
 constructor
 ·rintro ⟨S, T, S', T', hp, hq, e⟩
  exact ⟨S, T, S', T', exPs_in h hp, hq, e⟩
 ·rintro ⟨S, T, S', T', hp, hq, e⟩
  have a := ls_ok h S T hp
  have b := ls_ok g S' T' hq
  obtain ⟨⟨s, t⟩, hp2, s', t', hq2, hb⟩ := ex_suff h g hr hp hq ((way_rel hr a.2.1 b.2.1 a.1 a.2.2 b.1 b.2.2).2 e)
  have a2 := ex_ok (d' := d') h s t hp2
  have b2 := ls_ok g s' t' hq2
  exact ⟨s, t, s', t', hp2, hq2, (way_rel hr a2.2.1 b2.2.1 a2.1 a2.2.2 b2.1 b2.2.2).1 hb⟩
theorem rel_turn {S T S' T' : Int} (h : S ≤ T) (g : S' ≤ T') : rel S' T' S T = 12 - rel S T S' T' := by
 unfold rel
 (repeat' split) <;> omega
theorem relP_turn {P Q : Int → Int → Prop} (hP : prOk P) (hQ : prOk Q) {r : Nat} (hr : r ≤ 12) : relP Q P (12 - r) ↔ relP P Q r := by
 have e : ((12 - r : Nat) : Int) = 12 - (r : Int) := by omega
 constructor
 ·rintro ⟨S, T, S', T', hp, hq, h⟩
  have t := rel_turn (hQ S T hp).2.1 (hP S' T' hq).2.1
  exact ⟨S', T', S, T, hq, hp, by rw [t, h, e]; omega⟩
 ·rintro ⟨S, T, S', T', hp, hq, h⟩
  have t := rel_turn (hP S T hp).2.1 (hQ S' T' hq).2.1
  exact ⟨S', T', S, T, hq, hp, by rw [t, h, e]⟩
def flN (m : Nat) : Nat := (flip (m : Int)).toNat
theorem flN_int (m : Nat) : flip (m : Int) = ((flN m : Nat) : Int) := by
 have := flip_bd (m : Int)
 unfold flN
 omega
theorem flN_lt (m : Nat) : flN m < 8192 := by
 have := flip_bd (m : Int)
 unfold flN
 omega
theorem bI_nat (m r : Nat) : bI (m : Int) r = ((m / 2 ^ r % 2 : Nat) : Int) := by
 unfold bI
 rw [show ((2 : Int) ^ r) = ((2 ^ r : Nat) : Int) by simp]
 omega
theorem bI_bit (m r : Nat) : bI (m : Int) r = 1 ↔ m.testBit r = true := by
 rw [bI_nat, Nat.testBit_eq_decide_div_mod_eq, decide_eq_true_iff]
 omega
theorem flN_bit (m : Nat) {r : Nat} (hr : r ≤ 12) : (flN m).testBit r = true ↔ m.testBit (12 - r) = true := by
 rw [← bI_bit, ← bI_bit, ← flN_int]
 obtain rfl | rfl | rfl | rfl | rfl | rfl | rfl | rfl | rfl | rfl | rfl | rfl | rfl : r = 0 ∨ r = 1 ∨ r = 2 ∨ r = 3 ∨ r = 4 ∨ r = 5 ∨ r = 6 ∨ r = 7 ∨ r = 8 ∨ r = 9 ∨ r = 10 ∨ r = 11 ∨ r = 12 := by omega
 ·rw [bI_flip_0]
 ·rw [bI_flip_1]
 ·rw [bI_flip_2]
 ·rw [bI_flip_3]
 ·rw [bI_flip_4]
 ·rw [bI_flip_5]
 ·rw [bI_flip_6]
 ·rw [bI_flip_7]
 ·rw [bI_flip_8]
 ·rw [bI_flip_9]
 ·rw [bI_flip_10]
 ·rw [bI_flip_11]
 ·rw [bI_flip_12]
def bitsP (m' m : Nat) (X : Nat → Prop) : Prop := ∀ r, r ≤ 12 → (m'.testBit r = true ↔ m.testBit r = true ∨ X r)
theorem bitsP_turn {m m' : Nat} {P Q : Int → Int → Prop} (hP : prOk P) (hQ : prOk Q) (h : bitsP m' (flN m) (relP Q P)) : bitsP (flN m') m (relP P Q) := by
 intro r hr
 rw [flN_bit m' hr, h (12 - r) (by omega), flN_bit m (by omega), show 12 - (12 - r) = r by omega, relP_turn hP hQ hr]
structure FdD where
 ls : List (List R)
 lo : List LO
def fdP (F : FdD) (S T : Int) : Prop := (∃ L ∈ F.ls, (S, T) ∈ L) ∨ ∃ x ∈ F.lo, lsP x.1 x.2.1 x.2.2 S T
structure FdOk (F : FdD) : Prop where
 rise : ∀ L ∈ F.ls, riseP L
 ok : ∀ L ∈ F.ls, prOk fun S T => (S, T) ∈ L
 len : ∀ L ∈ F.ls, L.length ≤ 1000000
 lo : ∀ x ∈ F.lo, LsOkP x.1 x.2.1 x.2.2 ∧ x.2.1.length ≤ 100000 ∧ x.2.2.length ≤ 100000
 n1 : F.ls.length ≤ 100
 n2 : F.lo.length ≤ 1000000
def memP (L : List R) : Int → Int → Prop := fun S T => (S, T) ∈ L
def looP (x : LO) : Int → Int → Prop := lsP x.1 x.2.1 x.2.2
theorem getD_in {α : Type} {l : List α} {i : Nat} {d : α} (h : i < l.length) : l.getD i d ∈ l := by
 rw [List.getD, List.getElem?_eq_getElem h]
 simp
theorem fdP_iff (F : FdD) (S T : Int) : fdP F S T ↔ (∃ i, i < F.ls.length ∧ memP (F.ls.getD i []) S T) ∨ ∃ i, i < F.lo.length ∧ looP (F.lo.getD i (false, [], [])) S T := by
 unfold fdP
 constructor
 ·rintro (⟨L, hL, h⟩ | ⟨x, hx, h⟩)
  ·obtain ⟨i, hi, rfl⟩ := List.getElem_of_mem hL
   exact .inl ⟨i, hi, by rw [List.getD, List.getElem?_eq_getElem hi]; exact h⟩
  ·obtain ⟨i, hi, rfl⟩ := List.getElem_of_mem hx
   exact .inr ⟨i, hi, by rw [List.getD, List.getElem?_eq_getElem hi]; exact h⟩
 ·rintro (⟨i, hi, h⟩ | ⟨i, hi, h⟩)
  ·exact .inl ⟨_, getD_in hi, h⟩
  ·exact .inr ⟨_, getD_in hi, h⟩
theorem fdOk_pr {F : FdD} (h : FdOk F) : prOk (fdP F) := by
 rintro S T (⟨L, hL, g⟩ | ⟨x, hx, g⟩)
 ·exact h.ok L hL S T g
 ·exact ls_ok (h.lo x hx).1 S T g
end Go.Proofs.YtcooaoponkkpeaaGreatDoor
