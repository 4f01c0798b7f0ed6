import Derived.Test.YtjdnejglapnbbaaGreatDoorGBa
import Derived.Test.YtjdnejglapnbbaaGreatDoorGLeafA
import Derived.LoopTactic
import Derived.Laws.EntriesVeiled
import Derived.Deep.MidRow
import Derived.Test.YtjdnejglapnbbaaGreatDoorGEnv
import Derived.Test.YtjdnejglapnbbaaGreatDoorGOpen
set_option maxHeartbeats 16000000
set_option maxRecDepth 100000
namespace Go.Proofs.YtjdnejglapnbbaaGreatDoor
open Go.RowKit
set_option linter.unusedVariables false
set_option linter.unusedSimpArgs false
theorem step_app {P : Program} {w : World} {ops : Array Oper} {o : Oper} {a : Act} {K : Act → World → Prop} {Q : Exit → Act → World → Prop} {E : Prop} (hgd : o.guard = none) (s x : Operand) (t : TypeId)
  (ho : o.op = .call { callee := .builtin .append, args := #[s, x], argTypes := #[t, t] })
  (base : Nat) (e : TypeId) (i : TypeInfo) (z : Value) (size bytes : Nat) (ht : P.underlying t = some (.slice e)) (hi : P.info? e = some i) (hz : i.zero = some z)
  (hsize : i.size = size) (hby : i.bytes = bytes) (hzs : z.cells.size = size) (hsz : 0 < size)
  (v : Value) (n : Nat) (xs : List Value) (hs : a.eval s = v) (hown : w.ownsRow base e size v n xs)
  (sv : Value) (m : Nat) (news : List Value) (hx : a.eval x = sv) (hsrc : SrcAt w sv m news) (hl : news.length = m * size) (h1 : ∀ u ∈ news, u.oneCell' = true)
  (h63 : n + m ≤ maxLen) (hbytes : (n + m) * bytes ≤ 140737488355328) (hbase : base ≤ w.heap.size)
  (h : ∀ v' w', w'.ownsRow base e size v' (n + m) (xs ++ news) → w.grownBy w' v.ownBlock → K (a.put o.dst v') w') :
  if Region.wanted o (yielded ops a.tmps) = true then Oper.wp P o a w K Q else E := by
 have hw : Region.wanted o (yielded ops a.tmps) = true := by simp [Region.wanted, hgd]
 rw [if_pos hw]
 have : ∃ v' w', (Builtin.append_ #[t, t] o.type #[v, sv]).run P w = .ok v' w' ∧ w'.ownsRow base e size v' (n + m) (xs ++ news) ∧ w.grownBy w' v.ownBlock := by
  rcases hsrc with ⟨ad, cp, rfl, rfl, rfl⟩ | ⟨ad, c, rfl, hn⟩
  ·exact ⟨v, w, run_append_zero w base t o.type e i size ht hi v n xs hown ad cp, by simpa using hown, ⟨rfl, rfl, rfl, Nat.le_refl _, fun _ _ _ => rfl⟩⟩
  ·obtain ⟨v', w', hr, h2, h3, _, h5⟩ := run_append_own_at (P := P) w base t o.type e i z size bytes ht hi hz hsize hby hzs hsz v n xs hown ad m c news hl hn h1 h63 hbytes hbase
   exact ⟨v', w', hr, h2, h3⟩
 obtain ⟨v', w', hr, h2, h3⟩ := this
 unfold Oper.wp execOp
 simp only [ho, resolve, invoke, builtin, Sem.run_bind, Sem.run_pure, Result.andThen_ok, List.map_toArray, List.map_cons, List.map_nil, hs, hx, hr]
 exact h v' w' h2 h3
structure PLC where
 at_ : Int
 lo : Int
 hi : Int
 em : Bool
def pl0 : PLC := ⟨0, 0, 0, false⟩
instance instPLC : Inhabited PLC := ⟨pl0⟩
def lessP (a b : PLC) : Bool := if a.em = b.em then decide (a.lo < b.lo) || (decide (a.lo = b.lo) && (decide (a.hi < b.hi) || (decide (a.hi = b.hi) && decide (a.at_ < b.at_)))) else b.em
def leP (a b : PLC) : Prop := lessP b a = false
theorem less_iff (a b : PLC) : lessP a b = true ↔ (a.em = b.em ∧ (a.lo < b.lo ∨ (a.lo = b.lo ∧ (a.hi < b.hi ∨ (a.hi = b.hi ∧ a.at_ < b.at_))))) ∨ (a.em = false ∧ b.em = true) := by
 unfold lessP
 obtain ⟨a1, a2, a3, a4⟩ := a
 obtain ⟨b1, b2, b3, b4⟩ := b
 cases a4 <;> cases b4 <;> simp
theorem leP_iff (a b : PLC) : leP a b ↔ (a.em = b.em ∧ (a.lo < b.lo ∨ (a.lo = b.lo ∧ (a.hi < b.hi ∨ (a.hi = b.hi ∧ a.at_ ≤ b.at_))))) ∨ (a.em = false ∧ b.em = true) := by
 unfold leP
 rw [Bool.eq_false_iff, ne_eq, less_iff]
 obtain ⟨a1, a2, a3, a4⟩ := a
 obtain ⟨b1, b2, b3, b4⟩ := b
 cases a4 <;> cases b4 <;> simp <;> omega
theorem leP_refl (a : PLC) : leP a a := by
 rw [leP_iff]; exact .inl ⟨rfl, .inr ⟨rfl, .inr ⟨rfl, Int.le_refl _⟩⟩⟩
theorem leP_trans {a b c : PLC} (h : leP a b) (g : leP b c) : leP a c := by
 rw [leP_iff] at *
 obtain ⟨a1, a2, a3, a4⟩ := a
 obtain ⟨b1, b2, b3, b4⟩ := b
 obtain ⟨c1, c2, c3, c4⟩ := c
 cases a4 <;> cases b4 <;> cases c4 <;> simp at * <;> omega
theorem less_le {a b : PLC} (h : lessP a b = true) : leP a b := by
 rw [less_iff] at h
 rw [leP_iff]
 rcases h with ⟨e, h⟩ | h
 ·exact .inl ⟨e, by omega⟩
 ·exact .inr h
theorem leP_anti {a b : PLC} (h : leP a b) (g : leP b a) : a.at_ = b.at_ := by
 rw [leP_iff] at *
 obtain ⟨a1, a2, a3, a4⟩ := a
 obtain ⟨b1, b2, b3, b4⟩ := b
 cases a4 <;> cases b4 <;> simp at * <;> omega
def plAt (L : List PLC) (i : Nat) : PLC := L.getD i pl0
theorem plAt_eq {L : List PLC} {i : Nat} (h : i < L.length) : plAt L i = L[i] := by unfold plAt; simp [List.getD, h]
def swp (L : List PLC) (i j : Nat) : List PLC := (L.set i (plAt L j)).set j (plAt L i)
theorem swp_length (L : List PLC) (i j : Nat) : (swp L i j).length = L.length := by unfold swp; simp
theorem swp_perm {L : List PLC} {i j : Nat} (hi : i < L.length) (hj : j < L.length) : (swp L i j).Perm L := by
 unfold swp
 rw [plAt_eq hi, plAt_eq hj]
 exact List.set_set_perm hi hj
theorem plAt_swp {L : List PLC} {i j : Nat} (hi : i < L.length) (hj : j < L.length) (k : Nat) : plAt (swp L i j) k = if k = j then plAt L i else if k = i then plAt L j else plAt L k := by
 unfold swp
 by_cases hk : k < L.length
 ·rw [plAt_eq (by simpa using hk), List.getElem_set]
  by_cases h1 : j = k
  ·rw [if_pos h1, if_pos h1.symm]
  ·rw [if_neg h1, if_neg (fun e => h1 e.symm), List.getElem_set]
   by_cases h2 : i = k
   ·rw [if_pos h2, if_pos h2.symm]
   ·rw [if_neg h2, if_neg (fun e => h2 e.symm), plAt_eq hk]
 ·rw [if_neg (by omega), if_neg (by omega)]
  unfold plAt
  simp [List.getD, hk]
def kid (c k : Nat) : Prop := c = 2 * k + 1 ∨ c = 2 * k + 2
def hpF (L : List PLC) (i n : Nat) : Prop := ∀ k c, i ≤ k → kid c k → c < n → leP (plAt L k) (plAt L c)
structure sft (L : List PLC) (i0 i n : Nat) : Prop where
 a : ∀ k c, i0 ≤ k → k ≠ i → kid c k → c < n → leP (plAt L k) (plAt L c)
 b : ∀ p c, i0 ≤ p → kid i p → kid c i → c < n → leP (plAt L p) (plAt L c)
theorem sft_first {L : List PLC} {i0 n : Nat} (h : hpF L (i0 + 1) n) : sft L i0 i0 n :=
 ⟨fun k c h1 h2 h3 h4 => h k c (by omega) h3 h4, fun p c h1 h2 _ _ => by unfold kid at h2; omega⟩
theorem sft_last {L : List PLC} {i0 i n : Nat} (h : sft L i0 i n) (g : ∀ c, kid c i → c < n → leP (plAt L i) (plAt L c)) : hpF L i0 n := fun k c h1 h2 h3 => by
 by_cases e : k = i
 ·subst e; exact g c h2 h3
 ·exact h.a k c h1 e h2 h3
theorem sft_step {L : List PLC} {i0 i j n : Nat} (h : sft L i0 i n) (hi0 : i0 ≤ i) (hj : kid j i) (hjn : j < n) (hn : n ≤ L.length) (hl : lessP (plAt L j) (plAt L i) = true) (hm : ∀ c, kid c i → c < n → leP (plAt L j) (plAt L c)) : sft (swp L i j) i0 j n := by
 have hij : i < j := by unfold kid at hj; omega
 have hi : i < L.length := by omega
 have hjl : j < L.length := by omega
 constructor
 ·intro k c h1 h2 h3 h4
  rw [plAt_swp hi hjl, plAt_swp hi hjl, if_neg h2]
  by_cases e : k = i
  ·subst e
   rw [if_pos rfl]
   by_cases e2 : c = j
   ·rw [if_pos e2]; exact less_le hl
   ·rw [if_neg e2, if_neg (by unfold kid at h3; omega)]; exact hm c h3 h4
  ·rw [if_neg e]
   by_cases e2 : c = j
   ·subst e2
    unfold kid at h3 hj
    omega
   ·rw [if_neg e2]
    by_cases e3 : c = i
    ·subst e3; rw [if_pos rfl]; exact h.b k j h1 h3 hj hjn
    ·rw [if_neg e3]; exact h.a k c h1 e h3 h4
 ·intro p c h1 h2 h3 h4
  have e : p = i := by unfold kid at h2 hj; omega
  subst e
  rw [plAt_swp hi hjl, plAt_swp hi hjl, if_neg (by omega), if_pos rfl, if_neg (by unfold kid at h3; omega), if_neg (by unfold kid at h3; omega)]
  exact h.a j c (by omega) (by omega) h3 h4
theorem hp_root {L : List PLC} {n : Nat} (h : hpF L 0 n) : ∀ i, i < n → leP (plAt L 0) (plAt L i) := by
 intro i
 induction i using Nat.strongRecOn with
 | ind i ih =>
  intro hi
  by_cases e : i = 0
  ·subst e; exact leP_refl _
  ·have h1 := ih ((i - 1) / 2) (by omega) (by omega)
   have h2 := h ((i - 1) / 2) i (Nat.zero_le _) (by unfold kid; omega) hi
   exact leP_trans h1 h2
theorem hp_take {L : List PLC} {i n : Nat} (h : hpF L i n) : hpF (L.take n) i n := fun k c h1 h2 h3 => by
 have e : ∀ m, m < n → plAt (L.take n) m = plAt L m := fun m hm => by unfold plAt; simp [List.getD, List.getElem?_take, hm]
 rw [e k (by unfold kid at h2; omega), e c h3]
 exact h k c h1 h2 h3
theorem hp_swap {L : List PLC} {n : Nat} (h : hpF L 0 (n + 1)) (hn : n < L.length) : hpF (swp L 0 n) 1 n := fun k c h1 h2 h3 => by
 rw [plAt_swp (by omega) hn, plAt_swp (by omega) hn, if_neg (by unfold kid at h2; omega), if_neg (by omega), if_neg (by omega), if_neg (by unfold kid at h2; omega)]
 exact h k c (Nat.zero_le _) h2 (by omega)
theorem sorted_once {l m : List PLC} (h1 : l.Pairwise leP) (h2 : m.Pairwise leP) (h : l.Perm m) (hd : ∀ a b, a ∈ m → b ∈ m → a.at_ = b.at_ → a = b) : l = m :=
 List.Perm.eq_of_pairwise (le := leP) (fun a b ha hb h1 h2 => hd a b (h.mem_iff.1 ha) hb (leP_anti h1 h2)) h1 h2 h
def cmp1 (x y : Int) : Int := if x < y then -1 else if y < x then 1 else 0
def cmpK (a b c d : Int) : Int := if cmp1 a c = 0 then cmp1 b d else cmp1 a c
theorem cmp1_lt {x y : Int} (h : x < y) : cmp1 x y = -1 := if_pos h
theorem cmp1_gt {x y : Int} (h : y < x) : cmp1 x y = 1 := by unfold cmp1; rw [if_neg (by omega), if_pos h]
theorem cmp1_eq {x y : Int} (h : x = y) : cmp1 x y = 0 := by unfold cmp1; rw [if_neg (by omega), if_neg (by omega)]
theorem cmpK_cases (a b c d : Int) : (cmpK a b c d = -1 ∧ (a < c ∨ (a = c ∧ b < d))) ∨ (cmpK a b c d = 0 ∧ a = c ∧ b = d) ∨ (cmpK a b c d = 1 ∧ (c < a ∨ (a = c ∧ d < b))) := by
 unfold cmpK cmp1
 by_cases h1 : a < c
 ·simp [h1]
 ·by_cases h2 : c < a
  ·simp [h1, h2]
  ·have h3 : a = c := by omega
   subst h3
   by_cases h4 : b < d
   ·simp [h4]
   ·by_cases h5 : d < b
    ·simp [h4, h5]
    ·have : b = d := by omega
     simp [this]
theorem ordNan_any (x : Int) (w : World) : Calls Tryz.prog 161 #[.int .i64 x] w fun e w' => e = .returned (.bool false) ∧ w = w' := by
 have hx : (x != x) = false := by simp
 go_enter Tryz.func161, Tryz.ntmps161
 go_wp2
 go_ret
 exact ⟨rfl, rfl⟩
theorem cmp1_any (x y : Int) (w : World) : Calls Tryz.prog 88 #[.int .i64 x, .int .i64 y] w fun e w' => e = .returned (.int .i64 (cmp1 x y)) ∧ w = w' := by
 have C := Lib.hid (fun x w => ordNan_any x w)
 rcases Int.lt_trichotomy x y with h | h | h
 ·rw [cmp1_lt h]
  have h1 : decide (x < y) = true := decide_eq_true (by omega)
  have h2 : decide (y < x) = false := decide_eq_false (by omega)
  clear h
  go_enter Tryz.func88, Tryz.ntmps88
  go_wp2_with fail
  refine (C.out _ _).mono ?_
  rintro e w1 ⟨rfl, rfl⟩
  go_wp2_with fail
  refine (C.out _ _).mono ?_
  rintro e w2 ⟨rfl, rfl⟩
  go_wp2
  go_ret
  exact ⟨rfl, rfl⟩
 ·rw [cmp1_eq h]
  have h1 : decide (x < y) = false := decide_eq_false (by omega)
  have h2 : decide (y < x) = false := decide_eq_false (by omega)
  clear h
  go_enter Tryz.func88, Tryz.ntmps88
  go_wp2_with fail
  refine (C.out _ _).mono ?_
  rintro e w1 ⟨rfl, rfl⟩
  go_wp2_with fail
  refine (C.out _ _).mono ?_
  rintro e w2 ⟨rfl, rfl⟩
  go_wp2
  go_ret
  exact ⟨rfl, rfl⟩
 ·rw [cmp1_gt h]
  have h1 : decide (x < y) = false := decide_eq_false (by omega)
  have h2 : decide (y < x) = true := decide_eq_true (by omega)
  clear h
  go_enter Tryz.func88, Tryz.ntmps88
  go_wp2_with fail
  refine (C.out _ _).mono ?_
  rintro e w1 ⟨rfl, rfl⟩
  go_wp2_with fail
  refine (C.out _ _).mono ?_
  rintro e w2 ⟨rfl, rfl⟩
  go_wp2
  go_ret
  exact ⟨rfl, rfl⟩
theorem or2_any (b : Nat) (x y : Int) (w : World) (hx : w.cell? ⟨b, 0, none⟩ = some (.int .i64 x)) (hy : w.cell? ⟨b, 1, none⟩ = some (.int .i64 y)) :
  Calls Tryz.prog 107 #[.slice (some ⟨b, 0, none⟩) 2 2] w fun e w' => e = .returned (.int .i64 (if x = 0 then y else x)) ∧ w = w' := by
 obtain ⟨r, hr⟩ : ∃ r : Int, (if x = 0 then y else x) = r := ⟨_, rfl⟩
 rw [hr]
 have HR := Lib.hid hr
 clear hr
 go_enter Tryz.func107, Tryz.ntmps107
 go_wp2
 go_loopw [8] (fun i wr => ∃ k : Nat, k ≤ 2 ∧ i = .int .i64 k ∧ wr = w ∧ Hid (1 ≤ k → x = 0) ∧ Hid (2 ≤ k → y = 0)) (fun i _ => 2 - (intOf i).toNat)
 case atStart => exact ⟨0, by omega, rfl, rfl, Lib.hid (fun h => by omega), Lib.hid (fun h => by omega)⟩
 case round =>
  obtain ⟨k, hk, rfl, rfl, H1, H2⟩ := hrel
  obtain rfl | rfl | rfl : k = 0 ∨ k = 1 ∨ k = 2 := by omega
  ·by_cases h : x = 0
   ·have q : (x != 0) = false := by simp [h]
    have h' := Lib.hid h
    clear h
    go_wp2
    go_roundw
    case rel => exact ⟨1, by omega, by rfl, by first | rfl | trivial, Lib.hid (fun _ => h'.out), Lib.hid (fun h => by omega)⟩
    case measure => simp [intOf]
   ·have q : (x != 0) = true := by simp [h]
    have e := HR.out
    rw [if_neg h] at e
    subst e
    clear h
    go_wp2
    go_ret
    exact ⟨rfl, rfl⟩
  ·have h0 := H1.out (by omega)
   have e := HR.out
   rw [if_pos h0] at e
   by_cases h : y = 0
   ·have q : (y != 0) = false := by simp [h]
    have h' := Lib.hid h
    have H0 := Lib.hid h0
    clear h h0 e
    go_wp2
    go_roundw
    case rel => exact ⟨2, by omega, by rfl, by first | rfl | trivial, Lib.hid (fun _ => H0.out), Lib.hid (fun _ => h'.out)⟩
    case measure => simp [intOf]
   ·have q : (y != 0) = true := by simp [h]
    subst e
    clear h h0
    go_wp2
    go_ret
    exact ⟨rfl, rfl⟩
  ·have h0 := H1.out (by omega)
   have h1 := H2.out (by omega)
   have e := HR.out
   rw [if_pos h0, h1] at e
   subst e
   clear h0 h1
   go_wp2
   go_ret
   exact ⟨rfl, rfl⟩
abbrev cK0 : Oper := { dst := some 5, op := Go.Op.fieldAddr 72 (Go.Operand.tmp 2) 0, type := 0, pos := "order.go:40", after := #[], guard := none }
abbrev cK1 : Oper := { dst := some 6, op := Go.Op.load 3 (Go.Operand.tmp 5), type := 3, pos := "order.go:40", after := #[{ on := 0, ground := Go.Ground.data }], guard := none }
abbrev cK2 : Oper := { dst := some 7, op := Go.Op.fieldAddr 72 (Go.Operand.tmp 3) 0, type := 0, pos := "order.go:40", after := #[], guard := none }
abbrev cK3 : Oper := { dst := some 8, op := Go.Op.load 3 (Go.Operand.tmp 7), type := 3, pos := "order.go:40", after := #[{ on := 2, ground := Go.Ground.data }], guard := none }
abbrev cK4 : Oper := { dst := some 9, op := Go.Op.call { callee := Go.Callee.value (Go.Operand.func 88), args := #[Go.Operand.tmp 6, Go.Operand.tmp 8], argTypes := #[3, 3] }, type := 3, pos := "order.go:40", after := #[{ on := 1, ground := Go.Ground.data }, { on := 3, ground := Go.Ground.data }], guard := none }
abbrev cK5 : Oper := { dst := some 10, op := Go.Op.fieldAddr 72 (Go.Operand.tmp 2) 1, type := 0, pos := "order.go:40", after := #[], guard := none }
abbrev cK6 : Oper := { dst := some 11, op := Go.Op.load 3 (Go.Operand.tmp 10), type := 3, pos := "order.go:40", after := #[{ on := 5, ground := Go.Ground.data }], guard := none }
abbrev cK7 : Oper := { dst := some 12, op := Go.Op.fieldAddr 72 (Go.Operand.tmp 3) 1, type := 0, pos := "order.go:40", after := #[], guard := none }
abbrev cK8 : Oper := { dst := some 13, op := Go.Op.load 3 (Go.Operand.tmp 12), type := 3, pos := "order.go:40", after := #[{ on := 7, ground := Go.Ground.data }], guard := none }
abbrev cK9 : Oper := { dst := some 14, op := Go.Op.call { callee := Go.Callee.value (Go.Operand.func 88), args := #[Go.Operand.tmp 11, Go.Operand.tmp 13], argTypes := #[3, 3] }, type := 3, pos := "order.go:40", after := #[{ on := 6, ground := Go.Ground.data }, { on := 8, ground := Go.Ground.data }, { on := 4, ground := Go.Ground.chain }], guard := none }
abbrev cK10 : Oper := { dst := some 15, op := Go.Op.buildSlice 75 2 #[(0, Go.Operand.tmp 9), (1, Go.Operand.tmp 14)], type := 75, pos := "order.go:40", after := #[{ on := 4, ground := Go.Ground.data }, { on := 9, ground := Go.Ground.data }], guard := none }
abbrev cK11 : Oper := { dst := some 16, op := Go.Op.call { callee := Go.Callee.value (Go.Operand.func 107), args := #[Go.Operand.tmp 15], argTypes := #[75] }, type := 3, pos := "order.go:40", after := #[{ on := 10, ground := Go.Ground.data }, { on := 9, ground := Go.Ground.chain }], guard := none }
abbrev cK12 : Oper := { dst := some 4, op := Go.Op.assign (Go.Operand.tmp 16), type := 3, pos := "order.go:40", after := #[{ on := 11, ground := Go.Ground.data }, { on := 11, ground := Go.Ground.chain }, { on := 0, ground := Go.Ground.phase }, { on := 1, ground := Go.Ground.phase }, { on := 2, ground := Go.Ground.phase }, { on := 3, ground := Go.Ground.phase }, { on := 4, ground := Go.Ground.phase }, { on := 5, ground := Go.Ground.phase }, { on := 6, ground := Go.Ground.phase }, { on := 7, ground := Go.Ground.phase }, { on := 8, ground := Go.Ground.phase }, { on := 9, ground := Go.Ground.phase }, { on := 10, ground := Go.Ground.phase }, { on := 11, ground := Go.Ground.phase }], guard := none }
theorem kcmp_any (a b c d : Int) (w : World) : Calls Tryz.prog 52 #[.agg #[.int .i64 a, .int .i64 b], .agg #[.int .i64 c, .int .i64 d]] w fun e w' => e = .returned (.int .i64 (cmpK a b c d)) ∧ Kp w w' := by
 have C1 := Lib.hid (fun w => cmp1_any a c w)
 have C2 := Lib.hid (fun w => cmp1_any b d w)
 unfold cmpK
 have C3 := Lib.hid (fun w1 bl hx hy => or2_any bl (cmp1 a c) (cmp1 b d) w1 hx hy)
 obtain ⟨r, hr⟩ : ∃ r : Int, (if cmp1 a c = 0 then cmp1 b d else cmp1 a c) = r := ⟨_, rfl⟩
 rw [hr] at C3 ⊢
 clear hr
 generalize cmp1 a c = x at *
 generalize cmp1 b d = y at *
 obtain ⟨W0, hW⟩ : ∃ x, x = (w.alloc (.cells #[.int .i64 a, .int .i64 b] 72)).alloc (.cells #[.int .i64 c, .int .i64 d] 72) := ⟨_, rfl⟩
 have k0 : Kp w W0 := by rw [hW]; exact (Kp.alloc _ _).trans (Kp.alloc _ _)
 have g0 : W0.cell? ⟨w.heap.size, 0, none⟩ = some (.int .i64 a) := by rw [hW]; simp
 have g1 : W0.cell? ⟨w.heap.size, 1, none⟩ = some (.int .i64 b) := by rw [hW]; simp
 have g2 : W0.cell? ⟨w.heap.size + 1, 0, none⟩ = some (.int .i64 c) := by rw [hW]; simp
 have g3 : W0.cell? ⟨w.heap.size + 1, 1, none⟩ = some (.int .i64 d) := by rw [hW]; simp
 have KS := Lib.hid (fun w' (kq : Kp W0 w') => show w'.cell? ⟨w.heap.size, 0, none⟩ = some (.int .i64 a) ∧ w'.cell? ⟨w.heap.size, 1, none⟩ = some (.int .i64 b) ∧ w'.cell? ⟨w.heap.size + 1, 0, none⟩ = some (.int .i64 c) ∧ w'.cell? ⟨w.heap.size + 1, 1, none⟩ = some (.int .i64 d) ∧ Kp W0 w' from ⟨cell_up kq g0, cell_up kq g1, cell_up kq g2, cell_up kq g3, kq⟩)
 have K0 := Lib.hid k0
 have HW := Lib.hid hW
 clear hW k0
 go_enter Tryz.func52, Tryz.ntmps52
 go_wp2_with fail
 rw [← HW.out]
 refine wp_region_held_drew (S := fun w' => w'.cell? ⟨w.heap.size, 0, none⟩ = some (.int .i64 a) ∧ w'.cell? ⟨w.heap.size, 1, none⟩ = some (.int .i64 b) ∧ w'.cell? ⟨w.heap.size + 1, 0, none⟩ = some (.int .i64 c) ∧ w'.cell? ⟨w.heap.size + 1, 1, none⟩ = some (.int .i64 d) ∧ Kp W0 w') (by kernel_rfl) ?_ (fun hHeld0 => ?_)
 ·(try dsimp only); first | exact KS.out _ (by first | assumption | exact Kp.drew _) | exact KS.out _ (Kp.refl _) | exact KS.out _ (Kp.drewN _ _) | exact KS.out _ ((Kp.drew _).trans (Kp.alloc _ _)) | exact KS.out _ (Kp.alloc _ _) | exact KS.out _ ((Kp.drewN _ _).trans (Kp.alloc _ _))
 refine tkv 0 cK0 ?_
 (try simp only [Act.put, cK0, List.setIfInBounds_toArray, List.set_cons_zero, List.set_cons_succ])
 refine tkv 1 cK1 ?_
 (try simp only [Act.put, cK1, List.setIfInBounds_toArray, List.set_cons_zero, List.set_cons_succ])
 refine tkv 2 cK2 ?_
 (try simp only [Act.put, cK2, List.setIfInBounds_toArray, List.set_cons_zero, List.set_cons_succ])
 refine tkv 3 cK3 ?_
 (try simp only [Act.put, cK3, List.setIfInBounds_toArray, List.set_cons_zero, List.set_cons_succ])
 refine tkv 5 cK5 ?_
 (try simp only [Act.put, cK5, List.setIfInBounds_toArray, List.set_cons_zero, List.set_cons_succ])
 refine tkv 6 cK6 ?_
 (try simp only [Act.put, cK6, List.setIfInBounds_toArray, List.set_cons_zero, List.set_cons_succ])
 refine tkv 7 cK7 ?_
 (try simp only [Act.put, cK7, List.setIfInBounds_toArray, List.set_cons_zero, List.set_cons_succ])
 refine tkv 8 cK8 ?_
 (try simp only [Act.put, cK8, List.setIfInBounds_toArray, List.set_cons_zero, List.set_cons_succ])
 refine tkE 4 cK4 rfl (by kernel_rfl) (fun K hK => ?_)
 go_simp
 (refine (C1.out _).mono ?_; rintro e w' ⟨rfl, rfl⟩)
 (try go_wp2_with fail)
 refine hK.out _ _ ?_ (fun hHeld1 => ?_)
 ·(try dsimp only); first | exact KS.out _ (by first | assumption | exact Kp.drew _) | exact KS.out _ (Kp.refl _) | exact KS.out _ (Kp.drewN _ _) | exact KS.out _ ((Kp.drew _).trans (Kp.alloc _ _)) | exact KS.out _ (Kp.alloc _ _) | exact KS.out _ ((Kp.drewN _ _).trans (Kp.alloc _ _))
 clear hK K hHeld0
 (try simp only [Act.put, cK4, List.setIfInBounds_toArray, List.set_cons_zero, List.set_cons_succ])
 refine tkE 9 cK9 rfl (by kernel_rfl) (fun K hK => ?_)
 go_simp
 (refine (C2.out _).mono ?_; rintro e w' ⟨rfl, rfl⟩)
 (try go_wp2_with fail)
 refine hK.out _ _ ?_ (fun hHeld2 => ?_)
 ·(try dsimp only); first | exact KS.out _ (by first | assumption | exact Kp.drew _) | exact KS.out _ (Kp.refl _) | exact KS.out _ (Kp.drewN _ _) | exact KS.out _ ((Kp.drew _).trans (Kp.alloc _ _)) | exact KS.out _ (Kp.alloc _ _) | exact KS.out _ ((Kp.drewN _ _).trans (Kp.alloc _ _))
 clear hK K hHeld1
 (try simp only [Act.put, cK9, List.setIfInBounds_toArray, List.set_cons_zero, List.set_cons_succ])
 refine tkE 10 cK10 rfl (by kernel_rfl) (fun K hK => ?_)
 go_simp
 skip
 (try go_wp2_with fail)
 refine hK.out _ _ ?_ (fun hHeld3 => ?_)
 ·(try dsimp only); first | exact KS.out _ (by first | assumption | exact Kp.drew _) | exact KS.out _ (Kp.refl _) | exact KS.out _ (Kp.drewN _ _) | exact KS.out _ ((Kp.drew _).trans (Kp.alloc _ _)) | exact KS.out _ (Kp.alloc _ _) | exact KS.out _ ((Kp.drewN _ _).trans (Kp.alloc _ _))
 clear hK K hHeld2
 (try simp only [Act.put, cK10, List.setIfInBounds_toArray, List.set_cons_zero, List.set_cons_succ])
 refine tkE 11 cK11 rfl (by kernel_rfl) (fun K hK => ?_)
 go_simp
 (refine (C3.out _ _ (by simp) (by simp)).mono ?_; rintro e w' ⟨rfl, rfl⟩)
 (try go_wp2_with fail)
 refine hK.out _ _ ?_ (fun hHeld4 => ?_)
 ·(try dsimp only); first | exact KS.out _ (by first | assumption | exact Kp.drew _) | exact KS.out _ (Kp.refl _) | exact KS.out _ (Kp.drewN _ _) | exact KS.out _ ((Kp.drew _).trans (Kp.alloc _ _)) | exact KS.out _ (Kp.alloc _ _) | exact KS.out _ ((Kp.drewN _ _).trans (Kp.alloc _ _))
 clear hK K hHeld3
 (try simp only [Act.put, cK11, List.setIfInBounds_toArray, List.set_cons_zero, List.set_cons_succ])
 refine tkv 12 cK12 ?_
 (try simp only [Act.put, cK12, List.setIfInBounds_toArray, List.set_cons_zero, List.set_cons_succ])
 refine wpAnyH_done (by kernel_rfl) ?_ _
 go_wp2
 go_ret
 exact ⟨rfl, by first | exact K0.out.trans ((Kp.alloc _ _).trans (Kp.drew _)) | exact K0.out.trans (Kp.alloc _ _) | exact K0.out.trans ((Kp.drew _).trans (Kp.alloc _ _))⟩
theorem cs1_heap {w : World} {B : Nat} {t : TypeId} {c : Array Value} {fr : Nat × Nat} (hB : w.heap[B]? = some (.cells c t fr)) (o : Nat) (x : Value) : (w.setCell ⟨B, o, none⟩ x).heap[B]? = some (.cells (c.setIfInBounds o x) t fr) := by
 unfold World.setCell
 simp only
 rw [Array.getElem?_modify, if_pos rfl, hB]
 rfl
theorem cs1_other {w : World} {B C : Nat} (h : C ≠ B) (o : Nat) (x : Value) : (w.setCell ⟨B, o, none⟩ x).heap[C]? = w.heap[C]? := by
 unfold World.setCell
 simp only
 rw [Array.getElem?_modify, if_neg (Ne.symm h)]
def cellsP (p : PLC) : List Value := [.int .i64 p.at_, .int .i64 p.lo, .int .i64 p.hi, .bool p.em]
def cellsK : List PLC → List Value
 | [] => []
 | p :: t => .int .i64 p.at_ :: .int .i64 p.lo :: .int .i64 p.hi :: .bool p.em :: cellsK t
theorem cellsK_append (L M : List PLC) : cellsK (L ++ M) = cellsK L ++ cellsK M := by
 induction L with
 | nil => rfl
 | cons p t ih => simp only [List.cons_append, cellsK, ih]
theorem cellsK_at : ∀ (L : List PLC) (i : Nat) (h : i < L.length), (cellsK L)[i * 4]? = some (.int .i64 (plAt L i).at_) ∧ (cellsK L)[i * 4 + 1]? = some (.int .i64 (plAt L i).lo) ∧ (cellsK L)[i * 4 + 2]? = some (.int .i64 (plAt L i).hi) ∧ (cellsK L)[i * 4 + 3]? = some (.bool (plAt L i).em) := by
 intro L
 induction L with
 | nil => intro i h; simp at h
 | cons p t ih =>
  intro i h
  unfold cellsK
  cases i with
  | zero => exact ⟨rfl, rfl, rfl, rfl⟩
  | succ i =>
   have g := ih i (by simpa using h)
   have e : plAt (p :: t) (i + 1) = plAt t i := rfl
   rw [show (i + 1) * 4 = i * 4 + 1 + 1 + 1 + 1 by omega, e]
   simp only [List.getElem?_cons_succ]
   exact g
theorem cellsK_one : ∀ L : List PLC, ∀ u ∈ cellsK L, u.oneCell' = true := by
 intro L
 induction L with
 | nil => intro u hu; cases hu
 | cons p t ih =>
  intro u hu
  unfold cellsK at hu
  simp only [List.mem_cons] at hu
  rcases hu with rfl | rfl | rfl | rfl | hu
  ·rfl
  ·rfl
  ·rfl
  ·rfl
  ·exact ih u hu
theorem cellsK_set : ∀ (L : List PLC) (i : Nat) (p : PLC), i < L.length → cellsK (L.set i p) = ((((cellsK L).set (i * 4) (.int .i64 p.at_)).set (i * 4 + 1) (.int .i64 p.lo)).set (i * 4 + 2) (.int .i64 p.hi)).set (i * 4 + 3) (.bool p.em) := by
 intro L
 induction L with
 | nil => intro i p h; simp at h
 | cons q t ih =>
  intro i p h
  cases i with
  | zero => simp [cellsK]
  | succ i =>
   have g := ih i p (by simpa using h)
   rw [show (i + 1) * 4 = i * 4 + 1 + 1 + 1 + 1 by omega]
   simp only [List.set_cons_succ, cellsK, g]
theorem cellsK_take : ∀ (L : List PLC) (n : Nat), (cellsK L).take (n * 4) = cellsK (L.take n) := by
 intro L
 induction L with
 | nil => intro n; simp [cellsK]
 | cons p t ih =>
  intro n
  cases n with
  | zero => simp [cellsK]
  | succ n =>
   rw [show (n + 1) * 4 = n * 4 + 1 + 1 + 1 + 1 by omega]
   simp only [cellsK, List.take_succ_cons, ih n]
theorem own_blk_ne {w : World} {base : Nat} {e t : TypeId} {size n B : Nat} {v : Value} {y : Array Value} {xs : List Value} {fr : Nat × Nat} (h : w.ownsRow base e size v n xs) (hB : w.heap[B]? = some (.cells y t fr)) (ht : (t == e) = false) : ∀ j, v.ownBlock = some j → j ≠ B := by
 intro j hj e1
 subst e1
 rcases h.2 with ⟨rfl, _⟩ | ⟨g, cap, cur, rfl, hb, hg, rest⟩
 ·cases hj
 ·cases hj
  rw [hB] at hg
  cases hg
  simp at ht
def HPs (w0 : World) (B : Nat) (L : List PLC) (w : World) : Prop :=
 Kp w0 w ∧ w0.heap.size ≤ B ∧ ∃ v, w.heap[B]? = some (.cells #[v] 129 (0, 0)) ∧ w.ownsRow w0.heap.size 132 4 v L.length (cellsK L)
theorem HPs.kp {w0 w w' : World} {B : Nat} {L : List PLC} (h : HPs w0 B L w) (k : Kp w w') : HPs w0 B L w' := by
 obtain ⟨h1, h2, v, h3, h4⟩ := h
 exact ⟨h1.trans k, h2, v, heap_block k h3, own_kp h4 k⟩
structure PAt (w : World) (g i : Nat) (p : PLC) : Prop where
 a : w.cell? ⟨g, i * 4, none⟩ = some (.int .i64 p.at_)
 b : w.cell? ⟨g, i * 4 + 1, none⟩ = some (.int .i64 p.lo)
 c : w.cell? ⟨g, i * 4 + 2, none⟩ = some (.int .i64 p.hi)
 d : w.cell? ⟨g, i * 4 + 3, none⟩ = some (.bool p.em)
theorem HPs.open {w0 w : World} {B : Nat} {L : List PLC} (h : HPs w0 B L w) (h0 : 0 < L.length) : ∃ g cap, w.heap[B]? = some (.cells #[.slice (some ⟨g, 0, none⟩) L.length cap] 129 (0, 0)) ∧ w.ownsRow w0.heap.size 132 4 (.slice (some ⟨g, 0, none⟩) L.length cap) L.length (cellsK L) ∧ L.length ≤ cap ∧ (∀ i, i < L.length → PAt w g i (plAt L i)) ∧ g ≠ B ∧ g < w.heap.size ∧ w0.heap.size ≤ g := by
 obtain ⟨h1, h2, v, h3, h4⟩ := h
 have h4' := h4
 rcases h4.2 with ⟨_, e⟩ | ⟨g, cap, cur, rfl, hb, hg, hc, _⟩
 ·omega
 ·refine ⟨g, cap, h3, h4', hc, fun i hi => ?_, ?_, ?_, hb⟩
  ·obtain ⟨a, b, c, d⟩ := cellsK_at L i hi
   exact ⟨by rw [h4'.cellAt _ (by omega)]; exact a, by rw [h4'.cellAt _ (by omega)]; exact b, by rw [h4'.cellAt _ (by omega)]; exact c, by rw [h4'.cellAt _ (by omega)]; exact d⟩
  ·rintro rfl
   rw [h3] at hg
   cases hg
  ·exact (Array.getElem?_eq_some_iff.1 hg).1
def plB : Obj → Bool
 | .cells _ t _ => t == 132 || t == 129
 | _ => false
structure PW (w w' : World) : Prop where
 size : w.heap.size ≤ w'.heap.size
 same : ∀ (k : Nat) (o : Obj), w.heap[k]? = some o → plB o = false → w'.heap[k]? = some o
theorem PW.refl (w : World) : PW w w := ⟨Nat.le_refl _, fun _ _ h _ => h⟩
theorem PW.trans {a b c : World} (h : PW a b) (k : PW b c) : PW a c := ⟨Nat.le_trans h.size k.size, fun i o hi ho => k.same i o (h.same i o hi ho) ho⟩
theorem PW.kp {w w' : World} (k : Kp w w') : PW w w' := ⟨k.size, fun i o hi _ => (k.block i (Array.getElem?_eq_some_iff.1 hi).1).trans hi⟩
theorem PW.set {w : World} {b : Nat} {c : Array Value} {t : TypeId} {fr : Nat × Nat} (h : w.heap[b]? = some (.cells c t fr)) (ht : plB (.cells c t fr) = true) (o : Nat) (x : Value) : PW w (w.setCell ⟨b, o, none⟩ x) := by
 refine ⟨by unfold World.setCell; simp, fun k q hk hq => ?_⟩
 by_cases e : k = b
 ·subst e
  rw [h] at hk
  cases hk
  rw [ht] at hq
  cases hq
 ·exact (cs1_other e _ _).trans hk
theorem own_heap {w : World} {base g cap n : Nat} {e : TypeId} {size : Nat} {xs : List Value} (h : w.ownsRow base e size (.slice (some ⟨g, 0, none⟩) n cap) n xs) : base ≤ g ∧ ∃ cur, w.heap[g]? = some (.cells cur e (0, 0)) := by
 rcases h.2 with ⟨h0, _⟩ | ⟨g', cap', cur, e1, hb, hg, _⟩
 ·cases h0
 ·cases e1; exact ⟨hb, cur, hg⟩
theorem row_pw {w : World} {g : Nat} {cur : Array Value} {fr : Nat × Nat} (h : w.heap[g]? = some (.cells cur 132 fr)) (a b c d : Nat) (x0 x1 x2 x3 : Value) : PW w ((((w.setCell ⟨g, a, none⟩ x0).setCell ⟨g, b, none⟩ x1).setCell ⟨g, c, none⟩ x2).setCell ⟨g, d, none⟩ x3) := by
 have h1 := cs1_heap h a x0
 have h2 := cs1_heap h1 b x1
 have h3 := cs1_heap h2 c x2
 exact (((PW.set h (by simp [plB]) a x0).trans (PW.set h1 (by simp [plB]) b x1)).trans (PW.set h2 (by simp [plB]) c x2)).trans (PW.set h3 (by simp [plB]) d x3)
theorem PW.own {w w' : World} (k : PW w w') {base : Nat} {e : TypeId} {size : Nat} {v : Value} {n : Nat} {xs : List Value} (h : w.ownsRow base e size v n xs) (he : (e == 132 || e == 129) = false) : w'.ownsRow base e size v n xs := by
 refine ⟨h.1, ?_⟩
 rcases h.2 with h2 | ⟨g, cap, cur, e1, hb, hg, rest⟩
 ·exact .inl h2
 ·exact .inr ⟨g, cap, cur, e1, hb, k.same g _ hg he, rest⟩
theorem HPs.grown {w0 w w1 : World} {B : Nat} {L : List PLC} (h : HPs w0 B L w) {base : Nat} {e : TypeId} {size n : Nat} {v : Value} {xs : List Value} (hown : w.ownsRow base e size v n xs) (h1 : (132 == e) = false) (h2 : (129 == e) = false) (hb : w0.heap.size ≤ base) (g : w.grownBy w1 v.ownBlock) : HPs w0 B L w1 := by
 obtain ⟨k, hB, u, hu, hr⟩ := h
 have nb : ∀ j, v.ownBlock = some j → w0.heap.size ≤ j := by
  intro j hj
  rcases hown.2 with ⟨rfl, _⟩ | ⟨q, cap, cur, rfl, hq, _⟩
  ·cases hj
  ·cases hj; exact Nat.le_trans hb hq
 have lt : ∀ {k : Nat} {o : Obj}, w.heap[k]? = some o → k < w.heap.size := fun hk => (Array.getElem?_eq_some_iff.1 hk).1
 refine ⟨⟨g.os.trans k.os, g.tape.trans k.tape, g.output.trans k.output, Nat.le_trans k.size g.size, fun i hi => (g.block i (Nat.lt_of_lt_of_le hi k.size) (fun e => by have := nb i e.symm; omega)).trans (k.block i hi)⟩, hB, u, (g.block B (lt hu) (fun e => own_blk_ne hown hu h2 B e.symm rfl)).trans hu, hr.1, ?_⟩
 rcases hr.2 with q | ⟨q, cap, cur, e1, hq, hg, rest⟩
 ·exact .inl q
 ·exact .inr ⟨q, cap, cur, e1, hq, (g.block q (lt hg) (fun e => own_blk_ne hown hg h1 q e.symm rfl)).trans hg, rest⟩
theorem hlen_any (w0 : World) (B : Nat) (L : List PLC) (w : World) (h : HPs w0 B L w) :
  Calls Tryz.prog 105 #[.pointer (some ⟨B, 0, none⟩)] w fun e w' => e = .returned (.int .i64 L.length) ∧ w = w' := by
 obtain ⟨h1, h2, v, h3, h4⟩ := h
 obtain ⟨ad, c, rfl⟩ := own_slice h4
 have q : w.cell? ⟨B, 0, none⟩ = some (.slice ad L.length c) := by simp [World.cell?, h3]
 clear h1 h2 h3 h4
 go_enter Tryz.func105, Tryz.ntmps105
 go_wp2
 go_ret
 exact ⟨rfl, rfl⟩
abbrev lA0 : Oper := { dst := some 9, op := Go.Op.move (Go.Operand.tmp 0), type := 126, pos := "order.go:88", after := #[], guard := none }
abbrev lA1 : Oper := { dst := some 10, op := Go.Op.nilCheck (Go.Operand.tmp 9), type := 0, pos := "order.go:88", after := #[{ on := 0, ground := Go.Ground.data }], guard := none }
abbrev lA2 : Oper := { dst := some 11, op := Go.Op.fieldAddr 129 (Go.Operand.tmp 10) 0, type := 0, pos := "order.go:88", after := #[{ on := 1, ground := Go.Ground.data }], guard := none }
abbrev lA3 : Oper := { dst := some 12, op := Go.Op.load 127 (Go.Operand.tmp 11), type := 127, pos := "order.go:88", after := #[{ on := 2, ground := Go.Ground.data }], guard := none }
abbrev lA4 : Oper := { dst := some 13, op := Go.Op.move (Go.Operand.tmp 1), type := 3, pos := "order.go:88", after := #[], guard := none }
abbrev lA5 : Oper := { dst := some 14, op := Go.Op.indexAddr 127 (Go.Operand.tmp 12) (Go.Operand.tmp 13), type := 0, pos := "order.go:88", after := #[{ on := 3, ground := Go.Ground.data }, { on := 4, ground := Go.Ground.data }], guard := none }
abbrev lA6 : Oper := { dst := some 15, op := Go.Op.load 132 (Go.Operand.tmp 14), type := 132, pos := "order.go:88", after := #[{ on := 5, ground := Go.Ground.data }], guard := none }
abbrev lA7 : Oper := { dst := some 16, op := Go.Op.move (Go.Operand.tmp 0), type := 126, pos := "order.go:88", after := #[{ on := 16, ground := Go.Ground.gcOnly Go.Departure.lateStores }], guard := none }
abbrev lA8 : Oper := { dst := some 17, op := Go.Op.nilCheck (Go.Operand.tmp 16), type := 0, pos := "order.go:88", after := #[{ on := 7, ground := Go.Ground.data }, { on := 16, ground := Go.Ground.gcOnly Go.Departure.lateStores }], guard := none }
abbrev lA9 : Oper := { dst := some 18, op := Go.Op.fieldAddr 129 (Go.Operand.tmp 17) 0, type := 0, pos := "order.go:88", after := #[{ on := 8, ground := Go.Ground.data }, { on := 16, ground := Go.Ground.gcOnly Go.Departure.lateStores }], guard := none }
abbrev lA10 : Oper := { dst := some 19, op := Go.Op.load 127 (Go.Operand.tmp 18), type := 127, pos := "order.go:88", after := #[{ on := 9, ground := Go.Ground.data }, { on := 16, ground := Go.Ground.gcOnly Go.Departure.lateStores }], guard := none }
abbrev lA11 : Oper := { dst := some 20, op := Go.Op.move (Go.Operand.tmp 2), type := 3, pos := "order.go:88", after := #[{ on := 16, ground := Go.Ground.gcOnly Go.Departure.lateStores }], guard := none }
abbrev lA12 : Oper := { dst := some 21, op := Go.Op.indexAddr 127 (Go.Operand.tmp 19) (Go.Operand.tmp 20), type := 0, pos := "order.go:88", after := #[{ on := 10, ground := Go.Ground.data }, { on := 11, ground := Go.Ground.data }, { on := 16, ground := Go.Ground.gcOnly Go.Departure.lateStores }], guard := none }
abbrev lA13 : Oper := { dst := some 22, op := Go.Op.load 132 (Go.Operand.tmp 21), type := 132, pos := "order.go:88", after := #[{ on := 12, ground := Go.Ground.data }, { on := 16, ground := Go.Ground.gcOnly Go.Departure.lateStores }], guard := none }
abbrev lA14 : Oper := { dst := some 7, op := Go.Op.alloc 132, type := 0, pos := "order.go:88", after := #[], guard := none }
abbrev lA15 : Oper := { dst := some 8, op := Go.Op.alloc 132, type := 0, pos := "order.go:88", after := #[], guard := none }
abbrev lA16 : Oper := { dst := none, op := Go.Op.store 132 (Go.Operand.tmp 7) (Go.Operand.tmp 15), type := 0, pos := "order.go:88", after := #[{ on := 14, ground := Go.Ground.data }, { on := 6, ground := Go.Ground.data }, { on := 0, ground := Go.Ground.phase }, { on := 1, ground := Go.Ground.phase }, { on := 2, ground := Go.Ground.phase }, { on := 3, ground := Go.Ground.phase }, { on := 4, ground := Go.Ground.phase }, { on := 5, ground := Go.Ground.phase }, { on := 6, ground := Go.Ground.phase }, { on := 7, ground := Go.Ground.textOnly Go.Departure.lateStores }, { on := 8, ground := Go.Ground.textOnly Go.Departure.lateStores }, { on := 9, ground := Go.Ground.textOnly Go.Departure.lateStores }, { on := 10, ground := Go.Ground.textOnly Go.Departure.lateStores }, { on := 11, ground := Go.Ground.textOnly Go.Departure.lateStores }, { on := 12, ground := Go.Ground.textOnly Go.Departure.lateStores }, { on := 13, ground := Go.Ground.textOnly Go.Departure.lateStores }, { on := 14, ground := Go.Ground.phase }, { on := 15, ground := Go.Ground.phase }], guard := none }
abbrev lA17 : Oper := { dst := none, op := Go.Op.store 132 (Go.Operand.tmp 8) (Go.Operand.tmp 22), type := 0, pos := "order.go:88", after := #[{ on := 15, ground := Go.Ground.data }, { on := 13, ground := Go.Ground.data }, { on := 16, ground := Go.Ground.chain }, { on := 0, ground := Go.Ground.phase }, { on := 1, ground := Go.Ground.phase }, { on := 2, ground := Go.Ground.phase }, { on := 3, ground := Go.Ground.phase }, { on := 4, ground := Go.Ground.phase }, { on := 5, ground := Go.Ground.phase }, { on := 6, ground := Go.Ground.phase }, { on := 7, ground := Go.Ground.phase }, { on := 8, ground := Go.Ground.phase }, { on := 9, ground := Go.Ground.phase }, { on := 10, ground := Go.Ground.phase }, { on := 11, ground := Go.Ground.phase }, { on := 12, ground := Go.Ground.phase }, { on := 13, ground := Go.Ground.phase }, { on := 14, ground := Go.Ground.phase }, { on := 15, ground := Go.Ground.phase }, { on := 16, ground := Go.Ground.phase }], guard := none }
abbrev lB0 : Oper := { dst := some 30, op := Go.Op.fieldAddr 132 (Go.Operand.tmp 7) 1, type := 0, pos := "order.go:92", after := #[], guard := none }
abbrev lB1 : Oper := { dst := some 31, op := Go.Op.load 72 (Go.Operand.tmp 30), type := 72, pos := "order.go:92", after := #[{ on := 0, ground := Go.Ground.data }], guard := none }
abbrev lB2 : Oper := { dst := some 32, op := Go.Op.fieldAddr 132 (Go.Operand.tmp 8) 1, type := 0, pos := "order.go:92", after := #[], guard := none }
abbrev lB3 : Oper := { dst := some 33, op := Go.Op.load 72 (Go.Operand.tmp 32), type := 72, pos := "order.go:92", after := #[{ on := 2, ground := Go.Ground.data }], guard := none }
abbrev lB4 : Oper := { dst := some 34, op := Go.Op.call { callee := Go.Callee.value (Go.Operand.func 52), args := #[Go.Operand.tmp 31, Go.Operand.tmp 33], argTypes := #[72, 72] }, type := 3, pos := "order.go:92", after := #[{ on := 1, ground := Go.Ground.data }, { on := 3, ground := Go.Ground.data }], guard := none }
abbrev lB5 : Oper := { dst := some 35, op := Go.Op.fieldAddr 132 (Go.Operand.tmp 7) 0, type := 0, pos := "order.go:92", after := #[], guard := none }
abbrev lB6 : Oper := { dst := some 36, op := Go.Op.load 3 (Go.Operand.tmp 35), type := 3, pos := "order.go:92", after := #[{ on := 5, ground := Go.Ground.data }], guard := none }
abbrev lB7 : Oper := { dst := some 37, op := Go.Op.fieldAddr 132 (Go.Operand.tmp 8) 0, type := 0, pos := "order.go:92", after := #[], guard := none }
abbrev lB8 : Oper := { dst := some 38, op := Go.Op.load 3 (Go.Operand.tmp 37), type := 3, pos := "order.go:92", after := #[{ on := 7, ground := Go.Ground.data }], guard := none }
abbrev lB9 : Oper := { dst := some 39, op := Go.Op.call { callee := Go.Callee.value (Go.Operand.func 88), args := #[Go.Operand.tmp 36, Go.Operand.tmp 38], argTypes := #[3, 3] }, type := 3, pos := "order.go:92", after := #[{ on := 6, ground := Go.Ground.data }, { on := 8, ground := Go.Ground.data }, { on := 4, ground := Go.Ground.chain }], guard := none }
abbrev lB10 : Oper := { dst := some 40, op := Go.Op.buildSlice 75 2 #[(0, Go.Operand.tmp 34), (1, Go.Operand.tmp 39)], type := 75, pos := "order.go:92", after := #[{ on := 4, ground := Go.Ground.data }, { on := 9, ground := Go.Ground.data }], guard := none }
abbrev lB11 : Oper := { dst := some 41, op := Go.Op.call { callee := Go.Callee.value (Go.Operand.func 107), args := #[Go.Operand.tmp 40], argTypes := #[75] }, type := 3, pos := "order.go:92", after := #[{ on := 10, ground := Go.Ground.data }, { on := 9, ground := Go.Ground.chain }], guard := none }
abbrev lB12 : Oper := { dst := some 42, op := Go.Op.binOp Go.BinOp.lss 3 (Go.Operand.tmp 41) (Go.Operand.const (Go.Value.int Go.IntKind.i64 0)) 3, type := 4, pos := "order.go:92", after := #[{ on := 11, ground := Go.Ground.data }], guard := none }
abbrev lB13 : Oper := { dst := some 6, op := Go.Op.assign (Go.Operand.tmp 42), type := 4, pos := "order.go:92", after := #[{ on := 12, ground := Go.Ground.data }, { on := 11, ground := Go.Ground.chain }, { on := 0, ground := Go.Ground.phase }, { on := 1, ground := Go.Ground.phase }, { on := 2, ground := Go.Ground.phase }, { on := 3, ground := Go.Ground.phase }, { on := 4, ground := Go.Ground.phase }, { on := 5, ground := Go.Ground.phase }, { on := 6, ground := Go.Ground.phase }, { on := 7, ground := Go.Ground.phase }, { on := 8, ground := Go.Ground.phase }, { on := 9, ground := Go.Ground.phase }, { on := 10, ground := Go.Ground.phase }, { on := 11, ground := Go.Ground.phase }, { on := 12, ground := Go.Ground.phase }], guard := none }
theorem less_or (ia il ih ja jl jh : Int) (e : Bool) : lessP ⟨ia, il, ih, e⟩ ⟨ja, jl, jh, e⟩ = decide ((if cmpK il ih jl jh = 0 then cmp1 ia ja else cmpK il ih jl jh) < 0) := by
 rw [Bool.eq_iff_iff, less_iff, decide_eq_true_eq]
 simp only [true_and]
 have c1 : cmp1 ia ja < 0 ↔ ia < ja := by
  unfold cmp1
  split
  ·simp; omega
  ·split <;> simp <;> omega
 rcases cmpK_cases il ih jl jh with ⟨h, g⟩ | ⟨h, g⟩ | ⟨h, g⟩
 ·rw [h, if_neg (by decide)]
  cases e <;> simp <;> omega
 ·rw [h, if_pos rfl, c1]
  cases e <;> simp <;> omega
 ·rw [h, if_neg (by decide)]
  cases e <;> simp <;> omega
theorem hless_any (w0 : World) (B : Nat) (L : List PLC) (i j : Nat) (w : World) (h : HPs w0 B L w) (hi : i < L.length) (hj : j < L.length) :
  Calls Tryz.prog 316 #[.pointer (some ⟨B, 0, none⟩), .int .i64 i, .int .i64 j] w fun e w' => e = .returned (.bool (lessP (plAt L i) (plAt L j))) ∧ Kp w w' := by
 obtain ⟨g, cap, h3, h4, hc, hx, hgB, hg1, hg2⟩ := h.open (by omega)
 have ci := hx i hi
 have cj := hx j hj
 generalize hpi : plAt L i = pi at *
 generalize hpj : plAt L j = pj at *
 obtain ⟨ia, il, ih, ie⟩ := pi
 obtain ⟨ja, jl, jh, je⟩ := pj
 have q : w.cell? ⟨B, 0, none⟩ = some (.slice (some ⟨g, 0, none⟩) L.length cap) := by simp [World.cell?, h3]
 have KS := Lib.hid (fun w' (kq : Kp w w') => show w'.cell? ⟨B, 0, none⟩ = some (.slice (some ⟨g, 0, none⟩) L.length cap) ∧ w'.cell? ⟨g, i * 4, none⟩ = some (.int .i64 ia) ∧ w'.cell? ⟨g, i * 4 + 1, none⟩ = some (.int .i64 il) ∧ w'.cell? ⟨g, i * 4 + 2, none⟩ = some (.int .i64 ih) ∧ w'.cell? ⟨g, i * 4 + 3, none⟩ = some (.bool ie) ∧ w'.cell? ⟨g, j * 4, none⟩ = some (.int .i64 ja) ∧ w'.cell? ⟨g, j * 4 + 1, none⟩ = some (.int .i64 jl) ∧ w'.cell? ⟨g, j * 4 + 2, none⟩ = some (.int .i64 jh) ∧ w'.cell? ⟨g, j * 4 + 3, none⟩ = some (.bool je) ∧ Kp w w' from ⟨cell_up kq q, cell_up kq ci.a, cell_up kq ci.b, cell_up kq ci.c, cell_up kq ci.d, cell_up kq cj.a, cell_up kq cj.b, cell_up kq cj.c, cell_up kq cj.d, kq⟩)
 have z1 : (i : Int) < (L.length : Int) := by omega
 have z2 : (0 : Int) ≤ (i : Int) := by omega
 have z3 : (j : Int) < (L.length : Int) := by omega
 have z4 : (0 : Int) ≤ (j : Int) := by omega
 clear h3 h4 hx ci cj h hpi hpj
 obtain ⟨rb, hrb⟩ : ∃ r, lessP ⟨ia, il, ih, ie⟩ ⟨ja, jl, jh, je⟩ = r := ⟨_, rfl⟩
 rw [hrb]
 cases ie <;> cases je
 ·have C1 := Lib.hid (fun w => kcmp_any il ih jl jh w)
  have C2 := Lib.hid (fun w => cmp1_any ia ja w)
  rw [less_or] at hrb
  have C3 := Lib.hid (fun w1 bl (hx : w1.cell? ⟨bl, 0, none⟩ = some (.int .i64 (cmpK il ih jl jh))) hy => or2_any bl (cmpK il ih jl jh) (cmp1 ia ja) w1 hx hy)
  generalize (if cmpK il ih jl jh = 0 then cmp1 ia ja else cmpK il ih jl jh) = r at *
  generalize cmpK il ih jl jh = x at *
  generalize cmp1 ia ja = y at *
  have HRB := Lib.hid hrb
  go_enter Tryz.func316, Tryz.ntmps316
  go_wp2_with fail
  refine wp_region_held_drew (S := fun w' => w'.cell? ⟨B, 0, none⟩ = some (.slice (some ⟨g, 0, none⟩) L.length cap) ∧ w'.cell? ⟨g, i * 4, none⟩ = some (.int .i64 ia) ∧ w'.cell? ⟨g, i * 4 + 1, none⟩ = some (.int .i64 il) ∧ w'.cell? ⟨g, i * 4 + 2, none⟩ = some (.int .i64 ih) ∧ w'.cell? ⟨g, i * 4 + 3, none⟩ = some (.bool false) ∧ w'.cell? ⟨g, j * 4, none⟩ = some (.int .i64 ja) ∧ w'.cell? ⟨g, j * 4 + 1, none⟩ = some (.int .i64 jl) ∧ w'.cell? ⟨g, j * 4 + 2, none⟩ = some (.int .i64 jh) ∧ w'.cell? ⟨g, j * 4 + 3, none⟩ = some (.bool false) ∧ Kp w w') (by kernel_rfl) ?_ (fun hHeld0 => ?_)
  ·(try dsimp only); first | exact KS.out _ (by first | assumption | exact Kp.drew _) | exact KS.out _ (Kp.refl _) | exact KS.out _ (Kp.alloc _ _) | exact KS.out _ ((Kp.alloc _ _).trans (Kp.alloc _ _)) | exact KS.out _ ((Kp.drew _).trans (Kp.alloc _ _)) | exact KS.out _ (((Kp.drew _).trans (Kp.alloc _ _)).trans (Kp.alloc _ _))
  refine tkv 0 lA0 ?_
  (try simp only [Act.put, lA0, List.setIfInBounds_toArray, List.set_cons_zero, List.set_cons_succ])
  refine tkv 1 lA1 ?_
  (try simp only [Act.put, lA1, List.setIfInBounds_toArray, List.set_cons_zero, List.set_cons_succ])
  refine tkv 2 lA2 ?_
  (try simp only [Act.put, lA2, List.setIfInBounds_toArray, List.set_cons_zero, List.set_cons_succ])
  refine tkv 3 lA3 ?_
  (try simp only [Act.put, lA3, List.setIfInBounds_toArray, List.set_cons_zero, List.set_cons_succ])
  refine tkv 4 lA4 ?_
  (try simp only [Act.put, lA4, List.setIfInBounds_toArray, List.set_cons_zero, List.set_cons_succ])
  refine tkv 5 lA5 ?_
  (try simp only [Act.put, lA5, List.setIfInBounds_toArray, List.set_cons_zero, List.set_cons_succ])
  refine tkv 6 lA6 ?_
  (try simp only [Act.put, lA6, List.setIfInBounds_toArray, List.set_cons_zero, List.set_cons_succ])
  refine tkv 7 lA7 ?_
  (try simp only [Act.put, lA7, List.setIfInBounds_toArray, List.set_cons_zero, List.set_cons_succ])
  refine tkv 8 lA8 ?_
  (try simp only [Act.put, lA8, List.setIfInBounds_toArray, List.set_cons_zero, List.set_cons_succ])
  refine tkv 9 lA9 ?_
  (try simp only [Act.put, lA9, List.setIfInBounds_toArray, List.set_cons_zero, List.set_cons_succ])
  refine tkv 10 lA10 ?_
  (try simp only [Act.put, lA10, List.setIfInBounds_toArray, List.set_cons_zero, List.set_cons_succ])
  refine tkv 11 lA11 ?_
  (try simp only [Act.put, lA11, List.setIfInBounds_toArray, List.set_cons_zero, List.set_cons_succ])
  refine tkv 12 lA12 ?_
  (try simp only [Act.put, lA12, List.setIfInBounds_toArray, List.set_cons_zero, List.set_cons_succ])
  refine tkv 13 lA13 ?_
  (try simp only [Act.put, lA13, List.setIfInBounds_toArray, List.set_cons_zero, List.set_cons_succ])
  refine tkE2 14 15 lA14 lA15 rfl rfl (by kernel_rfl) (fun K hK => ?_) (fun K hK => ?_)
  ·go_simp
   skip
   (try go_wp2_with fail)
   refine hK.out _ _ ?_ (fun hHeld1 => ?_)
   ·(try dsimp only); first | exact KS.out _ (by first | assumption | exact Kp.drew _) | exact KS.out _ (Kp.refl _) | exact KS.out _ (Kp.alloc _ _) | exact KS.out _ ((Kp.alloc _ _).trans (Kp.alloc _ _)) | exact KS.out _ ((Kp.drew _).trans (Kp.alloc _ _)) | exact KS.out _ (((Kp.drew _).trans (Kp.alloc _ _)).trans (Kp.alloc _ _))
   clear hK K hHeld0
   (try simp only [Act.put, lA14, List.setIfInBounds_toArray, List.set_cons_zero, List.set_cons_succ])
   refine tkE 15 lA15 rfl (by kernel_rfl) (fun K hK => ?_)
   go_simp
   skip
   (try go_wp2_with fail)
   refine hK.out _ _ ?_ (fun hHeld2 => ?_)
   ·(try dsimp only); first | exact KS.out _ (by first | assumption | exact Kp.drew _) | exact KS.out _ (Kp.refl _) | exact KS.out _ (Kp.alloc _ _) | exact KS.out _ ((Kp.alloc _ _).trans (Kp.alloc _ _)) | exact KS.out _ ((Kp.drew _).trans (Kp.alloc _ _)) | exact KS.out _ (((Kp.drew _).trans (Kp.alloc _ _)).trans (Kp.alloc _ _))
   clear hK K hHeld1
   (try simp only [Act.put, lA15, List.setIfInBounds_toArray, List.set_cons_zero, List.set_cons_succ])
   refine tkE 16 lA16 rfl (by kernel_rfl) (fun K hK => ?_)
   go_simp
   skip
   (try go_wp2_with fail)
   refine hK.out _ _ ?_ (fun hHeld3 => ?_)
   ·(try dsimp only); first | exact KS.out _ (by first | assumption | exact Kp.drew _) | exact KS.out _ (Kp.refl _) | exact KS.out _ (Kp.alloc _ _) | exact KS.out _ ((Kp.alloc _ _).trans (Kp.alloc _ _)) | exact KS.out _ ((Kp.drew _).trans (Kp.alloc _ _)) | exact KS.out _ (((Kp.drew _).trans (Kp.alloc _ _)).trans (Kp.alloc _ _))
   clear hK K hHeld2
   (try simp only [Act.put, lA16, List.setIfInBounds_toArray, List.set_cons_zero, List.set_cons_succ])
   refine tkE 17 lA17 rfl (by kernel_rfl) (fun K hK => ?_)
   go_simp
   skip
   (try go_wp2_with fail)
   refine hK.out _ _ ?_ (fun hHeld4 => ?_)
   ·(try dsimp only); first | exact KS.out _ (by first | assumption | exact Kp.drew _) | exact KS.out _ (Kp.refl _) | exact KS.out _ (Kp.alloc _ _) | exact KS.out _ ((Kp.alloc _ _).trans (Kp.alloc _ _)) | exact KS.out _ ((Kp.drew _).trans (Kp.alloc _ _)) | exact KS.out _ (((Kp.drew _).trans (Kp.alloc _ _)).trans (Kp.alloc _ _))
   clear hK K hHeld3
   (try simp only [Act.put, lA17, List.setIfInBounds_toArray, List.set_cons_zero, List.set_cons_succ])
   refine wpAnyH_done (by kernel_rfl) ?_ _
   obtain ⟨V, hV⟩ : ∃ x : World, x = ((w.alloc (.cells #[.int .i64 ia, .int .i64 il, .int .i64 ih, .bool false] 132)).alloc (.cells #[.int .i64 ja, .int .i64 jl, .int .i64 jh, .bool false] 132)).drew := ⟨_, rfl⟩
   rw [← hV]
   have kv : Kp w V := by rw [hV]; exact ((Kp.alloc _ _).trans (Kp.alloc _ _)).trans (Kp.drew _)
   have hA : V.heap[w.heap.size]? = some (.cells #[.int .i64 ia, .int .i64 il, .int .i64 ih, .bool false] 132 (0, 0)) := by rw [hV]; exact heap_block ((Kp.alloc _ _).trans (Kp.drew _)) (heap_at _ _ _ rfl)
   have hB : V.heap[w.heap.size + 1]? = some (.cells #[.int .i64 ja, .int .i64 jl, .int .i64 jh, .bool false] 132 (0, 0)) := by rw [hV]; exact heap_block (Kp.drew _) (heap_at _ _ _ (by simp))
   have y0 : V.cell? ⟨w.heap.size, 0, none⟩ = some (.int .i64 ia) := by simp [World.cell?, hA, hB]
   have y1 : V.cell? ⟨w.heap.size, 1, none⟩ = some (.int .i64 il) := by simp [World.cell?, hA, hB]
   have y2 : V.cell? ⟨w.heap.size, 2, none⟩ = some (.int .i64 ih) := by simp [World.cell?, hA, hB]
   have y3 : V.cell? ⟨w.heap.size, 3, none⟩ = some (.bool false) := by simp [World.cell?, hA, hB]
   have y4 : V.cell? ⟨w.heap.size + 1, 0, none⟩ = some (.int .i64 ja) := by simp [World.cell?, hA, hB]
   have y5 : V.cell? ⟨w.heap.size + 1, 1, none⟩ = some (.int .i64 jl) := by simp [World.cell?, hA, hB]
   have y6 : V.cell? ⟨w.heap.size + 1, 2, none⟩ = some (.int .i64 jh) := by simp [World.cell?, hA, hB]
   have y7 : V.cell? ⟨w.heap.size + 1, 3, none⟩ = some (.bool false) := by simp [World.cell?, hA, hB]
   have KS2 := Lib.hid (fun w' (kq : Kp V w') => show w'.cell? ⟨w.heap.size, 0, none⟩ = some (.int .i64 ia) ∧ w'.cell? ⟨w.heap.size, 1, none⟩ = some (.int .i64 il) ∧ w'.cell? ⟨w.heap.size, 2, none⟩ = some (.int .i64 ih) ∧ w'.cell? ⟨w.heap.size, 3, none⟩ = some (.bool false) ∧ w'.cell? ⟨w.heap.size + 1, 0, none⟩ = some (.int .i64 ja) ∧ w'.cell? ⟨w.heap.size + 1, 1, none⟩ = some (.int .i64 jl) ∧ w'.cell? ⟨w.heap.size + 1, 2, none⟩ = some (.int .i64 jh) ∧ w'.cell? ⟨w.heap.size + 1, 3, none⟩ = some (.bool false) ∧ Kp V w' from ⟨cell_up kq y0, cell_up kq y1, cell_up kq y2, cell_up kq y3, cell_up kq y4, cell_up kq y5, cell_up kq y6, cell_up kq y7, kq⟩)
   have KV := Lib.hid kv
   clear hV hA hB kv
   go_wp2_with fail
   refine wp_region_held_drew (S := fun w' => w'.cell? ⟨w.heap.size, 0, none⟩ = some (.int .i64 ia) ∧ w'.cell? ⟨w.heap.size, 1, none⟩ = some (.int .i64 il) ∧ w'.cell? ⟨w.heap.size, 2, none⟩ = some (.int .i64 ih) ∧ w'.cell? ⟨w.heap.size, 3, none⟩ = some (.bool false) ∧ w'.cell? ⟨w.heap.size + 1, 0, none⟩ = some (.int .i64 ja) ∧ w'.cell? ⟨w.heap.size + 1, 1, none⟩ = some (.int .i64 jl) ∧ w'.cell? ⟨w.heap.size + 1, 2, none⟩ = some (.int .i64 jh) ∧ w'.cell? ⟨w.heap.size + 1, 3, none⟩ = some (.bool false) ∧ Kp V w') (by kernel_rfl) ?_ (fun hHeld0 => ?_)
   ·(try dsimp only); first | exact KS2.out _ (by first | assumption | exact Kp.drew _) | exact KS2.out _ (Kp.refl _) | exact KS2.out _ (k2.trans (Kp.alloc _ _)) | exact KS2.out _ (k2.trans (Kp.drew _)) | exact KS2.out _ ((k2.trans (Kp.alloc _ _)).trans (Kp.drew _)) | exact KS2.out _ ((k2.trans (Kp.drew _)).trans (Kp.alloc _ _))
   refine tkv 0 lB0 ?_
   (try simp only [Act.put, lB0, List.setIfInBounds_toArray, List.set_cons_zero, List.set_cons_succ])
   refine tkv 1 lB1 ?_
   (try simp only [Act.put, lB1, List.setIfInBounds_toArray, List.set_cons_zero, List.set_cons_succ])
   refine tkv 2 lB2 ?_
   (try simp only [Act.put, lB2, List.setIfInBounds_toArray, List.set_cons_zero, List.set_cons_succ])
   refine tkv 3 lB3 ?_
   (try simp only [Act.put, lB3, List.setIfInBounds_toArray, List.set_cons_zero, List.set_cons_succ])
   refine tkv 5 lB5 ?_
   (try simp only [Act.put, lB5, List.setIfInBounds_toArray, List.set_cons_zero, List.set_cons_succ])
   refine tkv 6 lB6 ?_
   (try simp only [Act.put, lB6, List.setIfInBounds_toArray, List.set_cons_zero, List.set_cons_succ])
   refine tkv 7 lB7 ?_
   (try simp only [Act.put, lB7, List.setIfInBounds_toArray, List.set_cons_zero, List.set_cons_succ])
   refine tkv 8 lB8 ?_
   (try simp only [Act.put, lB8, List.setIfInBounds_toArray, List.set_cons_zero, List.set_cons_succ])
   refine tkE 4 lB4 rfl (by kernel_rfl) (fun K hK => ?_)
   go_simp
   (refine (C1.out _).mono ?_; rintro e w' ⟨rfl, k1⟩; have k2 := Kp.trans (show Kp V _ from (by first | assumption | exact Kp.drew _)) k1; clear k1)
   (try go_wp2_with fail)
   refine hK.out _ _ ?_ (fun hHeld1 => ?_)
   ·(try dsimp only); first | exact KS2.out _ (by first | assumption | exact Kp.drew _) | exact KS2.out _ (Kp.refl _) | exact KS2.out _ (k2.trans (Kp.alloc _ _)) | exact KS2.out _ (k2.trans (Kp.drew _)) | exact KS2.out _ ((k2.trans (Kp.alloc _ _)).trans (Kp.drew _)) | exact KS2.out _ ((k2.trans (Kp.drew _)).trans (Kp.alloc _ _))
   clear hK K hHeld0
   (try simp only [Act.put, lB4, List.setIfInBounds_toArray, List.set_cons_zero, List.set_cons_succ])
   refine tkE 9 lB9 rfl (by kernel_rfl) (fun K hK => ?_)
   go_simp
   (refine (C2.out _).mono ?_; rintro e w' ⟨rfl, rfl⟩)
   (try go_wp2_with fail)
   refine hK.out _ _ ?_ (fun hHeld2 => ?_)
   ·(try dsimp only); first | exact KS2.out _ (by first | assumption | exact Kp.drew _) | exact KS2.out _ (Kp.refl _) | exact KS2.out _ (k2.trans (Kp.alloc _ _)) | exact KS2.out _ (k2.trans (Kp.drew _)) | exact KS2.out _ ((k2.trans (Kp.alloc _ _)).trans (Kp.drew _)) | exact KS2.out _ ((k2.trans (Kp.drew _)).trans (Kp.alloc _ _))
   clear hK K hHeld1
   (try simp only [Act.put, lB9, List.setIfInBounds_toArray, List.set_cons_zero, List.set_cons_succ])
   refine tkE 10 lB10 rfl (by kernel_rfl) (fun K hK => ?_)
   go_simp
   skip
   (try go_wp2_with fail)
   refine hK.out _ _ ?_ (fun hHeld3 => ?_)
   ·(try dsimp only); first | exact KS2.out _ (by first | assumption | exact Kp.drew _) | exact KS2.out _ (Kp.refl _) | exact KS2.out _ (k2.trans (Kp.alloc _ _)) | exact KS2.out _ (k2.trans (Kp.drew _)) | exact KS2.out _ ((k2.trans (Kp.alloc _ _)).trans (Kp.drew _)) | exact KS2.out _ ((k2.trans (Kp.drew _)).trans (Kp.alloc _ _))
   clear hK K hHeld2
   (try simp only [Act.put, lB10, List.setIfInBounds_toArray, List.set_cons_zero, List.set_cons_succ])
   refine tkE 11 lB11 rfl (by kernel_rfl) (fun K hK => ?_)
   go_simp
   (refine (C3.out _ _ (by simp) (by simp)).mono ?_; rintro e w' ⟨rfl, rfl⟩)
   (try go_wp2_with fail)
   refine hK.out _ _ ?_ (fun hHeld4 => ?_)
   ·(try dsimp only); first | exact KS2.out _ (by first | assumption | exact Kp.drew _) | exact KS2.out _ (Kp.refl _) | exact KS2.out _ (k2.trans (Kp.alloc _ _)) | exact KS2.out _ (k2.trans (Kp.drew _)) | exact KS2.out _ ((k2.trans (Kp.alloc _ _)).trans (Kp.drew _)) | exact KS2.out _ ((k2.trans (Kp.drew _)).trans (Kp.alloc _ _))
   clear hK K hHeld3
   (try simp only [Act.put, lB11, List.setIfInBounds_toArray, List.set_cons_zero, List.set_cons_succ])
   refine tkv 12 lB12 ?_
   (try simp only [Act.put, lB12, List.setIfInBounds_toArray, List.set_cons_zero, List.set_cons_succ])
   refine tkv 13 lB13 ?_
   (try simp only [Act.put, lB13, List.setIfInBounds_toArray, List.set_cons_zero, List.set_cons_succ])
   refine wpAnyH_done (by kernel_rfl) ?_ _
   go_wp2
   go_ret
   exact ⟨by first | rfl | (rw [HRB.out]), by first | exact KV.out.trans (k2.trans (Kp.alloc _ _)) | exact KV.out.trans ((k2.trans (Kp.alloc _ _)).trans (Kp.drew _)) | exact KV.out.trans ((k2.trans (Kp.drew _)).trans (Kp.alloc _ _))⟩
  ·go_simp
   skip
   (try go_wp2_with fail)
   refine hK.out _ _ ?_ (fun hHeld1 => ?_)
   ·(try dsimp only); first | exact KS.out _ (by first | assumption | exact Kp.drew _) | exact KS.out _ (Kp.refl _) | exact KS.out _ (Kp.alloc _ _) | exact KS.out _ ((Kp.alloc _ _).trans (Kp.alloc _ _)) | exact KS.out _ ((Kp.drew _).trans (Kp.alloc _ _)) | exact KS.out _ (((Kp.drew _).trans (Kp.alloc _ _)).trans (Kp.alloc _ _))
   clear hK K hHeld0
   (try simp only [Act.put, lA15, List.setIfInBounds_toArray, List.set_cons_zero, List.set_cons_succ])
   refine tkE 14 lA14 rfl (by kernel_rfl) (fun K hK => ?_)
   go_simp
   skip
   (try go_wp2_with fail)
   refine hK.out _ _ ?_ (fun hHeld2 => ?_)
   ·(try dsimp only); first | exact KS.out _ (by first | assumption | exact Kp.drew _) | exact KS.out _ (Kp.refl _) | exact KS.out _ (Kp.alloc _ _) | exact KS.out _ ((Kp.alloc _ _).trans (Kp.alloc _ _)) | exact KS.out _ ((Kp.drew _).trans (Kp.alloc _ _)) | exact KS.out _ (((Kp.drew _).trans (Kp.alloc _ _)).trans (Kp.alloc _ _))
   clear hK K hHeld1
   (try simp only [Act.put, lA14, List.setIfInBounds_toArray, List.set_cons_zero, List.set_cons_succ])
   refine tkE 16 lA16 rfl (by kernel_rfl) (fun K hK => ?_)
   go_simp
   skip
   (try go_wp2_with fail)
   refine hK.out _ _ ?_ (fun hHeld3 => ?_)
   ·(try dsimp only); first | exact KS.out _ (by first | assumption | exact Kp.drew _) | exact KS.out _ (Kp.refl _) | exact KS.out _ (Kp.alloc _ _) | exact KS.out _ ((Kp.alloc _ _).trans (Kp.alloc _ _)) | exact KS.out _ ((Kp.drew _).trans (Kp.alloc _ _)) | exact KS.out _ (((Kp.drew _).trans (Kp.alloc _ _)).trans (Kp.alloc _ _))
   clear hK K hHeld2
   (try simp only [Act.put, lA16, List.setIfInBounds_toArray, List.set_cons_zero, List.set_cons_succ])
   refine tkE 17 lA17 rfl (by kernel_rfl) (fun K hK => ?_)
   go_simp
   skip
   (try go_wp2_with fail)
   refine hK.out _ _ ?_ (fun hHeld4 => ?_)
   ·(try dsimp only); first | exact KS.out _ (by first | assumption | exact Kp.drew _) | exact KS.out _ (Kp.refl _) | exact KS.out _ (Kp.alloc _ _) | exact KS.out _ ((Kp.alloc _ _).trans (Kp.alloc _ _)) | exact KS.out _ ((Kp.drew _).trans (Kp.alloc _ _)) | exact KS.out _ (((Kp.drew _).trans (Kp.alloc _ _)).trans (Kp.alloc _ _))
   clear hK K hHeld3
   (try simp only [Act.put, lA17, List.setIfInBounds_toArray, List.set_cons_zero, List.set_cons_succ])
   refine wpAnyH_done (by kernel_rfl) ?_ _
   obtain ⟨V, hV⟩ : ∃ x : World, x = ((w.alloc (.cells #[.int .i64 ja, .int .i64 jl, .int .i64 jh, .bool false] 132)).alloc (.cells #[.int .i64 ia, .int .i64 il, .int .i64 ih, .bool false] 132)).drew := ⟨_, rfl⟩
   rw [← hV]
   have kv : Kp w V := by rw [hV]; exact ((Kp.alloc _ _).trans (Kp.alloc _ _)).trans (Kp.drew _)
   have hA : V.heap[w.heap.size]? = some (.cells #[.int .i64 ja, .int .i64 jl, .int .i64 jh, .bool false] 132 (0, 0)) := by rw [hV]; exact heap_block ((Kp.alloc _ _).trans (Kp.drew _)) (heap_at _ _ _ rfl)
   have hB : V.heap[w.heap.size + 1]? = some (.cells #[.int .i64 ia, .int .i64 il, .int .i64 ih, .bool false] 132 (0, 0)) := by rw [hV]; exact heap_block (Kp.drew _) (heap_at _ _ _ (by simp))
   have y0 : V.cell? ⟨w.heap.size + 1, 0, none⟩ = some (.int .i64 ia) := by simp [World.cell?, hA, hB]
   have y1 : V.cell? ⟨w.heap.size + 1, 1, none⟩ = some (.int .i64 il) := by simp [World.cell?, hA, hB]
   have y2 : V.cell? ⟨w.heap.size + 1, 2, none⟩ = some (.int .i64 ih) := by simp [World.cell?, hA, hB]
   have y3 : V.cell? ⟨w.heap.size + 1, 3, none⟩ = some (.bool false) := by simp [World.cell?, hA, hB]
   have y4 : V.cell? ⟨w.heap.size, 0, none⟩ = some (.int .i64 ja) := by simp [World.cell?, hA, hB]
   have y5 : V.cell? ⟨w.heap.size, 1, none⟩ = some (.int .i64 jl) := by simp [World.cell?, hA, hB]
   have y6 : V.cell? ⟨w.heap.size, 2, none⟩ = some (.int .i64 jh) := by simp [World.cell?, hA, hB]
   have y7 : V.cell? ⟨w.heap.size, 3, none⟩ = some (.bool false) := by simp [World.cell?, hA, hB]
   have KS2 := Lib.hid (fun w' (kq : Kp V w') => show w'.cell? ⟨w.heap.size + 1, 0, none⟩ = some (.int .i64 ia) ∧ w'.cell? ⟨w.heap.size + 1, 1, none⟩ = some (.int .i64 il) ∧ w'.cell? ⟨w.heap.size + 1, 2, none⟩ = some (.int .i64 ih) ∧ w'.cell? ⟨w.heap.size + 1, 3, none⟩ = some (.bool false) ∧ w'.cell? ⟨w.heap.size, 0, none⟩ = some (.int .i64 ja) ∧ w'.cell? ⟨w.heap.size, 1, none⟩ = some (.int .i64 jl) ∧ w'.cell? ⟨w.heap.size, 2, none⟩ = some (.int .i64 jh) ∧ w'.cell? ⟨w.heap.size, 3, none⟩ = some (.bool false) ∧ Kp V w' from ⟨cell_up kq y0, cell_up kq y1, cell_up kq y2, cell_up kq y3, cell_up kq y4, cell_up kq y5, cell_up kq y6, cell_up kq y7, kq⟩)
   have KV := Lib.hid kv
   clear hV hA hB kv
   go_wp2_with fail
   refine wp_region_held_drew (S := fun w' => w'.cell? ⟨w.heap.size + 1, 0, none⟩ = some (.int .i64 ia) ∧ w'.cell? ⟨w.heap.size + 1, 1, none⟩ = some (.int .i64 il) ∧ w'.cell? ⟨w.heap.size + 1, 2, none⟩ = some (.int .i64 ih) ∧ w'.cell? ⟨w.heap.size + 1, 3, none⟩ = some (.bool false) ∧ w'.cell? ⟨w.heap.size, 0, none⟩ = some (.int .i64 ja) ∧ w'.cell? ⟨w.heap.size, 1, none⟩ = some (.int .i64 jl) ∧ w'.cell? ⟨w.heap.size, 2, none⟩ = some (.int .i64 jh) ∧ w'.cell? ⟨w.heap.size, 3, none⟩ = some (.bool false) ∧ Kp V w') (by kernel_rfl) ?_ (fun hHeld0 => ?_)
   ·(try dsimp only); first | exact KS2.out _ (by first | assumption | exact Kp.drew _) | exact KS2.out _ (Kp.refl _) | exact KS2.out _ (k2.trans (Kp.alloc _ _)) | exact KS2.out _ (k2.trans (Kp.drew _)) | exact KS2.out _ ((k2.trans (Kp.alloc _ _)).trans (Kp.drew _)) | exact KS2.out _ ((k2.trans (Kp.drew _)).trans (Kp.alloc _ _))
   refine tkv 0 lB0 ?_
   (try simp only [Act.put, lB0, List.setIfInBounds_toArray, List.set_cons_zero, List.set_cons_succ])
   refine tkv 1 lB1 ?_
   (try simp only [Act.put, lB1, List.setIfInBounds_toArray, List.set_cons_zero, List.set_cons_succ])
   refine tkv 2 lB2 ?_
   (try simp only [Act.put, lB2, List.setIfInBounds_toArray, List.set_cons_zero, List.set_cons_succ])
   refine tkv 3 lB3 ?_
   (try simp only [Act.put, lB3, List.setIfInBounds_toArray, List.set_cons_zero, List.set_cons_succ])
   refine tkv 5 lB5 ?_
   (try simp only [Act.put, lB5, List.setIfInBounds_toArray, List.set_cons_zero, List.set_cons_succ])
   refine tkv 6 lB6 ?_
   (try simp only [Act.put, lB6, List.setIfInBounds_toArray, List.set_cons_zero, List.set_cons_succ])
   refine tkv 7 lB7 ?_
   (try simp only [Act.put, lB7, List.setIfInBounds_toArray, List.set_cons_zero, List.set_cons_succ])
   refine tkv 8 lB8 ?_
   (try simp only [Act.put, lB8, List.setIfInBounds_toArray, List.set_cons_zero, List.set_cons_succ])
   refine tkE 4 lB4 rfl (by kernel_rfl) (fun K hK => ?_)
   go_simp
   (refine (C1.out _).mono ?_; rintro e w' ⟨rfl, k1⟩; have k2 := Kp.trans (show Kp V _ from (by first | assumption | exact Kp.drew _)) k1; clear k1)
   (try go_wp2_with fail)
   refine hK.out _ _ ?_ (fun hHeld1 => ?_)
   ·(try dsimp only); first | exact KS2.out _ (by first | assumption | exact Kp.drew _) | exact KS2.out _ (Kp.refl _) | exact KS2.out _ (k2.trans (Kp.alloc _ _)) | exact KS2.out _ (k2.trans (Kp.drew _)) | exact KS2.out _ ((k2.trans (Kp.alloc _ _)).trans (Kp.drew _)) | exact KS2.out _ ((k2.trans (Kp.drew _)).trans (Kp.alloc _ _))
   clear hK K hHeld0
   (try simp only [Act.put, lB4, List.setIfInBounds_toArray, List.set_cons_zero, List.set_cons_succ])
   refine tkE 9 lB9 rfl (by kernel_rfl) (fun K hK => ?_)
   go_simp
   (refine (C2.out _).mono ?_; rintro e w' ⟨rfl, rfl⟩)
   (try go_wp2_with fail)
   refine hK.out _ _ ?_ (fun hHeld2 => ?_)
   ·(try dsimp only); first | exact KS2.out _ (by first | assumption | exact Kp.drew _) | exact KS2.out _ (Kp.refl _) | exact KS2.out _ (k2.trans (Kp.alloc _ _)) | exact KS2.out _ (k2.trans (Kp.drew _)) | exact KS2.out _ ((k2.trans (Kp.alloc _ _)).trans (Kp.drew _)) | exact KS2.out _ ((k2.trans (Kp.drew _)).trans (Kp.alloc _ _))
   clear hK K hHeld1
   (try simp only [Act.put, lB9, List.setIfInBounds_toArray, List.set_cons_zero, List.set_cons_succ])
   refine tkE 10 lB10 rfl (by kernel_rfl) (fun K hK => ?_)
   go_simp
   skip
   (try go_wp2_with fail)
   refine hK.out _ _ ?_ (fun hHeld3 => ?_)
   ·(try dsimp only); first | exact KS2.out _ (by first | assumption | exact Kp.drew _) | exact KS2.out _ (Kp.refl _) | exact KS2.out _ (k2.trans (Kp.alloc _ _)) | exact KS2.out _ (k2.trans (Kp.drew _)) | exact KS2.out _ ((k2.trans (Kp.alloc _ _)).trans (Kp.drew _)) | exact KS2.out _ ((k2.trans (Kp.drew _)).trans (Kp.alloc _ _))
   clear hK K hHeld2
   (try simp only [Act.put, lB10, List.setIfInBounds_toArray, List.set_cons_zero, List.set_cons_succ])
   refine tkE 11 lB11 rfl (by kernel_rfl) (fun K hK => ?_)
   go_simp
   (refine (C3.out _ _ (by simp) (by simp)).mono ?_; rintro e w' ⟨rfl, rfl⟩)
   (try go_wp2_with fail)
   refine hK.out _ _ ?_ (fun hHeld4 => ?_)
   ·(try dsimp only); first | exact KS2.out _ (by first | assumption | exact Kp.drew _) | exact KS2.out _ (Kp.refl _) | exact KS2.out _ (k2.trans (Kp.alloc _ _)) | exact KS2.out _ (k2.trans (Kp.drew _)) | exact KS2.out _ ((k2.trans (Kp.alloc _ _)).trans (Kp.drew _)) | exact KS2.out _ ((k2.trans (Kp.drew _)).trans (Kp.alloc _ _))
   clear hK K hHeld3
   (try simp only [Act.put, lB11, List.setIfInBounds_toArray, List.set_cons_zero, List.set_cons_succ])
   refine tkv 12 lB12 ?_
   (try simp only [Act.put, lB12, List.setIfInBounds_toArray, List.set_cons_zero, List.set_cons_succ])
   refine tkv 13 lB13 ?_
   (try simp only [Act.put, lB13, List.setIfInBounds_toArray, List.set_cons_zero, List.set_cons_succ])
   refine wpAnyH_done (by kernel_rfl) ?_ _
   go_wp2
   go_ret
   exact ⟨by first | rfl | (rw [HRB.out]), by first | exact KV.out.trans (k2.trans (Kp.alloc _ _)) | exact KV.out.trans ((k2.trans (Kp.alloc _ _)).trans (Kp.drew _)) | exact KV.out.trans ((k2.trans (Kp.drew _)).trans (Kp.alloc _ _))⟩
 ·have HRB := Lib.hid hrb
  clear hrb
  go_enter Tryz.func316, Tryz.ntmps316
  go_wp2_with fail
  refine wp_region_held_drew (S := fun w' => w'.cell? ⟨B, 0, none⟩ = some (.slice (some ⟨g, 0, none⟩) L.length cap) ∧ w'.cell? ⟨g, i * 4, none⟩ = some (.int .i64 ia) ∧ w'.cell? ⟨g, i * 4 + 1, none⟩ = some (.int .i64 il) ∧ w'.cell? ⟨g, i * 4 + 2, none⟩ = some (.int .i64 ih) ∧ w'.cell? ⟨g, i * 4 + 3, none⟩ = some (.bool false) ∧ w'.cell? ⟨g, j * 4, none⟩ = some (.int .i64 ja) ∧ w'.cell? ⟨g, j * 4 + 1, none⟩ = some (.int .i64 jl) ∧ w'.cell? ⟨g, j * 4 + 2, none⟩ = some (.int .i64 jh) ∧ w'.cell? ⟨g, j * 4 + 3, none⟩ = some (.bool true) ∧ Kp w w') (by kernel_rfl) ?_ (fun hHeld0 => ?_)
  ·(try dsimp only); first | exact KS.out _ (by first | assumption | exact Kp.drew _) | exact KS.out _ (Kp.refl _) | exact KS.out _ (Kp.alloc _ _) | exact KS.out _ ((Kp.alloc _ _).trans (Kp.alloc _ _)) | exact KS.out _ ((Kp.drew _).trans (Kp.alloc _ _)) | exact KS.out _ (((Kp.drew _).trans (Kp.alloc _ _)).trans (Kp.alloc _ _))
  refine tkv 0 lA0 ?_
  (try simp only [Act.put, lA0, List.setIfInBounds_toArray, List.set_cons_zero, List.set_cons_succ])
  refine tkv 1 lA1 ?_
  (try simp only [Act.put, lA1, List.setIfInBounds_toArray, List.set_cons_zero, List.set_cons_succ])
  refine tkv 2 lA2 ?_
  (try simp only [Act.put, lA2, List.setIfInBounds_toArray, List.set_cons_zero, List.set_cons_succ])
  refine tkv 3 lA3 ?_
  (try simp only [Act.put, lA3, List.setIfInBounds_toArray, List.set_cons_zero, List.set_cons_succ])
  refine tkv 4 lA4 ?_
  (try simp only [Act.put, lA4, List.setIfInBounds_toArray, List.set_cons_zero, List.set_cons_succ])
  refine tkv 5 lA5 ?_
  (try simp only [Act.put, lA5, List.setIfInBounds_toArray, List.set_cons_zero, List.set_cons_succ])
  refine tkv 6 lA6 ?_
  (try simp only [Act.put, lA6, List.setIfInBounds_toArray, List.set_cons_zero, List.set_cons_succ])
  refine tkv 7 lA7 ?_
  (try simp only [Act.put, lA7, List.setIfInBounds_toArray, List.set_cons_zero, List.set_cons_succ])
  refine tkv 8 lA8 ?_
  (try simp only [Act.put, lA8, List.setIfInBounds_toArray, List.set_cons_zero, List.set_cons_succ])
  refine tkv 9 lA9 ?_
  (try simp only [Act.put, lA9, List.setIfInBounds_toArray, List.set_cons_zero, List.set_cons_succ])
  refine tkv 10 lA10 ?_
  (try simp only [Act.put, lA10, List.setIfInBounds_toArray, List.set_cons_zero, List.set_cons_succ])
  refine tkv 11 lA11 ?_
  (try simp only [Act.put, lA11, List.setIfInBounds_toArray, List.set_cons_zero, List.set_cons_succ])
  refine tkv 12 lA12 ?_
  (try simp only [Act.put, lA12, List.setIfInBounds_toArray, List.set_cons_zero, List.set_cons_succ])
  refine tkv 13 lA13 ?_
  (try simp only [Act.put, lA13, List.setIfInBounds_toArray, List.set_cons_zero, List.set_cons_succ])
  refine tkE2 14 15 lA14 lA15 rfl rfl (by kernel_rfl) (fun K hK => ?_) (fun K hK => ?_)
  ·go_simp
   skip
   (try go_wp2_with fail)
   refine hK.out _ _ ?_ (fun hHeld1 => ?_)
   ·(try dsimp only); first | exact KS.out _ (by first | assumption | exact Kp.drew _) | exact KS.out _ (Kp.refl _) | exact KS.out _ (Kp.alloc _ _) | exact KS.out _ ((Kp.alloc _ _).trans (Kp.alloc _ _)) | exact KS.out _ ((Kp.drew _).trans (Kp.alloc _ _)) | exact KS.out _ (((Kp.drew _).trans (Kp.alloc _ _)).trans (Kp.alloc _ _))
   clear hK K hHeld0
   (try simp only [Act.put, lA14, List.setIfInBounds_toArray, List.set_cons_zero, List.set_cons_succ])
   refine tkE 15 lA15 rfl (by kernel_rfl) (fun K hK => ?_)
   go_simp
   skip
   (try go_wp2_with fail)
   refine hK.out _ _ ?_ (fun hHeld2 => ?_)
   ·(try dsimp only); first | exact KS.out _ (by first | assumption | exact Kp.drew _) | exact KS.out _ (Kp.refl _) | exact KS.out _ (Kp.alloc _ _) | exact KS.out _ ((Kp.alloc _ _).trans (Kp.alloc _ _)) | exact KS.out _ ((Kp.drew _).trans (Kp.alloc _ _)) | exact KS.out _ (((Kp.drew _).trans (Kp.alloc _ _)).trans (Kp.alloc _ _))
   clear hK K hHeld1
   (try simp only [Act.put, lA15, List.setIfInBounds_toArray, List.set_cons_zero, List.set_cons_succ])
   refine tkE 16 lA16 rfl (by kernel_rfl) (fun K hK => ?_)
   go_simp
   skip
   (try go_wp2_with fail)
   refine hK.out _ _ ?_ (fun hHeld3 => ?_)
   ·(try dsimp only); first | exact KS.out _ (by first | assumption | exact Kp.drew _) | exact KS.out _ (Kp.refl _) | exact KS.out _ (Kp.alloc _ _) | exact KS.out _ ((Kp.alloc _ _).trans (Kp.alloc _ _)) | exact KS.out _ ((Kp.drew _).trans (Kp.alloc _ _)) | exact KS.out _ (((Kp.drew _).trans (Kp.alloc _ _)).trans (Kp.alloc _ _))
   clear hK K hHeld2
   (try simp only [Act.put, lA16, List.setIfInBounds_toArray, List.set_cons_zero, List.set_cons_succ])
   refine tkE 17 lA17 rfl (by kernel_rfl) (fun K hK => ?_)
   go_simp
   skip
   (try go_wp2_with fail)
   refine hK.out _ _ ?_ (fun hHeld4 => ?_)
   ·(try dsimp only); first | exact KS.out _ (by first | assumption | exact Kp.drew _) | exact KS.out _ (Kp.refl _) | exact KS.out _ (Kp.alloc _ _) | exact KS.out _ ((Kp.alloc _ _).trans (Kp.alloc _ _)) | exact KS.out _ ((Kp.drew _).trans (Kp.alloc _ _)) | exact KS.out _ (((Kp.drew _).trans (Kp.alloc _ _)).trans (Kp.alloc _ _))
   clear hK K hHeld3
   (try simp only [Act.put, lA17, List.setIfInBounds_toArray, List.set_cons_zero, List.set_cons_succ])
   refine wpAnyH_done (by kernel_rfl) ?_ _
   obtain ⟨V, hV⟩ : ∃ x : World, x = ((w.alloc (.cells #[.int .i64 ia, .int .i64 il, .int .i64 ih, .bool false] 132)).alloc (.cells #[.int .i64 ja, .int .i64 jl, .int .i64 jh, .bool true] 132)).drew := ⟨_, rfl⟩
   rw [← hV]
   have kv : Kp w V := by rw [hV]; exact ((Kp.alloc _ _).trans (Kp.alloc _ _)).trans (Kp.drew _)
   have hA : V.heap[w.heap.size]? = some (.cells #[.int .i64 ia, .int .i64 il, .int .i64 ih, .bool false] 132 (0, 0)) := by rw [hV]; exact heap_block ((Kp.alloc _ _).trans (Kp.drew _)) (heap_at _ _ _ rfl)
   have hB : V.heap[w.heap.size + 1]? = some (.cells #[.int .i64 ja, .int .i64 jl, .int .i64 jh, .bool true] 132 (0, 0)) := by rw [hV]; exact heap_block (Kp.drew _) (heap_at _ _ _ (by simp))
   have y0 : V.cell? ⟨w.heap.size, 0, none⟩ = some (.int .i64 ia) := by simp [World.cell?, hA, hB]
   have y1 : V.cell? ⟨w.heap.size, 1, none⟩ = some (.int .i64 il) := by simp [World.cell?, hA, hB]
   have y2 : V.cell? ⟨w.heap.size, 2, none⟩ = some (.int .i64 ih) := by simp [World.cell?, hA, hB]
   have y3 : V.cell? ⟨w.heap.size, 3, none⟩ = some (.bool false) := by simp [World.cell?, hA, hB]
   have y4 : V.cell? ⟨w.heap.size + 1, 0, none⟩ = some (.int .i64 ja) := by simp [World.cell?, hA, hB]
   have y5 : V.cell? ⟨w.heap.size + 1, 1, none⟩ = some (.int .i64 jl) := by simp [World.cell?, hA, hB]
   have y6 : V.cell? ⟨w.heap.size + 1, 2, none⟩ = some (.int .i64 jh) := by simp [World.cell?, hA, hB]
   have y7 : V.cell? ⟨w.heap.size + 1, 3, none⟩ = some (.bool true) := by simp [World.cell?, hA, hB]
   clear hV hA hB
   go_wp2
   go_ret
   exact ⟨by rw [← HRB.out]; rfl, kv⟩
  ·go_simp
   skip
   (try go_wp2_with fail)
   refine hK.out _ _ ?_ (fun hHeld1 => ?_)
   ·(try dsimp only); first | exact KS.out _ (by first | assumption | exact Kp.drew _) | exact KS.out _ (Kp.refl _) | exact KS.out _ (Kp.alloc _ _) | exact KS.out _ ((Kp.alloc _ _).trans (Kp.alloc _ _)) | exact KS.out _ ((Kp.drew _).trans (Kp.alloc _ _)) | exact KS.out _ (((Kp.drew _).trans (Kp.alloc _ _)).trans (Kp.alloc _ _))
   clear hK K hHeld0
   (try simp only [Act.put, lA15, List.setIfInBounds_toArray, List.set_cons_zero, List.set_cons_succ])
   refine tkE 14 lA14 rfl (by kernel_rfl) (fun K hK => ?_)
   go_simp
   skip
   (try go_wp2_with fail)
   refine hK.out _ _ ?_ (fun hHeld2 => ?_)
   ·(try dsimp only); first | exact KS.out _ (by first | assumption | exact Kp.drew _) | exact KS.out _ (Kp.refl _) | exact KS.out _ (Kp.alloc _ _) | exact KS.out _ ((Kp.alloc _ _).trans (Kp.alloc _ _)) | exact KS.out _ ((Kp.drew _).trans (Kp.alloc _ _)) | exact KS.out _ (((Kp.drew _).trans (Kp.alloc _ _)).trans (Kp.alloc _ _))
   clear hK K hHeld1
   (try simp only [Act.put, lA14, List.setIfInBounds_toArray, List.set_cons_zero, List.set_cons_succ])
   refine tkE 16 lA16 rfl (by kernel_rfl) (fun K hK => ?_)
   go_simp
   skip
   (try go_wp2_with fail)
   refine hK.out _ _ ?_ (fun hHeld3 => ?_)
   ·(try dsimp only); first | exact KS.out _ (by first | assumption | exact Kp.drew _) | exact KS.out _ (Kp.refl _) | exact KS.out _ (Kp.alloc _ _) | exact KS.out _ ((Kp.alloc _ _).trans (Kp.alloc _ _)) | exact KS.out _ ((Kp.drew _).trans (Kp.alloc _ _)) | exact KS.out _ (((Kp.drew _).trans (Kp.alloc _ _)).trans (Kp.alloc _ _))
   clear hK K hHeld2
   (try simp only [Act.put, lA16, List.setIfInBounds_toArray, List.set_cons_zero, List.set_cons_succ])
   refine tkE 17 lA17 rfl (by kernel_rfl) (fun K hK => ?_)
   go_simp
   skip
   (try go_wp2_with fail)
   refine hK.out _ _ ?_ (fun hHeld4 => ?_)
   ·(try dsimp only); first | exact KS.out _ (by first | assumption | exact Kp.drew _) | exact KS.out _ (Kp.refl _) | exact KS.out _ (Kp.alloc _ _) | exact KS.out _ ((Kp.alloc _ _).trans (Kp.alloc _ _)) | exact KS.out _ ((Kp.drew _).trans (Kp.alloc _ _)) | exact KS.out _ (((Kp.drew _).trans (Kp.alloc _ _)).trans (Kp.alloc _ _))
   clear hK K hHeld3
   (try simp only [Act.put, lA17, List.setIfInBounds_toArray, List.set_cons_zero, List.set_cons_succ])
   refine wpAnyH_done (by kernel_rfl) ?_ _
   obtain ⟨V, hV⟩ : ∃ x : World, x = ((w.alloc (.cells #[.int .i64 ja, .int .i64 jl, .int .i64 jh, .bool true] 132)).alloc (.cells #[.int .i64 ia, .int .i64 il, .int .i64 ih, .bool false] 132)).drew := ⟨_, rfl⟩
   rw [← hV]
   have kv : Kp w V := by rw [hV]; exact ((Kp.alloc _ _).trans (Kp.alloc _ _)).trans (Kp.drew _)
   have hA : V.heap[w.heap.size]? = some (.cells #[.int .i64 ja, .int .i64 jl, .int .i64 jh, .bool true] 132 (0, 0)) := by rw [hV]; exact heap_block ((Kp.alloc _ _).trans (Kp.drew _)) (heap_at _ _ _ rfl)
   have hB : V.heap[w.heap.size + 1]? = some (.cells #[.int .i64 ia, .int .i64 il, .int .i64 ih, .bool false] 132 (0, 0)) := by rw [hV]; exact heap_block (Kp.drew _) (heap_at _ _ _ (by simp))
   have y0 : V.cell? ⟨w.heap.size + 1, 0, none⟩ = some (.int .i64 ia) := by simp [World.cell?, hA, hB]
   have y1 : V.cell? ⟨w.heap.size + 1, 1, none⟩ = some (.int .i64 il) := by simp [World.cell?, hA, hB]
   have y2 : V.cell? ⟨w.heap.size + 1, 2, none⟩ = some (.int .i64 ih) := by simp [World.cell?, hA, hB]
   have y3 : V.cell? ⟨w.heap.size + 1, 3, none⟩ = some (.bool false) := by simp [World.cell?, hA, hB]
   have y4 : V.cell? ⟨w.heap.size, 0, none⟩ = some (.int .i64 ja) := by simp [World.cell?, hA, hB]
   have y5 : V.cell? ⟨w.heap.size, 1, none⟩ = some (.int .i64 jl) := by simp [World.cell?, hA, hB]
   have y6 : V.cell? ⟨w.heap.size, 2, none⟩ = some (.int .i64 jh) := by simp [World.cell?, hA, hB]
   have y7 : V.cell? ⟨w.heap.size, 3, none⟩ = some (.bool true) := by simp [World.cell?, hA, hB]
   clear hV hA hB
   go_wp2
   go_ret
   exact ⟨by rw [← HRB.out]; rfl, kv⟩
 ·have HRB := Lib.hid hrb
  clear hrb
  go_enter Tryz.func316, Tryz.ntmps316
  go_wp2_with fail
  refine wp_region_held_drew (S := fun w' => w'.cell? ⟨B, 0, none⟩ = some (.slice (some ⟨g, 0, none⟩) L.length cap) ∧ w'.cell? ⟨g, i * 4, none⟩ = some (.int .i64 ia) ∧ w'.cell? ⟨g, i * 4 + 1, none⟩ = some (.int .i64 il) ∧ w'.cell? ⟨g, i * 4 + 2, none⟩ = some (.int .i64 ih) ∧ w'.cell? ⟨g, i * 4 + 3, none⟩ = some (.bool true) ∧ w'.cell? ⟨g, j * 4, none⟩ = some (.int .i64 ja) ∧ w'.cell? ⟨g, j * 4 + 1, none⟩ = some (.int .i64 jl) ∧ w'.cell? ⟨g, j * 4 + 2, none⟩ = some (.int .i64 jh) ∧ w'.cell? ⟨g, j * 4 + 3, none⟩ = some (.bool false) ∧ Kp w w') (by kernel_rfl) ?_ (fun hHeld0 => ?_)
  ·(try dsimp only); first | exact KS.out _ (by first | assumption | exact Kp.drew _) | exact KS.out _ (Kp.refl _) | exact KS.out _ (Kp.alloc _ _) | exact KS.out _ ((Kp.alloc _ _).trans (Kp.alloc _ _)) | exact KS.out _ ((Kp.drew _).trans (Kp.alloc _ _)) | exact KS.out _ (((Kp.drew _).trans (Kp.alloc _ _)).trans (Kp.alloc _ _))
  refine tkv 0 lA0 ?_
  (try simp only [Act.put, lA0, List.setIfInBounds_toArray, List.set_cons_zero, List.set_cons_succ])
  refine tkv 1 lA1 ?_
  (try simp only [Act.put, lA1, List.setIfInBounds_toArray, List.set_cons_zero, List.set_cons_succ])
  refine tkv 2 lA2 ?_
  (try simp only [Act.put, lA2, List.setIfInBounds_toArray, List.set_cons_zero, List.set_cons_succ])
  refine tkv 3 lA3 ?_
  (try simp only [Act.put, lA3, List.setIfInBounds_toArray, List.set_cons_zero, List.set_cons_succ])
  refine tkv 4 lA4 ?_
  (try simp only [Act.put, lA4, List.setIfInBounds_toArray, List.set_cons_zero, List.set_cons_succ])
  refine tkv 5 lA5 ?_
  (try simp only [Act.put, lA5, List.setIfInBounds_toArray, List.set_cons_zero, List.set_cons_succ])
  refine tkv 6 lA6 ?_
  (try simp only [Act.put, lA6, List.setIfInBounds_toArray, List.set_cons_zero, List.set_cons_succ])
  refine tkv 7 lA7 ?_
  (try simp only [Act.put, lA7, List.setIfInBounds_toArray, List.set_cons_zero, List.set_cons_succ])
  refine tkv 8 lA8 ?_
  (try simp only [Act.put, lA8, List.setIfInBounds_toArray, List.set_cons_zero, List.set_cons_succ])
  refine tkv 9 lA9 ?_
  (try simp only [Act.put, lA9, List.setIfInBounds_toArray, List.set_cons_zero, List.set_cons_succ])
  refine tkv 10 lA10 ?_
  (try simp only [Act.put, lA10, List.setIfInBounds_toArray, List.set_cons_zero, List.set_cons_succ])
  refine tkv 11 lA11 ?_
  (try simp only [Act.put, lA11, List.setIfInBounds_toArray, List.set_cons_zero, List.set_cons_succ])
  refine tkv 12 lA12 ?_
  (try simp only [Act.put, lA12, List.setIfInBounds_toArray, List.set_cons_zero, List.set_cons_succ])
  refine tkv 13 lA13 ?_
  (try simp only [Act.put, lA13, List.setIfInBounds_toArray, List.set_cons_zero, List.set_cons_succ])
  refine tkE2 14 15 lA14 lA15 rfl rfl (by kernel_rfl) (fun K hK => ?_) (fun K hK => ?_)
  ·go_simp
   skip
   (try go_wp2_with fail)
   refine hK.out _ _ ?_ (fun hHeld1 => ?_)
   ·(try dsimp only); first | exact KS.out _ (by first | assumption | exact Kp.drew _) | exact KS.out _ (Kp.refl _) | exact KS.out _ (Kp.alloc _ _) | exact KS.out _ ((Kp.alloc _ _).trans (Kp.alloc _ _)) | exact KS.out _ ((Kp.drew _).trans (Kp.alloc _ _)) | exact KS.out _ (((Kp.drew _).trans (Kp.alloc _ _)).trans (Kp.alloc _ _))
   clear hK K hHeld0
   (try simp only [Act.put, lA14, List.setIfInBounds_toArray, List.set_cons_zero, List.set_cons_succ])
   refine tkE 15 lA15 rfl (by kernel_rfl) (fun K hK => ?_)
   go_simp
   skip
   (try go_wp2_with fail)
   refine hK.out _ _ ?_ (fun hHeld2 => ?_)
   ·(try dsimp only); first | exact KS.out _ (by first | assumption | exact Kp.drew _) | exact KS.out _ (Kp.refl _) | exact KS.out _ (Kp.alloc _ _) | exact KS.out _ ((Kp.alloc _ _).trans (Kp.alloc _ _)) | exact KS.out _ ((Kp.drew _).trans (Kp.alloc _ _)) | exact KS.out _ (((Kp.drew _).trans (Kp.alloc _ _)).trans (Kp.alloc _ _))
   clear hK K hHeld1
   (try simp only [Act.put, lA15, List.setIfInBounds_toArray, List.set_cons_zero, List.set_cons_succ])
   refine tkE 16 lA16 rfl (by kernel_rfl) (fun K hK => ?_)
   go_simp
   skip
   (try go_wp2_with fail)
   refine hK.out _ _ ?_ (fun hHeld3 => ?_)
   ·(try dsimp only); first | exact KS.out _ (by first | assumption | exact Kp.drew _) | exact KS.out _ (Kp.refl _) | exact KS.out _ (Kp.alloc _ _) | exact KS.out _ ((Kp.alloc _ _).trans (Kp.alloc _ _)) | exact KS.out _ ((Kp.drew _).trans (Kp.alloc _ _)) | exact KS.out _ (((Kp.drew _).trans (Kp.alloc _ _)).trans (Kp.alloc _ _))
   clear hK K hHeld2
   (try simp only [Act.put, lA16, List.setIfInBounds_toArray, List.set_cons_zero, List.set_cons_succ])
   refine tkE 17 lA17 rfl (by kernel_rfl) (fun K hK => ?_)
   go_simp
   skip
   (try go_wp2_with fail)
   refine hK.out _ _ ?_ (fun hHeld4 => ?_)
   ·(try dsimp only); first | exact KS.out _ (by first | assumption | exact Kp.drew _) | exact KS.out _ (Kp.refl _) | exact KS.out _ (Kp.alloc _ _) | exact KS.out _ ((Kp.alloc _ _).trans (Kp.alloc _ _)) | exact KS.out _ ((Kp.drew _).trans (Kp.alloc _ _)) | exact KS.out _ (((Kp.drew _).trans (Kp.alloc _ _)).trans (Kp.alloc _ _))
   clear hK K hHeld3
   (try simp only [Act.put, lA17, List.setIfInBounds_toArray, List.set_cons_zero, List.set_cons_succ])
   refine wpAnyH_done (by kernel_rfl) ?_ _
   obtain ⟨V, hV⟩ : ∃ x : World, x = ((w.alloc (.cells #[.int .i64 ia, .int .i64 il, .int .i64 ih, .bool true] 132)).alloc (.cells #[.int .i64 ja, .int .i64 jl, .int .i64 jh, .bool false] 132)).drew := ⟨_, rfl⟩
   rw [← hV]
   have kv : Kp w V := by rw [hV]; exact ((Kp.alloc _ _).trans (Kp.alloc _ _)).trans (Kp.drew _)
   have hA : V.heap[w.heap.size]? = some (.cells #[.int .i64 ia, .int .i64 il, .int .i64 ih, .bool true] 132 (0, 0)) := by rw [hV]; exact heap_block ((Kp.alloc _ _).trans (Kp.drew _)) (heap_at _ _ _ rfl)
   have hB : V.heap[w.heap.size + 1]? = some (.cells #[.int .i64 ja, .int .i64 jl, .int .i64 jh, .bool false] 132 (0, 0)) := by rw [hV]; exact heap_block (Kp.drew _) (heap_at _ _ _ (by simp))
   have y0 : V.cell? ⟨w.heap.size, 0, none⟩ = some (.int .i64 ia) := by simp [World.cell?, hA, hB]
   have y1 : V.cell? ⟨w.heap.size, 1, none⟩ = some (.int .i64 il) := by simp [World.cell?, hA, hB]
   have y2 : V.cell? ⟨w.heap.size, 2, none⟩ = some (.int .i64 ih) := by simp [World.cell?, hA, hB]
   have y3 : V.cell? ⟨w.heap.size, 3, none⟩ = some (.bool true) := by simp [World.cell?, hA, hB]
   have y4 : V.cell? ⟨w.heap.size + 1, 0, none⟩ = some (.int .i64 ja) := by simp [World.cell?, hA, hB]
   have y5 : V.cell? ⟨w.heap.size + 1, 1, none⟩ = some (.int .i64 jl) := by simp [World.cell?, hA, hB]
   have y6 : V.cell? ⟨w.heap.size + 1, 2, none⟩ = some (.int .i64 jh) := by simp [World.cell?, hA, hB]
   have y7 : V.cell? ⟨w.heap.size + 1, 3, none⟩ = some (.bool false) := by simp [World.cell?, hA, hB]
   clear hV hA hB
   go_wp2
   go_ret
   exact ⟨by rw [← HRB.out]; rfl, kv⟩
  ·go_simp
   skip
   (try go_wp2_with fail)
   refine hK.out _ _ ?_ (fun hHeld1 => ?_)
   ·(try dsimp only); first | exact KS.out _ (by first | assumption | exact Kp.drew _) | exact KS.out _ (Kp.refl _) | exact KS.out _ (Kp.alloc _ _) | exact KS.out _ ((Kp.alloc _ _).trans (Kp.alloc _ _)) | exact KS.out _ ((Kp.drew _).trans (Kp.alloc _ _)) | exact KS.out _ (((Kp.drew _).trans (Kp.alloc _ _)).trans (Kp.alloc _ _))
   clear hK K hHeld0
   (try simp only [Act.put, lA15, List.setIfInBounds_toArray, List.set_cons_zero, List.set_cons_succ])
   refine tkE 14 lA14 rfl (by kernel_rfl) (fun K hK => ?_)
   go_simp
   skip
   (try go_wp2_with fail)
   refine hK.out _ _ ?_ (fun hHeld2 => ?_)
   ·(try dsimp only); first | exact KS.out _ (by first | assumption | exact Kp.drew _) | exact KS.out _ (Kp.refl _) | exact KS.out _ (Kp.alloc _ _) | exact KS.out _ ((Kp.alloc _ _).trans (Kp.alloc _ _)) | exact KS.out _ ((Kp.drew _).trans (Kp.alloc _ _)) | exact KS.out _ (((Kp.drew _).trans (Kp.alloc _ _)).trans (Kp.alloc _ _))
   clear hK K hHeld1
   (try simp only [Act.put, lA14, List.setIfInBounds_toArray, List.set_cons_zero, List.set_cons_succ])
   refine tkE 16 lA16 rfl (by kernel_rfl) (fun K hK => ?_)
   go_simp
   skip
   (try go_wp2_with fail)
   refine hK.out _ _ ?_ (fun hHeld3 => ?_)
   ·(try dsimp only); first | exact KS.out _ (by first | assumption | exact Kp.drew _) | exact KS.out _ (Kp.refl _) | exact KS.out _ (Kp.alloc _ _) | exact KS.out _ ((Kp.alloc _ _).trans (Kp.alloc _ _)) | exact KS.out _ ((Kp.drew _).trans (Kp.alloc _ _)) | exact KS.out _ (((Kp.drew _).trans (Kp.alloc _ _)).trans (Kp.alloc _ _))
   clear hK K hHeld2
   (try simp only [Act.put, lA16, List.setIfInBounds_toArray, List.set_cons_zero, List.set_cons_succ])
   refine tkE 17 lA17 rfl (by kernel_rfl) (fun K hK => ?_)
   go_simp
   skip
   (try go_wp2_with fail)
   refine hK.out _ _ ?_ (fun hHeld4 => ?_)
   ·(try dsimp only); first | exact KS.out _ (by first | assumption | exact Kp.drew _) | exact KS.out _ (Kp.refl _) | exact KS.out _ (Kp.alloc _ _) | exact KS.out _ ((Kp.alloc _ _).trans (Kp.alloc _ _)) | exact KS.out _ ((Kp.drew _).trans (Kp.alloc _ _)) | exact KS.out _ (((Kp.drew _).trans (Kp.alloc _ _)).trans (Kp.alloc _ _))
   clear hK K hHeld3
   (try simp only [Act.put, lA17, List.setIfInBounds_toArray, List.set_cons_zero, List.set_cons_succ])
   refine wpAnyH_done (by kernel_rfl) ?_ _
   obtain ⟨V, hV⟩ : ∃ x : World, x = ((w.alloc (.cells #[.int .i64 ja, .int .i64 jl, .int .i64 jh, .bool false] 132)).alloc (.cells #[.int .i64 ia, .int .i64 il, .int .i64 ih, .bool true] 132)).drew := ⟨_, rfl⟩
   rw [← hV]
   have kv : Kp w V := by rw [hV]; exact ((Kp.alloc _ _).trans (Kp.alloc _ _)).trans (Kp.drew _)
   have hA : V.heap[w.heap.size]? = some (.cells #[.int .i64 ja, .int .i64 jl, .int .i64 jh, .bool false] 132 (0, 0)) := by rw [hV]; exact heap_block ((Kp.alloc _ _).trans (Kp.drew _)) (heap_at _ _ _ rfl)
   have hB : V.heap[w.heap.size + 1]? = some (.cells #[.int .i64 ia, .int .i64 il, .int .i64 ih, .bool true] 132 (0, 0)) := by rw [hV]; exact heap_block (Kp.drew _) (heap_at _ _ _ (by simp))
   have y0 : V.cell? ⟨w.heap.size + 1, 0, none⟩ = some (.int .i64 ia) := by simp [World.cell?, hA, hB]
   have y1 : V.cell? ⟨w.heap.size + 1, 1, none⟩ = some (.int .i64 il) := by simp [World.cell?, hA, hB]
   have y2 : V.cell? ⟨w.heap.size + 1, 2, none⟩ = some (.int .i64 ih) := by simp [World.cell?, hA, hB]
   have y3 : V.cell? ⟨w.heap.size + 1, 3, none⟩ = some (.bool true) := by simp [World.cell?, hA, hB]
   have y4 : V.cell? ⟨w.heap.size, 0, none⟩ = some (.int .i64 ja) := by simp [World.cell?, hA, hB]
   have y5 : V.cell? ⟨w.heap.size, 1, none⟩ = some (.int .i64 jl) := by simp [World.cell?, hA, hB]
   have y6 : V.cell? ⟨w.heap.size, 2, none⟩ = some (.int .i64 jh) := by simp [World.cell?, hA, hB]
   have y7 : V.cell? ⟨w.heap.size, 3, none⟩ = some (.bool false) := by simp [World.cell?, hA, hB]
   clear hV hA hB
   go_wp2
   go_ret
   exact ⟨by rw [← HRB.out]; rfl, kv⟩
 ·have C1 := Lib.hid (fun w => kcmp_any il ih jl jh w)
  have C2 := Lib.hid (fun w => cmp1_any ia ja w)
  rw [less_or] at hrb
  have C3 := Lib.hid (fun w1 bl (hx : w1.cell? ⟨bl, 0, none⟩ = some (.int .i64 (cmpK il ih jl jh))) hy => or2_any bl (cmpK il ih jl jh) (cmp1 ia ja) w1 hx hy)
  generalize (if cmpK il ih jl jh = 0 then cmp1 ia ja else cmpK il ih jl jh) = r at *
  generalize cmpK il ih jl jh = x at *
  generalize cmp1 ia ja = y at *
  have HRB := Lib.hid hrb
  go_enter Tryz.func316, Tryz.ntmps316
  go_wp2_with fail
  refine wp_region_held_drew (S := fun w' => w'.cell? ⟨B, 0, none⟩ = some (.slice (some ⟨g, 0, none⟩) L.length cap) ∧ w'.cell? ⟨g, i * 4, none⟩ = some (.int .i64 ia) ∧ w'.cell? ⟨g, i * 4 + 1, none⟩ = some (.int .i64 il) ∧ w'.cell? ⟨g, i * 4 + 2, none⟩ = some (.int .i64 ih) ∧ w'.cell? ⟨g, i * 4 + 3, none⟩ = some (.bool true) ∧ w'.cell? ⟨g, j * 4, none⟩ = some (.int .i64 ja) ∧ w'.cell? ⟨g, j * 4 + 1, none⟩ = some (.int .i64 jl) ∧ w'.cell? ⟨g, j * 4 + 2, none⟩ = some (.int .i64 jh) ∧ w'.cell? ⟨g, j * 4 + 3, none⟩ = some (.bool true) ∧ Kp w w') (by kernel_rfl) ?_ (fun hHeld0 => ?_)
  ·(try dsimp only); first | exact KS.out _ (by first | assumption | exact Kp.drew _) | exact KS.out _ (Kp.refl _) | exact KS.out _ (Kp.alloc _ _) | exact KS.out _ ((Kp.alloc _ _).trans (Kp.alloc _ _)) | exact KS.out _ ((Kp.drew _).trans (Kp.alloc _ _)) | exact KS.out _ (((Kp.drew _).trans (Kp.alloc _ _)).trans (Kp.alloc _ _))
  refine tkv 0 lA0 ?_
  (try simp only [Act.put, lA0, List.setIfInBounds_toArray, List.set_cons_zero, List.set_cons_succ])
  refine tkv 1 lA1 ?_
  (try simp only [Act.put, lA1, List.setIfInBounds_toArray, List.set_cons_zero, List.set_cons_succ])
  refine tkv 2 lA2 ?_
  (try simp only [Act.put, lA2, List.setIfInBounds_toArray, List.set_cons_zero, List.set_cons_succ])
  refine tkv 3 lA3 ?_
  (try simp only [Act.put, lA3, List.setIfInBounds_toArray, List.set_cons_zero, List.set_cons_succ])
  refine tkv 4 lA4 ?_
  (try simp only [Act.put, lA4, List.setIfInBounds_toArray, List.set_cons_zero, List.set_cons_succ])
  refine tkv 5 lA5 ?_
  (try simp only [Act.put, lA5, List.setIfInBounds_toArray, List.set_cons_zero, List.set_cons_succ])
  refine tkv 6 lA6 ?_
  (try simp only [Act.put, lA6, List.setIfInBounds_toArray, List.set_cons_zero, List.set_cons_succ])
  refine tkv 7 lA7 ?_
  (try simp only [Act.put, lA7, List.setIfInBounds_toArray, List.set_cons_zero, List.set_cons_succ])
  refine tkv 8 lA8 ?_
  (try simp only [Act.put, lA8, List.setIfInBounds_toArray, List.set_cons_zero, List.set_cons_succ])
  refine tkv 9 lA9 ?_
  (try simp only [Act.put, lA9, List.setIfInBounds_toArray, List.set_cons_zero, List.set_cons_succ])
  refine tkv 10 lA10 ?_
  (try simp only [Act.put, lA10, List.setIfInBounds_toArray, List.set_cons_zero, List.set_cons_succ])
  refine tkv 11 lA11 ?_
  (try simp only [Act.put, lA11, List.setIfInBounds_toArray, List.set_cons_zero, List.set_cons_succ])
  refine tkv 12 lA12 ?_
  (try simp only [Act.put, lA12, List.setIfInBounds_toArray, List.set_cons_zero, List.set_cons_succ])
  refine tkv 13 lA13 ?_
  (try simp only [Act.put, lA13, List.setIfInBounds_toArray, List.set_cons_zero, List.set_cons_succ])
  refine tkE2 14 15 lA14 lA15 rfl rfl (by kernel_rfl) (fun K hK => ?_) (fun K hK => ?_)
  ·go_simp
   skip
   (try go_wp2_with fail)
   refine hK.out _ _ ?_ (fun hHeld1 => ?_)
   ·(try dsimp only); first | exact KS.out _ (by first | assumption | exact Kp.drew _) | exact KS.out _ (Kp.refl _) | exact KS.out _ (Kp.alloc _ _) | exact KS.out _ ((Kp.alloc _ _).trans (Kp.alloc _ _)) | exact KS.out _ ((Kp.drew _).trans (Kp.alloc _ _)) | exact KS.out _ (((Kp.drew _).trans (Kp.alloc _ _)).trans (Kp.alloc _ _))
   clear hK K hHeld0
   (try simp only [Act.put, lA14, List.setIfInBounds_toArray, List.set_cons_zero, List.set_cons_succ])
   refine tkE 15 lA15 rfl (by kernel_rfl) (fun K hK => ?_)
   go_simp
   skip
   (try go_wp2_with fail)
   refine hK.out _ _ ?_ (fun hHeld2 => ?_)
   ·(try dsimp only); first | exact KS.out _ (by first | assumption | exact Kp.drew _) | exact KS.out _ (Kp.refl _) | exact KS.out _ (Kp.alloc _ _) | exact KS.out _ ((Kp.alloc _ _).trans (Kp.alloc _ _)) | exact KS.out _ ((Kp.drew _).trans (Kp.alloc _ _)) | exact KS.out _ (((Kp.drew _).trans (Kp.alloc _ _)).trans (Kp.alloc _ _))
   clear hK K hHeld1
   (try simp only [Act.put, lA15, List.setIfInBounds_toArray, List.set_cons_zero, List.set_cons_succ])
   refine tkE 16 lA16 rfl (by kernel_rfl) (fun K hK => ?_)
   go_simp
   skip
   (try go_wp2_with fail)
   refine hK.out _ _ ?_ (fun hHeld3 => ?_)
   ·(try dsimp only); first | exact KS.out _ (by first | assumption | exact Kp.drew _) | exact KS.out _ (Kp.refl _) | exact KS.out _ (Kp.alloc _ _) | exact KS.out _ ((Kp.alloc _ _).trans (Kp.alloc _ _)) | exact KS.out _ ((Kp.drew _).trans (Kp.alloc _ _)) | exact KS.out _ (((Kp.drew _).trans (Kp.alloc _ _)).trans (Kp.alloc _ _))
   clear hK K hHeld2
   (try simp only [Act.put, lA16, List.setIfInBounds_toArray, List.set_cons_zero, List.set_cons_succ])
   refine tkE 17 lA17 rfl (by kernel_rfl) (fun K hK => ?_)
   go_simp
   skip
   (try go_wp2_with fail)
   refine hK.out _ _ ?_ (fun hHeld4 => ?_)
   ·(try dsimp only); first | exact KS.out _ (by first | assumption | exact Kp.drew _) | exact KS.out _ (Kp.refl _) | exact KS.out _ (Kp.alloc _ _) | exact KS.out _ ((Kp.alloc _ _).trans (Kp.alloc _ _)) | exact KS.out _ ((Kp.drew _).trans (Kp.alloc _ _)) | exact KS.out _ (((Kp.drew _).trans (Kp.alloc _ _)).trans (Kp.alloc _ _))
   clear hK K hHeld3
   (try simp only [Act.put, lA17, List.setIfInBounds_toArray, List.set_cons_zero, List.set_cons_succ])
   refine wpAnyH_done (by kernel_rfl) ?_ _
   obtain ⟨V, hV⟩ : ∃ x : World, x = ((w.alloc (.cells #[.int .i64 ia, .int .i64 il, .int .i64 ih, .bool true] 132)).alloc (.cells #[.int .i64 ja, .int .i64 jl, .int .i64 jh, .bool true] 132)).drew := ⟨_, rfl⟩
   rw [← hV]
   have kv : Kp w V := by rw [hV]; exact ((Kp.alloc _ _).trans (Kp.alloc _ _)).trans (Kp.drew _)
   have hA : V.heap[w.heap.size]? = some (.cells #[.int .i64 ia, .int .i64 il, .int .i64 ih, .bool true] 132 (0, 0)) := by rw [hV]; exact heap_block ((Kp.alloc _ _).trans (Kp.drew _)) (heap_at _ _ _ rfl)
   have hB : V.heap[w.heap.size + 1]? = some (.cells #[.int .i64 ja, .int .i64 jl, .int .i64 jh, .bool true] 132 (0, 0)) := by rw [hV]; exact heap_block (Kp.drew _) (heap_at _ _ _ (by simp))
   have y0 : V.cell? ⟨w.heap.size, 0, none⟩ = some (.int .i64 ia) := by simp [World.cell?, hA, hB]
   have y1 : V.cell? ⟨w.heap.size, 1, none⟩ = some (.int .i64 il) := by simp [World.cell?, hA, hB]
   have y2 : V.cell? ⟨w.heap.size, 2, none⟩ = some (.int .i64 ih) := by simp [World.cell?, hA, hB]
   have y3 : V.cell? ⟨w.heap.size, 3, none⟩ = some (.bool true) := by simp [World.cell?, hA, hB]
   have y4 : V.cell? ⟨w.heap.size + 1, 0, none⟩ = some (.int .i64 ja) := by simp [World.cell?, hA, hB]
   have y5 : V.cell? ⟨w.heap.size + 1, 1, none⟩ = some (.int .i64 jl) := by simp [World.cell?, hA, hB]
   have y6 : V.cell? ⟨w.heap.size + 1, 2, none⟩ = some (.int .i64 jh) := by simp [World.cell?, hA, hB]
   have y7 : V.cell? ⟨w.heap.size + 1, 3, none⟩ = some (.bool true) := by simp [World.cell?, hA, hB]
   have KS2 := Lib.hid (fun w' (kq : Kp V w') => show w'.cell? ⟨w.heap.size, 0, none⟩ = some (.int .i64 ia) ∧ w'.cell? ⟨w.heap.size, 1, none⟩ = some (.int .i64 il) ∧ w'.cell? ⟨w.heap.size, 2, none⟩ = some (.int .i64 ih) ∧ w'.cell? ⟨w.heap.size, 3, none⟩ = some (.bool true) ∧ w'.cell? ⟨w.heap.size + 1, 0, none⟩ = some (.int .i64 ja) ∧ w'.cell? ⟨w.heap.size + 1, 1, none⟩ = some (.int .i64 jl) ∧ w'.cell? ⟨w.heap.size + 1, 2, none⟩ = some (.int .i64 jh) ∧ w'.cell? ⟨w.heap.size + 1, 3, none⟩ = some (.bool true) ∧ Kp V w' from ⟨cell_up kq y0, cell_up kq y1, cell_up kq y2, cell_up kq y3, cell_up kq y4, cell_up kq y5, cell_up kq y6, cell_up kq y7, kq⟩)
   have KV := Lib.hid kv
   clear hV hA hB kv
   go_wp2_with fail
   refine wp_region_held_drew (S := fun w' => w'.cell? ⟨w.heap.size, 0, none⟩ = some (.int .i64 ia) ∧ w'.cell? ⟨w.heap.size, 1, none⟩ = some (.int .i64 il) ∧ w'.cell? ⟨w.heap.size, 2, none⟩ = some (.int .i64 ih) ∧ w'.cell? ⟨w.heap.size, 3, none⟩ = some (.bool true) ∧ w'.cell? ⟨w.heap.size + 1, 0, none⟩ = some (.int .i64 ja) ∧ w'.cell? ⟨w.heap.size + 1, 1, none⟩ = some (.int .i64 jl) ∧ w'.cell? ⟨w.heap.size + 1, 2, none⟩ = some (.int .i64 jh) ∧ w'.cell? ⟨w.heap.size + 1, 3, none⟩ = some (.bool true) ∧ Kp V w') (by kernel_rfl) ?_ (fun hHeld0 => ?_)
   ·(try dsimp only); first | exact KS2.out _ (by first | assumption | exact Kp.drew _) | exact KS2.out _ (Kp.refl _) | exact KS2.out _ (k2.trans (Kp.alloc _ _)) | exact KS2.out _ (k2.trans (Kp.drew _)) | exact KS2.out _ ((k2.trans (Kp.alloc _ _)).trans (Kp.drew _)) | exact KS2.out _ ((k2.trans (Kp.drew _)).trans (Kp.alloc _ _))
   refine tkv 0 lB0 ?_
   (try simp only [Act.put, lB0, List.setIfInBounds_toArray, List.set_cons_zero, List.set_cons_succ])
   refine tkv 1 lB1 ?_
   (try simp only [Act.put, lB1, List.setIfInBounds_toArray, List.set_cons_zero, List.set_cons_succ])
   refine tkv 2 lB2 ?_
   (try simp only [Act.put, lB2, List.setIfInBounds_toArray, List.set_cons_zero, List.set_cons_succ])
   refine tkv 3 lB3 ?_
   (try simp only [Act.put, lB3, List.setIfInBounds_toArray, List.set_cons_zero, List.set_cons_succ])
   refine tkv 5 lB5 ?_
   (try simp only [Act.put, lB5, List.setIfInBounds_toArray, List.set_cons_zero, List.set_cons_succ])
   refine tkv 6 lB6 ?_
   (try simp only [Act.put, lB6, List.setIfInBounds_toArray, List.set_cons_zero, List.set_cons_succ])
   refine tkv 7 lB7 ?_
   (try simp only [Act.put, lB7, List.setIfInBounds_toArray, List.set_cons_zero, List.set_cons_succ])
   refine tkv 8 lB8 ?_
   (try simp only [Act.put, lB8, List.setIfInBounds_toArray, List.set_cons_zero, List.set_cons_succ])
   refine tkE 4 lB4 rfl (by kernel_rfl) (fun K hK => ?_)
   go_simp
   (refine (C1.out _).mono ?_; rintro e w' ⟨rfl, k1⟩; have k2 := Kp.trans (show Kp V _ from (by first | assumption | exact Kp.drew _)) k1; clear k1)
   (try go_wp2_with fail)
   refine hK.out _ _ ?_ (fun hHeld1 => ?_)
   ·(try dsimp only); first | exact KS2.out _ (by first | assumption | exact Kp.drew _) | exact KS2.out _ (Kp.refl _) | exact KS2.out _ (k2.trans (Kp.alloc _ _)) | exact KS2.out _ (k2.trans (Kp.drew _)) | exact KS2.out _ ((k2.trans (Kp.alloc _ _)).trans (Kp.drew _)) | exact KS2.out _ ((k2.trans (Kp.drew _)).trans (Kp.alloc _ _))
   clear hK K hHeld0
   (try simp only [Act.put, lB4, List.setIfInBounds_toArray, List.set_cons_zero, List.set_cons_succ])
   refine tkE 9 lB9 rfl (by kernel_rfl) (fun K hK => ?_)
   go_simp
   (refine (C2.out _).mono ?_; rintro e w' ⟨rfl, rfl⟩)
   (try go_wp2_with fail)
   refine hK.out _ _ ?_ (fun hHeld2 => ?_)
   ·(try dsimp only); first | exact KS2.out _ (by first | assumption | exact Kp.drew _) | exact KS2.out _ (Kp.refl _) | exact KS2.out _ (k2.trans (Kp.alloc _ _)) | exact KS2.out _ (k2.trans (Kp.drew _)) | exact KS2.out _ ((k2.trans (Kp.alloc _ _)).trans (Kp.drew _)) | exact KS2.out _ ((k2.trans (Kp.drew _)).trans (Kp.alloc _ _))
   clear hK K hHeld1
   (try simp only [Act.put, lB9, List.setIfInBounds_toArray, List.set_cons_zero, List.set_cons_succ])
   refine tkE 10 lB10 rfl (by kernel_rfl) (fun K hK => ?_)
   go_simp
   skip
   (try go_wp2_with fail)
   refine hK.out _ _ ?_ (fun hHeld3 => ?_)
   ·(try dsimp only); first | exact KS2.out _ (by first | assumption | exact Kp.drew _) | exact KS2.out _ (Kp.refl _) | exact KS2.out _ (k2.trans (Kp.alloc _ _)) | exact KS2.out _ (k2.trans (Kp.drew _)) | exact KS2.out _ ((k2.trans (Kp.alloc _ _)).trans (Kp.drew _)) | exact KS2.out _ ((k2.trans (Kp.drew _)).trans (Kp.alloc _ _))
   clear hK K hHeld2
   (try simp only [Act.put, lB10, List.setIfInBounds_toArray, List.set_cons_zero, List.set_cons_succ])
   refine tkE 11 lB11 rfl (by kernel_rfl) (fun K hK => ?_)
   go_simp
   (refine (C3.out _ _ (by simp) (by simp)).mono ?_; rintro e w' ⟨rfl, rfl⟩)
   (try go_wp2_with fail)
   refine hK.out _ _ ?_ (fun hHeld4 => ?_)
   ·(try dsimp only); first | exact KS2.out _ (by first | assumption | exact Kp.drew _) | exact KS2.out _ (Kp.refl _) | exact KS2.out _ (k2.trans (Kp.alloc _ _)) | exact KS2.out _ (k2.trans (Kp.drew _)) | exact KS2.out _ ((k2.trans (Kp.alloc _ _)).trans (Kp.drew _)) | exact KS2.out _ ((k2.trans (Kp.drew _)).trans (Kp.alloc _ _))
   clear hK K hHeld3
   (try simp only [Act.put, lB11, List.setIfInBounds_toArray, List.set_cons_zero, List.set_cons_succ])
   refine tkv 12 lB12 ?_
   (try simp only [Act.put, lB12, List.setIfInBounds_toArray, List.set_cons_zero, List.set_cons_succ])
   refine tkv 13 lB13 ?_
   (try simp only [Act.put, lB13, List.setIfInBounds_toArray, List.set_cons_zero, List.set_cons_succ])
   refine wpAnyH_done (by kernel_rfl) ?_ _
   go_wp2
   go_ret
   exact ⟨by first | rfl | (rw [HRB.out]), by first | exact KV.out.trans (k2.trans (Kp.alloc _ _)) | exact KV.out.trans ((k2.trans (Kp.alloc _ _)).trans (Kp.drew _)) | exact KV.out.trans ((k2.trans (Kp.drew _)).trans (Kp.alloc _ _))⟩
  ·go_simp
   skip
   (try go_wp2_with fail)
   refine hK.out _ _ ?_ (fun hHeld1 => ?_)
   ·(try dsimp only); first | exact KS.out _ (by first | assumption | exact Kp.drew _) | exact KS.out _ (Kp.refl _) | exact KS.out _ (Kp.alloc _ _) | exact KS.out _ ((Kp.alloc _ _).trans (Kp.alloc _ _)) | exact KS.out _ ((Kp.drew _).trans (Kp.alloc _ _)) | exact KS.out _ (((Kp.drew _).trans (Kp.alloc _ _)).trans (Kp.alloc _ _))
   clear hK K hHeld0
   (try simp only [Act.put, lA15, List.setIfInBounds_toArray, List.set_cons_zero, List.set_cons_succ])
   refine tkE 14 lA14 rfl (by kernel_rfl) (fun K hK => ?_)
   go_simp
   skip
   (try go_wp2_with fail)
   refine hK.out _ _ ?_ (fun hHeld2 => ?_)
   ·(try dsimp only); first | exact KS.out _ (by first | assumption | exact Kp.drew _) | exact KS.out _ (Kp.refl _) | exact KS.out _ (Kp.alloc _ _) | exact KS.out _ ((Kp.alloc _ _).trans (Kp.alloc _ _)) | exact KS.out _ ((Kp.drew _).trans (Kp.alloc _ _)) | exact KS.out _ (((Kp.drew _).trans (Kp.alloc _ _)).trans (Kp.alloc _ _))
   clear hK K hHeld1
   (try simp only [Act.put, lA14, List.setIfInBounds_toArray, List.set_cons_zero, List.set_cons_succ])
   refine tkE 16 lA16 rfl (by kernel_rfl) (fun K hK => ?_)
   go_simp
   skip
   (try go_wp2_with fail)
   refine hK.out _ _ ?_ (fun hHeld3 => ?_)
   ·(try dsimp only); first | exact KS.out _ (by first | assumption | exact Kp.drew _) | exact KS.out _ (Kp.refl _) | exact KS.out _ (Kp.alloc _ _) | exact KS.out _ ((Kp.alloc _ _).trans (Kp.alloc _ _)) | exact KS.out _ ((Kp.drew _).trans (Kp.alloc _ _)) | exact KS.out _ (((Kp.drew _).trans (Kp.alloc _ _)).trans (Kp.alloc _ _))
   clear hK K hHeld2
   (try simp only [Act.put, lA16, List.setIfInBounds_toArray, List.set_cons_zero, List.set_cons_succ])
   refine tkE 17 lA17 rfl (by kernel_rfl) (fun K hK => ?_)
   go_simp
   skip
   (try go_wp2_with fail)
   refine hK.out _ _ ?_ (fun hHeld4 => ?_)
   ·(try dsimp only); first | exact KS.out _ (by first | assumption | exact Kp.drew _) | exact KS.out _ (Kp.refl _) | exact KS.out _ (Kp.alloc _ _) | exact KS.out _ ((Kp.alloc _ _).trans (Kp.alloc _ _)) | exact KS.out _ ((Kp.drew _).trans (Kp.alloc _ _)) | exact KS.out _ (((Kp.drew _).trans (Kp.alloc _ _)).trans (Kp.alloc _ _))
   clear hK K hHeld3
   (try simp only [Act.put, lA17, List.setIfInBounds_toArray, List.set_cons_zero, List.set_cons_succ])
   refine wpAnyH_done (by kernel_rfl) ?_ _
   obtain ⟨V, hV⟩ : ∃ x : World, x = ((w.alloc (.cells #[.int .i64 ja, .int .i64 jl, .int .i64 jh, .bool true] 132)).alloc (.cells #[.int .i64 ia, .int .i64 il, .int .i64 ih, .bool true] 132)).drew := ⟨_, rfl⟩
   rw [← hV]
   have kv : Kp w V := by rw [hV]; exact ((Kp.alloc _ _).trans (Kp.alloc _ _)).trans (Kp.drew _)
   have hA : V.heap[w.heap.size]? = some (.cells #[.int .i64 ja, .int .i64 jl, .int .i64 jh, .bool true] 132 (0, 0)) := by rw [hV]; exact heap_block ((Kp.alloc _ _).trans (Kp.drew _)) (heap_at _ _ _ rfl)
   have hB : V.heap[w.heap.size + 1]? = some (.cells #[.int .i64 ia, .int .i64 il, .int .i64 ih, .bool true] 132 (0, 0)) := by rw [hV]; exact heap_block (Kp.drew _) (heap_at _ _ _ (by simp))
   have y0 : V.cell? ⟨w.heap.size + 1, 0, none⟩ = some (.int .i64 ia) := by simp [World.cell?, hA, hB]
   have y1 : V.cell? ⟨w.heap.size + 1, 1, none⟩ = some (.int .i64 il) := by simp [World.cell?, hA, hB]
   have y2 : V.cell? ⟨w.heap.size + 1, 2, none⟩ = some (.int .i64 ih) := by simp [World.cell?, hA, hB]
   have y3 : V.cell? ⟨w.heap.size + 1, 3, none⟩ = some (.bool true) := by simp [World.cell?, hA, hB]
   have y4 : V.cell? ⟨w.heap.size, 0, none⟩ = some (.int .i64 ja) := by simp [World.cell?, hA, hB]
   have y5 : V.cell? ⟨w.heap.size, 1, none⟩ = some (.int .i64 jl) := by simp [World.cell?, hA, hB]
   have y6 : V.cell? ⟨w.heap.size, 2, none⟩ = some (.int .i64 jh) := by simp [World.cell?, hA, hB]
   have y7 : V.cell? ⟨w.heap.size, 3, none⟩ = some (.bool true) := by simp [World.cell?, hA, hB]
   have KS2 := Lib.hid (fun w' (kq : Kp V w') => show w'.cell? ⟨w.heap.size + 1, 0, none⟩ = some (.int .i64 ia) ∧ w'.cell? ⟨w.heap.size + 1, 1, none⟩ = some (.int .i64 il) ∧ w'.cell? ⟨w.heap.size + 1, 2, none⟩ = some (.int .i64 ih) ∧ w'.cell? ⟨w.heap.size + 1, 3, none⟩ = some (.bool true) ∧ w'.cell? ⟨w.heap.size, 0, none⟩ = some (.int .i64 ja) ∧ w'.cell? ⟨w.heap.size, 1, none⟩ = some (.int .i64 jl) ∧ w'.cell? ⟨w.heap.size, 2, none⟩ = some (.int .i64 jh) ∧ w'.cell? ⟨w.heap.size, 3, none⟩ = some (.bool true) ∧ Kp V w' from ⟨cell_up kq y0, cell_up kq y1, cell_up kq y2, cell_up kq y3, cell_up kq y4, cell_up kq y5, cell_up kq y6, cell_up kq y7, kq⟩)
   have KV := Lib.hid kv
   clear hV hA hB kv
   go_wp2_with fail
   refine wp_region_held_drew (S := fun w' => w'.cell? ⟨w.heap.size + 1, 0, none⟩ = some (.int .i64 ia) ∧ w'.cell? ⟨w.heap.size + 1, 1, none⟩ = some (.int .i64 il) ∧ w'.cell? ⟨w.heap.size + 1, 2, none⟩ = some (.int .i64 ih) ∧ w'.cell? ⟨w.heap.size + 1, 3, none⟩ = some (.bool true) ∧ w'.cell? ⟨w.heap.size, 0, none⟩ = some (.int .i64 ja) ∧ w'.cell? ⟨w.heap.size, 1, none⟩ = some (.int .i64 jl) ∧ w'.cell? ⟨w.heap.size, 2, none⟩ = some (.int .i64 jh) ∧ w'.cell? ⟨w.heap.size, 3, none⟩ = some (.bool true) ∧ Kp V w') (by kernel_rfl) ?_ (fun hHeld0 => ?_)
   ·(try dsimp only); first | exact KS2.out _ (by first | assumption | exact Kp.drew _) | exact KS2.out _ (Kp.refl _) | exact KS2.out _ (k2.trans (Kp.alloc _ _)) | exact KS2.out _ (k2.trans (Kp.drew _)) | exact KS2.out _ ((k2.trans (Kp.alloc _ _)).trans (Kp.drew _)) | exact KS2.out _ ((k2.trans (Kp.drew _)).trans (Kp.alloc _ _))
   refine tkv 0 lB0 ?_
   (try simp only [Act.put, lB0, List.setIfInBounds_toArray, List.set_cons_zero, List.set_cons_succ])
   refine tkv 1 lB1 ?_
   (try simp only [Act.put, lB1, List.setIfInBounds_toArray, List.set_cons_zero, List.set_cons_succ])
   refine tkv 2 lB2 ?_
   (try simp only [Act.put, lB2, List.setIfInBounds_toArray, List.set_cons_zero, List.set_cons_succ])
   refine tkv 3 lB3 ?_
   (try simp only [Act.put, lB3, List.setIfInBounds_toArray, List.set_cons_zero, List.set_cons_succ])
   refine tkv 5 lB5 ?_
   (try simp only [Act.put, lB5, List.setIfInBounds_toArray, List.set_cons_zero, List.set_cons_succ])
   refine tkv 6 lB6 ?_
   (try simp only [Act.put, lB6, List.setIfInBounds_toArray, List.set_cons_zero, List.set_cons_succ])
   refine tkv 7 lB7 ?_
   (try simp only [Act.put, lB7, List.setIfInBounds_toArray, List.set_cons_zero, List.set_cons_succ])
   refine tkv 8 lB8 ?_
   (try simp only [Act.put, lB8, List.setIfInBounds_toArray, List.set_cons_zero, List.set_cons_succ])
   refine tkE 4 lB4 rfl (by kernel_rfl) (fun K hK => ?_)
   go_simp
   (refine (C1.out _).mono ?_; rintro e w' ⟨rfl, k1⟩; have k2 := Kp.trans (show Kp V _ from (by first | assumption | exact Kp.drew _)) k1; clear k1)
   (try go_wp2_with fail)
   refine hK.out _ _ ?_ (fun hHeld1 => ?_)
   ·(try dsimp only); first | exact KS2.out _ (by first | assumption | exact Kp.drew _) | exact KS2.out _ (Kp.refl _) | exact KS2.out _ (k2.trans (Kp.alloc _ _)) | exact KS2.out _ (k2.trans (Kp.drew _)) | exact KS2.out _ ((k2.trans (Kp.alloc _ _)).trans (Kp.drew _)) | exact KS2.out _ ((k2.trans (Kp.drew _)).trans (Kp.alloc _ _))
   clear hK K hHeld0
   (try simp only [Act.put, lB4, List.setIfInBounds_toArray, List.set_cons_zero, List.set_cons_succ])
   refine tkE 9 lB9 rfl (by kernel_rfl) (fun K hK => ?_)
   go_simp
   (refine (C2.out _).mono ?_; rintro e w' ⟨rfl, rfl⟩)
   (try go_wp2_with fail)
   refine hK.out _ _ ?_ (fun hHeld2 => ?_)
   ·(try dsimp only); first | exact KS2.out _ (by first | assumption | exact Kp.drew _) | exact KS2.out _ (Kp.refl _) | exact KS2.out _ (k2.trans (Kp.alloc _ _)) | exact KS2.out _ (k2.trans (Kp.drew _)) | exact KS2.out _ ((k2.trans (Kp.alloc _ _)).trans (Kp.drew _)) | exact KS2.out _ ((k2.trans (Kp.drew _)).trans (Kp.alloc _ _))
   clear hK K hHeld1
   (try simp only [Act.put, lB9, List.setIfInBounds_toArray, List.set_cons_zero, List.set_cons_succ])
   refine tkE 10 lB10 rfl (by kernel_rfl) (fun K hK => ?_)
   go_simp
   skip
   (try go_wp2_with fail)
   refine hK.out _ _ ?_ (fun hHeld3 => ?_)
   ·(try dsimp only); first | exact KS2.out _ (by first | assumption | exact Kp.drew _) | exact KS2.out _ (Kp.refl _) | exact KS2.out _ (k2.trans (Kp.alloc _ _)) | exact KS2.out _ (k2.trans (Kp.drew _)) | exact KS2.out _ ((k2.trans (Kp.alloc _ _)).trans (Kp.drew _)) | exact KS2.out _ ((k2.trans (Kp.drew _)).trans (Kp.alloc _ _))
   clear hK K hHeld2
   (try simp only [Act.put, lB10, List.setIfInBounds_toArray, List.set_cons_zero, List.set_cons_succ])
   refine tkE 11 lB11 rfl (by kernel_rfl) (fun K hK => ?_)
   go_simp
   (refine (C3.out _ _ (by simp) (by simp)).mono ?_; rintro e w' ⟨rfl, rfl⟩)
   (try go_wp2_with fail)
   refine hK.out _ _ ?_ (fun hHeld4 => ?_)
   ·(try dsimp only); first | exact KS2.out _ (by first | assumption | exact Kp.drew _) | exact KS2.out _ (Kp.refl _) | exact KS2.out _ (k2.trans (Kp.alloc _ _)) | exact KS2.out _ (k2.trans (Kp.drew _)) | exact KS2.out _ ((k2.trans (Kp.alloc _ _)).trans (Kp.drew _)) | exact KS2.out _ ((k2.trans (Kp.drew _)).trans (Kp.alloc _ _))
   clear hK K hHeld3
   (try simp only [Act.put, lB11, List.setIfInBounds_toArray, List.set_cons_zero, List.set_cons_succ])
   refine tkv 12 lB12 ?_
   (try simp only [Act.put, lB12, List.setIfInBounds_toArray, List.set_cons_zero, List.set_cons_succ])
   refine tkv 13 lB13 ?_
   (try simp only [Act.put, lB13, List.setIfInBounds_toArray, List.set_cons_zero, List.set_cons_succ])
   refine wpAnyH_done (by kernel_rfl) ?_ _
   go_wp2
   go_ret
   exact ⟨by first | rfl | (rw [HRB.out]), by first | exact KV.out.trans (k2.trans (Kp.alloc _ _)) | exact KV.out.trans ((k2.trans (Kp.alloc _ _)).trans (Kp.drew _)) | exact KV.out.trans ((k2.trans (Kp.drew _)).trans (Kp.alloc _ _))⟩
abbrev sW0 : Oper := { dst := some 6, op := Go.Op.move (Go.Operand.tmp 0), type := 126, pos := "order.go:95", after := #[], guard := none }
abbrev sW1 : Oper := { dst := some 7, op := Go.Op.nilCheck (Go.Operand.tmp 6), type := 0, pos := "order.go:95", after := #[{ on := 0, ground := Go.Ground.data }], guard := none }
abbrev sW2 : Oper := { dst := some 8, op := Go.Op.fieldAddr 129 (Go.Operand.tmp 7) 0, type := 0, pos := "order.go:95", after := #[{ on := 1, ground := Go.Ground.data }], guard := none }
abbrev sW3 : Oper := { dst := some 9, op := Go.Op.load 127 (Go.Operand.tmp 8), type := 127, pos := "order.go:95", after := #[{ on := 2, ground := Go.Ground.data }], guard := none }
abbrev sW4 : Oper := { dst := some 10, op := Go.Op.move (Go.Operand.tmp 1), type := 3, pos := "order.go:95", after := #[], guard := none }
abbrev sW5 : Oper := { dst := some 11, op := Go.Op.move (Go.Operand.tmp 0), type := 126, pos := "order.go:95", after := #[], guard := none }
abbrev sW6 : Oper := { dst := some 12, op := Go.Op.nilCheck (Go.Operand.tmp 11), type := 0, pos := "order.go:95", after := #[{ on := 5, ground := Go.Ground.data }], guard := none }
abbrev sW7 : Oper := { dst := some 13, op := Go.Op.fieldAddr 129 (Go.Operand.tmp 12) 0, type := 0, pos := "order.go:95", after := #[{ on := 6, ground := Go.Ground.data }], guard := none }
abbrev sW8 : Oper := { dst := some 14, op := Go.Op.load 127 (Go.Operand.tmp 13), type := 127, pos := "order.go:95", after := #[{ on := 7, ground := Go.Ground.data }], guard := none }
abbrev sW9 : Oper := { dst := some 15, op := Go.Op.move (Go.Operand.tmp 2), type := 3, pos := "order.go:95", after := #[{ on := 25, ground := Go.Ground.gcOnly Go.Departure.lateStores }], guard := none }
abbrev sW10 : Oper := { dst := some 16, op := Go.Op.move (Go.Operand.tmp 0), type := 126, pos := "order.go:95", after := #[], guard := none }
abbrev sW11 : Oper := { dst := some 17, op := Go.Op.nilCheck (Go.Operand.tmp 16), type := 0, pos := "order.go:95", after := #[{ on := 10, ground := Go.Ground.data }], guard := none }
abbrev sW12 : Oper := { dst := some 18, op := Go.Op.fieldAddr 129 (Go.Operand.tmp 17) 0, type := 0, pos := "order.go:95", after := #[{ on := 11, ground := Go.Ground.data }], guard := none }
abbrev sW13 : Oper := { dst := some 19, op := Go.Op.load 127 (Go.Operand.tmp 18), type := 127, pos := "order.go:95", after := #[{ on := 12, ground := Go.Ground.data }], guard := none }
abbrev sW14 : Oper := { dst := some 20, op := Go.Op.move (Go.Operand.tmp 2), type := 3, pos := "order.go:95", after := #[], guard := none }
abbrev sW15 : Oper := { dst := some 21, op := Go.Op.indexAddr 127 (Go.Operand.tmp 19) (Go.Operand.tmp 20), type := 0, pos := "order.go:95", after := #[{ on := 13, ground := Go.Ground.data }, { on := 14, ground := Go.Ground.data }], guard := none }
abbrev sW16 : Oper := { dst := some 22, op := Go.Op.load 132 (Go.Operand.tmp 21), type := 132, pos := "order.go:95", after := #[{ on := 15, ground := Go.Ground.data }], guard := none }
abbrev sW17 : Oper := { dst := some 23, op := Go.Op.move (Go.Operand.tmp 0), type := 126, pos := "order.go:95", after := #[], guard := none }
abbrev sW18 : Oper := { dst := some 24, op := Go.Op.nilCheck (Go.Operand.tmp 23), type := 0, pos := "order.go:95", after := #[{ on := 17, ground := Go.Ground.data }], guard := none }
abbrev sW19 : Oper := { dst := some 25, op := Go.Op.fieldAddr 129 (Go.Operand.tmp 24) 0, type := 0, pos := "order.go:95", after := #[{ on := 18, ground := Go.Ground.data }], guard := none }
abbrev sW20 : Oper := { dst := some 26, op := Go.Op.load 127 (Go.Operand.tmp 25), type := 127, pos := "order.go:95", after := #[{ on := 19, ground := Go.Ground.data }], guard := none }
abbrev sW21 : Oper := { dst := some 27, op := Go.Op.move (Go.Operand.tmp 1), type := 3, pos := "order.go:95", after := #[], guard := none }
abbrev sW22 : Oper := { dst := some 28, op := Go.Op.indexAddr 127 (Go.Operand.tmp 26) (Go.Operand.tmp 27), type := 0, pos := "order.go:95", after := #[{ on := 20, ground := Go.Ground.data }, { on := 21, ground := Go.Ground.data }], guard := none }
abbrev sW23 : Oper := { dst := some 29, op := Go.Op.load 132 (Go.Operand.tmp 28), type := 132, pos := "order.go:95", after := #[{ on := 22, ground := Go.Ground.data }], guard := none }
abbrev sW24 : Oper := { dst := some 30, op := Go.Op.indexAddr 127 (Go.Operand.tmp 9) (Go.Operand.tmp 10), type := 0, pos := "order.go:95", after := #[{ on := 3, ground := Go.Ground.data }, { on := 4, ground := Go.Ground.data }, { on := 0, ground := Go.Ground.phase }, { on := 1, ground := Go.Ground.phase }, { on := 2, ground := Go.Ground.phase }, { on := 3, ground := Go.Ground.phase }, { on := 4, ground := Go.Ground.phase }, { on := 5, ground := Go.Ground.textOnly Go.Departure.lateStores }, { on := 6, ground := Go.Ground.textOnly Go.Departure.lateStoresUnsure }, { on := 7, ground := Go.Ground.textOnly Go.Departure.lateStoresUnsure }, { on := 8, ground := Go.Ground.phase }, { on := 9, ground := Go.Ground.textOnly Go.Departure.lateStores }, { on := 10, ground := Go.Ground.phase }, { on := 11, ground := Go.Ground.phase }, { on := 12, ground := Go.Ground.phase }, { on := 13, ground := Go.Ground.phase }, { on := 14, ground := Go.Ground.phase }, { on := 15, ground := Go.Ground.phase }, { on := 16, ground := Go.Ground.phase }, { on := 17, ground := Go.Ground.textOnly Go.Departure.lateStores }, { on := 18, ground := Go.Ground.textOnly Go.Departure.lateStoresUnsure }, { on := 19, ground := Go.Ground.textOnly Go.Departure.lateStoresUnsure }, { on := 20, ground := Go.Ground.phase }, { on := 21, ground := Go.Ground.textOnly Go.Departure.lateStores }, { on := 22, ground := Go.Ground.textOnly Go.Departure.lateStoresUnsure }, { on := 23, ground := Go.Ground.phase }], guard := none }
abbrev sW25 : Oper := { dst := none, op := Go.Op.store 132 (Go.Operand.tmp 30) (Go.Operand.tmp 22), type := 0, pos := "order.go:95", after := #[{ on := 24, ground := Go.Ground.data }, { on := 16, ground := Go.Ground.data }, { on := 0, ground := Go.Ground.phase }, { on := 1, ground := Go.Ground.phase }, { on := 2, ground := Go.Ground.phase }, { on := 3, ground := Go.Ground.phase }, { on := 4, ground := Go.Ground.phase }, { on := 5, ground := Go.Ground.textOnly Go.Departure.lateStores }, { on := 6, ground := Go.Ground.textOnly Go.Departure.lateStoresUnsure }, { on := 7, ground := Go.Ground.textOnly Go.Departure.lateStoresUnsure }, { on := 8, ground := Go.Ground.phase }, { on := 9, ground := Go.Ground.textOnly Go.Departure.lateStores }, { on := 10, ground := Go.Ground.phase }, { on := 11, ground := Go.Ground.phase }, { on := 12, ground := Go.Ground.phase }, { on := 13, ground := Go.Ground.phase }, { on := 14, ground := Go.Ground.phase }, { on := 15, ground := Go.Ground.phase }, { on := 16, ground := Go.Ground.phase }, { on := 17, ground := Go.Ground.textOnly Go.Departure.lateStores }, { on := 18, ground := Go.Ground.textOnly Go.Departure.lateStoresUnsure }, { on := 19, ground := Go.Ground.textOnly Go.Departure.lateStoresUnsure }, { on := 20, ground := Go.Ground.phase }, { on := 21, ground := Go.Ground.textOnly Go.Departure.lateStores }, { on := 22, ground := Go.Ground.textOnly Go.Departure.lateStoresUnsure }, { on := 23, ground := Go.Ground.phase }], guard := none }
abbrev sW26 : Oper := { dst := some 31, op := Go.Op.indexAddr 127 (Go.Operand.tmp 14) (Go.Operand.tmp 15), type := 0, pos := "order.go:95", after := #[{ on := 8, ground := Go.Ground.data }, { on := 9, ground := Go.Ground.data }, { on := 0, ground := Go.Ground.phase }, { on := 1, ground := Go.Ground.phase }, { on := 2, ground := Go.Ground.phase }, { on := 3, ground := Go.Ground.phase }, { on := 4, ground := Go.Ground.phase }, { on := 5, ground := Go.Ground.phase }, { on := 6, ground := Go.Ground.phase }, { on := 7, ground := Go.Ground.phase }, { on := 8, ground := Go.Ground.phase }, { on := 9, ground := Go.Ground.phase }, { on := 10, ground := Go.Ground.phase }, { on := 11, ground := Go.Ground.phase }, { on := 12, ground := Go.Ground.phase }, { on := 13, ground := Go.Ground.phase }, { on := 14, ground := Go.Ground.phase }, { on := 15, ground := Go.Ground.phase }, { on := 16, ground := Go.Ground.phase }, { on := 17, ground := Go.Ground.phase }, { on := 18, ground := Go.Ground.phase }, { on := 19, ground := Go.Ground.phase }, { on := 20, ground := Go.Ground.phase }, { on := 21, ground := Go.Ground.phase }, { on := 22, ground := Go.Ground.phase }, { on := 23, ground := Go.Ground.phase }, { on := 24, ground := Go.Ground.phase }, { on := 25, ground := Go.Ground.phase }], guard := none }
abbrev sW27 : Oper := { dst := none, op := Go.Op.store 132 (Go.Operand.tmp 31) (Go.Operand.tmp 29), type := 0, pos := "order.go:95", after := #[{ on := 26, ground := Go.Ground.data }, { on := 23, ground := Go.Ground.data }, { on := 25, ground := Go.Ground.chain }, { on := 0, ground := Go.Ground.phase }, { on := 1, ground := Go.Ground.phase }, { on := 2, ground := Go.Ground.phase }, { on := 3, ground := Go.Ground.phase }, { on := 4, ground := Go.Ground.phase }, { on := 5, ground := Go.Ground.phase }, { on := 6, ground := Go.Ground.phase }, { on := 7, ground := Go.Ground.phase }, { on := 8, ground := Go.Ground.phase }, { on := 9, ground := Go.Ground.phase }, { on := 10, ground := Go.Ground.phase }, { on := 11, ground := Go.Ground.phase }, { on := 12, ground := Go.Ground.phase }, { on := 13, ground := Go.Ground.phase }, { on := 14, ground := Go.Ground.phase }, { on := 15, ground := Go.Ground.phase }, { on := 16, ground := Go.Ground.phase }, { on := 17, ground := Go.Ground.phase }, { on := 18, ground := Go.Ground.phase }, { on := 19, ground := Go.Ground.phase }, { on := 20, ground := Go.Ground.phase }, { on := 21, ground := Go.Ground.phase }, { on := 22, ground := Go.Ground.phase }, { on := 23, ground := Go.Ground.phase }, { on := 24, ground := Go.Ground.phase }, { on := 25, ground := Go.Ground.phase }], guard := none }
theorem row_put {w : World} {base g cap : Nat} {L : List PLC} (h : w.ownsRow base 132 4 (.slice (some ⟨g, 0, none⟩) L.length cap) L.length (cellsK L)) {i : Nat} (hi : i < L.length) (p : PLC) :
  ((((w.setCell ⟨g, i * 4, none⟩ (.int .i64 p.at_)).setCell ⟨g, i * 4 + 1, none⟩ (.int .i64 p.lo)).setCell ⟨g, i * 4 + 2, none⟩ (.int .i64 p.hi)).setCell ⟨g, i * 4 + 3, none⟩ (.bool p.em)).ownsRow base 132 4 (.slice (some ⟨g, 0, none⟩) (L.set i p).length cap) (L.set i p).length (cellsK (L.set i p)) := by
 rw [cellsK_set L i p hi, List.length_set]
 exact ((((h.stored (i * 4) (.int .i64 p.at_)).1.stored (i * 4 + 1) (.int .i64 p.lo)).1.stored (i * 4 + 2) (.int .i64 p.hi)).1.stored (i * 4 + 3) (.bool p.em)).1
theorem row_kp {w0 w : World} (k : Kp w0 w) {g : Nat} (hg : w0.heap.size ≤ g) (a b c d : Nat) (x0 x1 x2 x3 : Value) : Kp w0 ((((w.setCell ⟨g, a, none⟩ x0).setCell ⟨g, b, none⟩ x1).setCell ⟨g, c, none⟩ x2).setCell ⟨g, d, none⟩ x3) :=
 Below.setCell (Below.setCell (Below.setCell (Below.setCell k (p := ⟨g, a, none⟩) hg _) (p := ⟨g, b, none⟩) hg _) (p := ⟨g, c, none⟩) hg _) (p := ⟨g, d, none⟩) hg _
theorem row_other {w : World} {g C : Nat} (h : C ≠ g) (a b c d : Nat) (x0 x1 x2 x3 : Value) : ((((w.setCell ⟨g, a, none⟩ x0).setCell ⟨g, b, none⟩ x1).setCell ⟨g, c, none⟩ x2).setCell ⟨g, d, none⟩ x3).heap[C]? = w.heap[C]? := by
 rw [cs1_other h, cs1_other h, cs1_other h, cs1_other h]
theorem own_cell {w : World} {base : Nat} {e : TypeId} {size g n cap : Nat} {xs : List Value} (h : w.ownsRow base e size (.slice (some ⟨g, 0, none⟩) n cap) n xs) (j : Nat) (hj : j < n * size) : ∃ v, w.cell? ⟨g, j, none⟩ = some v ∧ w.frozen? ⟨g, j, none⟩ = false := by
 have hl := h.1
 refine ⟨xs[j]'(by omega), ?_, h.frozenAt j⟩
 rw [h.cellAt j hj]
 exact List.getElem?_eq_getElem _
theorem step_loadm {P : Program} {w : World} {ops : Array Oper} {o : Oper} {a : Act} {K : Act → World → Prop} {Q : Exit → Act → World → Prop} {E : Prop} (hgd : o.guard = none) (ty : TypeId) (x : Operand) (ho : o.op = .load ty x)
  (b f : Nat) (hx : a.eval x = .pointer (some ⟨b, f, none⟩)) (cs : List Value) (d : TypeDesc) (hc : w.rangeAt b f cs) (hu : P.underlying ty = some d) (hd : d.isRow = true) (hi : (P.info? ty).map (·.size) = some cs.length)
  (h : K (a.put o.dst (.agg cs.toArray)) w) : if Region.wanted o (yielded ops a.tmps) = true then Oper.wp P o a w K Q else E := by
 rw [if_pos (by simp [Region.wanted, hgd])]
 exact wp_load_mid ty x ho b f hx cs d hc hu hd hi h
theorem step_storem {P : Program} {w : World} {ops : Array Oper} {o : Oper} {a : Act} {K : Act → World → Prop} {Q : Exit → Act → World → Prop} {E : Prop} (hgd : o.guard = none) (ty : TypeId) (x y : Operand) (ho : o.op = .store ty x y)
  (b f : Nat) (cs : List Value) (hx : a.eval x = .pointer (some ⟨b, f, none⟩)) (hy : a.eval y = .agg cs.toArray) (ht : w.there b f cs.length) (hi : (P.info? ty).map (·.size) = some cs.length) (h1 : cs.toArray.all (·.oneCell') = true)
  {w' : World} (hw : w.setCells b f cs = w') (h : K (a.put o.dst undef) w') : if Region.wanted o (yielded ops a.tmps) = true then Oper.wp P o a w K Q else E := by
 subst hw
 rw [if_pos (by simp [Region.wanted, hgd])]
 exact wp_store_mid ty x y ho b f cs.toArray hx hy (by simpa using ht) (by simpa using hi) h1 h
theorem PAt.range {w : World} {g i : Nat} {p : PLC} (h : PAt w g i p) : w.rangeAt g (i * 4) (cellsP p) := by
 obtain ⟨a, b, c, d⟩ := h
 intro j v hv
 match j with
 | 0 => cases hv; exact a
 | 1 => cases hv; exact b
 | 2 => cases hv; exact c
 | 3 => cases hv; exact d
 | j + 4 => simp [cellsP] at hv
theorem there_own {w : World} {base : Nat} {e : TypeId} {g n cap : Nat} {xs : List Value} (h : w.ownsRow base e 4 (.slice (some ⟨g, 0, none⟩) n cap) n xs) {i : Nat} (hi : i < n) : w.there g (i * 4) 4 := fun j hj => by
 obtain ⟨v, a, b⟩ := own_cell h (i * 4 + j) (by omega)
 exact ⟨by rw [a]; rfl, b⟩
theorem row_put2 {w : World} {base g cap : Nat} {L : List PLC} (h : w.ownsRow base 132 4 (.slice (some ⟨g, 0, none⟩) L.length cap) L.length (cellsK L)) {i : Nat} (hi : i < L.length) (p : PLC) :
  (w.setCells g (i * 4) (cellsP p)).ownsRow base 132 4 (.slice (some ⟨g, 0, none⟩) (L.set i p).length cap) (L.set i p).length (cellsK (L.set i p)) := row_put h hi p
theorem HPs.put {w0 w : World} {B g cap : Nat} {L : List PLC} {fr : Nat × Nat} (k : Kp w0 w) (hB : w0.heap.size ≤ B) (hg : g ≠ B) (hb : w.heap[B]? = some (.cells #[.slice (some ⟨g, 0, none⟩) L.length cap] 129 (0, 0))) (h : w.ownsRow w0.heap.size 132 4 (.slice (some ⟨g, 0, none⟩) L.length cap) L.length (cellsK L)) {i : Nat} (hi : i < L.length) (p : PLC) :
  Kp w0 (w.setCells g (i * 4) (cellsP p)) ∧ (w.setCells g (i * 4) (cellsP p)).heap[B]? = some (.cells #[.slice (some ⟨g, 0, none⟩) (L.set i p).length cap] 129 (0, 0)) ∧ (w.setCells g (i * 4) (cellsP p)).ownsRow w0.heap.size 132 4 (.slice (some ⟨g, 0, none⟩) (L.set i p).length cap) (L.set i p).length (cellsK (L.set i p)) ∧ PW w (w.setCells g (i * 4) (cellsP p)) := by
 obtain ⟨hbg, cur, hc⟩ := own_heap h
 refine ⟨row_kp k hbg _ _ _ _ _ _ _ _, ?_, row_put2 h hi p, row_pw hc _ _ _ _ _ _ _ _⟩
 rw [List.length_set]
 exact (row_other (Ne.symm hg) _ _ _ _ _ _ _ _).trans hb
theorem hswap_any (w0 : World) (B : Nat) (L : List PLC) (i j : Nat) (w : World) (h : HPs w0 B L w) (hi : i < L.length) (hj : j < L.length) :
  Calls Tryz.prog 318 #[.pointer (some ⟨B, 0, none⟩), .int .i64 i, .int .i64 j] w fun e w' => e = .returned (.tuple #[]) ∧ HPs w0 B (swp L i j) w' ∧ PW w w' := by
 obtain ⟨g, cap, h3, h4, hc, hx, hgB, hg1, hg2⟩ := h.open (by omega)
 have k0 : Kp w w.drew := Kp.drew w
 have ci := (hx i hi)
 have cj := (hx j hj)
 have Ri := Lib.hid ((PAt.mk (cell_up k0 ci.a) (cell_up k0 ci.b) (cell_up k0 ci.c) (cell_up k0 ci.d)).range)
 have Rj := Lib.hid ((PAt.mk (cell_up k0 cj.a) (cell_up k0 cj.b) (cell_up k0 cj.c) (cell_up k0 cj.d)).range)
 have b0 := heap_block k0 h3
 have o0 := own_kp h4 k0
 obtain ⟨kq, hb1, o1, p1⟩ := HPs.put (fr := (0, 0)) (h.1.trans k0) h.2.1 hgB b0 o0 hi (plAt L j)
 obtain ⟨W1, hW1⟩ : ∃ x, w.drew.setCells g (i * 4) (cellsP (plAt L j)) = x := ⟨_, rfl⟩
 rw [hW1] at kq hb1 o1 p1
 have hj2 : j < (L.set i (plAt L j)).length := by rw [List.length_set]; exact hj
 obtain ⟨kq2, hb2, o2, p2⟩ := HPs.put (fr := (0, 0)) kq h.2.1 hgB hb1 o1 hj2 (plAt L i)
 obtain ⟨W2, hW2⟩ : ∃ x, W1.setCells g (j * 4) (cellsP (plAt L i)) = x := ⟨_, rfl⟩
 rw [hW2] at kq2 hb2 o2 p2
 have TH0 := Lib.hid (there_own o0 hi)
 have TH1 := Lib.hid (there_own o1 hj2)
 have DN := Lib.hid (show HPs w0 B (swp L i j) W2 ∧ PW w W2 from ⟨⟨kq2, h.2.1, _, hb2, o2⟩, ((PW.kp k0).trans p1).trans p2⟩)
 rw [List.length_set] at hb1
 rw [List.length_set, List.length_set] at hb2
 have s0 : w.drew.cell? ⟨B, 0, none⟩ = some (.slice (some ⟨g, 0, none⟩) L.length cap) := by simp [World.cell?, b0]
 have s1 : W1.cell? ⟨B, 0, none⟩ = some (.slice (some ⟨g, 0, none⟩) L.length cap) := by simp [World.cell?, hb1]
 have s2 : W2.cell? ⟨B, 0, none⟩ = some (.slice (some ⟨g, 0, none⟩) L.length cap) := by simp [World.cell?, hb2]
 have S0 := Lib.hid s0
 have S1 := Lib.hid s1
 have S2 := Lib.hid s2
 have HW1 := Lib.hid hW1
 have HW2 := Lib.hid hW2
 have q : w.cell? ⟨B, 0, none⟩ = some (.slice (some ⟨g, 0, none⟩) L.length cap) := by simp [World.cell?, h3]
 have z1 : (i : Int) < (L.length : Int) := by omega
 have z2 : (0 : Int) ≤ (i : Int) := by omega
 have z3 : (j : Int) < (L.length : Int) := by omega
 have z4 : (0 : Int) ≤ (j : Int) := by omega
 clear h3 h4 hx ci cj h b0 o0 kq hb1 o1 p1 kq2 hb2 o2 p2 s0 s1 s2 hj2 k0 hW1 hW2
 generalize plAt L i = pi at *
 generalize plAt L j = pj at *
 generalize swp L i j = L2 at *
 obtain ⟨ia, il, ih, ie⟩ := pi
 obtain ⟨ja, jl, jh, je⟩ := pj
 simp only [cellsP] at Ri Rj HW1 HW2
 go_enter Tryz.func318, Tryz.ntmps318
 go_wp2_with fail
 refine wp_region_held_drew (S := fun w' => w'.cell? ⟨B, 0, none⟩ = some (.slice (some ⟨g, 0, none⟩) L.length cap)) (by kernel_rfl) ?_ (fun hHeld0 => ?_)
 ·(try dsimp only); first | with_reducible exact S0.out | with_reducible exact S1.out | with_reducible exact S2.out
 refine tkv 0 sW0 ?_
 (try simp only [Act.put, sW0, List.setIfInBounds_toArray, List.set_cons_zero, List.set_cons_succ])
 refine tkv 1 sW1 ?_
 (try simp only [Act.put, sW1, List.setIfInBounds_toArray, List.set_cons_zero, List.set_cons_succ])
 refine tkv 2 sW2 ?_
 (try simp only [Act.put, sW2, List.setIfInBounds_toArray, List.set_cons_zero, List.set_cons_succ])
 refine tkv 3 sW3 ?_
 (try simp only [Act.put, sW3, List.setIfInBounds_toArray, List.set_cons_zero, List.set_cons_succ])
 refine tkv 4 sW4 ?_
 (try simp only [Act.put, sW4, List.setIfInBounds_toArray, List.set_cons_zero, List.set_cons_succ])
 refine tkv 5 sW5 ?_
 (try simp only [Act.put, sW5, List.setIfInBounds_toArray, List.set_cons_zero, List.set_cons_succ])
 refine tkv 6 sW6 ?_
 (try simp only [Act.put, sW6, List.setIfInBounds_toArray, List.set_cons_zero, List.set_cons_succ])
 refine tkv 7 sW7 ?_
 (try simp only [Act.put, sW7, List.setIfInBounds_toArray, List.set_cons_zero, List.set_cons_succ])
 refine tkv 8 sW8 ?_
 (try simp only [Act.put, sW8, List.setIfInBounds_toArray, List.set_cons_zero, List.set_cons_succ])
 refine tkv 9 sW9 ?_
 (try simp only [Act.put, sW9, List.setIfInBounds_toArray, List.set_cons_zero, List.set_cons_succ])
 refine tkv 10 sW10 ?_
 (try simp only [Act.put, sW10, List.setIfInBounds_toArray, List.set_cons_zero, List.set_cons_succ])
 refine tkv 11 sW11 ?_
 (try simp only [Act.put, sW11, List.setIfInBounds_toArray, List.set_cons_zero, List.set_cons_succ])
 refine tkv 12 sW12 ?_
 (try simp only [Act.put, sW12, List.setIfInBounds_toArray, List.set_cons_zero, List.set_cons_succ])
 refine tkv 13 sW13 ?_
 (try simp only [Act.put, sW13, List.setIfInBounds_toArray, List.set_cons_zero, List.set_cons_succ])
 refine tkv 14 sW14 ?_
 (try simp only [Act.put, sW14, List.setIfInBounds_toArray, List.set_cons_zero, List.set_cons_succ])
 refine tkv 15 sW15 ?_
 (try simp only [Act.put, sW15, List.setIfInBounds_toArray, List.set_cons_zero, List.set_cons_succ])
 refine tkv 17 sW17 ?_
 (try simp only [Act.put, sW17, List.setIfInBounds_toArray, List.set_cons_zero, List.set_cons_succ])
 refine tkv 18 sW18 ?_
 (try simp only [Act.put, sW18, List.setIfInBounds_toArray, List.set_cons_zero, List.set_cons_succ])
 refine tkv 19 sW19 ?_
 (try simp only [Act.put, sW19, List.setIfInBounds_toArray, List.set_cons_zero, List.set_cons_succ])
 refine tkv 20 sW20 ?_
 (try simp only [Act.put, sW20, List.setIfInBounds_toArray, List.set_cons_zero, List.set_cons_succ])
 refine tkv 21 sW21 ?_
 (try simp only [Act.put, sW21, List.setIfInBounds_toArray, List.set_cons_zero, List.set_cons_succ])
 refine tkv 22 sW22 ?_
 (try simp only [Act.put, sW22, List.setIfInBounds_toArray, List.set_cons_zero, List.set_cons_succ])
 refine tkE2 16 23 sW16 sW23 rfl rfl (by kernel_rfl) (fun K hK => ?_) (fun K hK => ?_)
 ·(refine step_loadm rfl 132 (.tmp 21) rfl g (j * 4) (by simp [Act.eval, Act.put]) [.int .i64 ja, .int .i64 jl, .int .i64 jh, .bool je] _ Rj.out Tryz.underlying132 rfl (by kernel_rfl) ?_)
  (try go_wp2_with fail)
  refine hK.out _ _ ?_ (fun hHeld1 => ?_)
  ·(try dsimp only); first | with_reducible exact S0.out | with_reducible exact S1.out | with_reducible exact S2.out
  clear hK K hHeld0
  (try simp only [Act.put, sW16, List.setIfInBounds_toArray, List.set_cons_zero, List.set_cons_succ])
  refine tkE 23 sW23 rfl (by kernel_rfl) (fun K hK => ?_)
  (refine step_loadm rfl 132 (.tmp 28) rfl g (i * 4) (by simp [Act.eval, Act.put]) [.int .i64 ia, .int .i64 il, .int .i64 ih, .bool ie] _ Ri.out Tryz.underlying132 rfl (by kernel_rfl) ?_)
  (try go_wp2_with fail)
  refine hK.out _ _ ?_ (fun hHeld2 => ?_)
  ·(try dsimp only); first | with_reducible exact S0.out | with_reducible exact S1.out | with_reducible exact S2.out
  clear hK K hHeld1
  (try simp only [Act.put, sW23, List.setIfInBounds_toArray, List.set_cons_zero, List.set_cons_succ])
  refine tkv 24 sW24 ?_
  (try simp only [Act.put, sW24, List.setIfInBounds_toArray, List.set_cons_zero, List.set_cons_succ])
  refine tkE 25 sW25 rfl (by kernel_rfl) (fun K hK => ?_)
  (refine step_storem rfl 132 (.tmp 30) (.tmp 22) rfl g (i * 4) [.int .i64 ja, .int .i64 jl, .int .i64 jh, .bool je] (by simp [Act.eval, Act.put]) (by simp [Act.eval, Act.put]) TH0.out (by kernel_rfl) (all_oneCell_toArray (by intro v hv; simp only [List.mem_cons, List.not_mem_nil, or_false] at hv; rcases hv with rfl | rfl | rfl | rfl <;> rfl)) HW1.out ?_)
  (try go_wp2_with fail)
  refine hK.out _ _ ?_ (fun hHeld3 => ?_)
  ·(try dsimp only); first | with_reducible exact S0.out | with_reducible exact S1.out | with_reducible exact S2.out
  clear hK K hHeld2
  (try simp only [Act.put, sW25, List.setIfInBounds_toArray, List.set_cons_zero, List.set_cons_succ])
  refine tkv 26 sW26 ?_
  (try simp only [Act.put, sW26, List.setIfInBounds_toArray, List.set_cons_zero, List.set_cons_succ])
  refine tkE 27 sW27 rfl (by kernel_rfl) (fun K hK => ?_)
  (refine step_storem rfl 132 (.tmp 31) (.tmp 29) rfl g (j * 4) [.int .i64 ia, .int .i64 il, .int .i64 ih, .bool ie] (by simp [Act.eval, Act.put]) (by simp [Act.eval, Act.put]) TH1.out (by kernel_rfl) (all_oneCell_toArray (by intro v hv; simp only [List.mem_cons, List.not_mem_nil, or_false] at hv; rcases hv with rfl | rfl | rfl | rfl <;> rfl)) HW2.out ?_)
  (try go_wp2_with fail)
  refine hK.out _ _ ?_ (fun hHeld4 => ?_)
  ·(try dsimp only); first | with_reducible exact S0.out | with_reducible exact S1.out | with_reducible exact S2.out
  clear hK K hHeld3
  (try simp only [Act.put, sW27, List.setIfInBounds_toArray, List.set_cons_zero, List.set_cons_succ])
  refine wpAnyH_done (by kernel_rfl) ?_ _
  go_wp2
  go_end0
  exact ⟨rfl, DN.out⟩
 ·(refine step_loadm rfl 132 (.tmp 28) rfl g (i * 4) (by simp [Act.eval, Act.put]) [.int .i64 ia, .int .i64 il, .int .i64 ih, .bool ie] _ Ri.out Tryz.underlying132 rfl (by kernel_rfl) ?_)
  (try go_wp2_with fail)
  refine hK.out _ _ ?_ (fun hHeld1 => ?_)
  ·(try dsimp only); first | with_reducible exact S0.out | with_reducible exact S1.out | with_reducible exact S2.out
  clear hK K hHeld0
  (try simp only [Act.put, sW23, List.setIfInBounds_toArray, List.set_cons_zero, List.set_cons_succ])
  refine tkE 16 sW16 rfl (by kernel_rfl) (fun K hK => ?_)
  (refine step_loadm rfl 132 (.tmp 21) rfl g (j * 4) (by simp [Act.eval, Act.put]) [.int .i64 ja, .int .i64 jl, .int .i64 jh, .bool je] _ Rj.out Tryz.underlying132 rfl (by kernel_rfl) ?_)
  (try go_wp2_with fail)
  refine hK.out _ _ ?_ (fun hHeld2 => ?_)
  ·(try dsimp only); first | with_reducible exact S0.out | with_reducible exact S1.out | with_reducible exact S2.out
  clear hK K hHeld1
  (try simp only [Act.put, sW16, List.setIfInBounds_toArray, List.set_cons_zero, List.set_cons_succ])
  refine tkv 24 sW24 ?_
  (try simp only [Act.put, sW24, List.setIfInBounds_toArray, List.set_cons_zero, List.set_cons_succ])
  refine tkE 25 sW25 rfl (by kernel_rfl) (fun K hK => ?_)
  (refine step_storem rfl 132 (.tmp 30) (.tmp 22) rfl g (i * 4) [.int .i64 ja, .int .i64 jl, .int .i64 jh, .bool je] (by simp [Act.eval, Act.put]) (by simp [Act.eval, Act.put]) TH0.out (by kernel_rfl) (all_oneCell_toArray (by intro v hv; simp only [List.mem_cons, List.not_mem_nil, or_false] at hv; rcases hv with rfl | rfl | rfl | rfl <;> rfl)) HW1.out ?_)
  (try go_wp2_with fail)
  refine hK.out _ _ ?_ (fun hHeld3 => ?_)
  ·(try dsimp only); first | with_reducible exact S0.out | with_reducible exact S1.out | with_reducible exact S2.out
  clear hK K hHeld2
  (try simp only [Act.put, sW25, List.setIfInBounds_toArray, List.set_cons_zero, List.set_cons_succ])
  refine tkv 26 sW26 ?_
  (try simp only [Act.put, sW26, List.setIfInBounds_toArray, List.set_cons_zero, List.set_cons_succ])
  refine tkE 27 sW27 rfl (by kernel_rfl) (fun K hK => ?_)
  (refine step_storem rfl 132 (.tmp 31) (.tmp 29) rfl g (j * 4) [.int .i64 ia, .int .i64 il, .int .i64 ih, .bool ie] (by simp [Act.eval, Act.put]) (by simp [Act.eval, Act.put]) TH1.out (by kernel_rfl) (all_oneCell_toArray (by intro v hv; simp only [List.mem_cons, List.not_mem_nil, or_false] at hv; rcases hv with rfl | rfl | rfl | rfl <;> rfl)) HW2.out ?_)
  (try go_wp2_with fail)
  refine hK.out _ _ ?_ (fun hHeld4 => ?_)
  ·(try dsimp only); first | with_reducible exact S0.out | with_reducible exact S1.out | with_reducible exact S2.out
  clear hK K hHeld3
  (try simp only [Act.put, sW27, List.setIfInBounds_toArray, List.set_cons_zero, List.set_cons_succ])
  refine wpAnyH_done (by kernel_rfl) ?_ _
  go_wp2
  go_end0
  exact ⟨rfl, DN.out⟩
def bothB (l m : List LF) : Bool := anyB l && anyB m
def erE (b : Bool) : Int := if b = true then 0 else 9
noncomputable def cerO (l m : List LF) : Bool := bothB l m && decide ((envF dGE max l).1 < (envF dLS min m).1)
noncomputable def posO (l m : List LF) : Bool := bothB l m && decide ((envF dLE min l).1 < (envF dGS max m).1)
theorem env_er (d : Fam → Int) (pk : Int → Int → Int) (l : List LF) (h : pk = min ∨ pk = max) : (envF d pk l).2 = erE (anyB l) := by
 unfold erE
 rcases Bool.eq_false_or_eq_true (anyB l) with a | a
 ·rw [if_pos a]
  rcases h with rfl | rfl
  ·exact (env_min d l a).1
  ·exact (env_max d l a).1
 ·rw [if_neg (by rw [a]; decide), env_nil _ _ _ a]
noncomputable def keyA (l : List LF) : Int := if anyB l = true then (envF dLS min l).1 else 0
noncomputable def keyB (l : List LF) : Int := if anyB l = true then (envF dGE max l).1 else 0
theorem bothB_iff (l m : List LF) : bothB l m = true ↔ anyB l = true ∧ anyB m = true := by unfold bothB; rw [Bool.and_eq_true]
theorem cerO_iff (l m : List LF) : cerO l m = true ↔ (anyB l = true ∧ anyB m = true) ∧ (envF dGE max l).1 < (envF dLS min m).1 := by
 unfold cerO; rw [Bool.and_eq_true, bothB_iff, decide_eq_true_eq]
theorem posO_iff (l m : List LF) : posO l m = true ↔ (anyB l = true ∧ anyB m = true) ∧ (envF dLE min l).1 < (envF dGS max m).1 := by
 unfold posO; rw [Bool.and_eq_true, bothB_iff, decide_eq_true_eq]
def lls (LL : List (List LF)) (i : Nat) : List LF := LL.getD i []
theorem lls_mem {LL : List (List LF)} {k : Nat} (h : k < LL.length) : lls LL k ∈ LL := by
 unfold lls
 rw [List.getD_eq_getElem?_getD, List.getElem?_eq_getElem h]
 exact List.getElem_mem h
noncomputable def plc (LL : List (List LF)) (i : Nat) : PLC := ⟨i, keyA (lls LL i), keyB (lls LL i), !anyB (lls LL i)⟩
noncomputable def plcs (LL : List (List LF)) (n : Nat) : List PLC := (List.range n).map (plc LL)
theorem plcs_succ (LL : List (List LF)) (n : Nat) : plcs LL (n + 1) = plcs LL n ++ [plc LL n] := by unfold plcs; rw [List.range_succ]; simp
theorem plcs_length (LL : List (List LF)) (n : Nat) : (plcs LL n).length = n := by unfold plcs; simp
theorem plcs_mem {LL : List (List LF)} {n : Nat} {a : PLC} (h : a ∈ plcs LL n) : ∃ i, i < n ∧ a = plc LL i := by
 unfold plcs at h
 obtain ⟨i, hi, rfl⟩ := List.mem_map.1 h
 exact ⟨i, List.mem_range.1 hi, rfl⟩
theorem plc_at (LL : List (List LF)) (i : Nat) : (plc LL i).at_ = i := rfl
theorem plcs_once {LL : List (List LF)} {n : Nat} {a b : PLC} (ha : a ∈ plcs LL n) (hb : b ∈ plcs LL n) (e : a.at_ = b.at_) : a = b := by
 obtain ⟨i, _, rfl⟩ := plcs_mem ha
 obtain ⟨j, _, rfl⟩ := plcs_mem hb
 rw [plc_at, plc_at] at e
 obtain rfl : i = j := by omega
 rfl
def Srt1 (LL : List (List LF)) (n : Nat) (o : List Int) : Prop := ∃ S : List PLC, S.Perm (plcs LL n) ∧ S.Pairwise leP ∧ o = S.map PLC.at_
def Srt (LL : List (List LF)) (o : List Int) : Prop := Srt1 LL LL.length o
theorem Srt1.once {LL : List (List LF)} {n : Nat} {o o' : List Int} (h : Srt1 LL n o) (g : Srt1 LL n o') : o = o' := by
 obtain ⟨S, a, b, rfl⟩ := h
 obtain ⟨S', a', b', rfl⟩ := g
 rw [sorted_once b b' (a.trans a'.symm) (fun x y hx hy e => plcs_once (a'.mem_iff.1 hx) (a'.mem_iff.1 hy) e)]
structure Away (LL : List (List LF)) (O L : List PLC) : Prop where
 p : (O ++ L).Perm (plcs LL LL.length)
 s : O.Pairwise leP
 b : ∀ a ∈ O, ∀ c ∈ L, leP a c
theorem Away.first {LL : List (List LF)} {L : List PLC} (h : L.Perm (plcs LL LL.length)) : Away LL [] L := ⟨by simpa using h, List.Pairwise.nil, fun a ha => by cases ha⟩
theorem Away.next {LL : List (List LF)} {O L M : List PLC} (h : Away LL O L) (h0 : 0 < L.length) (hp : hpF L 0 L.length) (g : (M ++ [plAt L 0]).Perm L) : Away LL (O ++ [plAt L 0]) M := by
 have hm : plAt L 0 ∈ L := by rw [plAt_eq h0]; exact List.getElem_mem h0
 have hr : ∀ c ∈ L, leP (plAt L 0) c := fun c hc => by
  obtain ⟨i, hi, rfl⟩ := List.mem_iff_getElem.1 hc
  have := hp_root hp i hi
  rwa [plAt_eq hi] at this
 have hs : ∀ c ∈ M, c ∈ L := fun c hc => g.mem_iff.1 (List.mem_append_left _ hc)
 refine ⟨?_, ?_, fun a ha c hc => ?_⟩
 ·refine List.Perm.trans ?_ h.p
  rw [List.append_assoc]
  exact List.Perm.append_left _ (List.perm_append_comm.trans g)
 ·rw [List.pairwise_append]
  exact ⟨h.s, List.pairwise_singleton _ _, fun a ha c hc => by rw [List.mem_singleton.1 hc]; exact h.b a ha _ hm⟩
 ·rcases List.mem_append.1 ha with ha | ha
  ·exact h.b a ha c (hs c hc)
  ·rw [List.mem_singleton.1 ha]; exact hr c (hs c hc)
theorem Away.done {LL : List (List LF)} {O : List PLC} (h : Away LL O []) : Srt LL (O.map PLC.at_) := ⟨O, by simpa using h.p, h.s, rfl⟩
open Go.RowKit Go.ChangeShapes Go.WideShapes Go.Deep
def LvsAt (w : World) (v : Value) (LL : List (List LF)) : Prop :=
 (∃ ad c, v = .slice ad 0 c ∧ LL = []) ∨
 ∃ b off cap, v = .slice (some ⟨b, off, none⟩) LL.length cap ∧ LL.length ≤ cap ∧ cap ≤ maxLen ∧ ∀ i, i < LL.length → ∃ u, w.cell? ⟨b, off + i, none⟩ = some u ∧ LeavesAt w u (lls LL i)
theorem LvsAt.slice {w : World} {v : Value} {l : List (List LF)} (h : LvsAt w v l) : ∃ ad c, v = .slice ad l.length c := by
 rcases h with ⟨ad, c, rfl, rfl⟩ | ⟨b, off, cap, rfl, _⟩
 ·exact ⟨ad, c, rfl⟩
 ·exact ⟨_, cap, rfl⟩
theorem LvsAt.kp {w w' : World} {v : Value} {l : List (List LF)} (h : LvsAt w v l) (k : Kp w w') : LvsAt w' v l := by
 rcases h with h | ⟨b, off, cap, e, hc, hm, hx⟩
 ·exact .inl h
 ·refine .inr ⟨b, off, cap, e, hc, hm, fun i hi => ?_⟩
  obtain ⟨u, c, r⟩ := hx i hi
  exact ⟨u, cell_up k c, r.kp k⟩
section
variable {H : Type} {enc : TypeId × Value → H} {W : World} {v : Value} {d : DataW H} {p : List MemPlace} {base : Nat}
end
end Go.Proofs.YtjdnejglapnbbaaGreatDoor
