/-
  Joined: L12P, L12C, LCanonParts.
-/
import Derived.Test.YtgmigeehfhkimaaDoorGCnB
import Derived.LoopTactic
import Derived.Test.YtgmigeehfhkimaaDoorGPrA
import Derived.Test.YtgmigeehfhkimaaDoorCards
import Derived.Test.YtgmigeehfhkimaaDoorTie
import Derived.WalkKit
import Derived.ProofKit
import Derived.OpenShut
import Derived.ShutString
import Derived.ChangeOld
import Derived.Below
import Derived.Test.YtgmigeehfhkimaaDoorGTrB
import Derived.Deep.DeepHandedRow
import Derived.Lib.LaidTab
import Derived.Carry
namespace Go.Proofs.YtgmigeehfhkimaaDoor
open Go.RowKit Go.Shelf
set_option linter.unusedVariables false
set_option linter.unusedSimpArgs false
set_option maxHeartbeats 16000000 in
set_option maxRecDepth 100000 in
theorem cparts_any (W w : World) (base : Nat) (c : ND) (v : Value) (h : CanAt W w base c v) (kW : Kp W w) : Calls Tryd.prog 20 #[ndV c v] w fun e w' => ∃ (v' : Value) (ms : List NV), e = .returned v' ∧ ms.map Prod.fst = partsN c ∧ ReadsN W ms ∧ SrcAt w' v' ms.length (cellsN ms) ∧ (∃ ad cp, v' = .slice ad ms.length cp) ∧ NodesAt w' v' (partsN c) ∧ Kp w w' := by
  have NA := h.nodes kW
  obtain ⟨ad, n, cp, hv⟩ : ∃ ad n cp, v = .slice ad n cp := by obtain ⟨a, b, e⟩ := NA.slice; exact ⟨a, _, b, e⟩
  subst hv
  obtain ⟨k, pk, y, m, s, a, t, l, rfl⟩ := nd_dest c
  by_cases hk : k = 2
  · subst hk
    obtain ⟨ms, h1, h2, h3⟩ := h.2 rfl
    have P2 : partsN (.mk 2 ⟨pk, y, m, s⟩ a t l) = l := if_pos rfl
    rw [P2]
    obtain ⟨ad', cp', hv⟩ := own_slice8 h3
    cases hv
    have FIN := Lib.hid (fun w' (kk : Kp w w') => show ∃ (ms' : List NV), ms'.map Prod.fst = l ∧ ReadsN W ms' ∧ SrcAt w' (.slice ad ms.length cp) ms'.length (cellsN ms') ∧ (∃ ad' cp', Value.slice ad ms.length cp = .slice ad' ms'.length cp') ∧ NodesAt w' (.slice ad ms.length cp) l from ⟨ms, h1, h2, own_srcN (own_kp h3 kk), ⟨_, _, rfl⟩, NA.kp kk⟩)
    unfold ndV
    simp only [ND.k, ND.p, ND.a, ND.t]
    clear NA h h1 h2 h3 P2
    go_enter Tryd.func20, Tryd.ntmps20
    go_wp2
    go_ret
    obtain ⟨ms', g1, g2, g3, g4, g5⟩ := FIN.out _ (Kp.alloc _ _)
    exact ⟨_, ms', rfl, g1, g2, g3, g4, g5, Kp.alloc _ _⟩
  · have P2 : partsN (.mk k ⟨pk, y, m, s⟩ a t l) = [.mk k ⟨pk, y, m, s⟩ a t l] := if_neg hk
    rw [P2]
    have q1 : (k == 2) = false := beq_eq_false_iff_ne.2 hk
    have HV := Lib.hid (h.1 hk)
    have HN := Lib.hid NA
    have HKW := Lib.hid kW
    unfold ndV
    simp only [ND.k, ND.p, ND.a, ND.t]
    obtain ⟨V, hV⟩ : ∃ x, x = w.alloc (.cells #[.int .i64 k, .int .i64 pk, .string y, .string m, .string s, .bool a, .bool t, .slice ad n cp] 26) := ⟨_, rfl⟩
    have kv : Kp w V := by rw [hV]; exact Kp.alloc _ _
    have gV : V.heap[w.heap.size]? = some (.cells #[.int .i64 k, .int .i64 pk, .string y, .string m, .string s, .bool a, .bool t, .slice ad n cp] 26 (0, 0)) := by rw [hV]; exact heap_at _ _ _ rfl
    have zV : V.heap.size = w.heap.size + 1 := by rw [hV]; simp
    have KV := Lib.hid kv
    have HVV := Lib.hid hV
    have SRC := Lib.hid (one_srcN (w := V) zV (.mk k ⟨pk, y, m, s⟩ a t l) (.slice ad n cp) 26)
    have NX := Lib.hid (show NodesAt (V.alloc (.cells #[.int .i64 k, .int .i64 pk, .string y, .string m, .string s, .bool a, .bool t, .slice ad n cp] 26)) (.slice (some ⟨w.heap.size + 1, 0, none⟩) 1 1) [.mk k ⟨pk, y, m, s⟩ a t l] by rw [← zV]; exact one_atN V (.mk k ⟨pk, y, m, s⟩ a t l) (.slice ad n cp) (NA.kp kv))
    obtain ⟨x0, x1, x2, x3, x4, x5, x6, x7⟩ := row8 gV
    clear NA h P2 hk hV kv gV kW
    go_enter Tryd.func20, Tryd.ntmps20
    go_wp2
    rw [← HVV.out]
    go_ret
    exact ⟨_, [(.mk k ⟨pk, y, m, s⟩ a t l, .slice ad n cp)], rfl, rfl, (fun p hp => by rw [List.mem_singleton.1 hp]; exact HV.out), SRC.out, ⟨_, _, rfl⟩, NX.out, KV.out.trans (Kp.alloc _ _)⟩
abbrev wiA0 : Oper := { dst := some 20, op := Go.Op.move (Go.Operand.tmp 6), type := 4, pos := "law.go:104", after := #[], guard := none }
abbrev wiA1 : Oper := { dst := some 21, op := Go.Op.move (Go.Operand.tmp 20), type := 4, pos := "law.go:104", after := #[{ on := 0, ground := Go.Ground.data }], guard := none }
abbrev wiA2 : Oper := { dst := some 22, op := Go.Op.move (Go.Operand.tmp 0), type := 24, pos := "law.go:104", after := #[{ on := 1, ground := Go.Ground.guard }], guard := some (1, false) }
abbrev wiA3 : Oper := { dst := some 23, op := Go.Op.move (Go.Operand.tmp 5), type := 3, pos := "law.go:104", after := #[{ on := 1, ground := Go.Ground.guard }], guard := some (1, false) }
abbrev wiA4 : Oper := { dst := some 24, op := Go.Op.indexAddr 24 (Go.Operand.tmp 22) (Go.Operand.tmp 23), type := 0, pos := "law.go:104", after := #[{ on := 2, ground := Go.Ground.data }, { on := 3, ground := Go.Ground.data }, { on := 1, ground := Go.Ground.guard }], guard := some (1, false) }
abbrev wiA5 : Oper := { dst := some 25, op := Go.Op.load 26 (Go.Operand.tmp 24), type := 26, pos := "law.go:104", after := #[{ on := 4, ground := Go.Ground.data }, { on := 1, ground := Go.Ground.guard }], guard := some (1, false) }
abbrev wiA6 : Oper := { dst := some 26, op := Go.Op.move (Go.Operand.tmp 1), type := 24, pos := "law.go:104", after := #[{ on := 1, ground := Go.Ground.guard }], guard := some (1, false) }
abbrev wiA7 : Oper := { dst := some 27, op := Go.Op.move (Go.Operand.tmp 7), type := 3, pos := "law.go:104", after := #[{ on := 1, ground := Go.Ground.guard }], guard := some (1, false) }
abbrev wiA8 : Oper := { dst := some 28, op := Go.Op.indexAddr 24 (Go.Operand.tmp 26) (Go.Operand.tmp 27), type := 0, pos := "law.go:104", after := #[{ on := 6, ground := Go.Ground.data }, { on := 7, ground := Go.Ground.data }, { on := 1, ground := Go.Ground.guard }], guard := some (1, false) }
abbrev wiA9 : Oper := { dst := some 29, op := Go.Op.load 26 (Go.Operand.tmp 28), type := 26, pos := "law.go:104", after := #[{ on := 8, ground := Go.Ground.data }, { on := 1, ground := Go.Ground.guard }], guard := some (1, false) }
abbrev wiA10 : Oper := { dst := some 30, op := Go.Op.call { callee := Go.Callee.value (Go.Operand.func 10), args := #[Go.Operand.tmp 25, Go.Operand.tmp 29], argTypes := #[26, 26] }, type := 4, pos := "law.go:104", after := #[{ on := 5, ground := Go.Ground.data }, { on := 9, ground := Go.Ground.data }, { on := 1, ground := Go.Ground.chain }, { on := 1, ground := Go.Ground.guard }], guard := some (1, false) }
abbrev wiA11 : Oper := { dst := some 31, op := Go.Op.pick (Go.Operand.tmp 21) (Go.Operand.const (Go.Value.bool true)) (Go.Operand.tmp 30), type := 4, pos := "law.go:104", after := #[{ on := 1, ground := Go.Ground.data }, { on := 10, ground := Go.Ground.data }], guard := none }
abbrev wiA12 : Oper := { dst := some 6, op := Go.Op.assign (Go.Operand.tmp 31), type := 4, pos := "law.go:104", after := #[{ on := 11, ground := Go.Ground.data }, { on := 10, ground := Go.Ground.chain }, { on := 0, ground := Go.Ground.phase }, { on := 1, ground := Go.Ground.phase }, { on := 2, ground := Go.Ground.phase }, { on := 3, ground := Go.Ground.phase }, { on := 4, ground := Go.Ground.phase }, { on := 5, ground := Go.Ground.phase }, { on := 6, ground := Go.Ground.phase }, { on := 7, ground := Go.Ground.phase }, { on := 8, ground := Go.Ground.phase }, { on := 9, ground := Go.Ground.phase }, { on := 10, ground := Go.Ground.phase }, { on := 11, ground := Go.Ground.phase }], guard := none }
set_option maxHeartbeats 16000000 in
set_option maxRecDepth 100000 in
theorem cwithin_any (va vb : Value) (A B : List ND) (w : World) (ha : NodesAt w va A) (hb : NodesAt w vb B) (hca : ∀ x ∈ A, cntN x ≤ 1000) (hla : A.length ≤ 100000) (hlb : B.length ≤ 100000) :
    Calls Tryd.prog 21 #[va, vb] w fun e w' => e = .returned (.bool (withN A B)) ∧ Kp w w' := by
  have LA := Lib.hid hla
  have LB := Lib.hid hlb
  have WT := Lib.hid (fun (h : ∀ i, i < A.length → inN (nth A i) B = true) => (withN_iff A B).2 fun x hx => by
    obtain ⟨i, hi, e⟩ := List.mem_iff_getElem.1 hx
    have := h i hi
    rw [inN_iff] at this
    have e2 : nth A i = x := by unfold nth; rw [List.getD_eq_getElem?_getD, List.getElem?_eq_getElem hi, e]; rfl
    rwa [e2] at this)
  have WF := Lib.hid (fun i (hi : i < A.length) (h : inN (nth A i) B = false) => show withN A B = false from by
    rw [Bool.eq_false_iff]
    intro c
    rw [(inN_iff _ _).2 ((withN_iff A B).1 c _ (nth_mem hi))] at h
    cases h)
  have SM := Lib.hid (fun x z v u w1 (hv : NodesAt w1 v x.l) (hu : NodesAt w1 u z.l) (hc : cntN x ≤ 1000) => tSame_any x z v u w1 hv hu hc)
  have HC := Lib.hid (fun i (hi : i < A.length) => hca _ (nth_mem hi))
  have TK := Lib.hid (fun x j (hj : j < B.length) => show (B.take (j + 1)).any (fun y => sameN x y) = ((B.take j).any (fun y => sameN x y) || sameN x (nth B j)) from by
    rw [nth_take hj, List.any_append, List.any_cons, List.any_nil, Bool.or_false])
  have TL := Lib.hid (fun x => show (B.take B.length).any (fun y => sameN x y) = inN x B from by rw [List.take_length]; rfl)
  obtain ⟨r, hr⟩ : ∃ r, withN A B = r := ⟨_, rfl⟩
  rw [hr] at WT WF ⊢
  have HA := Lib.hid ha
  have HB := Lib.hid hb
  have K0 := Lib.hid (Kp.refl w)
  obtain ⟨ada, ca, rfl⟩ := ha.slice
  obtain ⟨adb, cb, rfl⟩ := hb.slice
  clear ha hb hr hca
  go_enter Tryd.func21, Tryd.ntmps21
  go_wp2
  go_loopw [5, 6, 7] (fun x p q ws => ∃ i : Nat, i ≤ A.length ∧ x = .int .i64 i ∧ Hid (∀ i', i' < i → inN (nth A i') B = true) ∧ Hid (Kp w ws)) (fun x _ _ _ => A.length - (intOf x).toNat)
  case atStart => exact ⟨0, Nat.zero_le _, rfl, Lib.hid (fun i' h => by omega), K0⟩
  case round =>
    obtain ⟨i, hi, rfl, AI, KI⟩ := hrel
    by_cases hlt : i < A.length
    · have z1 : (i : Int) < (A.length : Int) := by omega
      have z3 : (0 : Int) ≤ (i : Int) := by omega
      have HLT := Lib.hid hlt
      clear hlt
      go_wp2
      go_loopw [6, 7] (fun p q ws => ∃ (j : Nat) (b : Bool), j ≤ B.length ∧ q = .int .i64 j ∧ p = .bool b ∧ Hid (b = (B.take j).any (fun y => sameN (nth A i) y)) ∧ Hid (Kp w ws)) (fun _ q _ => B.length - (intOf q).toNat)
      case atStart => exact ⟨0, false, Nat.zero_le _, rfl, rfl, Lib.hid (by rw [List.take_zero]; rfl), KI⟩
      case round =>
        obtain ⟨j, b, hj, rfl, rfl, BJ, KJ⟩ := hrel
        by_cases hlt : j < B.length
        · have tk := TK.out (nth A i) j hlt
          rw [← BJ.out] at tk
          have TKH := Lib.hid tk
          have z2 : (j : Int) < (B.length : Int) := by omega
          have z4 : (0 : Int) ≤ (j : Int) := by omega
          have HLJ := Lib.hid hlt
          obtain ⟨ba, oa, va, eva, hra, na⟩ := (HA.out.kp KJ.out).get HLT.out
          obtain ⟨bb, ob, vb, evb, hrb, nb⟩ := (HB.out.kp KJ.out).get hlt
          subst eva
          subst evb
          have SMx := Lib.hid (fun w1 (kk : Kp wr w1) => SM.out (nth A i) (nth B j) va vb w1 (na.kp kk) (nb.kp kk) (HC.out i HLT.out))
          obtain ⟨sv, hsv⟩ : ∃ u, sameN (nth A i) (nth B j) = u := ⟨_, rfl⟩
          rw [hsv] at SMx TKH
          obtain ⟨x, hx⟩ : ∃ x, nth A i = x := ⟨_, rfl⟩
          obtain ⟨z, hz⟩ : ∃ x, nth B j = x := ⟨_, rfl⟩
          rw [hx] at SMx hra na
          rw [hz] at SMx hrb nb
          clear hsv tk hlt hx hz BJ
          obtain ⟨k1, pk1, y1, m1, s1, a1, t1, l1, rfl⟩ := nd_dest x
          obtain ⟨k2, pk2, y2, m2, s2, a2, t2, l2, rfl⟩ := nd_dest z
          obtain ⟨ad1, cp1, rfl⟩ := na.slice
          obtain ⟨ad2, cp2, rfl⟩ := nb.slice
          unfold RowN at hra hrb
          unfold ndV at SMx
          simp only [ND.k, ND.p, ND.a, ND.t, ND.l] at hra hrb SMx
          obtain ⟨n1, hn1⟩ : ∃ n, l1.length = n := ⟨_, rfl⟩
          obtain ⟨n2, hn2⟩ : ∃ n, l2.length = n := ⟨_, rfl⟩
          rw [hn1] at hra SMx
          rw [hn2] at hrb SMx
          obtain ⟨e0, e1, e2, e3, e4, e5, e6, e7⟩ := hra
          obtain ⟨f0, f1, f2, f3, f4, f5, f6, f7⟩ := hrb
          clear hn1 hn2 na nb
          cases b with
          | true =>
            have KS := Lib.hid (fun w' (kq : Kp wr w') => show w'.cell? ⟨ba, oa + i * 8, none⟩ = some (.int .i64 k1) ∧ w'.cell? ⟨ba, oa + i * 8 + 1, none⟩ = some (.int .i64 pk1) ∧ w'.cell? ⟨ba, oa + i * 8 + 2, none⟩ = some (.string y1) ∧ w'.cell? ⟨ba, oa + i * 8 + 3, none⟩ = some (.string m1) ∧ w'.cell? ⟨ba, oa + i * 8 + 4, none⟩ = some (.string s1) ∧ w'.cell? ⟨ba, oa + i * 8 + 5, none⟩ = some (.bool a1) ∧ w'.cell? ⟨ba, oa + i * 8 + 6, none⟩ = some (.bool t1) ∧ w'.cell? ⟨ba, oa + i * 8 + 7, none⟩ = some (.slice ad1 n1 cp1) ∧ w'.cell? ⟨bb, ob + j * 8, none⟩ = some (.int .i64 k2) ∧ w'.cell? ⟨bb, ob + j * 8 + 1, none⟩ = some (.int .i64 pk2) ∧ w'.cell? ⟨bb, ob + j * 8 + 2, none⟩ = some (.string y2) ∧ w'.cell? ⟨bb, ob + j * 8 + 3, none⟩ = some (.string m2) ∧ w'.cell? ⟨bb, ob + j * 8 + 4, none⟩ = some (.string s2) ∧ w'.cell? ⟨bb, ob + j * 8 + 5, none⟩ = some (.bool a2) ∧ w'.cell? ⟨bb, ob + j * 8 + 6, none⟩ = some (.bool t2) ∧ w'.cell? ⟨bb, ob + j * 8 + 7, none⟩ = some (.slice ad2 n2 cp2) ∧ Kp wr w' from ⟨cell_up kq e0, cell_up kq e1, cell_up kq e2, cell_up kq e3, cell_up kq e4, cell_up kq e5, cell_up kq e6, cell_up kq e7, cell_up kq f0, cell_up kq f1, cell_up kq f2, cell_up kq f3, cell_up kq f4, cell_up kq f5, cell_up kq f6, cell_up kq f7, kq⟩)
            go_wp2_with fail
            refine wp_region_held_drew (S := fun w' => w'.cell? ⟨ba, oa + i * 8, none⟩ = some (.int .i64 k1) ∧ w'.cell? ⟨ba, oa + i * 8 + 1, none⟩ = some (.int .i64 pk1) ∧ w'.cell? ⟨ba, oa + i * 8 + 2, none⟩ = some (.string y1) ∧ w'.cell? ⟨ba, oa + i * 8 + 3, none⟩ = some (.string m1) ∧ w'.cell? ⟨ba, oa + i * 8 + 4, none⟩ = some (.string s1) ∧ w'.cell? ⟨ba, oa + i * 8 + 5, none⟩ = some (.bool a1) ∧ w'.cell? ⟨ba, oa + i * 8 + 6, none⟩ = some (.bool t1) ∧ w'.cell? ⟨ba, oa + i * 8 + 7, none⟩ = some (.slice ad1 n1 cp1) ∧ w'.cell? ⟨bb, ob + j * 8, none⟩ = some (.int .i64 k2) ∧ w'.cell? ⟨bb, ob + j * 8 + 1, none⟩ = some (.int .i64 pk2) ∧ w'.cell? ⟨bb, ob + j * 8 + 2, none⟩ = some (.string y2) ∧ w'.cell? ⟨bb, ob + j * 8 + 3, none⟩ = some (.string m2) ∧ w'.cell? ⟨bb, ob + j * 8 + 4, none⟩ = some (.string s2) ∧ w'.cell? ⟨bb, ob + j * 8 + 5, none⟩ = some (.bool a2) ∧ w'.cell? ⟨bb, ob + j * 8 + 6, none⟩ = some (.bool t2) ∧ w'.cell? ⟨bb, ob + j * 8 + 7, none⟩ = some (.slice ad2 n2 cp2) ∧ Kp wr w') (by kernel_rfl) ?_ (fun hHeld0 => ?_)
            · (try dsimp only); exact KS.out _ (by first | assumption | exact Kp.drew _)
            refine tkW (v := ?_) 0 wiA0 rfl (by kernel_rfl) (by kernel_rfl) (by kernel_rfl) (fun _ _ _ h => h) (by rfl) ?_ (by assumption) ?_
            rotate_left
            · intro w hSw; (try dsimp only at hSw); go_simp; (try with_reducible rfl)
            (try simp only [Act.put, wiA0, List.setIfInBounds_toArray, List.set_cons_zero, List.set_cons_succ])
            refine tkW (v := ?_) 1 wiA1 rfl (by kernel_rfl) (by kernel_rfl) (by kernel_rfl) (fun _ _ _ h => h) (by rfl) ?_ (by assumption) ?_
            rotate_left
            · intro w hSw; (try dsimp only at hSw); go_simp; (try with_reducible rfl)
            (try simp only [Act.put, wiA1, List.setIfInBounds_toArray, List.set_cons_zero, List.set_cons_succ])
            refine tkU 2 wiA2 rfl (by kernel_rfl) (by kernel_rfl) (by kernel_rfl) (fun _ _ _ h => h) (by rfl) (by assumption) ?_
            (try simp only [Act.put, wiA2, List.setIfInBounds_toArray, List.set_cons_zero, List.set_cons_succ])
            refine tkU 3 wiA3 rfl (by kernel_rfl) (by kernel_rfl) (by kernel_rfl) (fun _ _ _ h => h) (by rfl) (by assumption) ?_
            (try simp only [Act.put, wiA3, List.setIfInBounds_toArray, List.set_cons_zero, List.set_cons_succ])
            refine tkU 4 wiA4 rfl (by kernel_rfl) (by kernel_rfl) (by kernel_rfl) (fun _ _ _ h => h) (by rfl) (by assumption) ?_
            (try simp only [Act.put, wiA4, List.setIfInBounds_toArray, List.set_cons_zero, List.set_cons_succ])
            refine tkU 5 wiA5 rfl (by kernel_rfl) (by kernel_rfl) (by kernel_rfl) (fun _ _ _ h => h) (by rfl) (by assumption) ?_
            (try simp only [Act.put, wiA5, List.setIfInBounds_toArray, List.set_cons_zero, List.set_cons_succ])
            refine tkU 6 wiA6 rfl (by kernel_rfl) (by kernel_rfl) (by kernel_rfl) (fun _ _ _ h => h) (by rfl) (by assumption) ?_
            (try simp only [Act.put, wiA6, List.setIfInBounds_toArray, List.set_cons_zero, List.set_cons_succ])
            refine tkU 7 wiA7 rfl (by kernel_rfl) (by kernel_rfl) (by kernel_rfl) (fun _ _ _ h => h) (by rfl) (by assumption) ?_
            (try simp only [Act.put, wiA7, List.setIfInBounds_toArray, List.set_cons_zero, List.set_cons_succ])
            refine tkU 8 wiA8 rfl (by kernel_rfl) (by kernel_rfl) (by kernel_rfl) (fun _ _ _ h => h) (by rfl) (by assumption) ?_
            (try simp only [Act.put, wiA8, List.setIfInBounds_toArray, List.set_cons_zero, List.set_cons_succ])
            refine tkU 9 wiA9 rfl (by kernel_rfl) (by kernel_rfl) (by kernel_rfl) (fun _ _ _ h => h) (by rfl) (by assumption) ?_
            (try simp only [Act.put, wiA9, List.setIfInBounds_toArray, List.set_cons_zero, List.set_cons_succ])
            refine tkU 10 wiA10 rfl (by kernel_rfl) (by kernel_rfl) (by kernel_rfl) (fun _ _ _ h => h) (by rfl) (by assumption) ?_
            (try simp only [Act.put, wiA10, List.setIfInBounds_toArray, List.set_cons_zero, List.set_cons_succ])
            refine tkW (v := ?_) 11 wiA11 rfl (by kernel_rfl) (by kernel_rfl) (by kernel_rfl) (fun _ _ _ h => h) (by rfl) ?_ (by assumption) ?_
            rotate_left
            · intro w hSw; (try dsimp only at hSw); go_simp; (try with_reducible rfl)
            (try simp only [Act.put, wiA11, List.setIfInBounds_toArray, List.set_cons_zero, List.set_cons_succ])
            refine tkW (v := ?_) 12 wiA12 rfl (by kernel_rfl) (by kernel_rfl) (by kernel_rfl) (fun _ _ _ h => h) (by rfl) ?_ (by assumption) ?_
            rotate_left
            · intro w hSw; (try dsimp only at hSw); go_simp; (try with_reducible rfl)
            (try simp only [Act.put, wiA12, List.setIfInBounds_toArray, List.set_cons_zero, List.set_cons_succ])
            refine wpAnyH_done (by kernel_rfl) ?_ _
            go_wp2
            go_roundw
            case rel => exact ⟨j + 1, true, HLJ.out, by go_num, rfl, Lib.hid (by rw [TKH.out]; rfl), Lib.hid (KJ.out.trans (by first | assumption | exact Kp.drew _))⟩
            case measure => have := HLJ.out; simp [intOf]; omega
          | false =>
            have KS := Lib.hid (fun w' (kq : Kp wr w') => show w'.cell? ⟨ba, oa + i * 8, none⟩ = some (.int .i64 k1) ∧ w'.cell? ⟨ba, oa + i * 8 + 1, none⟩ = some (.int .i64 pk1) ∧ w'.cell? ⟨ba, oa + i * 8 + 2, none⟩ = some (.string y1) ∧ w'.cell? ⟨ba, oa + i * 8 + 3, none⟩ = some (.string m1) ∧ w'.cell? ⟨ba, oa + i * 8 + 4, none⟩ = some (.string s1) ∧ w'.cell? ⟨ba, oa + i * 8 + 5, none⟩ = some (.bool a1) ∧ w'.cell? ⟨ba, oa + i * 8 + 6, none⟩ = some (.bool t1) ∧ w'.cell? ⟨ba, oa + i * 8 + 7, none⟩ = some (.slice ad1 n1 cp1) ∧ w'.cell? ⟨bb, ob + j * 8, none⟩ = some (.int .i64 k2) ∧ w'.cell? ⟨bb, ob + j * 8 + 1, none⟩ = some (.int .i64 pk2) ∧ w'.cell? ⟨bb, ob + j * 8 + 2, none⟩ = some (.string y2) ∧ w'.cell? ⟨bb, ob + j * 8 + 3, none⟩ = some (.string m2) ∧ w'.cell? ⟨bb, ob + j * 8 + 4, none⟩ = some (.string s2) ∧ w'.cell? ⟨bb, ob + j * 8 + 5, none⟩ = some (.bool a2) ∧ w'.cell? ⟨bb, ob + j * 8 + 6, none⟩ = some (.bool t2) ∧ w'.cell? ⟨bb, ob + j * 8 + 7, none⟩ = some (.slice ad2 n2 cp2) ∧ Kp wr w' from ⟨cell_up kq e0, cell_up kq e1, cell_up kq e2, cell_up kq e3, cell_up kq e4, cell_up kq e5, cell_up kq e6, cell_up kq e7, cell_up kq f0, cell_up kq f1, cell_up kq f2, cell_up kq f3, cell_up kq f4, cell_up kq f5, cell_up kq f6, cell_up kq f7, kq⟩)
            go_wp2_with fail
            refine wp_region_held_drew (S := fun w' => w'.cell? ⟨ba, oa + i * 8, none⟩ = some (.int .i64 k1) ∧ w'.cell? ⟨ba, oa + i * 8 + 1, none⟩ = some (.int .i64 pk1) ∧ w'.cell? ⟨ba, oa + i * 8 + 2, none⟩ = some (.string y1) ∧ w'.cell? ⟨ba, oa + i * 8 + 3, none⟩ = some (.string m1) ∧ w'.cell? ⟨ba, oa + i * 8 + 4, none⟩ = some (.string s1) ∧ w'.cell? ⟨ba, oa + i * 8 + 5, none⟩ = some (.bool a1) ∧ w'.cell? ⟨ba, oa + i * 8 + 6, none⟩ = some (.bool t1) ∧ w'.cell? ⟨ba, oa + i * 8 + 7, none⟩ = some (.slice ad1 n1 cp1) ∧ w'.cell? ⟨bb, ob + j * 8, none⟩ = some (.int .i64 k2) ∧ w'.cell? ⟨bb, ob + j * 8 + 1, none⟩ = some (.int .i64 pk2) ∧ w'.cell? ⟨bb, ob + j * 8 + 2, none⟩ = some (.string y2) ∧ w'.cell? ⟨bb, ob + j * 8 + 3, none⟩ = some (.string m2) ∧ w'.cell? ⟨bb, ob + j * 8 + 4, none⟩ = some (.string s2) ∧ w'.cell? ⟨bb, ob + j * 8 + 5, none⟩ = some (.bool a2) ∧ w'.cell? ⟨bb, ob + j * 8 + 6, none⟩ = some (.bool t2) ∧ w'.cell? ⟨bb, ob + j * 8 + 7, none⟩ = some (.slice ad2 n2 cp2) ∧ Kp wr w') (by kernel_rfl) ?_ (fun hHeld0 => ?_)
            · (try dsimp only); exact KS.out _ (by first | assumption | exact Kp.drew _)
            refine tkW (v := ?_) 0 wiA0 rfl (by kernel_rfl) (by kernel_rfl) (by kernel_rfl) (fun _ _ _ h => h) (by rfl) ?_ (by assumption) ?_
            rotate_left
            · intro w hSw; (try dsimp only at hSw); go_simp; (try with_reducible rfl)
            (try simp only [Act.put, wiA0, List.setIfInBounds_toArray, List.set_cons_zero, List.set_cons_succ])
            refine tkW (v := ?_) 1 wiA1 rfl (by kernel_rfl) (by kernel_rfl) (by kernel_rfl) (fun _ _ _ h => h) (by rfl) ?_ (by assumption) ?_
            rotate_left
            · intro w hSw; (try dsimp only at hSw); go_simp; (try with_reducible rfl)
            (try simp only [Act.put, wiA1, List.setIfInBounds_toArray, List.set_cons_zero, List.set_cons_succ])
            refine tkW (v := ?_) 2 wiA2 rfl (by kernel_rfl) (by kernel_rfl) (by kernel_rfl) (fun _ _ _ h => h) (by rfl) ?_ (by assumption) ?_
            rotate_left
            · intro w hSw; (try dsimp only at hSw); go_simp; (try with_reducible rfl)
            (try simp only [Act.put, wiA2, List.setIfInBounds_toArray, List.set_cons_zero, List.set_cons_succ])
            refine tkW (v := ?_) 3 wiA3 rfl (by kernel_rfl) (by kernel_rfl) (by kernel_rfl) (fun _ _ _ h => h) (by rfl) ?_ (by assumption) ?_
            rotate_left
            · intro w hSw; (try dsimp only at hSw); go_simp; (try with_reducible rfl)
            (try simp only [Act.put, wiA3, List.setIfInBounds_toArray, List.set_cons_zero, List.set_cons_succ])
            refine tkW (v := ?_) 4 wiA4 rfl (by kernel_rfl) (by kernel_rfl) (by kernel_rfl) (fun _ _ _ h => h) (by rfl) ?_ (by assumption) ?_
            rotate_left
            · intro w hSw; (try dsimp only at hSw); go_simp; (try with_reducible rfl)
            (try simp only [Act.put, wiA4, List.setIfInBounds_toArray, List.set_cons_zero, List.set_cons_succ])
            refine tkW (v := ?_) 5 wiA5 rfl (by kernel_rfl) (by kernel_rfl) (by kernel_rfl) (fun _ _ _ h => h) (by rfl) ?_ (by assumption) ?_
            rotate_left
            · intro w hSw; (try dsimp only at hSw); go_simp; (try with_reducible rfl)
            (try simp only [Act.put, wiA5, List.setIfInBounds_toArray, List.set_cons_zero, List.set_cons_succ])
            refine tkW (v := ?_) 6 wiA6 rfl (by kernel_rfl) (by kernel_rfl) (by kernel_rfl) (fun _ _ _ h => h) (by rfl) ?_ (by assumption) ?_
            rotate_left
            · intro w hSw; (try dsimp only at hSw); go_simp; (try with_reducible rfl)
            (try simp only [Act.put, wiA6, List.setIfInBounds_toArray, List.set_cons_zero, List.set_cons_succ])
            refine tkW (v := ?_) 7 wiA7 rfl (by kernel_rfl) (by kernel_rfl) (by kernel_rfl) (fun _ _ _ h => h) (by rfl) ?_ (by assumption) ?_
            rotate_left
            · intro w hSw; (try dsimp only at hSw); go_simp; (try with_reducible rfl)
            (try simp only [Act.put, wiA7, List.setIfInBounds_toArray, List.set_cons_zero, List.set_cons_succ])
            refine tkW (v := ?_) 8 wiA8 rfl (by kernel_rfl) (by kernel_rfl) (by kernel_rfl) (fun _ _ _ h => h) (by rfl) ?_ (by assumption) ?_
            rotate_left
            · intro w hSw; (try dsimp only at hSw); go_simp; (try with_reducible rfl)
            (try simp only [Act.put, wiA8, List.setIfInBounds_toArray, List.set_cons_zero, List.set_cons_succ])
            refine tkW (v := ?_) 9 wiA9 rfl (by kernel_rfl) (by kernel_rfl) (by kernel_rfl) (fun _ _ _ h => h) (by rfl) ?_ (by assumption) ?_
            rotate_left
            · intro w hSw; (try dsimp only at hSw); go_simp; (try with_reducible rfl)
            (try simp only [Act.put, wiA9, List.setIfInBounds_toArray, List.set_cons_zero, List.set_cons_succ])
            refine tkE 10 wiA10 rfl (by kernel_rfl) (fun K hK => ?_)
            go_simp
            (refine (SMx.out _ (by first | assumption | exact Kp.drew _)).mono ?_; rintro e wt ⟨rfl, k1⟩; have k2 := Kp.trans (show Kp wr _ from (by first | assumption | exact Kp.drew _)) k1; clear k1)
            (try go_wp2_with fail)
            refine hK.out _ _ ?_ (fun hHeld1 => ?_)
            · (try dsimp only); exact KS.out _ (by first | assumption | exact Kp.drew _)
            clear hK K hHeld0
            (try simp only [Act.put, wiA10, List.setIfInBounds_toArray, List.set_cons_zero, List.set_cons_succ])
            refine tkW (v := ?_) 11 wiA11 rfl (by kernel_rfl) (by kernel_rfl) (by kernel_rfl) (fun _ _ _ h => h) (by rfl) ?_ (by assumption) ?_
            rotate_left
            · intro w hSw; (try dsimp only at hSw); go_simp; (try with_reducible rfl)
            (try simp only [Act.put, wiA11, List.setIfInBounds_toArray, List.set_cons_zero, List.set_cons_succ])
            refine tkW (v := ?_) 12 wiA12 rfl (by kernel_rfl) (by kernel_rfl) (by kernel_rfl) (fun _ _ _ h => h) (by rfl) ?_ (by assumption) ?_
            rotate_left
            · intro w hSw; (try dsimp only at hSw); go_simp; (try with_reducible rfl)
            (try simp only [Act.put, wiA12, List.setIfInBounds_toArray, List.set_cons_zero, List.set_cons_succ])
            refine wpAnyH_done (by kernel_rfl) ?_ _
            go_wp2
            go_roundw
            case rel => exact ⟨j + 1, sv, HLJ.out, by go_num, rfl, Lib.hid (by rw [TKH.out]; rfl), Lib.hid (KJ.out.trans k2)⟩
            case measure => have := HLJ.out; simp [intOf]; omega
        · obtain rfl : j = B.length := by omega
          have bj := BJ.out
          rw [TL.out] at bj
          cases b with
          | true =>
            have AI2 := Lib.hid (show ∀ i', i' < i + 1 → inN (nth A i') B = true from fun i' h => by
              by_cases c : i' < i
              · exact AI.out i' c
              · obtain rfl : i' = i := by omega
                exact bj.symm)
            clear bj BJ
            go_wp2
            go_roundw
            case rel => exact ⟨i + 1, HLT.out, by go_num, AI2, KJ⟩
            case measure => have := HLT.out; simp [intOf]; omega
          | false =>
            have rf := WF.out i HLT.out bj.symm
            subst rf
            clear bj BJ
            go_wp2
            go_ret
            exact ⟨rfl, KJ.out⟩
    · obtain rfl : i = A.length := by omega
      have rt := WT.out AI.out
      subst rt
      go_wp2
      go_ret
      exact ⟨rfl, KI.out⟩
end Go.Proofs.YtgmigeehfhkimaaDoor

namespace Go.Proofs.YtgmigeehfhkimaaDoor
open Go.RowKit Go.Shelf
set_option linter.unusedVariables false
set_option linter.unusedSimpArgs false
theorem flL_len64 {l : List ND} (h : saneN saneP (orN l) = true) (i : Nat) : (flL (l.take i)).length ≤ 64 ∧ ∀ x ∈ flL (l.take i), cntN x ≤ 64 := by
  obtain ⟨sn, c64, _⟩ := orN_sns h
  have a := flL_cnt (m := l.take i) (fun y hy => sn y (List.mem_of_mem_take hy))
  have b := len_cntL (flL (l.take i))
  have c := cntL_append (l.take i) (l.drop i)
  rw [List.take_append_drop] at c
  exact ⟨by omega, fun x hx => by have := cnt_mem hx; omega⟩
theorem parts64 {n : ND} (h : saneN saneP n = true) : (partsN (canN n)).length ≤ 64 ∧ ∀ x ∈ partsN (canN n), cntN x ≤ 64 := by
  have a := parts_cnt h
  have b := len_cntL (partsN (canN n))
  exact ⟨by omega, fun x hx => by have := cnt_mem hx; omega⟩
set_option maxHeartbeats 16000000 in
set_option maxRecDepth 100000 in
theorem cparts_long (vl : Value) (l : List ND) (w : World) (hl : NodesAt w vl l) (T : TabSH w) (h20 : 20 < l.length) :
    Calls Tryd.prog 6 #[vl] w fun e w' => e = .returned (.bool true) ∧ Kp w w' := by
  have AW := Lib.hid (fun w1 (kk : Kp w w1) => awake12 w1 (T.kp kk))
  have OO := Lib.hid (fun w1 => oneOf_any vl l w1 hl.slice)
  have FW := Lib.hid (fun w1 (kk : Kp w w1) => rfewG_any (orN l) vl w1 (hl.kp kk))
  have SN := Lib.hid (fun w1 (kk : Kp w w1) => tSaneG_any (orN l) vl w1 (hl.kp kk) (T.kp kk))
  have lm := hl.len
  unfold maxLen at lm
  have g1 : decide ((l.length : Int) > 20) = true := decide_eq_true (by omega)
  clear T
  obtain ⟨adl, cal, rfl⟩ := hl.slice
  unfold orN pz ndV at *
  simp only [ND.k, ND.p, ND.a, ND.t, ND.l] at *
  obtain ⟨W0, hW⟩ : ∃ W0, W0 = w := ⟨_, rfl⟩
  subst hW
  have K00 := Lib.hid (Kp.refl W0)
  have K0 := Lib.hid (Kp.refl W0)
  have HB := Lib.hid True.intro
  go_enter Tryd.func6, Tryd.ntmps6
  go_wp2_with fail
  refine (AW.out _ (K00.out.trans (by first | with_reducible exact K0.out | with_reducible exact K0.out.trans (Kp.alloc _ _) | with_reducible exact (K0.out.trans (Kp.alloc _ _)).trans (Kp.alloc _ _) | with_reducible exact ((K0.out.trans (Kp.alloc _ _)).trans (Kp.alloc _ _)).trans (Kp.alloc _ _) | with_reducible exact K0.out.trans (Kp.drew _) | with_reducible exact K0.out.trans (Kp.drewN _ _)))).mono ?_
  rintro e w1 ⟨rfl, kk⟩
  have K1 := Lib.hid ((show Kp W0 _ from (by first | with_reducible exact K0.out | with_reducible exact K0.out.trans (Kp.alloc _ _) | with_reducible exact (K0.out.trans (Kp.alloc _ _)).trans (Kp.alloc _ _) | with_reducible exact ((K0.out.trans (Kp.alloc _ _)).trans (Kp.alloc _ _)).trans (Kp.alloc _ _) | with_reducible exact K0.out.trans (Kp.drew _) | with_reducible exact K0.out.trans (Kp.drewN _ _))).trans kk)
  clear kk
  go_wp2_with fail
  refine (OO.out _).mono ?_
  rintro e w2 ⟨rfl, kk⟩
  have K2 := Lib.hid ((show Kp W0 _ from (by first | with_reducible exact K1.out | with_reducible exact K1.out.trans (Kp.alloc _ _) | with_reducible exact (K1.out.trans (Kp.alloc _ _)).trans (Kp.alloc _ _) | with_reducible exact ((K1.out.trans (Kp.alloc _ _)).trans (Kp.alloc _ _)).trans (Kp.alloc _ _) | with_reducible exact K1.out.trans (Kp.drew _) | with_reducible exact K1.out.trans (Kp.drewN _ _))).trans kk)
  clear kk
  obtain ⟨w3, hV⟩ : ∃ x, x = w2.alloc (.cells #[.int .i64 2, .int .i64 0, .string ⟨#[]⟩, .string ⟨#[]⟩, .string ⟨#[]⟩, .bool false, .bool false, .slice adl l.length cal] 26) := ⟨_, rfl⟩
  have ka : Kp w2 w3 := by rw [hV]; exact Kp.alloc _ _
  have hgq : w3.heap[w2.heap.size]? = some (.cells #[.int .i64 2, .int .i64 0, .string ⟨#[]⟩, .string ⟨#[]⟩, .string ⟨#[]⟩, .bool false, .bool false, .slice adl l.length cal] 26 (0, 0)) := by rw [hV]; exact heap_at _ _ _ rfl
  have q0 : w3.cell? ⟨w2.heap.size, 0, none⟩ = some (.int .i64 2) := by simp [World.cell?, hgq]
  have q1 : w3.cell? ⟨w2.heap.size, 1, none⟩ = some (.int .i64 0) := by simp [World.cell?, hgq]
  have q2 : w3.cell? ⟨w2.heap.size, 2, none⟩ = some (.string ⟨#[]⟩) := by simp [World.cell?, hgq]
  have q3 : w3.cell? ⟨w2.heap.size, 3, none⟩ = some (.string ⟨#[]⟩) := by simp [World.cell?, hgq]
  have q4 : w3.cell? ⟨w2.heap.size, 4, none⟩ = some (.string ⟨#[]⟩) := by simp [World.cell?, hgq]
  have q5 : w3.cell? ⟨w2.heap.size, 5, none⟩ = some (.bool false) := by simp [World.cell?, hgq]
  have q6 : w3.cell? ⟨w2.heap.size, 6, none⟩ = some (.bool false) := by simp [World.cell?, hgq]
  have q7 : w3.cell? ⟨w2.heap.size, 7, none⟩ = some (.slice adl l.length cal) := by simp [World.cell?, hgq]
  have HB2 := Lib.hid (fun w1 (k : Kp w3 w1) => show w1.cell? ⟨w2.heap.size, 0, none⟩ = some (.int .i64 2) ∧ w1.cell? ⟨w2.heap.size, 1, none⟩ = some (.int .i64 0) ∧ w1.cell? ⟨w2.heap.size, 2, none⟩ = some (.string ⟨#[]⟩) ∧ w1.cell? ⟨w2.heap.size, 3, none⟩ = some (.string ⟨#[]⟩) ∧ w1.cell? ⟨w2.heap.size, 4, none⟩ = some (.string ⟨#[]⟩) ∧ w1.cell? ⟨w2.heap.size, 5, none⟩ = some (.bool false) ∧ w1.cell? ⟨w2.heap.size, 6, none⟩ = some (.bool false) ∧ w1.cell? ⟨w2.heap.size, 7, none⟩ = some (.slice adl l.length cal) from ⟨cell_up k q0, cell_up k q1, cell_up k q2, cell_up k q3, cell_up k q4, cell_up k q5, cell_up k q6, cell_up k q7⟩)
  have K01 := Lib.hid (K00.out.trans (K2.out.trans ka))
  clear HB K00 hgq  q0 q1 q2 q3 q4 q5 q6 q7
  have HB := HB2
  have K00 := K01
  clear HB2 K01
  have K3 := Lib.hid (Kp.refl w3)
  have Hw3 := Lib.hid hV
  clear hV ka
  go_wp2_with fail
  rw [← Hw3.out]
  obtain ⟨c0, c1, c2, c3, c4, c5, c6, c7⟩ := HB.out w3 (Kp.refl _)
  go_wp2
  go_ret
  exact ⟨rfl, K00.out.trans (by first | with_reducible exact K3.out | with_reducible exact K3.out.trans (Kp.alloc _ _) | with_reducible exact (K3.out.trans (Kp.alloc _ _)).trans (Kp.alloc _ _) | with_reducible exact ((K3.out.trans (Kp.alloc _ _)).trans (Kp.alloc _ _)).trans (Kp.alloc _ _) | with_reducible exact K3.out.trans (Kp.drew _) | with_reducible exact K3.out.trans (Kp.drewN _ _))⟩
set_option maxHeartbeats 16000000 in
set_option maxRecDepth 100000 in
theorem cparts_many (vl : Value) (l : List ND) (w : World) (hl : NodesAt w vl l) (T : TabSH w) (h20 : l.length ≤ 20) (hf : fewG (orN l) = false) :
    Calls Tryd.prog 6 #[vl] w fun e w' => e = .returned (.bool true) ∧ Kp w w' := by
  have AW := Lib.hid (fun w1 (kk : Kp w w1) => awake12 w1 (T.kp kk))
  have OO := Lib.hid (fun w1 => oneOf_any vl l w1 hl.slice)
  have FW := Lib.hid (fun w1 (kk : Kp w w1) => rfewG_any (orN l) vl w1 (hl.kp kk))
  have SN := Lib.hid (fun w1 (kk : Kp w w1) => tSaneG_any (orN l) vl w1 (hl.kp kk) (T.kp kk))
  have lm := hl.len
  unfold maxLen at lm
  have g1 : decide ((l.length : Int) > 20) = false := decide_eq_false (by omega)
  rw [hf] at FW
  clear T hf
  obtain ⟨adl, cal, rfl⟩ := hl.slice
  unfold orN pz ndV at *
  simp only [ND.k, ND.p, ND.a, ND.t, ND.l] at *
  obtain ⟨W0, hW⟩ : ∃ W0, W0 = w := ⟨_, rfl⟩
  subst hW
  have K00 := Lib.hid (Kp.refl W0)
  have K0 := Lib.hid (Kp.refl W0)
  have HB := Lib.hid True.intro
  go_enter Tryd.func6, Tryd.ntmps6
  go_wp2_with fail
  refine (AW.out _ (K00.out.trans (by first | with_reducible exact K0.out | with_reducible exact K0.out.trans (Kp.alloc _ _) | with_reducible exact (K0.out.trans (Kp.alloc _ _)).trans (Kp.alloc _ _) | with_reducible exact ((K0.out.trans (Kp.alloc _ _)).trans (Kp.alloc _ _)).trans (Kp.alloc _ _) | with_reducible exact K0.out.trans (Kp.drew _) | with_reducible exact K0.out.trans (Kp.drewN _ _)))).mono ?_
  rintro e w1 ⟨rfl, kk⟩
  have K1 := Lib.hid ((show Kp W0 _ from (by first | with_reducible exact K0.out | with_reducible exact K0.out.trans (Kp.alloc _ _) | with_reducible exact (K0.out.trans (Kp.alloc _ _)).trans (Kp.alloc _ _) | with_reducible exact ((K0.out.trans (Kp.alloc _ _)).trans (Kp.alloc _ _)).trans (Kp.alloc _ _) | with_reducible exact K0.out.trans (Kp.drew _) | with_reducible exact K0.out.trans (Kp.drewN _ _))).trans kk)
  clear kk
  go_wp2_with fail
  refine (OO.out _).mono ?_
  rintro e w2 ⟨rfl, kk⟩
  have K2 := Lib.hid ((show Kp W0 _ from (by first | with_reducible exact K1.out | with_reducible exact K1.out.trans (Kp.alloc _ _) | with_reducible exact (K1.out.trans (Kp.alloc _ _)).trans (Kp.alloc _ _) | with_reducible exact ((K1.out.trans (Kp.alloc _ _)).trans (Kp.alloc _ _)).trans (Kp.alloc _ _) | with_reducible exact K1.out.trans (Kp.drew _) | with_reducible exact K1.out.trans (Kp.drewN _ _))).trans kk)
  clear kk
  obtain ⟨w3, hV⟩ : ∃ x, x = w2.alloc (.cells #[.int .i64 2, .int .i64 0, .string ⟨#[]⟩, .string ⟨#[]⟩, .string ⟨#[]⟩, .bool false, .bool false, .slice adl l.length cal] 26) := ⟨_, rfl⟩
  have ka : Kp w2 w3 := by rw [hV]; exact Kp.alloc _ _
  have hgq : w3.heap[w2.heap.size]? = some (.cells #[.int .i64 2, .int .i64 0, .string ⟨#[]⟩, .string ⟨#[]⟩, .string ⟨#[]⟩, .bool false, .bool false, .slice adl l.length cal] 26 (0, 0)) := by rw [hV]; exact heap_at _ _ _ rfl
  have q0 : w3.cell? ⟨w2.heap.size, 0, none⟩ = some (.int .i64 2) := by simp [World.cell?, hgq]
  have q1 : w3.cell? ⟨w2.heap.size, 1, none⟩ = some (.int .i64 0) := by simp [World.cell?, hgq]
  have q2 : w3.cell? ⟨w2.heap.size, 2, none⟩ = some (.string ⟨#[]⟩) := by simp [World.cell?, hgq]
  have q3 : w3.cell? ⟨w2.heap.size, 3, none⟩ = some (.string ⟨#[]⟩) := by simp [World.cell?, hgq]
  have q4 : w3.cell? ⟨w2.heap.size, 4, none⟩ = some (.string ⟨#[]⟩) := by simp [World.cell?, hgq]
  have q5 : w3.cell? ⟨w2.heap.size, 5, none⟩ = some (.bool false) := by simp [World.cell?, hgq]
  have q6 : w3.cell? ⟨w2.heap.size, 6, none⟩ = some (.bool false) := by simp [World.cell?, hgq]
  have q7 : w3.cell? ⟨w2.heap.size, 7, none⟩ = some (.slice adl l.length cal) := by simp [World.cell?, hgq]
  have HB2 := Lib.hid (fun w1 (k : Kp w3 w1) => show w1.cell? ⟨w2.heap.size, 0, none⟩ = some (.int .i64 2) ∧ w1.cell? ⟨w2.heap.size, 1, none⟩ = some (.int .i64 0) ∧ w1.cell? ⟨w2.heap.size, 2, none⟩ = some (.string ⟨#[]⟩) ∧ w1.cell? ⟨w2.heap.size, 3, none⟩ = some (.string ⟨#[]⟩) ∧ w1.cell? ⟨w2.heap.size, 4, none⟩ = some (.string ⟨#[]⟩) ∧ w1.cell? ⟨w2.heap.size, 5, none⟩ = some (.bool false) ∧ w1.cell? ⟨w2.heap.size, 6, none⟩ = some (.bool false) ∧ w1.cell? ⟨w2.heap.size, 7, none⟩ = some (.slice adl l.length cal) from ⟨cell_up k q0, cell_up k q1, cell_up k q2, cell_up k q3, cell_up k q4, cell_up k q5, cell_up k q6, cell_up k q7⟩)
  have K01 := Lib.hid (K00.out.trans (K2.out.trans ka))
  clear HB K00 hgq  q0 q1 q2 q3 q4 q5 q6 q7
  have HB := HB2
  have K00 := K01
  clear HB2 K01
  have K3 := Lib.hid (Kp.refl w3)
  have Hw3 := Lib.hid hV
  clear hV ka
  go_wp2_with fail
  rw [← Hw3.out]
  obtain ⟨c0, c1, c2, c3, c4, c5, c6, c7⟩ := HB.out w3 (Kp.refl _)
  go_wp2_with fail
  refine (FW.out _ (K00.out.trans (by first | with_reducible exact K3.out | with_reducible exact K3.out.trans (Kp.alloc _ _) | with_reducible exact (K3.out.trans (Kp.alloc _ _)).trans (Kp.alloc _ _) | with_reducible exact ((K3.out.trans (Kp.alloc _ _)).trans (Kp.alloc _ _)).trans (Kp.alloc _ _) | with_reducible exact K3.out.trans (Kp.drew _) | with_reducible exact K3.out.trans (Kp.drewN _ _)))).mono ?_
  rintro e w4 ⟨rfl, kk⟩
  have K4 := Lib.hid ((show Kp w3 _ from (by first | with_reducible exact K3.out | with_reducible exact K3.out.trans (Kp.alloc _ _) | with_reducible exact (K3.out.trans (Kp.alloc _ _)).trans (Kp.alloc _ _) | with_reducible exact ((K3.out.trans (Kp.alloc _ _)).trans (Kp.alloc _ _)).trans (Kp.alloc _ _) | with_reducible exact K3.out.trans (Kp.drew _) | with_reducible exact K3.out.trans (Kp.drewN _ _))).trans kk)
  clear kk
  clear c0 c1 c2 c3 c4 c5 c6 c7
  obtain ⟨c0, c1, c2, c3, c4, c5, c6, c7⟩ := HB.out w4 K4.out
  go_wp2
  go_ret
  exact ⟨rfl, K00.out.trans K4.out⟩
set_option maxHeartbeats 16000000 in
set_option maxRecDepth 100000 in
theorem cparts_no (vl : Value) (l : List ND) (w : World) (hl : NodesAt w vl l) (T : TabSH w) (h20 : l.length ≤ 20) (hf : fewG (orN l) = true) (hs : saneN saneP (orN l) = false) :
    Calls Tryd.prog 6 #[vl] w fun e w' => e = .returned (.bool true) ∧ Kp w w' := by
  have AW := Lib.hid (fun w1 (kk : Kp w w1) => awake12 w1 (T.kp kk))
  have OO := Lib.hid (fun w1 => oneOf_any vl l w1 hl.slice)
  have FW := Lib.hid (fun w1 (kk : Kp w w1) => rfewG_any (orN l) vl w1 (hl.kp kk))
  have SN := Lib.hid (fun w1 (kk : Kp w w1) => tSaneG_any (orN l) vl w1 (hl.kp kk) (T.kp kk))
  have lm := hl.len
  unfold maxLen at lm
  have g1 : decide ((l.length : Int) > 20) = false := decide_eq_false (by omega)
  rw [hf] at FW
  rw [hs] at SN
  clear T hf hs
  obtain ⟨adl, cal, rfl⟩ := hl.slice
  unfold orN pz ndV at *
  simp only [ND.k, ND.p, ND.a, ND.t, ND.l] at *
  obtain ⟨W0, hW⟩ : ∃ W0, W0 = w := ⟨_, rfl⟩
  subst hW
  have K00 := Lib.hid (Kp.refl W0)
  have K0 := Lib.hid (Kp.refl W0)
  have HB := Lib.hid True.intro
  go_enter Tryd.func6, Tryd.ntmps6
  go_wp2_with fail
  refine (AW.out _ (K00.out.trans (by first | with_reducible exact K0.out | with_reducible exact K0.out.trans (Kp.alloc _ _) | with_reducible exact (K0.out.trans (Kp.alloc _ _)).trans (Kp.alloc _ _) | with_reducible exact ((K0.out.trans (Kp.alloc _ _)).trans (Kp.alloc _ _)).trans (Kp.alloc _ _) | with_reducible exact K0.out.trans (Kp.drew _) | with_reducible exact K0.out.trans (Kp.drewN _ _)))).mono ?_
  rintro e w1 ⟨rfl, kk⟩
  have K1 := Lib.hid ((show Kp W0 _ from (by first | with_reducible exact K0.out | with_reducible exact K0.out.trans (Kp.alloc _ _) | with_reducible exact (K0.out.trans (Kp.alloc _ _)).trans (Kp.alloc _ _) | with_reducible exact ((K0.out.trans (Kp.alloc _ _)).trans (Kp.alloc _ _)).trans (Kp.alloc _ _) | with_reducible exact K0.out.trans (Kp.drew _) | with_reducible exact K0.out.trans (Kp.drewN _ _))).trans kk)
  clear kk
  go_wp2_with fail
  refine (OO.out _).mono ?_
  rintro e w2 ⟨rfl, kk⟩
  have K2 := Lib.hid ((show Kp W0 _ from (by first | with_reducible exact K1.out | with_reducible exact K1.out.trans (Kp.alloc _ _) | with_reducible exact (K1.out.trans (Kp.alloc _ _)).trans (Kp.alloc _ _) | with_reducible exact ((K1.out.trans (Kp.alloc _ _)).trans (Kp.alloc _ _)).trans (Kp.alloc _ _) | with_reducible exact K1.out.trans (Kp.drew _) | with_reducible exact K1.out.trans (Kp.drewN _ _))).trans kk)
  clear kk
  obtain ⟨w3, hV⟩ : ∃ x, x = w2.alloc (.cells #[.int .i64 2, .int .i64 0, .string ⟨#[]⟩, .string ⟨#[]⟩, .string ⟨#[]⟩, .bool false, .bool false, .slice adl l.length cal] 26) := ⟨_, rfl⟩
  have ka : Kp w2 w3 := by rw [hV]; exact Kp.alloc _ _
  have hgq : w3.heap[w2.heap.size]? = some (.cells #[.int .i64 2, .int .i64 0, .string ⟨#[]⟩, .string ⟨#[]⟩, .string ⟨#[]⟩, .bool false, .bool false, .slice adl l.length cal] 26 (0, 0)) := by rw [hV]; exact heap_at _ _ _ rfl
  have q0 : w3.cell? ⟨w2.heap.size, 0, none⟩ = some (.int .i64 2) := by simp [World.cell?, hgq]
  have q1 : w3.cell? ⟨w2.heap.size, 1, none⟩ = some (.int .i64 0) := by simp [World.cell?, hgq]
  have q2 : w3.cell? ⟨w2.heap.size, 2, none⟩ = some (.string ⟨#[]⟩) := by simp [World.cell?, hgq]
  have q3 : w3.cell? ⟨w2.heap.size, 3, none⟩ = some (.string ⟨#[]⟩) := by simp [World.cell?, hgq]
  have q4 : w3.cell? ⟨w2.heap.size, 4, none⟩ = some (.string ⟨#[]⟩) := by simp [World.cell?, hgq]
  have q5 : w3.cell? ⟨w2.heap.size, 5, none⟩ = some (.bool false) := by simp [World.cell?, hgq]
  have q6 : w3.cell? ⟨w2.heap.size, 6, none⟩ = some (.bool false) := by simp [World.cell?, hgq]
  have q7 : w3.cell? ⟨w2.heap.size, 7, none⟩ = some (.slice adl l.length cal) := by simp [World.cell?, hgq]
  have HB2 := Lib.hid (fun w1 (k : Kp w3 w1) => show w1.cell? ⟨w2.heap.size, 0, none⟩ = some (.int .i64 2) ∧ w1.cell? ⟨w2.heap.size, 1, none⟩ = some (.int .i64 0) ∧ w1.cell? ⟨w2.heap.size, 2, none⟩ = some (.string ⟨#[]⟩) ∧ w1.cell? ⟨w2.heap.size, 3, none⟩ = some (.string ⟨#[]⟩) ∧ w1.cell? ⟨w2.heap.size, 4, none⟩ = some (.string ⟨#[]⟩) ∧ w1.cell? ⟨w2.heap.size, 5, none⟩ = some (.bool false) ∧ w1.cell? ⟨w2.heap.size, 6, none⟩ = some (.bool false) ∧ w1.cell? ⟨w2.heap.size, 7, none⟩ = some (.slice adl l.length cal) from ⟨cell_up k q0, cell_up k q1, cell_up k q2, cell_up k q3, cell_up k q4, cell_up k q5, cell_up k q6, cell_up k q7⟩)
  have K01 := Lib.hid (K00.out.trans (K2.out.trans ka))
  clear HB K00 hgq  q0 q1 q2 q3 q4 q5 q6 q7
  have HB := HB2
  have K00 := K01
  clear HB2 K01
  have K3 := Lib.hid (Kp.refl w3)
  have Hw3 := Lib.hid hV
  clear hV ka
  go_wp2_with fail
  rw [← Hw3.out]
  obtain ⟨c0, c1, c2, c3, c4, c5, c6, c7⟩ := HB.out w3 (Kp.refl _)
  go_wp2_with fail
  refine (FW.out _ (K00.out.trans (by first | with_reducible exact K3.out | with_reducible exact K3.out.trans (Kp.alloc _ _) | with_reducible exact (K3.out.trans (Kp.alloc _ _)).trans (Kp.alloc _ _) | with_reducible exact ((K3.out.trans (Kp.alloc _ _)).trans (Kp.alloc _ _)).trans (Kp.alloc _ _) | with_reducible exact K3.out.trans (Kp.drew _) | with_reducible exact K3.out.trans (Kp.drewN _ _)))).mono ?_
  rintro e w4 ⟨rfl, kk⟩
  have K4 := Lib.hid ((show Kp w3 _ from (by first | with_reducible exact K3.out | with_reducible exact K3.out.trans (Kp.alloc _ _) | with_reducible exact (K3.out.trans (Kp.alloc _ _)).trans (Kp.alloc _ _) | with_reducible exact ((K3.out.trans (Kp.alloc _ _)).trans (Kp.alloc _ _)).trans (Kp.alloc _ _) | with_reducible exact K3.out.trans (Kp.drew _) | with_reducible exact K3.out.trans (Kp.drewN _ _))).trans kk)
  clear kk
  clear c0 c1 c2 c3 c4 c5 c6 c7
  obtain ⟨c0, c1, c2, c3, c4, c5, c6, c7⟩ := HB.out w4 K4.out
  go_wp2_with fail
  refine (SN.out _ (K00.out.trans (by first | with_reducible exact K4.out | with_reducible exact K4.out.trans (Kp.alloc _ _) | with_reducible exact (K4.out.trans (Kp.alloc _ _)).trans (Kp.alloc _ _) | with_reducible exact ((K4.out.trans (Kp.alloc _ _)).trans (Kp.alloc _ _)).trans (Kp.alloc _ _) | with_reducible exact K4.out.trans (Kp.drew _) | with_reducible exact K4.out.trans (Kp.drewN _ _)))).mono ?_
  rintro e w5 ⟨rfl, kk⟩
  have K5 := Lib.hid ((show Kp w3 _ from (by first | with_reducible exact K4.out | with_reducible exact K4.out.trans (Kp.alloc _ _) | with_reducible exact (K4.out.trans (Kp.alloc _ _)).trans (Kp.alloc _ _) | with_reducible exact ((K4.out.trans (Kp.alloc _ _)).trans (Kp.alloc _ _)).trans (Kp.alloc _ _) | with_reducible exact K4.out.trans (Kp.drew _) | with_reducible exact K4.out.trans (Kp.drewN _ _))).trans kk)
  clear kk
  clear c0 c1 c2 c3 c4 c5 c6 c7
  obtain ⟨c0, c1, c2, c3, c4, c5, c6, c7⟩ := HB.out w5 K5.out
  go_wp2
  go_ret
  exact ⟨rfl, K00.out.trans K5.out⟩
set_option maxHeartbeats 16000000 in
set_option maxRecDepth 100000 in
theorem cparts_yes (vl : Value) (l : List ND) (w : World) (hl : NodesAt w vl l) (T : TabSH w) (h20 : l.length ≤ 20) (hf : fewG (orN l) = true) (hs : saneN saneP (orN l) = true) :
    Calls Tryd.prog 6 #[vl] w fun e w' => e = .returned (.bool true) ∧ Kp w w' := by
  have AW := Lib.hid (fun w1 (kk : Kp w w1) => awake12 w1 (T.kp kk))
  have OO := Lib.hid (fun w1 => oneOf_any vl l w1 hl.slice)
  have FW := Lib.hid (fun w1 (kk : Kp w w1) => rfewG_any (orN l) vl w1 (hl.kp kk))
  have SN := Lib.hid (fun w1 (kk : Kp w w1) => tSaneG_any (orN l) vl w1 (hl.kp kk) (T.kp kk))
  have lm := hl.len
  unfold maxLen at lm
  have g1 : decide ((l.length : Int) > 20) = false := decide_eq_false (by omega)
  rw [hf] at FW
  rw [hs] at SN
  have l1 := (orN_len hs).1
  have CN := Lib.hid (fun w1 (kk : Kp w w1) => ccan_own (orN l) vl w1 w1 (hl.kp kk) (Kp.refl _) (T.kp kk))
  have pp := orN_parts hs
  rw [canF_yes hs] at CN pp
  have p64 := parts64 hs
  have SA := Lib.hid (fun i (hi : i < l.length) => (orN_sns hs).1 _ (nth_mem hi))
  have LB := Lib.hid (fun i => flL_len64 hs i)
  have LP := Lib.hid (fun i (hi : i < l.length) => show (partsN (canN (nth l i))).length ≤ 64 from (parts64 ((orN_sns hs).1 _ (nth_mem hi))).1)
  have T0 := Lib.hid (show flL (l.take 0) = [] by rw [List.take_zero]; rfl)
  have TL := Lib.hid (show l.take l.length = l from List.take_length)
  have TK := Lib.hid (fun i (hi : i < l.length) => flL_take (l := l) hi)
  have CP := Lib.hid (fun W w1 base c v (h : CanAt W w1 base c v) (k : Kp W w1) => cparts_any W w1 base c v h k)
  have CE := Lib.hid (fun x v W w1 (h : NodesAt W v x.l) (kk : Kp W w1) (q : Kp w W) => ccan_own x v W w1 h kk (T.kp q))
  have HLW := Lib.hid hl
  obtain ⟨PL, hPL⟩ : ∃ x, partsN (canN (orN l)) = x := ⟨_, rfl⟩
  rw [hPL] at pp p64
  have WI := Lib.hid (fun va vb w1 (ha : NodesAt w1 va PL) (hb : NodesAt w1 vb (flL l)) => cwithin_any va vb PL (flL l) w1 ha hb (fun x hx => by have := p64.2 x hx; omega) (by omega) (by have := (flL_len64 hs l.length).1; rw [List.take_length] at this; omega))
  have WJ := Lib.hid (fun va vb w1 (ha : NodesAt w1 va (flL l)) (hb : NodesAt w1 vb PL) => cwithin_any va vb (flL l) PL w1 ha hb (fun x hx => by have := (flL_len64 hs l.length).2 x (by rw [List.take_length]; exact hx); omega) (by have := (flL_len64 hs l.length).1; rw [List.take_length] at this; omega) (by omega))
  rw [pp.1] at WI
  rw [pp.2] at WJ
  have HPL := Lib.hid hPL
  clear hPL pp p64 T hf
  generalize canN (orN l) = c0 at *
  obtain ⟨k0, pk0, y0, m0, s0, a0, t0, r0, rfl⟩ := nd_dest c0
  clear hs
  obtain ⟨adl, cal, rfl⟩ := hl.slice
  unfold orN pz ndV at *
  simp only [ND.k, ND.p, ND.a, ND.t, ND.l] at *
  obtain ⟨W0, hW⟩ : ∃ W0, W0 = w := ⟨_, rfl⟩
  subst hW
  have K00 := Lib.hid (Kp.refl W0)
  have K0 := Lib.hid (Kp.refl W0)
  have HB := Lib.hid True.intro
  go_enter Tryd.func6, Tryd.ntmps6
  go_wp2_with fail
  refine (AW.out _ (K00.out.trans (by first | with_reducible exact K0.out | with_reducible exact K0.out.trans (Kp.alloc _ _) | with_reducible exact (K0.out.trans (Kp.alloc _ _)).trans (Kp.alloc _ _) | with_reducible exact ((K0.out.trans (Kp.alloc _ _)).trans (Kp.alloc _ _)).trans (Kp.alloc _ _) | with_reducible exact K0.out.trans (Kp.drew _) | with_reducible exact K0.out.trans (Kp.drewN _ _)))).mono ?_
  rintro e w1 ⟨rfl, kk⟩
  have K1 := Lib.hid ((show Kp W0 _ from (by first | with_reducible exact K0.out | with_reducible exact K0.out.trans (Kp.alloc _ _) | with_reducible exact (K0.out.trans (Kp.alloc _ _)).trans (Kp.alloc _ _) | with_reducible exact ((K0.out.trans (Kp.alloc _ _)).trans (Kp.alloc _ _)).trans (Kp.alloc _ _) | with_reducible exact K0.out.trans (Kp.drew _) | with_reducible exact K0.out.trans (Kp.drewN _ _))).trans kk)
  clear kk
  go_wp2_with fail
  refine (OO.out _).mono ?_
  rintro e w2 ⟨rfl, kk⟩
  have K2 := Lib.hid ((show Kp W0 _ from (by first | with_reducible exact K1.out | with_reducible exact K1.out.trans (Kp.alloc _ _) | with_reducible exact (K1.out.trans (Kp.alloc _ _)).trans (Kp.alloc _ _) | with_reducible exact ((K1.out.trans (Kp.alloc _ _)).trans (Kp.alloc _ _)).trans (Kp.alloc _ _) | with_reducible exact K1.out.trans (Kp.drew _) | with_reducible exact K1.out.trans (Kp.drewN _ _))).trans kk)
  clear kk
  obtain ⟨w3, hV⟩ : ∃ x, x = w2.alloc (.cells #[.int .i64 2, .int .i64 0, .string ⟨#[]⟩, .string ⟨#[]⟩, .string ⟨#[]⟩, .bool false, .bool false, .slice adl l.length cal] 26) := ⟨_, rfl⟩
  have ka : Kp w2 w3 := by rw [hV]; exact Kp.alloc _ _
  have hgq : w3.heap[w2.heap.size]? = some (.cells #[.int .i64 2, .int .i64 0, .string ⟨#[]⟩, .string ⟨#[]⟩, .string ⟨#[]⟩, .bool false, .bool false, .slice adl l.length cal] 26 (0, 0)) := by rw [hV]; exact heap_at _ _ _ rfl
  have q0 : w3.cell? ⟨w2.heap.size, 0, none⟩ = some (.int .i64 2) := by simp [World.cell?, hgq]
  have q1 : w3.cell? ⟨w2.heap.size, 1, none⟩ = some (.int .i64 0) := by simp [World.cell?, hgq]
  have q2 : w3.cell? ⟨w2.heap.size, 2, none⟩ = some (.string ⟨#[]⟩) := by simp [World.cell?, hgq]
  have q3 : w3.cell? ⟨w2.heap.size, 3, none⟩ = some (.string ⟨#[]⟩) := by simp [World.cell?, hgq]
  have q4 : w3.cell? ⟨w2.heap.size, 4, none⟩ = some (.string ⟨#[]⟩) := by simp [World.cell?, hgq]
  have q5 : w3.cell? ⟨w2.heap.size, 5, none⟩ = some (.bool false) := by simp [World.cell?, hgq]
  have q6 : w3.cell? ⟨w2.heap.size, 6, none⟩ = some (.bool false) := by simp [World.cell?, hgq]
  have q7 : w3.cell? ⟨w2.heap.size, 7, none⟩ = some (.slice adl l.length cal) := by simp [World.cell?, hgq]
  have HB2 := Lib.hid (fun w1 (k : Kp w3 w1) => show w1.cell? ⟨w2.heap.size, 0, none⟩ = some (.int .i64 2) ∧ w1.cell? ⟨w2.heap.size, 1, none⟩ = some (.int .i64 0) ∧ w1.cell? ⟨w2.heap.size, 2, none⟩ = some (.string ⟨#[]⟩) ∧ w1.cell? ⟨w2.heap.size, 3, none⟩ = some (.string ⟨#[]⟩) ∧ w1.cell? ⟨w2.heap.size, 4, none⟩ = some (.string ⟨#[]⟩) ∧ w1.cell? ⟨w2.heap.size, 5, none⟩ = some (.bool false) ∧ w1.cell? ⟨w2.heap.size, 6, none⟩ = some (.bool false) ∧ w1.cell? ⟨w2.heap.size, 7, none⟩ = some (.slice adl l.length cal) from ⟨cell_up k q0, cell_up k q1, cell_up k q2, cell_up k q3, cell_up k q4, cell_up k q5, cell_up k q6, cell_up k q7⟩)
  have K01 := Lib.hid (K00.out.trans (K2.out.trans ka))
  clear HB K00 hgq  q0 q1 q2 q3 q4 q5 q6 q7
  have HB := HB2
  have K00 := K01
  clear HB2 K01
  have K3 := Lib.hid (Kp.refl w3)
  have Hw3 := Lib.hid hV
  clear hV ka
  go_wp2_with fail
  rw [← Hw3.out]
  obtain ⟨c0, c1, c2, c3, c4, c5, c6, c7⟩ := HB.out w3 (Kp.refl _)
  go_wp2_with fail
  refine (FW.out _ (K00.out.trans (by first | with_reducible exact K3.out | with_reducible exact K3.out.trans (Kp.alloc _ _) | with_reducible exact (K3.out.trans (Kp.alloc _ _)).trans (Kp.alloc _ _) | with_reducible exact ((K3.out.trans (Kp.alloc _ _)).trans (Kp.alloc _ _)).trans (Kp.alloc _ _) | with_reducible exact K3.out.trans (Kp.drew _) | with_reducible exact K3.out.trans (Kp.drewN _ _)))).mono ?_
  rintro e w4 ⟨rfl, kk⟩
  have K4 := Lib.hid ((show Kp w3 _ from (by first | with_reducible exact K3.out | with_reducible exact K3.out.trans (Kp.alloc _ _) | with_reducible exact (K3.out.trans (Kp.alloc _ _)).trans (Kp.alloc _ _) | with_reducible exact ((K3.out.trans (Kp.alloc _ _)).trans (Kp.alloc _ _)).trans (Kp.alloc _ _) | with_reducible exact K3.out.trans (Kp.drew _) | with_reducible exact K3.out.trans (Kp.drewN _ _))).trans kk)
  clear kk
  clear c0 c1 c2 c3 c4 c5 c6 c7
  obtain ⟨c0, c1, c2, c3, c4, c5, c6, c7⟩ := HB.out w4 K4.out
  go_wp2_with fail
  refine (SN.out _ (K00.out.trans (by first | with_reducible exact K4.out | with_reducible exact K4.out.trans (Kp.alloc _ _) | with_reducible exact (K4.out.trans (Kp.alloc _ _)).trans (Kp.alloc _ _) | with_reducible exact ((K4.out.trans (Kp.alloc _ _)).trans (Kp.alloc _ _)).trans (Kp.alloc _ _) | with_reducible exact K4.out.trans (Kp.drew _) | with_reducible exact K4.out.trans (Kp.drewN _ _)))).mono ?_
  rintro e w5 ⟨rfl, kk⟩
  have K5 := Lib.hid ((show Kp w3 _ from (by first | with_reducible exact K4.out | with_reducible exact K4.out.trans (Kp.alloc _ _) | with_reducible exact (K4.out.trans (Kp.alloc _ _)).trans (Kp.alloc _ _) | with_reducible exact ((K4.out.trans (Kp.alloc _ _)).trans (Kp.alloc _ _)).trans (Kp.alloc _ _) | with_reducible exact K4.out.trans (Kp.drew _) | with_reducible exact K4.out.trans (Kp.drewN _ _))).trans kk)
  clear kk
  clear c0 c1 c2 c3 c4 c5 c6 c7
  obtain ⟨c0, c1, c2, c3, c4, c5, c6, c7⟩ := HB.out w5 K5.out
  go_wp2_with fail
  refine (CN.out _ (K00.out.trans (by first | with_reducible exact K5.out | with_reducible exact K5.out.trans (Kp.alloc _ _) | with_reducible exact (K5.out.trans (Kp.alloc _ _)).trans (Kp.alloc _ _) | with_reducible exact ((K5.out.trans (Kp.alloc _ _)).trans (Kp.alloc _ _)).trans (Kp.alloc _ _) | with_reducible exact K5.out.trans (Kp.drew _) | with_reducible exact K5.out.trans (Kp.drewN _ _)))).mono ?_
  rintro e w6 ⟨v6, rfl, hc6, kk⟩
  have K6 := Lib.hid ((show Kp w3 _ from (by first | with_reducible exact K5.out | with_reducible exact K5.out.trans (Kp.alloc _ _) | with_reducible exact (K5.out.trans (Kp.alloc _ _)).trans (Kp.alloc _ _) | with_reducible exact ((K5.out.trans (Kp.alloc _ _)).trans (Kp.alloc _ _)).trans (Kp.alloc _ _) | with_reducible exact K5.out.trans (Kp.drew _) | with_reducible exact K5.out.trans (Kp.drewN _ _))).trans kk)
  have CA6 := Lib.hid hc6
  have KK6 := Lib.hid kk
  obtain ⟨ad6, n6, cp6, hv6⟩ : ∃ ad n cp, v6 = .slice ad n cp := by obtain ⟨a, b, e⟩ := (hc6.nodes kk).slice; exact ⟨a, _, b, e⟩
  subst hv6
  clear kk hc6
  clear c0 c1 c2 c3 c4 c5 c6 c7
  obtain ⟨c0, c1, c2, c3, c4, c5, c6, c7⟩ := HB.out w6 K6.out
  have CP6 := Lib.hid (CP.out _ _ _ _ _ CA6.out KK6.out)
  rw [HPL.out] at CP6
  (try unfold ndV at CP6)
  (try simp only [ND.k, ND.p, ND.a, ND.t, ND.l] at CP6)
  (try dsimp only at CP6)
  go_wp2_with fail
  refine (CP6.out).mono ?_
  rintro e w7 ⟨v7, ms7, rfl, hm7, hr7, hs7, hx7, hn7, kk⟩
  have K7 := Lib.hid ((show Kp w3 _ from (by first | with_reducible exact K6.out | with_reducible exact K6.out.trans (Kp.alloc _ _) | with_reducible exact (K6.out.trans (Kp.alloc _ _)).trans (Kp.alloc _ _) | with_reducible exact ((K6.out.trans (Kp.alloc _ _)).trans (Kp.alloc _ _)).trans (Kp.alloc _ _) | with_reducible exact K6.out.trans (Kp.drew _) | with_reducible exact K6.out.trans (Kp.drewN _ _))).trans kk)
  have NA7 := Lib.hid hn7
  obtain ⟨ad7, cp7, hv7⟩ := hn7.slice
  subst hv7
  clear kk hm7 hr7 hs7 hx7 hn7
  clear c0 c1 c2 c3 c4 c5 c6 c7
  obtain ⟨c0, c1, c2, c3, c4, c5, c6, c7⟩ := HB.out w7 K7.out
  obtain ⟨i0, hi, hz0, hz1, hz2⟩ := info_parts infoNode
  clear c0 c1 c2 c3 c4 c5 c6 c7
  go_wp2
  go_loopw [6, 7] (fun s i ws => ∃ (j : Nat) (ms : List NV), j ≤ l.length ∧ i = .int .i64 j ∧ Hid (ms.map Prod.fst = flL (l.take j)) ∧ Hid (ReadsN w7 ms) ∧ Hid (ws.ownsRow w7.heap.size 26 8 s ms.length (cellsN ms)) ∧ Hid (Kp w7 ws)) (fun _ i _ => l.length - (intOf i).toNat)
  case atStart => exact ⟨0, [], Nat.zero_le _, rfl, Lib.hid T0.out.symm, Lib.hid (fun p hp => by cases hp), Lib.hid (World.ownsRow_nil _ _ _ _), Lib.hid (Kp.refl w7)⟩
  case round =>
    obtain ⟨j, ms, hj, rfl, MJ, RJ, OJ, KJ⟩ := hrel
    obtain ⟨sad, scp, rfl⟩ := own_slice8 OJ.out
    by_cases hlt : j < l.length
    · have kw7 : Kp W0 w7 := K00.out.trans K7.out
      obtain ⟨bk, off, vi, eva, hrow, hsub⟩ := (HLW.out.kp kw7).get hlt
      subst eva
      have hrow := hrow.kp KJ.out
      have IX := CE.out (nth l j) vi w7 wr hsub KJ.out kw7
      have sj := SA.out j hlt
      rw [canF_yes sj] at IX
      have tk := TK.out j hlt
      have lj := LP.out j hlt
      have l0 := (LB.out j).1
      have NL := Lib.hid (show ms.length ≤ 64 by have a := congrArg List.length MJ.out; rw [List.length_map] at a; omega)
      obtain ⟨x, hx⟩ : ∃ x, nth l j = x := ⟨_, rfl⟩
      rw [hx] at hrow hsub IX tk lj
      obtain ⟨c, hcx⟩ : ∃ c, canN x = c := ⟨_, rfl⟩
      rw [hcx] at IX tk lj
      obtain ⟨PX, hPX⟩ : ∃ u, partsN c = u := ⟨_, rfl⟩
      rw [hPX] at tk lj
      have TJ := Lib.hid tk
      have LJ := Lib.hid lj
      have HPX := Lib.hid hPX
      clear sj tk lj l0 hx hcx hPX kw7
      obtain ⟨k1, pk1, y1, m1, s1, a1, t1, l1', rfl⟩ := nd_dest x
      obtain ⟨k2, pk2, y2, m2, s2, a2, t2, l2, rfl⟩ := nd_dest c
      unfold RowN at hrow
      simp only [ND.k, ND.p, ND.a, ND.t, ND.l] at hrow hsub
      obtain ⟨ad1, cp1, rfl⟩ := hsub.slice
      (try unfold ndV at IX)
      (try simp only [ND.k, ND.p, ND.a, ND.t, ND.l] at IX)
      (try dsimp only at IX)
      obtain ⟨n1, hn1⟩ : ∃ n, l1'.length = n := ⟨_, rfl⟩
      rw [hn1] at hrow IX
      obtain ⟨e0, e1, e2, e3, e4, e5, e6, e7⟩ := hrow
      have IXH := Lib.hid IX
      have z1 : (j : Int) < (l.length : Int) := by omega
      have z3 : (0 : Int) ≤ (j : Int) := by omega
      have HLT := Lib.hid hlt
      have hbk := World.block_lt_of_cell? _ _ e0
      simp only at hbk
      clear hsub IX hn1
      go_wp2_with fail
      refine IXH.out.mono ?_
      rintro e w8 ⟨v8, rfl, hc8, k8⟩
      obtain ⟨ad8, n8, cp8, hv8⟩ : ∃ ad n cp, v8 = .slice ad n cp := by obtain ⟨a, b, e⟩ := (hc8.nodes (KJ.out.trans k8)).slice; exact ⟨a, _, b, e⟩
      subst hv8
      have CP8 := Lib.hid (CP.out _ _ _ _ _ hc8 (KJ.out.trans k8))
      rw [HPX.out] at CP8
      (try unfold ndV at CP8)
      (try simp only [ND.k, ND.p, ND.a, ND.t, ND.l] at CP8)
      (try dsimp only at CP8)
      have K8 := Lib.hid k8
      clear hc8 k8
      go_wp2_with fail
      refine CP8.out.mono ?_
      rintro e w9 ⟨v9, m9, rfl, hm9, hr9, hs9, hx9, hn9, k9⟩
      obtain ⟨ad9, cp9, rfl⟩ := hx9
      have K9 := Lib.hid (KJ.out.trans (K8.out.trans k9))
      have O9 := Lib.hid (own_kp OJ.out (K8.out.trans k9))
      have M9 := Lib.hid hm9
      have R9 := Lib.hid hr9
      have SR9 := Lib.hid hs9
      have L9 := Lib.hid (cellsN_length m9)
      have ONE9 := Lib.hid (cellsN_one hr9)
      have N9 := Lib.hid (show m9.length ≤ 64 by have a := congrArg List.length hm9; rw [List.length_map] at a; have := LJ.out; omega)
      clear hm9 hr9 hs9 hn9 k9 e0 e1 e2 e3 e4 e5 e6 e7
      go_wp2_with (at_builtin; refine Hid.out ?_)
      refine Lib.hid ?_
      refine wpList_app rfl (.tmp 34) (.tmp 40) 24 rfl w7.heap.size 26 i0 (.agg #[.int .i64 0, .int .i64 0, .string ⟨#[]⟩, .string ⟨#[]⟩, .string ⟨#[]⟩, .bool false, .bool false, .slice none 0 0]) 8 96 Tryd.underlying24 hi hz0 hz1 hz2 rfl (by decide) _ _ _ rfl O9.out _ _ _ rfl SR9.out L9.out ONE9.out (by have a := NL.out; have b := N9.out; unfold maxLen; omega) (by have a := NL.out; have b := N9.out; omega) (Below.size K9.out) ?_
      intro v8 w8 own8 grow8 at8
      have KE := Lib.hid (K9.out.grown grow8 (fun j hj => (O9.out.lt j hj).1))
      have O8 := Lib.hid own8
      clear grow8 at8 own8
      go_wp2
      go_roundw
      case rel => exact ⟨j + 1, ms ++ m9, HLT.out, by go_num, Lib.hid (by rw [List.map_append, MJ.out, M9.out, TJ.out]), Lib.hid (RJ.out.append R9.out), Lib.hid (by rw [List.length_append, cellsN_append]; exact O8.out), KE⟩
      case measure => have := HLT.out; simp [intOf]; omega
    · obtain rfl : j = l.length := by omega
      have mj := MJ.out
      rw [TL.out] at mj
      have nw := nodesAt_own OJ.out (RJ.out.kp KJ.out)
      rw [mj] at nw
      have WI2 := Lib.hid (fun w1 (kk : Kp wr w1) => WI.out _ _ w1 (NA7.out.kp (KJ.out.trans kk)) (nw.kp kk))
      have WJ2 := Lib.hid (fun w1 (kk : Kp wr w1) => WJ.out _ _ w1 (nw.kp kk) (NA7.out.kp (KJ.out.trans kk)))
      clear nw mj
      go_wp2_with fail
      refine (WI2.out _ (Kp.refl _)).mono ?_
      rintro e wa ⟨rfl, kk⟩
      have KA := Lib.hid kk
      clear kk
      go_wp2_with fail
      refine (WJ2.out _ KA.out).mono ?_
      rintro e wb ⟨rfl, kk⟩
      have KB := Lib.hid (KA.out.trans kk)
      clear kk
      go_wp2
      go_ret
      exact ⟨rfl, K00.out.trans (K7.out.trans (KJ.out.trans KB.out))⟩
theorem cparts_walk (vl : Value) (l : List ND) (w : World) (hl : NodesAt w vl l) (T : TabSH w) :
    Calls Tryd.prog 6 #[vl] w fun e w' => e = .returned (.bool true) ∧ Kp w w' := by
  by_cases h20 : l.length ≤ 20
  · rcases Bool.eq_false_or_eq_true (fewG (orN l)) with hf | hf
    · rcases Bool.eq_false_or_eq_true (saneN saneP (orN l)) with hs | hs
      · exact cparts_yes vl l w hl T h20 hf hs
      · exact cparts_no vl l w hl T h20 hf hs
    · exact cparts_many vl l w hl T h20 hf
  · exact cparts_long vl l w hl T (by omega)
end Go.Proofs.YtgmigeehfhkimaaDoor

namespace Go.Proofs.YtgmigeehfhkimaaDoor.lawCanonParts
open Go.ChangeShapes Go.WideShapes Go.ChangeAt Go.RowKit
open Go.ChangeMaps (open_string shut_string)
set_option linter.unusedVariables false

theorem own : ownKnob Tryd.prog.godebug = none := by kernel_rfl
theorem laidOut : laidOutB Tryd.prog = true := by kernel_rfl

/-- A world for the witness: the settled one, each table holding what its initialiser lays. -/
noncomputable def laidWorld (os : Os) : World :=
  { World.holding Tryd.prog os ⟨#[], #[], []⟩ with heap := ((World.holding Tryd.prog os ⟨#[], #[], []⟩).heap.modify 0 fun
      | .cells _ t frozen => .cells #[.int .i64 4, .int .i64 2, .int .i64 2, .int .i64 12, .string ⟨#[]⟩, .int .i64 4, .int .i64 2, .int .i64 0, .int .i64 12, .string ⟨#[]⟩, .int .i64 4, .int .i64 1, .int .i64 0, .int .i64 4, .string ⟨#[]⟩, .int .i64 4, .int .i64 0, .int .i64 0, .int .i64 0, .string ⟨#[]⟩, .int .i64 3, .int .i64 0, .int .i64 0, .int .i64 0, .string ⟨#[100]⟩, .int .i64 2, .int .i64 0, .int .i64 0, .int .i64 0, .string ⟨#[99]⟩] t frozen
      | o => o) }
theorem laid_met (os : Os) : laidMet Tryd.prog Rows.canonPartsRow.laid ((laidWorld os).forCall (fun _ _ => 0) ⟨#[], #[.slice none 0 0], []⟩).memory :=
  laidMet_of_run' 8 (by kernel_rfl) (by kernel_rfl)
theorem reads (os : Os) {H : Type} (enc : TypeId × Value → H) : ∃ places, DataW.whole enc Tryd.prog ((laidWorld os).forCall (fun _ _ => 0) ⟨#[], #[.slice none 0 0], []⟩).memory Tryd.f6.params.toList Rows.canonPartsSpec.vars false (#[.slice none 0 0] : Array Value).toList 8 = some ([.nil], [], places) :=
  ⟨[], by kernel_rfl⟩

set_option maxRecDepth 100000 in
theorem contract (H : Type) (enc : TypeId × Value → H) (W : World) (base : Nat) (args : Array Value) (ds gs : List (DataW H)) (before : List MemPlace)
    (hval : ∀ (j : Nat) t v, Tryd.f6.params[j]? = some t → args[j]? = some v → Value.okWide Tryd.prog W .any base t v)
    (hW : DataW.Whole enc Tryd.prog Tryd.f6.params.toList Rows.canonPartsSpec.vars false W args.toList ds gs before) (hL : laidMetH Tryd.prog Rows.canonPartsRow.laid W) :
    Calls Tryd.prog 6 args W fun e W' => ∃ v, e = .returned v ∧ Rows.canonPartsSpec.post enc Tryd.prog Tryd.f6 false true false false W args v W' := by
  have hW' := hW
  have hltA : ∀ x ∈ before, x.block < W.heap.size := fun x hx => by simpa using hW'.lt x hx
  obtain ⟨p, q, hA0, hV, rfl, hfz, hnd⟩ := hW
  have hA : DataW.TrodAll enc Tryd.prog W 0 (fun _ => true) true Tryd.f6.params.toList args.toList ds p := hA0
  rw [Tryd.params6] at hA hval
  obtain ⟨v0, vs0, d0, ds0, p0, q0, hargs, rfl, rfl, h0, r0⟩ := trodAll_cons hA
  obtain ⟨rfl, rfl, rfl⟩ := trodAll_nil r0
  obtain rfl : args = #[v0] := by cases args; simp_all
  obtain ⟨rfl, rfl⟩ := trodVars_none hV
  have hk0 := h0
  obtain ⟨l0, hn0, gn0, wg0⟩ := open_nodes (hval 0 24 v0 rfl rfl) h0
  clear hA0
  simp only [List.append_nil] at hW'
  refine (cparts_walk v0 l0 W hn0 (tabs_of1 hL)).mono fun e W' ⟨he, hg⟩ => ?_
  subst he
  have bel : Below W.heap.size W W' := hg
  exact ⟨_, rfl, _, _, _, [], _, [], hW', trodAll_mk1 (shut_bool Tryd.underlying4 _), (trodAll_cons_mk (Below.trod laidOut (by kernel_rfl) (of_decide_eq_true (by kernel_rfl)) hk0 bel (fun x hx => hltA x (by simp [hx]))) trodAll_mk0), rfl, bel.frame _, fun h => by cases h⟩

set_option maxRecDepth 100000 in
theorem lifted (os : Os) (started : os.Started) (H : Type) (enc : TypeId × Value → H) (F : Stop.Interp) :
    ReturnsInHanded {} Tryd.checked os 6 .any ((OpenSpec.ofChange Rows.canonPartsSpec).preRow enc Tryd.prog Tryd.f6 Rows.canonPartsRow.domain false Rows.canonPartsRow.laid) (((OpenSpec.ofChange Rows.canonPartsSpec).at F).post enc Tryd.prog Tryd.f6 false true false false) := by
  obtain ⟨places, hx⟩ := reads os enc
  refine returnsInHanded_of_row (C := Tryd.checked) (s := OpenSpec.ofChange Rows.canonPartsSpec) own started (by kernel_rfl) Tryd.func6
    (witness_row_at (enc := enc) (C := Tryd.checked) false (laidWorld os) #[.slice none 0 0] rfl (by kernel_rfl) (by kernel_rfl) (by kernel_rfl)
      (OpenSpec.preRow_of_cond 8 hx (by kernel_rfl) (fun k hk => by cases hk) (by kernel_rfl) (laid_met os))) ?_
  intro W base args ds gs before hval hW _ hcond _ hL _ _
  exact contract H enc W base args ds gs before hval hW hL

theorem said : Rows.CanonPartsSaid :=
  OpenClaim.holds_of_cond 6 Tryd.f6 rfl rfl rfl rfl rfl rfl rfl ⟨rfl, rfl, rfl, rfl, rfl⟩ rfl rfl rfl rfl rfl (by kernel_rfl) Tryd.func6 (by kernel_rfl)
    (of_decide_eq_true (by kernel_rfl)) (by unfold Func.isWrapper; first | (rw [if_pos (by decide +kernel)]; kernel_rfl) | (rw [if_neg (by decide +kernel)]; exact ⟨rfl, rfl⟩))
    (fun os started H enc _ F => by rw [OpenClaim.pre_eq_preRow]; exact lifted os started H enc F)

theorem plain (f : FuncId) (fn : Func) (hf : Tryd.pinned.checked.prog.funcNamed "lustrum/lustrumlaw12.CanonParts" = some f) (hfn : Tryd.pinned.checked.prog.funcs[f]? = some fn) :
    true = Tryd.pinned.checked.prog.looks [] ∧ ∀ (j : Nat) t, fn.params[j]? = some t → Tryd.pinned.checked.prog.wantsStandIn t = false := by
  obtain rfl : f = 6 := Option.some.inj ((show Tryd.prog.funcNamed "lustrum/lustrumlaw12.CanonParts" = some 6 by kernel_rfl).symm.trans hf) |>.symm
  obtain rfl : fn = Tryd.f6 := (Option.some.inj (Tryd.func6.symm.trans hfn)).symm
  refine ⟨by kernel_rfl, fun j t ht => ?_⟩
  rw [Tryd.params6] at ht
  have hm := Array.mem_of_getElem? ht
  have ho : t = 24 := by first | simpa using hm | (simp at hm; rcases hm with h <;> simp [h])
  subst ho
  exact (show Tryd.prog.wantsStandIn 24 = false by kernel_rfl)

/-- THE CARD. -/
theorem proved : Rows.CanonPartsCardSaid :=
  Claim7.holds_tied_plain_at .later [] _ _ _ _ said (fun _ h => by cases h) (by kernel_rfl) (fun _ h => by cases h) canonParts_row_tie rfl ⟨rfl, rfl⟩ (by kernel_rfl) rfl plain (by kernel_rfl)
#print axioms proved
end Go.Proofs.YtgmigeehfhkimaaDoor.lawCanonParts
