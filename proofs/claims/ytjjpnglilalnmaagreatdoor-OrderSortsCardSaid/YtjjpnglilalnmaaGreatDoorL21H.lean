/-
  Layer 21: the reference's order; the walk of OrderSorts.
-/
import Derived.Test.YtjjpnglilalnmaaGreatDoorGRefC
import Derived.Test.YtjjpnglilalnmaaGreatDoorL21E
import Derived.Test.YtjjpnglilalnmaaGreatDoorGLeafA
namespace Go.Proofs.YtjjpnglilalnmaaGreatDoor
open Go.RowKit
set_option linter.unusedVariables false
set_option linter.unusedSimpArgs false
set_option maxHeartbeats 16000000 in
set_option maxRecDepth 100000 in
theorem r21ahead_any (v u : Value) (l m : List LF) (w : World) (hv : LeavesAt w v l) (hu : LeavesAt w u m) (hl : LsOk l) (hm : LsOk m) :
    Calls Tryz.prog 38 #[v, u] w fun e w' => e = .returned (.bool (ahB l m)) ∧ Kp w w' := by
  have K0 := Lib.hid (Kp.refl w)
  have CA := Lib.hid (fun w1 (k : Kp w w1) => r21Of_any v l w1 (hv.kp k) hl)
  have CB := Lib.hid (fun w1 (k : Kp w w1) => r21Of_any u m w1 (hu.kp k) hm)
  have CK := Lib.hid (fun w1 => r21Compare_any (keyA l) (keyB l) (keyA m) (keyB m) w1)
  unfold ahB
  clear hv hu hl hm
  generalize keyA l = xa at *
  generalize keyB l = xb at *
  generalize keyA m = xc at *
  generalize keyB m = xd at *
  generalize cmpK xa xb xc xd = ck at *
  generalize anyB l = a at *
  generalize anyB m = b at *
  obtain ⟨r, hr⟩ : ∃ r, (a && (!b || decide (ck < 0))) = r := ⟨_, rfl⟩
  rw [hr]
  cases a with
  | false =>
    cases b with
    | false =>
      obtain rfl : false = r := hr
      rw [erE_f] at CA
      rw [erE_f] at CB
      go_enter Tryz.func38, Tryz.ntmps38
      go_wp2_with fail
      refine (CA.out _ (by first | with_reducible exact K0.out | with_reducible exact K0.out.trans (Kp.alloc _ _) | with_reducible exact (K0.out.trans (Kp.alloc _ _)).trans (Kp.alloc _ _) | with_reducible exact ((K0.out.trans (Kp.alloc _ _)).trans (Kp.alloc _ _)).trans (Kp.alloc _ _) | with_reducible exact K0.out.trans (Kp.drew _) | with_reducible exact K0.out.trans (Kp.drewN _ _))).mono ?_
      rintro e w1 ⟨rfl, kk⟩
      have K1 := Lib.hid ((show Kp w _ from (by first | with_reducible exact K0.out | with_reducible exact K0.out.trans (Kp.alloc _ _) | with_reducible exact (K0.out.trans (Kp.alloc _ _)).trans (Kp.alloc _ _) | with_reducible exact ((K0.out.trans (Kp.alloc _ _)).trans (Kp.alloc _ _)).trans (Kp.alloc _ _) | with_reducible exact K0.out.trans (Kp.drew _) | with_reducible exact K0.out.trans (Kp.drewN _ _))).trans kk)
      clear kk
      obtain ⟨V, hV⟩ : ∃ z, z = w1.alloc (.cells #[.int .i64 xa, .int .i64 xb] 24) := ⟨_, rfl⟩
      have kv : Kp w1 V := by rw [hV]; exact Kp.alloc _ _
      have hg : V.heap[w1.heap.size]? = some (.cells #[.int .i64 xa, .int .i64 xb] 24 (0, 0)) := by rw [hV]; exact heap_at _ _ _ rfl
      have KV := Lib.hid (K1.out.trans kv)
      have HC := Lib.hid (fun w' (q : Kp V w') => show w'.cell? ⟨w1.heap.size, 0, none⟩ = some (.int .i64 xa) ∧ w'.cell? ⟨w1.heap.size, 1, none⟩ = some (.int .i64 xb) from ⟨cell_up q (by simp [World.cell?, hg]), cell_up q (by simp [World.cell?, hg])⟩)
      have HV := Lib.hid hV
      clear hV hg kv
      go_wp2_with fail
      rw [← HV.out]
      refine (CB.out _ KV.out).mono ?_
      rintro e w2 ⟨rfl, kk⟩
      have K2 := Lib.hid kk
      clear kk
      obtain ⟨d0, d1⟩ := HC.out w2 K2.out
      have lt3 : w1.heap.size < w2.heap.size := World.block_lt_of_cell? _ _ d0
      have ne3 : ¬ w1.heap.size = w2.heap.size := by omega
      go_wp2
      go_ret
      exact ⟨by first | rfl | (rw [← HR.out]; rfl), KV.out.trans (K2.out.trans (Kp.alloc _ _))⟩
    | true =>
      obtain rfl : false = r := hr
      rw [erE_f] at CA
      rw [erE_t] at CB
      go_enter Tryz.func38, Tryz.ntmps38
      go_wp2_with fail
      refine (CA.out _ (by first | with_reducible exact K0.out | with_reducible exact K0.out.trans (Kp.alloc _ _) | with_reducible exact (K0.out.trans (Kp.alloc _ _)).trans (Kp.alloc _ _) | with_reducible exact ((K0.out.trans (Kp.alloc _ _)).trans (Kp.alloc _ _)).trans (Kp.alloc _ _) | with_reducible exact K0.out.trans (Kp.drew _) | with_reducible exact K0.out.trans (Kp.drewN _ _))).mono ?_
      rintro e w1 ⟨rfl, kk⟩
      have K1 := Lib.hid ((show Kp w _ from (by first | with_reducible exact K0.out | with_reducible exact K0.out.trans (Kp.alloc _ _) | with_reducible exact (K0.out.trans (Kp.alloc _ _)).trans (Kp.alloc _ _) | with_reducible exact ((K0.out.trans (Kp.alloc _ _)).trans (Kp.alloc _ _)).trans (Kp.alloc _ _) | with_reducible exact K0.out.trans (Kp.drew _) | with_reducible exact K0.out.trans (Kp.drewN _ _))).trans kk)
      clear kk
      obtain ⟨V, hV⟩ : ∃ z, z = w1.alloc (.cells #[.int .i64 xa, .int .i64 xb] 24) := ⟨_, rfl⟩
      have kv : Kp w1 V := by rw [hV]; exact Kp.alloc _ _
      have hg : V.heap[w1.heap.size]? = some (.cells #[.int .i64 xa, .int .i64 xb] 24 (0, 0)) := by rw [hV]; exact heap_at _ _ _ rfl
      have KV := Lib.hid (K1.out.trans kv)
      have HC := Lib.hid (fun w' (q : Kp V w') => show w'.cell? ⟨w1.heap.size, 0, none⟩ = some (.int .i64 xa) ∧ w'.cell? ⟨w1.heap.size, 1, none⟩ = some (.int .i64 xb) from ⟨cell_up q (by simp [World.cell?, hg]), cell_up q (by simp [World.cell?, hg])⟩)
      have HV := Lib.hid hV
      clear hV hg kv
      go_wp2_with fail
      rw [← HV.out]
      refine (CB.out _ KV.out).mono ?_
      rintro e w2 ⟨rfl, kk⟩
      have K2 := Lib.hid kk
      clear kk
      obtain ⟨d0, d1⟩ := HC.out w2 K2.out
      have lt3 : w1.heap.size < w2.heap.size := World.block_lt_of_cell? _ _ d0
      have ne3 : ¬ w1.heap.size = w2.heap.size := by omega
      go_wp2
      go_ret
      exact ⟨by first | rfl | (rw [← HR.out]; rfl), KV.out.trans (K2.out.trans (Kp.alloc _ _))⟩
  | true =>
    cases b with
    | false =>
      obtain rfl : true = r := hr
      rw [erE_t] at CA
      rw [erE_f] at CB
      go_enter Tryz.func38, Tryz.ntmps38
      go_wp2_with fail
      refine (CA.out _ (by first | with_reducible exact K0.out | with_reducible exact K0.out.trans (Kp.alloc _ _) | with_reducible exact (K0.out.trans (Kp.alloc _ _)).trans (Kp.alloc _ _) | with_reducible exact ((K0.out.trans (Kp.alloc _ _)).trans (Kp.alloc _ _)).trans (Kp.alloc _ _) | with_reducible exact K0.out.trans (Kp.drew _) | with_reducible exact K0.out.trans (Kp.drewN _ _))).mono ?_
      rintro e w1 ⟨rfl, kk⟩
      have K1 := Lib.hid ((show Kp w _ from (by first | with_reducible exact K0.out | with_reducible exact K0.out.trans (Kp.alloc _ _) | with_reducible exact (K0.out.trans (Kp.alloc _ _)).trans (Kp.alloc _ _) | with_reducible exact ((K0.out.trans (Kp.alloc _ _)).trans (Kp.alloc _ _)).trans (Kp.alloc _ _) | with_reducible exact K0.out.trans (Kp.drew _) | with_reducible exact K0.out.trans (Kp.drewN _ _))).trans kk)
      clear kk
      obtain ⟨V, hV⟩ : ∃ z, z = w1.alloc (.cells #[.int .i64 xa, .int .i64 xb] 24) := ⟨_, rfl⟩
      have kv : Kp w1 V := by rw [hV]; exact Kp.alloc _ _
      have hg : V.heap[w1.heap.size]? = some (.cells #[.int .i64 xa, .int .i64 xb] 24 (0, 0)) := by rw [hV]; exact heap_at _ _ _ rfl
      have KV := Lib.hid (K1.out.trans kv)
      have HC := Lib.hid (fun w' (q : Kp V w') => show w'.cell? ⟨w1.heap.size, 0, none⟩ = some (.int .i64 xa) ∧ w'.cell? ⟨w1.heap.size, 1, none⟩ = some (.int .i64 xb) from ⟨cell_up q (by simp [World.cell?, hg]), cell_up q (by simp [World.cell?, hg])⟩)
      have HV := Lib.hid hV
      clear hV hg kv
      go_wp2_with fail
      rw [← HV.out]
      refine (CB.out _ KV.out).mono ?_
      rintro e w2 ⟨rfl, kk⟩
      have K2 := Lib.hid kk
      clear kk
      obtain ⟨d0, d1⟩ := HC.out w2 K2.out
      have lt3 : w1.heap.size < w2.heap.size := World.block_lt_of_cell? _ _ d0
      have ne3 : ¬ w1.heap.size = w2.heap.size := by omega
      go_wp2
      go_ret
      exact ⟨by first | rfl | (rw [← HR.out]; rfl), KV.out.trans (K2.out.trans (Kp.alloc _ _))⟩
    | true =>
      have HR := Lib.hid (show decide (ck < 0) = r from by simpa using hr)
      clear hr
      rw [erE_t] at CA
      rw [erE_t] at CB
      go_enter Tryz.func38, Tryz.ntmps38
      go_wp2_with fail
      refine (CA.out _ (by first | with_reducible exact K0.out | with_reducible exact K0.out.trans (Kp.alloc _ _) | with_reducible exact (K0.out.trans (Kp.alloc _ _)).trans (Kp.alloc _ _) | with_reducible exact ((K0.out.trans (Kp.alloc _ _)).trans (Kp.alloc _ _)).trans (Kp.alloc _ _) | with_reducible exact K0.out.trans (Kp.drew _) | with_reducible exact K0.out.trans (Kp.drewN _ _))).mono ?_
      rintro e w1 ⟨rfl, kk⟩
      have K1 := Lib.hid ((show Kp w _ from (by first | with_reducible exact K0.out | with_reducible exact K0.out.trans (Kp.alloc _ _) | with_reducible exact (K0.out.trans (Kp.alloc _ _)).trans (Kp.alloc _ _) | with_reducible exact ((K0.out.trans (Kp.alloc _ _)).trans (Kp.alloc _ _)).trans (Kp.alloc _ _) | with_reducible exact K0.out.trans (Kp.drew _) | with_reducible exact K0.out.trans (Kp.drewN _ _))).trans kk)
      clear kk
      obtain ⟨V, hV⟩ : ∃ z, z = w1.alloc (.cells #[.int .i64 xa, .int .i64 xb] 24) := ⟨_, rfl⟩
      have kv : Kp w1 V := by rw [hV]; exact Kp.alloc _ _
      have hg : V.heap[w1.heap.size]? = some (.cells #[.int .i64 xa, .int .i64 xb] 24 (0, 0)) := by rw [hV]; exact heap_at _ _ _ rfl
      have KV := Lib.hid (K1.out.trans kv)
      have HC := Lib.hid (fun w' (q : Kp V w') => show w'.cell? ⟨w1.heap.size, 0, none⟩ = some (.int .i64 xa) ∧ w'.cell? ⟨w1.heap.size, 1, none⟩ = some (.int .i64 xb) from ⟨cell_up q (by simp [World.cell?, hg]), cell_up q (by simp [World.cell?, hg])⟩)
      have HV := Lib.hid hV
      clear hV hg kv
      go_wp2_with fail
      rw [← HV.out]
      refine (CB.out _ KV.out).mono ?_
      rintro e w2 ⟨rfl, kk⟩
      have K2 := Lib.hid kk
      clear kk
      obtain ⟨d0, d1⟩ := HC.out w2 K2.out
      have lt3 : w1.heap.size < w2.heap.size := World.block_lt_of_cell? _ _ d0
      have ne3 : ¬ w1.heap.size = w2.heap.size := by omega
      go_wp2_with fail
      refine (CK.out _).mono ?_
      rintro e w3 ⟨rfl, kk⟩
      have K3 := Lib.hid (KV.out.trans (K2.out.trans ((Kp.alloc _ _).trans kk)))
      clear kk
      go_wp2
      go_ret
      exact ⟨by first | rfl | (rewrite [HR.out]; rfl), K3.out⟩
abbrev sI0 : Oper := { dst := some 17, op := Go.Op.move (Go.Operand.tmp 0), type := 41, pos := "ref.go:103", after := #[], guard := none }
abbrev sI1 : Oper := { dst := some 18, op := Go.Op.move (Go.Operand.tmp 5), type := 3, pos := "ref.go:103", after := #[], guard := none }
abbrev sI2 : Oper := { dst := some 19, op := Go.Op.indexAddr 41 (Go.Operand.tmp 17) (Go.Operand.tmp 18), type := 0, pos := "ref.go:103", after := #[{ on := 0, ground := Go.Ground.data }, { on := 1, ground := Go.Ground.data }], guard := none }
abbrev sI3 : Oper := { dst := some 20, op := Go.Op.load 3 (Go.Operand.tmp 19), type := 3, pos := "ref.go:103", after := #[{ on := 2, ground := Go.Ground.data }], guard := none }
abbrev sI4 : Oper := { dst := some 21, op := Go.Op.move (Go.Operand.tmp 1), type := 41, pos := "ref.go:103", after := #[], guard := none }
abbrev sI5 : Oper := { dst := some 22, op := Go.Op.move (Go.Operand.tmp 5), type := 3, pos := "ref.go:103", after := #[], guard := none }
abbrev sI6 : Oper := { dst := some 23, op := Go.Op.indexAddr 41 (Go.Operand.tmp 21) (Go.Operand.tmp 22), type := 0, pos := "ref.go:103", after := #[{ on := 4, ground := Go.Ground.data }, { on := 5, ground := Go.Ground.data }], guard := none }
abbrev sI7 : Oper := { dst := some 24, op := Go.Op.load 3 (Go.Operand.tmp 23), type := 3, pos := "ref.go:103", after := #[{ on := 6, ground := Go.Ground.data }], guard := none }
abbrev sI8 : Oper := { dst := some 25, op := Go.Op.binOp Go.BinOp.neq 3 (Go.Operand.tmp 20) (Go.Operand.tmp 24) 3, type := 4, pos := "ref.go:103", after := #[{ on := 3, ground := Go.Ground.data }, { on := 7, ground := Go.Ground.data }], guard := none }
set_option maxHeartbeats 16000000 in
set_option maxRecDepth 100000 in
theorem rsame18_any (v u : Value) (out : List Int) (w : World) (hv : IntsAt w v out) (hu : IntsAt w u out) :
    Calls Tryz.prog 17 #[v, u] w fun e w' => e = .returned (.bool true) ∧ Kp w w' := by
  obtain ⟨ad, cp, rfl⟩ := hv.slice
  obtain ⟨bd, cq, rfl⟩ := hu.slice
  have HV := Lib.hid hv
  have HU := Lib.hid hu
  have K0 := Lib.hid (Kp.refl w)
  have en : (out.length != out.length) = false := by simp
  have en2 : ((out.length : Int) != (out.length : Int)) = false := by simp
  clear hv hu
  go_enter Tryz.func17, Tryz.ntmps17
  go_wp2
  go_loopw [5] (fun iv wr => ∃ k : Nat, k ≤ out.length ∧ iv = .int .i64 k ∧ Hid (Kp w wr)) (fun iv _ => out.length - (intOf iv).toNat)
  case atStart => exact ⟨0, Nat.zero_le _, rfl, K0⟩
  case round =>
    obtain ⟨k, hk, rfl, J⟩ := hrel
    by_cases hlt : k < out.length
    · rcases HV.out.kp J.out with ⟨_, _, _, e⟩ | ⟨b, off, cap, ev, hc, hmx, hx⟩
      · rw [e] at hlt; simp at hlt
      cases ev
      rcases HU.out.kp J.out with ⟨_, _, _, e⟩ | ⟨c, of2, cap2, ev, hc2, hmx2, hx2⟩
      · rw [e] at hlt; simp at hlt
      cases ev
      have c0 := hx k hlt
      have c1 := hx2 k hlt
      generalize out.getD k 0 = x at *
      have z1 : (k : Int) < (out.length : Int) := by omega
      have z2 : (0 : Int) ≤ (k : Int) := by omega
      have q0 : (x != x) = false := by simp
      have KS := Lib.hid (fun w' (q : Kp wr w') => show w'.cell? ⟨b, off + k, none⟩ = some (.int .i64 x) ∧ w'.cell? ⟨c, of2 + k, none⟩ = some (.int .i64 x) ∧ Kp wr w' from ⟨cell_up q c0, cell_up q c1, q⟩)
      have HK1 := Lib.hid (show k + 1 ≤ out.length by omega)
      have HKV := Lib.hid (show Value.int IntKind.i64 ((k : Int) + 1) = Value.int IntKind.i64 ((k + 1 : Nat) : Int) from by simp)
      have HLT := Lib.hid hlt
      have hbd : (k : Int) + 1 ≤ 9223372036854775807 := by unfold maxLen at hmx; omega
      clear hx hx2 hc hc2 hmx hmx2
      go_wp2_with fail
      refine wp_region_held_drew (S := fun w' => w'.cell? ⟨b, off + k, none⟩ = some (.int .i64 x) ∧ w'.cell? ⟨c, of2 + k, none⟩ = some (.int .i64 x) ∧ Kp wr w') (by kernel_rfl) ?_ (fun hHeld0 => ?_)
      · (try dsimp only); exact KS.out _ (by first | assumption | exact Kp.drew _ | exact Kp.refl _)
      refine tkW (v := ?_) 0 sI0 rfl (by kernel_rfl) (by kernel_rfl) (by kernel_rfl) (fun _ _ _ h => h) (by rfl) ?_ (by assumption) ?_
      rotate_left
      · intro w hSw; (try dsimp only at hSw); go_simp; (try with_reducible rfl)
      (try simp only [Act.put, sI0, List.setIfInBounds_toArray, List.set_cons_zero, List.set_cons_succ])
      refine tkW (v := ?_) 1 sI1 rfl (by kernel_rfl) (by kernel_rfl) (by kernel_rfl) (fun _ _ _ h => h) (by rfl) ?_ (by assumption) ?_
      rotate_left
      · intro w hSw; (try dsimp only at hSw); go_simp; (try with_reducible rfl)
      (try simp only [Act.put, sI1, List.setIfInBounds_toArray, List.set_cons_zero, List.set_cons_succ])
      refine tkW (v := ?_) 2 sI2 rfl (by kernel_rfl) (by kernel_rfl) (by kernel_rfl) (fun _ _ _ h => h) (by rfl) ?_ (by assumption) ?_
      rotate_left
      · intro w hSw; (try dsimp only at hSw); go_simp; (try with_reducible rfl)
      (try simp only [Act.put, sI2, List.setIfInBounds_toArray, List.set_cons_zero, List.set_cons_succ])
      refine tkW (v := ?_) 3 sI3 rfl (by kernel_rfl) (by kernel_rfl) (by kernel_rfl) (fun _ _ _ h => h) (by rfl) ?_ (by assumption) ?_
      rotate_left
      · intro w hSw; (try dsimp only at hSw); go_simp; (try with_reducible rfl)
      (try simp only [Act.put, sI3, List.setIfInBounds_toArray, List.set_cons_zero, List.set_cons_succ])
      refine tkW (v := ?_) 4 sI4 rfl (by kernel_rfl) (by kernel_rfl) (by kernel_rfl) (fun _ _ _ h => h) (by rfl) ?_ (by assumption) ?_
      rotate_left
      · intro w hSw; (try dsimp only at hSw); go_simp; (try with_reducible rfl)
      (try simp only [Act.put, sI4, List.setIfInBounds_toArray, List.set_cons_zero, List.set_cons_succ])
      refine tkW (v := ?_) 5 sI5 rfl (by kernel_rfl) (by kernel_rfl) (by kernel_rfl) (fun _ _ _ h => h) (by rfl) ?_ (by assumption) ?_
      rotate_left
      · intro w hSw; (try dsimp only at hSw); go_simp; (try with_reducible rfl)
      (try simp only [Act.put, sI5, List.setIfInBounds_toArray, List.set_cons_zero, List.set_cons_succ])
      refine tkW (v := ?_) 6 sI6 rfl (by kernel_rfl) (by kernel_rfl) (by kernel_rfl) (fun _ _ _ h => h) (by rfl) ?_ (by assumption) ?_
      rotate_left
      · intro w hSw; (try dsimp only at hSw); go_simp; (try with_reducible rfl)
      (try simp only [Act.put, sI6, List.setIfInBounds_toArray, List.set_cons_zero, List.set_cons_succ])
      refine tkW (v := ?_) 7 sI7 rfl (by kernel_rfl) (by kernel_rfl) (by kernel_rfl) (fun _ _ _ h => h) (by rfl) ?_ (by assumption) ?_
      rotate_left
      · intro w hSw; (try dsimp only at hSw); go_simp; (try with_reducible rfl)
      (try simp only [Act.put, sI7, List.setIfInBounds_toArray, List.set_cons_zero, List.set_cons_succ])
      refine tkW (v := ?_) 8 sI8 rfl (by kernel_rfl) (by kernel_rfl) (by kernel_rfl) (fun _ _ _ h => h) (by rfl) ?_ (by assumption) ?_
      rotate_left
      · intro w hSw; (try dsimp only at hSw); go_simp; (try with_reducible rfl)
      (try simp only [Act.put, sI8, List.setIfInBounds_toArray, List.set_cons_zero, List.set_cons_succ])
      refine wpAnyH_done (by kernel_rfl) ?_ _
      have KE := Lib.hid (J.out.trans (Kp.drew wr))
      go_wp2
      go_roundw
      case rel => exact ⟨k + 1, HK1.out, HKV.out, KE⟩
      case measure => have := HLT.out; simp [intOf]; omega
    · obtain rfl : k = out.length := by omega
      go_wp2
      go_ret
      exact ⟨rfl, J.out⟩
theorem cellsN_len (l : List Int) : (cellsN l).length = l.length * 1 := by unfold cellsN; simp
theorem own_lit0 (w : World) (base : Nat) (e : TypeId) (h : base ≤ w.heap.size) : (w.alloc (.cells #[] e)).ownsRow base e 1 (.slice (some ⟨w.heap.size, 0, none⟩) 0 0) 0 [] :=
  ⟨rfl, .inr ⟨w.heap.size, 0, #[], rfl, h, heap_at _ _ _ rfl, Nat.le_refl _, Nat.zero_le _, rfl, rfl⟩⟩
theorem own_low {w : World} {base base' : Nat} {e : TypeId} {size n : Nat} {v : Value} {xs : List Value} (h : w.ownsRow base e size v n xs) (hb : base' ≤ base) : w.ownsRow base' e size v n xs := by
  refine ⟨h.1, ?_⟩
  rcases h.2 with q | ⟨g, cap, cur, e1, h1, rest⟩
  · exact .inl q
  · exact .inr ⟨g, cap, cur, e1, Nat.le_trans hb h1, rest⟩
theorem src_take {w : World} {base g n cap : Nat} {e : TypeId} {out : List Int} (h : w.ownsRow base e 1 (.slice (some ⟨g, 0, none⟩) n cap) n (cellsN out)) {k : Nat} (hk : k ≤ n) : SrcAt w (.slice (some ⟨g, 0, none⟩) k cap) k (cellsN (out.take k)) := by
  refine .inr ⟨_, _, rfl, fun j u hu => ?_⟩
  have hl := h.1
  have hj : j < k := by
    have := (List.getElem?_eq_some_iff.1 hu).1
    unfold cellsN at this
    rw [List.length_map, List.length_take] at this
    omega
  rw [Addr.add_lit, Nat.zero_add, h.cellAt j (by omega)]
  unfold cellsN at hu ⊢
  rw [List.map_take, List.getElem?_take, if_pos hj] at hu
  exact hu
theorem src_drop {w : World} {base g n cap : Nat} {e : TypeId} {out : List Int} (h : w.ownsRow base e 1 (.slice (some ⟨g, 0, none⟩) n cap) n (cellsN out)) {k m c : Nat} (hk : k ≤ n) (hm : m = n - k) : SrcAt w (.slice (some ⟨g, k, none⟩) m c) m (cellsN (out.drop k)) := by
  subst hm
  refine .inr ⟨_, _, rfl, fun j u hu => ?_⟩
  have hl := h.1
  have hj : j < n - k := by
    have := (List.getElem?_eq_some_iff.1 hu).1
    unfold cellsN at this hl
    rw [List.length_map, List.length_drop] at this
    rw [List.length_map] at hl
    omega
  rw [Addr.add_lit, h.cellAt _ (by omega)]
  unfold cellsN at hu ⊢
  rw [List.map_drop, List.getElem?_drop] at hu
  exact hu
theorem src_end {w : World} {a : Addr} {m c : Nat} {out : List Int} {k : Nat} (hk : out.length ≤ k) : SrcAt w (.slice (some a) m c) m (cellsN (out.drop k)) := by
  refine .inr ⟨_, _, rfl, fun j u hu => ?_⟩
  rw [List.drop_eq_nil_of_le hk] at hu
  simp [cellsN] at hu
theorem src_cut {w : World} {base g n cap : Nat} {e : TypeId} {out : List Int} (h : w.ownsRow base e 1 (.slice (some ⟨g, 0, none⟩) n cap) n (cellsN out)) {k c : Nat} (hk : k ≤ n) (hc : n ≤ cap) : SrcAt w (.slice (if cap = k then some ⟨g, 0, none⟩ else some ⟨g, k, none⟩) (n - k) c) (n - k) (cellsN (out.drop k)) := by
  by_cases e1 : cap = k
  · rw [if_pos e1]
    have hl := h.1
    rw [cellsN_len] at hl
    exact src_end (by omega)
  · rw [if_neg e1]
    exact src_drop h hk rfl
theorem src_one (w : World) (x : Int) (e : TypeId) : SrcAt (w.alloc (.cells #[.int .i64 x] e)) (.slice (some ⟨w.heap.size, 0, none⟩) 1 1) 1 [.int .i64 x] := by
  refine .inr ⟨_, _, rfl, fun j u hu => ?_⟩
  have h : (w.alloc (.cells #[.int .i64 x] e)).heap[w.heap.size]? = some (.cells #[.int .i64 x] e (0, 0)) := heap_at _ _ _ rfl
  obtain ⟨X, hX⟩ : ∃ z, z = w.alloc (.cells #[.int .i64 x] e) := ⟨_, rfl⟩
  rw [← hX] at h ⊢
  rw [Addr.add_lit]
  match j with
  | 0 => cases hu; simp [World.cell?, h]
  | j + 1 => simp at hu
theorem cellsN_one (l : List Int) : ∀ u ∈ cellsN l, u.oneCell' = true := by
  intro u hu
  unfold cellsN at hu
  obtain ⟨x, _, rfl⟩ := List.mem_map.1 hu
  rfl
theorem cellsN_app (a b : List Int) : cellsN (a ++ b) = cellsN a ++ cellsN b := by unfold cellsN; rw [List.map_append]
abbrev sR0 : Oper := { dst := some 15, op := Go.Op.move (Go.Operand.tmp 5), type := 3, pos := "ref.go:68", after := #[], guard := none }
abbrev sR1 : Oper := { dst := some 16, op := Go.Op.binOp Go.BinOp.gtr 3 (Go.Operand.tmp 15) (Go.Operand.const (Go.Value.int Go.IntKind.i64 0)) 3, type := 4, pos := "ref.go:68", after := #[{ on := 0, ground := Go.Ground.data }], guard := none }
abbrev sR2 : Oper := { dst := some 17, op := Go.Op.move (Go.Operand.tmp 16), type := 4, pos := "ref.go:68", after := #[{ on := 1, ground := Go.Ground.data }], guard := none }
abbrev sR3 : Oper := { dst := some 18, op := Go.Op.move (Go.Operand.tmp 0), type := 38, pos := "ref.go:68", after := #[{ on := 2, ground := Go.Ground.guard }], guard := some (2, true) }
abbrev sR4 : Oper := { dst := some 19, op := Go.Op.move (Go.Operand.tmp 4), type := 3, pos := "ref.go:68", after := #[{ on := 2, ground := Go.Ground.guard }], guard := some (2, true) }
abbrev sR5 : Oper := { dst := some 20, op := Go.Op.indexAddr 38 (Go.Operand.tmp 18) (Go.Operand.tmp 19), type := 0, pos := "ref.go:68", after := #[{ on := 3, ground := Go.Ground.data }, { on := 4, ground := Go.Ground.data }, { on := 2, ground := Go.Ground.guard }], guard := some (2, true) }
abbrev sR6 : Oper := { dst := some 21, op := Go.Op.load 22 (Go.Operand.tmp 20), type := 22, pos := "ref.go:68", after := #[{ on := 5, ground := Go.Ground.data }, { on := 2, ground := Go.Ground.guard }], guard := some (2, true) }
abbrev sR7 : Oper := { dst := some 22, op := Go.Op.move (Go.Operand.tmp 0), type := 38, pos := "ref.go:68", after := #[{ on := 2, ground := Go.Ground.guard }], guard := some (2, true) }
abbrev sR8 : Oper := { dst := some 23, op := Go.Op.move (Go.Operand.tmp 3), type := 41, pos := "ref.go:68", after := #[{ on := 2, ground := Go.Ground.guard }], guard := some (2, true) }
abbrev sR9 : Oper := { dst := some 24, op := Go.Op.move (Go.Operand.tmp 5), type := 3, pos := "ref.go:68", after := #[{ on := 2, ground := Go.Ground.guard }], guard := some (2, true) }
abbrev sR10 : Oper := { dst := some 25, op := Go.Op.binOp Go.BinOp.sub 3 (Go.Operand.tmp 24) (Go.Operand.const (Go.Value.int Go.IntKind.i64 1)) 3, type := 3, pos := "ref.go:68", after := #[{ on := 9, ground := Go.Ground.data }, { on := 2, ground := Go.Ground.guard }], guard := some (2, true) }
abbrev sR11 : Oper := { dst := some 26, op := Go.Op.indexAddr 41 (Go.Operand.tmp 23) (Go.Operand.tmp 25), type := 0, pos := "ref.go:68", after := #[{ on := 8, ground := Go.Ground.data }, { on := 10, ground := Go.Ground.data }, { on := 2, ground := Go.Ground.guard }], guard := some (2, true) }
abbrev sR12 : Oper := { dst := some 27, op := Go.Op.load 3 (Go.Operand.tmp 26), type := 3, pos := "ref.go:68", after := #[{ on := 11, ground := Go.Ground.data }, { on := 2, ground := Go.Ground.guard }], guard := some (2, true) }
abbrev sR13 : Oper := { dst := some 28, op := Go.Op.indexAddr 38 (Go.Operand.tmp 22) (Go.Operand.tmp 27), type := 0, pos := "ref.go:68", after := #[{ on := 7, ground := Go.Ground.data }, { on := 12, ground := Go.Ground.data }, { on := 2, ground := Go.Ground.guard }], guard := some (2, true) }
abbrev sR14 : Oper := { dst := some 29, op := Go.Op.load 22 (Go.Operand.tmp 28), type := 22, pos := "ref.go:68", after := #[{ on := 13, ground := Go.Ground.data }, { on := 2, ground := Go.Ground.guard }], guard := some (2, true) }
abbrev sR15 : Oper := { dst := some 30, op := Go.Op.call { callee := Go.Callee.value (Go.Operand.func 38), args := #[Go.Operand.tmp 21, Go.Operand.tmp 29], argTypes := #[22, 22] }, type := 4, pos := "ref.go:68", after := #[{ on := 6, ground := Go.Ground.data }, { on := 14, ground := Go.Ground.data }, { on := 2, ground := Go.Ground.chain }, { on := 2, ground := Go.Ground.guard }], guard := some (2, true) }
abbrev sR16 : Oper := { dst := some 31, op := Go.Op.pick (Go.Operand.tmp 17) (Go.Operand.tmp 30) (Go.Operand.const (Go.Value.bool false)), type := 4, pos := "ref.go:68", after := #[{ on := 2, ground := Go.Ground.data }, { on := 15, ground := Go.Ground.data }], guard := none }
theorem next_own {w : World} {base base' : Nat} {e : TypeId} {v : Value} {n k : Nat} (out : List Int) (x : Int) (hk : k ≤ n) (hb : base' ≤ base) (h : w.ownsRow base e 1 v (0 + k + 1 + (n - k)) ([] ++ cellsN (out.take k) ++ [.int .i64 x] ++ cellsN (out.drop k))) : w.ownsRow base' e 1 v (n + 1) (cellsN (out.take k ++ x :: out.drop k)) := by
  have e1 : 0 + k + 1 + (n - k) = n + 1 := by omega
  rw [e1] at h
  have e2 : [] ++ cellsN (out.take k) ++ [.int .i64 x] ++ cellsN (out.drop k) = cellsN (out.take k ++ x :: out.drop k) := by unfold cellsN; simp
  rw [e2] at h
  exact own_low h hb
set_option maxHeartbeats 16000000 in
set_option maxRecDepth 100000 in
theorem r21Sort_any (v : Value) (LL : List (List LF)) (w : World) (hv : LvsAt w v LL) (hl : ∀ l ∈ LL, LsOk l) (hm : LL.length ≤ 1000) :
    Calls Tryz.prog 19 #[v] w fun e w' => ∃ v' out, e = .returned v' ∧ IntsAt w' v' out ∧ Srt LL out ∧ Kp w w' := by
  obtain ⟨i0, hi, hz0, hz1, hz2⟩ := info_parts infoOrd
  obtain ⟨ad0, cp0, rfl⟩ := hv.slice
  have HV := Lib.hid hv
  have CH := Lib.hid (fun a b (ha : a < LL.length) (hb : b < a) u z w1 (hu : LeavesAt w1 u (lls LL a)) (hz : LeavesAt w1 z (lls LL b)) => r21ahead_any u z (lls LL a) (lls LL b) w1 hu hz (hl _ (lls_mem ha)) (hl _ (lls_mem (by omega))))
  have K0 := Lib.hid (Kp.refl w)
  clear hv hl
  go_enter Tryz.func19, Tryz.ntmps19
  go_wp2
  go_loopw [3, 4] (fun s i wr => ∃ (n : Nat) (out : List Int), n ≤ LL.length ∧ i = .int .i64 n ∧ Hid (wr.ownsRow w.heap.size 3 1 s n (cellsN out)) ∧ Hid (Srt1 LL n out) ∧ Hid (Kp w wr)) (fun _ i _ => LL.length - (intOf i).toNat)
  case atStart => exact ⟨0, [], Nat.zero_le _, rfl, Lib.hid (World.ownsRow_nil _ _ _ _), Lib.hid (Srt1.zero LL), K0⟩
  case round =>
    obtain ⟨n, out, hn, rfl, OW, SR, J⟩ := hrel
    by_cases hlt : n < LL.length
    · obtain ⟨W1, hW1⟩ : ∃ z, z = wr := ⟨_, rfl⟩
      subst hW1
      have HN := Lib.hid SR.out.len
      have JR := Lib.hid (Kp.refl W1)
      have HLT := Lib.hid hlt
      have HN1 := Lib.hid (show n + 1 ≤ LL.length by omega)
      have HNV := Lib.hid (show Value.int IntKind.i64 ((n : Int) + 1) = Value.int IntKind.i64 ((n + 1 : Nat) : Int) from by simp)
      have zn1 : (n : Int) < (LL.length : Int) := by omega
      have zn2 : (0 : Int) ≤ (n : Int) := by omega
      rcases OW.out.2 with ⟨e1, e2⟩ | ⟨g0, cap0, cur, e1, hb0, hg0, hc0, hm0, hs0, ht0⟩
      · subst e1
        have E2 := Lib.hid e2
        have EO := Lib.hid (show out = [] from List.length_eq_zero_iff.1 (by rw [SR.out.len]; exact e2))
        have SN := Lib.hid (SR.out.put (k := 0) (Nat.zero_le _) (fun i g h1 h2 => by rw [EO.out] at h2; simp at h2) (.inl rfl))
        clear e2
        go_wp2
        go_loopw [5] (fun kv wr => kv = .int .i64 0 ∧ Hid (Kp W1 wr)) (fun kv _ => (intOf kv).toNat)
        case atStart => exact ⟨rfl, JR⟩
        case round =>
          obtain ⟨rfl, JK⟩ := hrel
          go_wp2_with fail
          refine wp_region_held_drew (S := fun w' => Kp wr w') (by kernel_rfl) ?_ (fun hHeld0 => ?_)
          · (try dsimp only); first | exact Kp.drew _ | exact Kp.refl _
          refine tkW (v := ?_) 0 sR0 rfl (by kernel_rfl) (by kernel_rfl) (by kernel_rfl) (fun _ _ _ h => h) (by rfl) ?_ (by assumption) ?_
          rotate_left
          · intro w hSw; (try dsimp only at hSw); go_simp; (try with_reducible rfl)
          (try simp only [Act.put, sR0, List.setIfInBounds_toArray, List.set_cons_zero, List.set_cons_succ])
          refine tkW (v := ?_) 1 sR1 rfl (by kernel_rfl) (by kernel_rfl) (by kernel_rfl) (fun _ _ _ h => h) (by rfl) ?_ (by assumption) ?_
          rotate_left
          · intro w hSw; (try dsimp only at hSw); go_simp; (try with_reducible rfl)
          (try simp only [Act.put, sR1, List.setIfInBounds_toArray, List.set_cons_zero, List.set_cons_succ])
          refine tkW (v := ?_) 2 sR2 rfl (by kernel_rfl) (by kernel_rfl) (by kernel_rfl) (fun _ _ _ h => h) (by rfl) ?_ (by assumption) ?_
          rotate_left
          · intro w hSw; (try dsimp only at hSw); go_simp; (try with_reducible rfl)
          (try simp only [Act.put, sR2, List.setIfInBounds_toArray, List.set_cons_zero, List.set_cons_succ])
          refine tkU 3 sR3 rfl (by kernel_rfl) (by kernel_rfl) (by kernel_rfl) (fun _ _ _ h => h) (by rfl) (by assumption) ?_
          (try simp only [Act.put, sR3, List.setIfInBounds_toArray, List.set_cons_zero, List.set_cons_succ])
          refine tkU 4 sR4 rfl (by kernel_rfl) (by kernel_rfl) (by kernel_rfl) (fun _ _ _ h => h) (by rfl) (by assumption) ?_
          (try simp only [Act.put, sR4, List.setIfInBounds_toArray, List.set_cons_zero, List.set_cons_succ])
          refine tkU 5 sR5 rfl (by kernel_rfl) (by kernel_rfl) (by kernel_rfl) (fun _ _ _ h => h) (by rfl) (by assumption) ?_
          (try simp only [Act.put, sR5, List.setIfInBounds_toArray, List.set_cons_zero, List.set_cons_succ])
          refine tkU 6 sR6 rfl (by kernel_rfl) (by kernel_rfl) (by kernel_rfl) (fun _ _ _ h => h) (by rfl) (by assumption) ?_
          (try simp only [Act.put, sR6, List.setIfInBounds_toArray, List.set_cons_zero, List.set_cons_succ])
          refine tkU 7 sR7 rfl (by kernel_rfl) (by kernel_rfl) (by kernel_rfl) (fun _ _ _ h => h) (by rfl) (by assumption) ?_
          (try simp only [Act.put, sR7, List.setIfInBounds_toArray, List.set_cons_zero, List.set_cons_succ])
          refine tkU 8 sR8 rfl (by kernel_rfl) (by kernel_rfl) (by kernel_rfl) (fun _ _ _ h => h) (by rfl) (by assumption) ?_
          (try simp only [Act.put, sR8, List.setIfInBounds_toArray, List.set_cons_zero, List.set_cons_succ])
          refine tkU 9 sR9 rfl (by kernel_rfl) (by kernel_rfl) (by kernel_rfl) (fun _ _ _ h => h) (by rfl) (by assumption) ?_
          (try simp only [Act.put, sR9, List.setIfInBounds_toArray, List.set_cons_zero, List.set_cons_succ])
          refine tkU 10 sR10 rfl (by kernel_rfl) (by kernel_rfl) (by kernel_rfl) (fun _ _ _ h => h) (by rfl) (by assumption) ?_
          (try simp only [Act.put, sR10, List.setIfInBounds_toArray, List.set_cons_zero, List.set_cons_succ])
          refine tkU 11 sR11 rfl (by kernel_rfl) (by kernel_rfl) (by kernel_rfl) (fun _ _ _ h => h) (by rfl) (by assumption) ?_
          (try simp only [Act.put, sR11, List.setIfInBounds_toArray, List.set_cons_zero, List.set_cons_succ])
          refine tkU 12 sR12 rfl (by kernel_rfl) (by kernel_rfl) (by kernel_rfl) (fun _ _ _ h => h) (by rfl) (by assumption) ?_
          (try simp only [Act.put, sR12, List.setIfInBounds_toArray, List.set_cons_zero, List.set_cons_succ])
          refine tkU 13 sR13 rfl (by kernel_rfl) (by kernel_rfl) (by kernel_rfl) (fun _ _ _ h => h) (by rfl) (by assumption) ?_
          (try simp only [Act.put, sR13, List.setIfInBounds_toArray, List.set_cons_zero, List.set_cons_succ])
          refine tkU 14 sR14 rfl (by kernel_rfl) (by kernel_rfl) (by kernel_rfl) (fun _ _ _ h => h) (by rfl) (by assumption) ?_
          (try simp only [Act.put, sR14, List.setIfInBounds_toArray, List.set_cons_zero, List.set_cons_succ])
          refine tkU 15 sR15 rfl (by kernel_rfl) (by kernel_rfl) (by kernel_rfl) (fun _ _ _ h => h) (by rfl) (by assumption) ?_
          (try simp only [Act.put, sR15, List.setIfInBounds_toArray, List.set_cons_zero, List.set_cons_succ])
          refine tkW (v := ?_) 16 sR16 rfl (by kernel_rfl) (by kernel_rfl) (by kernel_rfl) (fun _ _ _ h => h) (by rfl) ?_ (by assumption) ?_
          rotate_left
          · intro w hSw; (try dsimp only at hSw); go_simp; (try with_reducible rfl)
          (try simp only [Act.put, sR16, List.setIfInBounds_toArray, List.set_cons_zero, List.set_cons_succ])
          refine wpAnyH_done (by kernel_rfl) ?_ _
          obtain ⟨w9, h9⟩ : ∃ z : World, z = wr.drew := ⟨_, rfl⟩
          rw [← h9]
          have KF := Lib.hid (JK.out.trans (show Kp wr w9 by rw [h9]; exact Kp.drew _))
          clear h9
          have HB9 := Lib.hid (Nat.le_trans J.out.size KF.out.size)
          go_wp2_with (first | (at_builtin; refine wpList_app rfl (.tmp 34) (.tmp 37) 41 rfl w9.heap.size 3 i0 (.int .i64 0) 1 8 Tryz.underlying41 hi hz0 hz1 hz2 rfl (by decide) _ _ _ rfl (own_lit0 _ _ _ (Nat.le_refl _)) _ _ _ rfl (.inl ⟨_, _, rfl, rfl, rfl⟩) rfl (by intro u hu; cases hu) (by unfold maxLen; omega) (by omega) ((Kp.alloc _ _).size) ?_; intro v6 w6 own6 grow6 at6; have G6 := Lib.hid ((Kp.alloc _ _).grown grow6 (fun j hj => (by cases hj; exact Nat.le_refl _)) : Kp w9 w6); have O6 := Lib.hid own6; clear own6 grow6 at6) | (at_builtin; refine wpList_app rfl (.tmp 39) (.tmp 41) 41 rfl w9.heap.size 3 i0 (.int .i64 0) 1 8 Tryz.underlying41 hi hz0 hz1 hz2 rfl (by decide) _ _ _ rfl (O6.out.alloc _) _ _ _ rfl (src_one _ _ _) rfl (by intro u hu; simp at hu; subst hu; rfl) (by unfold maxLen; omega) (by omega) ((G6.out.trans (Kp.alloc _ _)).size) ?_; intro v7 w7 own7 grow7 at7; have O7 := Lib.hid own7; have G7 := Lib.hid ((G6.out.trans (Kp.alloc _ _)).grown grow7 (fun j hj => (O6.out.lt j hj).1)); clear own7 grow7 at7) | (at_builtin; refine wpList_app rfl (.tmp 43) (.tmp 46) 41 rfl w9.heap.size 3 i0 (.int .i64 0) 1 8 Tryz.underlying41 hi hz0 hz1 hz2 rfl (by decide) _ _ _ rfl O7.out _ _ _ rfl (.inl ⟨_, _, rfl, rfl, rfl⟩) rfl (by intro u hu; cases hu) (by unfold maxLen; omega) (by omega) G7.out.size ?_; intro v8 w8 own8 grow8 at8; have O8 := Lib.hid own8; have G8 := Lib.hid (G7.out.grown grow8 (fun j hj => (O7.out.lt j hj).1)); clear own8 grow8 at8))
          all_goals
            go_roundw
            case rel => exact ⟨n + 1, _, HN1.out, HNV.out, Lib.hid (by have e := EO.out; have e2 := E2.out; subst e2; rw [e]; exact own_low (show w8.ownsRow w9.heap.size 3 1 v8 (0 + 1) (cellsN ([] ++ ((0 : Nat) : Int) :: [])) from O8.out) HB9.out), SN, Lib.hid (J.out.trans (KF.out.trans G8.out))⟩
            case measure => have := HLT.out; simp [intOf]; omega
      · subst e1
        obtain ⟨gf, hg1, _⟩ := SR.out.told
        have GF := Lib.hid hg1
        have HX := Lib.hid (fun j (hj : j < n) w' (q : Kp W1 w') => cell_up q (show W1.cell? ⟨g0, j, none⟩ = some (.int .i64 (gf j)) by
          rw [OW.out.cellAt j (by omega)]
          unfold cellsN
          rw [List.getElem?_map, (hg1 j hj).1]
          rfl))
        have HA0 := Lib.hid (fun i (g : Nat) (h1 : n ≤ i) (h2 : out[i]? = some (g : Int)) => (absurd (List.getElem?_eq_some_iff.1 h2).1 (by have := HN.out; omega) : lessP (plc LL n) (plc LL g) = true))
        clear hg1 hb0 hg0 hm0 hs0 ht0
        go_wp2
        go_loopw [5] (fun kv wr => ∃ k : Nat, k ≤ n ∧ kv = .int .i64 k ∧ Hid (∀ i (g : Nat), k ≤ i → out[i]? = some (g : Int) → lessP (plc LL n) (plc LL g) = true) ∧ Hid (Kp W1 wr)) (fun kv _ => (intOf kv).toNat)
        case atStart => exact ⟨n, Nat.le_refl _, rfl, HA0, JR⟩
        case round =>
          obtain ⟨k, hk, rfl, HA, JK⟩ := hrel
          cases k with
          | zero =>
            have SN := Lib.hid (SR.out.put (k := 0) hk HA.out (.inl rfl))
            go_wp2_with fail
            refine wp_region_held_drew (S := fun w' => Kp wr w') (by kernel_rfl) ?_ (fun hHeld0 => ?_)
            · (try dsimp only); first | exact Kp.drew _ | exact Kp.refl _
            refine tkW (v := ?_) 0 sR0 rfl (by kernel_rfl) (by kernel_rfl) (by kernel_rfl) (fun _ _ _ h => h) (by rfl) ?_ (by assumption) ?_
            rotate_left
            · intro w hSw; (try dsimp only at hSw); go_simp; (try with_reducible rfl)
            (try simp only [Act.put, sR0, List.setIfInBounds_toArray, List.set_cons_zero, List.set_cons_succ])
            refine tkW (v := ?_) 1 sR1 rfl (by kernel_rfl) (by kernel_rfl) (by kernel_rfl) (fun _ _ _ h => h) (by rfl) ?_ (by assumption) ?_
            rotate_left
            · intro w hSw; (try dsimp only at hSw); go_simp; (try with_reducible rfl)
            (try simp only [Act.put, sR1, List.setIfInBounds_toArray, List.set_cons_zero, List.set_cons_succ])
            refine tkW (v := ?_) 2 sR2 rfl (by kernel_rfl) (by kernel_rfl) (by kernel_rfl) (fun _ _ _ h => h) (by rfl) ?_ (by assumption) ?_
            rotate_left
            · intro w hSw; (try dsimp only at hSw); go_simp; (try with_reducible rfl)
            (try simp only [Act.put, sR2, List.setIfInBounds_toArray, List.set_cons_zero, List.set_cons_succ])
            refine tkU 3 sR3 rfl (by kernel_rfl) (by kernel_rfl) (by kernel_rfl) (fun _ _ _ h => h) (by rfl) (by assumption) ?_
            (try simp only [Act.put, sR3, List.setIfInBounds_toArray, List.set_cons_zero, List.set_cons_succ])
            refine tkU 4 sR4 rfl (by kernel_rfl) (by kernel_rfl) (by kernel_rfl) (fun _ _ _ h => h) (by rfl) (by assumption) ?_
            (try simp only [Act.put, sR4, List.setIfInBounds_toArray, List.set_cons_zero, List.set_cons_succ])
            refine tkU 5 sR5 rfl (by kernel_rfl) (by kernel_rfl) (by kernel_rfl) (fun _ _ _ h => h) (by rfl) (by assumption) ?_
            (try simp only [Act.put, sR5, List.setIfInBounds_toArray, List.set_cons_zero, List.set_cons_succ])
            refine tkU 6 sR6 rfl (by kernel_rfl) (by kernel_rfl) (by kernel_rfl) (fun _ _ _ h => h) (by rfl) (by assumption) ?_
            (try simp only [Act.put, sR6, List.setIfInBounds_toArray, List.set_cons_zero, List.set_cons_succ])
            refine tkU 7 sR7 rfl (by kernel_rfl) (by kernel_rfl) (by kernel_rfl) (fun _ _ _ h => h) (by rfl) (by assumption) ?_
            (try simp only [Act.put, sR7, List.setIfInBounds_toArray, List.set_cons_zero, List.set_cons_succ])
            refine tkU 8 sR8 rfl (by kernel_rfl) (by kernel_rfl) (by kernel_rfl) (fun _ _ _ h => h) (by rfl) (by assumption) ?_
            (try simp only [Act.put, sR8, List.setIfInBounds_toArray, List.set_cons_zero, List.set_cons_succ])
            refine tkU 9 sR9 rfl (by kernel_rfl) (by kernel_rfl) (by kernel_rfl) (fun _ _ _ h => h) (by rfl) (by assumption) ?_
            (try simp only [Act.put, sR9, List.setIfInBounds_toArray, List.set_cons_zero, List.set_cons_succ])
            refine tkU 10 sR10 rfl (by kernel_rfl) (by kernel_rfl) (by kernel_rfl) (fun _ _ _ h => h) (by rfl) (by assumption) ?_
            (try simp only [Act.put, sR10, List.setIfInBounds_toArray, List.set_cons_zero, List.set_cons_succ])
            refine tkU 11 sR11 rfl (by kernel_rfl) (by kernel_rfl) (by kernel_rfl) (fun _ _ _ h => h) (by rfl) (by assumption) ?_
            (try simp only [Act.put, sR11, List.setIfInBounds_toArray, List.set_cons_zero, List.set_cons_succ])
            refine tkU 12 sR12 rfl (by kernel_rfl) (by kernel_rfl) (by kernel_rfl) (fun _ _ _ h => h) (by rfl) (by assumption) ?_
            (try simp only [Act.put, sR12, List.setIfInBounds_toArray, List.set_cons_zero, List.set_cons_succ])
            refine tkU 13 sR13 rfl (by kernel_rfl) (by kernel_rfl) (by kernel_rfl) (fun _ _ _ h => h) (by rfl) (by assumption) ?_
            (try simp only [Act.put, sR13, List.setIfInBounds_toArray, List.set_cons_zero, List.set_cons_succ])
            refine tkU 14 sR14 rfl (by kernel_rfl) (by kernel_rfl) (by kernel_rfl) (fun _ _ _ h => h) (by rfl) (by assumption) ?_
            (try simp only [Act.put, sR14, List.setIfInBounds_toArray, List.set_cons_zero, List.set_cons_succ])
            refine tkU 15 sR15 rfl (by kernel_rfl) (by kernel_rfl) (by kernel_rfl) (fun _ _ _ h => h) (by rfl) (by assumption) ?_
            (try simp only [Act.put, sR15, List.setIfInBounds_toArray, List.set_cons_zero, List.set_cons_succ])
            refine tkW (v := ?_) 16 sR16 rfl (by kernel_rfl) (by kernel_rfl) (by kernel_rfl) (fun _ _ _ h => h) (by rfl) ?_ (by assumption) ?_
            rotate_left
            · intro w hSw; (try dsimp only at hSw); go_simp; (try with_reducible rfl)
            (try simp only [Act.put, sR16, List.setIfInBounds_toArray, List.set_cons_zero, List.set_cons_succ])
            refine wpAnyH_done (by kernel_rfl) ?_ _
            obtain ⟨w9, h9⟩ : ∃ z : World, z = wr.drew := ⟨_, rfl⟩
            rw [← h9]
            have KF := Lib.hid (JK.out.trans (show Kp wr w9 by rw [h9]; exact Kp.drew _))
            clear h9
            have HB9 := Lib.hid (Nat.le_trans J.out.size KF.out.size)
            have OWX := Lib.hid (own_kp OW.out KF.out)
            have HK9 := Lib.hid hk
            have LT9 := Lib.hid (show (cellsN (out.take 0)).length = 0 * 1 from rfl)
            have LD9 := Lib.hid (show (cellsN (out.drop 0)).length = (n - 0) * 1 by rw [cellsN_len, List.length_drop, HN.out])
            go_wp2_with (first | (at_builtin; refine wpList_app rfl (.tmp 34) (.tmp 37) 41 rfl w9.heap.size 3 i0 (.int .i64 0) 1 8 Tryz.underlying41 hi hz0 hz1 hz2 rfl (by decide) _ _ _ rfl (own_lit0 _ _ _ (Nat.le_refl _)) _ _ _ rfl (src_take (OWX.out.alloc _) HK9.out) LT9.out (cellsN_one _) (by unfold maxLen; omega) (by omega) ((Kp.alloc _ _).size) ?_; intro v6 w6 own6 grow6 at6; have G6 := Lib.hid ((Kp.alloc _ _).grown grow6 (fun j hj => (by cases hj; exact Nat.le_refl _)) : Kp w9 w6); have O6 := Lib.hid own6; clear own6 grow6 at6) | (at_builtin; refine wpList_app rfl (.tmp 39) (.tmp 41) 41 rfl w9.heap.size 3 i0 (.int .i64 0) 1 8 Tryz.underlying41 hi hz0 hz1 hz2 rfl (by decide) _ _ _ rfl (O6.out.alloc _) _ _ _ rfl (src_one _ _ _) rfl (by intro u hu; simp at hu; subst hu; rfl) (by unfold maxLen; omega) (by omega) ((G6.out.trans (Kp.alloc _ _)).size) ?_; intro v7 w7 own7 grow7 at7; have O7 := Lib.hid own7; have G7 := Lib.hid ((G6.out.trans (Kp.alloc _ _)).grown grow7 (fun j hj => (O6.out.lt j hj).1)); clear own7 grow7 at7) | (at_builtin; refine wpList_app rfl (.tmp 43) (.tmp 46) 41 rfl w9.heap.size 3 i0 (.int .i64 0) 1 8 Tryz.underlying41 hi hz0 hz1 hz2 rfl (by decide) _ _ _ rfl O7.out _ _ _ rfl (src_drop (own_kp OWX.out G7.out) HK9.out rfl) LD9.out (cellsN_one _) (by unfold maxLen; omega) (by omega) G7.out.size ?_; intro v8 w8 own8 grow8 at8; have O8 := Lib.hid own8; have G8 := Lib.hid (G7.out.grown grow8 (fun j hj => (O7.out.lt j hj).1)); clear own8 grow8 at8) | (at_builtin; refine wpList_app rfl (.tmp 43) (.tmp 46) 41 rfl w9.heap.size 3 i0 (.int .i64 0) 1 8 Tryz.underlying41 hi hz0 hz1 hz2 rfl (by decide) _ _ _ rfl O7.out _ _ _ rfl (src_cut (own_kp OWX.out G7.out) HK9.out hc0) LD9.out (cellsN_one _) (by unfold maxLen; omega) (by omega) G7.out.size ?_; intro v8 w8 own8 grow8 at8; have O8 := Lib.hid own8; have G8 := Lib.hid (G7.out.grown grow8 (fun j hj => (O7.out.lt j hj).1)); clear own8 grow8 at8))
            all_goals
              go_roundw
              case rel => exact ⟨n + 1, _, HN1.out, HNV.out, Lib.hid (next_own out (n : Int) HK9.out HB9.out O8.out), SN, Lib.hid (J.out.trans (KF.out.trans G8.out))⟩
              case measure => have := HLT.out; simp [intOf]; omega
          | succ j =>
            obtain ⟨x, hx⟩ : ∃ x, gf j = x := ⟨_, rfl⟩
            have hxo := (GF.out j (by omega))
            have cj := HX.out j (by omega) _ JK.out
            rw [hx] at hxo cj
            obtain ⟨hxo, hxn⟩ := hxo
            rcases HV.out.kp (J.out.trans JK.out) with ⟨_, _, _, e⟩ | ⟨lb, loff, lcap, ev, hc, hmx, hxx⟩
            · rw [e] at hlt; simp at hlt
            cases ev
            obtain ⟨un, cn, rn⟩ := hxx n hlt
            obtain ⟨ux, cx, rx⟩ := hxx x (by omega)
            obtain ⟨an, bn, rfl⟩ := rn.slice
            obtain ⟨ax, bx, rfl⟩ := rx.slice
            have CC := Lib.hid (fun w1 (kk : Kp wr w1) => (by have := CH.out n x hlt hxn _ _ w1 (rn.kp kk) (rx.kp kk); rw [← ahB_less LL hxn] at this; exact this : Calls Tryz.prog 38 #[.slice an (lls LL n).length bn, .slice ax (lls LL x).length bx] w1 fun e w' => e = .returned (.bool (lessP (plc LL n) (plc LL x))) ∧ Kp w1 w'))
            have KS := Lib.hid (fun w' (q : Kp wr w') => show w'.cell? ⟨g0, j, none⟩ = some (.int .i64 (x : Nat)) ∧ w'.cell? ⟨lb, loff + n, none⟩ = some (.slice an (lls LL n).length bn) ∧ w'.cell? ⟨lb, loff + x, none⟩ = some (.slice ax (lls LL x).length bx) ∧ Kp wr w' from ⟨cell_up q cj, cell_up q cn, cell_up q cx, q⟩)
            have zx1 : (x : Int) < (LL.length : Int) := by omega
            have zx2 : (0 : Int) ≤ (x : Int) := by omega
            have zj1 : (j : Int) < (n : Int) := by omega
            have zj2 : (0 : Int) ≤ (j : Int) := by omega
            have wj : IntKind.i64.wrap ((j : Int)) = (j : Int) := by rw [IntKind.wrap_i64]; omega
            have HXO := Lib.hid hxo
            have HJN := Lib.hid (show j ≤ n by omega)
            clear hxx hc hmx rn rx hx hxo cj cn cx
            cases hq : lessP (plc LL n) (plc LL x) with
            | true =>
              rw [hq] at CC
              have HA2 := Lib.hid (fun i (g : Nat) (h1 : j ≤ i) (h2 : out[i]? = some (g : Int)) => (by
                by_cases e : i = j
                · subst e
                  rw [HXO.out] at h2
                  have : x = g := by have := Option.some.inj h2; omega
                  subst this
                  exact hq
                · exact HA.out i g (by omega) h2 : lessP (plc LL n) (plc LL g) = true))
              clear hq
              go_wp2_with fail
              refine wp_region_held_drew (S := fun w' => w'.cell? ⟨g0, j, none⟩ = some (.int .i64 (x : Nat)) ∧ w'.cell? ⟨lb, loff + n, none⟩ = some (.slice an (lls LL n).length bn) ∧ w'.cell? ⟨lb, loff + x, none⟩ = some (.slice ax (lls LL x).length bx) ∧ Kp wr w') (by kernel_rfl) ?_ (fun hHeld0 => ?_)
              · (try dsimp only); exact KS.out _ (by first | assumption | exact Kp.drew _ | exact Kp.refl _)
              refine tkW (v := ?_) 0 sR0 rfl (by kernel_rfl) (by kernel_rfl) (by kernel_rfl) (fun _ _ _ h => h) (by rfl) ?_ (by assumption) ?_
              rotate_left
              · intro w hSw; (try dsimp only at hSw); go_simp; (try with_reducible rfl)
              (try simp only [Act.put, sR0, List.setIfInBounds_toArray, List.set_cons_zero, List.set_cons_succ])
              refine tkW (v := ?_) 1 sR1 rfl (by kernel_rfl) (by kernel_rfl) (by kernel_rfl) (fun _ _ _ h => h) (by rfl) ?_ (by assumption) ?_
              rotate_left
              · intro w hSw; (try dsimp only at hSw); go_simp; (try with_reducible rfl)
              (try simp only [Act.put, sR1, List.setIfInBounds_toArray, List.set_cons_zero, List.set_cons_succ])
              refine tkW (v := ?_) 2 sR2 rfl (by kernel_rfl) (by kernel_rfl) (by kernel_rfl) (fun _ _ _ h => h) (by rfl) ?_ (by assumption) ?_
              rotate_left
              · intro w hSw; (try dsimp only at hSw); go_simp; (try with_reducible rfl)
              (try simp only [Act.put, sR2, List.setIfInBounds_toArray, List.set_cons_zero, List.set_cons_succ])
              refine tkW (v := ?_) 3 sR3 rfl (by kernel_rfl) (by kernel_rfl) (by kernel_rfl) (fun _ _ _ h => h) (by rfl) ?_ (by assumption) ?_
              rotate_left
              · intro w hSw; (try dsimp only at hSw); go_simp; (try with_reducible rfl)
              (try simp only [Act.put, sR3, List.setIfInBounds_toArray, List.set_cons_zero, List.set_cons_succ])
              refine tkW (v := ?_) 4 sR4 rfl (by kernel_rfl) (by kernel_rfl) (by kernel_rfl) (fun _ _ _ h => h) (by rfl) ?_ (by assumption) ?_
              rotate_left
              · intro w hSw; (try dsimp only at hSw); go_simp; (try with_reducible rfl)
              (try simp only [Act.put, sR4, List.setIfInBounds_toArray, List.set_cons_zero, List.set_cons_succ])
              refine tkW (v := ?_) 5 sR5 rfl (by kernel_rfl) (by kernel_rfl) (by kernel_rfl) (fun _ _ _ h => h) (by rfl) ?_ (by assumption) ?_
              rotate_left
              · intro w hSw; (try dsimp only at hSw); go_simp; (try with_reducible rfl)
              (try simp only [Act.put, sR5, List.setIfInBounds_toArray, List.set_cons_zero, List.set_cons_succ])
              refine tkW (v := ?_) 6 sR6 rfl (by kernel_rfl) (by kernel_rfl) (by kernel_rfl) (fun _ _ _ h => h) (by rfl) ?_ (by assumption) ?_
              rotate_left
              · intro w hSw; (try dsimp only at hSw); go_simp; (try with_reducible rfl)
              (try simp only [Act.put, sR6, List.setIfInBounds_toArray, List.set_cons_zero, List.set_cons_succ])
              refine tkW (v := ?_) 7 sR7 rfl (by kernel_rfl) (by kernel_rfl) (by kernel_rfl) (fun _ _ _ h => h) (by rfl) ?_ (by assumption) ?_
              rotate_left
              · intro w hSw; (try dsimp only at hSw); go_simp; (try with_reducible rfl)
              (try simp only [Act.put, sR7, List.setIfInBounds_toArray, List.set_cons_zero, List.set_cons_succ])
              refine tkW (v := ?_) 8 sR8 rfl (by kernel_rfl) (by kernel_rfl) (by kernel_rfl) (fun _ _ _ h => h) (by rfl) ?_ (by assumption) ?_
              rotate_left
              · intro w hSw; (try dsimp only at hSw); go_simp; (try with_reducible rfl)
              (try simp only [Act.put, sR8, List.setIfInBounds_toArray, List.set_cons_zero, List.set_cons_succ])
              refine tkW (v := ?_) 9 sR9 rfl (by kernel_rfl) (by kernel_rfl) (by kernel_rfl) (fun _ _ _ h => h) (by rfl) ?_ (by assumption) ?_
              rotate_left
              · intro w hSw; (try dsimp only at hSw); go_simp; (try with_reducible rfl)
              (try simp only [Act.put, sR9, List.setIfInBounds_toArray, List.set_cons_zero, List.set_cons_succ])
              refine tkW (v := ?_) 10 sR10 rfl (by kernel_rfl) (by kernel_rfl) (by kernel_rfl) (fun _ _ _ h => h) (by rfl) ?_ (by assumption) ?_
              rotate_left
              · intro w hSw; (try dsimp only at hSw); go_simp; (try with_reducible rfl)
              (try simp only [Act.put, sR10, List.setIfInBounds_toArray, List.set_cons_zero, List.set_cons_succ])
              refine tkW (v := ?_) 11 sR11 rfl (by kernel_rfl) (by kernel_rfl) (by kernel_rfl) (fun _ _ _ h => h) (by rfl) ?_ (by assumption) ?_
              rotate_left
              · intro w hSw; (try dsimp only at hSw); go_simp; (try with_reducible rfl)
              (try simp only [Act.put, sR11, List.setIfInBounds_toArray, List.set_cons_zero, List.set_cons_succ])
              refine tkW (v := ?_) 12 sR12 rfl (by kernel_rfl) (by kernel_rfl) (by kernel_rfl) (fun _ _ _ h => h) (by rfl) ?_ (by assumption) ?_
              rotate_left
              · intro w hSw; (try dsimp only at hSw); go_simp; (try with_reducible rfl)
              (try simp only [Act.put, sR12, List.setIfInBounds_toArray, List.set_cons_zero, List.set_cons_succ])
              refine tkW (v := ?_) 13 sR13 rfl (by kernel_rfl) (by kernel_rfl) (by kernel_rfl) (fun _ _ _ h => h) (by rfl) ?_ (by assumption) ?_
              rotate_left
              · intro w hSw; (try dsimp only at hSw); go_simp; (try with_reducible rfl)
              (try simp only [Act.put, sR13, List.setIfInBounds_toArray, List.set_cons_zero, List.set_cons_succ])
              refine tkW (v := ?_) 14 sR14 rfl (by kernel_rfl) (by kernel_rfl) (by kernel_rfl) (fun _ _ _ h => h) (by rfl) ?_ (by assumption) ?_
              rotate_left
              · intro w hSw; (try dsimp only at hSw); go_simp; (try with_reducible rfl)
              (try simp only [Act.put, sR14, List.setIfInBounds_toArray, List.set_cons_zero, List.set_cons_succ])
              refine tkE 15 sR15 rfl (by kernel_rfl) (fun K hK => ?_)
              go_simp
              (refine (CC.out _ (by first | assumption | exact Kp.drew _)).mono ?_; rintro e w' ⟨rfl, k1⟩; have k2 := Kp.trans (show Kp wr _ from (by first | assumption | exact Kp.drew _)) k1; clear k1)
              (try go_wp2_with fail)
              refine hK.out _ _ ?_ (fun hHeld1 => ?_)
              · (try dsimp only); exact KS.out _ (by first | assumption | exact Kp.drew _ | exact Kp.refl _)
              clear hK K hHeld0
              (try simp only [Act.put, sR15, List.setIfInBounds_toArray, List.set_cons_zero, List.set_cons_succ])
              refine tkW (v := ?_) 16 sR16 rfl (by kernel_rfl) (by kernel_rfl) (by kernel_rfl) (fun _ _ _ h => h) (by rfl) ?_ (by assumption) ?_
              rotate_left
              · intro w hSw; (try dsimp only at hSw); go_simp; (try with_reducible rfl)
              (try simp only [Act.put, sR16, List.setIfInBounds_toArray, List.set_cons_zero, List.set_cons_succ])
              refine wpAnyH_done (by kernel_rfl) ?_ _
              obtain ⟨w9, h9⟩ : ∃ z : World, z = w' := ⟨_, rfl⟩
              subst h9
              have KF := Lib.hid (JK.out.trans k2)
              clear k2
              clear KS CC
              go_wp2
              go_roundw
              case rel => exact ⟨j, HJN.out, by first | rfl | go_num, HA2, KF⟩
              case measure => first | (simp [intOf]; done) | (simp [intOf]; omega)
            | false =>
              rw [hq] at CC
              have SN := Lib.hid (SR.out.put (k := j + 1) hk HA.out (.inr ⟨x, HXO.out, hq⟩))
              clear hq
              go_wp2_with fail
              refine wp_region_held_drew (S := fun w' => w'.cell? ⟨g0, j, none⟩ = some (.int .i64 (x : Nat)) ∧ w'.cell? ⟨lb, loff + n, none⟩ = some (.slice an (lls LL n).length bn) ∧ w'.cell? ⟨lb, loff + x, none⟩ = some (.slice ax (lls LL x).length bx) ∧ Kp wr w') (by kernel_rfl) ?_ (fun hHeld0 => ?_)
              · (try dsimp only); exact KS.out _ (by first | assumption | exact Kp.drew _ | exact Kp.refl _)
              refine tkW (v := ?_) 0 sR0 rfl (by kernel_rfl) (by kernel_rfl) (by kernel_rfl) (fun _ _ _ h => h) (by rfl) ?_ (by assumption) ?_
              rotate_left
              · intro w hSw; (try dsimp only at hSw); go_simp; (try with_reducible rfl)
              (try simp only [Act.put, sR0, List.setIfInBounds_toArray, List.set_cons_zero, List.set_cons_succ])
              refine tkW (v := ?_) 1 sR1 rfl (by kernel_rfl) (by kernel_rfl) (by kernel_rfl) (fun _ _ _ h => h) (by rfl) ?_ (by assumption) ?_
              rotate_left
              · intro w hSw; (try dsimp only at hSw); go_simp; (try with_reducible rfl)
              (try simp only [Act.put, sR1, List.setIfInBounds_toArray, List.set_cons_zero, List.set_cons_succ])
              refine tkW (v := ?_) 2 sR2 rfl (by kernel_rfl) (by kernel_rfl) (by kernel_rfl) (fun _ _ _ h => h) (by rfl) ?_ (by assumption) ?_
              rotate_left
              · intro w hSw; (try dsimp only at hSw); go_simp; (try with_reducible rfl)
              (try simp only [Act.put, sR2, List.setIfInBounds_toArray, List.set_cons_zero, List.set_cons_succ])
              refine tkW (v := ?_) 3 sR3 rfl (by kernel_rfl) (by kernel_rfl) (by kernel_rfl) (fun _ _ _ h => h) (by rfl) ?_ (by assumption) ?_
              rotate_left
              · intro w hSw; (try dsimp only at hSw); go_simp; (try with_reducible rfl)
              (try simp only [Act.put, sR3, List.setIfInBounds_toArray, List.set_cons_zero, List.set_cons_succ])
              refine tkW (v := ?_) 4 sR4 rfl (by kernel_rfl) (by kernel_rfl) (by kernel_rfl) (fun _ _ _ h => h) (by rfl) ?_ (by assumption) ?_
              rotate_left
              · intro w hSw; (try dsimp only at hSw); go_simp; (try with_reducible rfl)
              (try simp only [Act.put, sR4, List.setIfInBounds_toArray, List.set_cons_zero, List.set_cons_succ])
              refine tkW (v := ?_) 5 sR5 rfl (by kernel_rfl) (by kernel_rfl) (by kernel_rfl) (fun _ _ _ h => h) (by rfl) ?_ (by assumption) ?_
              rotate_left
              · intro w hSw; (try dsimp only at hSw); go_simp; (try with_reducible rfl)
              (try simp only [Act.put, sR5, List.setIfInBounds_toArray, List.set_cons_zero, List.set_cons_succ])
              refine tkW (v := ?_) 6 sR6 rfl (by kernel_rfl) (by kernel_rfl) (by kernel_rfl) (fun _ _ _ h => h) (by rfl) ?_ (by assumption) ?_
              rotate_left
              · intro w hSw; (try dsimp only at hSw); go_simp; (try with_reducible rfl)
              (try simp only [Act.put, sR6, List.setIfInBounds_toArray, List.set_cons_zero, List.set_cons_succ])
              refine tkW (v := ?_) 7 sR7 rfl (by kernel_rfl) (by kernel_rfl) (by kernel_rfl) (fun _ _ _ h => h) (by rfl) ?_ (by assumption) ?_
              rotate_left
              · intro w hSw; (try dsimp only at hSw); go_simp; (try with_reducible rfl)
              (try simp only [Act.put, sR7, List.setIfInBounds_toArray, List.set_cons_zero, List.set_cons_succ])
              refine tkW (v := ?_) 8 sR8 rfl (by kernel_rfl) (by kernel_rfl) (by kernel_rfl) (fun _ _ _ h => h) (by rfl) ?_ (by assumption) ?_
              rotate_left
              · intro w hSw; (try dsimp only at hSw); go_simp; (try with_reducible rfl)
              (try simp only [Act.put, sR8, List.setIfInBounds_toArray, List.set_cons_zero, List.set_cons_succ])
              refine tkW (v := ?_) 9 sR9 rfl (by kernel_rfl) (by kernel_rfl) (by kernel_rfl) (fun _ _ _ h => h) (by rfl) ?_ (by assumption) ?_
              rotate_left
              · intro w hSw; (try dsimp only at hSw); go_simp; (try with_reducible rfl)
              (try simp only [Act.put, sR9, List.setIfInBounds_toArray, List.set_cons_zero, List.set_cons_succ])
              refine tkW (v := ?_) 10 sR10 rfl (by kernel_rfl) (by kernel_rfl) (by kernel_rfl) (fun _ _ _ h => h) (by rfl) ?_ (by assumption) ?_
              rotate_left
              · intro w hSw; (try dsimp only at hSw); go_simp; (try with_reducible rfl)
              (try simp only [Act.put, sR10, List.setIfInBounds_toArray, List.set_cons_zero, List.set_cons_succ])
              refine tkW (v := ?_) 11 sR11 rfl (by kernel_rfl) (by kernel_rfl) (by kernel_rfl) (fun _ _ _ h => h) (by rfl) ?_ (by assumption) ?_
              rotate_left
              · intro w hSw; (try dsimp only at hSw); go_simp; (try with_reducible rfl)
              (try simp only [Act.put, sR11, List.setIfInBounds_toArray, List.set_cons_zero, List.set_cons_succ])
              refine tkW (v := ?_) 12 sR12 rfl (by kernel_rfl) (by kernel_rfl) (by kernel_rfl) (fun _ _ _ h => h) (by rfl) ?_ (by assumption) ?_
              rotate_left
              · intro w hSw; (try dsimp only at hSw); go_simp; (try with_reducible rfl)
              (try simp only [Act.put, sR12, List.setIfInBounds_toArray, List.set_cons_zero, List.set_cons_succ])
              refine tkW (v := ?_) 13 sR13 rfl (by kernel_rfl) (by kernel_rfl) (by kernel_rfl) (fun _ _ _ h => h) (by rfl) ?_ (by assumption) ?_
              rotate_left
              · intro w hSw; (try dsimp only at hSw); go_simp; (try with_reducible rfl)
              (try simp only [Act.put, sR13, List.setIfInBounds_toArray, List.set_cons_zero, List.set_cons_succ])
              refine tkW (v := ?_) 14 sR14 rfl (by kernel_rfl) (by kernel_rfl) (by kernel_rfl) (fun _ _ _ h => h) (by rfl) ?_ (by assumption) ?_
              rotate_left
              · intro w hSw; (try dsimp only at hSw); go_simp; (try with_reducible rfl)
              (try simp only [Act.put, sR14, List.setIfInBounds_toArray, List.set_cons_zero, List.set_cons_succ])
              refine tkE 15 sR15 rfl (by kernel_rfl) (fun K hK => ?_)
              go_simp
              (refine (CC.out _ (by first | assumption | exact Kp.drew _)).mono ?_; rintro e w' ⟨rfl, k1⟩; have k2 := Kp.trans (show Kp wr _ from (by first | assumption | exact Kp.drew _)) k1; clear k1)
              (try go_wp2_with fail)
              refine hK.out _ _ ?_ (fun hHeld1 => ?_)
              · (try dsimp only); exact KS.out _ (by first | assumption | exact Kp.drew _ | exact Kp.refl _)
              clear hK K hHeld0
              (try simp only [Act.put, sR15, List.setIfInBounds_toArray, List.set_cons_zero, List.set_cons_succ])
              refine tkW (v := ?_) 16 sR16 rfl (by kernel_rfl) (by kernel_rfl) (by kernel_rfl) (fun _ _ _ h => h) (by rfl) ?_ (by assumption) ?_
              rotate_left
              · intro w hSw; (try dsimp only at hSw); go_simp; (try with_reducible rfl)
              (try simp only [Act.put, sR16, List.setIfInBounds_toArray, List.set_cons_zero, List.set_cons_succ])
              refine wpAnyH_done (by kernel_rfl) ?_ _
              obtain ⟨w9, h9⟩ : ∃ z : World, z = w' := ⟨_, rfl⟩
              subst h9
              have KF := Lib.hid (JK.out.trans k2)
              clear k2
              clear KS CC
              have HB9 := Lib.hid (Nat.le_trans J.out.size KF.out.size)
              have OWX := Lib.hid (own_kp OW.out KF.out)
              have HK9 := Lib.hid hk
              have LT9 := Lib.hid (show (cellsN (out.take (j + 1))).length = (j + 1) * 1 by rw [cellsN_len, List.length_take, HN.out, Nat.min_eq_left hk])
              have LD9 := Lib.hid (show (cellsN (out.drop (j + 1))).length = (n - (j + 1)) * 1 by rw [cellsN_len, List.length_drop, HN.out])
              go_wp2_with (first | (at_builtin; refine wpList_app rfl (.tmp 34) (.tmp 37) 41 rfl w9.heap.size 3 i0 (.int .i64 0) 1 8 Tryz.underlying41 hi hz0 hz1 hz2 rfl (by decide) _ _ _ rfl (own_lit0 _ _ _ (Nat.le_refl _)) _ _ _ rfl (src_take (OWX.out.alloc _) HK9.out) LT9.out (cellsN_one _) (by unfold maxLen; omega) (by omega) ((Kp.alloc _ _).size) ?_; intro v6 w6 own6 grow6 at6; have G6 := Lib.hid ((Kp.alloc _ _).grown grow6 (fun j hj => (by cases hj; exact Nat.le_refl _)) : Kp w9 w6); have O6 := Lib.hid own6; clear own6 grow6 at6) | (at_builtin; refine wpList_app rfl (.tmp 39) (.tmp 41) 41 rfl w9.heap.size 3 i0 (.int .i64 0) 1 8 Tryz.underlying41 hi hz0 hz1 hz2 rfl (by decide) _ _ _ rfl (O6.out.alloc _) _ _ _ rfl (src_one _ _ _) rfl (by intro u hu; simp at hu; subst hu; rfl) (by unfold maxLen; omega) (by omega) ((G6.out.trans (Kp.alloc _ _)).size) ?_; intro v7 w7 own7 grow7 at7; have O7 := Lib.hid own7; have G7 := Lib.hid ((G6.out.trans (Kp.alloc _ _)).grown grow7 (fun j hj => (O6.out.lt j hj).1)); clear own7 grow7 at7) | (at_builtin; refine wpList_app rfl (.tmp 43) (.tmp 46) 41 rfl w9.heap.size 3 i0 (.int .i64 0) 1 8 Tryz.underlying41 hi hz0 hz1 hz2 rfl (by decide) _ _ _ rfl O7.out _ _ _ rfl (src_drop (own_kp OWX.out G7.out) HK9.out rfl) LD9.out (cellsN_one _) (by unfold maxLen; omega) (by omega) G7.out.size ?_; intro v8 w8 own8 grow8 at8; have O8 := Lib.hid own8; have G8 := Lib.hid (G7.out.grown grow8 (fun j hj => (O7.out.lt j hj).1)); clear own8 grow8 at8) | (at_builtin; refine wpList_app rfl (.tmp 43) (.tmp 46) 41 rfl w9.heap.size 3 i0 (.int .i64 0) 1 8 Tryz.underlying41 hi hz0 hz1 hz2 rfl (by decide) _ _ _ rfl O7.out _ _ _ rfl (src_cut (own_kp OWX.out G7.out) HK9.out hc0) LD9.out (cellsN_one _) (by unfold maxLen; omega) (by omega) G7.out.size ?_; intro v8 w8 own8 grow8 at8; have O8 := Lib.hid own8; have G8 := Lib.hid (G7.out.grown grow8 (fun j hj => (O7.out.lt j hj).1)); clear own8 grow8 at8))
              all_goals
                go_roundw
                case rel => exact ⟨n + 1, _, HN1.out, HNV.out, Lib.hid (next_own out (n : Int) HK9.out HB9.out O8.out), SN, Lib.hid (J.out.trans (KF.out.trans G8.out))⟩
                case measure => have := HLT.out; simp [intOf]; omega
    · obtain rfl : n = LL.length := by omega
      obtain ⟨sa, sc, rfl⟩ := own_slice OW.out
      go_wp2
      go_ret
      exact ⟨_, out, rfl, ordInts_own (by rw [SR.out.len]; exact OW.out), SR.out, J.out⟩
set_option maxHeartbeats 16000000 in
set_option maxRecDepth 100000 in
theorem osorts_few (vl : Value) (LL : List (List LF)) (w : World) (rl : LvsAt w vl LL) (gl : ∀ l ∈ LL, ∀ f ∈ l, LeafG f) (T : Tabs w) (hf : fewLL LL = false) :
    Calls Tryz.prog 4 #[vl] w fun e w' => e = .returned (.bool true) ∧ Kp w w' := by
  have AW := Lib.hid (fun w1 (kk : Kp w w1) => awake21 w1 (T.kp kk))
  have F := Lib.hid (fun w1 (kk : Kp w w1) => few21_any vl LL w1 (rl.kp kk))
  rw [hf] at F
  obtain ⟨ad, cp, rfl⟩ := rl.slice
  have K0 := Lib.hid (Kp.refl w)
  clear rl gl T
  go_enter Tryz.func4, Tryz.ntmps4
  go_wp2_with fail
  refine (AW.out _ (by first | with_reducible exact K0.out | with_reducible exact K0.out.trans (Kp.alloc _ _) | with_reducible exact (K0.out.trans (Kp.alloc _ _)).trans (Kp.alloc _ _) | with_reducible exact ((K0.out.trans (Kp.alloc _ _)).trans (Kp.alloc _ _)).trans (Kp.alloc _ _) | with_reducible exact K0.out.trans (Kp.drew _) | with_reducible exact K0.out.trans (Kp.drewN _ _))).mono ?_
  rintro e w1 ⟨rfl, kk⟩
  have K1 := Lib.hid ((show Kp w _ from (by first | with_reducible exact K0.out | with_reducible exact K0.out.trans (Kp.alloc _ _) | with_reducible exact (K0.out.trans (Kp.alloc _ _)).trans (Kp.alloc _ _) | with_reducible exact ((K0.out.trans (Kp.alloc _ _)).trans (Kp.alloc _ _)).trans (Kp.alloc _ _) | with_reducible exact K0.out.trans (Kp.drew _) | with_reducible exact K0.out.trans (Kp.drewN _ _))).trans kk)
  clear kk
  go_wp2_with fail
  refine (F.out _ (by first | with_reducible exact K1.out | with_reducible exact K1.out.trans (Kp.alloc _ _) | with_reducible exact (K1.out.trans (Kp.alloc _ _)).trans (Kp.alloc _ _) | with_reducible exact ((K1.out.trans (Kp.alloc _ _)).trans (Kp.alloc _ _)).trans (Kp.alloc _ _) | with_reducible exact K1.out.trans (Kp.drew _) | with_reducible exact K1.out.trans (Kp.drewN _ _))).mono ?_
  rintro e w2 ⟨rfl, kk⟩
  have K2 := Lib.hid ((show Kp w _ from (by first | with_reducible exact K1.out | with_reducible exact K1.out.trans (Kp.alloc _ _) | with_reducible exact (K1.out.trans (Kp.alloc _ _)).trans (Kp.alloc _ _) | with_reducible exact ((K1.out.trans (Kp.alloc _ _)).trans (Kp.alloc _ _)).trans (Kp.alloc _ _) | with_reducible exact K1.out.trans (Kp.drew _) | with_reducible exact K1.out.trans (Kp.drewN _ _))).trans kk)
  clear kk
  go_wp2
  go_ret
  exact ⟨rfl, K2.out⟩
set_option maxHeartbeats 16000000 in
set_option maxRecDepth 100000 in
theorem osorts_all (vl : Value) (LL : List (List LF)) (w : World) (rl : LvsAt w vl LL) (gl : ∀ l ∈ LL, ∀ f ∈ l, LeafG f) (T : Tabs w) (hf : fewLL LL = true) :
    Calls Tryz.prog 4 #[vl] w fun e w' => e = .returned (.bool true) ∧ Kp w w' := by
  obtain ⟨hls, hn⟩ := fewLL_ok hf gl
  have AW := Lib.hid (fun w1 (kk : Kp w w1) => awake21 w1 (T.kp kk))
  have F := Lib.hid (fun w1 (kk : Kp w w1) => few21_any vl LL w1 (rl.kp kk))
  rw [hf] at F
  have CS := Lib.hid (fun w1 (kk : Kp w w1) => osort_any vl LL w1 (rl.kp kk) hls (by omega) (T.kp kk))
  have CR := Lib.hid (fun w1 (kk : Kp w w1) => r21Sort_any vl LL w1 (rl.kp kk) hls (by omega))
  have CI := Lib.hid (fun v u out w1 (h1 : IntsAt w1 v out) (h2 : IntsAt w1 u out) => rsame18_any v u out w1 h1 h2)
  obtain ⟨ad, cp, rfl⟩ := rl.slice
  have K0 := Lib.hid (Kp.refl w)
  clear rl gl T hls hf
  go_enter Tryz.func4, Tryz.ntmps4
  go_wp2_with fail
  refine (AW.out _ (by first | with_reducible exact K0.out | with_reducible exact K0.out.trans (Kp.alloc _ _) | with_reducible exact (K0.out.trans (Kp.alloc _ _)).trans (Kp.alloc _ _) | with_reducible exact ((K0.out.trans (Kp.alloc _ _)).trans (Kp.alloc _ _)).trans (Kp.alloc _ _) | with_reducible exact K0.out.trans (Kp.drew _) | with_reducible exact K0.out.trans (Kp.drewN _ _))).mono ?_
  rintro e w1 ⟨rfl, kk⟩
  have K1 := Lib.hid ((show Kp w _ from (by first | with_reducible exact K0.out | with_reducible exact K0.out.trans (Kp.alloc _ _) | with_reducible exact (K0.out.trans (Kp.alloc _ _)).trans (Kp.alloc _ _) | with_reducible exact ((K0.out.trans (Kp.alloc _ _)).trans (Kp.alloc _ _)).trans (Kp.alloc _ _) | with_reducible exact K0.out.trans (Kp.drew _) | with_reducible exact K0.out.trans (Kp.drewN _ _))).trans kk)
  clear kk
  go_wp2_with fail
  refine (F.out _ (by first | with_reducible exact K1.out | with_reducible exact K1.out.trans (Kp.alloc _ _) | with_reducible exact (K1.out.trans (Kp.alloc _ _)).trans (Kp.alloc _ _) | with_reducible exact ((K1.out.trans (Kp.alloc _ _)).trans (Kp.alloc _ _)).trans (Kp.alloc _ _) | with_reducible exact K1.out.trans (Kp.drew _) | with_reducible exact K1.out.trans (Kp.drewN _ _))).mono ?_
  rintro e w2 ⟨rfl, kk⟩
  have K2 := Lib.hid ((show Kp w _ from (by first | with_reducible exact K1.out | with_reducible exact K1.out.trans (Kp.alloc _ _) | with_reducible exact (K1.out.trans (Kp.alloc _ _)).trans (Kp.alloc _ _) | with_reducible exact ((K1.out.trans (Kp.alloc _ _)).trans (Kp.alloc _ _)).trans (Kp.alloc _ _) | with_reducible exact K1.out.trans (Kp.drew _) | with_reducible exact K1.out.trans (Kp.drewN _ _))).trans kk)
  clear kk
  go_wp2_with fail
  refine (CS.out _ (by first | with_reducible exact K2.out | with_reducible exact K2.out.trans (Kp.alloc _ _) | with_reducible exact (K2.out.trans (Kp.alloc _ _)).trans (Kp.alloc _ _) | with_reducible exact ((K2.out.trans (Kp.alloc _ _)).trans (Kp.alloc _ _)).trans (Kp.alloc _ _) | with_reducible exact K2.out.trans (Kp.drew _) | with_reducible exact K2.out.trans (Kp.drewN _ _))).mono ?_
  rintro e w3 ⟨v3, out, rfl, iv, so, kk⟩
  have K3 := Lib.hid ((show Kp w _ from (by first | with_reducible exact K2.out | with_reducible exact K2.out.trans (Kp.alloc _ _) | with_reducible exact (K2.out.trans (Kp.alloc _ _)).trans (Kp.alloc _ _) | with_reducible exact ((K2.out.trans (Kp.alloc _ _)).trans (Kp.alloc _ _)).trans (Kp.alloc _ _) | with_reducible exact K2.out.trans (Kp.drew _) | with_reducible exact K2.out.trans (Kp.drewN _ _))).trans kk)
  have IV := Lib.hid iv
  have SO := Lib.hid so
  clear iv so kk
  go_wp2_with fail
  refine (CR.out _ K3.out).mono ?_
  rintro e w4 ⟨v4, out2, rfl, iv, so, kk⟩
  obtain rfl := Srt1.once so SO.out
  have IV4 := Lib.hid iv
  have IV3 := Lib.hid (IV.out.kp kk)
  have K4 := Lib.hid (K3.out.trans kk)
  clear iv so kk
  go_wp2_with fail
  refine (CI.out _ _ _ _ IV3.out IV4.out).mono ?_
  rintro e w5 ⟨rfl, kk⟩
  have K5 := Lib.hid (K4.out.trans kk)
  clear kk
  go_wp2
  go_ret
  exact ⟨rfl, K5.out⟩
theorem orderSorts_walk (vl : Value) (LL : List (List LF)) (w : World) (rl : LvsAt w vl LL) (gl : ∀ l ∈ LL, ∀ f ∈ l, LeafG f) (T : Tabs w) :
    Calls Tryz.prog 4 #[vl] w fun e w' => e = .returned (.bool true) ∧ Kp w w' := by
  rcases Bool.eq_false_or_eq_true (fewLL LL) with a | a
  · exact osorts_all vl LL w rl gl T a
  · exact osorts_few vl LL w rl gl T a
end Go.Proofs.YtjjpnglilalnmaaGreatDoor
