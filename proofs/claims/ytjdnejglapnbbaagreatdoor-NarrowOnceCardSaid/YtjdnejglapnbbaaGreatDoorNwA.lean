/-
  Contracts of package narrow: least, greatest, edges.
-/
import Derived.Test.YtjdnejglapnbbaaGreatDoorFamO
import Derived.Test.YtjdnejglapnbbaaGreatDoorBx
import Derived.Test.YtjdnejglapnbbaaGreatDoorNwR
import Derived.Test.YtjdnejglapnbbaaGreatDoorOwnV
namespace Go.Proofs.YtjdnejglapnbbaaGreatDoor
open Go.RowKit
set_option linter.unusedVariables false
set_option linter.unusedSimpArgs false
set_option maxHeartbeats 1000000 in
theorem nwLeast_any (v : Value) (s : List R) (w : World) (hv : RunsAt w v s) (hs : sane s) (h0 : 0 < s.length) (hl : s.length ≤ 1000000) :
    Calls Tryz.prog 116 #[v] w fun e w' => e = .returned (.int .i64 (leastR s)) ∧ Kp w w' := by
  obtain ⟨ad, c, rfl⟩ := hv.slice
  have C := Lib.hid (next_of ad s.length c s (-1099511627776) w (asS_sane _ s w hv (sane_i64 hs) hs) hs (by omega) (by omega) (by omega))
  rw [nxt_low hs h0] at C
  simp only at C
  generalize leastR s = x at *
  clear hv hs h0
  go_enter Tryz.func116, Tryz.ntmps116
  go_wp2_with fail
  refine (C.out).mono ?_
  rintro e w1 ⟨rfl, kk⟩
  go_wp2
  go_ret
  exact ⟨rfl, kk⟩
set_option maxHeartbeats 1000000 in
theorem nwGreat_any (v : Value) (s : List R) (w : World) (hv : RunsAt w v s) (hs : sane s) (h0 : 0 < s.length) (hl : s.length ≤ 1000000) :
    Calls Tryz.prog 117 #[v] w fun e w' => e = .returned (.int .i64 (greatR s)) ∧ Kp w w' := by
  obtain ⟨ad, c, rfl⟩ := hv.slice
  have C := Lib.hid (prev_of ad s.length c s 1099511627776 w (asS_sane _ s w hv (sane_i64 hs) hs) hs (by omega) (by omega) (by omega))
  rw [prv_high hs h0] at C
  simp only at C
  generalize greatR s = x at *
  clear hv hs h0
  go_enter Tryz.func117, Tryz.ntmps117
  go_wp2_with fail
  refine (C.out).mono ?_
  rintro e w1 ⟨rfl, kk⟩
  go_wp2
  go_ret
  exact ⟨rfl, kk⟩
set_option maxHeartbeats 2000000 in
set_option maxRecDepth 100000 in
theorem nwEdges_any (f : LF) (va vb : Value) (w : World) (h : LeafOk w f va vb) (T : Tabs w) :
    Calls Tryz.prog 61 #[leafV f va vb] w fun e w' => ∃ v u, e = .returned (.tuple #[v, u, .bool (okE f)]) ∧ OwnR w' w.heap.size v (startsR (famR f)) ∧ OwnR w' w.heap.size u (endsR (famR f)) ∧ Kp w w' := by
  have C := Lib.hid (fun w1 (kk : Kp w w1) => leafStartsO_any f va vb w1 (h.kp kk) (T.kp kk))
  have D := Lib.hid (fun w1 (kk : Kp w w1) => leafEndsO_any f va vb w1 (h.kp kk) (T.kp kk))
  have E := Lib.hid (show okE f = (startsB (famR f) && endsB (famR f)) from rfl)
  generalize startsB (famR f) = p at *
  generalize endsB (famR f) = q at *
  generalize startsR (famR f) = s at *
  generalize endsR (famR f) = t at *
  generalize okE f = r at *
  obtain ⟨sp, u, a, b⟩ := f
  obtain ⟨ad, ca, rfl⟩ := h.a.slice
  obtain ⟨bd, cb, rfl⟩ := h.b.slice
  unfold leafV at C D ⊢
  simp only at C D ⊢
  have K0 := Lib.hid (Kp.alloc w (.cells #[.bool sp, .int .i64 u, .slice ad a.length ca, .slice bd b.length cb] 47))
  clear h T
  obtain ⟨W0, hW⟩ : ∃ x, x = w.alloc (.cells #[.bool sp, .int .i64 u, .slice ad a.length ca, .slice bd b.length cb] 47) := ⟨_, rfl⟩
  have k0 : Kp w W0 := by rw [hW]; exact Kp.alloc _ _
  have g0 : W0.heap[w.heap.size]? = some (.cells #[.bool sp, .int .i64 u, .slice ad a.length ca, .slice bd b.length cb] 47 (0, 0)) := by rw [hW]; exact heap_at _ _ _ rfl
  have HB := Lib.hid (fun w' (kq : Kp W0 w') => row4 (heap_block kq g0))
  have KW := Lib.hid k0
  have HW := Lib.hid hW
  clear hW g0 k0
  go_enter Tryz.func61, Tryz.ntmps61
  go_upto_region 1 with fail
  rw [← HW.out]
  obtain ⟨c0, c1, c2, c3⟩ := HB.out W0 (Kp.refl _)
  go_wp2_with fail
  refine (C.out _ KW.out).mono ?_
  rintro e w1 ⟨v1, rfl, o1, k1⟩
  obtain ⟨a1, l1, rfl⟩ := own_slice o1
  have K1 := Lib.hid k1
  have O1 := Lib.hid o1
  clear c0 c1 c2 c3 o1
  obtain ⟨c0, c1, c2, c3⟩ := HB.out w1 k1
  clear k1
  go_wp2_with fail
  refine (D.out _ (KW.out.trans K1.out)).mono ?_
  rintro e w2 ⟨v2, rfl, o2, k2⟩
  obtain ⟨a2, l2, rfl⟩ := own_slice o2
  have K2 := Lib.hid k2
  have O2 := Lib.hid o2
  have PO := Lib.hid (show OwnR w2 w.heap.size (.slice a1 s.length l1) s from own_mono (own_kp O1.out k2) (Below.size KW.out))
  have PP := Lib.hid (show OwnR w2 w.heap.size (.slice a2 t.length l2) t from own_mono o2 (Below.size (KW.out.trans K1.out)))
  clear k2 o2 c0 c1 c2 c3 O1 O2
  cases p with
  | true =>
    have E2 : r = q := E.out
    subst E2
    clear E
    go_wp2
    exact bodyPost_ret (v := .tuple #[.slice a1 s.length l1, .slice a2 t.length l2, .bool r]) (by simp [results, Tryz.results61, go_sem]) rfl ⟨_, _, rfl, PO.out, PP.out, KW.out.trans (K1.out.trans K2.out)⟩
  | false =>
    have E2 : r = false := E.out
    subst E2
    clear E
    go_wp2
    exact bodyPost_ret (v := .tuple #[.slice a1 s.length l1, .slice a2 t.length l2, .bool false]) (by simp [results, Tryz.results61, go_sem]) rfl ⟨_, _, rfl, PO.out, PP.out, KW.out.trans (K1.out.trans K2.out)⟩
end Go.Proofs.YtjdnejglapnbbaaGreatDoor
