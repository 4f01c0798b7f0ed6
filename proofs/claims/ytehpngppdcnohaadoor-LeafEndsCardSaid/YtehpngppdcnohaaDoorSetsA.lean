/-
  Contracts of package sets: Union, moved, Shift, Grow, Wide.
-/
import Derived.Test.YtehpngppdcnohaaDoorL4A
import Derived.StillTailTactics
namespace Go.Proofs.YtehpngppdcnohaaDoor
open Go.RowKit
set_option linter.unusedVariables false
set_option linter.unusedSimpArgs false
theorem RunsAt.len {w : World} {v : Value} {l : List R} (h : RunsAt w v l) : l.length ≤ maxLen := by
  rcases h with ⟨ad, cp, rfl, rfl⟩ | ⟨b, off, cap, rfl, h1, h2, _⟩
  · simp
  · omega
set_option maxHeartbeats 1000000 in
set_option maxRecDepth 100000 in
theorem union_any (v u : Value) (l m : List R) (w : World) (hv : RunsAt w v l) (hu : RunsAt w u m) (hl : I64R l) (hm : I64R m) (hn : l.length + m.length ≤ 1000000) :
    Calls Tryd.prog 37 #[v, u] w fun e w' => ∃ v' : Value, e = .returned v' ∧ w'.ownsRow w.heap.size 58 2 v' (nf (l ++ m)).length (cellsR (nf (l ++ m))) ∧ Kp w w' := by
  obtain ⟨i0, hi, hz0, hz1, hz2⟩ := info_parts infoR
  obtain ⟨ad, c, rfl⟩ := hv.slice
  obtain ⟨ad2, c2, rfl⟩ := hu.slice
  have HV := Lib.hid hv
  have HU := Lib.hid hu
  have HI := Lib.hid (show I64R (l ++ m) from fun r hr => (List.mem_append.1 hr).elim (hl r) (hm r))
  have ws : IntKind.i64.wrap ((l.length : Int) + (m.length : Int)) = (l.length : Int) + (m.length : Int) := by rw [IntKind.wrap_i64]; omega
  clear hv hu hl hm
  go_enter Tryd.func37, Tryd.ntmps37
  go_wp2_with (first
    | (at_make; refine wpList_make_own _ rfl _ _ 22 rfl w.heap.size 58 i0 (.agg #[.int .i64 0, .int .i64 0]) 2 Tryd.underlying22 hi hz0 hz1 .i64 .i64 _ (l.length + m.length) rfl rfl rfl (by rw [hz2]; omega) (by unfold maxLen; omega) (Nat.le_refl _) ?_; intro w0 hown0 hgrow0; have K0 := Lib.hid ((Kp.refl w).grown hgrow0 (fun k h => by cases h)))
    | (at_builtin; refine wpList_app rfl (.tmp 12) (.tmp 13) 22 rfl w.heap.size 58 i0 (.agg #[.int .i64 0, .int .i64 0]) 2 16 Tryd.underlying22 hi hz0 hz1 hz2 rfl (by decide) _ _ _ rfl hown0 _ _ _ rfl (HV.out.kp K0.out).src (cellsR_length _) (cells_one _) (by unfold maxLen; omega) (by omega) K0.out.size ?_; intro v1 w1 hown1 hgrow1 hat1; have K1 := Lib.hid (K0.out.grown hgrow1 (fun j hj => (hown0.lt j hj).1)); have O1 := Lib.hid (own_len (l := []) hown1))
    | (at_builtin; refine wpList_app rfl (.tmp 15) (.tmp 16) 22 rfl w.heap.size 58 i0 (.agg #[.int .i64 0, .int .i64 0]) 2 16 Tryd.underlying22 hi hz0 hz1 hz2 rfl (by decide) _ _ _ rfl O1.out _ _ _ rfl (HU.out.kp K1.out).src (cellsR_length _) (cells_one _) (by simp; unfold maxLen; omega) (by simp; omega) K1.out.size ?_; intro v2 w2 hown2 hgrow2 hat2; have K2 := Lib.hid (K1.out.grown hgrow2 (fun j hj => (O1.out.lt j hj).1)); have O2 := Lib.hid (own_len hown2))
    | (go_at_call 39; refine (make_any v2 (([] ++ l) ++ m) w2 (runsAt_own O2.out) (by rw [List.nil_append]; exact HI.out) (by simp; omega)).mono ?_; rintro e w3 ⟨v3, rfl, own3, k3⟩))
  go_ret
  rw [List.nil_append] at own3
  exact ⟨_, rfl, own_mono own3 K2.out.size, K2.out.trans k3⟩
theorem one_src2 (w : World) (o : Obj) (lo hi' : Int) (t : TypeId) : SrcAt ((w.alloc o).alloc (.cells #[.int .i64 lo, .int .i64 hi'] t)) (.slice (some ⟨w.heap.size + 1, 0, none⟩) 1 1) 1 [.int .i64 lo, .int .i64 hi'] := by
  have h := one_src (w.alloc o) lo hi' t
  simpa using h
/-- each run, moved -/
def shR (a b : Int) (l : List R) : List R := l.map fun r => (r.1 + a, r.2 + b)
theorem shR_len (a b : Int) (l : List R) : (shR a b l).length = l.length := by unfold shR; simp
theorem shR_take (a b : Int) (l : List R) (k : Nat) (h : k < l.length) : shR a b (l.take (k + 1)) = shR a b (l.take k) ++ [((at_ l k).1 + a, (at_ l k).2 + b)] := by
  rw [take_at l k h]; unfold shR; simp
theorem shR_i64 {a b : Int} {l : List R} (h : ∀ r ∈ l, okR r) (a1 : -2199023255552 ≤ a) (a2 : a ≤ 2199023255552) (b1 : -2199023255552 ≤ b) (b2 : b ≤ 2199023255552) : I64R (shR a b l) := by
  intro r hr
  unfold shR at hr
  simp only [List.mem_map] at hr
  obtain ⟨q, hq, rfl⟩ := hr
  obtain ⟨o1, o2, o3⟩ := h q hq
  simp only
  omega
theorem nf_nil : nf [] = [] := rfl
theorem sh_out {l : List R} (h : sane l) {k : Int} (hk : k < -2199023255552 ∨ 2199023255552 < k) : nf (shR k k l) = [] := by
  refine nf_eq trivial fun n => ⟨fun g => absurd g (memR_nil n), ?_⟩
  rintro ⟨r, hr, g1, g2, g3, g4⟩
  unfold shR at hr
  simp only [List.mem_map] at hr
  obtain ⟨q, hq, rfl⟩ := hr
  obtain ⟨o1, o2, o3⟩ := sane_ok h q hq
  simp only at g1 g2
  exfalso; omega
def grK (k : Int) : Int := min (max k 0) 2199023255552
theorem wide_any (v : Value) (l : List R) (w : World) (hv : RunsAt w v l) (hl : I64R l) (hn : l.length ≤ 1000000) :
    Calls Tryd.prog 101 #[v] w fun e w' => e = .returned (.bool (decide (400 < (nf l).length))) ∧ Kp w w' := by
  have C := Lib.hid (make_any v l w hv hl hn)
  clear hv hl
  generalize nf l = L at *
  have E : Hid (decide ((400 : Int) < (L.length : Int)) = decide (400 < L.length)) := by
    unfold Hid
    have : ((400 : Int) < (L.length : Int)) ↔ 400 < L.length := by omega
    simp only [this]
  go_enter Tryd.func101, Tryd.ntmps101
  go_wp2_with fail
  refine (C.out).mono ?_
  rintro e w1 ⟨v1, rfl, own1, kk⟩
  obtain ⟨ad, c, rfl⟩ := (runsAt_own own1).slice
  have K := Lib.hid kk
  clear own1 kk C
  go_wp2
  go_ret
  exact ⟨ret_bool E.out, K.out⟩
end Go.Proofs.YtehpngppdcnohaaDoor
