/-
  Contracts of package allen: a name's relation.
-/
import Derived.Test.YteneoimkfddhpaaDoorAllenN
import Derived.Laws.Rows
import Derived.OwnWalk
import Derived.ChangeKeysEq
import Derived.Laws.PanicsMore
import Derived.Deep.DeepMust
namespace Go.Proofs.YteneoimkfddhpaaDoor
open Go.RowKit
set_option linter.unusedVariables false
/-- the place of the first of the list's texts that is s, from k on; 13 if there is none -/
def ndF (s : ByteArray) : Nat → Nat → Nat
  | 0, k => k
  | n + 1, k => if ((nmsL.getD k ByteArray.empty).toList == s.toList) = true then k else ndF s n (k + 1)
def ndI (s : ByteArray) : Nat := ndF s 13 0
def ndB (s : ByteArray) : Bool := decide (ndI s < 13)
def ndV (s : ByteArray) : Int := if ndB s then (ndI s : Int) else 0
theorem ndF_step (s : ByteArray) (k : Nat) (h : k < 13) : ndF s (13 - k) k = if ((nmsL.getD k ByteArray.empty).toList == s.toList) = true then k else ndF s (13 - (k + 1)) (k + 1) := by
  rw [show 13 - k = (13 - (k + 1)) + 1 by omega]; rfl
theorem nmArr : (nmsL.map Value.string).toArray.size = 13 := rfl
theorem TabNM.heap {w : World} (h : TabNM w) : ∃ t fr, w.heap[0]? = some (.cells (nmsL.map Value.string).toArray t fr) := by
  unfold TabNM World.var? at h
  rw [gNM] at h
  simp only [Option.bind_some] at h
  split at h
  · rename_i c t fr hb
    simp only [Option.some.injEq] at h
    subst h
    exact ⟨t, fr, hb⟩
  · cases h
theorem run_index_arr {P : Program} {t e : TypeId} {n : Nat} {cs : Array Value} {k : Nat} {u : Value} {i : TypeInfo} (w : World) (h : P.underlying t = some (.array n e)) (hk : k < n) (hp : P.plainKey e = true) (hi : P.info? e = some i) (hs : P.cellsOf e = 1) (hc : cs[k]? = some u) :
    (Instr.index t (.agg cs) (.int .i64 k)).run P w = .ok u w := by
  simp [Instr.index, run_underlying h, asIntOf, hk, run_sizeOf w hi, hs, run_part_plain w hp hc]
theorem wpList_index_arr {P : Program} {ops : Array Oper} {rest : List Oper} {o : Oper} {a : Act} {w : World} {Q : Exit → Act → World → Prop} (hgd : o.guard = none) (t e : TypeId) (x y : Operand) (ho : o.op = .index t x y) (n : Nat) (cs : Array Value) (k : Nat) (u : Value) (i : TypeInfo)
    (hx : a.eval x = .agg cs) (hy : a.eval y = .int .i64 k) (h : P.underlying t = some (.array n e)) (hk : k < n) (hp : P.plainKey e = true) (hi : P.info? e = some i) (hs : P.cellsOf e = 1) (hc : cs[k]? = some u)
    (g : wpList P ops Q rest (a.put o.dst u) w) : wpList P ops Q (o :: rest) a w := by
  refine wpList_plain hgd fun K hK => ?_
  unfold Oper.wp execOp
  simp only [ho, hx, hy, Sem.run_bind, Sem.run_pure, Result.andThen_ok, run_index_arr w h hk hp hi hs hc]
  exact hK _ _ g
theorem str_info : ∃ i, Tryd.prog.info? 9 = some i := ⟨_, rfl⟩
theorem str_plain : Tryd.prog.plainKey 9 = true := by kernel_rfl
theorem str_cells : Tryd.prog.cellsOf 9 = 1 := by kernel_rfl
theorem arr_info : (Tryd.prog.info? 47).map (·.size) = some 13 := by kernel_rfl
set_option maxHeartbeats 2000000 in
theorem named_any (s : ByteArray) (w : World) (hT : TabNM w) :
    Calls Tryd.prog 19 #[.string s] w fun e w' => e = .returned (.tuple #[.int .i64 (ndV s), .bool (ndB s)]) ∧ w = w' := by
  obtain ⟨t, fr, hg⟩ := hT.heap
  obtain ⟨si, hsi⟩ := str_info
  have l13 := nmArr
  have nth : ∀ k : Nat, k < 13 → (nmsL.map Value.string).toArray[k]? = some (.string (nmsL.getD k ByteArray.empty)) := fun k h => nth_arr nmsL k h
  generalize hcs : (nmsL.map Value.string).toArray = cs at *
  clear hcs
  go_enter Tryd.func19, Tryd.ntmps19
  go_wp2_with (refine wpList_load_row rfl 47 _ rfl 0 rfl t cs fr _ hg Tryd.underlying47 rfl (by rw [l13]; exact arr_info) ?_)
  go_loopw [7] (fun i wr => ∃ k : Nat, k ≤ 13 ∧ i = .int .i64 k ∧ ndF s (13 - k) k = ndI s ∧ wr = w) (fun i _ => 13 - (intOf i).toNat)
  case atStart => exact ⟨0, by omega, rfl, rfl, rfl⟩
  case round =>
    obtain ⟨k, hk, rfl, hs, rfl⟩ := hrel
    by_cases hlt : k < 13
    · have nk := nth k hlt
      have st := ndF_step s k hlt
      generalize nmsL.getD k ByteArray.empty = x at *
      clear nth
      by_cases g : (x.toList == s.toList) = true
      · rw [if_pos g] at st
        have r1 : ndI s = k := by omega
        have r2 : ndB s = true := by unfold ndB; rw [r1]; simpa using hlt
        have R1 := Lib.hid (show ndV s = k by unfold ndV; rw [r2, if_pos rfl, r1])
        have R2 := Lib.hid r2
        have g1 := g
        clear hs st r1 r2 g
        go_wp2_with (refine wpList_index_arr rfl 47 9 (.tmp 6) (.tmp 7) rfl 13 cs k (.string x) si rfl rfl Tryd.underlying47 hlt str_plain hsi str_cells nk ?_)
        go_ret2
        exact ⟨by rw [R1.out, R2.out]; rfl, rfl⟩
      · rw [if_neg g] at st
        have g1 : (x.toList == s.toList) = false := by simpa using g
        have S := Lib.hid (show ndF s (13 - (k + 1)) (k + 1) = ndI s by omega)
        clear hs st g
        go_wp2_with (refine wpList_index_arr rfl 47 9 (.tmp 6) (.tmp 7) rfl 13 cs k (.string x) si rfl rfl Tryd.underlying47 hlt str_plain hsi str_cells nk ?_)
        go_roundw
        case rel => exact ⟨k + 1, by omega, by go_num, S.out, trivial⟩
        case measure => simp [intOf]; omega
    · obtain rfl : k = 13 := by omega
      have r1 : ndI s = 13 := by rw [← hs]; rfl
      have r2 : ndB s = false := by unfold ndB; rw [r1]; rfl
      have R1 := Lib.hid (show ndV s = 0 by unfold ndV; rw [r2]; rfl)
      have R2 := Lib.hid r2
      clear hs r1 r2 nth
      go_wp2
      go_ret2
      exact ⟨by rw [R1.out, R2.out]; rfl, rfl⟩
end Go.Proofs.YteneoimkfddhpaaDoor
