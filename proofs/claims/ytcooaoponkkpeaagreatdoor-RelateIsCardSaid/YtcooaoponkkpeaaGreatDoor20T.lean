import Derived.Test.YtcooaoponkkpeaaGreatDoorJZ
import Derived.Test.YtcooaoponkkpeaaGreatDoorRows
import Derived.Stop.LaidErr
import Derived.Lib.LaidTab
namespace Go.Proofs.YtcooaoponkkpeaaGreatDoor
open Go.RowKit Go.Lib
theorem cells_int : Tryz.prog.cellsOf 3 = 1 := by kernel_rfl
theorem cells_md : Tryz.prog.cellsOf 199 = 13 := by kernel_rfl
theorem cells_uc : Tryz.prog.cellsOf 183 = 6 := by kernel_rfl
theorem gt_md : (Tryz.prog.globals[2]?).map (·.type) = some 199 := by kernel_rfl
theorem gt_uc : (Tryz.prog.globals[1]?).map (·.type) = some 183 := by kernel_rfl
def strData {H : Type} (zs : List ByteArray) : DataW H := .agg (zs.map fun z => .lit (.string z.data.toList))
theorem cells_of_strs {H : Type} {enc : TypeId × Value → H} {P : Program} {w : World} {base : Nat} {sp : Nat → Bool} {held : Bool} {fuel : Nat} {t e : TypeId} {n : Nat} {cs : List Value} {zs : List ByteArray} {p : List MemPlace}
  (ht : P.underlying t = some (.array n e)) (he : P.underlying e = some .string) (hce : P.cellsOf e = 1) (hct : P.cellsOf t = n)
  (h : DataW.trod enc P w base sp held fuel t cs = some (strData zs, p)) : cs = zs.map Value.string := by
 cases fuel with
 | zero => simp [DataW.trod] at h
 | succ fuel =>
  simp only [DataW.trod, ht, hce, hct, Nat.mul_one] at h
  split at h
  ·rename_i hl
   obtain ⟨xs, hm, hx⟩ := Option.map_eq_some_iff.1 h
   have hxs : xs.map (·.1) = zs.map fun z => (DataW.lit (.string z.data.toList) : DataW H) := by
    have := congrArg Prod.fst hx
    simpa [strData] using this
   have hxl : xs.length = n := by simpa using mapM_length hm
   have hzl : zs.length = n := by
    have := congrArg List.length hxs
    simp at this
    omega
   apply List.ext_getElem?
   intro i
   by_cases hi : i < n
   ·obtain ⟨b, hb, hf⟩ := mapM_at hm i i (by simp [hi])
    obtain ⟨z, hc, rfl, _⟩ := DataW.trod_string he hf
    have h1 : cs[i]? = some (.string z) := by
     have := congrArg (·[0]?) hc
     simpa [List.getElem?_take, List.getElem?_drop] using this
    have h2 : (xs.map (·.1))[i]? = some (DataW.lit (.string z.data.toList) : DataW H) := by simp [hb]
    rw [hxs] at h2
    simp only [List.getElem?_map, Option.map_eq_some_iff, DataW.lit.injEq, Lit.string.injEq] at h2
    obtain ⟨z', hz', h3⟩ := h2
    have h4 : z' = z := by
     cases z; cases z'
     simp only [ByteArray.mk.injEq]
     exact Array.ext' h3
    subst h4
    simp [h1, hz']
   ·rw [List.getElem?_eq_none (by omega), List.getElem?_eq_none (by simp; omega)]
  ·cases h
theorem strs_of_head {P : Program} {W : World} {name : String} {zs : List ByteArray} {rest : List (String × DataW Unit)} {g : Nat} {t e : TypeId} {n : Nat}
  (hg : P.globalNamed name = some g) (hty : (P.globals[g]?).map (·.type) = some t) (ht : P.underlying t = some (.array n e)) (he : P.underlying e = some .string) (hce : P.cellsOf e = 1) (hct : P.cellsOf t = n)
  (h : laidMet P ((name, strData zs) :: rest) W) : W.var? P name = some (zs.map Value.string).toArray := by
 obtain ⟨ps, ⟨g', t', cs, fuel, p, q, hg', ht', hvar, hd, _, _⟩, _⟩ := h
 obtain rfl := Option.some.inj (hg.symm.trans hg')
 obtain rfl := Option.some.inj (hty.symm.trans ht')
 rw [hvar, ← cells_of_strs ht he hce hct hd]
theorem cells_str : Tryz.prog.cellsOf 9 = 1 := by kernel_rfl
theorem cells_nm : Tryz.prog.cellsOf 94 = 13 := by kernel_rfl
theorem gt_nm : (Tryz.prog.globals[0]?).map (·.type) = some 94 := by kernel_rfl
theorem tabs_of {W : World} (h : laidMetH Tryz.prog [("lustrum/allen.names", Rows.laid_lustrum_allen_names), ("lustrum/civil.monthDays", Rows.laid_lustrum_civil_monthDays), ("lustrum/unit.counts", Rows.laid_lustrum_unit_counts)] W) : Tabs20 W := by
 have h1 : laidMet Tryz.prog [("lustrum/allen.names", strData nmsL), ("lustrum/civil.monthDays", Lib.tabData .i64 [0, 31, 28, 31, 30, 31, 30, 31, 31, 30, 31, 30, 31]), ("lustrum/unit.counts", Lib.tabData .i64 [3652425, 120000, 40000, 10000, 1000, 100])] W := h
 exact ⟨⟨Lib.tabIs_of_head gMD gt_md Tryz.underlying199 Tryz.underlying3 cells_int cells_md h1.tail, Lib.tabIs_of_head gUC gt_uc Tryz.underlying183 Tryz.underlying3 cells_int cells_uc h1.tail.tail⟩,
  strs_of_head gNM gt_nm Tryz.underlying94 Tryz.underlying9 cells_str cells_nm h1⟩
end Go.Proofs.YtcooaoponkkpeaaGreatDoor
