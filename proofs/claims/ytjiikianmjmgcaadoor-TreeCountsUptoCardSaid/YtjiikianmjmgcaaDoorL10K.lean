/-
  Layer 10: TreeCounts.
-/
import Derived.Test.YtjiikianmjmgcaaDoorL10F
import Derived.Test.YtjiikianmjmgcaaDoorL10G
namespace Go.Proofs.YtjiikianmjmgcaaDoor
set_option linter.unusedVariables false
theorem treeCounts_walk (n m : ND) (u v : Value) (w : World) (hu : NodesAt w u n.l) (hv : NodesAt w v m.l) (gn : ndG n) (bn : wgtN n ≤ 1048576) (bm : wgtN m ≤ 1048576) (T : TabSH w) :
    Calls Tryd.prog 7 #[ndV n u, ndV m v] w fun e w' => e = .returned (.bool true) ∧ Kp w w' := by
  have cn := cntL_of_wgt bn
  have cm := cntL_of_wgt bm
  obtain ⟨ad, cp, rfl⟩ := hu.slice
  obtain ⟨ad', cp', rfl⟩ := hv.slice
  obtain ⟨k, pk, y, q, d, a, t, l, rfl⟩ := nd_dest n
  obtain ⟨k', pk', y', q', d', a', t', l', rfl⟩ := nd_dest m
  have gk : -9223372036854775808 ≤ k ∧ k ≤ 9223372036854775807 := ⟨gn.1.1, gn.1.2.1⟩
  rcases Bool.eq_false_or_eq_true (fewN (.mk k ⟨pk, y, q, d⟩ a t l)) with f1 | f1
  rotate_left
  · exact treeCounts_no1 k pk y q d a t l ad cp k' pk' y' q' d' a' t' l' ad' cp' w hu hv cn cm gk T f1
  rcases Bool.eq_false_or_eq_true (fewN (.mk k' ⟨pk', y', q', d'⟩ a' t' l')) with f2 | f2
  rotate_left
  · exact treeCounts_no2 k pk y q d a t l ad cp k' pk' y' q' d' a' t' l' ad' cp' w hu hv cn cm gk T f1 f2
  exact treeCounts_yes k pk y q d a t l ad cp k' pk' y' q' d' a' t' l' ad' cp' w hu hv cn cm gk T f1 f2
end Go.Proofs.YtjiikianmjmgcaaDoor
