/-
  Layer 10: TreeSame.
-/
import Derived.Test.YtbjnghmmfolaeaaDoorL10A
import Derived.Test.YtbjnghmmfolaeaaDoorL10D
import Derived.Test.YtbjnghmmfolaeaaDoorL10B
namespace Go.Proofs.YtbjnghmmfolaeaaDoor
set_option linter.unusedVariables false
theorem treeSame_walk (n m : ND) (u v : Value) (w : World) (hu : NodesAt w u n.l) (hv : NodesAt w v m.l) (gn : ndG n) (bn : wgtN n ≤ 1048576) (bm : wgtN m ≤ 1048576) (T : TabSH w) :
    Calls Tryd.prog 11 #[ndV n u, ndV m v] w fun e w' => e = .returned (.bool true) ∧ Kp w w' := by
  have cn := cntL_of_wgt bn
  have cm := cntL_of_wgt bm
  obtain ⟨ad, cp, rfl⟩ := hu.slice
  obtain ⟨ad', cp', rfl⟩ := hv.slice
  obtain ⟨k, pk, y, q, d, a, t, l, rfl⟩ := nd_dest n
  obtain ⟨k', pk', y', q', d', a', t', l', rfl⟩ := nd_dest m
  have gk : -9223372036854775808 ≤ k ∧ k ≤ 9223372036854775807 := ⟨gn.1.1, gn.1.2.1⟩
  rcases Bool.eq_false_or_eq_true (fewN (.mk k ⟨pk, y, q, d⟩ a t l)) with f1 | f1
  rotate_left
  · exact treeSame_no1 k pk y q d a t l ad cp k' pk' y' q' d' a' t' l' ad' cp' w hu hv cn cm gk T f1
  rcases Bool.eq_false_or_eq_true (fewN (.mk k' ⟨pk', y', q', d'⟩ a' t' l')) with f2 | f2
  rotate_left
  · exact treeSame_no2 k pk y q d a t l ad cp k' pk' y' q' d' a' t' l' ad' cp' w hu hv cn cm gk T f1 f2
  by_cases h0 : k = k'
  rotate_left
  · exact treeSame_yes0 k pk y q d a t l ad cp k' pk' y' q' d' a' t' l' ad' cp' w hu hv cn cm gk T f1 f2 h0
  subst h0
  by_cases h1 : pk = pk'
  rotate_left
  · exact treeSame_yes1 k pk y q d a t l ad cp pk' y' q' d' a' t' l' ad' cp' w hu hv cn cm gk T f1 f2 h1
  subst h1
  by_cases h2 : y = y'
  rotate_left
  · exact treeSame_yes2 k pk y q d a t l ad cp y' q' d' a' t' l' ad' cp' w hu hv cn cm gk T f1 f2 h2
  subst h2
  by_cases h3 : q = q'
  rotate_left
  · exact treeSame_yes3 k pk y q d a t l ad cp q' d' a' t' l' ad' cp' w hu hv cn cm gk T f1 f2 h3
  subst h3
  by_cases h4 : d = d'
  rotate_left
  · exact treeSame_yes4 k pk y q d a t l ad cp d' a' t' l' ad' cp' w hu hv cn cm gk T f1 f2 h4
  subst h4
  by_cases h5 : a = a'
  rotate_left
  · exact treeSame_yes5 k pk y q d a t l ad cp a' t' l' ad' cp' w hu hv cn cm gk T f1 f2 h5
  subst h5
  by_cases h6 : t = t'
  rotate_left
  · exact treeSame_yes6 k pk y q d a t l ad cp t' l' ad' cp' w hu hv cn cm gk T f1 f2 h6
  subst h6
  by_cases h7 : l.length = l'.length
  · exact treeSame_yes8 k pk y q d a t l ad cp l' ad' cp' w hu hv cn cm gk T f1 f2 h7
  · exact treeSame_yes7 k pk y q d a t l ad cp l' ad' cp' w hu hv cn cm gk T f1 f2 h7
end Go.Proofs.YtbjnghmmfolaeaaDoor
