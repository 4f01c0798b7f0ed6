/-
  Joined: OnlA, OnlB, L8I, L8J, LPointOnly.
-/
import Derived.Test.YtjiikianmjmgcaaDoorHidB
import Derived.Test.YtjiikianmjmgcaaDoorGMask
import Derived.Laws.Concat
import Derived.Test.YtjiikianmjmgcaaDoorGPtU
import Derived.Test.YtjiikianmjmgcaaDoorMask
import Derived.Test.YtjiikianmjmgcaaDoorGSetC
import Derived.Test.YtjiikianmjmgcaaDoorCards
import Derived.Test.YtjiikianmjmgcaaDoorTie
import Derived.WalkKit
import Derived.ProofKit
import Derived.OpenShut
import Derived.ShutString
import Derived.ChangeOld
import Derived.Below
import Derived.Test.YtjiikianmjmgcaaDoor8T
import Derived.Deep.DeepHandedRow
import Derived.Lib.LaidTab
namespace Go.Proofs.YtjiikianmjmgcaaDoor
open Go.RowKit
set_option linter.unusedVariables false
set_option linter.unusedSimpArgs false
/-- so many digits of a number, from the right -/
def dgO (n : Int) : Nat → List Int
  | 0 => []
  | j + 1 => (48 + n / P10 j % 10) :: dgO n j
def dS (n : Int) (k : Nat) : ByteArray := strOfNums (dgO n k)
theorem on_len (n : Int) : ∀ k, (dgO n k).length = k
  | 0 => rfl
  | k + 1 => by rw [dgO, List.length_cons, on_len n k]
theorem on_size (n : Int) (k : Nat) : (dS n k).size = k := by unfold dS; rw [strOfNums_size, on_len]
theorem on_app (l m : List Int) : strOfNums l ++ strOfNums m = strOfNums (l ++ m) := by
  apply ByteArray.ext
  rw [ByteArray.data_append]
  unfold strOfNums
  simp
theorem on_step (n : Int) (j : Nat) : strOfNums [48 + n / P10 j % 10] ++ dS n j = dS n (j + 1) := by
  unfold dS
  rw [on_app, dgO]
  rfl
theorem on_get (n : Int) : ∀ (k i : Nat), i < k → (dgO n k).getD i 0 = 48 + n / P10 (k - 1 - i) % 10
  | 0, i, h => by omega
  | k + 1, 0, h => by rw [dgO, List.getD_cons_zero]; rfl
  | k + 1, i + 1, h => by rw [dgO, List.getD_cons_succ, on_get n k i (by omega), show k - 1 - i = k + 1 - 1 - (i + 1) by omega]
theorem on_bt (n : Int) {k i : Nat} (h : i < k) : (bt (dS n k) i : Int) = 48 + n / P10 (k - 1 - i) % 10 := by
  unfold dS
  have g := on_get n k i h
  rw [bt_strOf _ _ (by rw [on_len]; exact h) (by rw [g]; omega), g]
  omega
theorem on_sane (n : Int) {k : Nat} (h1 : 1 ≤ k) (h4 : k ≤ 4) : saneM (dS n k) = true := by
  unfold saneM
  rw [on_size, Bool.and_eq_true]
  refine ⟨decide_eq_true ⟨h1, h4⟩, hd_up fun i hi => ?_⟩
  have := on_bt n hi
  unfold okB digB
  simp
  omega
theorem on_hid (n : Int) (k : Nat) : ∀ j, j ≤ k → hidN (dS n k) j = 0
  | 0, _ => rfl
  | j + 1, h => by
    have := on_bt n (show j < k by omega)
    rw [hidN, if_neg (by omega), on_hid n k j (by omega)]
theorem p10v : P10 0 = 1 ∧ P10 1 = 10 ∧ P10 2 = 100 ∧ P10 3 = 1000 ∧ P10 4 = 10000 := by decide
theorem on_match {n x : Int} {k : Nat} (hk : k = 2 ∨ k = 3 ∨ k = 4) (h0 : 0 ≤ n) (h1 : n < P10 k) : matchM (dS n k) x = true ↔ x = n := by
  obtain ⟨p0, p1, p2, p3, p4⟩ := p10v
  unfold matchM
  rw [on_sane n (by omega) (by omega), on_size]
  simp only [Bool.true_and, Bool.and_eq_true, decide_eq_true_eq]
  constructor
  · rintro ⟨⟨a, b⟩, c⟩
    have f : ∀ i, i < k → n / P10 (k - 1 - i) % 10 = x / P10 (k - 1 - i) % 10 := fun i hi => by
      have g := hd_fitAt c hi
      have e := on_bt n hi
      rw [on_size] at g
      unfold fitB at g
      simp only [Bool.or_eq_true, beq_iff_eq] at g
      rcases g with g | g <;> omega
    rcases hk with rfl | rfl | rfl
    · have f0 := f 0 (by omega); have f1 := f 1 (by omega)
      simp only [Nat.reduceSub, Nat.sub_zero, p0, p1, p2] at f0 f1 h1 b
      omega
    · have f0 := f 0 (by omega); have f1 := f 1 (by omega); have f2 := f 2 (by omega)
      simp only [Nat.reduceSub, Nat.sub_zero, p0, p1, p2, p3] at f0 f1 f2 h1 b
      omega
    · have f0 := f 0 (by omega); have f1 := f 1 (by omega); have f2 := f 2 (by omega); have f3 := f 3 (by omega)
      simp only [Nat.reduceSub, Nat.sub_zero, p0, p1, p2, p3, p4] at f0 f1 f2 f3 h1 b
      omega
  · rintro rfl
    refine ⟨⟨h0, h1⟩, hd_fitAll fun i hi => ?_⟩
    have e := on_bt x hi
    rw [on_size]
    unfold fitB
    simp only [Bool.or_eq_true, beq_iff_eq]
    right
    omega
theorem on_pre3 (y : Int) (h : 0 ≤ y) : (dS y 4).extract 0 3 = dS (y / 10) 3 := by
  obtain ⟨p0, p1, p2, p3, p4⟩ := p10v
  have e : dgO (y / 10) 3 = (dgO y 4).take 3 := by
    simp only [dgO, p0, p1, p2, p3, List.take_succ_cons, List.take_zero]
    rw [show y / 10 / 100 = y / 1000 by omega, show y / 10 / 10 = y / 100 by omega, show y / 10 / 1 = y / 10 by omega]
  unfold dS
  rw [e]
  apply ByteArray.ext
  unfold strOfNums
  simp [ByteArray.data_extract, dgO]
theorem on_pre2 (y : Int) (h : 0 ≤ y) : (dS y 4).extract 0 2 = dS (y / 100) 2 := by
  obtain ⟨p0, p1, p2, p3, p4⟩ := p10v
  have e : dgO (y / 100) 2 = (dgO y 4).take 2 := by
    simp only [dgO, p0, p1, p2, p3, List.take_succ_cons, List.take_zero]
    rw [show y / 100 / 10 = y / 1000 by omega, show y / 100 / 1 = y / 100 by omega]
  unfold dS
  rw [e]
  apply ByteArray.ext
  unfold strOfNums
  simp [ByteArray.data_extract, dgO]
theorem on_one {l : List R} {v : Int} (hs : sane l) (hv : -1000000000 ≤ v ∧ v ≤ 1000000000) (h : ∀ x, inL l x ↔ x = v) : l = [(v, v)] := by
  have s1 : sane [(v, v)] := ⟨⟨Int.le_refl _, by omega, by omega⟩, trivial, trivial⟩
  refine sane_ext hs s1 fun n => ?_
  rw [hd_mem hs, hd_mem s1, h n]
  constructor
  · rintro rfl; exact ⟨_, List.mem_singleton.2 rfl, Int.le_refl _, Int.le_refl _⟩
  · rintro ⟨r, hr, a, b⟩
    rw [List.mem_singleton.1 hr] at a b
    simp only at a b
    omega
theorem on_set {n : Int} {k : Nat} (hk : k = 2 ∨ k = 3 ∨ k = 4) (h0 : 0 ≤ n) (h1 : n < P10 k) : setM (dS n k) = [(n, n)] := by
  have := P10_le k (by omega)
  exact on_one (setM_sane _) (by omega) fun x => by rw [setM_in, on_match hk h0 h1]
theorem on_mat {n most : Int} (h1 : 1 ≤ n) (h2 : n ≤ most) (h3 : most ≤ 99) : matR (dS n 2) most = [(n, n)] := by
  have p : P10 2 = 100 := by decide
  refine on_one (matR_sane _ _) (by omega) fun x => ?_
  rw [matR_in _ (by omega), on_match (.inl rfl) (by omega) (by omega)]
  omega
theorem on_fit {n most : Int} (h1 : 1 ≤ n) (h2 : n ≤ most) (h3 : most ≤ 99) : fitP (dS n 2) 2 most = true := by
  unfold fitP
  rw [if_neg (by decide), on_size, on_mat h1 h2 h3]
  rfl
theorem on_sets {p : PT} {v : Int} (hs : saneP p = true) (he : setE p = 0) (hv : -1000000000 ≤ v ∧ v ≤ 1000000000) (h : ∀ x, inU p x = true ↔ x = v) : setS p = [(v, v)] := by
  obtain ⟨a, b⟩ := hd_ok hs he
  rw [b]
  exact on_one (numR_sane p) hv fun x => by rw [numR_in hs a, h x]
end Go.Proofs.YtjiikianmjmgcaaDoor

namespace Go.Proofs.YtjiikianmjmgcaaDoor
open Go.RowKit
set_option linter.unusedVariables false
set_option linter.unusedSimpArgs false
theorem on_gnfold : ∀ (l a : List R), (l.foldl gstep a).length ≤ a.length + l.length
  | [], a => by simp
  | r :: t, a => by
    rw [List.foldl_cons]
    have h1 := on_gnfold t (gstep a r)
    have h2 := (gstep_ge a r).2
    rw [List.length_cons]
    omega
theorem on_gn (l : List R) : (gn l).length ≤ l.length := by have := on_gnfold l []; simpa [gn] using this
theorem on_ofR (m : Int) : ofR (m, m) = [m] := by
  unfold ofR
  simp only
  rw [show (m - m + 1).toNat = 1 by omega]
  simp
theorem on_longR (m d : Int) : longR [(m, m)] d = [] ∨ longR [(m, m)] d = [(m, m)] := by
  unfold longR
  rw [List.flatMap_cons, List.flatMap_nil, List.append_nil, on_ofR, List.flatMap_cons, List.flatMap_nil, List.append_nil]
  unfold longM
  split
  · exact .inr rfl
  · exact .inl rfl
theorem on_dayL (y m d : Int) : (dayL [(y, y)] [(m, m)] [(d, d)]).length ≤ 1 := by
  have kn : kn0 [(d, d)] = (d, d) := rfl
  unfold dayL
  rw [kn, if_neg (by intro h; have h1 := congrArg Prod.fst h; have h2 := congrArg Prod.snd h; simp only at h1 h2; omega)]
  rcases on_longR m (d, d).1 with e | e <;> rw [e]
  · unfold partsL partY daysL
    rw [List.flatMap_cons, List.flatMap_nil, List.append_nil, if_neg (by intro h; cases h), on_ofR, List.flatMap_cons, List.flatMap_nil, List.append_nil]
    simp [partR]
  · unfold partsL partY
    rw [List.flatMap_cons, List.flatMap_nil, List.append_nil, if_neg (by intro h; simp at h; omega), on_ofR, List.flatMap_cons, List.flatMap_nil, List.append_nil]
    unfold partR daysL
    rw [List.map_cons, List.map_nil, List.flatMap_cons, List.flatMap_nil, List.append_nil, on_ofR, List.flatMap_cons, List.flatMap_nil, List.append_nil]
    unfold dayM
    rw [List.flatMap_cons, List.flatMap_nil, List.append_nil]
    split <;> simp
def on_P0 (y m d : Int) : PT := ⟨0, dS y 4, dS m 2, dS d 2⟩
def on_P1 (y m : Int) : PT := ⟨1, dS y 4, dS m 2, ⟨#[]⟩⟩
def on_P2 (y : Int) : PT := ⟨3, dS y 4, ⟨#[]⟩, ⟨#[]⟩⟩
def on_P3 (y : Int) : PT := ⟨4, dS (y / 10) 3, ⟨#[]⟩, ⟨#[]⟩⟩
def on_P4 (y : Int) : PT := ⟨5, dS (y / 100) 2, ⟨#[]⟩, ⟨#[]⟩⟩
theorem on_fit0 (most : Int) : fitP ⟨#[]⟩ 0 most = true := by unfold fitP; rw [if_pos rfl]; rfl
theorem on_s0 {y m d : Int} (m1 : 1 ≤ m) (m2 : m ≤ 12) (d1 : 1 ≤ d) (d2 : d ≤ 31) : saneP (on_P0 y m d) = true := by
  unfold saneP on_P0
  simp only [shp, if_true, on_size, on_sane y (show 1 ≤ 4 by decide) (show 4 ≤ 4 by decide), on_fit m1 m2 (show (12 : Int) ≤ 99 by decide), on_fit d1 d2 (show (31 : Int) ≤ 99 by decide)]
  rfl
theorem on_s1 {y m : Int} (m1 : 1 ≤ m) (m2 : m ≤ 12) : saneP (on_P1 y m) = true := by
  unfold saneP on_P1
  simp only [shp, if_true, if_neg (show ¬ (1 : Int) = 0 by decide), on_size, on_sane y (show 1 ≤ 4 by decide) (show 4 ≤ 4 by decide), on_fit m1 m2 (show (12 : Int) ≤ 99 by decide), on_fit0]
  rfl
theorem on_s2 (y : Int) : saneP (on_P2 y) = true := by
  unfold saneP on_P2
  simp only [shp, if_true, if_neg (show ¬ (3 : Int) = 0 by decide), if_neg (show ¬ (3 : Int) = 1 by decide), if_neg (show ¬ (3 : Int) = 2 by decide), on_size, on_sane y (show 1 ≤ 4 by decide) (show 4 ≤ 4 by decide), on_fit0]
  rfl
theorem on_s3 (y : Int) : saneP (on_P3 y) = true := by
  unfold saneP on_P3
  simp only [shp, if_true, if_neg (show ¬ (4 : Int) = 0 by decide), if_neg (show ¬ (4 : Int) = 1 by decide), if_neg (show ¬ (4 : Int) = 2 by decide), if_neg (show ¬ (4 : Int) = 3 by decide), on_size, on_sane (y / 10) (show 1 ≤ 3 by decide) (show 3 ≤ 4 by decide), on_fit0]
  rfl
theorem on_s4 (y : Int) : saneP (on_P4 y) = true := by
  unfold saneP on_P4
  simp only [shp, if_true, if_neg (show ¬ (5 : Int) = 0 by decide), if_neg (show ¬ (5 : Int) = 1 by decide), if_neg (show ¬ (5 : Int) = 2 by decide), if_neg (show ¬ (5 : Int) = 3 by decide), if_neg (show ¬ (5 : Int) = 4 by decide), on_size, on_sane (y / 100) (show 1 ≤ 2 by decide) (show 2 ≤ 4 by decide), on_fit0]
  rfl
theorem on_e {k : Int} {n : Int} {j : Nat} {m d : ByteArray} (hs : saneP ⟨k, dS n j, m, d⟩ = true) (h0 : k ≠ 0) : setE ⟨k, dS n j, m, d⟩ = 0 :=
  hd_wide hs (by simp only; rw [on_size, on_hid n j j (Nat.le_refl _)]; omega) h0
theorem on_e0 {y m d : Int} (y1 : 0 ≤ y) (y2 : y ≤ 9999) (m1 : 1 ≤ m) (m2 : m ≤ 12) (d1 : 1 ≤ d) (d2 : d ≤ 31) : setE (on_P0 y m d) = 0 := by
  have p4 : P10 4 = 10000 := by decide
  have a := on_set (n := y) (k := 4) (by simp) y1 (by omega)
  have b := on_mat m1 m2 (show (12 : Int) ≤ 99 by decide)
  have c := on_mat d1 d2 (show (31 : Int) ≤ 99 by decide)
  have kn : kn0 [(d, d)] = (d, d) := rfl
  have l1 := on_dayL y m d
  have l2 := on_gn (dayL [(y, y)] [(m, m)] [(d, d)])
  unfold setE
  rw [if_pos (on_s0 m1 m2 d1 d2)]
  unfold numB edgB numR on_P0
  simp only [if_true, a, b, c]
  rw [if_pos (decide_eq_true (by omega)), if_pos]
  refine decide_eq_true (unitsR_len ?_)
  unfold dayR
  rw [kn, if_neg (by intro h; have h1 := congrArg Prod.fst h; have h2 := congrArg Prod.snd h; simp only at h1 h2; omega)]
  exact capR_len _
/-- what a day's points name -/
theorem on_all {D y m d : Int} (h0 : 0 ≤ D) (h1 : D ≤ 3652424) (hd : dte D = (y, m, d)) :
    (0 ≤ y ∧ y ≤ 9999 ∧ 1 ≤ m ∧ m ≤ 12 ∧ 1 ≤ d ∧ d ≤ 31) ∧
    (setE (on_P0 y m d) = 0 ∧ setS (on_P0 y m d) = [(D, D)] ∧ ofV 0 D = D ∧ okO 0 D = true) ∧
    (setE (on_P1 y m) = 0 ∧ setS (on_P1 y m) = [(12 * y + m - 1, 12 * y + m - 1)] ∧ ofV 1 D = 12 * y + m - 1 ∧ okO 1 D = true) ∧
    (setE (on_P2 y) = 0 ∧ setS (on_P2 y) = [(y, y)] ∧ ofV 3 D = y ∧ okO 3 D = true) ∧
    (setE (on_P3 y) = 0 ∧ setS (on_P3 y) = [(y / 10, y / 10)] ∧ ofV 4 D = y / 10 ∧ okO 4 D = true) ∧
    (setE (on_P4 y) = 0 ∧ setS (on_P4 y) = [(y / 100, y / 100)] ∧ ofV 5 D = y / 100 ∧ okO 5 D = true) := by
  obtain ⟨p0, p1, p2, p3, p4⟩ := p10v
  have hv := dte_yes D h0 h1
  rw [hd] at hv
  simp only at hv
  obtain ⟨y1, y2, m1, m2, d1, d2, _⟩ := vld_bd hv.1
  have ok : ∀ k, 0 < cnt k → k ≠ 2 → okO k D = true := fun k c n => by
    unfold okO
    exact decide_eq_true ⟨c, h0, h1, fun h => n h.1⟩
  have k0 := ok 0 (by decide) (by decide)
  have k1 := ok 1 (by decide) (by decide)
  have k3 := ok 3 (by decide) (by decide)
  have k4 := ok 4 (by decide) (by decide)
  have k5 := ok 5 (by decide) (by decide)
  have e1 : setE (on_P1 y m) = 0 := on_e (on_s1 m1 m2) (by decide)
  have e2 : setE (on_P2 y) = 0 := on_e (on_s2 y) (by decide)
  have e3 : setE (on_P3 y) = 0 := on_e (on_s3 y) (by decide)
  have e4 : setE (on_P4 y) = 0 := on_e (on_s4 y) (by decide)
  have e0 := on_e0 y1 y2 m1 m2 d1 d2
  have My : ∀ x, matchM (dS y 4) x = true ↔ x = y := fun x => on_match (by simp) y1 (by omega)
  have Mm : ∀ x, matchM (dS m 2) x = true ↔ x = m := fun x => on_match (by simp) (by omega) (by omega)
  have Md : ∀ x, matchM (dS d 2) x = true ↔ x = d := fun x => on_match (by simp) (by omega) (by omega)
  refine ⟨⟨y1, y2, m1, m2, d1, d2⟩, ⟨e0, on_sets (on_s0 m1 m2 d1 d2) e0 (by omega) fun x => ?_, ?_, k0⟩, ⟨e1, on_sets (on_s1 m1 m2) e1 (by omega) fun x => ?_, ?_, k1⟩, ⟨e2, on_sets (on_s2 y) e2 (by omega) fun x => ?_, ?_, k3⟩, ⟨e3, on_sets (on_s3 y) e3 (by omega) fun x => ?_, ?_, k4⟩, ⟨e4, on_sets (on_s4 y) e4 (by omega) fun x => ?_, ?_, k5⟩⟩
  · unfold inU on_P0
    simp only [if_true, Bool.and_eq_true, decide_eq_true_eq, My, Mm, Md]
    constructor
    · rintro ⟨a, b, c, e⟩
      by_cases hx : x < 0 ∨ 3652424 < x
      · rw [dte_no x hx] at a; simp at a
      · have g := (dte_yes x (by omega) (by omega)).2
        rw [b, c, e, hv.2] at g
        exact g.symm
    · rintro rfl
      rw [hd]
      exact ⟨by simp only; omega, rfl, rfl, rfl⟩
  · unfold ofV; rw [if_pos k0]; unfold unum; rw [if_pos rfl]
  · unfold inU on_P1
    simp only [if_true, if_neg (show ¬ (1 : Int) = 0 by decide), Bool.and_eq_true, decide_eq_true_eq, My, Mm]
    omega
  · unfold ofV; rw [if_pos k1]; unfold unum; rw [if_neg (by decide), if_pos rfl, hd]
  · unfold inU on_P2
    simp only [if_neg (show ¬ (3 : Int) = 0 by decide), if_neg (show ¬ (3 : Int) = 1 by decide), if_neg (show ¬ (3 : Int) = 2 by decide), My]
  · unfold ofV; rw [if_pos k3]; unfold unum; rw [if_neg (by decide), if_neg (by decide), if_neg (by decide), if_pos rfl, hd]; simp only; omega
  · unfold inU on_P3
    simp only [if_neg (show ¬ (4 : Int) = 0 by decide), if_neg (show ¬ (4 : Int) = 1 by decide), if_neg (show ¬ (4 : Int) = 2 by decide)]
    exact on_match (by simp) (by omega) (by omega)
  · unfold ofV; rw [if_pos k4]; unfold unum; rw [if_neg (by decide), if_neg (by decide), if_neg (by decide), if_neg (by decide), if_pos rfl, hd]; simp only; omega
  · unfold inU on_P4
    simp only [if_neg (show ¬ (5 : Int) = 0 by decide), if_neg (show ¬ (5 : Int) = 1 by decide), if_neg (show ¬ (5 : Int) = 2 by decide)]
    exact on_match (by simp) (by omega) (by omega)
  · unfold ofV; rw [if_pos k5]; unfold unum; rw [if_neg (by decide), if_neg (by decide), if_neg (by decide), if_neg (by decide), if_neg (by decide), hd]; simp only; omega
end Go.Proofs.YtjiikianmjmgcaaDoor

namespace Go.Proofs.YtjiikianmjmgcaaDoor
open Go.RowKit
set_option linter.unusedVariables false
set_option linter.unusedSimpArgs false
theorem on_next (n : Int) {j : Nat} (h : j < 4) : n / P10 j / 10 = n / P10 (j + 1) := by
  obtain ⟨p0, p1, p2, p3, p4⟩ := p10v
  have : j = 0 ∨ j = 1 ∨ j = 2 ∨ j = 3 := by omega
  rcases this with rfl | rfl | rfl | rfl <;> (simp only [Nat.reduceAdd, Nat.zero_add, p0, p1, p2, p3, p4]; omega)
set_option maxHeartbeats 4000000 in
set_option maxRecDepth 100000 in
theorem digits_any (n : Int) (kk : Nat) (w : World) (h0 : 0 ≤ n) (h9 : n ≤ 9999) (hk : kk ≤ 4) :
    Calls Tryd.prog 14 #[.int .i64 n, .int .i64 (kk : Int)] w fun e w' => e = .returned (.string (dS n kk)) ∧ Kp w w' := by
  go_enter Tryd.func14, Tryd.ntmps14
  go_wp2
  go_loopw [0, 5, 6] (fun a s i ws => ∃ (j : Nat) (v : Int), j ≤ kk ∧ i = .int .i64 j ∧ a = .int .i64 v ∧ s = .string (dS n j) ∧ Hid (v = n / P10 j) ∧ (0 ≤ v ∧ v ≤ 9999) ∧ Hid (Kp w ws)) (fun _ _ i _ => kk - (intOf i).toNat)
  case atStart => exact ⟨0, n, Nat.zero_le _, rfl, rfl, rfl, Lib.hid (by rw [show P10 0 = 1 from rfl, Int.ediv_one]), ⟨h0, h9⟩, Lib.hid (Kp.refl _)⟩
  case round =>
    obtain ⟨j, v, hj, rfl, rfl, rfl, HV, ⟨v0, v9⟩, KL⟩ := hrel
    by_cases hlt : j < kk
    · have lu := strOfNums_size [48 + v % 10]
      have hcv := run_convert_bytes_arg (P := Tryd.prog) (wr.alloc (.cells #[.int .u8 (48 + v % 10)] 5)) 65 5 Tryd.underlying65 Tryd.underlying5 wr.heap.size 0 1 1 [48 + v % 10] rfl (by intro i hi; obtain rfl : i = 0 := (by omega); simp) 9 Tryd.underlying9
      have AP := Lib.hid (show strOfNums [48 + v % 10] ++ dS n j = dS n (j + 1) from by rw [HV.out]; exact on_step n j)
      have NV := Lib.hid (show v / 10 = n / P10 (j + 1) from by rw [HV.out]; exact on_next n (by omega))
      have ls := on_size n j
      have HLT := Lib.hid hlt
      have z1 : (j : Int) < (kk : Int) := by omega
      generalize strOfNums [48 + v % 10] = u at *
      generalize dS n j = t at *
      simp only [List.length_singleton] at lu
      go_wp2
      go_roundw
      case rel => exact ⟨j + 1, v / 10, HLT.out, by go_num, rfl, congrArg Value.string AP.out, NV, by omega, Lib.hid (KL.out.trans (Kp.alloc _ _))⟩
      case measure => have := HLT.out; simp [intOf]; omega
    · obtain rfl : j = kk := by omega
      go_wp2
      go_ret
      exact ⟨rfl, KL.out⟩
end Go.Proofs.YtjiikianmjmgcaaDoor

namespace Go.Proofs.YtjiikianmjmgcaaDoor
open Go.RowKit
set_option linter.unusedVariables false
set_option linter.unusedSimpArgs false
abbrev oR0 : Oper := { dst := some 27, op := Go.Op.move (Go.Operand.tmp 8), type := 9, pos := "law.go:120", after := #[], guard := none }
abbrev oR1 : Oper := { dst := some 28, op := Go.Op.move (Go.Operand.tmp 6), type := 3, pos := "law.go:120", after := #[], guard := none }
abbrev oR2 : Oper := { dst := some 29, op := Go.Op.call { callee := Go.Callee.value (Go.Operand.func 14), args := #[Go.Operand.tmp 28, Go.Operand.const (Go.Value.int Go.IntKind.i64 2)], argTypes := #[3, 3] }, type := 9, pos := "law.go:121", after := #[{ on := 1, ground := Go.Ground.data }], guard := none }
abbrev oR3 : Oper := { dst := some 30, op := Go.Op.move (Go.Operand.tmp 7), type := 3, pos := "law.go:120", after := #[], guard := none }
abbrev oR4 : Oper := { dst := some 31, op := Go.Op.call { callee := Go.Callee.value (Go.Operand.func 14), args := #[Go.Operand.tmp 30, Go.Operand.const (Go.Value.int Go.IntKind.i64 2)], argTypes := #[3, 3] }, type := 9, pos := "law.go:121", after := #[{ on := 3, ground := Go.Ground.data }, { on := 2, ground := Go.Ground.chain }], guard := none }
abbrev oR5 : Oper := { dst := some 32, op := Go.Op.build 27 #[(0, Go.Operand.const (Go.Value.int Go.IntKind.i64 0)), (1, Go.Operand.tmp 27), (2, Go.Operand.tmp 29), (3, Go.Operand.tmp 31)], type := 27, pos := "law.go:120", after := #[{ on := 0, ground := Go.Ground.data }, { on := 2, ground := Go.Ground.data }, { on := 4, ground := Go.Ground.data }], guard := none }
abbrev oR6 : Oper := { dst := some 33, op := Go.Op.move (Go.Operand.tmp 8), type := 9, pos := "law.go:120", after := #[], guard := none }
abbrev oR7 : Oper := { dst := some 34, op := Go.Op.move (Go.Operand.tmp 6), type := 3, pos := "law.go:120", after := #[], guard := none }
abbrev oR8 : Oper := { dst := some 35, op := Go.Op.call { callee := Go.Callee.value (Go.Operand.func 14), args := #[Go.Operand.tmp 34, Go.Operand.const (Go.Value.int Go.IntKind.i64 2)], argTypes := #[3, 3] }, type := 9, pos := "law.go:122", after := #[{ on := 7, ground := Go.Ground.data }, { on := 4, ground := Go.Ground.chain }], guard := none }
abbrev oR9 : Oper := { dst := some 36, op := Go.Op.build 27 #[(0, Go.Operand.const (Go.Value.int Go.IntKind.i64 1)), (1, Go.Operand.tmp 33), (2, Go.Operand.tmp 35)], type := 27, pos := "law.go:120", after := #[{ on := 6, ground := Go.Ground.data }, { on := 8, ground := Go.Ground.data }], guard := none }
abbrev oR10 : Oper := { dst := some 37, op := Go.Op.move (Go.Operand.tmp 8), type := 9, pos := "law.go:120", after := #[], guard := none }
abbrev oR11 : Oper := { dst := some 38, op := Go.Op.build 27 #[(0, Go.Operand.const (Go.Value.int Go.IntKind.i64 3)), (1, Go.Operand.tmp 37)], type := 27, pos := "law.go:120", after := #[{ on := 10, ground := Go.Ground.data }], guard := none }
abbrev oR12 : Oper := { dst := some 39, op := Go.Op.move (Go.Operand.tmp 8), type := 9, pos := "law.go:120", after := #[], guard := none }
abbrev oR13 : Oper := { dst := some 40, op := Go.Op.slice 9 (Go.Operand.tmp 39) none (some (Go.Operand.const (Go.Value.int Go.IntKind.i64 3))) none, type := 9, pos := "law.go:120", after := #[{ on := 12, ground := Go.Ground.data }], guard := none }
abbrev oR14 : Oper := { dst := some 41, op := Go.Op.build 27 #[(0, Go.Operand.const (Go.Value.int Go.IntKind.i64 4)), (1, Go.Operand.tmp 40)], type := 27, pos := "law.go:120", after := #[{ on := 13, ground := Go.Ground.data }], guard := none }
abbrev oR15 : Oper := { dst := some 42, op := Go.Op.move (Go.Operand.tmp 8), type := 9, pos := "law.go:120", after := #[], guard := none }
abbrev oR16 : Oper := { dst := some 43, op := Go.Op.slice 9 (Go.Operand.tmp 42) none (some (Go.Operand.const (Go.Value.int Go.IntKind.i64 2))) none, type := 9, pos := "law.go:120", after := #[{ on := 15, ground := Go.Ground.data }], guard := none }
abbrev oR17 : Oper := { dst := some 44, op := Go.Op.build 27 #[(0, Go.Operand.const (Go.Value.int Go.IntKind.i64 5)), (1, Go.Operand.tmp 43)], type := 27, pos := "law.go:120", after := #[{ on := 16, ground := Go.Ground.data }], guard := none }
abbrev oR18 : Oper := { dst := some 45, op := Go.Op.buildSlice 28 5 #[(0, Go.Operand.tmp 32), (1, Go.Operand.tmp 36), (2, Go.Operand.tmp 38), (3, Go.Operand.tmp 41), (4, Go.Operand.tmp 44)], type := 28, pos := "law.go:120", after := #[{ on := 5, ground := Go.Ground.data }, { on := 9, ground := Go.Ground.data }, { on := 11, ground := Go.Ground.data }, { on := 14, ground := Go.Ground.data }, { on := 17, ground := Go.Ground.data }], guard := none }
abbrev oR19 : Oper := { dst := some 9, op := Go.Op.assign (Go.Operand.tmp 45), type := 28, pos := "law.go:120", after := #[{ on := 18, ground := Go.Ground.data }, { on := 8, ground := Go.Ground.chain }, { on := 0, ground := Go.Ground.phase }, { on := 1, ground := Go.Ground.phase }, { on := 2, ground := Go.Ground.phase }, { on := 3, ground := Go.Ground.phase }, { on := 4, ground := Go.Ground.phase }, { on := 5, ground := Go.Ground.phase }, { on := 6, ground := Go.Ground.phase }, { on := 7, ground := Go.Ground.phase }, { on := 8, ground := Go.Ground.phase }, { on := 9, ground := Go.Ground.phase }, { on := 10, ground := Go.Ground.phase }, { on := 11, ground := Go.Ground.phase }, { on := 12, ground := Go.Ground.phase }, { on := 13, ground := Go.Ground.phase }, { on := 14, ground := Go.Ground.phase }, { on := 15, ground := Go.Ground.phase }, { on := 16, ground := Go.Ground.phase }, { on := 17, ground := Go.Ground.phase }, { on := 18, ground := Go.Ground.phase }], guard := none }
set_option maxHeartbeats 16000000 in
set_option maxRecDepth 100000 in
theorem pointOnly_walk (n : Int) (w : World) (h1 : -9223372036854775808 ≤ n) (h2 : n ≤ 9223372036854775807) (T : Tabs8 w) :
    Calls Tryd.prog 3 #[.int .i64 n] w fun e w' => e = .returned (.bool true) ∧ Kp w w' := by
  obtain ⟨D, hD⟩ : ∃ D, n % 1073741824 % 3652425 = D := ⟨_, rfl⟩
  have e30 := and30 n
  have D0 : 0 ≤ D := by omega
  have D9 : D ≤ 3652424 := by omega
  obtain ⟨⟨y, m, d⟩, hd⟩ : ∃ q, dte D = q := ⟨_, rfl⟩
  obtain ⟨⟨y1, y2, m1, m2, d1, d2⟩, a0, a1, a2, a3, a4⟩ := on_all D0 D9 hd
  have AW := Lib.hid (fun w1 (kk : Kp w w1) => awake08 w1 (T.kp kk))
  have DT := Lib.hid (fun w1 (kk : Kp w w1) => (date_any D w1 (by omega) (by omega) (T.kp kk).1.1).mono fun e w' (h : _ ∧ _) => (⟨h.1, by rw [← h.2]; exact Kp.refl _⟩ : _ ∧ Kp w1 w'))
  rw [hd] at DT
  simp only at DT
  have C4 := Lib.hid (fun w1 => digits_any y 4 w1 y1 y2 (by decide))
  have CM := Lib.hid (fun w1 => digits_any m 2 w1 (by omega) (by omega) (by decide))
  have CD := Lib.hid (fun w1 => digits_any d 2 w1 (by omega) (by omega) (by decide))
  have H3 := Lib.hid (fun wx => show (Instr.slice 9 (.string (dS y 4)) none (some (.int .i64 3)) none).run Tryd.prog wx = .ok (.string (dS (y / 10) 3)) wx from by
    have h := cut_head (dS y 4) 3 (by rw [on_size]; decide) wx
    rw [on_pre3 y y1] at h
    exact h)
  have H2 := Lib.hid (fun wx => show (Instr.slice 9 (.string (dS y 4)) none (some (.int .i64 2)) none).run Tryd.prog wx = .ok (.string (dS (y / 100) 2)) wx from by
    have h := cut_head (dS y 4) 2 (by rw [on_size]; decide) wx
    rw [on_pre2 y y1] at h
    exact h)
  have ts : textP (on_P0 y m d) = dS y 4 ++ (dash ++ dS m 2 ++ (dash ++ dS d 2)) := by
    unfold textP
    rw [if_pos (on_s0 m1 m2 d1 d2)]
    rfl
  have TX := Lib.hid (fun w1 (kk : Kp w w1) => ptText_any (on_P0 y m d) w1 (T.kp kk).2.1)
  rw [ts] at TX
  have SZ := Lib.hid (on_size y 4)
  have SZm := Lib.hid (on_size m 2)
  have SZd := Lib.hid (on_size d 2)
  have S0 := Lib.hid (fun w1 (kk : Kp w w1) => pset_any (on_P0 y m d) w1 (T.kp kk))
  rw [a0.1, a0.2.1] at S0
  have U0 := Lib.hid (fun w1 (kk : Kp w w1) => ofC 0 D w1 (T.kp kk).1)
  rw [a0.2.2.1, a0.2.2.2] at U0
  have S1 := Lib.hid (fun w1 (kk : Kp w w1) => pset_any (on_P1 y m) w1 (T.kp kk))
  rw [a1.1, a1.2.1] at S1
  have U1 := Lib.hid (fun w1 (kk : Kp w w1) => ofC 1 D w1 (T.kp kk).1)
  rw [a1.2.2.1, a1.2.2.2] at U1
  have S2 := Lib.hid (fun w1 (kk : Kp w w1) => pset_any (on_P2 y) w1 (T.kp kk))
  rw [a2.1, a2.2.1] at S2
  have U2 := Lib.hid (fun w1 (kk : Kp w w1) => ofC 3 D w1 (T.kp kk).1)
  rw [a2.2.2.1, a2.2.2.2] at U2
  have S3 := Lib.hid (fun w1 (kk : Kp w w1) => pset_any (on_P3 y) w1 (T.kp kk))
  rw [a3.1, a3.2.1] at S3
  have U3 := Lib.hid (fun w1 (kk : Kp w w1) => ofC 4 D w1 (T.kp kk).1)
  rw [a3.2.2.1, a3.2.2.2] at U3
  have S4 := Lib.hid (fun w1 (kk : Kp w w1) => pset_any (on_P4 y) w1 (T.kp kk))
  rw [a4.1, a4.2.1] at S4
  have U4 := Lib.hid (fun w1 (kk : Kp w w1) => ofC 5 D w1 (T.kp kk).1)
  rw [a4.2.2.1, a4.2.2.2] at U4
  unfold on_P0 at S0 TX
  unfold on_P1 at S1
  unfold on_P2 at S2
  unfold on_P3 at S3
  unfold on_P4 at S4
  unfold ptV at S0 S1 S2 S3 S4 TX
  simp only at S0 S1 S2 S3 S4 TX
  generalize hv1 : 12 * y + m - 1 = v1 at *
  generalize hv3 : y / 10 = v3 at *
  generalize hv4 : y / 100 = v4 at *
  have b1 : -1000000000 ≤ v1 ∧ v1 ≤ 1000000000 := by omega
  have b3 : -1000000000 ≤ v3 ∧ v3 ≤ 1000000000 := by omega
  have b4 : -1000000000 ≤ v4 ∧ v4 ≤ 1000000000 := by omega
  generalize dS y 4 = sY at *
  generalize dS m 2 = sM at *
  generalize dS d 2 = sD at *
  generalize dS v3 3 = s3 at *
  generalize dS v4 2 = s2 at *
  clear T a0 a1 a2 a3 a4 hd ts hv1 hv3 hv4
  go_enter Tryd.func3, Tryd.ntmps3
  go_wp2_with fail
  refine (AW.out _ (Kp.refl _)).mono ?_
  rintro e w1 ⟨rfl, kk⟩
  have K1 := Lib.hid kk
  clear kk
  go_wp2_with fail
  rw [hD]
  refine (DT.out _ K1.out).mono ?_
  rintro e w2 ⟨rfl, kk⟩
  have K2 := Lib.hid (K1.out.trans kk)
  clear kk
  go_wp2_with fail
  refine (C4.out _).mono ?_
  rintro e w3 ⟨rfl, kk⟩
  have K3 := Lib.hid (K2.out.trans kk)
  clear kk
  have hs3 := H3.out
  have hs2 := H2.out
  go_wp2_with fail
  refine wp_region_held_drew (S := fun w' => Kp w3 w') (by kernel_rfl) ?_ (fun hHeld0 => ?_)
  · (try dsimp only); first | assumption | exact Kp.drew _ | exact Kp.refl _ | exact k2.trans (Kp.alloc _ _)
  refine tkW (v := ?_) 0 oR0 rfl (by kernel_rfl) (by kernel_rfl) (by kernel_rfl) (fun _ _ _ h => h) (by rfl) ?_ (by assumption) ?_
  rotate_left
  · intro w hSw; (try dsimp only at hSw); go_simp; (try with_reducible rfl)
  (try simp only [Act.put, oR0, List.setIfInBounds_toArray, List.set_cons_zero, List.set_cons_succ])
  refine tkW (v := ?_) 1 oR1 rfl (by kernel_rfl) (by kernel_rfl) (by kernel_rfl) (fun _ _ _ h => h) (by rfl) ?_ (by assumption) ?_
  rotate_left
  · intro w hSw; (try dsimp only at hSw); go_simp; (try with_reducible rfl)
  (try simp only [Act.put, oR1, List.setIfInBounds_toArray, List.set_cons_zero, List.set_cons_succ])
  refine tkW (v := ?_) 3 oR3 rfl (by kernel_rfl) (by kernel_rfl) (by kernel_rfl) (fun _ _ _ h => h) (by rfl) ?_ (by assumption) ?_
  rotate_left
  · intro w hSw; (try dsimp only at hSw); go_simp; (try with_reducible rfl)
  (try simp only [Act.put, oR3, List.setIfInBounds_toArray, List.set_cons_zero, List.set_cons_succ])
  refine tkW (v := ?_) 6 oR6 rfl (by kernel_rfl) (by kernel_rfl) (by kernel_rfl) (fun _ _ _ h => h) (by rfl) ?_ (by assumption) ?_
  rotate_left
  · intro w hSw; (try dsimp only at hSw); go_simp; (try with_reducible rfl)
  (try simp only [Act.put, oR6, List.setIfInBounds_toArray, List.set_cons_zero, List.set_cons_succ])
  refine tkW (v := ?_) 7 oR7 rfl (by kernel_rfl) (by kernel_rfl) (by kernel_rfl) (fun _ _ _ h => h) (by rfl) ?_ (by assumption) ?_
  rotate_left
  · intro w hSw; (try dsimp only at hSw); go_simp; (try with_reducible rfl)
  (try simp only [Act.put, oR7, List.setIfInBounds_toArray, List.set_cons_zero, List.set_cons_succ])
  refine tkW (v := ?_) 10 oR10 rfl (by kernel_rfl) (by kernel_rfl) (by kernel_rfl) (fun _ _ _ h => h) (by rfl) ?_ (by assumption) ?_
  rotate_left
  · intro w hSw; (try dsimp only at hSw); go_simp; (try with_reducible rfl)
  (try simp only [Act.put, oR10, List.setIfInBounds_toArray, List.set_cons_zero, List.set_cons_succ])
  refine tkW (v := ?_) 11 oR11 rfl (by kernel_rfl) (by kernel_rfl) (by kernel_rfl) (fun _ _ _ h => h) (by rfl) ?_ (by assumption) ?_
  rotate_left
  · intro w hSw; (try dsimp only at hSw); go_simp; (try with_reducible rfl)
  (try simp only [Act.put, oR11, List.setIfInBounds_toArray, List.set_cons_zero, List.set_cons_succ])
  refine tkW (v := ?_) 12 oR12 rfl (by kernel_rfl) (by kernel_rfl) (by kernel_rfl) (fun _ _ _ h => h) (by rfl) ?_ (by assumption) ?_
  rotate_left
  · intro w hSw; (try dsimp only at hSw); go_simp; (try with_reducible rfl)
  (try simp only [Act.put, oR12, List.setIfInBounds_toArray, List.set_cons_zero, List.set_cons_succ])
  refine tkW (v := ?_) 13 oR13 rfl (by kernel_rfl) (by kernel_rfl) (by kernel_rfl) (fun _ _ _ h => h) (by rfl) ?_ (by assumption) ?_
  rotate_left
  · intro w hSw; (try dsimp only at hSw); go_simp; (try with_reducible rfl)
  (try simp only [Act.put, oR13, List.setIfInBounds_toArray, List.set_cons_zero, List.set_cons_succ])
  refine tkW (v := ?_) 14 oR14 rfl (by kernel_rfl) (by kernel_rfl) (by kernel_rfl) (fun _ _ _ h => h) (by rfl) ?_ (by assumption) ?_
  rotate_left
  · intro w hSw; (try dsimp only at hSw); go_simp; (try with_reducible rfl)
  (try simp only [Act.put, oR14, List.setIfInBounds_toArray, List.set_cons_zero, List.set_cons_succ])
  refine tkW (v := ?_) 15 oR15 rfl (by kernel_rfl) (by kernel_rfl) (by kernel_rfl) (fun _ _ _ h => h) (by rfl) ?_ (by assumption) ?_
  rotate_left
  · intro w hSw; (try dsimp only at hSw); go_simp; (try with_reducible rfl)
  (try simp only [Act.put, oR15, List.setIfInBounds_toArray, List.set_cons_zero, List.set_cons_succ])
  refine tkW (v := ?_) 16 oR16 rfl (by kernel_rfl) (by kernel_rfl) (by kernel_rfl) (fun _ _ _ h => h) (by rfl) ?_ (by assumption) ?_
  rotate_left
  · intro w hSw; (try dsimp only at hSw); go_simp; (try with_reducible rfl)
  (try simp only [Act.put, oR16, List.setIfInBounds_toArray, List.set_cons_zero, List.set_cons_succ])
  refine tkW (v := ?_) 17 oR17 rfl (by kernel_rfl) (by kernel_rfl) (by kernel_rfl) (fun _ _ _ h => h) (by rfl) ?_ (by assumption) ?_
  rotate_left
  · intro w hSw; (try dsimp only at hSw); go_simp; (try with_reducible rfl)
  (try simp only [Act.put, oR17, List.setIfInBounds_toArray, List.set_cons_zero, List.set_cons_succ])
  refine tkE 2 oR2 rfl (by kernel_rfl) (fun K hK => ?_)
  go_simp
  (refine (CM.out _).mono ?_; rintro e w' ⟨rfl, k1⟩; have k2 := Kp.trans (show Kp w3 _ from (by first | assumption | exact Kp.drew _ | exact Kp.refl _)) k1; clear k1)
  (try go_wp2_with fail)
  refine hK.out _ _ ?_ (fun hHeld1 => ?_)
  · (try dsimp only); first | assumption | exact Kp.drew _ | exact Kp.refl _ | exact k2.trans (Kp.alloc _ _)
  clear hK K hHeld0
  (try simp only [Act.put, oR2, List.setIfInBounds_toArray, List.set_cons_zero, List.set_cons_succ])
  refine tkE 4 oR4 rfl (by kernel_rfl) (fun K hK => ?_)
  go_simp
  (refine (CD.out _).mono ?_; rintro e w' ⟨rfl, k1⟩; have k2 := Kp.trans (show Kp w3 _ from (by first | assumption | exact Kp.drew _ | exact Kp.refl _)) k1; clear k1)
  (try go_wp2_with fail)
  refine hK.out _ _ ?_ (fun hHeld2 => ?_)
  · (try dsimp only); first | assumption | exact Kp.drew _ | exact Kp.refl _ | exact k2.trans (Kp.alloc _ _)
  clear hK K hHeld1
  (try simp only [Act.put, oR4, List.setIfInBounds_toArray, List.set_cons_zero, List.set_cons_succ])
  refine tkW (v := ?_) 5 oR5 rfl (by kernel_rfl) (by kernel_rfl) (by kernel_rfl) (fun _ _ _ h => h) (by rfl) ?_ (by assumption) ?_
  rotate_left
  · intro w hSw; (try dsimp only at hSw); go_simp; (try with_reducible rfl)
  (try simp only [Act.put, oR5, List.setIfInBounds_toArray, List.set_cons_zero, List.set_cons_succ])
  refine tkE 8 oR8 rfl (by kernel_rfl) (fun K hK => ?_)
  go_simp
  (refine (CM.out _).mono ?_; rintro e w' ⟨rfl, k1⟩; have k2 := Kp.trans (show Kp w3 _ from (by first | assumption | exact Kp.drew _ | exact Kp.refl _)) k1; clear k1)
  (try go_wp2_with fail)
  refine hK.out _ _ ?_ (fun hHeld3 => ?_)
  · (try dsimp only); first | assumption | exact Kp.drew _ | exact Kp.refl _ | exact k2.trans (Kp.alloc _ _)
  clear hK K hHeld2
  (try simp only [Act.put, oR8, List.setIfInBounds_toArray, List.set_cons_zero, List.set_cons_succ])
  refine tkW (v := ?_) 9 oR9 rfl (by kernel_rfl) (by kernel_rfl) (by kernel_rfl) (fun _ _ _ h => h) (by rfl) ?_ (by assumption) ?_
  rotate_left
  · intro w hSw; (try dsimp only at hSw); go_simp; (try with_reducible rfl)
  (try simp only [Act.put, oR9, List.setIfInBounds_toArray, List.set_cons_zero, List.set_cons_succ])
  refine tkE 18 oR18 rfl (by kernel_rfl) (fun K hK => ?_)
  go_simp
  skip
  (try go_wp2_with fail)
  refine hK.out _ _ ?_ (fun hHeld4 => ?_)
  · (try dsimp only); first | assumption | exact Kp.drew _ | exact Kp.refl _ | exact k2.trans (Kp.alloc _ _)
  clear hK K hHeld3
  (try simp only [Act.put, oR18, List.setIfInBounds_toArray, List.set_cons_zero, List.set_cons_succ])
  refine tkW (v := ?_) 19 oR19 rfl (by kernel_rfl) (by kernel_rfl) (by kernel_rfl) (fun _ _ _ h => h) (by rfl) ?_ (by assumption) ?_
  rotate_left
  · intro w hSw; (try dsimp only at hSw); go_simp; (try with_reducible rfl)
  (try simp only [Act.put, oR19, List.setIfInBounds_toArray, List.set_cons_zero, List.set_cons_succ])
  refine wpAnyH_done (by kernel_rfl) ?_ _
  obtain ⟨W5, hW5⟩ : ∃ x, x = w'.alloc (.cells #[.int .i64 0, .string sY, .string sM, .string sD, .int .i64 1, .string sY, .string sM, .string (⟨#[]⟩ : ByteArray), .int .i64 3, .string sY, .string (⟨#[]⟩ : ByteArray), .string (⟨#[]⟩ : ByteArray), .int .i64 4, .string s3, .string (⟨#[]⟩ : ByteArray), .string (⟨#[]⟩ : ByteArray), .int .i64 5, .string s2, .string (⟨#[]⟩ : ByteArray), .string (⟨#[]⟩ : ByteArray)] 27) := ⟨_, rfl⟩
  rw [← hW5]
  have g5 : W5.heap[w'.heap.size]? = some (.cells #[.int .i64 0, .string sY, .string sM, .string sD, .int .i64 1, .string sY, .string sM, .string (⟨#[]⟩ : ByteArray), .int .i64 3, .string sY, .string (⟨#[]⟩ : ByteArray), .string (⟨#[]⟩ : ByteArray), .int .i64 4, .string s3, .string (⟨#[]⟩ : ByteArray), .string (⟨#[]⟩ : ByteArray), .int .i64 5, .string s2, .string (⟨#[]⟩ : ByteArray), .string (⟨#[]⟩ : ByteArray)] 27 (0, 0)) := by rw [hW5]; exact heap_at _ _ _ rfl
  have K5 := Lib.hid (K3.out.trans (k2.trans (show Kp w' W5 by rw [hW5]; exact Kp.alloc _ _)))
  clear hW5
  obtain ⟨B, hB⟩ : ∃ b, w'.heap.size = b := ⟨_, rfl⟩
  rw [hB] at g5 ⊢
  clear hB
  have q0 : W5.cell? ⟨B, 0, none⟩ = some (.int .i64 0) := by simp [World.cell?, g5]
  have q1 : W5.cell? ⟨B, 1, none⟩ = some (.string sY) := by simp [World.cell?, g5]
  have q2 : W5.cell? ⟨B, 2, none⟩ = some (.string sM) := by simp [World.cell?, g5]
  have q3 : W5.cell? ⟨B, 3, none⟩ = some (.string sD) := by simp [World.cell?, g5]
  have q4 : W5.cell? ⟨B, 4, none⟩ = some (.int .i64 1) := by simp [World.cell?, g5]
  have q5 : W5.cell? ⟨B, 5, none⟩ = some (.string sY) := by simp [World.cell?, g5]
  have q6 : W5.cell? ⟨B, 6, none⟩ = some (.string sM) := by simp [World.cell?, g5]
  have q7 : W5.cell? ⟨B, 7, none⟩ = some (.string (⟨#[]⟩ : ByteArray)) := by simp [World.cell?, g5]
  have q8 : W5.cell? ⟨B, 8, none⟩ = some (.int .i64 3) := by simp [World.cell?, g5]
  have q9 : W5.cell? ⟨B, 9, none⟩ = some (.string sY) := by simp [World.cell?, g5]
  have q10 : W5.cell? ⟨B, 10, none⟩ = some (.string (⟨#[]⟩ : ByteArray)) := by simp [World.cell?, g5]
  have q11 : W5.cell? ⟨B, 11, none⟩ = some (.string (⟨#[]⟩ : ByteArray)) := by simp [World.cell?, g5]
  have q12 : W5.cell? ⟨B, 12, none⟩ = some (.int .i64 4) := by simp [World.cell?, g5]
  have q13 : W5.cell? ⟨B, 13, none⟩ = some (.string s3) := by simp [World.cell?, g5]
  have q14 : W5.cell? ⟨B, 14, none⟩ = some (.string (⟨#[]⟩ : ByteArray)) := by simp [World.cell?, g5]
  have q15 : W5.cell? ⟨B, 15, none⟩ = some (.string (⟨#[]⟩ : ByteArray)) := by simp [World.cell?, g5]
  have q16 : W5.cell? ⟨B, 16, none⟩ = some (.int .i64 5) := by simp [World.cell?, g5]
  have q17 : W5.cell? ⟨B, 17, none⟩ = some (.string s2) := by simp [World.cell?, g5]
  have q18 : W5.cell? ⟨B, 18, none⟩ = some (.string (⟨#[]⟩ : ByteArray)) := by simp [World.cell?, g5]
  have q19 : W5.cell? ⟨B, 19, none⟩ = some (.string (⟨#[]⟩ : ByteArray)) := by simp [World.cell?, g5]
  have LC := Lib.hid (fun w1 (kq : Kp W5 w1) => show w1.cell? ⟨B, 0, none⟩ = some (.int .i64 0) ∧ w1.cell? ⟨B, 1, none⟩ = some (.string sY) ∧ w1.cell? ⟨B, 2, none⟩ = some (.string sM) ∧ w1.cell? ⟨B, 3, none⟩ = some (.string sD) ∧ w1.cell? ⟨B, 4, none⟩ = some (.int .i64 1) ∧ w1.cell? ⟨B, 5, none⟩ = some (.string sY) ∧ w1.cell? ⟨B, 6, none⟩ = some (.string sM) ∧ w1.cell? ⟨B, 7, none⟩ = some (.string (⟨#[]⟩ : ByteArray)) ∧ w1.cell? ⟨B, 8, none⟩ = some (.int .i64 3) ∧ w1.cell? ⟨B, 9, none⟩ = some (.string sY) ∧ w1.cell? ⟨B, 10, none⟩ = some (.string (⟨#[]⟩ : ByteArray)) ∧ w1.cell? ⟨B, 11, none⟩ = some (.string (⟨#[]⟩ : ByteArray)) ∧ w1.cell? ⟨B, 12, none⟩ = some (.int .i64 4) ∧ w1.cell? ⟨B, 13, none⟩ = some (.string s3) ∧ w1.cell? ⟨B, 14, none⟩ = some (.string (⟨#[]⟩ : ByteArray)) ∧ w1.cell? ⟨B, 15, none⟩ = some (.string (⟨#[]⟩ : ByteArray)) ∧ w1.cell? ⟨B, 16, none⟩ = some (.int .i64 5) ∧ w1.cell? ⟨B, 17, none⟩ = some (.string s2) ∧ w1.cell? ⟨B, 18, none⟩ = some (.string (⟨#[]⟩ : ByteArray)) ∧ w1.cell? ⟨B, 19, none⟩ = some (.string (⟨#[]⟩ : ByteArray)) from ⟨cell_up kq q0, cell_up kq q1, cell_up kq q2, cell_up kq q3, cell_up kq q4, cell_up kq q5, cell_up kq q6, cell_up kq q7, cell_up kq q8, cell_up kq q9, cell_up kq q10, cell_up kq q11, cell_up kq q12, cell_up kq q13, cell_up kq q14, cell_up kq q15, cell_up kq q16, cell_up kq q17, cell_up kq q18, cell_up kq q19⟩)
  clear g5 hs3 hs2 k2 q0 q1 q2 q3 q4 q5 q6 q7 q8 q9 q10 q11 q12 q13 q14 q15 q16 q17 q18 q19
  obtain ⟨tx, htx⟩ : ∃ x, sY ++ (dash ++ sM ++ (dash ++ sD)) = x := ⟨_, rfl⟩
  rw [htx] at TX
  have EQ := Lib.hid (show (tx.toList == (sY ++ (⟨#[45]⟩ : ByteArray) ++ sM ++ (⟨#[45]⟩ : ByteArray) ++ sD).toList) = true from by
    rw [← htx]
    unfold dash
    simp only [ByteArray.append_assoc, beq_self_eq_true])
  clear htx
  go_wp2
  go_loopw [10] (fun x ws => ∃ j : Int, (0 ≤ j ∧ j ≤ 5) ∧ x = .int .i64 j ∧ Hid (Kp W5 ws)) (fun x _ => (5 - intOf x).toNat)
  case atStart => exact ⟨0, by omega, rfl, Lib.hid (Kp.refl _)⟩
  case round =>
    obtain ⟨j, ⟨j0, j5⟩, rfl, KL⟩ := hrel
    obtain ⟨c0, c1, c2, c3, c4, c5, c6, c7, c8, c9, c10, c11, c12, c13, c14, c15, c16, c17, c18, c19⟩ := LC.out _ KL.out
    by_cases hlt : j < 5
    · have hv : j = 0 ∨ j = 1 ∨ j = 2 ∨ j = 3 ∨ j = 4 := by omega
      clear hlt
      rcases hv with rfl | rfl | rfl | rfl | rfl
      · clear j0 j5
        go_wp2_with fail
        refine (S0.out _ (K5.out.trans KL.out)).mono ?_
        rintro e w6 ⟨va, rfl, own6, kk⟩
        have K6 := Lib.hid (KL.out.trans kk)
        have RA := Lib.hid (runsAt_own own6)
        obtain ⟨aA, cA, rfl⟩ := own_slice own6
        clear own6 kk
        clear c0 c1 c2 c3 c4 c5 c6 c7 c8 c9 c10 c11 c12 c13 c14 c15 c16 c17 c18 c19
        obtain ⟨c0, c1, c2, c3, c4, c5, c6, c7, c8, c9, c10, c11, c12, c13, c14, c15, c16, c17, c18, c19⟩ := LC.out _ K6.out
        go_wp2_with fail
        refine (U0.out _ (K5.out.trans K6.out)).mono ?_
        rintro e w7 ⟨rfl, kk⟩
        have K7 := Lib.hid (K6.out.trans kk)
        have RB := Lib.hid (RA.out.kp kk)
        clear kk RA
        clear c0 c1 c2 c3 c4 c5 c6 c7 c8 c9 c10 c11 c12 c13 c14 c15 c16 c17 c18 c19
        go_wp2_with fail
        refine (same_any _ _ [(D, D)] _ (RB.out.kp (Kp.alloc _ _)) (lit_at w7 [(D, D)] _ _ rfl (by simp [maxLen])) (by simp)).mono ?_
        rintro e w8 ⟨rfl, kk⟩
        have K8 := Lib.hid (K7.out.trans ((Kp.alloc _ _).trans kk))
        clear kk RB
        go_wp2
        go_roundw
        case rel => exact ⟨1, by omega, rfl, K8⟩
        case measure => simp [intOf]
      · clear j0 j5
        go_wp2_with fail
        refine (S1.out _ (K5.out.trans KL.out)).mono ?_
        rintro e w6 ⟨va, rfl, own6, kk⟩
        have K6 := Lib.hid (KL.out.trans kk)
        have RA := Lib.hid (runsAt_own own6)
        obtain ⟨aA, cA, rfl⟩ := own_slice own6
        clear own6 kk
        clear c0 c1 c2 c3 c4 c5 c6 c7 c8 c9 c10 c11 c12 c13 c14 c15 c16 c17 c18 c19
        obtain ⟨c0, c1, c2, c3, c4, c5, c6, c7, c8, c9, c10, c11, c12, c13, c14, c15, c16, c17, c18, c19⟩ := LC.out _ K6.out
        go_wp2_with fail
        refine (U1.out _ (K5.out.trans K6.out)).mono ?_
        rintro e w7 ⟨rfl, kk⟩
        have K7 := Lib.hid (K6.out.trans kk)
        have RB := Lib.hid (RA.out.kp kk)
        clear kk RA
        clear c0 c1 c2 c3 c4 c5 c6 c7 c8 c9 c10 c11 c12 c13 c14 c15 c16 c17 c18 c19
        go_wp2_with fail
        refine (same_any _ _ [(v1, v1)] _ (RB.out.kp (Kp.alloc _ _)) (lit_at w7 [(v1, v1)] _ _ rfl (by simp [maxLen])) (by simp)).mono ?_
        rintro e w8 ⟨rfl, kk⟩
        have K8 := Lib.hid (K7.out.trans ((Kp.alloc _ _).trans kk))
        clear kk RB
        go_wp2
        go_roundw
        case rel => exact ⟨2, by omega, rfl, K8⟩
        case measure => simp [intOf]
      · clear j0 j5
        go_wp2_with fail
        refine (S2.out _ (K5.out.trans KL.out)).mono ?_
        rintro e w6 ⟨va, rfl, own6, kk⟩
        have K6 := Lib.hid (KL.out.trans kk)
        have RA := Lib.hid (runsAt_own own6)
        obtain ⟨aA, cA, rfl⟩ := own_slice own6
        clear own6 kk
        clear c0 c1 c2 c3 c4 c5 c6 c7 c8 c9 c10 c11 c12 c13 c14 c15 c16 c17 c18 c19
        obtain ⟨c0, c1, c2, c3, c4, c5, c6, c7, c8, c9, c10, c11, c12, c13, c14, c15, c16, c17, c18, c19⟩ := LC.out _ K6.out
        go_wp2_with fail
        refine (U2.out _ (K5.out.trans K6.out)).mono ?_
        rintro e w7 ⟨rfl, kk⟩
        have K7 := Lib.hid (K6.out.trans kk)
        have RB := Lib.hid (RA.out.kp kk)
        clear kk RA
        clear c0 c1 c2 c3 c4 c5 c6 c7 c8 c9 c10 c11 c12 c13 c14 c15 c16 c17 c18 c19
        go_wp2_with fail
        refine (same_any _ _ [(y, y)] _ (RB.out.kp (Kp.alloc _ _)) (lit_at w7 [(y, y)] _ _ rfl (by simp [maxLen])) (by simp)).mono ?_
        rintro e w8 ⟨rfl, kk⟩
        have K8 := Lib.hid (K7.out.trans ((Kp.alloc _ _).trans kk))
        clear kk RB
        go_wp2
        go_roundw
        case rel => exact ⟨3, by omega, rfl, K8⟩
        case measure => simp [intOf]
      · clear j0 j5
        go_wp2_with fail
        refine (S3.out _ (K5.out.trans KL.out)).mono ?_
        rintro e w6 ⟨va, rfl, own6, kk⟩
        have K6 := Lib.hid (KL.out.trans kk)
        have RA := Lib.hid (runsAt_own own6)
        obtain ⟨aA, cA, rfl⟩ := own_slice own6
        clear own6 kk
        clear c0 c1 c2 c3 c4 c5 c6 c7 c8 c9 c10 c11 c12 c13 c14 c15 c16 c17 c18 c19
        obtain ⟨c0, c1, c2, c3, c4, c5, c6, c7, c8, c9, c10, c11, c12, c13, c14, c15, c16, c17, c18, c19⟩ := LC.out _ K6.out
        go_wp2_with fail
        refine (U3.out _ (K5.out.trans K6.out)).mono ?_
        rintro e w7 ⟨rfl, kk⟩
        have K7 := Lib.hid (K6.out.trans kk)
        have RB := Lib.hid (RA.out.kp kk)
        clear kk RA
        clear c0 c1 c2 c3 c4 c5 c6 c7 c8 c9 c10 c11 c12 c13 c14 c15 c16 c17 c18 c19
        go_wp2_with fail
        refine (same_any _ _ [(v3, v3)] _ (RB.out.kp (Kp.alloc _ _)) (lit_at w7 [(v3, v3)] _ _ rfl (by simp [maxLen])) (by simp)).mono ?_
        rintro e w8 ⟨rfl, kk⟩
        have K8 := Lib.hid (K7.out.trans ((Kp.alloc _ _).trans kk))
        clear kk RB
        go_wp2
        go_roundw
        case rel => exact ⟨4, by omega, rfl, K8⟩
        case measure => simp [intOf]
      · clear j0 j5
        go_wp2_with fail
        refine (S4.out _ (K5.out.trans KL.out)).mono ?_
        rintro e w6 ⟨va, rfl, own6, kk⟩
        have K6 := Lib.hid (KL.out.trans kk)
        have RA := Lib.hid (runsAt_own own6)
        obtain ⟨aA, cA, rfl⟩ := own_slice own6
        clear own6 kk
        clear c0 c1 c2 c3 c4 c5 c6 c7 c8 c9 c10 c11 c12 c13 c14 c15 c16 c17 c18 c19
        obtain ⟨c0, c1, c2, c3, c4, c5, c6, c7, c8, c9, c10, c11, c12, c13, c14, c15, c16, c17, c18, c19⟩ := LC.out _ K6.out
        go_wp2_with fail
        refine (U4.out _ (K5.out.trans K6.out)).mono ?_
        rintro e w7 ⟨rfl, kk⟩
        have K7 := Lib.hid (K6.out.trans kk)
        have RB := Lib.hid (RA.out.kp kk)
        clear kk RA
        clear c0 c1 c2 c3 c4 c5 c6 c7 c8 c9 c10 c11 c12 c13 c14 c15 c16 c17 c18 c19
        go_wp2_with fail
        refine (same_any _ _ [(v4, v4)] _ (RB.out.kp (Kp.alloc _ _)) (lit_at w7 [(v4, v4)] _ _ rfl (by simp [maxLen])) (by simp)).mono ?_
        rintro e w8 ⟨rfl, kk⟩
        have K8 := Lib.hid (K7.out.trans ((Kp.alloc _ _).trans kk))
        clear kk RB
        go_wp2
        go_roundw
        case rel => exact ⟨5, by omega, rfl, K8⟩
        case measure => simp [intOf]
    · obtain rfl : j = 5 := by omega
      clear hlt j0 j5
      go_wp2_with fail
      refine (TX.out _ (K5.out.trans KL.out)).mono ?_
      rintro e w6 ⟨rfl, kk⟩
      have K6 := Lib.hid (KL.out.trans kk)
      clear kk
      clear c0 c1 c2 c3 c4 c5 c6 c7 c8 c9 c10 c11 c12 c13 c14 c15 c16 c17 c18 c19
      have z4 := SZ.out
      have zm := SZm.out
      have zd := SZd.out
      have eq := EQ.out
      go_wp2_with fail
      refine (CM.out _).mono ?_
      rintro e w7 ⟨rfl, kk⟩
      have K7 := Lib.hid (K6.out.trans kk)
      clear kk
      go_wp2_with fail
      refine (CD.out _).mono ?_
      rintro e w8 ⟨rfl, kk⟩
      have K8 := Lib.hid (K7.out.trans kk)
      clear kk
      go_wp2
      go_ret
      exact ⟨by first | rfl | simp, K5.out.trans K8.out⟩
end Go.Proofs.YtjiikianmjmgcaaDoor

namespace Go.Proofs.YtjiikianmjmgcaaDoor.lawPointOnly
open Go.ChangeShapes Go.WideShapes Go.ChangeAt Go.RowKit
open Go.ChangeMaps (open_string shut_string)
set_option linter.unusedVariables false

theorem own : ownKnob Tryd.prog.godebug = none := by kernel_rfl
theorem laidOut : laidOutB Tryd.prog = true := by kernel_rfl

/-- A world for the witness: the settled one, each table holding what its initialiser lays. -/
noncomputable def laidWorld (os : Os) : World :=
  { World.holding Tryd.prog os ⟨#[], #[], []⟩ with heap := (((((World.holding Tryd.prog os ⟨#[], #[], []⟩).heap.modify 2 fun
      | .cells _ t frozen => .cells #[.int .i64 0, .int .i64 31, .int .i64 28, .int .i64 31, .int .i64 30, .int .i64 31, .int .i64 30, .int .i64 31, .int .i64 31, .int .i64 30, .int .i64 31, .int .i64 30, .int .i64 31] t frozen
      | o => o).modify 3 fun
      | .cells _ t frozen => .cells #[.int .i64 3652425, .int .i64 120000, .int .i64 40000, .int .i64 10000, .int .i64 1000, .int .i64 100] t frozen
      | o => o).modify 0 fun
      | .cells _ t frozen => .cells #[.int .i64 4, .int .i64 2, .int .i64 2, .int .i64 12, .string ⟨#[]⟩, .int .i64 4, .int .i64 2, .int .i64 0, .int .i64 12, .string ⟨#[]⟩, .int .i64 4, .int .i64 1, .int .i64 0, .int .i64 4, .string ⟨#[]⟩, .int .i64 4, .int .i64 0, .int .i64 0, .int .i64 0, .string ⟨#[]⟩, .int .i64 3, .int .i64 0, .int .i64 0, .int .i64 0, .string ⟨#[100]⟩, .int .i64 2, .int .i64 0, .int .i64 0, .int .i64 0, .string ⟨#[99]⟩] t frozen
      | o => o).modify 1 fun
      | .cells _ t frozen => .cells #[.int .i64 3, .int .i64 1, .int .i64 1, .int .i64 2, .int .i64 1, .int .i64 1] t frozen
      | o => o) }
theorem laid_met (os : Os) : laidMet Tryd.prog Rows.pointOnlyRow.laid ((laidWorld os).forCall (fun _ _ => 0) ⟨#[], #[.int .i64 0], []⟩).memory :=
  laidMet_of_run' 8 (by kernel_rfl) (by kernel_rfl)
theorem reads (os : Os) {H : Type} (enc : TypeId × Value → H) : ∃ places, DataW.whole enc Tryd.prog ((laidWorld os).forCall (fun _ _ => 0) ⟨#[], #[.int .i64 0], []⟩).memory Tryd.f3.params.toList Rows.pointOnlySpec.vars false (#[.int .i64 0] : Array Value).toList 8 = some ([.lit (.int .i64 0)], [], places) :=
  ⟨[], by kernel_rfl⟩

set_option maxRecDepth 100000 in
theorem contract (H : Type) (enc : TypeId × Value → H) (W : World) (base : Nat) (args : Array Value) (ds gs : List (DataW H)) (before : List MemPlace)
    (hval : ∀ (j : Nat) t v, Tryd.f3.params[j]? = some t → args[j]? = some v → Value.okWide Tryd.prog W .any base t v)
    (hW : DataW.Whole enc Tryd.prog Tryd.f3.params.toList Rows.pointOnlySpec.vars false W args.toList ds gs before) (hL : laidMetH Tryd.prog Rows.pointOnlyRow.laid W) :
    Calls Tryd.prog 3 args W fun e W' => ∃ v, e = .returned v ∧ Rows.pointOnlySpec.post enc Tryd.prog Tryd.f3 false true false false W args v W' := by
  have hW' := hW
  have hltA : ∀ x ∈ before, x.block < W.heap.size := fun x hx => by simpa using hW'.lt x hx
  obtain ⟨p, q, hA0, hV, rfl, hfz, hnd⟩ := hW
  have hA : DataW.TrodAll enc Tryd.prog W 0 (fun _ => true) true Tryd.f3.params.toList args.toList ds p := hA0
  rw [Tryd.params3] at hA hval
  obtain ⟨v0, vs0, d0, ds0, p0, q0, hargs, rfl, rfl, h0, r0⟩ := trodAll_cons hA
  obtain ⟨rfl, rfl, rfl⟩ := trodAll_nil r0
  obtain rfl : args = #[v0] := by cases args; simp_all
  obtain ⟨rfl, rfl⟩ := trodVars_none hV
  have hk0 := h0
  obtain ⟨a0, rfl, rfl, rfl, w0⟩ := open_int Tryd.underlying3 (hval 0 3 v0 rfl rfl) h0
  clear hA0
  simp only [List.append_nil] at hW'
  refine (pointOnly_walk a0 W (wf_bd w0).1 (wf_bd w0).2 (tabs_of hL)).mono fun e W' ⟨he, hg⟩ => ?_
  subst he
  have bel : Below W.heap.size W W' := hg
  exact ⟨_, rfl, _, _, _, [], _, [], hW', trodAll_mk1 (shut_bool Tryd.underlying4 _), (trodAll_cons_mk (shut_int Tryd.underlying3 w0) trodAll_mk0), rfl, bel.frame _, fun h => by cases h⟩

set_option maxRecDepth 100000 in
theorem lifted (os : Os) (started : os.Started) (H : Type) (enc : TypeId × Value → H) (F : Stop.Interp) :
    ReturnsInHanded {} Tryd.checked os 3 .any ((OpenSpec.ofChange Rows.pointOnlySpec).preRow enc Tryd.prog Tryd.f3 Rows.pointOnlyRow.domain false Rows.pointOnlyRow.laid) (((OpenSpec.ofChange Rows.pointOnlySpec).at F).post enc Tryd.prog Tryd.f3 false true false false) := by
  obtain ⟨places, hx⟩ := reads os enc
  refine returnsInHanded_of_row (C := Tryd.checked) (s := OpenSpec.ofChange Rows.pointOnlySpec) own started (by kernel_rfl) Tryd.func3
    (witness_row_at (enc := enc) (C := Tryd.checked) false (laidWorld os) #[.int .i64 0] rfl (by kernel_rfl) (by kernel_rfl) (by kernel_rfl)
      (OpenSpec.preRow_of_cond 8 hx (by kernel_rfl) (fun k hk => by cases hk) (by kernel_rfl) (laid_met os))) ?_
  intro W base args ds gs before hval hW _ hcond _ hL _ _
  exact contract H enc W base args ds gs before hval hW hL

theorem said : Rows.PointOnlySaid :=
  OpenClaim.holds_of_cond 3 Tryd.f3 rfl rfl rfl rfl rfl rfl rfl ⟨rfl, rfl, rfl, rfl, rfl⟩ rfl rfl rfl rfl rfl (by kernel_rfl) Tryd.func3 (by kernel_rfl)
    (of_decide_eq_true (by kernel_rfl)) (by unfold Func.isWrapper; first | (rw [if_pos (by decide +kernel)]; kernel_rfl) | (rw [if_neg (by decide +kernel)]; exact ⟨rfl, rfl⟩))
    (fun os started H enc _ F => by rw [OpenClaim.pre_eq_preRow]; exact lifted os started H enc F)

theorem plain (f : FuncId) (fn : Func) (hf : Tryd.pinned.checked.prog.funcNamed "lustrum/lustrumlaw08.PointOnly" = some f) (hfn : Tryd.pinned.checked.prog.funcs[f]? = some fn) :
    false = Tryd.pinned.checked.prog.looks [] ∧ ∀ (j : Nat) t, fn.params[j]? = some t → Tryd.pinned.checked.prog.wantsStandIn t = false := by
  obtain rfl : f = 3 := Option.some.inj ((show Tryd.prog.funcNamed "lustrum/lustrumlaw08.PointOnly" = some 3 by kernel_rfl).symm.trans hf) |>.symm
  obtain rfl : fn = Tryd.f3 := (Option.some.inj (Tryd.func3.symm.trans hfn)).symm
  refine ⟨by kernel_rfl, fun j t ht => ?_⟩
  rw [Tryd.params3] at ht
  have hm := Array.mem_of_getElem? ht
  have ho : t = 3 := by first | simpa using hm | (simp at hm; rcases hm with h <;> simp [h])
  subst ho
  exact (show Tryd.prog.wantsStandIn 3 = false by kernel_rfl)

/-- THE CARD. -/
theorem proved : Rows.PointOnlyCardSaid :=
  Claim7.holds_tied_plain_at .later [] _ _ _ _ said (fun _ h => by cases h) (by kernel_rfl) (fun _ h => by cases h) pointOnly_row_tie rfl ⟨rfl, rfl⟩ (by kernel_rfl) rfl plain (by kernel_rfl)
#print axioms proved
end Go.Proofs.YtjiikianmjmgcaaDoor.lawPointOnly
