/-
  Joined: PsQ, PsR, PsS, PsT, PsU, PsV, PsW, PsX, Seg, L13A.
-/
import Derived.Test.YtndmohamjffpcaaDoorGPsM
import Derived.Test.YtndmohamjffpcaaDoorGLex
import Derived.Test.YtndmohamjffpcaaDoorGPsA
import Derived.Test.YtndmohamjffpcaaDoorGCnB
import Derived.Deep.CutRange
import Derived.Test.YtndmohamjffpcaaDoorGPrA
namespace Go.Proofs.YtndmohamjffpcaaDoor
open Go.RowKit Go.Shelf
set_option linter.unusedVariables false
set_option linter.unusedSimpArgs false
set_option maxHeartbeats 16000000 in
set_option maxRecDepth 100000 in
theorem bp_fa {w0 w : World} {B n : Nat} {vl : Value} {rows : List (Value × List NV)} {st : ND} {vs : Value} {wh : ND} {vw : Value} (h : PM w0 w B n vl rows false st vs wh vw) (hbd : Bd 1 n rows) (t : Tk) (c : t.1 = 7) (ca : wh.a = false) : Calls Tryd.prog 59 #[.pointer (some ⟨B, 0, none⟩), tokV t] w fun e w' => ∃ r1 r2 : Value, e = .returned (.tuple #[r1, r2]) ∧ RP w0 B (.go (.b1 n (skOf rows) (setA wh))) r1 r2 w' ∧ TokK w w' := by
  have hmf : ∀ (fn : Fn) (first cap : Array Value) (w : World), (Instr.makeFunc fn first cap).run Tryd.prog w = .ok (.func fn first cap) w := fun _ _ _ _ => rfl
  obtain ⟨kw, pw, aw, tw, lw⟩ := wh
  simp only [ND.a, ND.t] at ca
  subst ca
  have cc := h.c19
  have ce : w.cell? ⟨B, 16, none⟩ = some (.bool false) := cc.2.2.2.2.2.2.2.2.2.2.2.2.2.2.2.2.1
  have fe := h.frz 16
  have PF := Lib.hid ((h.sets 16 [.bool true] (n' := n) (ie' := false) (st' := st) (vs' := vs) (wh' := (.mk kw pw true tw lw)) (vw' := vw) (by kernel_rfl) h.fw h.fs).go (Kp.alloc _ (.cells #[.int .i64 7, .int .i64 t.2.1, .string (bs t.2.2)] 56)))
  have TKM := Lib.hid ((h.tok 16 [.bool true]).trans (TokK.kp (Kp.alloc _ (.cells #[.int .i64 7, .int .i64 t.2.1, .string (bs t.2.2)] 56))))
  have HBD := Lib.hid hbd
  have bw : B < w.heap.size := (Array.getElem?_eq_some_iff.1 h.box).1
  obtain ⟨k, i, s⟩ := t
  simp only at c
  subst c
  unfold tokV
  simp only at PF TKM ⊢
  clear h cc hbd
  go_enter Tryd.func59, Tryd.ntmps59
  go_wp2
  go_ret2
  exact ⟨_, _, rfl, ⟨rfl, rfl, _, _, _, _, _, rfl, HBD.out, PF.out⟩, TKM.out⟩
set_option maxHeartbeats 16000000 in
set_option maxRecDepth 100000 in
theorem bp_ft {w0 w : World} {B n : Nat} {vl : Value} {rows : List (Value × List NV)} {st : ND} {vs : Value} {wh : ND} {vw : Value} (h : PM w0 w B n vl rows false st vs wh vw) (hbd : Bd 1 n rows) (t : Tk) (c : t.1 = 8) (ca : wh.t = false) : Calls Tryd.prog 59 #[.pointer (some ⟨B, 0, none⟩), tokV t] w fun e w' => ∃ r1 r2 : Value, e = .returned (.tuple #[r1, r2]) ∧ RP w0 B (.go (.b1 n (skOf rows) (setT wh))) r1 r2 w' ∧ TokK w w' := by
  have hmf : ∀ (fn : Fn) (first cap : Array Value) (w : World), (Instr.makeFunc fn first cap).run Tryd.prog w = .ok (.func fn first cap) w := fun _ _ _ _ => rfl
  obtain ⟨kw, pw, aw, tw, lw⟩ := wh
  simp only [ND.a, ND.t] at ca
  subst ca
  have cc := h.c19
  have ce : w.cell? ⟨B, 17, none⟩ = some (.bool false) := cc.2.2.2.2.2.2.2.2.2.2.2.2.2.2.2.2.2.1
  have fe := h.frz 17
  have PF := Lib.hid ((h.sets 17 [.bool true] (n' := n) (ie' := false) (st' := st) (vs' := vs) (wh' := (.mk kw pw aw true lw)) (vw' := vw) (by kernel_rfl) h.fw h.fs).go (Kp.alloc _ (.cells #[.int .i64 8, .int .i64 t.2.1, .string (bs t.2.2)] 56)))
  have TKM := Lib.hid ((h.tok 17 [.bool true]).trans (TokK.kp (Kp.alloc _ (.cells #[.int .i64 8, .int .i64 t.2.1, .string (bs t.2.2)] 56))))
  have HBD := Lib.hid hbd
  have bw : B < w.heap.size := (Array.getElem?_eq_some_iff.1 h.box).1
  obtain ⟨k, i, s⟩ := t
  simp only at c
  subst c
  unfold tokV
  simp only at PF TKM ⊢
  clear h cc hbd
  go_enter Tryd.func59, Tryd.ntmps59
  go_wp2
  go_ret2
  exact ⟨_, _, rfl, ⟨rfl, rfl, _, _, _, _, _, rfl, HBD.out, PF.out⟩, TKM.out⟩
set_option maxHeartbeats 16000000 in
set_option maxRecDepth 100000 in
theorem bp_ta {w0 w : World} {B n : Nat} {vl : Value} {rows : List (Value × List NV)} {st : ND} {vs : Value} {wh : ND} {vw : Value} (h : PM w0 w B n vl rows true st vs wh vw) (hbd : Bd 1 n rows) (t : Tk) (c : t.1 = 7) (ca : wh.a = false) : Calls Tryd.prog 59 #[.pointer (some ⟨B, 0, none⟩), tokV t] w fun e w' => ∃ r1 r2 : Value, e = .returned (.tuple #[r1, r2]) ∧ RP w0 B (.go (.b2 n (skOf rows) st (setA wh))) r1 r2 w' ∧ TokK w w' := by
  have hmf : ∀ (fn : Fn) (first cap : Array Value) (w : World), (Instr.makeFunc fn first cap).run Tryd.prog w = .ok (.func fn first cap) w := fun _ _ _ _ => rfl
  obtain ⟨kw, pw, aw, tw, lw⟩ := wh
  simp only [ND.a, ND.t] at ca
  subst ca
  have cc := h.c19
  have ce : w.cell? ⟨B, 16, none⟩ = some (.bool false) := cc.2.2.2.2.2.2.2.2.2.2.2.2.2.2.2.2.1
  have fe := h.frz 16
  have PF := Lib.hid ((h.sets 16 [.bool true] (n' := n) (ie' := true) (st' := st) (vs' := vs) (wh' := (.mk kw pw true tw lw)) (vw' := vw) (by kernel_rfl) h.fw h.fs).go (Kp.alloc _ (.cells #[.int .i64 7, .int .i64 t.2.1, .string (bs t.2.2)] 56)))
  have TKM := Lib.hid ((h.tok 16 [.bool true]).trans (TokK.kp (Kp.alloc _ (.cells #[.int .i64 7, .int .i64 t.2.1, .string (bs t.2.2)] 56))))
  have HBD := Lib.hid hbd
  have bw : B < w.heap.size := (Array.getElem?_eq_some_iff.1 h.box).1
  obtain ⟨k, i, s⟩ := t
  simp only at c
  subst c
  unfold tokV
  simp only at PF TKM ⊢
  clear h cc hbd
  go_enter Tryd.func59, Tryd.ntmps59
  go_wp2
  go_ret2
  exact ⟨_, _, rfl, ⟨rfl, rfl, _, _, _, _, rfl, HBD.out, PF.out⟩, TKM.out⟩
set_option maxHeartbeats 16000000 in
set_option maxRecDepth 100000 in
theorem bp_tt {w0 w : World} {B n : Nat} {vl : Value} {rows : List (Value × List NV)} {st : ND} {vs : Value} {wh : ND} {vw : Value} (h : PM w0 w B n vl rows true st vs wh vw) (hbd : Bd 1 n rows) (t : Tk) (c : t.1 = 8) (ca : wh.t = false) : Calls Tryd.prog 59 #[.pointer (some ⟨B, 0, none⟩), tokV t] w fun e w' => ∃ r1 r2 : Value, e = .returned (.tuple #[r1, r2]) ∧ RP w0 B (.go (.b2 n (skOf rows) st (setT wh))) r1 r2 w' ∧ TokK w w' := by
  have hmf : ∀ (fn : Fn) (first cap : Array Value) (w : World), (Instr.makeFunc fn first cap).run Tryd.prog w = .ok (.func fn first cap) w := fun _ _ _ _ => rfl
  obtain ⟨kw, pw, aw, tw, lw⟩ := wh
  simp only [ND.a, ND.t] at ca
  subst ca
  have cc := h.c19
  have ce : w.cell? ⟨B, 17, none⟩ = some (.bool false) := cc.2.2.2.2.2.2.2.2.2.2.2.2.2.2.2.2.2.1
  have fe := h.frz 17
  have PF := Lib.hid ((h.sets 17 [.bool true] (n' := n) (ie' := true) (st' := st) (vs' := vs) (wh' := (.mk kw pw aw true lw)) (vw' := vw) (by kernel_rfl) h.fw h.fs).go (Kp.alloc _ (.cells #[.int .i64 8, .int .i64 t.2.1, .string (bs t.2.2)] 56)))
  have TKM := Lib.hid ((h.tok 17 [.bool true]).trans (TokK.kp (Kp.alloc _ (.cells #[.int .i64 8, .int .i64 t.2.1, .string (bs t.2.2)] 56))))
  have HBD := Lib.hid hbd
  have bw : B < w.heap.size := (Array.getElem?_eq_some_iff.1 h.box).1
  obtain ⟨k, i, s⟩ := t
  simp only at c
  subst c
  unfold tokV
  simp only at PF TKM ⊢
  clear h cc hbd
  go_enter Tryd.func59, Tryd.ntmps59
  go_wp2
  go_ret2
  exact ⟨_, _, rfl, ⟨rfl, rfl, _, _, _, _, rfl, HBD.out, PF.out⟩, TKM.out⟩
set_option maxHeartbeats 16000000 in
set_option maxRecDepth 100000 in
theorem bp_f7 {w0 w : World} {B n : Nat} {vl : Value} {rows : List (Value × List NV)} {st : ND} {vs : Value} {wh : ND} {vw : Value} (h : PM w0 w B n vl rows false st vs wh vw) (hbd : Bd 1 n rows) (t : Tk) (hk : t.1 = 7) (hw : wh.a = true) : Calls Tryd.prog 59 #[.pointer (some ⟨B, 0, none⟩), tokV t] w fun e w' => ∃ r1 r2 : Value, e = .returned (.tuple #[r1, r2]) ∧ RP w0 B (beM n (skOf rows) wh t) r1 r2 w' ∧ TokK w w' := by
  have BE := Lib.hid (be_any (h.go (Kp.alloc w (.cells #[.int .i64 t.1, .int .i64 t.2.1, .string (bs t.2.2)] 56))) hbd t)
  have cc := h.c19
  have c2 := cc.2.2.1
  have ca := cc.2.2.2.2.2.2.2.2.2.2.2.2.2.2.2.2.1
  have ct := cc.2.2.2.2.2.2.2.2.2.2.2.2.2.2.2.2.2.1
  have bw : B < w.heap.size := (Array.getElem?_eq_some_iff.1 h.box).1
  obtain ⟨res, hres⟩ : ∃ z, beM n (skOf rows) wh t = z := ⟨_, rfl⟩
  rw [hres] at BE ⊢
  clear hres
  obtain ⟨k, i, s⟩ := t
  simp only at hk
  subst hk
  rw [hw] at ca
  unfold tokV at *
  simp only at BE ⊢
  clear h cc hbd
  go_enter Tryd.func59, Tryd.ntmps59
  go_wp2_with fail
  refine BE.out.mono ?_
  rintro e w2 ⟨r1, r2, rfl, hrp, tk⟩
  have HRP := Lib.hid hrp
  have HTK := Lib.hid ((TokK.kp (Kp.alloc _ _)).trans tk)
  clear hrp tk
  go_wp2
  go_ret2
  exact ⟨r1, r2, rfl, HRP.out, HTK.out⟩
set_option maxHeartbeats 16000000 in
set_option maxRecDepth 100000 in
theorem bp_f8 {w0 w : World} {B n : Nat} {vl : Value} {rows : List (Value × List NV)} {st : ND} {vs : Value} {wh : ND} {vw : Value} (h : PM w0 w B n vl rows false st vs wh vw) (hbd : Bd 1 n rows) (t : Tk) (hk : t.1 = 8) (hw : wh.t = true) : Calls Tryd.prog 59 #[.pointer (some ⟨B, 0, none⟩), tokV t] w fun e w' => ∃ r1 r2 : Value, e = .returned (.tuple #[r1, r2]) ∧ RP w0 B (beM n (skOf rows) wh t) r1 r2 w' ∧ TokK w w' := by
  have BE := Lib.hid (be_any (h.go (Kp.alloc w (.cells #[.int .i64 t.1, .int .i64 t.2.1, .string (bs t.2.2)] 56))) hbd t)
  have cc := h.c19
  have c2 := cc.2.2.1
  have ca := cc.2.2.2.2.2.2.2.2.2.2.2.2.2.2.2.2.1
  have ct := cc.2.2.2.2.2.2.2.2.2.2.2.2.2.2.2.2.2.1
  have bw : B < w.heap.size := (Array.getElem?_eq_some_iff.1 h.box).1
  obtain ⟨res, hres⟩ : ∃ z, beM n (skOf rows) wh t = z := ⟨_, rfl⟩
  rw [hres] at BE ⊢
  clear hres
  obtain ⟨k, i, s⟩ := t
  simp only at hk
  subst hk
  rw [hw] at ct
  unfold tokV at *
  simp only at BE ⊢
  clear h cc hbd
  go_enter Tryd.func59, Tryd.ntmps59
  go_wp2_with fail
  refine BE.out.mono ?_
  rintro e w2 ⟨r1, r2, rfl, hrp, tk⟩
  have HRP := Lib.hid hrp
  have HTK := Lib.hid ((TokK.kp (Kp.alloc _ _)).trans tk)
  clear hrp tk
  go_wp2
  go_ret2
  exact ⟨r1, r2, rfl, HRP.out, HTK.out⟩
set_option maxHeartbeats 16000000 in
set_option maxRecDepth 100000 in
theorem bp_t7 {w0 w : World} {B n : Nat} {vl : Value} {rows : List (Value × List NV)} {st : ND} {vs : Value} {wh : ND} {vw : Value} (h : PM w0 w B n vl rows true st vs wh vw) (hbd : Bd 1 n rows) (t : Tk) (hk : t.1 = 7) (hw : wh.a = true) : Calls Tryd.prog 59 #[.pointer (some ⟨B, 0, none⟩), tokV t] w fun e w' => ∃ r1 r2 : Value, e = .returned (.tuple #[r1, r2]) ∧ RP w0 B (beM n (skOf rows) (btN st wh) t) r1 r2 w' ∧ TokK w w' := by
  have BE := Lib.hid (bs_any (h.go (Kp.alloc w (.cells #[.int .i64 t.1, .int .i64 t.2.1, .string (bs t.2.2)] 56))) hbd t)
  have cc := h.c19
  have c2 := cc.2.2.1
  have ca := cc.2.2.2.2.2.2.2.2.2.2.2.2.2.2.2.2.1
  have ct := cc.2.2.2.2.2.2.2.2.2.2.2.2.2.2.2.2.2.1
  have bw : B < w.heap.size := (Array.getElem?_eq_some_iff.1 h.box).1
  obtain ⟨res, hres⟩ : ∃ z, beM n (skOf rows) (btN st wh) t = z := ⟨_, rfl⟩
  rw [hres] at BE ⊢
  clear hres
  obtain ⟨k, i, s⟩ := t
  simp only at hk
  subst hk
  rw [hw] at ca
  unfold tokV at *
  simp only at BE ⊢
  clear h cc hbd
  go_enter Tryd.func59, Tryd.ntmps59
  go_wp2_with fail
  refine BE.out.mono ?_
  rintro e w2 ⟨r1, r2, rfl, hrp, tk⟩
  have HRP := Lib.hid hrp
  have HTK := Lib.hid ((TokK.kp (Kp.alloc _ _)).trans tk)
  clear hrp tk
  go_wp2
  go_ret2
  exact ⟨r1, r2, rfl, HRP.out, HTK.out⟩
set_option maxHeartbeats 16000000 in
set_option maxRecDepth 100000 in
theorem bp_t8 {w0 w : World} {B n : Nat} {vl : Value} {rows : List (Value × List NV)} {st : ND} {vs : Value} {wh : ND} {vw : Value} (h : PM w0 w B n vl rows true st vs wh vw) (hbd : Bd 1 n rows) (t : Tk) (hk : t.1 = 8) (hw : wh.t = true) : Calls Tryd.prog 59 #[.pointer (some ⟨B, 0, none⟩), tokV t] w fun e w' => ∃ r1 r2 : Value, e = .returned (.tuple #[r1, r2]) ∧ RP w0 B (beM n (skOf rows) (btN st wh) t) r1 r2 w' ∧ TokK w w' := by
  have BE := Lib.hid (bs_any (h.go (Kp.alloc w (.cells #[.int .i64 t.1, .int .i64 t.2.1, .string (bs t.2.2)] 56))) hbd t)
  have cc := h.c19
  have c2 := cc.2.2.1
  have ca := cc.2.2.2.2.2.2.2.2.2.2.2.2.2.2.2.2.1
  have ct := cc.2.2.2.2.2.2.2.2.2.2.2.2.2.2.2.2.2.1
  have bw : B < w.heap.size := (Array.getElem?_eq_some_iff.1 h.box).1
  obtain ⟨res, hres⟩ : ∃ z, beM n (skOf rows) (btN st wh) t = z := ⟨_, rfl⟩
  rw [hres] at BE ⊢
  clear hres
  obtain ⟨k, i, s⟩ := t
  simp only at hk
  subst hk
  rw [hw] at ct
  unfold tokV at *
  simp only at BE ⊢
  clear h cc hbd
  go_enter Tryd.func59, Tryd.ntmps59
  go_wp2_with fail
  refine BE.out.mono ?_
  rintro e w2 ⟨r1, r2, rfl, hrp, tk⟩
  have HRP := Lib.hid hrp
  have HTK := Lib.hid ((TokK.kp (Kp.alloc _ _)).trans tk)
  clear hrp tk
  go_wp2
  go_ret2
  exact ⟨r1, r2, rfl, HRP.out, HTK.out⟩
set_option maxHeartbeats 16000000 in
set_option maxRecDepth 100000 in
theorem bp_fx {w0 w : World} {B n : Nat} {vl : Value} {rows : List (Value × List NV)} {st : ND} {vs : Value} {wh : ND} {vw : Value} (h : PM w0 w B n vl rows false st vs wh vw) (hbd : Bd 1 n rows) (t : Tk) (hk : ¬ t.1 = 7 ∧ ¬ t.1 = 8 ∧ ¬ t.1 = 1) : Calls Tryd.prog 59 #[.pointer (some ⟨B, 0, none⟩), tokV t] w fun e w' => ∃ r1 r2 : Value, e = .returned (.tuple #[r1, r2]) ∧ RP w0 B (beM n (skOf rows) wh t) r1 r2 w' ∧ TokK w w' := by
  have BE := Lib.hid (be_any (h.go (Kp.alloc w (.cells #[.int .i64 t.1, .int .i64 t.2.1, .string (bs t.2.2)] 56))) hbd t)
  have cc := h.c19
  have c2 := cc.2.2.1
  have ca := cc.2.2.2.2.2.2.2.2.2.2.2.2.2.2.2.2.1
  have ct := cc.2.2.2.2.2.2.2.2.2.2.2.2.2.2.2.2.2.1
  have bw : B < w.heap.size := (Array.getElem?_eq_some_iff.1 h.box).1
  obtain ⟨res, hres⟩ : ∃ z, beM n (skOf rows) wh t = z := ⟨_, rfl⟩
  rw [hres] at BE ⊢
  clear hres
  obtain ⟨k, i, s⟩ := t
  simp only at hk
  have q1 : (k == 7) = false := beq_eq_false_iff_ne.2 hk.1
  have q2 : (k == 8) = false := beq_eq_false_iff_ne.2 hk.2.1
  have q3 : (k == 1) = false := beq_eq_false_iff_ne.2 hk.2.2
  clear hk
  unfold tokV at *
  simp only at BE ⊢
  clear h cc hbd
  go_enter Tryd.func59, Tryd.ntmps59
  go_wp2_with fail
  refine BE.out.mono ?_
  rintro e w2 ⟨r1, r2, rfl, hrp, tk⟩
  have HRP := Lib.hid hrp
  have HTK := Lib.hid ((TokK.kp (Kp.alloc _ _)).trans tk)
  clear hrp tk
  go_wp2
  go_ret2
  exact ⟨r1, r2, rfl, HRP.out, HTK.out⟩
set_option maxHeartbeats 16000000 in
set_option maxRecDepth 100000 in
theorem bp_tx {w0 w : World} {B n : Nat} {vl : Value} {rows : List (Value × List NV)} {st : ND} {vs : Value} {wh : ND} {vw : Value} (h : PM w0 w B n vl rows true st vs wh vw) (hbd : Bd 1 n rows) (t : Tk) (hk : ¬ t.1 = 7 ∧ ¬ t.1 = 8) : Calls Tryd.prog 59 #[.pointer (some ⟨B, 0, none⟩), tokV t] w fun e w' => ∃ r1 r2 : Value, e = .returned (.tuple #[r1, r2]) ∧ RP w0 B (beM n (skOf rows) (btN st wh) t) r1 r2 w' ∧ TokK w w' := by
  have BE := Lib.hid (bs_any (h.go (Kp.alloc w (.cells #[.int .i64 t.1, .int .i64 t.2.1, .string (bs t.2.2)] 56))) hbd t)
  have cc := h.c19
  have c2 := cc.2.2.1
  have ca := cc.2.2.2.2.2.2.2.2.2.2.2.2.2.2.2.2.1
  have ct := cc.2.2.2.2.2.2.2.2.2.2.2.2.2.2.2.2.2.1
  have bw : B < w.heap.size := (Array.getElem?_eq_some_iff.1 h.box).1
  obtain ⟨res, hres⟩ : ∃ z, beM n (skOf rows) (btN st wh) t = z := ⟨_, rfl⟩
  rw [hres] at BE ⊢
  clear hres
  obtain ⟨k, i, s⟩ := t
  simp only at hk
  have q1 : (k == 7) = false := beq_eq_false_iff_ne.2 hk.1
  have q2 : (k == 8) = false := beq_eq_false_iff_ne.2 hk.2
  clear hk
  unfold tokV at *
  simp only at BE ⊢
  clear h cc hbd
  go_enter Tryd.func59, Tryd.ntmps59
  go_wp2_with fail
  refine BE.out.mono ?_
  rintro e w2 ⟨r1, r2, rfl, hrp, tk⟩
  have HRP := Lib.hid hrp
  have HTK := Lib.hid ((TokK.kp (Kp.alloc _ _)).trans tk)
  clear hrp tk
  go_wp2
  go_ret2
  exact ⟨r1, r2, rfl, HRP.out, HTK.out⟩
set_option maxHeartbeats 16000000 in
set_option maxRecDepth 100000 in
theorem bp_fs {w0 w : World} {B n : Nat} {vl : Value} {rows : List (Value × List NV)} {st : ND} {vs : Value} {wh : ND} {vw : Value} (h : PM w0 w B n vl rows false st vs wh vw) (hbd : Bd 1 n rows) (t : Tk) (hk : t.1 = 1) : Calls Tryd.prog 59 #[.pointer (some ⟨B, 0, none⟩), tokV t] w fun e w' => ∃ r1 r2 : Value, e = .returned (.tuple #[r1, r2]) ∧ RP w0 B (slM n (skOf rows) wh t) r1 r2 w' ∧ TokK w w' := by
  have BE := Lib.hid (slash_any (h.go (Kp.alloc w (.cells #[.int .i64 t.1, .int .i64 t.2.1, .string (bs t.2.2)] 56))) hbd t)
  have cc := h.c19
  have c2 := cc.2.2.1
  have ca := cc.2.2.2.2.2.2.2.2.2.2.2.2.2.2.2.2.1
  have ct := cc.2.2.2.2.2.2.2.2.2.2.2.2.2.2.2.2.2.1
  have bw : B < w.heap.size := (Array.getElem?_eq_some_iff.1 h.box).1
  obtain ⟨res, hres⟩ : ∃ z, slM n (skOf rows) wh t = z := ⟨_, rfl⟩
  rw [hres] at BE ⊢
  clear hres
  obtain ⟨k, i, s⟩ := t
  simp only at hk
  subst hk
  unfold tokV at *
  simp only at BE ⊢
  clear h cc hbd
  go_enter Tryd.func59, Tryd.ntmps59
  go_wp2_with fail
  refine BE.out.mono ?_
  rintro e w2 ⟨r1, r2, rfl, hrp, tk⟩
  have HRP := Lib.hid hrp
  have HTK := Lib.hid ((TokK.kp (Kp.alloc _ _)).trans tk)
  clear hrp tk
  go_wp2
  go_ret2
  exact ⟨r1, r2, rfl, HRP.out, HTK.out⟩
theorem bp_one {w0 w : World} {B n : Nat} {vl : Value} {rows : List (Value × List NV)} {st : ND} {vs : Value} {wh : ND} {vw : Value} (h : PM w0 w B n vl rows false st vs wh vw) (hbd : Bd 1 n rows) (t : Tk) : Calls Tryd.prog 59 #[.pointer (some ⟨B, 0, none⟩), tokV t] w fun e w' => ∃ r1 r2 : Value, e = .returned (.tuple #[r1, r2]) ∧ RP w0 B (b1M n (skOf rows) wh t) r1 r2 w' ∧ TokK w w' := by
  unfold b1M
  by_cases c1 : t.1 = 7 ∧ wh.a = false
  · rw [if_pos c1]
    exact bp_fa h hbd t c1.1 c1.2
  · rw [if_neg c1]
    by_cases c2 : t.1 = 8 ∧ wh.t = false
    · rw [if_pos c2]
      exact bp_ft h hbd t c2.1 c2.2
    · rw [if_neg c2]
      by_cases c3 : t.1 = 1
      · rw [if_pos c3]
        exact bp_fs h hbd t c3
      · rw [if_neg c3]
        by_cases c7 : t.1 = 7
        · exact bp_f7 h hbd t c7 (by simpa [c7] using c1)
        · by_cases c8 : t.1 = 8
          · exact bp_f8 h hbd t c8 (by simpa [c8] using c2)
          · exact bp_fx h hbd t ⟨c7, c8, c3⟩
theorem bp_two {w0 w : World} {B n : Nat} {vl : Value} {rows : List (Value × List NV)} {st : ND} {vs : Value} {wh : ND} {vw : Value} (h : PM w0 w B n vl rows true st vs wh vw) (hbd : Bd 1 n rows) (t : Tk) : Calls Tryd.prog 59 #[.pointer (some ⟨B, 0, none⟩), tokV t] w fun e w' => ∃ r1 r2 : Value, e = .returned (.tuple #[r1, r2]) ∧ RP w0 B (b2M n (skOf rows) st wh t) r1 r2 w' ∧ TokK w w' := by
  unfold b2M
  by_cases c1 : t.1 = 7 ∧ wh.a = false
  · rw [if_pos c1]
    exact bp_ta h hbd t c1.1 c1.2
  · rw [if_neg c1]
    by_cases c2 : t.1 = 8 ∧ wh.t = false
    · rw [if_pos c2]
      exact bp_tt h hbd t c2.1 c2.2
    · rw [if_neg c2]
      by_cases c7 : t.1 = 7
      · exact bp_t7 h hbd t c7 (by simpa [c7] using c1)
      · by_cases c8 : t.1 = 8
        · exact bp_t8 h hbd t c8 (by simpa [c8] using c2)
        · exact bp_tx h hbd t ⟨c7, c8⟩
end Go.Proofs.YtndmohamjffpcaaDoor

namespace Go.Proofs.YtndmohamjffpcaaDoor
open Go.RowKit Go.Shelf
set_option linter.unusedVariables false
set_option linter.unusedSimpArgs false
/-- the end that a token tells -/
def efM (n : Nat) (sk : List (List ND)) (o : Option ND) (t : Tk) : Res :=
  if t.1 = 0 then
    if (readP (bs t.2.2)).2 = true then .go (match o with | none => .b1 n sk (.mk 0 (readP (bs t.2.2)).1 false false []) | some st => .b2 n sk st (.mk 0 (readP (bs t.2.2)).1 false false []))
    else .er 2
  else .go (match o with | none => .sl n sk (if t.1 = 2 then nOpen else nUnk) | some st => .bs n sk st (if t.1 = 2 then nOpen else nUnk))
theorem endM_ef (n : Nat) (sk : List (List ND)) (o : Option ND) (t : Tk) : endM n sk o t = (if t.1 = 0 ∨ t.1 = 2 ∨ t.1 = 3 then (if n = 64 then .er 6 else efM (n + 1) sk o t) else .er (misM t)) := rfl
set_option maxHeartbeats 16000000 in
set_option maxRecDepth 100000 in
theorem ef_f2 {w0 w : World} {B n : Nat} {vl : Value} {rows : List (Value × List NV)} {st : ND} {vs : Value} {wh : ND} {vw : Value} (h : PM w0 w B n vl rows false st vs wh vw) (hbd : Bd 1 n rows) (t : Tk) (c : t.1 = 2) : Calls Tryd.prog 49 #[.pointer (some ⟨B, 0, none⟩), tokV t] w fun e w' => ∃ r1 r2 : Value, e = .returned (.tuple #[r1, r2]) ∧ RP w0 B (.go (.sl n (skOf rows) nOpen)) r1 r2 w' ∧ TokK w w' := by
  have hmf : ∀ (fn : Fn) (first cap : Array Value) (w : World), (Instr.makeFunc fn first cap).run Tryd.prog w = .ok (.func fn first cap) w := fun _ _ _ _ => rfl
  have cc := h.c19
  have c2 := cc.2.2.1
  have PF := Lib.hid ((h.sets 11 [.int .i64 3, .int .i64 0, .string ⟨#[]⟩, .string ⟨#[]⟩, .string ⟨#[]⟩, .bool false, .bool false, .slice none 0 0] (n' := n) (ie' := false) (st' := st) (vs' := vs) (wh' := nOpen) (vw' := .slice none 0 0) (by kernel_rfl) (Fnd.nil _ _ _) h.fs).go (Kp.alloc _ (.cells #[.int .i64 2, .int .i64 t.2.1, .string (bs t.2.2)] 56)))
  have TKM := Lib.hid ((h.tok 11 [.int .i64 3, .int .i64 0, .string ⟨#[]⟩, .string ⟨#[]⟩, .string ⟨#[]⟩, .bool false, .bool false, .slice none 0 0]).trans (TokK.kp (Kp.alloc _ (.cells #[.int .i64 2, .int .i64 t.2.1, .string (bs t.2.2)] 56))))
  have HBD := Lib.hid hbd
  have f11 := h.frz 11
  have f12 := h.frz 12
  have f13 := h.frz 13
  have f14 := h.frz 14
  have f15 := h.frz 15
  have f16 := h.frz 16
  have f17 := h.frz 17
  have f18 := h.frz 18
  have bw : B < w.heap.size := (Array.getElem?_eq_some_iff.1 h.box).1
  obtain ⟨x0, x1, x2, x3, x4, x5, x6, x7, x8, x9, x10, x11, x12, x13, x14, x15, x16, x17, x18⟩ := cc
  clear x0 x1 x2 x3 x4 x5 x6 x7 x8 x9 x10
  obtain ⟨k, i, s⟩ := t
  simp only at c
  subst c
  unfold tokV
  simp only at PF TKM ⊢
  clear h hbd
  go_enter Tryd.func49, Tryd.ntmps49
  go_wp2
  go_ret2
  exact ⟨_, _, rfl, ⟨rfl, rfl, _, _, _, _, _, _, rfl, HBD.out, PF.out⟩, TKM.out⟩
set_option maxHeartbeats 16000000 in
set_option maxRecDepth 100000 in
theorem ef_f3 {w0 w : World} {B n : Nat} {vl : Value} {rows : List (Value × List NV)} {st : ND} {vs : Value} {wh : ND} {vw : Value} (h : PM w0 w B n vl rows false st vs wh vw) (hbd : Bd 1 n rows) (t : Tk) (c : t.1 = 3) : Calls Tryd.prog 49 #[.pointer (some ⟨B, 0, none⟩), tokV t] w fun e w' => ∃ r1 r2 : Value, e = .returned (.tuple #[r1, r2]) ∧ RP w0 B (.go (.sl n (skOf rows) nUnk)) r1 r2 w' ∧ TokK w w' := by
  have hmf : ∀ (fn : Fn) (first cap : Array Value) (w : World), (Instr.makeFunc fn first cap).run Tryd.prog w = .ok (.func fn first cap) w := fun _ _ _ _ => rfl
  have cc := h.c19
  have c2 := cc.2.2.1
  have PF := Lib.hid ((h.sets 11 [.int .i64 4, .int .i64 0, .string ⟨#[]⟩, .string ⟨#[]⟩, .string ⟨#[]⟩, .bool false, .bool false, .slice none 0 0] (n' := n) (ie' := false) (st' := st) (vs' := vs) (wh' := nUnk) (vw' := .slice none 0 0) (by kernel_rfl) (Fnd.nil _ _ _) h.fs).go (Kp.alloc _ (.cells #[.int .i64 3, .int .i64 t.2.1, .string (bs t.2.2)] 56)))
  have TKM := Lib.hid ((h.tok 11 [.int .i64 4, .int .i64 0, .string ⟨#[]⟩, .string ⟨#[]⟩, .string ⟨#[]⟩, .bool false, .bool false, .slice none 0 0]).trans (TokK.kp (Kp.alloc _ (.cells #[.int .i64 3, .int .i64 t.2.1, .string (bs t.2.2)] 56))))
  have HBD := Lib.hid hbd
  have f11 := h.frz 11
  have f12 := h.frz 12
  have f13 := h.frz 13
  have f14 := h.frz 14
  have f15 := h.frz 15
  have f16 := h.frz 16
  have f17 := h.frz 17
  have f18 := h.frz 18
  have bw : B < w.heap.size := (Array.getElem?_eq_some_iff.1 h.box).1
  obtain ⟨x0, x1, x2, x3, x4, x5, x6, x7, x8, x9, x10, x11, x12, x13, x14, x15, x16, x17, x18⟩ := cc
  clear x0 x1 x2 x3 x4 x5 x6 x7 x8 x9 x10
  obtain ⟨k, i, s⟩ := t
  simp only at c
  subst c
  unfold tokV
  simp only at PF TKM ⊢
  clear h hbd
  go_enter Tryd.func49, Tryd.ntmps49
  go_wp2
  go_ret2
  exact ⟨_, _, rfl, ⟨rfl, rfl, _, _, _, _, _, _, rfl, HBD.out, PF.out⟩, TKM.out⟩
set_option maxHeartbeats 16000000 in
set_option maxRecDepth 100000 in
theorem ef_f0y {w0 w : World} {B n : Nat} {vl : Value} {rows : List (Value × List NV)} {st : ND} {vs : Value} {wh : ND} {vw : Value} (h : PM w0 w B n vl rows false st vs wh vw) (hbd : Bd 1 n rows) (t : Tk) (c : t.1 = 0) (hs : (bs t.2.2).size ≤ 3000) (T : TabSH w0) (hok : (readP (bs t.2.2)).2 = true) : Calls Tryd.prog 49 #[.pointer (some ⟨B, 0, none⟩), tokV t] w fun e w' => ∃ r1 r2 : Value, e = .returned (.tuple #[r1, r2]) ∧ RP w0 B (.go (.b1 n (skOf rows) (.mk 0 (readP (bs t.2.2)).1 false false []))) r1 r2 w' ∧ TokK w w' := by
  have hmf : ∀ (fn : Fn) (first cap : Array Value) (w : World), (Instr.makeFunc fn first cap).run Tryd.prog w = .ok (.func fn first cap) w := fun _ _ _ _ => rfl
  have RD := fun w1 (kk : Kp w w1) => ptRead_any (bs t.2.2) w1 hs (T.kp (h.kp.trans kk))
  have TO := Lib.hid (fun w1 => of_node_any (readP (bs t.2.2)).1 false false w1)
  rw [hok] at RD
  have RDH := Lib.hid RD
  have HH := Lib.hid h
  have HBD := Lib.hid hbd
  clear RD hok hs T hbd
  generalize (readP (bs t.2.2)).1 = pp at *
  obtain ⟨kp, yp, mp, dp⟩ := pp
  unfold ptV at *
  unfold ndV at TO
  simp only [ND.k, ND.p, ND.a, ND.t] at RDH TO
  obtain ⟨k, i, s⟩ := t
  simp only at c RDH
  subst c
  unfold tokV
  simp only
  clear h
  go_enter Tryd.func49, Tryd.ntmps49
  go_wp2_with fail
  refine (RDH.out _ (Kp.alloc _ _)).mono ?_
  rintro e w2 ⟨rfl, kk⟩
  have K2 := Lib.hid ((Kp.alloc _ _).trans kk)
  clear kk
  go_wp2_with fail
  refine (TO.out _).mono ?_
  rintro e w3 ⟨rfl, kk⟩
  have k3 := K2.out.trans ((Kp.alloc w2 (.cells #[.int .i64 kp, .string yp, .string mp, .string dp] 23)).trans kk)
  have h1 := HH.out.go k3
  have PF := Lib.hid (h1.sets 11 [.int .i64 0, .int .i64 kp, .string yp, .string mp, .string dp, .bool false, .bool false, .slice none 0 0] (n' := n) (ie' := false) (st' := st) (vs' := vs) (wh' := .mk 0 ⟨kp, yp, mp, dp⟩ false false []) (vw' := .slice none 0 0) (by kernel_rfl) (Fnd.nil _ _ _) h1.fs)
  have TKM := Lib.hid ((TokK.kp k3).trans (h1.tok 11 [.int .i64 0, .int .i64 kp, .string yp, .string mp, .string dp, .bool false, .bool false, .slice none 0 0]))
  obtain ⟨x0, x1, x2, x3, x4, x5, x6, x7, x8, x9, x10, x11, x12, x13, x14, x15, x16, x17, x18⟩ := h1.c19
  clear x0 x1 x2 x3 x4 x5 x6 x7 x8 x9 x10
  have f11 := h1.frz 11
  have f12 := h1.frz 12
  have f13 := h1.frz 13
  have f14 := h1.frz 14
  have f15 := h1.frz 15
  have f16 := h1.frz 16
  have f17 := h1.frz 17
  have f18 := h1.frz 18
  clear k3 kk h1
  go_wp2
  go_ret2
  exact ⟨_, _, rfl, ⟨rfl, rfl, _, _, _, _, _, rfl, HBD.out, PF.out⟩, TKM.out⟩
set_option maxHeartbeats 16000000 in
set_option maxRecDepth 100000 in
theorem ef_f0n {w0 w : World} {B n : Nat} {vl : Value} {rows : List (Value × List NV)} {st : ND} {vs : Value} {wh : ND} {vw : Value} (h : PM w0 w B n vl rows false st vs wh vw) (hbd : Bd 1 n rows) (t : Tk) (c : t.1 = 0) (hs : (bs t.2.2).size ≤ 3000) (T : TabSH w0) (hok : (readP (bs t.2.2)).2 = false) : Calls Tryd.prog 49 #[.pointer (some ⟨B, 0, none⟩), tokV t] w fun e w' => ∃ r1 r2 : Value, e = .returned (.tuple #[r1, r2]) ∧ RP w0 B (.er 2) r1 r2 w' ∧ TokK w w' := by
  have hmf : ∀ (fn : Fn) (first cap : Array Value) (w : World), (Instr.makeFunc fn first cap).run Tryd.prog w = .ok (.func fn first cap) w := fun _ _ _ _ => rfl
  have RD := fun w1 (kk : Kp w w1) => ptRead_any (bs t.2.2) w1 hs (T.kp (h.kp.trans kk))
  have TO := Lib.hid (fun w1 => of_node_any (readP (bs t.2.2)).1 false false w1)
  rw [hok] at RD
  have RDH := Lib.hid RD
  have HH := Lib.hid h
  have HBD := Lib.hid hbd
  clear RD hok hs T hbd
  generalize (readP (bs t.2.2)).1 = pp at *
  obtain ⟨kp, yp, mp, dp⟩ := pp
  unfold ptV at *
  unfold ndV at TO
  simp only [ND.k, ND.p, ND.a, ND.t] at RDH TO
  obtain ⟨k, i, s⟩ := t
  simp only at c RDH
  subst c
  unfold tokV
  simp only
  clear h
  go_enter Tryd.func49, Tryd.ntmps49
  go_wp2_with fail
  refine (RDH.out _ (Kp.alloc _ _)).mono ?_
  rintro e w2 ⟨rfl, kk⟩
  have K2 := Lib.hid ((Kp.alloc _ _).trans kk)
  clear kk
  go_wp2
  go_ret2
  exact ⟨_, _, rfl, ⟨rfl, HH.out.kp.trans (K2.out.trans (Kp.alloc _ _))⟩, TokK.kp (K2.out.trans (Kp.alloc _ _))⟩
theorem ef_any_f {w0 w : World} {B n : Nat} {vl : Value} {rows : List (Value × List NV)} {st : ND} {vs : Value} {wh : ND} {vw : Value} (h : PM w0 w B n vl rows false st vs wh vw) (hbd : Bd 1 n rows) (t : Tk) (c : t.1 = 0 ∨ t.1 = 2 ∨ t.1 = 3) (hs : (bs t.2.2).size ≤ 3000) (T : TabSH w0) : Calls Tryd.prog 49 #[.pointer (some ⟨B, 0, none⟩), tokV t] w fun e w' => ∃ r1 r2 : Value, e = .returned (.tuple #[r1, r2]) ∧ RP w0 B (efM n (skOf rows) none t) r1 r2 w' ∧ TokK w w' := by
  unfold efM
  by_cases c0 : t.1 = 0
  · rw [if_pos c0]
    by_cases cr : (readP (bs t.2.2)).2 = true
    · rw [if_pos cr]
      exact ef_f0y h hbd t c0 hs T cr
    · rw [if_neg cr]
      exact ef_f0n h hbd t c0 hs T (by simpa using cr)
  · rw [if_neg c0]
    by_cases c2 : t.1 = 2
    · rw [if_pos c2]
      exact ef_f2 h hbd t c2
    · rw [if_neg c2]
      exact ef_f3 h hbd t (by omega)
set_option maxHeartbeats 16000000 in
set_option maxRecDepth 100000 in
theorem ef_t2 {w0 w : World} {B n : Nat} {vl : Value} {rows : List (Value × List NV)} {st : ND} {vs : Value} {wh : ND} {vw : Value} (h : PM w0 w B n vl rows true st vs wh vw) (hbd : Bd 1 n rows) (t : Tk) (c : t.1 = 2) : Calls Tryd.prog 49 #[.pointer (some ⟨B, 0, none⟩), tokV t] w fun e w' => ∃ r1 r2 : Value, e = .returned (.tuple #[r1, r2]) ∧ RP w0 B (.go (.bs n (skOf rows) st nOpen)) r1 r2 w' ∧ TokK w w' := by
  have hmf : ∀ (fn : Fn) (first cap : Array Value) (w : World), (Instr.makeFunc fn first cap).run Tryd.prog w = .ok (.func fn first cap) w := fun _ _ _ _ => rfl
  have cc := h.c19
  have c2 := cc.2.2.1
  have PF := Lib.hid ((h.sets 11 [.int .i64 3, .int .i64 0, .string ⟨#[]⟩, .string ⟨#[]⟩, .string ⟨#[]⟩, .bool false, .bool false, .slice none 0 0] (n' := n) (ie' := true) (st' := st) (vs' := vs) (wh' := nOpen) (vw' := .slice none 0 0) (by kernel_rfl) (Fnd.nil _ _ _) h.fs).go (Kp.alloc _ (.cells #[.int .i64 2, .int .i64 t.2.1, .string (bs t.2.2)] 56)))
  have TKM := Lib.hid ((h.tok 11 [.int .i64 3, .int .i64 0, .string ⟨#[]⟩, .string ⟨#[]⟩, .string ⟨#[]⟩, .bool false, .bool false, .slice none 0 0]).trans (TokK.kp (Kp.alloc _ (.cells #[.int .i64 2, .int .i64 t.2.1, .string (bs t.2.2)] 56))))
  have HBD := Lib.hid hbd
  have f11 := h.frz 11
  have f12 := h.frz 12
  have f13 := h.frz 13
  have f14 := h.frz 14
  have f15 := h.frz 15
  have f16 := h.frz 16
  have f17 := h.frz 17
  have f18 := h.frz 18
  have bw : B < w.heap.size := (Array.getElem?_eq_some_iff.1 h.box).1
  obtain ⟨x0, x1, x2, x3, x4, x5, x6, x7, x8, x9, x10, x11, x12, x13, x14, x15, x16, x17, x18⟩ := cc
  clear x0 x1 x2 x3 x4 x5 x6 x7 x8 x9 x10
  obtain ⟨k, i, s⟩ := t
  simp only at c
  subst c
  unfold tokV
  simp only at PF TKM ⊢
  clear h hbd
  go_enter Tryd.func49, Tryd.ntmps49
  go_wp2
  go_ret2
  exact ⟨_, _, rfl, ⟨rfl, rfl, _, _, _, _, _, rfl, HBD.out, PF.out⟩, TKM.out⟩
set_option maxHeartbeats 16000000 in
set_option maxRecDepth 100000 in
theorem ef_t3 {w0 w : World} {B n : Nat} {vl : Value} {rows : List (Value × List NV)} {st : ND} {vs : Value} {wh : ND} {vw : Value} (h : PM w0 w B n vl rows true st vs wh vw) (hbd : Bd 1 n rows) (t : Tk) (c : t.1 = 3) : Calls Tryd.prog 49 #[.pointer (some ⟨B, 0, none⟩), tokV t] w fun e w' => ∃ r1 r2 : Value, e = .returned (.tuple #[r1, r2]) ∧ RP w0 B (.go (.bs n (skOf rows) st nUnk)) r1 r2 w' ∧ TokK w w' := by
  have hmf : ∀ (fn : Fn) (first cap : Array Value) (w : World), (Instr.makeFunc fn first cap).run Tryd.prog w = .ok (.func fn first cap) w := fun _ _ _ _ => rfl
  have cc := h.c19
  have c2 := cc.2.2.1
  have PF := Lib.hid ((h.sets 11 [.int .i64 4, .int .i64 0, .string ⟨#[]⟩, .string ⟨#[]⟩, .string ⟨#[]⟩, .bool false, .bool false, .slice none 0 0] (n' := n) (ie' := true) (st' := st) (vs' := vs) (wh' := nUnk) (vw' := .slice none 0 0) (by kernel_rfl) (Fnd.nil _ _ _) h.fs).go (Kp.alloc _ (.cells #[.int .i64 3, .int .i64 t.2.1, .string (bs t.2.2)] 56)))
  have TKM := Lib.hid ((h.tok 11 [.int .i64 4, .int .i64 0, .string ⟨#[]⟩, .string ⟨#[]⟩, .string ⟨#[]⟩, .bool false, .bool false, .slice none 0 0]).trans (TokK.kp (Kp.alloc _ (.cells #[.int .i64 3, .int .i64 t.2.1, .string (bs t.2.2)] 56))))
  have HBD := Lib.hid hbd
  have f11 := h.frz 11
  have f12 := h.frz 12
  have f13 := h.frz 13
  have f14 := h.frz 14
  have f15 := h.frz 15
  have f16 := h.frz 16
  have f17 := h.frz 17
  have f18 := h.frz 18
  have bw : B < w.heap.size := (Array.getElem?_eq_some_iff.1 h.box).1
  obtain ⟨x0, x1, x2, x3, x4, x5, x6, x7, x8, x9, x10, x11, x12, x13, x14, x15, x16, x17, x18⟩ := cc
  clear x0 x1 x2 x3 x4 x5 x6 x7 x8 x9 x10
  obtain ⟨k, i, s⟩ := t
  simp only at c
  subst c
  unfold tokV
  simp only at PF TKM ⊢
  clear h hbd
  go_enter Tryd.func49, Tryd.ntmps49
  go_wp2
  go_ret2
  exact ⟨_, _, rfl, ⟨rfl, rfl, _, _, _, _, _, rfl, HBD.out, PF.out⟩, TKM.out⟩
set_option maxHeartbeats 16000000 in
set_option maxRecDepth 100000 in
theorem ef_t0y {w0 w : World} {B n : Nat} {vl : Value} {rows : List (Value × List NV)} {st : ND} {vs : Value} {wh : ND} {vw : Value} (h : PM w0 w B n vl rows true st vs wh vw) (hbd : Bd 1 n rows) (t : Tk) (c : t.1 = 0) (hs : (bs t.2.2).size ≤ 3000) (T : TabSH w0) (hok : (readP (bs t.2.2)).2 = true) : Calls Tryd.prog 49 #[.pointer (some ⟨B, 0, none⟩), tokV t] w fun e w' => ∃ r1 r2 : Value, e = .returned (.tuple #[r1, r2]) ∧ RP w0 B (.go (.b2 n (skOf rows) st (.mk 0 (readP (bs t.2.2)).1 false false []))) r1 r2 w' ∧ TokK w w' := by
  have hmf : ∀ (fn : Fn) (first cap : Array Value) (w : World), (Instr.makeFunc fn first cap).run Tryd.prog w = .ok (.func fn first cap) w := fun _ _ _ _ => rfl
  have RD := fun w1 (kk : Kp w w1) => ptRead_any (bs t.2.2) w1 hs (T.kp (h.kp.trans kk))
  have TO := Lib.hid (fun w1 => of_node_any (readP (bs t.2.2)).1 false false w1)
  rw [hok] at RD
  have RDH := Lib.hid RD
  have HH := Lib.hid h
  have HBD := Lib.hid hbd
  clear RD hok hs T hbd
  generalize (readP (bs t.2.2)).1 = pp at *
  obtain ⟨kp, yp, mp, dp⟩ := pp
  unfold ptV at *
  unfold ndV at TO
  simp only [ND.k, ND.p, ND.a, ND.t] at RDH TO
  obtain ⟨k, i, s⟩ := t
  simp only at c RDH
  subst c
  unfold tokV
  simp only
  clear h
  go_enter Tryd.func49, Tryd.ntmps49
  go_wp2_with fail
  refine (RDH.out _ (Kp.alloc _ _)).mono ?_
  rintro e w2 ⟨rfl, kk⟩
  have K2 := Lib.hid ((Kp.alloc _ _).trans kk)
  clear kk
  go_wp2_with fail
  refine (TO.out _).mono ?_
  rintro e w3 ⟨rfl, kk⟩
  have k3 := K2.out.trans ((Kp.alloc w2 (.cells #[.int .i64 kp, .string yp, .string mp, .string dp] 23)).trans kk)
  have h1 := HH.out.go k3
  have PF := Lib.hid (h1.sets 11 [.int .i64 0, .int .i64 kp, .string yp, .string mp, .string dp, .bool false, .bool false, .slice none 0 0] (n' := n) (ie' := true) (st' := st) (vs' := vs) (wh' := .mk 0 ⟨kp, yp, mp, dp⟩ false false []) (vw' := .slice none 0 0) (by kernel_rfl) (Fnd.nil _ _ _) h1.fs)
  have TKM := Lib.hid ((TokK.kp k3).trans (h1.tok 11 [.int .i64 0, .int .i64 kp, .string yp, .string mp, .string dp, .bool false, .bool false, .slice none 0 0]))
  obtain ⟨x0, x1, x2, x3, x4, x5, x6, x7, x8, x9, x10, x11, x12, x13, x14, x15, x16, x17, x18⟩ := h1.c19
  clear x0 x1 x2 x3 x4 x5 x6 x7 x8 x9 x10
  have f11 := h1.frz 11
  have f12 := h1.frz 12
  have f13 := h1.frz 13
  have f14 := h1.frz 14
  have f15 := h1.frz 15
  have f16 := h1.frz 16
  have f17 := h1.frz 17
  have f18 := h1.frz 18
  clear k3 kk h1
  go_wp2
  go_ret2
  exact ⟨_, _, rfl, ⟨rfl, rfl, _, _, _, _, rfl, HBD.out, PF.out⟩, TKM.out⟩
set_option maxHeartbeats 16000000 in
set_option maxRecDepth 100000 in
theorem ef_t0n {w0 w : World} {B n : Nat} {vl : Value} {rows : List (Value × List NV)} {st : ND} {vs : Value} {wh : ND} {vw : Value} (h : PM w0 w B n vl rows true st vs wh vw) (hbd : Bd 1 n rows) (t : Tk) (c : t.1 = 0) (hs : (bs t.2.2).size ≤ 3000) (T : TabSH w0) (hok : (readP (bs t.2.2)).2 = false) : Calls Tryd.prog 49 #[.pointer (some ⟨B, 0, none⟩), tokV t] w fun e w' => ∃ r1 r2 : Value, e = .returned (.tuple #[r1, r2]) ∧ RP w0 B (.er 2) r1 r2 w' ∧ TokK w w' := by
  have hmf : ∀ (fn : Fn) (first cap : Array Value) (w : World), (Instr.makeFunc fn first cap).run Tryd.prog w = .ok (.func fn first cap) w := fun _ _ _ _ => rfl
  have RD := fun w1 (kk : Kp w w1) => ptRead_any (bs t.2.2) w1 hs (T.kp (h.kp.trans kk))
  have TO := Lib.hid (fun w1 => of_node_any (readP (bs t.2.2)).1 false false w1)
  rw [hok] at RD
  have RDH := Lib.hid RD
  have HH := Lib.hid h
  have HBD := Lib.hid hbd
  clear RD hok hs T hbd
  generalize (readP (bs t.2.2)).1 = pp at *
  obtain ⟨kp, yp, mp, dp⟩ := pp
  unfold ptV at *
  unfold ndV at TO
  simp only [ND.k, ND.p, ND.a, ND.t] at RDH TO
  obtain ⟨k, i, s⟩ := t
  simp only at c RDH
  subst c
  unfold tokV
  simp only
  clear h
  go_enter Tryd.func49, Tryd.ntmps49
  go_wp2_with fail
  refine (RDH.out _ (Kp.alloc _ _)).mono ?_
  rintro e w2 ⟨rfl, kk⟩
  have K2 := Lib.hid ((Kp.alloc _ _).trans kk)
  clear kk
  go_wp2
  go_ret2
  exact ⟨_, _, rfl, ⟨rfl, HH.out.kp.trans (K2.out.trans (Kp.alloc _ _))⟩, TokK.kp (K2.out.trans (Kp.alloc _ _))⟩
theorem ef_any_t {w0 w : World} {B n : Nat} {vl : Value} {rows : List (Value × List NV)} {st : ND} {vs : Value} {wh : ND} {vw : Value} (h : PM w0 w B n vl rows true st vs wh vw) (hbd : Bd 1 n rows) (t : Tk) (c : t.1 = 0 ∨ t.1 = 2 ∨ t.1 = 3) (hs : (bs t.2.2).size ≤ 3000) (T : TabSH w0) : Calls Tryd.prog 49 #[.pointer (some ⟨B, 0, none⟩), tokV t] w fun e w' => ∃ r1 r2 : Value, e = .returned (.tuple #[r1, r2]) ∧ RP w0 B (efM n (skOf rows) (some st) t) r1 r2 w' ∧ TokK w w' := by
  unfold efM
  by_cases c0 : t.1 = 0
  · rw [if_pos c0]
    by_cases cr : (readP (bs t.2.2)).2 = true
    · rw [if_pos cr]
      exact ef_t0y h hbd t c0 hs T cr
    · rw [if_neg cr]
      exact ef_t0n h hbd t c0 hs T (by simpa using cr)
  · rw [if_neg c0]
    by_cases c2 : t.1 = 2
    · rw [if_pos c2]
      exact ef_t2 h hbd t c2
    · rw [if_neg c2]
      exact ef_t3 h hbd t (by omega)
end Go.Proofs.YtndmohamjffpcaaDoor

namespace Go.Proofs.YtndmohamjffpcaaDoor
open Go.RowKit Go.Shelf
set_option linter.unusedVariables false
set_option linter.unusedSimpArgs false
theorem infoSl : (Tryd.prog.info? 24).map (fun i => (i.zero, i.size, i.bytes)) = some (some (.slice none 0 0), 1, 24) := by kernel_rfl
set_option maxHeartbeats 16000000 in
set_option maxRecDepth 100000 in
theorem end_f0 {w0 w : World} {B n : Nat} {vl : Value} {rows : List (Value × List NV)} {st : ND} {vs : Value} {wh : ND} {vw : Value} (h : PM w0 w B n vl rows false st vs wh vw) (hbd : Bd 0 n rows) (t : Tk) (c : t.1 = 0) (hs : (bs t.2.2).size ≤ 3000) (T : TabSH w0) : Calls Tryd.prog 40 #[.pointer (some ⟨B, 0, none⟩), tokV t] w fun e w' => ∃ r1 r2 : Value, e = .returned (.tuple #[r1, r2]) ∧ RP w0 B (if n = 64 then .er 6 else efM (n + 1) (skOf rows) none t) r1 r2 w' ∧ TokK w w' := by
  have BG := fun w1 (q : Kp w w1) => begin_any (h.go q) hbd.2.1
  have K0 := Lib.hid h.kp
  by_cases c6 : n = 64
  · rw [if_pos c6]
    simp only [if_pos c6] at BG
    have BGH := Lib.hid BG
    obtain ⟨k, i, s⟩ := t
    simp only at c
    subst c
    unfold tokV
    simp only
    clear BG h hbd
    go_enter Tryd.func40, Tryd.ntmps40
    go_wp2_with fail
    refine (BGH.out _ (Kp.alloc _ _)).mono ?_
    rintro e w2 ⟨rfl, h2, tk2⟩
    have K2 := Lib.hid h2.kp
    have TK2 := Lib.hid ((TokK.kp (Kp.alloc _ _)).trans tk2)
    clear h2 tk2
    go_wp2
    go_ret2
    exact ⟨_, _, rfl, ⟨rfl, K2.out⟩, TK2.out⟩
  · rw [if_neg c6]
    simp only [if_neg c6] at BG
    have BGH := Lib.hid BG
    have EF := Lib.hid (fun w1 (h1 : PM w0 w1 B (n + 1) vl rows false st vs wh vw) => ef_any_f h1 (show Bd 1 (n + 1) rows from ⟨by have := hbd.1; omega, by have := hbd.2.1; omega, hbd.2.2⟩) t (by omega) hs T)
    have gt := heap_at w (.cells #[.int .i64 t.1, .int .i64 t.2.1, .string (bs t.2.2)] 56) w.heap.size rfl
    have lo := h.lo
    have bw : B < w.heap.size := (Array.getElem?_eq_some_iff.1 h.box).1
    obtain ⟨res, hres⟩ : ∃ z, efM (n + 1) (skOf rows) none t = z := ⟨_, rfl⟩
    rw [hres] at EF ⊢
    obtain ⟨k, i, s⟩ := t
    simp only at c gt
    subst c
    unfold tokV at *
    simp only at EF ⊢
    have GT := Lib.hid gt
    clear BG h hbd hres gt T hs
    go_enter Tryd.func40, Tryd.ntmps40
    go_wp2_with fail
    refine (BGH.out _ (Kp.alloc _ _)).mono ?_
    rintro e w2 ⟨rfl, h2, tk2⟩
    have H2 := Lib.hid h2
    have g2 := tk2 _ _ _ GT.out
    have t0 : w2.cell? ⟨w.heap.size, 0, none⟩ = some (.int .i64 0) := by simp [World.cell?, g2]
    have t1 : w2.cell? ⟨w.heap.size, 1, none⟩ = some (.int .i64 i) := by simp [World.cell?, g2]
    have t2 : w2.cell? ⟨w.heap.size, 2, none⟩ = some (.string (bs s)) := by simp [World.cell?, g2]
    have TK2 := Lib.hid ((TokK.kp (Kp.alloc _ _)).trans tk2)
    clear h2 tk2 g2
    go_wp2_with fail
    refine (EF.out _ H2.out).mono ?_
    rintro e w4 ⟨r1, r2, rfl, hrp, tk⟩
    have HRP := Lib.hid hrp
    have HTK := Lib.hid (TK2.out.trans tk)
    clear hrp tk
    go_wp2
    go_ret2
    exact ⟨r1, r2, rfl, HRP.out, HTK.out⟩
set_option maxHeartbeats 16000000 in
set_option maxRecDepth 100000 in
theorem end_f2 {w0 w : World} {B n : Nat} {vl : Value} {rows : List (Value × List NV)} {st : ND} {vs : Value} {wh : ND} {vw : Value} (h : PM w0 w B n vl rows false st vs wh vw) (hbd : Bd 0 n rows) (t : Tk) (c : t.1 = 2) (hs : (bs t.2.2).size ≤ 3000) (T : TabSH w0) : Calls Tryd.prog 40 #[.pointer (some ⟨B, 0, none⟩), tokV t] w fun e w' => ∃ r1 r2 : Value, e = .returned (.tuple #[r1, r2]) ∧ RP w0 B (if n = 64 then .er 6 else efM (n + 1) (skOf rows) none t) r1 r2 w' ∧ TokK w w' := by
  have BG := fun w1 (q : Kp w w1) => begin_any (h.go q) hbd.2.1
  have K0 := Lib.hid h.kp
  by_cases c6 : n = 64
  · rw [if_pos c6]
    simp only [if_pos c6] at BG
    have BGH := Lib.hid BG
    obtain ⟨k, i, s⟩ := t
    simp only at c
    subst c
    unfold tokV
    simp only
    clear BG h hbd
    go_enter Tryd.func40, Tryd.ntmps40
    go_wp2_with fail
    refine (BGH.out _ (Kp.alloc _ _)).mono ?_
    rintro e w2 ⟨rfl, h2, tk2⟩
    have K2 := Lib.hid h2.kp
    have TK2 := Lib.hid ((TokK.kp (Kp.alloc _ _)).trans tk2)
    clear h2 tk2
    go_wp2
    go_ret2
    exact ⟨_, _, rfl, ⟨rfl, K2.out⟩, TK2.out⟩
  · rw [if_neg c6]
    simp only [if_neg c6] at BG
    have BGH := Lib.hid BG
    have EF := Lib.hid (fun w1 (h1 : PM w0 w1 B (n + 1) vl rows false st vs wh vw) => ef_any_f h1 (show Bd 1 (n + 1) rows from ⟨by have := hbd.1; omega, by have := hbd.2.1; omega, hbd.2.2⟩) t (by omega) hs T)
    have gt := heap_at w (.cells #[.int .i64 t.1, .int .i64 t.2.1, .string (bs t.2.2)] 56) w.heap.size rfl
    have lo := h.lo
    have bw : B < w.heap.size := (Array.getElem?_eq_some_iff.1 h.box).1
    obtain ⟨res, hres⟩ : ∃ z, efM (n + 1) (skOf rows) none t = z := ⟨_, rfl⟩
    rw [hres] at EF ⊢
    obtain ⟨k, i, s⟩ := t
    simp only at c gt
    subst c
    unfold tokV at *
    simp only at EF ⊢
    have GT := Lib.hid gt
    clear BG h hbd hres gt T hs
    go_enter Tryd.func40, Tryd.ntmps40
    go_wp2_with fail
    refine (BGH.out _ (Kp.alloc _ _)).mono ?_
    rintro e w2 ⟨rfl, h2, tk2⟩
    have H2 := Lib.hid h2
    have g2 := tk2 _ _ _ GT.out
    have t0 : w2.cell? ⟨w.heap.size, 0, none⟩ = some (.int .i64 2) := by simp [World.cell?, g2]
    have t1 : w2.cell? ⟨w.heap.size, 1, none⟩ = some (.int .i64 i) := by simp [World.cell?, g2]
    have t2 : w2.cell? ⟨w.heap.size, 2, none⟩ = some (.string (bs s)) := by simp [World.cell?, g2]
    have TK2 := Lib.hid ((TokK.kp (Kp.alloc _ _)).trans tk2)
    clear h2 tk2 g2
    go_wp2_with fail
    refine (EF.out _ H2.out).mono ?_
    rintro e w4 ⟨r1, r2, rfl, hrp, tk⟩
    have HRP := Lib.hid hrp
    have HTK := Lib.hid (TK2.out.trans tk)
    clear hrp tk
    go_wp2
    go_ret2
    exact ⟨r1, r2, rfl, HRP.out, HTK.out⟩
set_option maxHeartbeats 16000000 in
set_option maxRecDepth 100000 in
theorem end_f3 {w0 w : World} {B n : Nat} {vl : Value} {rows : List (Value × List NV)} {st : ND} {vs : Value} {wh : ND} {vw : Value} (h : PM w0 w B n vl rows false st vs wh vw) (hbd : Bd 0 n rows) (t : Tk) (c : t.1 = 3) (hs : (bs t.2.2).size ≤ 3000) (T : TabSH w0) : Calls Tryd.prog 40 #[.pointer (some ⟨B, 0, none⟩), tokV t] w fun e w' => ∃ r1 r2 : Value, e = .returned (.tuple #[r1, r2]) ∧ RP w0 B (if n = 64 then .er 6 else efM (n + 1) (skOf rows) none t) r1 r2 w' ∧ TokK w w' := by
  have BG := fun w1 (q : Kp w w1) => begin_any (h.go q) hbd.2.1
  have K0 := Lib.hid h.kp
  by_cases c6 : n = 64
  · rw [if_pos c6]
    simp only [if_pos c6] at BG
    have BGH := Lib.hid BG
    obtain ⟨k, i, s⟩ := t
    simp only at c
    subst c
    unfold tokV
    simp only
    clear BG h hbd
    go_enter Tryd.func40, Tryd.ntmps40
    go_wp2_with fail
    refine (BGH.out _ (Kp.alloc _ _)).mono ?_
    rintro e w2 ⟨rfl, h2, tk2⟩
    have K2 := Lib.hid h2.kp
    have TK2 := Lib.hid ((TokK.kp (Kp.alloc _ _)).trans tk2)
    clear h2 tk2
    go_wp2
    go_ret2
    exact ⟨_, _, rfl, ⟨rfl, K2.out⟩, TK2.out⟩
  · rw [if_neg c6]
    simp only [if_neg c6] at BG
    have BGH := Lib.hid BG
    have EF := Lib.hid (fun w1 (h1 : PM w0 w1 B (n + 1) vl rows false st vs wh vw) => ef_any_f h1 (show Bd 1 (n + 1) rows from ⟨by have := hbd.1; omega, by have := hbd.2.1; omega, hbd.2.2⟩) t (by omega) hs T)
    have gt := heap_at w (.cells #[.int .i64 t.1, .int .i64 t.2.1, .string (bs t.2.2)] 56) w.heap.size rfl
    have lo := h.lo
    have bw : B < w.heap.size := (Array.getElem?_eq_some_iff.1 h.box).1
    obtain ⟨res, hres⟩ : ∃ z, efM (n + 1) (skOf rows) none t = z := ⟨_, rfl⟩
    rw [hres] at EF ⊢
    obtain ⟨k, i, s⟩ := t
    simp only at c gt
    subst c
    unfold tokV at *
    simp only at EF ⊢
    have GT := Lib.hid gt
    clear BG h hbd hres gt T hs
    go_enter Tryd.func40, Tryd.ntmps40
    go_wp2_with fail
    refine (BGH.out _ (Kp.alloc _ _)).mono ?_
    rintro e w2 ⟨rfl, h2, tk2⟩
    have H2 := Lib.hid h2
    have g2 := tk2 _ _ _ GT.out
    have t0 : w2.cell? ⟨w.heap.size, 0, none⟩ = some (.int .i64 3) := by simp [World.cell?, g2]
    have t1 : w2.cell? ⟨w.heap.size, 1, none⟩ = some (.int .i64 i) := by simp [World.cell?, g2]
    have t2 : w2.cell? ⟨w.heap.size, 2, none⟩ = some (.string (bs s)) := by simp [World.cell?, g2]
    have TK2 := Lib.hid ((TokK.kp (Kp.alloc _ _)).trans tk2)
    clear h2 tk2 g2
    go_wp2_with fail
    refine (EF.out _ H2.out).mono ?_
    rintro e w4 ⟨r1, r2, rfl, hrp, tk⟩
    have HRP := Lib.hid hrp
    have HTK := Lib.hid (TK2.out.trans tk)
    clear hrp tk
    go_wp2
    go_ret2
    exact ⟨r1, r2, rfl, HRP.out, HTK.out⟩
set_option maxHeartbeats 16000000 in
set_option maxRecDepth 100000 in
theorem end_t0 {w0 w : World} {B n : Nat} {vl : Value} {rows : List (Value × List NV)} {st : ND} {vs : Value} {wh : ND} {vw : Value} (h : PM w0 w B n vl rows true st vs wh vw) (hbd : Bd 1 n rows) (t : Tk) (c : t.1 = 0) (hs : (bs t.2.2).size ≤ 3000) (T : TabSH w0) : Calls Tryd.prog 40 #[.pointer (some ⟨B, 0, none⟩), tokV t] w fun e w' => ∃ r1 r2 : Value, e = .returned (.tuple #[r1, r2]) ∧ RP w0 B (if n = 64 then .er 6 else efM (n + 1) (skOf rows) (some st) t) r1 r2 w' ∧ TokK w w' := by
  have BG := fun w1 (q : Kp w w1) => begin_any (h.go q) hbd.2.1
  have K0 := Lib.hid h.kp
  by_cases c6 : n = 64
  · rw [if_pos c6]
    simp only [if_pos c6] at BG
    have BGH := Lib.hid BG
    obtain ⟨k, i, s⟩ := t
    simp only at c
    subst c
    unfold tokV
    simp only
    clear BG h hbd
    go_enter Tryd.func40, Tryd.ntmps40
    go_wp2_with fail
    refine (BGH.out _ (Kp.alloc _ _)).mono ?_
    rintro e w2 ⟨rfl, h2, tk2⟩
    have K2 := Lib.hid h2.kp
    have TK2 := Lib.hid ((TokK.kp (Kp.alloc _ _)).trans tk2)
    clear h2 tk2
    go_wp2
    go_ret2
    exact ⟨_, _, rfl, ⟨rfl, K2.out⟩, TK2.out⟩
  · rw [if_neg c6]
    simp only [if_neg c6] at BG
    have BGH := Lib.hid BG
    have EF := Lib.hid (fun w1 (h1 : PM w0 w1 B (n + 1) vl rows true st vs wh vw) => ef_any_t h1 (show Bd 1 (n + 1) rows from ⟨by have := hbd.1; omega, by have := hbd.2.1; omega, hbd.2.2⟩) t (by omega) hs T)
    have gt := heap_at w (.cells #[.int .i64 t.1, .int .i64 t.2.1, .string (bs t.2.2)] 56) w.heap.size rfl
    have lo := h.lo
    have bw : B < w.heap.size := (Array.getElem?_eq_some_iff.1 h.box).1
    obtain ⟨res, hres⟩ : ∃ z, efM (n + 1) (skOf rows) (some st) t = z := ⟨_, rfl⟩
    rw [hres] at EF ⊢
    obtain ⟨k, i, s⟩ := t
    simp only at c gt
    subst c
    unfold tokV at *
    simp only at EF ⊢
    have GT := Lib.hid gt
    clear BG h hbd hres gt T hs
    go_enter Tryd.func40, Tryd.ntmps40
    go_wp2_with fail
    refine (BGH.out _ (Kp.alloc _ _)).mono ?_
    rintro e w2 ⟨rfl, h2, tk2⟩
    have H2 := Lib.hid h2
    have g2 := tk2 _ _ _ GT.out
    have t0 : w2.cell? ⟨w.heap.size, 0, none⟩ = some (.int .i64 0) := by simp [World.cell?, g2]
    have t1 : w2.cell? ⟨w.heap.size, 1, none⟩ = some (.int .i64 i) := by simp [World.cell?, g2]
    have t2 : w2.cell? ⟨w.heap.size, 2, none⟩ = some (.string (bs s)) := by simp [World.cell?, g2]
    have TK2 := Lib.hid ((TokK.kp (Kp.alloc _ _)).trans tk2)
    clear h2 tk2 g2
    go_wp2_with fail
    refine (EF.out _ H2.out).mono ?_
    rintro e w4 ⟨r1, r2, rfl, hrp, tk⟩
    have HRP := Lib.hid hrp
    have HTK := Lib.hid (TK2.out.trans tk)
    clear hrp tk
    go_wp2
    go_ret2
    exact ⟨r1, r2, rfl, HRP.out, HTK.out⟩
set_option maxHeartbeats 16000000 in
set_option maxRecDepth 100000 in
theorem end_t2 {w0 w : World} {B n : Nat} {vl : Value} {rows : List (Value × List NV)} {st : ND} {vs : Value} {wh : ND} {vw : Value} (h : PM w0 w B n vl rows true st vs wh vw) (hbd : Bd 1 n rows) (t : Tk) (c : t.1 = 2) (hs : (bs t.2.2).size ≤ 3000) (T : TabSH w0) : Calls Tryd.prog 40 #[.pointer (some ⟨B, 0, none⟩), tokV t] w fun e w' => ∃ r1 r2 : Value, e = .returned (.tuple #[r1, r2]) ∧ RP w0 B (if n = 64 then .er 6 else efM (n + 1) (skOf rows) (some st) t) r1 r2 w' ∧ TokK w w' := by
  have BG := fun w1 (q : Kp w w1) => begin_any (h.go q) hbd.2.1
  have K0 := Lib.hid h.kp
  by_cases c6 : n = 64
  · rw [if_pos c6]
    simp only [if_pos c6] at BG
    have BGH := Lib.hid BG
    obtain ⟨k, i, s⟩ := t
    simp only at c
    subst c
    unfold tokV
    simp only
    clear BG h hbd
    go_enter Tryd.func40, Tryd.ntmps40
    go_wp2_with fail
    refine (BGH.out _ (Kp.alloc _ _)).mono ?_
    rintro e w2 ⟨rfl, h2, tk2⟩
    have K2 := Lib.hid h2.kp
    have TK2 := Lib.hid ((TokK.kp (Kp.alloc _ _)).trans tk2)
    clear h2 tk2
    go_wp2
    go_ret2
    exact ⟨_, _, rfl, ⟨rfl, K2.out⟩, TK2.out⟩
  · rw [if_neg c6]
    simp only [if_neg c6] at BG
    have BGH := Lib.hid BG
    have EF := Lib.hid (fun w1 (h1 : PM w0 w1 B (n + 1) vl rows true st vs wh vw) => ef_any_t h1 (show Bd 1 (n + 1) rows from ⟨by have := hbd.1; omega, by have := hbd.2.1; omega, hbd.2.2⟩) t (by omega) hs T)
    have gt := heap_at w (.cells #[.int .i64 t.1, .int .i64 t.2.1, .string (bs t.2.2)] 56) w.heap.size rfl
    have lo := h.lo
    have bw : B < w.heap.size := (Array.getElem?_eq_some_iff.1 h.box).1
    obtain ⟨res, hres⟩ : ∃ z, efM (n + 1) (skOf rows) (some st) t = z := ⟨_, rfl⟩
    rw [hres] at EF ⊢
    obtain ⟨k, i, s⟩ := t
    simp only at c gt
    subst c
    unfold tokV at *
    simp only at EF ⊢
    have GT := Lib.hid gt
    clear BG h hbd hres gt T hs
    go_enter Tryd.func40, Tryd.ntmps40
    go_wp2_with fail
    refine (BGH.out _ (Kp.alloc _ _)).mono ?_
    rintro e w2 ⟨rfl, h2, tk2⟩
    have H2 := Lib.hid h2
    have g2 := tk2 _ _ _ GT.out
    have t0 : w2.cell? ⟨w.heap.size, 0, none⟩ = some (.int .i64 2) := by simp [World.cell?, g2]
    have t1 : w2.cell? ⟨w.heap.size, 1, none⟩ = some (.int .i64 i) := by simp [World.cell?, g2]
    have t2 : w2.cell? ⟨w.heap.size, 2, none⟩ = some (.string (bs s)) := by simp [World.cell?, g2]
    have TK2 := Lib.hid ((TokK.kp (Kp.alloc _ _)).trans tk2)
    clear h2 tk2 g2
    go_wp2_with fail
    refine (EF.out _ H2.out).mono ?_
    rintro e w4 ⟨r1, r2, rfl, hrp, tk⟩
    have HRP := Lib.hid hrp
    have HTK := Lib.hid (TK2.out.trans tk)
    clear hrp tk
    go_wp2
    go_ret2
    exact ⟨r1, r2, rfl, HRP.out, HTK.out⟩
set_option maxHeartbeats 16000000 in
set_option maxRecDepth 100000 in
theorem end_t3 {w0 w : World} {B n : Nat} {vl : Value} {rows : List (Value × List NV)} {st : ND} {vs : Value} {wh : ND} {vw : Value} (h : PM w0 w B n vl rows true st vs wh vw) (hbd : Bd 1 n rows) (t : Tk) (c : t.1 = 3) (hs : (bs t.2.2).size ≤ 3000) (T : TabSH w0) : Calls Tryd.prog 40 #[.pointer (some ⟨B, 0, none⟩), tokV t] w fun e w' => ∃ r1 r2 : Value, e = .returned (.tuple #[r1, r2]) ∧ RP w0 B (if n = 64 then .er 6 else efM (n + 1) (skOf rows) (some st) t) r1 r2 w' ∧ TokK w w' := by
  have BG := fun w1 (q : Kp w w1) => begin_any (h.go q) hbd.2.1
  have K0 := Lib.hid h.kp
  by_cases c6 : n = 64
  · rw [if_pos c6]
    simp only [if_pos c6] at BG
    have BGH := Lib.hid BG
    obtain ⟨k, i, s⟩ := t
    simp only at c
    subst c
    unfold tokV
    simp only
    clear BG h hbd
    go_enter Tryd.func40, Tryd.ntmps40
    go_wp2_with fail
    refine (BGH.out _ (Kp.alloc _ _)).mono ?_
    rintro e w2 ⟨rfl, h2, tk2⟩
    have K2 := Lib.hid h2.kp
    have TK2 := Lib.hid ((TokK.kp (Kp.alloc _ _)).trans tk2)
    clear h2 tk2
    go_wp2
    go_ret2
    exact ⟨_, _, rfl, ⟨rfl, K2.out⟩, TK2.out⟩
  · rw [if_neg c6]
    simp only [if_neg c6] at BG
    have BGH := Lib.hid BG
    have EF := Lib.hid (fun w1 (h1 : PM w0 w1 B (n + 1) vl rows true st vs wh vw) => ef_any_t h1 (show Bd 1 (n + 1) rows from ⟨by have := hbd.1; omega, by have := hbd.2.1; omega, hbd.2.2⟩) t (by omega) hs T)
    have gt := heap_at w (.cells #[.int .i64 t.1, .int .i64 t.2.1, .string (bs t.2.2)] 56) w.heap.size rfl
    have lo := h.lo
    have bw : B < w.heap.size := (Array.getElem?_eq_some_iff.1 h.box).1
    obtain ⟨res, hres⟩ : ∃ z, efM (n + 1) (skOf rows) (some st) t = z := ⟨_, rfl⟩
    rw [hres] at EF ⊢
    obtain ⟨k, i, s⟩ := t
    simp only at c gt
    subst c
    unfold tokV at *
    simp only at EF ⊢
    have GT := Lib.hid gt
    clear BG h hbd hres gt T hs
    go_enter Tryd.func40, Tryd.ntmps40
    go_wp2_with fail
    refine (BGH.out _ (Kp.alloc _ _)).mono ?_
    rintro e w2 ⟨rfl, h2, tk2⟩
    have H2 := Lib.hid h2
    have g2 := tk2 _ _ _ GT.out
    have t0 : w2.cell? ⟨w.heap.size, 0, none⟩ = some (.int .i64 3) := by simp [World.cell?, g2]
    have t1 : w2.cell? ⟨w.heap.size, 1, none⟩ = some (.int .i64 i) := by simp [World.cell?, g2]
    have t2 : w2.cell? ⟨w.heap.size, 2, none⟩ = some (.string (bs s)) := by simp [World.cell?, g2]
    have TK2 := Lib.hid ((TokK.kp (Kp.alloc _ _)).trans tk2)
    clear h2 tk2 g2
    go_wp2_with fail
    refine (EF.out _ H2.out).mono ?_
    rintro e w4 ⟨r1, r2, rfl, hrp, tk⟩
    have HRP := Lib.hid hrp
    have HTK := Lib.hid (TK2.out.trans tk)
    clear hrp tk
    go_wp2
    go_ret2
    exact ⟨r1, r2, rfl, HRP.out, HTK.out⟩
set_option maxHeartbeats 16000000 in
set_option maxRecDepth 100000 in
theorem end_fx {w0 w : World} {B n : Nat} {vl : Value} {rows : List (Value × List NV)} {st : ND} {vs : Value} {wh : ND} {vw : Value} (h : PM w0 w B n vl rows false st vs wh vw) (hbd : Bd 0 n rows) (t : Tk) (c : ¬ (t.1 = 0 ∨ t.1 = 2 ∨ t.1 = 3)) : Calls Tryd.prog 40 #[.pointer (some ⟨B, 0, none⟩), tokV t] w fun e w' => ∃ r1 r2 : Value, e = .returned (.tuple #[r1, r2]) ∧ RP w0 B (.er (misM t)) r1 r2 w' ∧ TokK w w' := by
  have MP := Lib.hid (fun w1 => misplaced_any t w1)
  have K0 := Lib.hid h.kp
  generalize misM t = mm at *
  obtain ⟨k, i, s⟩ := t
  simp only at c
  have q0 : (k == 0) = false := beq_eq_false_iff_ne.2 (by omega)
  have q2 : (k == 2) = false := beq_eq_false_iff_ne.2 (by omega)
  have q3 : (k == 3) = false := beq_eq_false_iff_ne.2 (by omega)
  unfold tokV at *
  simp only at MP ⊢
  clear c h hbd
  go_enter Tryd.func40, Tryd.ntmps40
  go_wp2_with fail
  refine (MP.out _).mono ?_
  rintro e w2 ⟨rfl, kk⟩
  have K2 := Lib.hid ((Kp.alloc _ _).trans kk)
  clear kk
  go_wp2
  go_ret2
  exact ⟨_, _, rfl, ⟨rfl, K0.out.trans K2.out⟩, TokK.kp K2.out⟩
theorem end_any_f {w0 w : World} {B n : Nat} {vl : Value} {rows : List (Value × List NV)} {st : ND} {vs : Value} {wh : ND} {vw : Value} (h : PM w0 w B n vl rows false st vs wh vw) (hbd : Bd 0 n rows) (t : Tk) (hs : (bs t.2.2).size ≤ 3000) (T : TabSH w0) : Calls Tryd.prog 40 #[.pointer (some ⟨B, 0, none⟩), tokV t] w fun e w' => ∃ r1 r2 : Value, e = .returned (.tuple #[r1, r2]) ∧ RP w0 B (endM n (skOf rows) none t) r1 r2 w' ∧ TokK w w' := by
  rw [endM_ef]
  by_cases c : t.1 = 0 ∨ t.1 = 2 ∨ t.1 = 3
  · rw [if_pos c]
    rcases c with c | c | c
    · exact end_f0 h hbd t c hs T
    · exact end_f2 h hbd t c hs T
    · exact end_f3 h hbd t c hs T
  · rw [if_neg c]
    exact end_fx h hbd t c
set_option maxHeartbeats 16000000 in
set_option maxRecDepth 100000 in
theorem end_tx {w0 w : World} {B n : Nat} {vl : Value} {rows : List (Value × List NV)} {st : ND} {vs : Value} {wh : ND} {vw : Value} (h : PM w0 w B n vl rows true st vs wh vw) (hbd : Bd 1 n rows) (t : Tk) (c : ¬ (t.1 = 0 ∨ t.1 = 2 ∨ t.1 = 3)) : Calls Tryd.prog 40 #[.pointer (some ⟨B, 0, none⟩), tokV t] w fun e w' => ∃ r1 r2 : Value, e = .returned (.tuple #[r1, r2]) ∧ RP w0 B (.er (misM t)) r1 r2 w' ∧ TokK w w' := by
  have MP := Lib.hid (fun w1 => misplaced_any t w1)
  have K0 := Lib.hid h.kp
  generalize misM t = mm at *
  obtain ⟨k, i, s⟩ := t
  simp only at c
  have q0 : (k == 0) = false := beq_eq_false_iff_ne.2 (by omega)
  have q2 : (k == 2) = false := beq_eq_false_iff_ne.2 (by omega)
  have q3 : (k == 3) = false := beq_eq_false_iff_ne.2 (by omega)
  unfold tokV at *
  simp only at MP ⊢
  clear c h hbd
  go_enter Tryd.func40, Tryd.ntmps40
  go_wp2_with fail
  refine (MP.out _).mono ?_
  rintro e w2 ⟨rfl, kk⟩
  have K2 := Lib.hid ((Kp.alloc _ _).trans kk)
  clear kk
  go_wp2
  go_ret2
  exact ⟨_, _, rfl, ⟨rfl, K0.out.trans K2.out⟩, TokK.kp K2.out⟩
theorem end_any_t {w0 w : World} {B n : Nat} {vl : Value} {rows : List (Value × List NV)} {st : ND} {vs : Value} {wh : ND} {vw : Value} (h : PM w0 w B n vl rows true st vs wh vw) (hbd : Bd 1 n rows) (t : Tk) (hs : (bs t.2.2).size ≤ 3000) (T : TabSH w0) : Calls Tryd.prog 40 #[.pointer (some ⟨B, 0, none⟩), tokV t] w fun e w' => ∃ r1 r2 : Value, e = .returned (.tuple #[r1, r2]) ∧ RP w0 B (endM n (skOf rows) (some st) t) r1 r2 w' ∧ TokK w w' := by
  rw [endM_ef]
  by_cases c : t.1 = 0 ∨ t.1 = 2 ∨ t.1 = 3
  · rw [if_pos c]
    rcases c with c | c | c
    · exact end_t0 h hbd t c hs T
    · exact end_t2 h hbd t c hs T
    · exact end_t3 h hbd t c hs T
  · rw [if_neg c]
    exact end_tx h hbd t c
set_option maxHeartbeats 16000000 in
set_option maxRecDepth 100000 in
theorem ex_end {w0 w : World} {B n : Nat} {vl : Value} {rows : List (Value × List NV)} {ie : Bool} {st : ND} {vs : Value} {wh : ND} {vw : Value} (h : PM w0 w B n vl rows ie st vs wh vw) (hbd : Bd 0 n rows) (t : Tk) (c : ¬ t.1 = 4) (hs : (bs t.2.2).size ≤ 3000) (T : TabSH w0) : Calls Tryd.prog 26 #[.pointer (some ⟨B, 0, none⟩), tokV t] w fun e w' => ∃ r1 r2 : Value, e = .returned (.tuple #[r1, r2]) ∧ RP w0 B (endM n (skOf rows) none t) r1 r2 w' ∧ TokK w w' := by
  have EN := Lib.hid (end_any_f ((h.sets 2 [.bool false] (n' := n) (ie' := false) (st' := st) (vs' := vs) (wh' := wh) (vw' := vw) (by kernel_rfl) h.fw h.fs).go (Kp.alloc _ (.cells #[.int .i64 t.1, .int .i64 t.2.1, .string (bs t.2.2)] 56))) hbd t hs T)
  have TKM := Lib.hid ((h.tok 2 [.bool false]).trans (TokK.kp (Kp.alloc _ (.cells #[.int .i64 t.1, .int .i64 t.2.1, .string (bs t.2.2)] 56))))
  have c2 := h.c19.2.2.1
  have f2 := h.frz 2
  have bw : B < w.heap.size := (Array.getElem?_eq_some_iff.1 h.box).1
  obtain ⟨res, hres⟩ : ∃ z, endM n (skOf rows) none t = z := ⟨_, rfl⟩
  rw [hres] at EN ⊢
  clear hres
  obtain ⟨k, i, s⟩ := t
  simp only at c
  have q4 : (k == 4) = false := beq_eq_false_iff_ne.2 c
  have q4' : (k != 4) = true := by simp [c]
  unfold tokV at *
  simp only at EN TKM ⊢
  clear h hbd hs T
  go_enter Tryd.func26, Tryd.ntmps26
  go_wp2_with fail
  refine EN.out.mono ?_
  rintro e w4 ⟨r1, r2, rfl, hrp, tk⟩
  have HRP := Lib.hid hrp
  have HTK := Lib.hid (TKM.out.trans tk)
  clear hrp tk
  go_wp2
  go_ret2
  exact ⟨r1, r2, rfl, HRP.out, HTK.out⟩
set_option maxHeartbeats 16000000 in
set_option maxRecDepth 100000 in
theorem ex_deep {w0 w : World} {B n : Nat} {vl : Value} {rows : List (Value × List NV)} {ie : Bool} {st : ND} {vs : Value} {wh : ND} {vw : Value} (h : PM w0 w B n vl rows ie st vs wh vw) (hbd : Bd 0 n rows) (t : Tk) (c : t.1 = 4) (c8 : rows.length = 8) : Calls Tryd.prog 26 #[.pointer (some ⟨B, 0, none⟩), tokV t] w fun e w' => ∃ r1 r2 : Value, e = .returned (.tuple #[r1, r2]) ∧ RP w0 B (.er 5) r1 r2 w' ∧ TokK w w' := by
  have BG := fun w1 (q : Kp w w1) => begin_any (h.go q) hbd.2.1
  obtain ⟨adl, cl, rfl⟩ := own_slice h.lists
  have c1 := h.c19.2.1
  have K0 := Lib.hid h.kp
  have bw : B < w.heap.size := (Array.getElem?_eq_some_iff.1 h.box).1
  rw [c8] at c1
  obtain ⟨k, i, s⟩ := t
  simp only at c
  subst c
  unfold tokV
  simp only
  clear h hbd BG
  go_enter Tryd.func26, Tryd.ntmps26
  go_wp2
  go_ret2
  exact ⟨_, _, rfl, ⟨rfl, K0.out.trans (Kp.alloc _ _)⟩, TokK.kp (Kp.alloc _ _)⟩
set_option maxHeartbeats 16000000 in
set_option maxRecDepth 100000 in
theorem ex_many {w0 w : World} {B n : Nat} {vl : Value} {rows : List (Value × List NV)} {ie : Bool} {st : ND} {vs : Value} {wh : ND} {vw : Value} (h : PM w0 w B n vl rows ie st vs wh vw) (hbd : Bd 0 n rows) (t : Tk) (c : t.1 = 4) (c8 : ¬ rows.length = 8) (c6 : n = 64) : Calls Tryd.prog 26 #[.pointer (some ⟨B, 0, none⟩), tokV t] w fun e w' => ∃ r1 r2 : Value, e = .returned (.tuple #[r1, r2]) ∧ RP w0 B (.er 6) r1 r2 w' ∧ TokK w w' := by
  have BG := fun w1 (q : Kp w w1) => begin_any (h.go q) hbd.2.1
  simp only [if_pos c6] at BG
  have BGH := Lib.hid BG
  obtain ⟨adl, cl, rfl⟩ := own_slice h.lists
  have c1 := h.c19.2.1
  have K0 := Lib.hid h.kp
  have bw : B < w.heap.size := (Array.getElem?_eq_some_iff.1 h.box).1
  have q8 : ((rows.length : Int) == 8) = false := beq_eq_false_iff_ne.2 (by omega)
  obtain ⟨k, i, s⟩ := t
  simp only at c
  subst c
  unfold tokV
  simp only
  clear h hbd BG
  go_enter Tryd.func26, Tryd.ntmps26
  go_wp2_with fail
  refine (BGH.out _ (Kp.alloc _ _)).mono ?_
  rintro e w2 ⟨rfl, h2, tk2⟩
  have TK2 := Lib.hid ((TokK.kp (Kp.alloc _ _)).trans tk2)
  clear tk2
  have K2 := Lib.hid h2.kp
  clear h2
  go_wp2
  go_ret2
  exact ⟨_, _, rfl, ⟨rfl, K2.out⟩, TK2.out⟩
end Go.Proofs.YtndmohamjffpcaaDoor

namespace Go.Proofs.YtndmohamjffpcaaDoor
open Go.RowKit Go.Shelf
set_option linter.unusedVariables false
set_option linter.unusedSimpArgs false
theorem src_nil (w : World) (e : TypeId) : SrcAt (w.alloc (.cells #[.slice none 0 0] e)) (.slice (some ⟨w.heap.size, 0, none⟩) 1 1) 1 [.slice none 0 0] := by
  refine .inr ⟨_, _, rfl, fun j u hu => ?_⟩
  have h : (w.alloc (.cells #[.slice none 0 0] e)).heap[w.heap.size]? = some (.cells #[.slice none 0 0] e (0, 0)) := heap_at _ _ _ rfl
  obtain ⟨X, hX⟩ : ∃ z, z = w.alloc (.cells #[.slice none 0 0] e) := ⟨_, rfl⟩
  rw [← hX] at h ⊢
  rw [Addr.add_lit]
  match j with
  | 0 => cases hu; simp [World.cell?, h]
  | j + 1 => simp at hu
/-- a row of the lists that stand open, grown by an empty list, is laid into the box -/
theorem PM.opened {w0 w w6 : World} {B n : Nat} {vl v6 : Value} {rows : List (Value × List NV)} {ie : Bool} {st : ND} {vs : Value} {wh : ND} {vw : Value} (h : PM w0 w B n vl rows ie st vs wh vw)
    (own : w6.ownsRow w0.heap.size 24 1 v6 (rows.length + 1) ((rows.map Prod.fst).reverse ++ [.slice none 0 0])) (g : w.grownBy w6 vl.ownBlock) :
    PM w0 (w6.setCell ⟨B, 1, none⟩ v6) B n v6 ((.slice none 0 0, []) :: rows) ie st vs wh vw ∧ TokK w (w6.setCell ⟨B, 1, none⟩ v6) ∧ w6.heap[B]? = some (.cells (boxP n vl ie st vs wh vw).toArray 52 (0, 0)) := by
  have lt : ∀ {j : Nat} {o : Obj}, w.heap[j]? = some o → j < w.heap.size := fun hk => (Array.getElem?_eq_some_iff.1 hk).1
  have ot : ∀ {j : Nat} {c : Array Value} {e : TypeId} {fr : Nat × Nat}, w.heap[j]? = some (.cells c e fr) → (24 == e) = false → w6.heap[j]? = some (.cells c e fr) := by
    intro j c e fr hj he
    refine (g.block j (lt hj) (fun e1 => ?_)).trans hj
    rcases h.lists.2 with ⟨e2, _⟩ | ⟨q, cap, cur, e2, hb, hg, _⟩
    · rw [show vl = _ from e2] at e1; cases e1
    · rw [show vl = _ from e2] at e1
      cases e1
      rw [hg] at hj
      cases hj
      simp at he
  have nb : ∀ {j : Nat} {c : Array Value} {e : TypeId} {fr : Nat × Nat}, w.heap[j]? = some (.cells c e fr) → (52 == e) = false → j ≠ B := by
    intro j c e fr hj he e1
    subst e1
    rw [h.box] at hj
    cases hj
    simp at he
  have b6 := ot h.box (by kernel_rfl)
  have hb := sets_heap [v6] 1 b6
  have hq : setsA (boxP n vl ie st vs wh vw).toArray 1 [v6] = (boxP n v6 ie st vs wh vw).toArray := by kernel_rfl
  rw [hq] at hb
  have pass : ∀ {j : Nat} {c : Array Value} {e : TypeId} {fr : Nat × Nat}, (52 == e) = false → (24 == e) = false → w.heap[j]? = some (.cells c e fr) → (w6.setCell ⟨B, 1, none⟩ v6).heap[j]? = some (.cells c e fr) := by
    intro j c e fr he hf hj
    rw [ps_other (nb hj he)]
    exact ot hj hf
  refine ⟨h.relist (kp_setCell (h.kp.grown g (fun j hj => (h.lists.lt j hj).1)) h.lo _ _) hb (own_keepN own fun j c _ _ hj => ?_) (fun j c hj => pass (by kernel_rfl) (by kernel_rfl) hj), fun j c fr hj => pass (by kernel_rfl) (by kernel_rfl) hj, b6⟩
  have hn : j ≠ B := by
    intro e1
    subst e1
    rw [b6] at hj
    cases hj
  rw [ps_other hn]
  exact hj
theorem Bd.opened {n : Nat} {rows : List (Value × List NV)} (h : Bd 0 n rows) (c8 : ¬ rows.length = 8) (c6 : ¬ n = 64) : Bd 0 (n + 1) ((.slice none 0 0, []) :: rows) := by
  obtain ⟨a, b, c⟩ := h
  unfold Bd
  simp only [totR, List.map_cons, List.sum_cons, List.length_cons, List.length_nil] at a ⊢
  omega
set_option maxHeartbeats 16000000 in
set_option maxRecDepth 100000 in
theorem ex_open {w0 w : World} {B n : Nat} {vl : Value} {rows : List (Value × List NV)} {ie : Bool} {st : ND} {vs : Value} {wh : ND} {vw : Value} (h : PM w0 w B n vl rows ie st vs wh vw) (hbd : Bd 0 n rows) (t : Tk) (c : t.1 = 4) (c8 : ¬ rows.length = 8) (c6 : ¬ n = 64) : Calls Tryd.prog 26 #[.pointer (some ⟨B, 0, none⟩), tokV t] w fun e w' => ∃ r1 r2 : Value, e = .returned (.tuple #[r1, r2]) ∧ RP w0 B (.go (.ex (n + 1) ([] :: skOf rows))) r1 r2 w' ∧ TokK w w' := by
  have hmf : ∀ (fn : Fn) (first cap : Array Value) (w : World), (Instr.makeFunc fn first cap).run Tryd.prog w = .ok (.func fn first cap) w := fun _ _ _ _ => rfl
  have BG := fun w1 (q : Kp w w1) => begin_any (h.go q) hbd.2.1
  simp only [if_neg c6] at BG
  have BGH := Lib.hid BG
  have HB2 := Lib.hid (hbd.opened c8 c6)
  have hl : rows.length ≤ 8 := hbd.2.2
  obtain ⟨i0, hi, hz0, hz1, hz2⟩ := info_parts infoSl
  obtain ⟨adl, cl, rfl⟩ := own_slice h.lists
  have c1 := h.c19.2.1
  have bw : B < w.heap.size := (Array.getElem?_eq_some_iff.1 h.box).1
  have q8 : ((rows.length : Int) == 8) = false := beq_eq_false_iff_ne.2 (by omega)
  obtain ⟨k, i, s⟩ := t
  simp only at c
  subst c
  unfold tokV
  simp only
  clear h hbd BG
  go_enter Tryd.func26, Tryd.ntmps26
  go_wp2_with fail
  refine (BGH.out _ (Kp.alloc _ _)).mono ?_
  rintro e w2 ⟨rfl, h2, tk2⟩
  have TK2 := Lib.hid ((TokK.kp (Kp.alloc _ _)).trans tk2)
  clear tk2
  have H2 := Lib.hid (h2.go (Kp.alloc w2 (.cells #[.slice none 0 0] 24)))
  have TK3 := Lib.hid (TK2.out.trans (TokK.kp (Kp.alloc w2 (.cells #[.slice none 0 0] 24))))
  have d1 := h2.c19.2.1
  have LE5 := Lib.hid (Below.size H2.out.kp)
  have SN := Lib.hid (src_nil w2 24)
  have HL := Lib.hid H2.out.lists
  clear h2
  go_wp2_with (at_builtin; refine wpList_app rfl (.tmp 33) (.tmp 34) 50 rfl w0.heap.size 24 i0 (.slice none 0 0) 1 24 Tryd.underlying50 hi hz0 hz1 hz2 rfl (by decide) _ _ _ rfl HL.out _ _ _ rfl SN.out rfl (by intro u hu; simp at hu; subst hu; rfl) (by unfold maxLen; omega) (by omega) LE5.out ?_; intro v6 w6 own6 grow6 at6; obtain ⟨ad6, c6v, rfl⟩ := own_slice own6; have H6 := Lib.hid (H2.out.opened own6 grow6); clear own6 grow6 at6; have y1 := (row19 H6.out.2.2).2.1; have f1 : w6.frozen? ⟨B, 1, none⟩ = false := (by simp [World.frozen?, H6.out.2.2]))
  go_ret2
  exact ⟨_, _, rfl, ⟨rfl, rfl, _, _, _, _, _, _, _, rfl, HB2.out, H6.out.1⟩, TK3.out.trans H6.out.2.1⟩
theorem ex_any {w0 w : World} {B n : Nat} {vl : Value} {rows : List (Value × List NV)} {ie : Bool} {st : ND} {vs : Value} {wh : ND} {vw : Value} (h : PM w0 w B n vl rows ie st vs wh vw) (hbd : Bd 0 n rows) (t : Tk) (hs : (bs t.2.2).size ≤ 3000) (T : TabSH w0) : Calls Tryd.prog 26 #[.pointer (some ⟨B, 0, none⟩), tokV t] w fun e w' => ∃ r1 r2 : Value, e = .returned (.tuple #[r1, r2]) ∧ RP w0 B (exM n (skOf rows) t) r1 r2 w' ∧ TokK w w' := by
  have e : exM n (skOf rows) t = (if t.1 = 4 then (if rows.length = 8 then .er 5 else if n = 64 then .er 6 else .go (.ex (n + 1) ([] :: skOf rows))) else endM n (skOf rows) none t) := by unfold exM skOf; rw [List.length_map]
  rw [e]
  by_cases c : t.1 = 4
  · rw [if_pos c]
    by_cases c8 : rows.length = 8
    · rw [if_pos c8]
      exact ex_deep h hbd t c c8
    · rw [if_neg c8]
      by_cases c6 : n = 64
      · rw [if_pos c6]
        exact ex_many h hbd t c c8 c6
      · rw [if_neg c6]
        exact ex_open h hbd t c c8 c6
  · rw [if_neg c]
    exact ex_end h hbd t c hs T
end Go.Proofs.YtndmohamjffpcaaDoor

namespace Go.Proofs.YtndmohamjffpcaaDoor
open Go.RowKit Go.Shelf
set_option linter.unusedVariables false
set_option linter.unusedSimpArgs false
def nextF : St → Nat
  | .ex _ _ => 26
  | .en _ _ _ => 40
  | .b1 _ _ _ => 59
  | .b2 _ _ _ _ => 59
  | .sl _ _ _ => 61
  | .bs _ _ _ _ => 60
  | .be _ _ _ => 67
theorem nextV_eq (B : Nat) (s : St) : nextV B s = fnV (nextF s) B := by cases s <;> rfl
theorem step_any {w0 w : World} {B : Nat} (s : St) (hp : PSt w0 w B s) (t : Tk) (hs : (bs t.2.2).size ≤ 3000) (T : TabSH w0) :
    Calls Tryd.prog (nextF s) #[.pointer (some ⟨B, 0, none⟩), tokV t] w fun e w' => ∃ r1 r2 : Value, e = .returned (.tuple #[r1, r2]) ∧ RP w0 B (stepM s t) r1 r2 w' ∧ TokK w w' := by
  cases s with
  | ex n sk =>
    obtain ⟨vl, rows, ie, st, vs, wh, vw, rfl, hb, h⟩ := hp
    exact ex_any h hb t hs T
  | en n sk st =>
    obtain ⟨vl, rows, vs, wh, vw, rfl, hb, h⟩ := hp
    exact end_any_t h hb t hs T
  | b1 n sk wh =>
    obtain ⟨vl, rows, st, vs, vw, rfl, hb, h⟩ := hp
    exact bp_one h hb t
  | b2 n sk st wh =>
    obtain ⟨vl, rows, vs, vw, rfl, hb, h⟩ := hp
    exact bp_two h hb t
  | sl n sk wh =>
    obtain ⟨vl, rows, ie, st, vs, vw, rfl, hb, h⟩ := hp
    exact slash_any h hb t
  | bs n sk st wh =>
    obtain ⟨vl, rows, ie, vs, vw, rfl, hb, h⟩ := hp
    exact bs_any h hb t
  | be n sk wh =>
    obtain ⟨vl, rows, ie, st, vs, vw, rfl, hb, h⟩ := hp
    exact be_any h hb t
/-- a step taken at a world that keeps the tokens: what the loop keeps -/
theorem PSt.go {w0 w w' : World} {B : Nat} {s : St} (h : PSt w0 w B s) (k : Kp w w') : PSt w0 w' B s := by
  cases s with
  | ex n sk =>
    obtain ⟨vl, rows, ie, st, vs, wh, vw, e, hb, h⟩ := h
    exact ⟨vl, rows, ie, st, vs, wh, vw, e, hb, h.go k⟩
  | en n sk st =>
    obtain ⟨vl, rows, vs, wh, vw, e, hb, h⟩ := h
    exact ⟨vl, rows, vs, wh, vw, e, hb, h.go k⟩
  | b1 n sk wh =>
    obtain ⟨vl, rows, st, vs, vw, e, hb, h⟩ := h
    exact ⟨vl, rows, st, vs, vw, e, hb, h.go k⟩
  | b2 n sk st wh =>
    obtain ⟨vl, rows, vs, vw, e, hb, h⟩ := h
    exact ⟨vl, rows, vs, vw, e, hb, h.go k⟩
  | sl n sk wh =>
    obtain ⟨vl, rows, ie, st, vs, vw, e, hb, h⟩ := h
    exact ⟨vl, rows, ie, st, vs, vw, e, hb, h.go k⟩
  | bs n sk st wh =>
    obtain ⟨vl, rows, ie, vs, vw, e, hb, h⟩ := h
    exact ⟨vl, rows, ie, vs, vw, e, hb, h.go k⟩
  | be n sk wh =>
    obtain ⟨vl, rows, ie, st, vs, vw, e, hb, h⟩ := h
    exact ⟨vl, rows, ie, st, vs, vw, e, hb, h.go k⟩
theorem PSt.kp {w0 w : World} {B : Nat} {s : St} (h : PSt w0 w B s) : Kp w0 w := by
  cases s with
  | ex n sk => obtain ⟨vl, rows, ie, st, vs, wh, vw, e, hb, h⟩ := h; exact h.kp
  | en n sk st => obtain ⟨vl, rows, vs, wh, vw, e, hb, h⟩ := h; exact h.kp
  | b1 n sk wh => obtain ⟨vl, rows, st, vs, vw, e, hb, h⟩ := h; exact h.kp
  | b2 n sk st wh => obtain ⟨vl, rows, vs, vw, e, hb, h⟩ := h; exact h.kp
  | sl n sk wh => obtain ⟨vl, rows, ie, st, vs, vw, e, hb, h⟩ := h; exact h.kp
  | bs n sk st wh => obtain ⟨vl, rows, ie, vs, vw, e, hb, h⟩ := h; exact h.kp
  | be n sk wh => obtain ⟨vl, rows, ie, st, vs, vw, e, hb, h⟩ := h; exact h.kp
/-- the parser before its first token -/
theorem PSt.init {w0 w : World} {B : Nat} (k : Kp w0 w) (hB : w0.heap.size ≤ B) (hb : w.heap[B]? = some (.cells (boxP 0 (.slice none 0 0) false (.mk 0 ⟨0, ⟨#[]⟩, ⟨#[]⟩, ⟨#[]⟩⟩ false false []) (.slice none 0 0) (.mk 0 ⟨0, ⟨#[]⟩, ⟨#[]⟩, ⟨#[]⟩⟩ false false []) (.slice none 0 0)).toArray 52 (0, 0))) : PSt w0 w B (.ex 0 []) :=
  ⟨.slice none 0 0, [], false, .mk 0 ⟨0, ⟨#[]⟩, ⟨#[]⟩, ⟨#[]⟩⟩ false false [], .slice none 0 0, .mk 0 ⟨0, ⟨#[]⟩, ⟨#[]⟩, ⟨#[]⟩⟩ false false [], .slice none 0 0, rfl, ⟨by decide, by decide, by decide⟩,
    ⟨k, hB, hb, World.ownsRow_nil _ _ _ _, (fun r hr => by cases hr), (fun r hr => by cases hr), List.Pairwise.nil, Fnd.nil _ _ _, Fnd.nil _ _ _⟩⟩
end Go.Proofs.YtndmohamjffpcaaDoor

namespace Go.Proofs.YtndmohamjffpcaaDoor
open Go.RowKit Go.Shelf
set_option linter.unusedVariables false
set_option linter.unusedSimpArgs false
/-- where the loop over the tokens stands -/
def LpS (w1 wr : World) (B : Nat) (TS : List Tk) (k : Nat) (f : Value) : Prop :=
  (k < TS.length ∧ ∃ s, f = nextV B s ∧ PSt w1 wr B s ∧ runM (.ex 0 []) TS = runM s (TS.drop k)) ∨
  (k = TS.length ∧ ∃ n vl rows ie st vs wh vw, PM w1 wr B n vl rows ie st vs wh vw ∧ runM (.ex 0 []) TS = .ok wh)
theorem drop_tk {l : List Tk} {k : Nat} (h : k < l.length) : l.drop k = tk l k :: l.drop (k + 1) := by
  rw [List.drop_eq_getElem_cons h]
  unfold tk
  simp [List.getD, h]
theorem be_last {n : Nat} {sk : List (List ND)} {wh : ND} {t : Tk} (h : t.1 = 9) : ∀ s, beM n sk wh t ≠ .go s := by
  intro s
  unfold beM
  cases sk with
  | nil => simp only; rw [if_pos h]; intro e; cases e
  | cons a r => simp only; rw [if_neg (by omega), if_neg (by omega)]; intro e; cases e
theorem step_last {s : St} {t : Tk} (h : t.1 = 9) : ∀ s', stepM s t ≠ .go s' := by
  intro s' e
  cases s with
  | ex n sk =>
    have e1 : exM n sk t = .go s' := e
    unfold exM endM at e1
    rw [if_neg (by omega), if_neg (by omega)] at e1
    cases e1
  | en n sk st =>
    have e1 : endM n sk (some st) t = .go s' := e
    unfold endM at e1
    rw [if_neg (by omega)] at e1
    cases e1
  | b1 n sk wh =>
    have e1 : b1M n sk wh t = .go s' := e
    rw [b1_end (.inr (.inr h))] at e1
    exact be_last h _ e1
  | b2 n sk st wh =>
    have e1 : b2M n sk st wh t = .go s' := e
    rw [b2_end (.inr (.inr h))] at e1
    exact be_last h _ e1
  | sl n sk wh =>
    have e1 : slM n sk wh t = .go s' := e
    unfold slM at e1
    rw [if_neg (by omega)] at e1
    cases e1
  | bs n sk st wh => exact be_last h _ (show beM n sk (btN st wh) t = .go s' from e)
  | be n sk wh => exact be_last h _ (show beM n sk wh t = .go s' from e)
theorem be_stop {n : Nat} {sk : List (List ND)} {wh x : ND} {t : Tk} (h : beM n sk wh t = .stop x) : t.1 = 9 := by
  unfold beM at h
  cases sk with
  | nil => simp only at h; split at h <;> first | assumption | cases h
  | cons a r => simp only at h; split at h <;> first | cases h | (split at h <;> cases h)
theorem end_stop {n : Nat} {sk : List (List ND)} {o : Option ND} {x : ND} {t : Tk} (h : endM n sk o t = .stop x) : False := by
  unfold endM at h
  split at h
  · split at h
    · cases h
    · split at h
      · split at h <;> cases h
      · cases h
  · cases h
theorem sl_stop {n : Nat} {sk : List (List ND)} {wh x : ND} {t : Tk} (h : slM n sk wh t = .stop x) : False := by
  unfold slM at h
  split at h
  · split at h <;> cases h
  · cases h
theorem step_stop {s : St} {t : Tk} {x : ND} (h : stepM s t = .stop x) : t.1 = 9 := by
  cases s with
  | ex n sk =>
    have e1 : exM n sk t = .stop x := h
    unfold exM at e1
    split at e1
    · split at e1
      · cases e1
      · split at e1 <;> cases e1
    · exact (end_stop e1).elim
  | en n sk st => exact (end_stop (show endM n sk (some st) t = .stop x from h)).elim
  | b1 n sk wh =>
    have e1 : b1M n sk wh t = .stop x := h
    unfold b1M at e1
    split at e1
    · cases e1
    · split at e1
      · cases e1
      · split at e1
        · exact (sl_stop e1).elim
        · exact be_stop e1
  | b2 n sk st wh =>
    have e1 : b2M n sk st wh t = .stop x := h
    unfold b2M at e1
    split at e1
    · cases e1
    · split at e1
      · cases e1
      · exact be_stop e1
  | sl n sk wh => exact (sl_stop (show slM n sk wh t = .stop x from h)).elim
  | bs n sk st wh => exact be_stop (show beM n sk (btN st wh) t = .stop x from h)
  | be n sk wh => exact be_stop (show beM n sk wh t = .stop x from h)
theorem mis_ne (t : Tk) : misM t ≠ 0 := by unfold misM; split <;> decide
theorem be_er {n : Nat} {sk : List (List ND)} {wh : ND} {t : Tk} {x : Int} (h : beM n sk wh t = .er x) : x ≠ 0 := by
  unfold beM at h
  cases sk with
  | nil => simp only at h; split at h <;> cases h; exact mis_ne t
  | cons a r => simp only at h; split at h <;> first | cases h | (split at h <;> cases h; exact mis_ne t)
theorem end_er {n : Nat} {sk : List (List ND)} {o : Option ND} {x : Int} {t : Tk} (h : endM n sk o t = .er x) : x ≠ 0 := by
  unfold endM at h
  split at h
  · split at h
    · cases h; decide
    · split at h
      · split at h <;> cases h; decide
      · cases h
  · cases h; exact mis_ne t
theorem sl_er {n : Nat} {sk : List (List ND)} {wh : ND} {x : Int} {t : Tk} (h : slM n sk wh t = .er x) : x ≠ 0 := by
  unfold slM at h
  split at h
  · split at h <;> cases h; decide
  · cases h; exact mis_ne t
theorem step_er {s : St} {t : Tk} {x : Int} (h : stepM s t = .er x) : x ≠ 0 := by
  cases s with
  | ex n sk =>
    have e1 : exM n sk t = .er x := h
    unfold exM at e1
    split at e1
    · split at e1
      · cases e1; decide
      · split at e1 <;> cases e1; decide
    · exact end_er e1
  | en n sk st => exact end_er (show endM n sk (some st) t = .er x from h)
  | b1 n sk wh =>
    have e1 : b1M n sk wh t = .er x := h
    unfold b1M at e1
    split at e1
    · cases e1
    · split at e1
      · cases e1
      · split at e1
        · exact sl_er e1
        · exact be_er e1
  | b2 n sk st wh =>
    have e1 : b2M n sk st wh t = .er x := h
    unfold b2M at e1
    split at e1
    · cases e1
    · split at e1
      · cases e1
      · exact be_er e1
  | sl n sk wh => exact sl_er (show slM n sk wh t = .er x from h)
  | bs n sk st wh => exact be_er (show beM n sk (btN st wh) t = .er x from h)
  | be n sk wh => exact be_er (show beM n sk wh t = .er x from h)
def POut (base : Nat) (s : ByteArray) (o : Out) (e : Ending) (w' : World) : Prop :=
  match o with
  | .ok n => ∃ v, e = .returned (.tuple #[ndV n v, .int .i64 (s.size : Nat), .int .i64 0]) ∧ Fnd w' base (fun _ => False) v n.l
  | .er a x => e = .returned (.tuple #[.agg #[.int .i64 0, .int .i64 0, .string ⟨#[]⟩, .string ⟨#[]⟩, .string ⟨#[]⟩, .bool false, .bool false, .slice none 0 0], .int .i64 a, .int .i64 x])
theorem Fnd.mono {w : World} {base base' : Nat} {O : Nat → Prop} {v : Value} {l : List ND} (h : Fnd w base O v l) (hb : base' ≤ base) : Fnd w base' O v l := by
  induction h with
  | row v m own off sub ih => exact .row v m (own_mono own hb) off ih
abbrev paA0 : Oper := { dst := some 38, op := Go.Op.build 26 #[], type := 26, pos := "parse.go:22", after := #[], guard := none }
abbrev paA1 : Oper := { dst := some 39, op := Go.Op.fieldAddr 56 (Go.Operand.tmp 11) 1, type := 0, pos := "parse.go:22", after := #[{ on := 4, ground := Go.Ground.gcOnly Go.Departure.lateStores }], guard := none }
abbrev paA2 : Oper := { dst := some 40, op := Go.Op.load 3 (Go.Operand.tmp 39), type := 3, pos := "parse.go:22", after := #[{ on := 1, ground := Go.Ground.data }, { on := 4, ground := Go.Ground.gcOnly Go.Departure.lateStores }], guard := none }
abbrev paA3 : Oper := { dst := some 41, op := Go.Op.move (Go.Operand.tmp 7), type := 30, pos := "parse.go:22", after := #[{ on := 5, ground := Go.Ground.gcOnly Go.Departure.lateStores }], guard := none }
abbrev paA4 : Oper := { dst := none, op := Go.Op.store 26 (Go.Operand.tmp 2) (Go.Operand.tmp 38), type := 0, pos := "parse.go:22", after := #[{ on := 0, ground := Go.Ground.data }, { on := 0, ground := Go.Ground.phase }, { on := 1, ground := Go.Ground.textOnly Go.Departure.lateStores }, { on := 2, ground := Go.Ground.textOnly Go.Departure.lateStores }, { on := 3, ground := Go.Ground.textOnly Go.Departure.lateStores }], guard := none }
abbrev paA5 : Oper := { dst := some 3, op := Go.Op.assign (Go.Operand.tmp 40), type := 3, pos := "parse.go:22", after := #[{ on := 2, ground := Go.Ground.data }, { on := 4, ground := Go.Ground.chain }, { on := 0, ground := Go.Ground.phase }, { on := 1, ground := Go.Ground.phase }, { on := 2, ground := Go.Ground.phase }, { on := 3, ground := Go.Ground.textOnly Go.Departure.lateStores }, { on := 4, ground := Go.Ground.phase }], guard := none }
abbrev paA6 : Oper := { dst := some 4, op := Go.Op.assign (Go.Operand.tmp 41), type := 30, pos := "parse.go:22", after := #[{ on := 3, ground := Go.Ground.data }, { on := 5, ground := Go.Ground.chain }, { on := 0, ground := Go.Ground.phase }, { on := 1, ground := Go.Ground.phase }, { on := 2, ground := Go.Ground.phase }, { on := 3, ground := Go.Ground.phase }, { on := 4, ground := Go.Ground.phase }, { on := 5, ground := Go.Ground.phase }], guard := none }
set_option maxHeartbeats 16000000 in
set_option maxRecDepth 100000 in
theorem parse_tok (s : ByteArray) (ts : List Tk) (w : World) (hs : s.size ≤ 2000) (hx : Lx s.data.toList 0 ts none) (hl : ts.length ≤ 2000) (T : TabSH w) (hz : ∀ t ∈ ts, (bs t.2.2).size ≤ 3000 ∧ t.1 ≠ 9) :
    Calls Tryd.prog 12 #[.string s] w fun e w' => Kp w w' ∧ POut w.heap.size s (runM (.ex 0 []) (ts ++ [endT s])) e w' := by
  have hmf : ∀ (fn : Fn) (first cap : Array Value) (w : World), (Instr.makeFunc fn first cap).run Tryd.prog w = .ok (.func fn first cap) w := fun _ _ _ _ => rfl
  have LA := Lib.hid (fun w1 => lallN s ts w1 hs hx)
  have HT := Lib.hid T
  have HZ := Lib.hid hz
  have hTL : (ts ++ [endT s]).length = ts.length + 1 := by simp
  obtain ⟨TS, hTS⟩ : ∃ x, x = ts ++ [endT s] := ⟨_, rfl⟩
  rw [← hTS] at LA hTL ⊢
  have HTS := Lib.hid hTS
  have HTL := Lib.hid hTL
  have hTB : TS.length ≤ 2001 := by omega
  clear hx T hz hTS hTL
  go_enter Tryd.func12, Tryd.ntmps12
  have gA := heap_at w (.cells #[.int .i64 0, .int .i64 0, .string ⟨#[]⟩, .string ⟨#[]⟩, .string ⟨#[]⟩, .bool false, .bool false, .slice none 0 0] 26) w.heap.size rfl
  have GA := Lib.hid gA
  clear gA
  go_wp2_with fail
  refine (LA.out _).mono ?_
  rintro e w1 ⟨v1, rfl, t1, kk⟩
  have K1 := Lib.hid ((Kp.alloc _ _).trans kk)
  have GA1 := Lib.hid (heap_block kk GA.out)
  have lw1 : w.heap.size < w1.heap.size := (Array.getElem?_eq_some_iff.1 GA1.out).1
  obtain ⟨ad1, cc1, rfl⟩ := t1.slice
  have R0 := Lib.hid t1
  clear kk t1
  have z1 : w1.heap.size = w1.heap.size := rfl
  go_wp2
  go_loopw [7, 9, 26] (fun u7 u9 u26 wr => ∃ k : Nat, k ≤ TS.length ∧ u7 = .int .i64 0 ∧ u26 = .int .i64 k ∧ Hid (LpS w1 wr w1.heap.size TS k u9)) (fun _ _ u26 _ => TS.length - (intOf u26).toNat)
  case atStart => exact ⟨0, Nat.zero_le _, rfl, rfl, Lib.hid (.inl ⟨by rw [HTL.out]; omega, .ex 0 [], rfl, PSt.init (Kp.alloc _ _) (Nat.le_refl _) (heap_at _ _ _ rfl), rfl⟩)⟩
  case round =>
    obtain ⟨k, hk, rfl, rfl, L⟩ := hrel
    by_cases hlt : k < TS.length
    · rcases L.out with ⟨_, s1, rfl, hp, hr⟩ | ⟨e, _⟩
      rotate_left
      · omega
      have hkp := hp.kp
      have hszw := Below.size hkp
      rcases R0.out with ⟨_, _, _, e⟩ | ⟨b, off, cap, ev, hc, hm, hx⟩
      · rw [e] at hlt; simp at hlt
      cases ev
      obtain ⟨d1, d2, d3⟩ := rd_tok hx hkp k hlt
      have hmem : tk TS k ∈ TS := tk_mem hlt
      have hsz : (bs (tk TS k).2.2).size ≤ 3000 := by
        rw [HTS.out] at hmem ⊢
        rcases List.mem_append.1 hmem with h | h
        · exact (HZ.out _ h).1
        · rw [List.mem_singleton.1 h]; exact Nat.zero_le _
      have hnf : nextF s1 = 26 ∨ nextF s1 = 40 ∨ nextF s1 = 59 ∨ nextF s1 = 61 ∨ nextF s1 = 60 ∨ nextF s1 = 67 := by cases s1 <;> simp [nextF]
      have SA := fun w2 (q : Kp wr w2) => step_any s1 (hp.go q) (tk TS k) hsz (HT.out.kp K1.out)
      have h9 : (tk TS k).1 = 9 → k + 1 = TS.length := fun h => by
        rw [HTS.out] at h hlt ⊢
        by_cases c : k < ts.length
        · have q : tk (ts ++ [endT s]) k = tk ts k := by unfold tk; simp [List.getD, List.getElem?_append_left c]
          rw [q] at h
          exact ((HZ.out _ (tk_mem c)).2 h).elim
        · simp at hlt ⊢; omega
      have hl9 : k + 1 = TS.length → (tk TS k).1 = 9 := fun h => by
        rw [HTS.out] at h ⊢
        have e : k = ts.length := by simp at h; omega
        subst e
        unfold tk
        simp [List.getD, endT]
      rw [drop_tk hlt] at hr
      have HG := Lib.hid (fun s2 (e : stepM s1 (tk TS k) = .go s2) => show k + 1 < TS.length ∧ runM (.ex 0 []) TS = runM s2 (TS.drop (k + 1)) from ⟨by rcases Nat.lt_or_ge (k + 1) TS.length with c | c; exact c; exact (step_last (hl9 (by omega)) _ e).elim, hr.trans (run_go e _)⟩)
      have HO := Lib.hid (fun n (e : stepM s1 (tk TS k) = .stop n) => show k + 1 = TS.length ∧ runM (.ex 0 []) TS = .ok n from ⟨h9 (step_stop e), hr.trans (run_stop e _)⟩)
      have HE := Lib.hid (fun x (e : stepM s1 (tk TS k) = .er x) => show runM (.ex 0 []) TS = .er (tk TS k).2.1 x from hr.trans (run_er e _))
      clear hr h9 hl9 hsz hmem hx hkp L hp
      rw [nextV_eq]
      unfold fnV
      generalize tk TS k = tkk at *
      obtain ⟨y, i, x⟩ := tkk
      unfold tokV at SA
      simp only at SA d1 d2 d3
      have x1 : (0 : Int) ≤ (k : Int) := by omega
      have x2 : (k : Int) < TS.length := by omega
      rcases hst : stepM s1 (y, i, x) with s2 | n2 | e2
      · rw [hst] at SA
        have SAH := Lib.hid SA
        have HST := Lib.hid hst
        clear SA hst
        generalize nextF s1 = nf at *
        rcases hnf with rfl | rfl | rfl | rfl | rfl | rfl
        all_goals
          go_wp2_with fail
          refine (SAH.out _ (Kp.alloc _ _)).mono ?_
          rintro e w3 ⟨r1, r2, rfl, ⟨rfl, rfl, hp3⟩, tk3⟩
          have LN := Lib.hid (show LpS w1 w3 w1.heap.size TS (k + 1) (nextV w1.heap.size s2) from .inl ⟨(HG.out s2 HST.out).1, s2, rfl, hp3, (HG.out s2 HST.out).2⟩)
          clear hp3 tk3
          go_wp2
          go_roundw
          case rel => exact ⟨k + 1, by omega, rfl, by go_num, LN.out⟩
          case measure => simp [intOf]; omega
      · rw [hst] at SA
        have SAH := Lib.hid SA
        have HST := Lib.hid hst
        clear SA hst
        generalize nextF s1 = nf at *
        rcases hnf with rfl | rfl | rfl | rfl | rfl | rfl
        all_goals
          go_wp2_with fail
          refine (SAH.out _ (Kp.alloc _ _)).mono ?_
          rintro e w3 ⟨r1, r2, rfl, ⟨rfl, n3, vl3, rows3, ie3, st3, vs3, vw3, h3⟩, tk3⟩
          have LN := Lib.hid (show LpS w1 w3 w1.heap.size TS (k + 1) r1 from .inr ⟨(HO.out n2 HST.out).1, n3, vl3, rows3, ie3, st3, vs3, n2, vw3, h3, (HO.out n2 HST.out).2⟩)
          clear h3 tk3
          go_wp2
          go_roundw
          case rel => exact ⟨k + 1, by omega, rfl, by go_num, LN.out⟩
          case measure => simp [intOf]; omega
      · rw [hst] at SA
        have SAH := Lib.hid SA
        have HST := Lib.hid hst
        have e0 : (e2 == 0) = false := beq_eq_false_iff_ne.2 (step_er hst)
        have e0' : (e2 != 0) = true := by simp [step_er hst]
        have lwr : w.heap.size < wr.heap.size := Nat.lt_of_lt_of_le lw1 hszw
        clear SA hst
        generalize nextF s1 = nf at *
        rcases hnf with rfl | rfl | rfl | rfl | rfl | rfl
        all_goals
          go_wp2_with fail
          refine (SAH.out _ (Kp.alloc _ _)).mono ?_
          rintro e w3 ⟨r1, r2, rfl, ⟨rfl, k3⟩, tk3⟩
          have gT := tk3 _ _ _ (heap_at wr (.cells #[.int .i64 y, .int .i64 i, .string (bs x)] 56) wr.heap.size rfl)
          have sT3 : w3.cell? ⟨wr.heap.size, 1, none⟩ = some (.int .i64 i) := by simp [World.cell?, gT]
          have k4 := k3.trans (Kp.drew w3)
          have g3 := heap_block k4 GA1.out
          have gT4 := heap_block (Kp.drew w3) gT
          have TH := Lib.hid (there_in g3 0 8 (by decide))
          obtain ⟨F, hF⟩ : ∃ X, X = w3.drew.setCells w.heap.size 0 [.int .i64 0, .int .i64 0, .string ⟨#[]⟩, .string ⟨#[]⟩, .string ⟨#[]⟩, .bool false, .bool false, .slice none 0 0] := ⟨_, rfl⟩
          have gF := sets_heap [.int .i64 0, .int .i64 0, .string ⟨#[]⟩, .string ⟨#[]⟩, .string ⟨#[]⟩, .bool false, .bool false, .slice none 0 0] 0 g3
          rw [← hF] at gF
          have hs8 : setsA #[.int .i64 0, .int .i64 0, .string ⟨#[]⟩, .string ⟨#[]⟩, .string ⟨#[]⟩, .bool false, .bool false, .slice none 0 0] 0 [.int .i64 0, .int .i64 0, .string ⟨#[]⟩, .string ⟨#[]⟩, .string ⟨#[]⟩, .bool false, .bool false, .slice none 0 0] = #[.int .i64 0, .int .i64 0, .string ⟨#[]⟩, .string ⟨#[]⟩, .string ⟨#[]⟩, .bool false, .bool false, .slice none 0 0] := by kernel_rfl
          rw [hs8] at gF
          have sTF : F.cell? ⟨wr.heap.size, 1, none⟩ = some (.int .i64 i) := by
            have hn : wr.heap.size ≠ w.heap.size := by omega
            have := sets_other (w := w3.drew) hn [.int .i64 0, .int .i64 0, .string ⟨#[]⟩, .string ⟨#[]⟩, .string ⟨#[]⟩, .bool false, .bool false, .slice none 0 0] 0
            rw [← hF] at this
            simp [World.cell?, this, gT4]
          have KF := Lib.hid (show Kp w F by rw [hF]; exact kp_sets (Nat.le_refl _) _ 0 (K1.out.trans k4))
          obtain ⟨x0, x1, x2, x3, x4, x5, x6, x7⟩ := row8 gF
          have HF := Lib.hid hF
          clear k3 k4 tk3 gT gT4 g3 hF gF hs8
          go_wp2_with fail
          refine wp_region_held_drew (S := fun w' => w'.cell? ⟨wr.heap.size, 1, none⟩ = some (.int .i64 i)) (by kernel_rfl) ?_ (fun hHeld0 => ?_)
          · (try dsimp only); first | exact sT3 | exact sTF
          refine tkW (v := ?_) 0 paA0 rfl (by kernel_rfl) (by kernel_rfl) (by kernel_rfl) (fun _ _ _ h => h) (by rfl) ?_ (by assumption) ?_
          rotate_left
          · intro w hSw; (try dsimp only at hSw); go_simp; (try with_reducible rfl)
          (try simp only [Act.put, paA0, List.setIfInBounds_toArray, List.set_cons_zero, List.set_cons_succ])
          refine tkW (v := ?_) 1 paA1 rfl (by kernel_rfl) (by kernel_rfl) (by kernel_rfl) (fun _ _ _ h => h) (by rfl) ?_ (by assumption) ?_
          rotate_left
          · intro w hSw; (try dsimp only at hSw); go_simp; (try with_reducible rfl)
          (try simp only [Act.put, paA1, List.setIfInBounds_toArray, List.set_cons_zero, List.set_cons_succ])
          refine tkW (v := ?_) 2 paA2 rfl (by kernel_rfl) (by kernel_rfl) (by kernel_rfl) (fun _ _ _ h => h) (by rfl) ?_ (by assumption) ?_
          rotate_left
          · intro w hSw; (try dsimp only at hSw); go_simp; (try with_reducible rfl)
          (try simp only [Act.put, paA2, List.setIfInBounds_toArray, List.set_cons_zero, List.set_cons_succ])
          refine tkW (v := ?_) 3 paA3 rfl (by kernel_rfl) (by kernel_rfl) (by kernel_rfl) (fun _ _ _ h => h) (by rfl) ?_ (by assumption) ?_
          rotate_left
          · intro w hSw; (try dsimp only at hSw); go_simp; (try with_reducible rfl)
          (try simp only [Act.put, paA3, List.setIfInBounds_toArray, List.set_cons_zero, List.set_cons_succ])
          refine tkE 4 paA4 rfl (by kernel_rfl) (fun K hK => ?_)
          (refine ce_store rfl 26 (.tmp 2) (.tmp 38) rfl w.heap.size 0 [.int .i64 0, .int .i64 0, .string ⟨#[]⟩, .string ⟨#[]⟩, .string ⟨#[]⟩, .bool false, .bool false, .slice none 0 0] (by simp [Act.eval, Act.put]) (by simp [Act.eval, Act.put]) TH.out (by kernel_rfl) (all_oneCell_toArray (by intro v hv; simp only [List.mem_cons, List.not_mem_nil, or_false] at hv; rcases hv with rfl | rfl | rfl | rfl | rfl | rfl | rfl | rfl <;> rfl)) HF.out.symm ?_)
          (try go_wp2_with fail)
          refine hK.out _ _ ?_ (fun hHeld1 => ?_)
          · (try dsimp only); first | exact sT3 | exact sTF
          clear hK K hHeld0
          (try simp only [Act.put, paA4, List.setIfInBounds_toArray, List.set_cons_zero, List.set_cons_succ])
          refine tkW (v := ?_) 5 paA5 rfl (by kernel_rfl) (by kernel_rfl) (by kernel_rfl) (fun _ _ _ h => h) (by rfl) ?_ (by assumption) ?_
          rotate_left
          · intro w hSw; (try dsimp only at hSw); go_simp; (try with_reducible rfl)
          (try simp only [Act.put, paA5, List.setIfInBounds_toArray, List.set_cons_zero, List.set_cons_succ])
          refine tkW (v := ?_) 6 paA6 rfl (by kernel_rfl) (by kernel_rfl) (by kernel_rfl) (fun _ _ _ h => h) (by rfl) ?_ (by assumption) ?_
          rotate_left
          · intro w hSw; (try dsimp only at hSw); go_simp; (try with_reducible rfl)
          (try simp only [Act.put, paA6, List.setIfInBounds_toArray, List.set_cons_zero, List.set_cons_succ])
          refine wpAnyH_done (by kernel_rfl) ?_ _
          go_wp2
          refine bodyPost_ret (v := .tuple #[.agg #[.int .i64 0, .int .i64 0, .string ⟨#[]⟩, .string ⟨#[]⟩, .string ⟨#[]⟩, .bool false, .bool false, .slice none 0 0], .int .i64 i, .int .i64 e2]) (by simp [results, Tryd.results12, go_sem, x0, x1, x2, x3, x4, x5, x6, x7]) rfl ⟨KF.out, ?_⟩
          rw [HE.out e2 HST.out]
          exact rfl
    · rcases L.out with ⟨e, _⟩ | ⟨e, n3, vl3, rows3, ie3, st3, vs3, wh3, vw3, h3, hrun⟩
      · omega
      have q3 : decide ((k : Int) < TS.length) = false := by simp; omega
      have gw := heap_block h3.kp GA1.out
      obtain ⟨a0, a1, a2, a3, a4, a5, a6, a7⟩ := row8 gw
      have fa : ∀ i, wr.frozen? ⟨w.heap.size, i, none⟩ = false := fun i => by simp [World.frozen?, gw]
      have f0 := fa 0
      have f1 := fa 1
      have f2 := fa 2
      have f3 := fa 3
      have f4 := fa 4
      have f5 := fa 5
      have f6 := fa 6
      have f7 := fa 7
      obtain ⟨ad3, c3, rfl⟩ := h3.fw.slice
      obtain ⟨-, -, -, -, -, -, -, -, -, -, -, p11, p12, p13, p14, p15, p16, p17, p18⟩ := h3.c19
      have lwr : w.heap.size < wr.heap.size := (Array.getElem?_eq_some_iff.1 gw).1
      have H3 := Lib.hid h3
      have HR := Lib.hid hrun
      obtain ⟨W, hW⟩ : ∃ X, X = wr.setCells w.heap.size 0 [.int .i64 wh3.k, .int .i64 wh3.p.k, .string wh3.p.y, .string wh3.p.m, .string wh3.p.d, .bool wh3.a, .bool wh3.t, .slice ad3 wh3.l.length c3] := ⟨_, rfl⟩
      have gW := sets_heap [.int .i64 wh3.k, .int .i64 wh3.p.k, .string wh3.p.y, .string wh3.p.m, .string wh3.p.d, .bool wh3.a, .bool wh3.t, .slice ad3 wh3.l.length c3] 0 gw
      rw [← hW] at gW
      have hs8 : setsA #[.int .i64 0, .int .i64 0, .string ⟨#[]⟩, .string ⟨#[]⟩, .string ⟨#[]⟩, .bool false, .bool false, .slice none 0 0] 0 [.int .i64 wh3.k, .int .i64 wh3.p.k, .string wh3.p.y, .string wh3.p.m, .string wh3.p.d, .bool wh3.a, .bool wh3.t, .slice ad3 wh3.l.length c3] = #[.int .i64 wh3.k, .int .i64 wh3.p.k, .string wh3.p.y, .string wh3.p.m, .string wh3.p.d, .bool wh3.a, .bool wh3.t, .slice ad3 wh3.l.length c3] := by kernel_rfl
      rw [hs8] at gW
      have KW := Lib.hid (show Kp w W by rw [hW]; exact kp_sets (Nat.le_refl _) _ 0 (K1.out.trans h3.kp))
      have NW := Lib.hid (show Fnd W w.heap.size (fun _ => False) (.slice ad3 wh3.l.length c3) wh3.l by
        rw [hW]
        exact (h3.fw.keep (O' := fun _ => False) (fun j c hb _ hj => by rw [sets_other (by omega)]; exact hj) (fun j hj _ => hj.elim)).mono (Nat.le_of_lt lw1))
      obtain ⟨x0, x1, x2, x3, x4, x5, x6, x7⟩ := row8 gW
      have HW := Lib.hid hW
      clear L h3 hrun fa gw gW hs8 hW
      go_wp2
      refine (?_ : bodyPost _ _ _ _ _ (wr.setCells w.heap.size 0 [.int .i64 wh3.k, .int .i64 wh3.p.k, .string wh3.p.y, .string wh3.p.m, .string wh3.p.d, .bool wh3.a, .bool wh3.t, .slice ad3 wh3.l.length c3]))
      rw [← HW.out]
      refine bodyPost_ret (v := .tuple #[.agg #[.int .i64 wh3.k, .int .i64 wh3.p.k, .string wh3.p.y, .string wh3.p.m, .string wh3.p.d, .bool wh3.a, .bool wh3.t, .slice ad3 wh3.l.length c3], .int .i64 (s.size : Nat), .int .i64 0]) (by simp [results, Tryd.results12, go_sem, x0, x1, x2, x3, x4, x5, x6, x7]) rfl ⟨KW.out, ?_⟩
      rw [HR.out]
      exact ⟨_, rfl, NW.out⟩
end Go.Proofs.YtndmohamjffpcaaDoor

namespace Go.Proofs.YtndmohamjffpcaaDoor
open Go.RowKit Go.Shelf
set_option linter.unusedVariables false
set_option linter.unusedSimpArgs false
set_option maxHeartbeats 16000000 in
set_option maxRecDepth 100000 in
theorem parse_sign (s : ByteArray) (w : World) (ts : List Tk) (q : Nat) (hs : s.size ≤ 2000) (hx : Lx s.data.toList 0 ts (some q)) : Calls Tryd.prog 12 #[.string s] w fun e w' => Kp w w' ∧ e = .returned (.tuple #[.agg #[.int .i64 0, .int .i64 0, .string ⟨#[]⟩, .string ⟨#[]⟩, .string ⟨#[]⟩, .bool false, .bool false, .slice none 0 0], .int .i64 (q : Nat), .int .i64 1]) := by
  have LA := Lib.hid (fun w1 => lallS s ts q w1 hs hx)
  clear hs hx
  have GA := Lib.hid (heap_at w (.cells #[.int .i64 0, .int .i64 0, .string ⟨#[]⟩, .string ⟨#[]⟩, .string ⟨#[]⟩, .bool false, .bool false, .slice none 0 0] 26) w.heap.size rfl)
  go_enter Tryd.func12, Tryd.ntmps12
  go_wp2_with fail
  refine (LA.out _).mono ?_
  rintro e w1 ⟨rfl, kk⟩
  have K1 := Lib.hid ((Kp.alloc _ _).trans kk)
  have gw := heap_block kk GA.out
  obtain ⟨a0, a1, a2, a3, a4, a5, a6, a7⟩ := row8 gw
  have fa : ∀ i, w1.frozen? ⟨w.heap.size, i, none⟩ = false := fun i => by simp [World.frozen?, gw]
  have f0 := fa 0
  have f1 := fa 1
  have f2 := fa 2
  have f3 := fa 3
  have f4 := fa 4
  have f5 := fa 5
  have f6 := fa 6
  have f7 := fa 7
  obtain ⟨W, hW⟩ : ∃ X, X = w1.setCells w.heap.size 0 [.int .i64 0, .int .i64 0, .string ⟨#[]⟩, .string ⟨#[]⟩, .string ⟨#[]⟩, .bool false, .bool false, .slice none 0 0] := ⟨_, rfl⟩
  have gW := sets_heap [.int .i64 0, .int .i64 0, .string ⟨#[]⟩, .string ⟨#[]⟩, .string ⟨#[]⟩, .bool false, .bool false, .slice none 0 0] 0 gw
  rw [← hW] at gW
  have hs8 : setsA #[.int .i64 0, .int .i64 0, .string ⟨#[]⟩, .string ⟨#[]⟩, .string ⟨#[]⟩, .bool false, .bool false, .slice none 0 0] 0 [.int .i64 0, .int .i64 0, .string ⟨#[]⟩, .string ⟨#[]⟩, .string ⟨#[]⟩, .bool false, .bool false, .slice none 0 0] = #[.int .i64 0, .int .i64 0, .string ⟨#[]⟩, .string ⟨#[]⟩, .string ⟨#[]⟩, .bool false, .bool false, .slice none 0 0] := by kernel_rfl
  rw [hs8] at gW
  have KW := Lib.hid (show Kp w W by rw [hW]; exact kp_sets (Nat.le_refl _) _ 0 K1.out)
  obtain ⟨x0, x1, x2, x3, x4, x5, x6, x7⟩ := row8 gW
  have HW := Lib.hid hW
  clear kk fa gw gW hs8 hW
  go_wp2
  refine (?_ : bodyPost _ _ _ _ _ (w1.setCells w.heap.size 0 [.int .i64 0, .int .i64 0, .string ⟨#[]⟩, .string ⟨#[]⟩, .string ⟨#[]⟩, .bool false, .bool false, .slice none 0 0]))
  rw [← HW.out]
  refine bodyPost_ret (v := .tuple #[.agg #[.int .i64 0, .int .i64 0, .string ⟨#[]⟩, .string ⟨#[]⟩, .string ⟨#[]⟩, .bool false, .bool false, .slice none 0 0], .int .i64 (q : Nat), .int .i64 1]) (by simp [results, Tryd.results12, go_sem, x0, x1, x2, x3, x4, x5, x6, x7]) rfl ⟨KW.out, rfl⟩
set_option maxHeartbeats 16000000 in
set_option maxRecDepth 100000 in
theorem parse_long (s : ByteArray) (w : World) (hs : 2000 < s.size) (hs2 : s.size ≤ maxLen) : Calls Tryd.prog 12 #[.string s] w fun e w' => Kp w w' ∧ e = .returned (.tuple #[.agg #[.int .i64 0, .int .i64 0, .string ⟨#[]⟩, .string ⟨#[]⟩, .string ⟨#[]⟩, .bool false, .bool false, .slice none 0 0], .int .i64 2000, .int .i64 7]) := by
  have LA := Lib.hid (fun w1 => lallW s w1 hs hs2)
  clear hs hs2
  have GA := Lib.hid (heap_at w (.cells #[.int .i64 0, .int .i64 0, .string ⟨#[]⟩, .string ⟨#[]⟩, .string ⟨#[]⟩, .bool false, .bool false, .slice none 0 0] 26) w.heap.size rfl)
  go_enter Tryd.func12, Tryd.ntmps12
  go_wp2_with fail
  refine (LA.out _).mono ?_
  rintro e w1 ⟨rfl, kk⟩
  have K1 := Lib.hid ((Kp.alloc _ _).trans kk)
  have gw := heap_block kk GA.out
  obtain ⟨a0, a1, a2, a3, a4, a5, a6, a7⟩ := row8 gw
  have fa : ∀ i, w1.frozen? ⟨w.heap.size, i, none⟩ = false := fun i => by simp [World.frozen?, gw]
  have f0 := fa 0
  have f1 := fa 1
  have f2 := fa 2
  have f3 := fa 3
  have f4 := fa 4
  have f5 := fa 5
  have f6 := fa 6
  have f7 := fa 7
  obtain ⟨W, hW⟩ : ∃ X, X = w1.setCells w.heap.size 0 [.int .i64 0, .int .i64 0, .string ⟨#[]⟩, .string ⟨#[]⟩, .string ⟨#[]⟩, .bool false, .bool false, .slice none 0 0] := ⟨_, rfl⟩
  have gW := sets_heap [.int .i64 0, .int .i64 0, .string ⟨#[]⟩, .string ⟨#[]⟩, .string ⟨#[]⟩, .bool false, .bool false, .slice none 0 0] 0 gw
  rw [← hW] at gW
  have hs8 : setsA #[.int .i64 0, .int .i64 0, .string ⟨#[]⟩, .string ⟨#[]⟩, .string ⟨#[]⟩, .bool false, .bool false, .slice none 0 0] 0 [.int .i64 0, .int .i64 0, .string ⟨#[]⟩, .string ⟨#[]⟩, .string ⟨#[]⟩, .bool false, .bool false, .slice none 0 0] = #[.int .i64 0, .int .i64 0, .string ⟨#[]⟩, .string ⟨#[]⟩, .string ⟨#[]⟩, .bool false, .bool false, .slice none 0 0] := by kernel_rfl
  rw [hs8] at gW
  have KW := Lib.hid (show Kp w W by rw [hW]; exact kp_sets (Nat.le_refl _) _ 0 K1.out)
  obtain ⟨x0, x1, x2, x3, x4, x5, x6, x7⟩ := row8 gW
  have HW := Lib.hid hW
  clear kk fa gw gW hs8 hW
  go_wp2
  refine (?_ : bodyPost _ _ _ _ _ (w1.setCells w.heap.size 0 [.int .i64 0, .int .i64 0, .string ⟨#[]⟩, .string ⟨#[]⟩, .string ⟨#[]⟩, .bool false, .bool false, .slice none 0 0]))
  rw [← HW.out]
  refine bodyPost_ret (v := .tuple #[.agg #[.int .i64 0, .int .i64 0, .string ⟨#[]⟩, .string ⟨#[]⟩, .string ⟨#[]⟩, .bool false, .bool false, .slice none 0 0], .int .i64 2000, .int .i64 7]) (by simp [results, Tryd.results12, go_sem, x0, x1, x2, x3, x4, x5, x6, x7]) rfl ⟨KW.out, rfl⟩
end Go.Proofs.YtndmohamjffpcaaDoor

namespace Go.Proofs.YtndmohamjffpcaaDoor
open Go.RowKit Go.Shelf
set_option linter.unusedVariables false
set_option linter.unusedSimpArgs false
/-- what a text is parsed to -/
def PR (s : ByteArray) (o : Out) : Prop :=
  (s.size ≤ 2000 ∧ ∃ ts, Lx s.data.toList 0 ts none ∧ o = runM (.ex 0 []) (ts ++ [endT s])) ∨
  (s.size ≤ 2000 ∧ ∃ ts, ∃ q : Nat, Lx s.data.toList 0 ts (some q) ∧ o = .er (q : Int) 1) ∨
  (2000 < s.size ∧ o = .er 2000 7)
def outN : Out → ND | .ok n => n | .er _ _ => nd0
def outA (s : ByteArray) : Out → Int | .ok _ => (s.size : Nat) | .er a _ => a
def outE : Out → Int | .ok _ => 0 | .er _ e => e
theorem pr_ex (s : ByteArray) : ∃ o, PR s o := by
  by_cases h : s.size ≤ 2000
  · obtain ⟨ts, e, hl⟩ := lx_ex s.data.toList 0
    cases e with
    | none => exact ⟨_, .inl ⟨h, ts, hl, rfl⟩⟩
    | some q => exact ⟨_, .inr (.inl ⟨h, ts, q, hl, rfl⟩)⟩
  · exact ⟨_, .inr (.inr ⟨by omega, rfl⟩)⟩
theorem lx_no9 {l : List UInt8} {p : Nat} {ts : List Tk} {e : Option Nat} (h : Lx l p ts e) : ∀ t ∈ ts, t.1 ≠ 9 := by
  intro t ht
  have := lx_good h t ht
  unfold goodT at this
  omega
theorem size_list (s : ByteArray) : s.data.toList.length = s.size := by rw [Array.length_toList]; rfl
theorem parse_any {s : ByteArray} {o : Out} (h : PR s o) (w : World) (hs : s.size ≤ maxLen) (T : TabSH w) :
    Calls Tryd.prog 12 #[.string s] w fun x w' => ∃ ad cp, x = .returned (.tuple #[.agg #[.int .i64 (outN o).k, .int .i64 (outN o).p.k, .string (outN o).p.y, .string (outN o).p.m, .string (outN o).p.d, .bool (outN o).a, .bool (outN o).t, .slice ad (outN o).l.length cp], .int .i64 (outA s o), .int .i64 (outE o)]) ∧ Fnd w' w.heap.size (fun _ => False) (.slice ad (outN o).l.length cp) (outN o).l ∧ Kp w w' := by
  rcases h with ⟨h1, ts, hl, rfl⟩ | ⟨h1, ts, q, hl, rfl⟩ | ⟨h1, rfl⟩
  · have hz : ∀ t ∈ ts, (bs t.2.2).size ≤ 3000 ∧ t.1 ≠ 9 := fun t ht => by
      have a := lx_txt hl t ht
      rw [size_list] at a
      exact ⟨by rw [bs_size]; omega, lx_no9 hl t ht⟩
    have hn : ts.length ≤ 2000 := by have := lx_len hl; rw [size_list] at this; omega
    refine (parse_tok s ts w h1 hl hn T hz).mono ?_
    rintro e w' ⟨k, p⟩
    generalize runM (.ex 0 []) (ts ++ [endT s]) = o at *
    cases o with
    | ok n =>
      obtain ⟨v, rfl, f⟩ := p
      obtain ⟨ad, c, rfl⟩ := f.slice
      exact ⟨ad, c, rfl, f, k⟩
    | er a x =>
      have p' : e = _ := p
      exact ⟨none, 0, p', Fnd.nil _ _ _, k⟩
  · refine (parse_sign s w ts q h1 hl).mono ?_
    rintro e w' ⟨k, p⟩
    exact ⟨none, 0, p, Fnd.nil _ _ _, k⟩
  · refine (parse_long s w h1 hs).mono ?_
    rintro e w' ⟨k, p⟩
    exact ⟨none, 0, p, Fnd.nil _ _ _, k⟩
theorem run_er_at : ∀ {ts : List Tk} {s : St} {t : Tk} {a e : Int}, t.1 = 9 → runM s (ts ++ [t]) = .er a e → e ≠ 0 ∧ ∃ u ∈ ts ++ [t], a = u.2.1
  | [], s, t, a, e, h9, h => by
    cases hq : stepM s t with
    | go s' => exact (step_last h9 _ hq).elim
    | stop n => rw [List.nil_append, run_stop hq] at h; cases h
    | er x =>
      rw [List.nil_append, run_er hq] at h
      injection h with h1 h2
      exact ⟨h2 ▸ step_er hq, t, by simp, h1.symm⟩
  | u :: ts, s, t, a, e, h9, h => by
    rw [List.cons_append] at h
    cases hq : stepM s u with
    | go s' =>
      rw [run_go hq] at h
      obtain ⟨g1, v, g2, g3⟩ := run_er_at h9 h
      exact ⟨g1, v, List.mem_cons_of_mem _ g2, g3⟩
    | stop n => rw [run_stop hq] at h; cases h
    | er x =>
      rw [run_er hq] at h
      injection h with h1 h2
      exact ⟨h2 ▸ step_er hq, u, by simp, h1.symm⟩
theorem pr_ok {s : ByteArray} {n : ND} (h : PR s (.ok n)) : s.size ≤ 2000 ∧ saneN saneP n = true ∧ ∃ ts, Lx s.data.toList 0 ts none ∧ Rd n ts := by
  rcases h with ⟨h1, ts, hl, e⟩ | ⟨h1, ts, q, hl, e⟩ | ⟨h1, e⟩
  · obtain ⟨g1, g2⟩ := whole_sound (lx_no9 hl) _ e.symm
    exact ⟨h1, g2, ts, hl, g1⟩
  · cases e
  · cases e
theorem pr_er {s : ByteArray} {a x : Int} (h : PR s (.er a x)) : x ≠ 0 ∧ 0 ≤ a ∧ a ≤ (s.size : Int) := by
  rcases h with ⟨h1, ts, hl, e⟩ | ⟨h1, ts, q, hl, e⟩ | ⟨h1, e⟩
  · obtain ⟨g1, u, g2, g3⟩ := run_er_at rfl e.symm
    refine ⟨g1, ?_⟩
    rcases List.mem_append.1 g2 with g | g
    · have := lx_at hl u g
      rw [size_list] at this
      omega
    · rw [List.mem_singleton.1 g] at g3
      have : a = (s.size : Int) := g3
      omega
  · injection e with e1 e2
    have := lx_place hl q rfl
    rw [size_list] at this
    omega
  · injection e with e1 e2
    omega
theorem pr_text {n : ND} (h : saneN saneP n = true) : PR (bs (textN n)) (.ok n) ∧ (bs (textN n)).size ≤ 894 := by
  have e : textN n = txN n := by unfold textN; rw [if_pos h]
  have sz : (bs (textN n)).size ≤ 894 := by rw [e, bs_size]; exact (txN_len900 h).1
  obtain ⟨ts, hl, hr⟩ := text_rd h
  refine ⟨.inl ⟨by omega, ts, ?_, ?_⟩, sz⟩
  · rw [show (bs (textN n)).data.toList = textN n from by unfold bs; simp, e]
    exact hl
  · exact (whole_rd hr h _).symm
/-! bytes that are no blanks -/
theorem nobl_sum {l : List UInt8} {p : Nat} {ts : List Tk} {e : Option Nat} (h : Lx l p ts e) : e = none → (ts.map tlen).sum = (nobl l).length := by
  induction h with
  | nil => intro _; rfl
  | blank _ ih => intro he; rw [ih he]; rfl
  | bad => intro he; cases he
  | @step c t p k n x ts e hc ht _ ih =>
    intro he
    have hp := tok_pos ht
    obtain ⟨h1, h2⟩ := tok_len (p := (p : Int)) ht
    have hd : nobl (c :: t) = nobl ((c :: t).take n) ++ nobl ((c :: t).drop n) := by rw [← nobl_append, List.take_append_drop]
    have hg := tok_good (p := (p : Int)) ht
    have ht2 : nobl ((c :: t).take n) = (c :: t).take n := by
      rw [h2]
      rcases hg with ⟨a, b, d⟩ | ⟨a, b, d⟩
      · simp only at a d
        rw [if_pos a]
        exact nobl_w d
      · simp only at a b
        rw [if_neg (by omega)]
        have g := shw_sgn a b
        exact List.filter_eq_self.2 fun c hc => by have := (g.2.2.1 c hc).2; simp [this]
    rw [List.map_cons, List.sum_cons, ih he, hd, List.length_append, ht2, h1, List.length_take]
    omega
mutual
def lenN : ND → Nat
  | .mk k p a t l => if k = 0 then (tlP p).length + a.toNat + t.toNat else if k = 3 then 2 else if k = 4 then 1 else if k = 1 then lenL l - 1 else 1 + lenL l
def lenL : List ND → Nat
  | [] => 0
  | x :: l => lenN x + 1 + lenL l
end
theorem mks_sum {a t : Bool} {ms : List Tk} (h : Mks a t ms) : (ms.map tlen).sum = a.toNat + t.toNat := by
  cases h <;> rfl
theorem rdE_sum {n : ND} {ts : List Tk} (h : RdE n ts) : (ts.map tlen).sum = lenN n := by
  cases h with
  | @pt p w h i a t ms hm =>
    rw [List.map_cons, List.sum_cons, mks_sum hm]
    have e := (readM_yes (s := bs w) (by rw [h])).2
    rw [h] at e
    simp only at e
    have : tlP p = w := by unfold tlP; rw [e]; unfold bs; simp
    show tlen (0, i, w) + _ = lenN (.mk 0 p a t [])
    simp only [lenN, if_true, this, tlen]
    omega
  | op i x => rfl
  | un i x => rfl
mutual
theorem rd_sum : ∀ {n : ND} {ts : List Tk}, Rd n ts → (ts.map tlen).sum = lenN n
  | _, _, .pt h hk => rdE_sum h
  | _, _, .sp (a := a) (b := b) ha hb i x => by
    have e : lenN (btN a b) = lenL [a, b] - 1 := by
      show lenN (.mk 1 pz false false [a, b]) = _
      simp [lenN]
    rw [List.map_append, List.map_cons, List.sum_append, List.sum_cons, rdE_sum ha, rdE_sum hb, e]
    simp only [lenL]
    have : tlen (1, i, x) = 1 := rfl
    omega
  | _, _, .ls (l := l) h i x => by
    have e : lenN (orN l) = 1 + lenL l := by
      show lenN (.mk 2 pz false false l) = _
      simp [lenN]
    rw [List.map_cons, List.sum_cons, rdL_sum h, e]
    rfl
theorem rdL_sum : ∀ {l : List ND} {ts : List Tk}, RdL l ts → (ts.map tlen).sum = lenL l
  | _, _, .one (n := n) h i x => by
    rw [List.map_append, List.sum_append, rd_sum h]
    simp only [lenL, List.map_cons, List.map_nil, List.sum_cons, List.sum_nil]
    rfl
  | _, _, .cons h g i x => by
    rw [List.map_append, List.map_cons, List.sum_append, List.sum_cons, rd_sum h, rdL_sum g]
    simp only [lenL]
    have : tlen (6, i, x) = 1 := rfl
    omega
end
/-! an expression's text without its last byte -/
theorem end_last {n : ND} (h : endN saneP n = true) : ∀ c ∈ (txN n).getLast?, c ≠ 32 := by
  intro c hc
  have hm : c ∈ txN n := List.mem_of_getLast? hc
  rcases endN_kind h with ⟨p, a, t, rfl, hp⟩ | rfl | rfl
  · simp only [txN, if_true] at hm
    have hw := (tlP_w hp).1
    rintro rfl
    simp only [List.mem_append] at hm
    rcases hm with hm | hm | hm
    · exact absurd (hw _ hm) (by decide)
    · cases a <;> simp [mrk] at hm
    · cases t <;> simp [mrk] at hm
  · rintro rfl
    revert hm
    decide
  · rintro rfl
    revert hm
    decide
theorem last_app (a : List UInt8) {b : List UInt8} (h : b ≠ []) : (a ++ b).getLast? = b.getLast? := by
  rw [List.getLast?_append]
  cases hb : b.getLast? with
  | none => exact absurd (List.getLast?_eq_none_iff.1 hb) h
  | some c => rfl
theorem text_last {n : ND} (h : rightN saneP n = true) : ∃ t c, txN n = t ++ [c] ∧ c ≠ 32 := by
  have key : ∀ l : List UInt8, l ≠ [] → (∀ c ∈ l.getLast?, c ≠ 32) → ∃ t c, l = t ++ [c] ∧ c ≠ 32 := fun l hl hc =>
    ⟨l.dropLast, l.getLast hl, (List.dropLast_concat_getLast hl).symm, hc _ (List.getLast?_eq_some_getLast hl)⟩
  rcases rightN_kind h with ⟨p, a, t, rfl, hp⟩ | ⟨x, y, rfl, hx, hy⟩ | ⟨x, l', e, hl⟩
  · have he := end_point (a := a) (t := t) hp
    refine key _ ?_ (end_last he)
    have := (end_len he).2
    intro e; rw [e] at this; simp at this
  · have ne : txN y ≠ [] := by
      have := (end_len hy).2
      intro e; rw [e] at this; simp at this
    rw [txN_span]
    refine key _ (by simp) ?_
    rw [last_app _ (by simp), List.getLast?_cons]
    intro c hc
    cases hq : (txN y).getLast? with
    | none => exact absurd (List.getLast?_eq_none_iff.1 hq) ne
    | some d =>
      rw [hq] at hc
      have : c = d := by simpa using hc.symm
      subst this
      exact end_last hy c (by rw [hq]; rfl)
  · rw [e, txN_listJ]
    exact ⟨_, 93, rfl, by decide⟩
theorem pr_lx {s : ByteArray} {ts : List Tk} (hs : s.size ≤ 2000) (hl : Lx s.data.toList 0 ts none) {o : Out} (h : PR s o) : o = runM (.ex 0 []) (ts ++ [endT s]) := by
  rcases h with ⟨h1, us, hu, e⟩ | ⟨h1, us, q, hu, e⟩ | ⟨h1, e⟩
  · obtain ⟨rfl, _⟩ := lx_one hl hu
    exact e
  · cases (lx_one hl hu).2
  · omega
theorem bs_data (l : List UInt8) : (bs l).data.toList = l := by unfold bs; simp
theorem cut_list {n : ND} (h : saneN saneP n = true) (hk : n.k = 2) {t : List UInt8} {c : UInt8} (e : txN n = t ++ [c]) {o : Out} (ho : PR (bs t) o) : o = .er (t.length : Int) 4 := by
  have sz := (txN_len900 h).1
  rw [e, List.length_append, List.length_singleton] at sz
  have g := h
  unfold saneN at g
  simp only [Bool.and_eq_true, decide_eq_true_eq] at g
  rcases rightN_kind g.2.2 with ⟨p, a, t, rfl, hp⟩ | ⟨x, y, rfl, hx, hy⟩ | ⟨x, l', e2, hl⟩
  · cases hk
  · cases hk
  · have o1 : Tkx [91] false false (fun ts => ∃ i, ts = [(4, i, [])]) := Tkx.sign (k := 4) (by decide) (by decide)
    obtain ⟨q, b⟩ := txJ_tkx (x :: l') hl (by simp) [91] _ o1
    rw [e2, txN_listJ] at e
    obtain ⟨e3, _⟩ := List.append_inj' e rfl
    obtain ⟨_, _, b3⟩ := b
    obtain ⟨ts, ⟨u, v, rfl, ⟨i, rfl⟩, hr⟩, hx⟩ := b3 0
    have lx := hx [] [] none (fun _ => rfl) .nil
    rw [List.append_nil, List.append_nil, e3] at lx
    have := pr_lx (s := bs t) (by rw [bs_size]; omega) (by rw [bs_data]; exact lx) ho
    rw [this]
    have cc : cntN (orN (x :: l')) = cntL (x :: l') + 1 := rfl
    have dd : depN (orN (x :: l')) = depL (x :: l') + 1 := rfl
    have en : n = orN (x :: l') := e2
    rw [en] at g
    have e1 : stepM (.ex 0 []) (4, i, []) = .go (.ex 1 [[]]) := by
      show exM 0 [] (4, i, []) = _
      unfold exM
      rw [if_pos rfl, if_neg (by simp), if_neg (by omega)]
    show runM (.ex 0 []) ((4, i, []) :: (v ++ [endT (bs t)])) = _
    rw [run_go e1]
    have := rdL_cut (hr 0 []) v 0 [] rfl 1 [] [] (endT (bs t)).2.1 [] (by omega) (by simp only [List.length_nil]; omega)
    have e9 : endT (bs t) = (9, (endT (bs t)).2.1, []) := rfl
    rw [e9, this]
    show Out.er ((bs t).size : Int) 4 = _
    rw [bs_size]
theorem cut_else {n m : ND} (h : saneN saneP n = true) {t : List UInt8} {c : UInt8} (e : txN n = t ++ [c]) (hc : c ≠ 32) (ho : PR (bs t) (.ok m)) : m ≠ n := by
  rintro rfl
  obtain ⟨_, _, ts, hl, hr⟩ := pr_ok ho
  obtain ⟨us, hl2, hr2⟩ := text_rd h
  have a := nobl_sum hl rfl
  have b := nobl_sum hl2 rfl
  rw [rd_sum hr, bs_data] at a
  rw [rd_sum hr2, e, nobl_append, List.length_append] at b
  have : (nobl [c]).length = 1 := by simp [nobl, hc]
  omega
/-! blanks between the tokens -/
def wh : List Tk → List UInt8
  | [] => []
  | t :: r => 32 :: (txt t ++ wh r)
theorem wh_append : ∀ a b : List Tk, wh (a ++ b) = wh a ++ wh b
  | [], b => rfl
  | t :: a, b => by simp [wh, wh_append a b]
theorem wh_starts (ts : List Tk) : startsW (wh ts ++ [32]) = false := by
  cases ts with
  | nil => rfl
  | cons t r => rfl
theorem wh_lx : ∀ (ts : List Tk), (∀ t ∈ ts, goodT t) → ∀ p, ∃ ts', Lx (wh ts ++ [32]) p ts' none ∧ SameKS ts ts'
  | [], _, p => ⟨[], .blank .nil, rfl⟩
  | t :: r, h, p => by
    have hg := h t (by simp)
    obtain ⟨ts', h1, h2⟩ := wh_lx r (fun u hu => h u (by simp [hu])) (p + 1 + (txt t).length)
    refine ⟨(t.1, ((p + 1 : Nat) : Int), t.2.2) :: ts', ?_, ?_⟩
    · show Lx (32 :: (txt t ++ wh r) ++ [32]) p _ none
      rw [List.cons_append, List.append_assoc]
      refine .blank ?_
      have tk : tok (txt t ++ (wh r ++ [32])) = some (t.1, (txt t).length, t.2.2) ∧ txt t ≠ [] ∧ ∀ c ∈ txt t, c ≠ 32 := by
        rcases hg with ⟨a, b, d⟩ | ⟨a, b, d⟩
        · have e : txt t = t.2.2 := by unfold txt; rw [if_pos a]
          rw [e, a]
          exact ⟨tok_word d b (wh_starts r), b, fun c hc q => by rw [q] at hc; exact absurd (d _ hc) (by decide)⟩
        · have e : txt t = shw t.1 := by unfold txt; rw [if_neg (by omega)]
          rw [e, d]
          have g := shw_sgn a b
          exact ⟨tok_sign a b _, g.2.1, fun c hc => (g.2.2.1 c hc).2⟩
      obtain ⟨tk1, tk2, tk3⟩ := tk
      obtain ⟨c, u, hx⟩ := List.exists_cons_of_ne_nil tk2
      rw [hx, List.cons_append] at tk1 ⊢
      refine .step (tk3 c (by rw [hx]; simp)) tk1 ?_
      have e5 : (c :: (u ++ (wh r ++ [32]))).drop (c :: u).length = wh r ++ [32] := by simp
      rw [e5, ← hx]
      exact h1
    · unfold SameKS at h2 ⊢
      simp [h2]
theorem ks_append {a b c d : List Tk} (h : SameKS a b) (g : SameKS c d) : SameKS (a ++ c) (b ++ d) := by
  unfold SameKS at *
  simp [h, g]
theorem wh_len (ts : List Tk) : (wh ts).length = ts.length + (ts.map tlen).sum := by
  induction ts with
  | nil => rfl
  | cons t r ih => simp only [wh, List.length_cons, List.length_append, ih, List.map_cons, List.sum_cons, txt_len]; omega
theorem nobl_len (l : List UInt8) : (nobl l).length ≤ l.length := List.length_filter_le ..
theorem pr_white {s : ByteArray} {ts : List Tk} (hs : s.size ≤ 400) (hl : Lx s.data.toList 0 ts none) {o o' : Out} (h : PR s o) (h' : PR (bs (wh (ts ++ [endT s]))) o') : outN o' = outN o ∧ outE o' = outE o := by
  have e : wh (ts ++ [endT s]) = wh ts ++ [32] := by rw [wh_append]; rfl
  obtain ⟨us, hu, hk⟩ := wh_lx ts (lx_good hl) 0
  have sz : (bs (wh (ts ++ [endT s]))).size ≤ 2000 := by
    have a := lx_len hl
    have b := nobl_sum hl rfl
    have c := nobl_len s.data.toList
    rw [size_list] at a c
    rw [bs_size, e, List.length_append, wh_len, List.length_singleton]
    omega
  have r1 := pr_lx (by omega) hl h
  have r2 := pr_lx sz (by rw [bs_data, e]; exact hu) h'
  have k := run_ks (ks_append hk (show SameKS [endT s] [endT (bs (wh (ts ++ [endT s])))] from rfl)) (.ex 0 [])
  rw [← r1, ← r2] at k
  cases o with
  | ok n => rw [k.1 n rfl]; exact ⟨rfl, rfl⟩
  | er a x =>
    obtain ⟨j, hj⟩ := k.2 a x rfl
    rw [hj]
    exact ⟨rfl, rfl⟩
theorem white_len {s : ByteArray} {ts : List Tk} (hs : s.size ≤ 400) (hl : Lx s.data.toList 0 ts none) : (wh (ts ++ [endT s])).length ≤ 1201 ∧ (ts ++ [endT s]).length ≤ 401 := by
  have a := lx_len hl
  have b := nobl_sum hl rfl
  have c := nobl_len s.data.toList
  rw [size_list] at a c
  rw [wh_append, List.length_append, wh_len, List.length_append, List.length_singleton]
  have : (wh [endT s]).length = 1 := rfl
  omega
/-! two texts in brackets -/
theorem lx_sign {k : Int} (h1 : 1 ≤ k) (h2 : k ≤ 8) {r : List UInt8} {p : Nat} {ts : List Tk} {e : Option Nat} (h : Lx r (p + (shw k).length) ts e) : Lx (shw k ++ r) p ((k, (p : Int), []) :: ts) e := by
  have tw := tok_sign h1 h2 r
  have g := shw_sgn h1 h2
  obtain ⟨c, t, hq⟩ := List.exists_cons_of_ne_nil g.2.1
  rw [hq] at tw h ⊢
  refine Lx.step (g.2.2.1 c (by rw [hq]; simp)).2 tw ?_
  have : (c :: (t ++ r)).drop (c :: t).length = r := by simp
  show Lx ((c :: (t ++ r)).drop (c :: t).length) _ _ _
  rw [this]
  exact h
theorem mv_ks (d : Nat) (ts : List Tk) : SameKS ts (ts.map (mv d)) := by
  unfold SameKS
  rw [List.map_map]
  rfl
def two13 (s t : ByteArray) : ByteArray := bs (91 :: (s.data.toList ++ 44 :: (t.data.toList ++ [93])))
theorem two_lx {s t : ByteArray} {ts us : List Tk} (h : Lx s.data.toList 0 ts none) (g : Lx t.data.toList 0 us none) :
    ∃ vs, Lx (two13 s t).data.toList 0 vs none ∧ SameKS ((4, 0, []) :: (ts ++ (6, 0, []) :: (us ++ [(5, 0, [])]))) vs := by
  have z5 : ∀ p : Nat, Lx [93] p [(5, (p : Int), [])] none := fun p => lx_sign (k := 5) (r := []) (by decide) (by decide) .nil
  have a1 := lx_shift (1 + s.data.toList.length + 1) g
  have a2 := lx_more a1 rfl (m := [93]) rfl (z5 _)
  have a3 : Lx (44 :: (t.data.toList ++ [93])) (1 + s.data.toList.length) _ none := lx_sign (k := 6) (r := t.data.toList ++ [93]) (by decide) (by decide) (by
    have e : 1 + s.data.toList.length + (shw 6).length = 0 + (1 + s.data.toList.length + 1) := by show 1 + s.data.toList.length + 1 = _; omega
    rw [e]
    exact a2)
  have b1 := lx_shift 1 h
  have b2 := lx_more b1 rfl (m := 44 :: (t.data.toList ++ [93])) rfl (by rw [show 0 + 1 + s.data.toList.length = 1 + s.data.toList.length by omega]; exact a3)
  have b3 : Lx (91 :: (s.data.toList ++ 44 :: (t.data.toList ++ [93]))) 0 _ none := lx_sign (k := 4) (r := s.data.toList ++ 44 :: (t.data.toList ++ [93])) (by decide) (by decide) b2
  refine ⟨_, by unfold two13; rw [bs_data]; exact b3, ?_⟩
  have k1 := mv_ks 1 ts
  have k2 := mv_ks (1 + s.data.toList.length + 1) us
  unfold SameKS at *
  simp [k1, k2]
theorem pr_two {s t : ByteArray} {a b : ND} (hs : s.size ≤ 400) (ht : t.size ≤ 400) (h : PR s (.ok a)) (g : PR t (.ok b)) {o : Out} (ho : PR (two13 s t) o) :
    (saneN saneP (orN [a, b]) = true → o = .ok (orN [a, b])) ∧ (saneN saneP (orN [a, b]) = false → ∃ i e, (e = 5 ∨ e = 6) ∧ o = .er i e) := by
  obtain ⟨_, sa, ts, hl, ra⟩ := pr_ok h
  obtain ⟨_, sb, us, hu, rb⟩ := pr_ok g
  obtain ⟨vs, hv, hk⟩ := two_lx hl hu
  have sz : (two13 s t).size ≤ 2000 := by
    unfold two13
    rw [bs_size]
    simp only [List.length_cons, List.length_append, List.length_nil, size_list]
    omega
  have e := pr_lx sz hv ho
  have rd : Rd (orN [a, b]) ((4, 0, []) :: (ts ++ (6, 0, []) :: (us ++ [(5, 0, [])]))) := .ls (.cons ra (.one rb 0 []) 0 []) 0 []
  have k := run_ks (ks_append hk (show SameKS [endT (two13 s t)] [endT (two13 s t)] from rfl)) (.ex 0 [])
  rw [← e] at k
  have rt : rightN saneP (orN [a, b]) = true := right_or (by simp) (by
    intro x hx
    simp only [List.mem_cons, List.not_mem_nil, or_false] at hx
    rcases hx with rfl | rfl
    · exact (cn_right sa).1
    · exact (cn_right sb).1)
  constructor
  · intro q
    exact k.1 _ (whole_rd rd q _)
  · intro q
    have nc : ¬ (0 + cntN (orN [a, b]) ≤ 64 ∧ ([] : List (List ND)).length + depN (orN [a, b]) ≤ 8) := by
      rintro ⟨c1, c2⟩
      have : saneN saneP (orN [a, b]) = true := by
        unfold saneN
        rw [rt, decide_eq_true (by omega), decide_eq_true (by simpa using c2)]
        rfl
      rw [this] at q
      cases q
    obtain ⟨i, x, hx, ho⟩ := rd_over rd 0 [] (endT (two13 s t)) [] (.inr (.inr rfl)) (by omega) (by simp) nc
    obtain ⟨j, hj⟩ := k.2 i x ho
    exact ⟨j, x, hx, hj⟩
theorem two_size (s t : ByteArray) : (two13 s t).size = s.size + t.size + 3 := by
  unfold two13
  rw [bs_size]
  simp only [List.length_cons, List.length_append, List.length_nil, size_list]
  omega
theorem two_bytes (s t : ByteArray) : (⟨#[91]⟩ : ByteArray) ++ s ++ ⟨#[44]⟩ ++ t ++ ⟨#[93]⟩ = two13 s t := by
  have h1 : (⟨#[91]⟩ : ByteArray) = bs [91] := rfl
  have h2 : (⟨#[44]⟩ : ByteArray) = bs [44] := rfl
  have h3 : (⟨#[93]⟩ : ByteArray) = bs [93] := rfl
  have hs : s = bs s.data.toList := (bs_list s).symm
  have ht : t = bs t.data.toList := (bs_list t).symm
  rw [h1, h2, h3]
  conv => lhs; rw [hs, ht]
  rw [← bs_append, ← bs_append, ← bs_append, ← bs_append]
  unfold two13
  simp
end Go.Proofs.YtndmohamjffpcaaDoor

namespace Go.Proofs.YtndmohamjffpcaaDoor
open Go.RowKit Go.Shelf
set_option linter.unusedVariables false
set_option linter.unusedSimpArgs false
/-- a node in a block of its own -/
def NB (w : World) (b : Nat) (n : ND) : Prop := ∃ v, w.heap[b]? = some (.cells (cells1 n v) 26 (0, 0)) ∧ NodesAt w v n.l
theorem NB.kp {w w' : World} {b : Nat} {n : ND} (h : NB w b n) (k : Kp w w') : NB w' b n := by
  obtain ⟨v, g, hn⟩ := h
  exact ⟨v, heap_block k g, hn.kp k⟩
theorem NB.opn {w : World} {b : Nat} {n : ND} (h : NB w b n) : ∃ ad cp, w.heap[b]? = some (.cells #[.int .i64 n.k, .int .i64 n.p.k, .string n.p.y, .string n.p.m, .string n.p.d, .bool n.a, .bool n.t, .slice ad n.l.length cp] 26 (0, 0)) ∧ NodesAt w (.slice ad n.l.length cp) n.l := by
  obtain ⟨v, g, hn⟩ := h
  obtain ⟨ad, cp, rfl⟩ := hn.slice
  exact ⟨ad, cp, g, hn⟩
theorem NB.of {w : World} {b : Nat} {n : ND} {v : Value} (g : w.heap[b]? = some (.cells #[.int .i64 n.k, .int .i64 n.p.k, .string n.p.y, .string n.p.m, .string n.p.d, .bool n.a, .bool n.t, v] 26 (0, 0))) (h : NodesAt w v n.l) : NB w b n := ⟨v, g, h⟩
end Go.Proofs.YtndmohamjffpcaaDoor

namespace Go.Proofs.YtndmohamjffpcaaDoor
open Go.RowKit Go.Shelf
set_option linter.unusedVariables false
set_option linter.unusedSimpArgs false
def s13a : List UInt8 := [91, 49, 57, 56, 52, 126, 63, 44, 32, 46, 46, 47, 49, 57, 88, 52, 93]
def s13b : List UInt8 := [49, 57, 56, 52, 47, 91]
def s13c : List UInt8 := [91, 49, 57, 56, 52]
def n13 : ND := orN [.mk 0 ⟨3, ⟨#[49, 57, 56, 52]⟩, ⟨#[]⟩, ⟨#[]⟩⟩ true true [], btN nOpen (.mk 0 ⟨3, ⟨#[49, 57, 88, 52]⟩, ⟨#[]⟩, ⟨#[]⟩⟩ false false [])]
theorem lx13a : Lx s13a 0 [(4, 0, []), (0, 1, [49, 57, 56, 52]), (8, 5, []), (7, 6, []), (6, 7, []), (2, 9, []), (1, 11, []), (0, 12, [49, 57, 88, 52]), (5, 16, [])] none :=
  .step (n := 1) (by decide) (by decide) (.step (n := 4) (by decide) (by decide) (.step (n := 1) (by decide) (by decide) (.step (n := 1) (by decide) (by decide) (.step (n := 1) (by decide) (by decide) (.blank (.step (n := 2) (by decide) (by decide) (.step (n := 1) (by decide) (by decide) (.step (n := 4) (by decide) (by decide) (.step (n := 1) (by decide) (by decide) .nil)))))))))
theorem lx13b : Lx s13b 0 [(0, 0, [49, 57, 56, 52]), (1, 4, []), (4, 5, [])] none :=
  .step (n := 4) (by decide) (by decide) (.step (n := 1) (by decide) (by decide) (.step (n := 1) (by decide) (by decide) .nil))
theorem lx13c : Lx s13c 0 [(4, 0, []), (0, 1, [49, 57, 56, 52])] none :=
  .step (n := 1) (by decide) (by decide) (.step (n := 4) (by decide) (by decide) .nil)
theorem rd84 : readP (bs [49, 57, 56, 52]) = (⟨3, ⟨#[49, 57, 56, 52]⟩, ⟨#[]⟩, ⟨#[]⟩⟩, true) := read_back (p := ⟨3, ⟨#[49, 57, 56, 52]⟩, ⟨#[]⟩, ⟨#[]⟩⟩) (by decide +kernel)
theorem rdx4 : readP (bs [49, 57, 88, 52]) = (⟨3, ⟨#[49, 57, 88, 52]⟩, ⟨#[]⟩, ⟨#[]⟩⟩, true) := read_back (p := ⟨3, ⟨#[49, 57, 88, 52]⟩, ⟨#[]⟩, ⟨#[]⟩⟩) (by decide +kernel)
theorem sane13 : saneN saneP n13 = true := by decide +kernel
theorem pr13a : PR (bs s13a) (.ok n13) := by
  refine .inl ⟨by rw [bs_size]; decide, _, by rw [bs_data]; exact lx13a, ?_⟩
  have r : Rd n13 [(4, 0, []), (0, 1, [49, 57, 56, 52]), (8, 5, []), (7, 6, []), (6, 7, []), (2, 9, []), (1, 11, []), (0, 12, [49, 57, 88, 52]), (5, 16, [])] :=
    .ls (.cons (.pt (.pt rd84 1 (.ta 5 6 [] [])) rfl) (.one (.sp (.op 9 []) (.pt rdx4 12 .no) 11 []) 16 []) 7 []) 0 []
  exact (whole_rd r sane13 _).symm
theorem pr13b : PR (bs s13b) (.er 5 3) := by
  refine .inl ⟨by rw [bs_size]; decide, _, by rw [bs_data]; exact lx13b, ?_⟩
  have h := end_first (.pt rd84 0 .no) (n := 0) (by decide) [] [(1, 4, []), (4, 5, []), endT (bs s13b)]
  rw [List.cons_append, List.nil_append] at h
  show _ = runM (.ex 0 []) ((0, 0, [49, 57, 56, 52]) :: [(1, 4, []), (4, 5, []), endT (bs s13b)])
  rw [h, aft_slash _ _ _ _ _ _ (by decide)]
  rfl
theorem pr13c : PR (bs s13c) (.er 5 4) := by
  refine .inl ⟨by rw [bs_size]; decide, _, by rw [bs_data]; exact lx13c, ?_⟩
  show _ = runM (.ex 0 []) ((4, 0, []) :: ((0, 1, [49, 57, 56, 52]) :: [endT (bs s13c)]))
  have h := end_first (.pt rd84 1 .no) (n := 1) (by decide) [[]] [endT (bs s13c)]
  rw [List.cons_append, List.nil_append] at h
  rw [run_go (show stepM (.ex 0 []) (4, 0, []) = .go (.ex 1 [[]]) from rfl), h]
  rfl
theorem text13 : bs (textN n13) = ⟨#[91, 49, 57, 56, 52, 63, 126, 44, 32, 46, 46, 47, 49, 57, 88, 52, 93]⟩ := by decide +kernel
theorem cnt13 : cntN n13 ≤ 1000 := by decide +kernel
set_option maxHeartbeats 16000000 in
set_option maxRecDepth 100000 in
theorem awake13 (w : World) (T : TabSH w) : Calls Tryd.prog 8 #[] w fun e w' => e = .returned (.bool true) ∧ Kp w w' := by
  have P1 := Lib.hid (fun w1 (kk : Kp w w1) => show Calls Tryd.prog 12 #[.string { data := #[91, 49, 57, 56, 52, 126, 63, 44, 32, 46, 46, 47, 49, 57, 88, 52, 93] }] w1 fun en w' => ∃ ad cp, en = .returned (.tuple #[.agg #[.int .i64 n13.k, .int .i64 n13.p.k, .string n13.p.y, .string n13.p.m, .string n13.p.d, .bool n13.a, .bool n13.t, .slice ad n13.l.length cp], .int .i64 17, .int .i64 0]) ∧ Fnd w' w1.heap.size (fun _ => False) (.slice ad n13.l.length cp) n13.l ∧ Kp w1 w' from parse_any pr13a w1 (by decide) (T.kp kk))
  have P2 := Lib.hid (fun w1 (kk : Kp w w1) => show Calls Tryd.prog 12 #[.string { data := #[49, 57, 56, 52, 47, 91] }] w1 fun en w' => ∃ ad cp, en = .returned (.tuple #[.agg #[.int .i64 nd0.k, .int .i64 nd0.p.k, .string nd0.p.y, .string nd0.p.m, .string nd0.p.d, .bool nd0.a, .bool nd0.t, .slice ad nd0.l.length cp], .int .i64 5, .int .i64 3]) ∧ Fnd w' w1.heap.size (fun _ => False) (.slice ad nd0.l.length cp) nd0.l ∧ Kp w1 w' from parse_any pr13b w1 (by decide) (T.kp kk))
  have P3 := Lib.hid (fun w1 (kk : Kp w w1) => show Calls Tryd.prog 12 #[.string { data := #[91, 49, 57, 56, 52] }] w1 fun en w' => ∃ ad cp, en = .returned (.tuple #[.agg #[.int .i64 nd0.k, .int .i64 nd0.p.k, .string nd0.p.y, .string nd0.p.m, .string nd0.p.d, .bool nd0.a, .bool nd0.t, .slice ad nd0.l.length cp], .int .i64 5, .int .i64 4]) ∧ Fnd w' w1.heap.size (fun _ => False) (.slice ad nd0.l.length cp) nd0.l ∧ Kp w1 w' from parse_any pr13c w1 (by decide) (T.kp kk))
  have PT := Lib.hid (fun v w1 (h : NodesAt w1 v n13.l) (kk : Kp w w1) => show Calls Tryd.prog 11 #[.agg #[.int .i64 n13.k, .int .i64 n13.p.k, .string n13.p.y, .string n13.p.m, .string n13.p.d, .bool n13.a, .bool n13.t, v]] w1 fun e w' => e = .returned (.string { data := #[91, 49, 57, 56, 52, 63, 126, 44, 32, 46, 46, 47, 49, 57, 88, 52, 93] }) ∧ Kp w1 w' by
    have c := ptext_any n13 v w1 h cnt13 (T.kp kk)
    rw [text13] at c
    exact c)
  clear T
  generalize n13 = m1 at *
  generalize nd0 = m0 at *
  have K00 := Lib.hid (Kp.refl w)
  go_enter Tryd.func8, Tryd.ntmps8
  go_wp2_with fail
  refine (P1.out _ K00.out).mono ?_
  rintro e w1 ⟨adx, cpx, rfl, fx, kz⟩
  have Kw1 := Lib.hid (K00.out.trans kz)
  clear kz
  obtain ⟨vw1, hV⟩ : ∃ x, x = w1.alloc (.cells #[.int .i64 m1.k, .int .i64 m1.p.k, .string m1.p.y, .string m1.p.m, .string m1.p.d, .bool m1.a, .bool m1.t, .slice adx m1.l.length cpx] 26) := ⟨_, rfl⟩
  have ka : Kp w1 vw1 := by rw [hV]; exact Kp.alloc _ _
  have Bx' := Lib.hid (show NB vw1 w1.heap.size m1 from NB.of (by rw [hV]; exact heap_at _ _ _ rfl) ((fx.nodes).kp ka))
  have Kvw1 := Lib.hid (Kw1.out.trans ka)
  have Bx := Bx'
  have HV := Lib.hid hV
  clear hV ka Bx'
  go_upto_region 2 with fail
  rw [← HV.out]
  clear HV
  clear fx
  go_wp2_with fail
  refine (P2.out _ Kvw1.out).mono ?_
  rintro e w2 ⟨ady, cpy, rfl, fy, kz⟩
  have Kw2 := Lib.hid (Kvw1.out.trans kz)
  have Bx := Lib.hid (Bx.out.kp kz)
  clear kz
  obtain ⟨vw2, hV⟩ : ∃ x, x = w2.alloc (.cells #[.int .i64 m0.k, .int .i64 m0.p.k, .string m0.p.y, .string m0.p.m, .string m0.p.d, .bool m0.a, .bool m0.t, .slice ady m0.l.length cpy] 26) := ⟨_, rfl⟩
  have ka : Kp w2 vw2 := by rw [hV]; exact Kp.alloc _ _
  have By' := Lib.hid (show NB vw2 w2.heap.size m0 from NB.of (by rw [hV]; exact heap_at _ _ _ rfl) ((fy.nodes).kp ka))
  have Kvw2 := Lib.hid (Kw2.out.trans ka)
  have Bx := Lib.hid (Bx.out.kp ka)
  have By := By'
  have HV := Lib.hid hV
  clear hV ka By'
  go_upto_region 3 with fail
  rw [← HV.out]
  clear HV
  clear fy
  go_wp2_with fail
  refine (P3.out _ Kvw2.out).mono ?_
  rintro e w3 ⟨adz, cpz, rfl, fz, kz⟩
  have Kw3 := Lib.hid (Kvw2.out.trans kz)
  have Bx := Lib.hid (Bx.out.kp kz)
  have By := Lib.hid (By.out.kp kz)
  clear kz
  obtain ⟨vw3, hV⟩ : ∃ x, x = w3.alloc (.cells #[.int .i64 m0.k, .int .i64 m0.p.k, .string m0.p.y, .string m0.p.m, .string m0.p.d, .bool m0.a, .bool m0.t, .slice adz m0.l.length cpz] 26) := ⟨_, rfl⟩
  have ka : Kp w3 vw3 := by rw [hV]; exact Kp.alloc _ _
  have Bz' := Lib.hid (show NB vw3 w3.heap.size m0 from NB.of (by rw [hV]; exact heap_at _ _ _ rfl) ((fz.nodes).kp ka))
  have Kvw3 := Lib.hid (Kw3.out.trans ka)
  have Bx := Lib.hid (Bx.out.kp ka)
  have By := Lib.hid (By.out.kp ka)
  have Bz := Bz'
  have HV := Lib.hid hV
  clear hV ka Bz'
  go_upto_region 4 with fail
  rw [← HV.out]
  clear HV
  clear fz
  obtain ⟨adx, cpx, gx, nx⟩ := Bx.out.opn
  have Nx := Lib.hid nx
  obtain ⟨cx0, cx1, cx2, cx3, cx4, cx5, cx6, cx7⟩ := row8 gx
  clear nx gx
  go_wp2_with fail
  refine (PT.out _ _ Nx.out Kvw3.out).mono ?_
  rintro e w4 ⟨rfl, kz⟩
  clear cx0 cx1 cx2 cx3 cx4 cx5 cx6 cx7
  have Kw4 := Lib.hid (Kvw3.out.trans kz)
  have Bx := Lib.hid (Bx.out.kp kz)
  have By := Lib.hid (By.out.kp kz)
  have Bz := Lib.hid (Bz.out.kp kz)
  clear kz
  go_wp2
  go_ret
  exact ⟨rfl, Kw4.out⟩
end Go.Proofs.YtndmohamjffpcaaDoor
