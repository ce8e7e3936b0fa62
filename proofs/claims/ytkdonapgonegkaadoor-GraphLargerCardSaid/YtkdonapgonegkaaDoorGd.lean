/-
  Contracts of chapter 2 (graph): the number of a node, the widths of its arguments.
-/
import Derived.Test.YtkdonapgonegkaaDoorGc
set_option linter.unusedSimpArgs false
set_option linter.unusedVariables false
namespace Go.Proofs.YtkdonapgonegkaaDoor
open Go.RowKit Go.BigFrame

set_option maxRecDepth 100000 in
set_option maxHeartbeats 1600000 in
theorem errorOfNumber_c (A : Option Addr) (cap : Nat) (ls : List Int) (hl : ls.length ≤ 65536) (op wd v : Int) (h1 : 1 ≤ wd) (h2 : wd ≤ 16) (B : Option Addr) (al bc : Nat) (w : World) (h : LiesI w A ls) :
    Calls Tryd.prog 80 #[.slice A ls.length cap, .agg #[.int .i64 op, .int .i64 wd, .slice B al bc, .int .i64 v]] w fun e w' => e = .returned (.int .i64 (numE ls op wd v)) ∧ ∃ x : Aft w, w' = x.val := by
  by_cases o0 : op = 0
  · subst o0
    have HR := Lib.hid (show numE ls 0 wd v = eIf (!isV v wd) 2 from rfl)
    go_enter Tryd.func80, Tryd.ntmps80
    go_wp2_with (first | (go_at_call 66; refine (isIndex_c _ _ _).mono ?_; rintro e w' ⟨rfl, rfl⟩) | (go_at_call 67; refine (isValue_c _ _ (by omega) (by omega) _).mono ?_; rintro e w' ⟨rfl, rfl⟩) | (go_at_call 47; refine (errorIf_c _ _ _).mono ?_; rintro e w' ⟨rfl, rfl⟩))
    go_ret
    exact ⟨retI HR.out.symm, Below.aft (by (repeat' (first | (with_reducible exact Below.refl _ _) | (with_reducible assumption) | (with_reducible refine Below.alloc ?_ ?_ _) | (with_reducible refine Below.drew ?_) | (with_reducible refine Aft.below _ ?_ ?_) | (with_reducible refine Below.setCell_new ?_ ?_ _ _) | (with_reducible exact Nat.le_refl _) | (with_reducible refine Aft.le _ ?_) | (with_reducible refine le_alloc ?_) | (with_reducible refine le_drew ?_) | (with_reducible refine le_setCell ?_) | omega)))⟩
  by_cases o1 : op = 1
  · subst o1
    cases hi : isIx v ls.length
    · have HR := Lib.hid (show numE ls 1 wd v = 6 by unfold numE; rw [if_neg (by decide), if_pos rfl, hi]; rfl)
      have HI := Lib.hid (fun w => by have h := isIndex_c v ls.length w; rw [hi] at h; exact h)
      clear hi
      go_enter Tryd.func80, Tryd.ntmps80
      go_wp2_with (go_at_call 66; ((with_reducible refine (HI.out _).mono ?_); rintro e w' ⟨rfl, rfl⟩))
      go_ret
      exact ⟨retI HR.out.symm, Below.aft (by (repeat' (first | (with_reducible exact Below.refl _ _) | (with_reducible assumption) | (with_reducible refine Below.alloc ?_ ?_ _) | (with_reducible refine Below.drew ?_) | (with_reducible refine Aft.below _ ?_ ?_) | (with_reducible refine Below.setCell_new ?_ ?_ _ _) | (with_reducible exact Nat.le_refl _) | (with_reducible refine Aft.le _ ?_) | (with_reducible refine le_alloc ?_) | (with_reducible refine le_drew ?_) | (with_reducible refine le_setCell ?_) | omega)))⟩
    · obtain ⟨hv0, hv1⟩ := isIx_iff.1 hi
      obtain ⟨k, rfl⟩ := Int.eq_ofNat_of_zero_le hv0
      have hk : k < ls.length := by omega
      have hg : ls.getD ((k : Nat) : Int).toNat 0 = ls[k] := by simp [hk]
      have HR := Lib.hid (show numE ls 1 wd k = eIf (ls[k] != wd) 25 by unfold numE; rw [if_neg (by decide), if_pos rfl, hi, if_pos rfl, hg])
      have HI := Lib.hid (fun w => by have h := isIndex_c k ls.length w; rw [hi] at h; exact h)
      obtain ⟨ad, rfl, hb, hc⟩ := h.cell (List.getElem?_eq_getElem hk)
      have hkk : (k : Int) < ls.length := by omega
      have c : (w.alloc (.cells #[.int .i64 1, .int .i64 wd, .slice B al bc, .int .i64 k] 65)).cell? (ad.add k) = some (.int .i64 ls[k]) := ((Below.refl _ _).alloc (Nat.le_refl _) _).cell (p := ad.add k) (by rw [addB]; exact hb) |>.trans hc
      generalize ls[k] = x at *
      clear hi hv0 hv1 hg h hc
      go_enter Tryd.func80, Tryd.ntmps80
      go_wp2_with (go_at_call 66; ((with_reducible refine (HI.out _).mono ?_); rintro e w' ⟨rfl, rfl⟩))
      have zw : w.heap.size < (w.alloc (.cells #[.int .i64 1, .int .i64 wd, .slice B al bc, .int .i64 k] 65)).heap.size := by simp
      have q0 : (w.alloc (.cells #[.int .i64 1, .int .i64 wd, .slice B al bc, .int .i64 k] 65)).cell? ⟨w.heap.size, 3, none⟩ = some (.int .i64 k) := by simp [go_sem]
      have q1 : (w.alloc (.cells #[.int .i64 1, .int .i64 wd, .slice B al bc, .int .i64 k] 65)).cell? ⟨w.heap.size, 1, none⟩ = some (.int .i64 wd) := by simp [go_sem]
      have hbw : Below w.heap.size w (w.alloc (.cells #[.int .i64 1, .int .i64 wd, .slice B al bc, .int .i64 k] 65)) := (Below.refl _ _).alloc (Nat.le_refl _) _
      have hbad : ad.block < (w.alloc (.cells #[.int .i64 1, .int .i64 wd, .slice B al bc, .int .i64 k] 65)).heap.size := by simp; omega
      generalize w.alloc (.cells #[.int .i64 1, .int .i64 wd, .slice B al bc, .int .i64 k] 65) = W1 at *
      have cx : ∀ x' : Aft W1, x'.val.cell? (ad.add k) = some (.int .i64 x) := fun x' => (x'.pf.cell (p := ad.add k) (by rw [addB]; exact hbad)).trans c
      refine wp_region_aft (by kernel_rfl) (by kernel_rfl) ?_
      repeat (go_big_quiet_step ((go_at_call 47; exact Calls.qs (errorIf_c _ _ _))))
      refine wpQuiet_nil ?_
      intro y
      go_wp2
      go_ret
      exact ⟨retI HR.out.symm, Below.aft (y.below hbw hbw.size)⟩
  by_cases o14 : op = 14
  · subst o14
    have HR := Lib.hid (show numE ls 14 wd v = eIf (!isIx v 16) 2 from rfl)
    go_enter Tryd.func80, Tryd.ntmps80
    go_wp2_with (first | (go_at_call 66; refine (isIndex_c _ _ _).mono ?_; rintro e w' ⟨rfl, rfl⟩) | (go_at_call 67; refine (isValue_c _ _ (by omega) (by omega) _).mono ?_; rintro e w' ⟨rfl, rfl⟩) | (go_at_call 47; refine (errorIf_c _ _ _).mono ?_; rintro e w' ⟨rfl, rfl⟩))
    go_ret
    exact ⟨retI HR.out.symm, Below.aft (by (repeat' (first | (with_reducible exact Below.refl _ _) | (with_reducible assumption) | (with_reducible refine Below.alloc ?_ ?_ _) | (with_reducible refine Below.drew ?_) | (with_reducible refine Aft.below _ ?_ ?_) | (with_reducible refine Below.setCell_new ?_ ?_ _ _) | (with_reducible exact Nat.le_refl _) | (with_reducible refine Aft.le _ ?_) | (with_reducible refine le_alloc ?_) | (with_reducible refine le_drew ?_) | (with_reducible refine le_setCell ?_) | omega)))⟩
  · have HR := Lib.hid (show numE ls op wd v = eIf (v != 0) 3 by unfold numE; rw [if_neg o0, if_neg o1, if_neg o14])
    have n0 : (op == 0) = false := by simpa using o0
    have n1 : (op == 1) = false := by simpa using o1
    have n14 : (op == 14) = false := by simpa using o14
    clear o0 o1 o14
    go_enter Tryd.func80, Tryd.ntmps80
    go_wp2_with (first | (go_at_call 66; refine (isIndex_c _ _ _).mono ?_; rintro e w' ⟨rfl, rfl⟩) | (go_at_call 67; refine (isValue_c _ _ (by omega) (by omega) _).mono ?_; rintro e w' ⟨rfl, rfl⟩) | (go_at_call 47; refine (errorIf_c _ _ _).mono ?_; rintro e w' ⟨rfl, rfl⟩))
    go_ret
    exact ⟨retI HR.out.symm, Below.aft (by (repeat' (first | (with_reducible exact Below.refl _ _) | (with_reducible assumption) | (with_reducible refine Below.alloc ?_ ?_ _) | (with_reducible refine Below.drew ?_) | (with_reducible refine Aft.below _ ?_ ?_) | (with_reducible refine Below.setCell_new ?_ ?_ _ _) | (with_reducible exact Nat.le_refl _) | (with_reducible refine Aft.le _ ?_) | (with_reducible refine le_alloc ?_) | (with_reducible refine le_drew ?_) | (with_reducible refine le_setCell ?_) | omega)))⟩

theorem eqB {x y : Int} (h : x = y) : (x == y) = true := by rw [h]; simp
theorem neB {x y : Int} (h : ¬ x = y) : (x == y) = false := by simpa using h

set_option maxRecDepth 100000 in
set_option maxHeartbeats 1600000 in
theorem fit_0 (wd v a b c : Int) (hw1 : 1 ≤ wd) (hw2 : wd ≤ 16) (a0 : 0 ≤ a) (a1 : a ≤ 16) (b0 : 0 ≤ b) (b1 : b ≤ 16) (B : Option Addr) (al bc : Nat) (w : World) :
    Calls Tryd.prog 83 #[.agg #[.int .i64 0, .int .i64 wd, .slice B al bc, .int .i64 v], .agg #[.int .i64 a, .int .i64 b, .int .i64 c]] w fun e w' => e = .returned (.bool (fitW 0 wd v a b c)) ∧ ∃ x : Aft w, w' = x.val := by
  have HR := Lib.hid (show fitW 0 wd v a b c = (true) from rfl)
  go_enter Tryd.func83, Tryd.ntmps83
  go_wp2_with fail
  refine wp_region_aft (by kernel_rfl) (by kernel_rfl) ?_
  repeat (go_big_quiet_step (fail))
  refine wpQuiet_nil ?_
  intro y
  go_wp2
  go_ret
  exact ⟨retB HR.out.symm, Below.aft (by (repeat' (first | (with_reducible exact Below.refl _ _) | (with_reducible assumption) | (with_reducible refine Below.alloc ?_ ?_ _) | (with_reducible refine Below.drew ?_) | (with_reducible refine Aft.below _ ?_ ?_) | (with_reducible refine Below.setCell_new ?_ ?_ _ _) | (with_reducible exact Nat.le_refl _) | (with_reducible refine Aft.le _ ?_) | (with_reducible refine le_alloc ?_) | (with_reducible refine le_drew ?_) | (with_reducible refine le_setCell ?_) | omega)))⟩

set_option maxRecDepth 100000 in
set_option maxHeartbeats 1600000 in
theorem fit_1 (wd v a b c : Int) (hw1 : 1 ≤ wd) (hw2 : wd ≤ 16) (a0 : 0 ≤ a) (a1 : a ≤ 16) (b0 : 0 ≤ b) (b1 : b ≤ 16) (B : Option Addr) (al bc : Nat) (w : World) :
    Calls Tryd.prog 83 #[.agg #[.int .i64 1, .int .i64 wd, .slice B al bc, .int .i64 v], .agg #[.int .i64 a, .int .i64 b, .int .i64 c]] w fun e w' => e = .returned (.bool (fitW 1 wd v a b c)) ∧ ∃ x : Aft w, w' = x.val := by
  have HR := Lib.hid (show fitW 1 wd v a b c = (true) from rfl)
  go_enter Tryd.func83, Tryd.ntmps83
  go_wp2_with fail
  refine wp_region_aft (by kernel_rfl) (by kernel_rfl) ?_
  repeat (go_big_quiet_step (fail))
  refine wpQuiet_nil ?_
  intro y
  go_wp2
  go_ret
  exact ⟨retB HR.out.symm, Below.aft (by (repeat' (first | (with_reducible exact Below.refl _ _) | (with_reducible assumption) | (with_reducible refine Below.alloc ?_ ?_ _) | (with_reducible refine Below.drew ?_) | (with_reducible refine Aft.below _ ?_ ?_) | (with_reducible refine Below.setCell_new ?_ ?_ _ _) | (with_reducible exact Nat.le_refl _) | (with_reducible refine Aft.le _ ?_) | (with_reducible refine le_alloc ?_) | (with_reducible refine le_drew ?_) | (with_reducible refine le_setCell ?_) | omega)))⟩

set_option maxRecDepth 100000 in
set_option maxHeartbeats 1600000 in
theorem fit_2 (wd v a b c : Int) (hw1 : 1 ≤ wd) (hw2 : wd ≤ 16) (a0 : 0 ≤ a) (a1 : a ≤ 16) (b0 : 0 ≤ b) (b1 : b ≤ 16) (B : Option Addr) (al bc : Nat) (w : World) :
    Calls Tryd.prog 83 #[.agg #[.int .i64 2, .int .i64 wd, .slice B al bc, .int .i64 v], .agg #[.int .i64 a, .int .i64 b, .int .i64 c]] w fun e w' => e = .returned (.bool (fitW 2 wd v a b c)) ∧ ∃ x : Aft w, w' = x.val := by
  have HR := Lib.hid (show fitW 2 wd v a b c = (a == wd) from rfl)
  go_enter Tryd.func83, Tryd.ntmps83
  go_wp2_with fail
  refine wp_region_aft (by kernel_rfl) (by kernel_rfl) ?_
  repeat (go_big_quiet_step (fail))
  refine wpQuiet_nil ?_
  intro y
  go_wp2
  go_ret
  exact ⟨retB HR.out.symm, Below.aft (by (repeat' (first | (with_reducible exact Below.refl _ _) | (with_reducible assumption) | (with_reducible refine Below.alloc ?_ ?_ _) | (with_reducible refine Below.drew ?_) | (with_reducible refine Aft.below _ ?_ ?_) | (with_reducible refine Below.setCell_new ?_ ?_ _ _) | (with_reducible exact Nat.le_refl _) | (with_reducible refine Aft.le _ ?_) | (with_reducible refine le_alloc ?_) | (with_reducible refine le_drew ?_) | (with_reducible refine le_setCell ?_) | omega)))⟩

set_option maxRecDepth 100000 in
set_option maxHeartbeats 1600000 in
theorem fit_3 (wd v a b c : Int) (hw1 : 1 ≤ wd) (hw2 : wd ≤ 16) (a0 : 0 ≤ a) (a1 : a ≤ 16) (b0 : 0 ≤ b) (b1 : b ≤ 16) (B : Option Addr) (al bc : Nat) (w : World) :
    Calls Tryd.prog 83 #[.agg #[.int .i64 3, .int .i64 wd, .slice B al bc, .int .i64 v], .agg #[.int .i64 a, .int .i64 b, .int .i64 c]] w fun e w' => e = .returned (.bool (fitW 3 wd v a b c)) ∧ ∃ x : Aft w, w' = x.val := by
  cases hE : (a == wd)
  · have HR := Lib.hid (show fitW 3 wd v a b c = false by show (a == wd && b == wd) = false; rw [hE]; rfl)
    go_enter Tryd.func83, Tryd.ntmps83
    go_wp2_with fail
    refine wp_region_aft (by kernel_rfl) (by kernel_rfl) ?_
    repeat (go_big_quiet_step (fail))
    refine wpQuiet_nil ?_
    intro y
    go_wp2
    go_ret
    exact ⟨retB HR.out.symm, Below.aft (by (repeat' (first | (with_reducible exact Below.refl _ _) | (with_reducible assumption) | (with_reducible refine Below.alloc ?_ ?_ _) | (with_reducible refine Below.drew ?_) | (with_reducible refine Aft.below _ ?_ ?_) | (with_reducible refine Below.setCell_new ?_ ?_ _ _) | (with_reducible exact Nat.le_refl _) | (with_reducible refine Aft.le _ ?_) | (with_reducible refine le_alloc ?_) | (with_reducible refine le_drew ?_) | (with_reducible refine le_setCell ?_) | omega)))⟩
  · have HR := Lib.hid (show fitW 3 wd v a b c = (b == wd) by show (a == wd && b == wd) = _; rw [hE]; rfl)
    go_enter Tryd.func83, Tryd.ntmps83
    go_wp2_with fail
    refine wp_region_aft (by kernel_rfl) (by kernel_rfl) ?_
    repeat (go_big_quiet_step (fail))
    refine wpQuiet_nil ?_
    intro y
    go_wp2
    go_ret
    exact ⟨retB HR.out.symm, Below.aft (by (repeat' (first | (with_reducible exact Below.refl _ _) | (with_reducible assumption) | (with_reducible refine Below.alloc ?_ ?_ _) | (with_reducible refine Below.drew ?_) | (with_reducible refine Aft.below _ ?_ ?_) | (with_reducible refine Below.setCell_new ?_ ?_ _ _) | (with_reducible exact Nat.le_refl _) | (with_reducible refine Aft.le _ ?_) | (with_reducible refine le_alloc ?_) | (with_reducible refine le_drew ?_) | (with_reducible refine le_setCell ?_) | omega)))⟩

set_option maxRecDepth 100000 in
set_option maxHeartbeats 1600000 in
theorem fit_4 (wd v a b c : Int) (hw1 : 1 ≤ wd) (hw2 : wd ≤ 16) (a0 : 0 ≤ a) (a1 : a ≤ 16) (b0 : 0 ≤ b) (b1 : b ≤ 16) (B : Option Addr) (al bc : Nat) (w : World) :
    Calls Tryd.prog 83 #[.agg #[.int .i64 4, .int .i64 wd, .slice B al bc, .int .i64 v], .agg #[.int .i64 a, .int .i64 b, .int .i64 c]] w fun e w' => e = .returned (.bool (fitW 4 wd v a b c)) ∧ ∃ x : Aft w, w' = x.val := by
  cases hE : (a == wd)
  · have HR := Lib.hid (show fitW 4 wd v a b c = false by show (a == wd && b == wd) = false; rw [hE]; rfl)
    go_enter Tryd.func83, Tryd.ntmps83
    go_wp2_with fail
    refine wp_region_aft (by kernel_rfl) (by kernel_rfl) ?_
    repeat (go_big_quiet_step (fail))
    refine wpQuiet_nil ?_
    intro y
    go_wp2
    go_ret
    exact ⟨retB HR.out.symm, Below.aft (by (repeat' (first | (with_reducible exact Below.refl _ _) | (with_reducible assumption) | (with_reducible refine Below.alloc ?_ ?_ _) | (with_reducible refine Below.drew ?_) | (with_reducible refine Aft.below _ ?_ ?_) | (with_reducible refine Below.setCell_new ?_ ?_ _ _) | (with_reducible exact Nat.le_refl _) | (with_reducible refine Aft.le _ ?_) | (with_reducible refine le_alloc ?_) | (with_reducible refine le_drew ?_) | (with_reducible refine le_setCell ?_) | omega)))⟩
  · have HR := Lib.hid (show fitW 4 wd v a b c = (b == wd) by show (a == wd && b == wd) = _; rw [hE]; rfl)
    go_enter Tryd.func83, Tryd.ntmps83
    go_wp2_with fail
    refine wp_region_aft (by kernel_rfl) (by kernel_rfl) ?_
    repeat (go_big_quiet_step (fail))
    refine wpQuiet_nil ?_
    intro y
    go_wp2
    go_ret
    exact ⟨retB HR.out.symm, Below.aft (by (repeat' (first | (with_reducible exact Below.refl _ _) | (with_reducible assumption) | (with_reducible refine Below.alloc ?_ ?_ _) | (with_reducible refine Below.drew ?_) | (with_reducible refine Aft.below _ ?_ ?_) | (with_reducible refine Below.setCell_new ?_ ?_ _ _) | (with_reducible exact Nat.le_refl _) | (with_reducible refine Aft.le _ ?_) | (with_reducible refine le_alloc ?_) | (with_reducible refine le_drew ?_) | (with_reducible refine le_setCell ?_) | omega)))⟩

set_option maxRecDepth 100000 in
set_option maxHeartbeats 1600000 in
theorem fit_5 (wd v a b c : Int) (hw1 : 1 ≤ wd) (hw2 : wd ≤ 16) (a0 : 0 ≤ a) (a1 : a ≤ 16) (b0 : 0 ≤ b) (b1 : b ≤ 16) (B : Option Addr) (al bc : Nat) (w : World) :
    Calls Tryd.prog 83 #[.agg #[.int .i64 5, .int .i64 wd, .slice B al bc, .int .i64 v], .agg #[.int .i64 a, .int .i64 b, .int .i64 c]] w fun e w' => e = .returned (.bool (fitW 5 wd v a b c)) ∧ ∃ x : Aft w, w' = x.val := by
  cases hE : (a == wd)
  · have HR := Lib.hid (show fitW 5 wd v a b c = false by show (a == wd && b == wd) = false; rw [hE]; rfl)
    go_enter Tryd.func83, Tryd.ntmps83
    go_wp2_with fail
    refine wp_region_aft (by kernel_rfl) (by kernel_rfl) ?_
    repeat (go_big_quiet_step (fail))
    refine wpQuiet_nil ?_
    intro y
    go_wp2
    go_ret
    exact ⟨retB HR.out.symm, Below.aft (by (repeat' (first | (with_reducible exact Below.refl _ _) | (with_reducible assumption) | (with_reducible refine Below.alloc ?_ ?_ _) | (with_reducible refine Below.drew ?_) | (with_reducible refine Aft.below _ ?_ ?_) | (with_reducible refine Below.setCell_new ?_ ?_ _ _) | (with_reducible exact Nat.le_refl _) | (with_reducible refine Aft.le _ ?_) | (with_reducible refine le_alloc ?_) | (with_reducible refine le_drew ?_) | (with_reducible refine le_setCell ?_) | omega)))⟩
  · have HR := Lib.hid (show fitW 5 wd v a b c = (b == wd) by show (a == wd && b == wd) = _; rw [hE]; rfl)
    go_enter Tryd.func83, Tryd.ntmps83
    go_wp2_with fail
    refine wp_region_aft (by kernel_rfl) (by kernel_rfl) ?_
    repeat (go_big_quiet_step (fail))
    refine wpQuiet_nil ?_
    intro y
    go_wp2
    go_ret
    exact ⟨retB HR.out.symm, Below.aft (by (repeat' (first | (with_reducible exact Below.refl _ _) | (with_reducible assumption) | (with_reducible refine Below.alloc ?_ ?_ _) | (with_reducible refine Below.drew ?_) | (with_reducible refine Aft.below _ ?_ ?_) | (with_reducible refine Below.setCell_new ?_ ?_ _ _) | (with_reducible exact Nat.le_refl _) | (with_reducible refine Aft.le _ ?_) | (with_reducible refine le_alloc ?_) | (with_reducible refine le_drew ?_) | (with_reducible refine le_setCell ?_) | omega)))⟩

set_option maxRecDepth 100000 in
set_option maxHeartbeats 1600000 in
theorem fit_6 (wd v a b c : Int) (hw1 : 1 ≤ wd) (hw2 : wd ≤ 16) (a0 : 0 ≤ a) (a1 : a ≤ 16) (b0 : 0 ≤ b) (b1 : b ≤ 16) (B : Option Addr) (al bc : Nat) (w : World) :
    Calls Tryd.prog 83 #[.agg #[.int .i64 6, .int .i64 wd, .slice B al bc, .int .i64 v], .agg #[.int .i64 a, .int .i64 b, .int .i64 c]] w fun e w' => e = .returned (.bool (fitW 6 wd v a b c)) ∧ ∃ x : Aft w, w' = x.val := by
  cases hE : (a == wd)
  · have HR := Lib.hid (show fitW 6 wd v a b c = false by show (a == wd && b == wd) = false; rw [hE]; rfl)
    go_enter Tryd.func83, Tryd.ntmps83
    go_wp2_with fail
    refine wp_region_aft (by kernel_rfl) (by kernel_rfl) ?_
    repeat (go_big_quiet_step (fail))
    refine wpQuiet_nil ?_
    intro y
    go_wp2
    go_ret
    exact ⟨retB HR.out.symm, Below.aft (by (repeat' (first | (with_reducible exact Below.refl _ _) | (with_reducible assumption) | (with_reducible refine Below.alloc ?_ ?_ _) | (with_reducible refine Below.drew ?_) | (with_reducible refine Aft.below _ ?_ ?_) | (with_reducible refine Below.setCell_new ?_ ?_ _ _) | (with_reducible exact Nat.le_refl _) | (with_reducible refine Aft.le _ ?_) | (with_reducible refine le_alloc ?_) | (with_reducible refine le_drew ?_) | (with_reducible refine le_setCell ?_) | omega)))⟩
  · have HR := Lib.hid (show fitW 6 wd v a b c = (b == wd) by show (a == wd && b == wd) = _; rw [hE]; rfl)
    go_enter Tryd.func83, Tryd.ntmps83
    go_wp2_with fail
    refine wp_region_aft (by kernel_rfl) (by kernel_rfl) ?_
    repeat (go_big_quiet_step (fail))
    refine wpQuiet_nil ?_
    intro y
    go_wp2
    go_ret
    exact ⟨retB HR.out.symm, Below.aft (by (repeat' (first | (with_reducible exact Below.refl _ _) | (with_reducible assumption) | (with_reducible refine Below.alloc ?_ ?_ _) | (with_reducible refine Below.drew ?_) | (with_reducible refine Aft.below _ ?_ ?_) | (with_reducible refine Below.setCell_new ?_ ?_ _ _) | (with_reducible exact Nat.le_refl _) | (with_reducible refine Aft.le _ ?_) | (with_reducible refine le_alloc ?_) | (with_reducible refine le_drew ?_) | (with_reducible refine le_setCell ?_) | omega)))⟩

set_option maxRecDepth 100000 in
set_option maxHeartbeats 1600000 in
theorem fit_7 (wd v a b c : Int) (hw1 : 1 ≤ wd) (hw2 : wd ≤ 16) (a0 : 0 ≤ a) (a1 : a ≤ 16) (b0 : 0 ≤ b) (b1 : b ≤ 16) (B : Option Addr) (al bc : Nat) (w : World) :
    Calls Tryd.prog 83 #[.agg #[.int .i64 7, .int .i64 wd, .slice B al bc, .int .i64 v], .agg #[.int .i64 a, .int .i64 b, .int .i64 c]] w fun e w' => e = .returned (.bool (fitW 7 wd v a b c)) ∧ ∃ x : Aft w, w' = x.val := by
  cases hE : (a == wd)
  · have HR := Lib.hid (show fitW 7 wd v a b c = false by show (a == wd && b == wd) = false; rw [hE]; rfl)
    go_enter Tryd.func83, Tryd.ntmps83
    go_wp2_with fail
    refine wp_region_aft (by kernel_rfl) (by kernel_rfl) ?_
    repeat (go_big_quiet_step (fail))
    refine wpQuiet_nil ?_
    intro y
    go_wp2
    go_ret
    exact ⟨retB HR.out.symm, Below.aft (by (repeat' (first | (with_reducible exact Below.refl _ _) | (with_reducible assumption) | (with_reducible refine Below.alloc ?_ ?_ _) | (with_reducible refine Below.drew ?_) | (with_reducible refine Aft.below _ ?_ ?_) | (with_reducible refine Below.setCell_new ?_ ?_ _ _) | (with_reducible exact Nat.le_refl _) | (with_reducible refine Aft.le _ ?_) | (with_reducible refine le_alloc ?_) | (with_reducible refine le_drew ?_) | (with_reducible refine le_setCell ?_) | omega)))⟩
  · have HR := Lib.hid (show fitW 7 wd v a b c = (b == wd) by show (a == wd && b == wd) = _; rw [hE]; rfl)
    go_enter Tryd.func83, Tryd.ntmps83
    go_wp2_with fail
    refine wp_region_aft (by kernel_rfl) (by kernel_rfl) ?_
    repeat (go_big_quiet_step (fail))
    refine wpQuiet_nil ?_
    intro y
    go_wp2
    go_ret
    exact ⟨retB HR.out.symm, Below.aft (by (repeat' (first | (with_reducible exact Below.refl _ _) | (with_reducible assumption) | (with_reducible refine Below.alloc ?_ ?_ _) | (with_reducible refine Below.drew ?_) | (with_reducible refine Aft.below _ ?_ ?_) | (with_reducible refine Below.setCell_new ?_ ?_ _ _) | (with_reducible exact Nat.le_refl _) | (with_reducible refine Aft.le _ ?_) | (with_reducible refine le_alloc ?_) | (with_reducible refine le_drew ?_) | (with_reducible refine le_setCell ?_) | omega)))⟩

set_option maxRecDepth 100000 in
set_option maxHeartbeats 1600000 in
theorem fit_8 (wd v a b c : Int) (hw1 : 1 ≤ wd) (hw2 : wd ≤ 16) (a0 : 0 ≤ a) (a1 : a ≤ 16) (b0 : 0 ≤ b) (b1 : b ≤ 16) (B : Option Addr) (al bc : Nat) (w : World) :
    Calls Tryd.prog 83 #[.agg #[.int .i64 8, .int .i64 wd, .slice B al bc, .int .i64 v], .agg #[.int .i64 a, .int .i64 b, .int .i64 c]] w fun e w' => e = .returned (.bool (fitW 8 wd v a b c)) ∧ ∃ x : Aft w, w' = x.val := by
  cases hE : (a == wd)
  · have HR := Lib.hid (show fitW 8 wd v a b c = false by show (a == wd && b == wd) = false; rw [hE]; rfl)
    go_enter Tryd.func83, Tryd.ntmps83
    go_wp2_with fail
    refine wp_region_aft (by kernel_rfl) (by kernel_rfl) ?_
    repeat (go_big_quiet_step (fail))
    refine wpQuiet_nil ?_
    intro y
    go_wp2
    go_ret
    exact ⟨retB HR.out.symm, Below.aft (by (repeat' (first | (with_reducible exact Below.refl _ _) | (with_reducible assumption) | (with_reducible refine Below.alloc ?_ ?_ _) | (with_reducible refine Below.drew ?_) | (with_reducible refine Aft.below _ ?_ ?_) | (with_reducible refine Below.setCell_new ?_ ?_ _ _) | (with_reducible exact Nat.le_refl _) | (with_reducible refine Aft.le _ ?_) | (with_reducible refine le_alloc ?_) | (with_reducible refine le_drew ?_) | (with_reducible refine le_setCell ?_) | omega)))⟩
  · have HR := Lib.hid (show fitW 8 wd v a b c = (b == wd) by show (a == wd && b == wd) = _; rw [hE]; rfl)
    go_enter Tryd.func83, Tryd.ntmps83
    go_wp2_with fail
    refine wp_region_aft (by kernel_rfl) (by kernel_rfl) ?_
    repeat (go_big_quiet_step (fail))
    refine wpQuiet_nil ?_
    intro y
    go_wp2
    go_ret
    exact ⟨retB HR.out.symm, Below.aft (by (repeat' (first | (with_reducible exact Below.refl _ _) | (with_reducible assumption) | (with_reducible refine Below.alloc ?_ ?_ _) | (with_reducible refine Below.drew ?_) | (with_reducible refine Aft.below _ ?_ ?_) | (with_reducible refine Below.setCell_new ?_ ?_ _ _) | (with_reducible exact Nat.le_refl _) | (with_reducible refine Aft.le _ ?_) | (with_reducible refine le_alloc ?_) | (with_reducible refine le_drew ?_) | (with_reducible refine le_setCell ?_) | omega)))⟩

set_option maxRecDepth 100000 in
set_option maxHeartbeats 1600000 in
theorem fit_9 (wd v a b c : Int) (hw1 : 1 ≤ wd) (hw2 : wd ≤ 16) (a0 : 0 ≤ a) (a1 : a ≤ 16) (b0 : 0 ≤ b) (b1 : b ≤ 16) (B : Option Addr) (al bc : Nat) (w : World) :
    Calls Tryd.prog 83 #[.agg #[.int .i64 9, .int .i64 wd, .slice B al bc, .int .i64 v], .agg #[.int .i64 a, .int .i64 b, .int .i64 c]] w fun e w' => e = .returned (.bool (fitW 9 wd v a b c)) ∧ ∃ x : Aft w, w' = x.val := by
  cases hE : (a == b)
  · have HR := Lib.hid (show fitW 9 wd v a b c = false by show (a == b && wd == 1) = false; rw [hE]; rfl)
    go_enter Tryd.func83, Tryd.ntmps83
    go_wp2_with fail
    refine wp_region_aft (by kernel_rfl) (by kernel_rfl) ?_
    repeat (go_big_quiet_step (fail))
    refine wpQuiet_nil ?_
    intro y
    go_wp2
    go_ret
    exact ⟨retB HR.out.symm, Below.aft (by (repeat' (first | (with_reducible exact Below.refl _ _) | (with_reducible assumption) | (with_reducible refine Below.alloc ?_ ?_ _) | (with_reducible refine Below.drew ?_) | (with_reducible refine Aft.below _ ?_ ?_) | (with_reducible refine Below.setCell_new ?_ ?_ _ _) | (with_reducible exact Nat.le_refl _) | (with_reducible refine Aft.le _ ?_) | (with_reducible refine le_alloc ?_) | (with_reducible refine le_drew ?_) | (with_reducible refine le_setCell ?_) | omega)))⟩
  · have HR := Lib.hid (show fitW 9 wd v a b c = (wd == 1) by show (a == b && wd == 1) = _; rw [hE]; rfl)
    go_enter Tryd.func83, Tryd.ntmps83
    go_wp2_with fail
    refine wp_region_aft (by kernel_rfl) (by kernel_rfl) ?_
    repeat (go_big_quiet_step (fail))
    refine wpQuiet_nil ?_
    intro y
    go_wp2
    go_ret
    exact ⟨retB HR.out.symm, Below.aft (by (repeat' (first | (with_reducible exact Below.refl _ _) | (with_reducible assumption) | (with_reducible refine Below.alloc ?_ ?_ _) | (with_reducible refine Below.drew ?_) | (with_reducible refine Aft.below _ ?_ ?_) | (with_reducible refine Below.setCell_new ?_ ?_ _ _) | (with_reducible exact Nat.le_refl _) | (with_reducible refine Aft.le _ ?_) | (with_reducible refine le_alloc ?_) | (with_reducible refine le_drew ?_) | (with_reducible refine le_setCell ?_) | omega)))⟩

set_option maxRecDepth 100000 in
set_option maxHeartbeats 1600000 in
theorem fit_10 (wd v a b c : Int) (hw1 : 1 ≤ wd) (hw2 : wd ≤ 16) (a0 : 0 ≤ a) (a1 : a ≤ 16) (b0 : 0 ≤ b) (b1 : b ≤ 16) (B : Option Addr) (al bc : Nat) (w : World) :
    Calls Tryd.prog 83 #[.agg #[.int .i64 10, .int .i64 wd, .slice B al bc, .int .i64 v], .agg #[.int .i64 a, .int .i64 b, .int .i64 c]] w fun e w' => e = .returned (.bool (fitW 10 wd v a b c)) ∧ ∃ x : Aft w, w' = x.val := by
  cases hE : (a == b)
  · have HR := Lib.hid (show fitW 10 wd v a b c = false by show (a == b && wd == 1) = false; rw [hE]; rfl)
    go_enter Tryd.func83, Tryd.ntmps83
    go_wp2_with fail
    refine wp_region_aft (by kernel_rfl) (by kernel_rfl) ?_
    repeat (go_big_quiet_step (fail))
    refine wpQuiet_nil ?_
    intro y
    go_wp2
    go_ret
    exact ⟨retB HR.out.symm, Below.aft (by (repeat' (first | (with_reducible exact Below.refl _ _) | (with_reducible assumption) | (with_reducible refine Below.alloc ?_ ?_ _) | (with_reducible refine Below.drew ?_) | (with_reducible refine Aft.below _ ?_ ?_) | (with_reducible refine Below.setCell_new ?_ ?_ _ _) | (with_reducible exact Nat.le_refl _) | (with_reducible refine Aft.le _ ?_) | (with_reducible refine le_alloc ?_) | (with_reducible refine le_drew ?_) | (with_reducible refine le_setCell ?_) | omega)))⟩
  · have HR := Lib.hid (show fitW 10 wd v a b c = (wd == 1) by show (a == b && wd == 1) = _; rw [hE]; rfl)
    go_enter Tryd.func83, Tryd.ntmps83
    go_wp2_with fail
    refine wp_region_aft (by kernel_rfl) (by kernel_rfl) ?_
    repeat (go_big_quiet_step (fail))
    refine wpQuiet_nil ?_
    intro y
    go_wp2
    go_ret
    exact ⟨retB HR.out.symm, Below.aft (by (repeat' (first | (with_reducible exact Below.refl _ _) | (with_reducible assumption) | (with_reducible refine Below.alloc ?_ ?_ _) | (with_reducible refine Below.drew ?_) | (with_reducible refine Aft.below _ ?_ ?_) | (with_reducible refine Below.setCell_new ?_ ?_ _ _) | (with_reducible exact Nat.le_refl _) | (with_reducible refine Aft.le _ ?_) | (with_reducible refine le_alloc ?_) | (with_reducible refine le_drew ?_) | (with_reducible refine le_setCell ?_) | omega)))⟩

set_option maxRecDepth 100000 in
set_option maxHeartbeats 1600000 in
theorem fit_11 (wd v a b c : Int) (hw1 : 1 ≤ wd) (hw2 : wd ≤ 16) (a0 : 0 ≤ a) (a1 : a ≤ 16) (b0 : 0 ≤ b) (b1 : b ≤ 16) (B : Option Addr) (al bc : Nat) (w : World) :
    Calls Tryd.prog 83 #[.agg #[.int .i64 11, .int .i64 wd, .slice B al bc, .int .i64 v], .agg #[.int .i64 a, .int .i64 b, .int .i64 c]] w fun e w' => e = .returned (.bool (fitW 11 wd v a b c)) ∧ ∃ x : Aft w, w' = x.val := by
  cases hE : (a == b)
  · have HR := Lib.hid (show fitW 11 wd v a b c = false by show (a == b && wd == 1) = false; rw [hE]; rfl)
    go_enter Tryd.func83, Tryd.ntmps83
    go_wp2_with fail
    refine wp_region_aft (by kernel_rfl) (by kernel_rfl) ?_
    repeat (go_big_quiet_step (fail))
    refine wpQuiet_nil ?_
    intro y
    go_wp2
    go_ret
    exact ⟨retB HR.out.symm, Below.aft (by (repeat' (first | (with_reducible exact Below.refl _ _) | (with_reducible assumption) | (with_reducible refine Below.alloc ?_ ?_ _) | (with_reducible refine Below.drew ?_) | (with_reducible refine Aft.below _ ?_ ?_) | (with_reducible refine Below.setCell_new ?_ ?_ _ _) | (with_reducible exact Nat.le_refl _) | (with_reducible refine Aft.le _ ?_) | (with_reducible refine le_alloc ?_) | (with_reducible refine le_drew ?_) | (with_reducible refine le_setCell ?_) | omega)))⟩
  · have HR := Lib.hid (show fitW 11 wd v a b c = (wd == 1) by show (a == b && wd == 1) = _; rw [hE]; rfl)
    go_enter Tryd.func83, Tryd.ntmps83
    go_wp2_with fail
    refine wp_region_aft (by kernel_rfl) (by kernel_rfl) ?_
    repeat (go_big_quiet_step (fail))
    refine wpQuiet_nil ?_
    intro y
    go_wp2
    go_ret
    exact ⟨retB HR.out.symm, Below.aft (by (repeat' (first | (with_reducible exact Below.refl _ _) | (with_reducible assumption) | (with_reducible refine Below.alloc ?_ ?_ _) | (with_reducible refine Below.drew ?_) | (with_reducible refine Aft.below _ ?_ ?_) | (with_reducible refine Below.setCell_new ?_ ?_ _ _) | (with_reducible exact Nat.le_refl _) | (with_reducible refine Aft.le _ ?_) | (with_reducible refine le_alloc ?_) | (with_reducible refine le_drew ?_) | (with_reducible refine le_setCell ?_) | omega)))⟩

set_option maxRecDepth 100000 in
set_option maxHeartbeats 1600000 in
theorem fit_12 (wd v a b c : Int) (hw1 : 1 ≤ wd) (hw2 : wd ≤ 16) (a0 : 0 ≤ a) (a1 : a ≤ 16) (b0 : 0 ≤ b) (b1 : b ≤ 16) (B : Option Addr) (al bc : Nat) (w : World) :
    Calls Tryd.prog 83 #[.agg #[.int .i64 12, .int .i64 wd, .slice B al bc, .int .i64 v], .agg #[.int .i64 a, .int .i64 b, .int .i64 c]] w fun e w' => e = .returned (.bool (fitW 12 wd v a b c)) ∧ ∃ x : Aft w, w' = x.val := by
  cases hE : (a == 1)
  · have HR := Lib.hid (show fitW 12 wd v a b c = false by show (a == 1 && b == wd && c == wd) = false; rw [hE]; rfl)
    go_enter Tryd.func83, Tryd.ntmps83
    go_wp2_with fail
    refine wp_region_aft (by kernel_rfl) (by kernel_rfl) ?_
    repeat (go_big_quiet_step (fail))
    refine wpQuiet_nil ?_
    intro y
    go_wp2
    go_ret
    exact ⟨retB HR.out.symm, Below.aft (by (repeat' (first | (with_reducible exact Below.refl _ _) | (with_reducible assumption) | (with_reducible refine Below.alloc ?_ ?_ _) | (with_reducible refine Below.drew ?_) | (with_reducible refine Aft.below _ ?_ ?_) | (with_reducible refine Below.setCell_new ?_ ?_ _ _) | (with_reducible exact Nat.le_refl _) | (with_reducible refine Aft.le _ ?_) | (with_reducible refine le_alloc ?_) | (with_reducible refine le_drew ?_) | (with_reducible refine le_setCell ?_) | omega)))⟩
  cases hF : (b == wd)
  · have HR := Lib.hid (show fitW 12 wd v a b c = false by show (a == 1 && b == wd && c == wd) = false; rw [hE, hF]; rfl)
    go_enter Tryd.func83, Tryd.ntmps83
    go_wp2_with fail
    refine wp_region_aft (by kernel_rfl) (by kernel_rfl) ?_
    repeat (go_big_quiet_step (fail))
    refine wpQuiet_nil ?_
    intro y
    go_wp2
    go_ret
    exact ⟨retB HR.out.symm, Below.aft (by (repeat' (first | (with_reducible exact Below.refl _ _) | (with_reducible assumption) | (with_reducible refine Below.alloc ?_ ?_ _) | (with_reducible refine Below.drew ?_) | (with_reducible refine Aft.below _ ?_ ?_) | (with_reducible refine Below.setCell_new ?_ ?_ _ _) | (with_reducible exact Nat.le_refl _) | (with_reducible refine Aft.le _ ?_) | (with_reducible refine le_alloc ?_) | (with_reducible refine le_drew ?_) | (with_reducible refine le_setCell ?_) | omega)))⟩
  · have HR := Lib.hid (show fitW 12 wd v a b c = (c == wd) by show (a == 1 && b == wd && c == wd) = _; rw [hE, hF]; rfl)
    go_enter Tryd.func83, Tryd.ntmps83
    go_wp2_with fail
    refine wp_region_aft (by kernel_rfl) (by kernel_rfl) ?_
    repeat (go_big_quiet_step (fail))
    refine wpQuiet_nil ?_
    intro y
    go_wp2
    go_ret
    exact ⟨retB HR.out.symm, Below.aft (by (repeat' (first | (with_reducible exact Below.refl _ _) | (with_reducible assumption) | (with_reducible refine Below.alloc ?_ ?_ _) | (with_reducible refine Below.drew ?_) | (with_reducible refine Aft.below _ ?_ ?_) | (with_reducible refine Below.setCell_new ?_ ?_ _ _) | (with_reducible exact Nat.le_refl _) | (with_reducible refine Aft.le _ ?_) | (with_reducible refine le_alloc ?_) | (with_reducible refine le_drew ?_) | (with_reducible refine le_setCell ?_) | omega)))⟩

set_option maxRecDepth 100000 in
set_option maxHeartbeats 1600000 in
theorem fit_13 (wd v a b c : Int) (hw1 : 1 ≤ wd) (hw2 : wd ≤ 16) (a0 : 0 ≤ a) (a1 : a ≤ 16) (b0 : 0 ≤ b) (b1 : b ≤ 16) (B : Option Addr) (al bc : Nat) (w : World) :
    Calls Tryd.prog 83 #[.agg #[.int .i64 13, .int .i64 wd, .slice B al bc, .int .i64 v], .agg #[.int .i64 a, .int .i64 b, .int .i64 c]] w fun e w' => e = .returned (.bool (fitW 13 wd v a b c)) ∧ ∃ x : Aft w, w' = x.val := by
  have HR := Lib.hid (show fitW 13 wd v a b c = (a + b == wd) from rfl)
  go_enter Tryd.func83, Tryd.ntmps83
  go_wp2_with fail
  refine wp_region_aft (by kernel_rfl) (by kernel_rfl) ?_
  repeat (go_big_quiet_step (fail))
  refine wpQuiet_nil ?_
  intro y
  go_wp2
  go_ret
  exact ⟨retB HR.out.symm, Below.aft (by (repeat' (first | (with_reducible exact Below.refl _ _) | (with_reducible assumption) | (with_reducible refine Below.alloc ?_ ?_ _) | (with_reducible refine Below.drew ?_) | (with_reducible refine Aft.below _ ?_ ?_) | (with_reducible refine Below.setCell_new ?_ ?_ _ _) | (with_reducible exact Nat.le_refl _) | (with_reducible refine Aft.le _ ?_) | (with_reducible refine le_alloc ?_) | (with_reducible refine le_drew ?_) | (with_reducible refine le_setCell ?_) | omega)))⟩

set_option maxRecDepth 100000 in
set_option maxHeartbeats 1600000 in
theorem fit_14 (wd v a b c : Int) (hw1 : 1 ≤ wd) (hw2 : wd ≤ 16) (a0 : 0 ≤ a) (a1 : a ≤ 16) (b0 : 0 ≤ b) (b1 : b ≤ 16) (v0 : 0 ≤ v) (v1 : v ≤ 15) (B : Option Addr) (al bc : Nat) (w : World) :
    Calls Tryd.prog 83 #[.agg #[.int .i64 14, .int .i64 wd, .slice B al bc, .int .i64 v], .agg #[.int .i64 a, .int .i64 b, .int .i64 c]] w fun e w' => e = .returned (.bool (fitW 14 wd v a b c)) ∧ ∃ x : Aft w, w' = x.val := by
  have HR := Lib.hid (show fitW 14 wd v a b c = (decide (v + wd ≤ a)) from rfl)
  go_enter Tryd.func83, Tryd.ntmps83
  go_wp2_with fail
  refine wp_region_aft (by kernel_rfl) (by kernel_rfl) ?_
  repeat (go_big_quiet_step (fail))
  refine wpQuiet_nil ?_
  intro y
  go_wp2
  go_ret
  exact ⟨retB HR.out.symm, Below.aft (by (repeat' (first | (with_reducible exact Below.refl _ _) | (with_reducible assumption) | (with_reducible refine Below.alloc ?_ ?_ _) | (with_reducible refine Below.drew ?_) | (with_reducible refine Aft.below _ ?_ ?_) | (with_reducible refine Below.setCell_new ?_ ?_ _ _) | (with_reducible exact Nat.le_refl _) | (with_reducible refine Aft.le _ ?_) | (with_reducible refine le_alloc ?_) | (with_reducible refine le_drew ?_) | (with_reducible refine le_setCell ?_) | omega)))⟩

set_option maxRecDepth 100000 in
set_option maxHeartbeats 1600000 in
theorem fit_15 (wd v a b c : Int) (hw1 : 1 ≤ wd) (hw2 : wd ≤ 16) (a0 : 0 ≤ a) (a1 : a ≤ 16) (b0 : 0 ≤ b) (b1 : b ≤ 16) (B : Option Addr) (al bc : Nat) (w : World) :
    Calls Tryd.prog 83 #[.agg #[.int .i64 15, .int .i64 wd, .slice B al bc, .int .i64 v], .agg #[.int .i64 a, .int .i64 b, .int .i64 c]] w fun e w' => e = .returned (.bool (fitW 15 wd v a b c)) ∧ ∃ x : Aft w, w' = x.val := by
  have HR := Lib.hid (show fitW 15 wd v a b c = (decide (a ≤ wd)) from rfl)
  go_enter Tryd.func83, Tryd.ntmps83
  go_wp2_with fail
  refine wp_region_aft (by kernel_rfl) (by kernel_rfl) ?_
  repeat (go_big_quiet_step (fail))
  refine wpQuiet_nil ?_
  intro y
  go_wp2
  go_ret
  exact ⟨retB HR.out.symm, Below.aft (by (repeat' (first | (with_reducible exact Below.refl _ _) | (with_reducible assumption) | (with_reducible refine Below.alloc ?_ ?_ _) | (with_reducible refine Below.drew ?_) | (with_reducible refine Aft.below _ ?_ ?_) | (with_reducible refine Below.setCell_new ?_ ?_ _ _) | (with_reducible exact Nat.le_refl _) | (with_reducible refine Aft.le _ ?_) | (with_reducible refine le_alloc ?_) | (with_reducible refine le_drew ?_) | (with_reducible refine le_setCell ?_) | omega)))⟩

set_option maxRecDepth 100000 in
set_option maxHeartbeats 1600000 in
theorem fit_16 (wd v a b c : Int) (hw1 : 1 ≤ wd) (hw2 : wd ≤ 16) (a0 : 0 ≤ a) (a1 : a ≤ 16) (b0 : 0 ≤ b) (b1 : b ≤ 16) (B : Option Addr) (al bc : Nat) (w : World) :
    Calls Tryd.prog 83 #[.agg #[.int .i64 16, .int .i64 wd, .slice B al bc, .int .i64 v], .agg #[.int .i64 a, .int .i64 b, .int .i64 c]] w fun e w' => e = .returned (.bool (fitW 16 wd v a b c)) ∧ ∃ x : Aft w, w' = x.val := by
  have HR := Lib.hid (show fitW 16 wd v a b c = (decide (a ≤ wd)) from rfl)
  go_enter Tryd.func83, Tryd.ntmps83
  go_wp2_with fail
  refine wp_region_aft (by kernel_rfl) (by kernel_rfl) ?_
  repeat (go_big_quiet_step (fail))
  refine wpQuiet_nil ?_
  intro y
  go_wp2
  go_ret
  exact ⟨retB HR.out.symm, Below.aft (by (repeat' (first | (with_reducible exact Below.refl _ _) | (with_reducible assumption) | (with_reducible refine Below.alloc ?_ ?_ _) | (with_reducible refine Below.drew ?_) | (with_reducible refine Aft.below _ ?_ ?_) | (with_reducible refine Below.setCell_new ?_ ?_ _ _) | (with_reducible exact Nat.le_refl _) | (with_reducible refine Aft.le _ ?_) | (with_reducible refine le_alloc ?_) | (with_reducible refine le_drew ?_) | (with_reducible refine le_setCell ?_) | omega)))⟩

set_option maxRecDepth 100000 in
set_option maxHeartbeats 1600000 in
theorem fit_17 (wd v a b c : Int) (hw1 : 1 ≤ wd) (hw2 : wd ≤ 16) (a0 : 0 ≤ a) (a1 : a ≤ 16) (b0 : 0 ≤ b) (b1 : b ≤ 16) (B : Option Addr) (al bc : Nat) (w : World) :
    Calls Tryd.prog 83 #[.agg #[.int .i64 17, .int .i64 wd, .slice B al bc, .int .i64 v], .agg #[.int .i64 a, .int .i64 b, .int .i64 c]] w fun e w' => e = .returned (.bool (fitW 17 wd v a b c)) ∧ ∃ x : Aft w, w' = x.val := by
  have HR := Lib.hid (show fitW 17 wd v a b c = (a == wd) from rfl)
  go_enter Tryd.func83, Tryd.ntmps83
  go_wp2_with fail
  refine wp_region_aft (by kernel_rfl) (by kernel_rfl) ?_
  repeat (go_big_quiet_step (fail))
  refine wpQuiet_nil ?_
  intro y
  go_wp2
  go_ret
  exact ⟨retB HR.out.symm, Below.aft (by (repeat' (first | (with_reducible exact Below.refl _ _) | (with_reducible assumption) | (with_reducible refine Below.alloc ?_ ?_ _) | (with_reducible refine Below.drew ?_) | (with_reducible refine Aft.below _ ?_ ?_) | (with_reducible refine Below.setCell_new ?_ ?_ _ _) | (with_reducible exact Nat.le_refl _) | (with_reducible refine Aft.le _ ?_) | (with_reducible refine le_alloc ?_) | (with_reducible refine le_drew ?_) | (with_reducible refine le_setCell ?_) | omega)))⟩

set_option maxRecDepth 100000 in
set_option maxHeartbeats 1600000 in
theorem fit_18 (wd v a b c : Int) (hw1 : 1 ≤ wd) (hw2 : wd ≤ 16) (a0 : 0 ≤ a) (a1 : a ≤ 16) (b0 : 0 ≤ b) (b1 : b ≤ 16) (B : Option Addr) (al bc : Nat) (w : World) :
    Calls Tryd.prog 83 #[.agg #[.int .i64 18, .int .i64 wd, .slice B al bc, .int .i64 v], .agg #[.int .i64 a, .int .i64 b, .int .i64 c]] w fun e w' => e = .returned (.bool (fitW 18 wd v a b c)) ∧ ∃ x : Aft w, w' = x.val := by
  have HR := Lib.hid (show fitW 18 wd v a b c = (a == wd) from rfl)
  go_enter Tryd.func83, Tryd.ntmps83
  go_wp2_with fail
  refine wp_region_aft (by kernel_rfl) (by kernel_rfl) ?_
  repeat (go_big_quiet_step (fail))
  refine wpQuiet_nil ?_
  intro y
  go_wp2
  go_ret
  exact ⟨retB HR.out.symm, Below.aft (by (repeat' (first | (with_reducible exact Below.refl _ _) | (with_reducible assumption) | (with_reducible refine Below.alloc ?_ ?_ _) | (with_reducible refine Below.drew ?_) | (with_reducible refine Aft.below _ ?_ ?_) | (with_reducible refine Below.setCell_new ?_ ?_ _ _) | (with_reducible exact Nat.le_refl _) | (with_reducible refine Aft.le _ ?_) | (with_reducible refine le_alloc ?_) | (with_reducible refine le_drew ?_) | (with_reducible refine le_setCell ?_) | omega)))⟩

theorem widthsFit_c (op wd v a b c : Int) (ho : 0 ≤ op) (ho2 : op ≤ 18) (hw1 : 1 ≤ wd) (hw2 : wd ≤ 16) (ha : 0 ≤ a ∧ a ≤ 16) (hb : 0 ≤ b ∧ b ≤ 16) (hv : op = 14 → 0 ≤ v ∧ v ≤ 15) (B : Option Addr) (al bc : Nat) (w : World) :
    Calls Tryd.prog 83 #[.agg #[.int .i64 op, .int .i64 wd, .slice B al bc, .int .i64 v], .agg #[.int .i64 a, .int .i64 b, .int .i64 c]] w fun e w' => e = .returned (.bool (fitW op wd v a b c)) ∧ ∃ x : Aft w, w' = x.val := by
  obtain ⟨a0, a1⟩ := ha
  obtain ⟨b0, b1⟩ := hb
  have hcase : op = 0 ∨ op = 1 ∨ op = 2 ∨ op = 3 ∨ op = 4 ∨ op = 5 ∨ op = 6 ∨ op = 7 ∨ op = 8 ∨ op = 9 ∨ op = 10 ∨ op = 11 ∨ op = 12 ∨ op = 13 ∨ op = 14 ∨ op = 15 ∨ op = 16 ∨ op = 17 ∨ op = 18 := by omega
  rcases hcase with rfl | rfl | rfl | rfl | rfl | rfl | rfl | rfl | rfl | rfl | rfl | rfl | rfl | rfl | rfl | rfl | rfl | rfl | rfl
  · exact fit_0 wd v a b c hw1 hw2 a0 a1 b0 b1 B al bc w
  · exact fit_1 wd v a b c hw1 hw2 a0 a1 b0 b1 B al bc w
  · exact fit_2 wd v a b c hw1 hw2 a0 a1 b0 b1 B al bc w
  · exact fit_3 wd v a b c hw1 hw2 a0 a1 b0 b1 B al bc w
  · exact fit_4 wd v a b c hw1 hw2 a0 a1 b0 b1 B al bc w
  · exact fit_5 wd v a b c hw1 hw2 a0 a1 b0 b1 B al bc w
  · exact fit_6 wd v a b c hw1 hw2 a0 a1 b0 b1 B al bc w
  · exact fit_7 wd v a b c hw1 hw2 a0 a1 b0 b1 B al bc w
  · exact fit_8 wd v a b c hw1 hw2 a0 a1 b0 b1 B al bc w
  · exact fit_9 wd v a b c hw1 hw2 a0 a1 b0 b1 B al bc w
  · exact fit_10 wd v a b c hw1 hw2 a0 a1 b0 b1 B al bc w
  · exact fit_11 wd v a b c hw1 hw2 a0 a1 b0 b1 B al bc w
  · exact fit_12 wd v a b c hw1 hw2 a0 a1 b0 b1 B al bc w
  · exact fit_13 wd v a b c hw1 hw2 a0 a1 b0 b1 B al bc w
  · exact fit_14 wd v a b c hw1 hw2 a0 a1 b0 b1 (hv rfl).1 (hv rfl).2 B al bc w
  · exact fit_15 wd v a b c hw1 hw2 a0 a1 b0 b1 B al bc w
  · exact fit_16 wd v a b c hw1 hw2 a0 a1 b0 b1 B al bc w
  · exact fit_17 wd v a b c hw1 hw2 a0 a1 b0 b1 B al bc w
  · exact fit_18 wd v a b c hw1 hw2 a0 a1 b0 b1 B al bc w

end Go.Proofs.YtkdonapgonegkaaDoor
