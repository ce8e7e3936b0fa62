/-
  Contracts of the functions of chapter 1 (twentieth part: one-hot codes, counts).
-/
import Derived.Test.YtlplphigjejahaaBy
import Derived.Test.YtlplphigjejahaaBr
set_option linter.unusedSimpArgs false
set_option linter.unusedVariables false
namespace Go.Proofs.Ytlplphigjejahaa
open Go.RowKit Go.BigFrame

def hotE (i wd : Int) : Int := if isW wd then eIf (!(win i 0 (wd - 1))) 2 else 25
theorem hotE_ok {i wd : Int} : hotE i wd = 0 ↔ (1 ≤ wd ∧ wd ≤ 16) ∧ 0 ≤ i ∧ i ≤ wd - 1 := by
  unfold hotE
  by_cases h : isW wd = true
  · have h' := isW_iff.1 h
    rw [if_pos h, eIf_zero (by decide)]
    simp [win, h']
  · have h' : ¬ (1 ≤ wd ∧ wd ≤ 16) := fun g => h (isW_iff.2 g)
    rw [if_neg h]; simp [h']

set_option maxRecDepth 20000 in
set_option maxHeartbeats 1600000 in
theorem HotErr_c (i wd : Int) (w : World) :
    Calls Try.prog 45 #[.int .i64 i, .int .i64 wd] w fun e w' => e = .returned (.int .i64 (hotE i wd)) ∧ w = w' := by
  cases hw : isW wd
  · have hE := Lib.hid (show hotE i wd = 25 by unfold hotE; rw [hw]; rfl)
    go_enter Try.func45, Try.ntmps45
    go_wp2_with (first | (go_at_call 67; refine (IsWidth_c _ _).mono ?_; rintro e w' ⟨rfl, rfl⟩) | (go_at_call 38; refine (Within_c _ _ _ _).mono ?_; rintro e w' ⟨rfl, rfl⟩))
    go_ret
    exact ⟨retI hE.out.symm, rfl⟩
  · obtain ⟨h1, h2⟩ := isW_iff.1 hw
    cases hi : win i 0 (wd - 1)
    · have hE := Lib.hid (show hotE i wd = 2 by unfold hotE; rw [hw, hi]; rfl)
      go_enter Try.func45, Try.ntmps45
      go_wp2_with (first | (go_at_call 67; refine (IsWidth_c _ _).mono ?_; rintro e w' ⟨rfl, rfl⟩) | (go_at_call 38; refine (Within_c _ _ _ _).mono ?_; rintro e w' ⟨rfl, rfl⟩))
      go_ret
      exact ⟨retI hE.out.symm, rfl⟩
    · have hE := Lib.hid (show hotE i wd = 0 by unfold hotE; rw [hw, hi]; rfl)
      go_enter Try.func45, Try.ntmps45
      go_wp2_with (first | (go_at_call 67; refine (IsWidth_c _ _).mono ?_; rintro e w' ⟨rfl, rfl⟩) | (go_at_call 38; refine (Within_c _ _ _ _).mono ?_; rintro e w' ⟨rfl, rfl⟩))
      go_ret
      exact ⟨retI hE.out.symm, rfl⟩

set_option maxRecDepth 20000 in
set_option maxHeartbeats 1600000 in
theorem OneHot_bad (i wd er : Int) (w : World) (hn : er ≠ 0) (h9 : Hid (hotE i wd = er)) :
    Calls Try.prog 40 #[.int .i64 i, .int .i64 wd] w fun e w' => e = .returned (.tuple #[.agg #[.int .i64 0, .int .i64 0], .int .i64 er]) ∧ ∃ x : Aft w, w' = x.val := by
  have hn' : (er == 0) = false := by simpa using hn
  have hb_ : (er != 0) = true := by simpa using hn
  by_cases ha : i < 0
  · have ha' : decide (i < 0) = true := by simpa using ha
    have H9 : Hid (firstE [eIf (!(isW wd)) 25, eIf true 2] = er) := Lib.hid (by
      rw [← h9.out]; unfold hotE
      cases hw : isW wd
      · simp [firstE, eIf]
      · have : win i 0 (wd - 1) = false := by simp [win]; omega
        simp [firstE, eIf, this])
    clear hn h9
    go_enter Try.func40, Try.ntmps40
    go_wp2_with (first | (go_at_call 64; refine (isWidth_c _ _).mono ?_; rintro e w' ⟨rfl, rfl⟩) | (go_at_call 65; refine (errorIf_c _ _ _).mono ?_; rintro e w' ⟨rfl, rfl⟩) | (go_at_call 71; refine (firstError2 _ _ _ _ _ _ (by exact heap_alloc_at (by simp [go_sem]))).mono ?_; rw [H9.out]; rintro e w' ⟨rfl, rfl⟩))
    refine bodyPost_ret (by simp [results, Try.results40, go_sem]; try rfl) rfl ?_
    exact ⟨rfl, Below.aft (by (repeat' (first | (with_reducible exact Below.refl _ _) | (with_reducible assumption) | (with_reducible exact Aft.pf _) | (with_reducible refine Below.alloc ?_ ?_ _) | (with_reducible refine Below.drew ?_) | (with_reducible refine Aft.below _ ?_ ?_) | (with_reducible refine Below.setCell_new ?_ ?_ _ _) | (with_reducible exact Nat.le_refl _) | (with_reducible refine Aft.le _ ?_) | (with_reducible refine le_alloc ?_) | (with_reducible refine le_drew ?_) | (with_reducible refine le_setCell ?_) | omega)))⟩
  · have ha' : decide (i < 0) = false := by simpa using ha
    have H9 : Hid (firstE [eIf (!(isW wd)) 25, eIf (decide (wd ≤ i)) 2] = er) := Lib.hid (by
      rw [← h9.out]; unfold hotE
      cases hw : isW wd
      · simp [firstE, eIf]
      · have : win i 0 (wd - 1) = !(decide (wd ≤ i)) := by
          by_cases h1 : wd ≤ i <;> simp [win, h1] <;> omega
        rw [this]
        by_cases h1 : wd ≤ i <;> simp [firstE, eIf, h1])
    clear hn h9
    go_enter Try.func40, Try.ntmps40
    go_wp2_with (first | (go_at_call 64; refine (isWidth_c _ _).mono ?_; rintro e w' ⟨rfl, rfl⟩) | (go_at_call 65; refine (errorIf_c _ _ _).mono ?_; rintro e w' ⟨rfl, rfl⟩) | (go_at_call 71; refine (firstError2 _ _ _ _ _ _ (by exact heap_alloc_at (by simp [go_sem]))).mono ?_; rw [H9.out]; rintro e w' ⟨rfl, rfl⟩))
    refine bodyPost_ret (by simp [results, Try.results40, go_sem]; try rfl) rfl ?_
    exact ⟨rfl, Below.aft (by (repeat' (first | (with_reducible exact Below.refl _ _) | (with_reducible assumption) | (with_reducible exact Aft.pf _) | (with_reducible refine Below.alloc ?_ ?_ _) | (with_reducible refine Below.drew ?_) | (with_reducible refine Aft.below _ ?_ ?_) | (with_reducible refine Below.setCell_new ?_ ?_ _ _) | (with_reducible exact Nat.le_refl _) | (with_reducible refine Aft.le _ ?_) | (with_reducible refine le_alloc ?_) | (with_reducible refine le_drew ?_) | (with_reducible refine le_setCell ?_) | omega)))⟩

set_option maxRecDepth 20000 in
set_option maxHeartbeats 1600000 in
theorem OneHot_c (i wd : Int) (w : World) (h1 : 1 ≤ wd) (h2 : wd ≤ 16) (h3 : 0 ≤ i) (h4 : i ≤ wd - 1) :
    Calls Try.prog 40 #[.int .i64 i, .int .i64 wd] w fun e w' => e = .returned (.tuple #[.agg #[.int .i64 wd, .int .i64 (pw i)], .int .i64 0]) ∧ ∃ x : Aft w, w' = x.val := by
  have ha' : decide (i < 0) = false := by simp; omega
  have hb' : decide (wd ≤ i) = false := by simp; omega
  have H9 : Hid (firstE [eIf (!(isW wd)) 25, eIf false 2] = 0) := Lib.hid (by rw [isW_true h1 h2]; rfl)
  have hp := pw_bd (n := i) h3 (by omega)
  have hsh : wrap64 (2 ^ i.toNat) = pw i := IntWalk.wrap64_in _ ⟨by show _ ≤ pw i; omega, by show pw i ≤ _; omega⟩
  have hsh2 : wrap64 (1 * 2 ^ i.toNat) = pw i := by rw [Int.one_mul]; exact hsh
  go_enter Try.func40, Try.ntmps40
  go_wp2_with (first | (go_at_call 64; refine (isWidth_c _ _).mono ?_; rintro e w' ⟨rfl, rfl⟩) | (go_at_call 65; refine (errorIf_c _ _ _).mono ?_; rintro e w' ⟨rfl, rfl⟩) | (go_at_call 71; refine (firstError2 _ _ _ _ _ _ (by exact heap_alloc_at (by simp [go_sem]))).mono ?_; rw [H9.out]; rintro e w' ⟨rfl, rfl⟩))
  refine bodyPost_ret (by simp [results, Try.results40, go_sem]; try rfl) rfl ?_
  exact ⟨rfl, Below.aft (by (repeat' (first | (with_reducible exact Below.refl _ _) | (with_reducible assumption) | (with_reducible exact Aft.pf _) | (with_reducible refine Below.alloc ?_ ?_ _) | (with_reducible refine Below.drew ?_) | (with_reducible refine Aft.below _ ?_ ?_) | (with_reducible refine Below.setCell_new ?_ ?_ _ _) | (with_reducible exact Nat.le_refl _) | (with_reducible refine Aft.le _ ?_) | (with_reducible refine le_alloc ?_) | (with_reducible refine le_drew ?_) | (with_reducible refine le_setCell ?_) | omega)))⟩

end Go.Proofs.Ytlplphigjejahaa
