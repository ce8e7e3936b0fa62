/-
  Contracts of the functions of chapter 1 (eighteenth part: fields).
-/
import Derived.Test.YtlplphigjejahaaBb
import Derived.Test.YtlplphigjejahaaBc
import Derived.Test.YtlplphigjejahaaBe
import Derived.Test.YtlplphigjejahaaBt
import Derived.Test.YtlplphigjejahaaKid
set_option linter.unusedSimpArgs false
set_option linter.unusedVariables false
namespace Go.Proofs.Ytlplphigjejahaa
open Go.RowKit Go.BigFrame

/-- The error of a place in a value. -/
def spE (wd lo fw : Int) : Int := firstE [eIf (!(win lo 0 16) || !(isW fw)) 2, eIf (decide (wd < wrap64 (lo + fw))) 25]
theorem spE_bad {wd lo fw : Int} (h : ¬ (0 ≤ lo ∧ lo ≤ 16 ∧ 1 ≤ fw ∧ fw ≤ 16)) : spE wd lo fw = 2 := by
  have e : (!(win lo 0 16) || !(isW fw)) = true := by
    by_cases h1 : 0 ≤ lo <;> by_cases h2 : lo ≤ 16 <;> by_cases h3 : 1 ≤ fw <;> by_cases h4 : fw ≤ 16 <;> simp [win, isW, h1, h2, h3, h4] <;> omega
  simp [spE, firstE, eIf, e]
theorem spE_in {wd lo fw : Int} (h1 : 0 ≤ lo) (h2 : lo ≤ 16) (h3 : 1 ≤ fw) (h4 : fw ≤ 16) : spE wd lo fw = eIf (decide (wd < lo + fw)) 25 := by
  have e : (!(win lo 0 16) || !(isW fw)) = false := by simp [win, isW, h1, h2, h3, h4]
  have e2 : wrap64 (lo + fw) = lo + fw := IntWalk.wrap64_in _ ⟨by omega, by omega⟩
  rw [spE, e, e2, firstE_cons, if_pos (show eIf false 2 = 0 from rfl), firstE_one]
theorem spE_ok {wd lo fw : Int} : spE wd lo fw = 0 ↔ (0 ≤ lo ∧ lo ≤ 16 ∧ 1 ≤ fw ∧ fw ≤ 16) ∧ lo + fw ≤ wd := by
  by_cases h : 0 ≤ lo ∧ lo ≤ 16 ∧ 1 ≤ fw ∧ fw ≤ 16
  · rw [spE_in h.1 h.2.1 h.2.2.1 h.2.2.2, eIf_zero (by decide)]; simp [h]
  · rw [spE_bad h]; simp [h]

set_option maxRecDepth 20000 in
set_option maxHeartbeats 1600000 in
theorem errorOfField_c (wd v lo fw : Int) (w : World) :
    Calls Try.prog 79 #[.agg #[.int .i64 wd, .int .i64 v], .int .i64 lo, .int .i64 fw] w fun e w' => e = .returned (.int .i64 (spE wd lo fw)) ∧ ∃ x : Aft w, w' = x.val := by
  by_cases ha : lo < 0
  · have ha' : decide (lo < 0) = true := by simpa using ha
    have hE := Lib.hid (show firstE [eIf true 2, eIf (decide (wd < wrap64 (lo + fw))) 25] = spE wd lo fw from by rw [spE_bad (by omega)]; rfl)
    go_enter Try.func79, Try.ntmps79
    go_wp2_with fail
    refine wp_region_aft_tail 19 (by kernel_rfl) (by kernel_rfl) ?_
    simp only [List.take_succ_cons, List.take_zero, List.drop_succ_cons, List.drop_zero]
    repeat (go_big_quiet_step (first | (go_at_call 64; exact Calls.qs (isWidth_c _ _)) | (go_at_call 65; exact Calls.qs (errorIf_c _ _ _))))
    refine wpQuiet_nil ?_
    intro x1
    have zx1_0 : w.heap.size < x1.val.heap.size := by have := x1.size; (try simp at this); omega
    go_wp2_with fail
    refine (firstError2 _ _ _ _ _ _ (by exact heap_alloc_at (by simp [go_sem]))).mono ?_
    rintro e w' ⟨rfl, rfl⟩
    go_wp2
    go_ret
    exact ⟨retI hE.out, Below.aft (by (repeat' (first | (with_reducible exact Below.refl _ _) | (with_reducible assumption) | (with_reducible refine Below.alloc ?_ ?_ _) | (with_reducible refine Below.drew ?_) | (with_reducible refine Aft.below _ ?_ ?_) | (with_reducible refine Below.setCell_new ?_ ?_ _ _) | (with_reducible exact Nat.le_refl _) | (with_reducible refine Aft.le _ ?_) | (with_reducible refine le_alloc ?_) | (with_reducible refine le_drew ?_) | (with_reducible refine le_setCell ?_) | omega)))⟩
  · have ha' : decide (lo < 0) = false := by simpa using ha
    by_cases hb : 16 < lo
    · have hb' : decide (16 < lo) = true := by simpa using hb
      have hE := Lib.hid (show firstE [eIf true 2, eIf (decide (wd < wrap64 (lo + fw))) 25] = spE wd lo fw from by rw [spE_bad (by omega)]; rfl)
      go_enter Try.func79, Try.ntmps79
      go_wp2_with fail
      refine wp_region_aft_tail 19 (by kernel_rfl) (by kernel_rfl) ?_
      simp only [List.take_succ_cons, List.take_zero, List.drop_succ_cons, List.drop_zero]
      repeat (go_big_quiet_step (first | (go_at_call 64; exact Calls.qs (isWidth_c _ _)) | (go_at_call 65; exact Calls.qs (errorIf_c _ _ _))))
      refine wpQuiet_nil ?_
      intro x1
      have zx1_0 : w.heap.size < x1.val.heap.size := by have := x1.size; (try simp at this); omega
      go_wp2_with fail
      refine (firstError2 _ _ _ _ _ _ (by exact heap_alloc_at (by simp [go_sem]))).mono ?_
      rintro e w' ⟨rfl, rfl⟩
      go_wp2
      go_ret
      exact ⟨retI hE.out, Below.aft (by (repeat' (first | (with_reducible exact Below.refl _ _) | (with_reducible assumption) | (with_reducible refine Below.alloc ?_ ?_ _) | (with_reducible refine Below.drew ?_) | (with_reducible refine Aft.below _ ?_ ?_) | (with_reducible refine Below.setCell_new ?_ ?_ _ _) | (with_reducible exact Nat.le_refl _) | (with_reducible refine Aft.le _ ?_) | (with_reducible refine le_alloc ?_) | (with_reducible refine le_drew ?_) | (with_reducible refine le_setCell ?_) | omega)))⟩
    · have hb' : decide (16 < lo) = false := by simpa using hb
      have hE := Lib.hid (show firstE [eIf (!(isW fw)) 2, eIf (decide (wd < wrap64 (lo + fw))) 25] = spE wd lo fw from by
        have e : win lo 0 16 = true := by simp [win]; omega
        simp [spE, e])
      go_enter Try.func79, Try.ntmps79
      go_wp2_with fail
      refine wp_region_aft_tail 19 (by kernel_rfl) (by kernel_rfl) ?_
      simp only [List.take_succ_cons, List.take_zero, List.drop_succ_cons, List.drop_zero]
      repeat (go_big_quiet_step (first | (go_at_call 64; exact Calls.qs (isWidth_c _ _)) | (go_at_call 65; exact Calls.qs (errorIf_c _ _ _))))
      refine wpQuiet_nil ?_
      intro x1
      have zx1_0 : w.heap.size < x1.val.heap.size := by have := x1.size; (try simp at this); omega
      go_wp2_with fail
      refine (firstError2 _ _ _ _ _ _ (by exact heap_alloc_at (by simp [go_sem]))).mono ?_
      rintro e w' ⟨rfl, rfl⟩
      go_wp2
      go_ret
      exact ⟨retI hE.out, Below.aft (by (repeat' (first | (with_reducible exact Below.refl _ _) | (with_reducible assumption) | (with_reducible refine Below.alloc ?_ ?_ _) | (with_reducible refine Below.drew ?_) | (with_reducible refine Aft.below _ ?_ ?_) | (with_reducible refine Below.setCell_new ?_ ?_ _ _) | (with_reducible exact Nat.le_refl _) | (with_reducible refine Aft.le _ ?_) | (with_reducible refine le_alloc ?_) | (with_reducible refine le_drew ?_) | (with_reducible refine le_setCell ?_) | omega)))⟩

set_option maxRecDepth 20000 in
set_option maxHeartbeats 1600000 in
theorem spotErr_c (wd v lo fw : Int) (w : World) :
    Calls Try.prog 82 #[.agg #[.int .i64 wd, .int .i64 v], .int .i64 lo, .int .i64 fw] w fun e w' => e = .returned (.int .i64 (spE wd lo fw)) ∧ ∃ x : Aft w, w' = x.val := by
  by_cases h : 0 ≤ lo ∧ lo ≤ 16
  · have hw : win lo 0 16 = true := by simp [win, h]
    cases hf : isW fw
    · have hE := Lib.hid (spE_bad (wd := wd) (lo := lo) (fw := fw) (fun q => by rw [isW_iff.2 ⟨q.2.2.1, q.2.2.2⟩] at hf; cases hf))
      go_enter Try.func82, Try.ntmps82
      go_wp2_with (first | (go_at_call 38; refine (Within_c _ _ _ _).mono ?_; rintro e w' ⟨rfl, rfl⟩) | (go_at_call 67; refine (IsWidth_c _ _).mono ?_; rintro e w' ⟨rfl, rfl⟩))
      go_ret
      exact ⟨retI hE.out.symm, Below.aft (by (repeat' (first | (with_reducible exact Below.refl _ _) | (with_reducible assumption) | (with_reducible refine Below.alloc ?_ ?_ _) | (with_reducible refine Below.drew ?_) | (with_reducible refine Aft.below _ ?_ ?_) | (with_reducible refine Below.setCell_new ?_ ?_ _ _) | (with_reducible exact Nat.le_refl _) | (with_reducible refine Aft.le _ ?_) | (with_reducible refine le_alloc ?_) | (with_reducible refine le_drew ?_) | (with_reducible refine le_setCell ?_) | omega)))⟩
    · have hf' := isW_iff.1 hf
      have hE := Lib.hid (spE_in (wd := wd) h.1 h.2 hf'.1 hf'.2)
      obtain ⟨h1, h2⟩ := h
      obtain ⟨h3, h4⟩ := hf'
      by_cases hc : wd < lo + fw
      · have hc' : decide (wd < lo + fw) = true := by simpa using hc
        have hE2 := Lib.hid (show spE wd lo fw = 25 by rw [hE.out, hc']; rfl)
        go_enter Try.func82, Try.ntmps82
        go_wp2_with (first | (go_at_call 38; refine (Within_c _ _ _ _).mono ?_; rintro e w' ⟨rfl, rfl⟩) | (go_at_call 67; refine (IsWidth_c _ _).mono ?_; rintro e w' ⟨rfl, rfl⟩))
        go_ret
        exact ⟨retI hE2.out.symm, Below.aft (by (repeat' (first | (with_reducible exact Below.refl _ _) | (with_reducible assumption) | (with_reducible refine Below.alloc ?_ ?_ _) | (with_reducible refine Below.drew ?_) | (with_reducible refine Aft.below _ ?_ ?_) | (with_reducible refine Below.setCell_new ?_ ?_ _ _) | (with_reducible exact Nat.le_refl _) | (with_reducible refine Aft.le _ ?_) | (with_reducible refine le_alloc ?_) | (with_reducible refine le_drew ?_) | (with_reducible refine le_setCell ?_) | omega)))⟩
      · have hc' : decide (wd < lo + fw) = false := by simpa using hc
        have hE2 := Lib.hid (show spE wd lo fw = 0 by rw [hE.out, hc']; rfl)
        go_enter Try.func82, Try.ntmps82
        go_wp2_with (first | (go_at_call 38; refine (Within_c _ _ _ _).mono ?_; rintro e w' ⟨rfl, rfl⟩) | (go_at_call 67; refine (IsWidth_c _ _).mono ?_; rintro e w' ⟨rfl, rfl⟩))
        go_ret
        exact ⟨retI hE2.out.symm, Below.aft (by (repeat' (first | (with_reducible exact Below.refl _ _) | (with_reducible assumption) | (with_reducible refine Below.alloc ?_ ?_ _) | (with_reducible refine Below.drew ?_) | (with_reducible refine Aft.below _ ?_ ?_) | (with_reducible refine Below.setCell_new ?_ ?_ _ _) | (with_reducible exact Nat.le_refl _) | (with_reducible refine Aft.le _ ?_) | (with_reducible refine le_alloc ?_) | (with_reducible refine le_drew ?_) | (with_reducible refine le_setCell ?_) | omega)))⟩
  · have hw : win lo 0 16 = false := by simp [win]; omega
    have hE := Lib.hid (spE_bad (wd := wd) (lo := lo) (fw := fw) (fun q => h ⟨q.1, q.2.1⟩))
    go_enter Try.func82, Try.ntmps82
    go_wp2_with (first | (go_at_call 38; refine (Within_c _ _ _ _).mono ?_; rintro e w' ⟨rfl, rfl⟩) | (go_at_call 67; refine (IsWidth_c _ _).mono ?_; rintro e w' ⟨rfl, rfl⟩))
    go_ret
    exact ⟨retI hE.out.symm, Below.aft (by (repeat' (first | (with_reducible exact Below.refl _ _) | (with_reducible assumption) | (with_reducible refine Below.alloc ?_ ?_ _) | (with_reducible refine Below.drew ?_) | (with_reducible refine Aft.below _ ?_ ?_) | (with_reducible refine Below.setCell_new ?_ ?_ _ _) | (with_reducible exact Nat.le_refl _) | (with_reducible refine Aft.le _ ?_) | (with_reducible refine le_alloc ?_) | (with_reducible refine le_drew ?_) | (with_reducible refine le_setCell ?_) | omega)))⟩


def fdErr (wd v lo fw : Int) : Int := firstE [bErr wd v, spE wd lo fw]
theorem fdErr_if (wd v lo fw : Int) : fdErr wd v lo fw = if bErr wd v = 0 then spE wd lo fw else bErr wd v := by
  unfold fdErr; rw [firstE_cons, firstE_one]
theorem fdErr_ok {wd v lo fw : Int} : fdErr wd v lo fw = 0 ↔ bErr wd v = 0 ∧ spE wd lo fw = 0 := by
  rw [fdErr_if]; split <;> simp [*]
def stErr (wd v lo bw bv : Int) : Int := firstE [bErr wd v, bErr bw bv, spE wd lo bw]
theorem stErr_if (wd v lo bw bv : Int) : stErr wd v lo bw bv = if pairErr wd v bw bv = 0 then spE wd lo bw else pairErr wd v bw bv := by
  unfold stErr pairErr
  by_cases h1 : bErr wd v = 0
  · by_cases h2 : bErr bw bv = 0
    · simp [firstE, h1, h2]; intro h; exact h.symm
    · simp [firstE, h1, h2]
  · simp [firstE, h1]
theorem stErr_ok {wd v lo bw bv : Int} : stErr wd v lo bw bv = 0 ↔ bErr wd v = 0 ∧ bErr bw bv = 0 ∧ spE wd lo bw = 0 := by
  unfold stErr
  by_cases h1 : bErr wd v = 0
  · by_cases h2 : bErr bw bv = 0
    · simp [firstE, h1, h2]
      exact (Classical.em _).symm
    · simp [firstE, h1, h2]
  · simp [firstE, h1]

set_option maxRecDepth 20000 in
set_option maxHeartbeats 1600000 in
theorem FieldOf_bad (wd v lo fw er : Int) (w : World) (hn : er ≠ 0) (h9 : Hid (fdErr wd v lo fw = er)) :
    Calls Try.prog 28 #[.agg #[.int .i64 wd, .int .i64 v], .int .i64 lo, .int .i64 fw] w fun e w' => e = .returned (.tuple #[.agg #[.int .i64 0, .int .i64 0], .int .i64 er]) ∧ ∃ x : Aft w, w' = x.val := by
  have hn' : (er == 0) = false := by simpa using hn
  have hb_ : (er != 0) = true := by simpa using hn
  have h9' : Hid (firstE [bErr wd v, spE wd lo fw] = er) := h9
  clear hn h9
  go_enter Try.func28, Try.ntmps28
  go_wp2_with fail
  refine wp_region_aft_tail 6 (by kernel_rfl) (by kernel_rfl) ?_
  simp only [List.take_succ_cons, List.take_zero, List.drop_succ_cons, List.drop_zero]
  repeat (go_big_quiet_step (first | (go_at_call 14; exact Calls.qa (CheckBits_c _ _ _)) | (go_at_call 79; exact Calls.qa (errorOfField_c _ _ _ _ _))))
  refine wpQuiet_nil ?_
  intro x1
  have zx1_0 : w.heap.size < x1.val.heap.size := by have := x1.size; (try simp at this); omega
  have zx1_1 : w.heap.size + 1 < x1.val.heap.size := by have := x1.size; (try simp at this); omega
  go_wp2_with fail
  refine (firstError2 _ _ _ _ _ _ (by exact heap_alloc_at (by simp [go_sem]))).mono ?_
  rw [h9'.out]
  rintro e w' ⟨rfl, rfl⟩
  go_wp2
  refine bodyPost_ret (by simp [results, Try.results28, go_sem]; try rfl) rfl ?_
  exact ⟨rfl, Below.aft (by (repeat' (first | (with_reducible exact Below.refl _ _) | (with_reducible refine Below.alloc ?_ ?_ _) | (with_reducible refine Below.drew ?_) | (with_reducible refine Aft.below _ ?_ ?_) | (with_reducible refine Below.setCell_new ?_ ?_ _ _) | (with_reducible exact Nat.le_refl _) | (with_reducible refine Aft.le _ ?_) | (with_reducible refine le_alloc ?_) | (with_reducible refine le_drew ?_) | (with_reducible refine le_setCell ?_) | omega)))⟩

set_option maxRecDepth 20000 in
set_option maxHeartbeats 1600000 in
theorem FieldOf_c (wd v lo fw : Int) (w : World) (h0 : 0 ≤ v) (h1 : 0 ≤ lo) (h2 : lo ≤ 16) (h3 : 1 ≤ fw) (h4 : fw ≤ 16) (h9 : Hid (fdErr wd v lo fw = 0)) :
    Calls Try.prog 28 #[.agg #[.int .i64 wd, .int .i64 v], .int .i64 lo, .int .i64 fw] w fun e w' => e = .returned (.tuple #[.agg #[.int .i64 fw, .int .i64 (md (v / 2 ^ lo.toNat) (pw fw))], .int .i64 0]) ∧ ∃ x : Aft w, w' = x.val := by
  have h9' : Hid (firstE [bErr wd v, spE wd lo fw] = 0) := h9
  clear h9
  go_enter Try.func28, Try.ntmps28
  go_wp2_with fail
  refine wp_region_aft_tail 6 (by kernel_rfl) (by kernel_rfl) ?_
  simp only [List.take_succ_cons, List.take_zero, List.drop_succ_cons, List.drop_zero]
  repeat (go_big_quiet_step (first | (go_at_call 14; exact Calls.qa (CheckBits_c _ _ _)) | (go_at_call 79; exact Calls.qa (errorOfField_c _ _ _ _ _))))
  refine wpQuiet_nil ?_
  intro x1
  have zx1_0 : w.heap.size < x1.val.heap.size := by have := x1.size; (try simp at this); omega
  have zx1_1 : w.heap.size + 1 < x1.val.heap.size := by have := x1.size; (try simp at this); omega
  go_wp2_with fail
  refine (firstError2 _ _ _ _ _ _ (by exact heap_alloc_at (by simp [go_sem]))).mono ?_
  rw [h9'.out]
  rintro e w' ⟨rfl, rfl⟩
  go_wp2_with fail
  refine (wrapped_c _ _ h3 h4 _).mono ?_
  rintro e w' ⟨rfl, x2, rfl⟩
  have zx2_0 : w.heap.size < x2.val.heap.size := by have := x2.size; (try simp at this); omega
  have zx2_1 : w.heap.size + 1 < x2.val.heap.size := by have := x2.size; (try simp at this); omega
  have rr : x2.val.heap[w.heap.size + 1]? = some (.cells #[.int .i64 0, .int .i64 0] 23) := by (repeat' (first | (with_reducible assumption) | omega | (simp only [World.size_alloc, World.size_drew, World.size_setCell]; omega) | exact heap_alloc_at (by first | rfl | (simp; done)) | (with_reducible refine heap_aft _ ?_ ?_) | (with_reducible refine heap_alloc' ?_ ?_) | (with_reducible refine heap_drew ?_)))
  have q0 := cell_block (i := 0) rr
  have f0 := free_block (i := 0) rr
  have q1 := cell_block (i := 1) rr
  have f1 := free_block (i := 1) rr
  simp at q0 q1
  have hb0' : Below w.heap.size w x2.val := by (repeat' (first | (with_reducible exact Below.refl _ _) | (with_reducible refine Below.alloc ?_ ?_ _) | (with_reducible refine Below.drew ?_) | (with_reducible refine Aft.below _ ?_ ?_) | (with_reducible refine Below.setCell_new ?_ ?_ _ _) | (with_reducible exact Nat.le_refl _) | (with_reducible refine Aft.le _ ?_) | (with_reducible refine le_alloc ?_) | (with_reducible refine le_drew ?_) | (with_reducible refine le_setCell ?_) | omega))
  clear rr
  generalize x2.val = W' at *
  go_wp2
  refine bodyPost_ret (by simp [results, Try.results28, go_sem, q0, q1]; try rfl) rfl ?_
  exact ⟨rfl, Below.aft (by (repeat' (first | (with_reducible exact Below.refl _ _) | (with_reducible assumption) | (with_reducible refine Below.alloc ?_ ?_ _) | (with_reducible refine Below.drew ?_) | (with_reducible refine Aft.below _ ?_ ?_) | (with_reducible refine Below.setCell_new ?_ ?_ _ _) | (with_reducible exact Nat.le_refl _) | (with_reducible refine Aft.le _ ?_) | (with_reducible refine le_alloc ?_) | (with_reducible refine le_drew ?_) | (with_reducible refine le_setCell ?_) | omega)))⟩

set_option maxRecDepth 20000 in
set_option maxHeartbeats 1600000 in
theorem FieldErr_c (wd v lo fw : Int) (w : World) :
    Calls Try.prog 32 #[.agg #[.int .i64 wd, .int .i64 v], .int .i64 lo, .int .i64 fw] w fun e w' => e = .returned (.int .i64 (fdErr wd v lo fw)) ∧ ∃ x : Aft w, w' = x.val := by
  have hE := Lib.hid (fdErr_if wd v lo fw)
  by_cases h : bErr wd v = 0
  · have H := Lib.hid h
    clear h
    go_enter Try.func32, Try.ntmps32
    go_wp2_with fail
    refine (BitsErr_c wd v _).mono ?_
    rw [H.out]
    rintro e w' ⟨rfl, x, rfl⟩
    go_wp2_with fail
    refine (spotErr_c _ _ _ _ _).mono ?_
    rintro e w' ⟨rfl, x2, rfl⟩
    go_wp2
    go_ret
    exact ⟨retI (by rw [hE.out, if_pos H.out]), Below.aft (by (repeat' (first | (with_reducible exact Below.refl _ _) | (with_reducible assumption) | (with_reducible refine Below.alloc ?_ ?_ _) | (with_reducible refine Below.drew ?_) | (with_reducible refine Aft.below _ ?_ ?_) | (with_reducible refine Below.setCell_new ?_ ?_ _ _) | (with_reducible exact Nat.le_refl _) | (with_reducible refine Aft.le _ ?_) | (with_reducible refine le_alloc ?_) | (with_reducible refine le_drew ?_) | (with_reducible refine le_setCell ?_) | omega)))⟩
  · have h1 : (bErr wd v == 0) = false := by simpa using h
    have h2 : (bErr wd v != 0) = true := by simpa using h
    have H := Lib.hid h
    clear h
    go_enter Try.func32, Try.ntmps32
    go_wp2_with fail
    refine (BitsErr_c wd v _).mono ?_
    rintro e w' ⟨rfl, x, rfl⟩
    go_wp2
    go_ret
    exact ⟨retI (by rw [hE.out, if_neg H.out]), Below.aft (by (repeat' (first | (with_reducible exact Below.refl _ _) | (with_reducible assumption) | (with_reducible refine Below.alloc ?_ ?_ _) | (with_reducible refine Below.drew ?_) | (with_reducible refine Aft.below _ ?_ ?_) | (with_reducible refine Below.setCell_new ?_ ?_ _ _) | (with_reducible exact Nat.le_refl _) | (with_reducible refine Aft.le _ ?_) | (with_reducible refine le_alloc ?_) | (with_reducible refine le_drew ?_) | (with_reducible refine le_setCell ?_) | omega)))⟩

set_option maxRecDepth 20000 in
set_option maxHeartbeats 1600000 in
theorem Field_c (wd v lo fw : Int) (w : World) (h0 : 0 ≤ v) (h5 : v ≤ 65535) (h1 : 0 ≤ lo) (h2 : lo ≤ 16) (h3 : 1 ≤ fw) (h4 : fw ≤ 16) :
    Calls Try.prog 33 #[.agg #[.int .i64 wd, .int .i64 v], .int .i64 lo, .int .i64 fw] w fun e w' => e = .returned (.agg #[.int .i64 fw, .int .i64 (md (v / pw lo) (pw fw))]) ∧ ∃ x : Aft w, w' = x.val := by
  have hp := pw_bd (n := fw) (by omega) h4
  have hq := pw_bd h1 h2
  have hd := Lib.hid (Int.tdiv_eq_ediv_of_nonneg (b := pw lo) h0)
  go_enter Try.func33, Try.ntmps33
  go_wp2_with fail
  refine wp_region_aft_tail 10 (by kernel_rfl) (by kernel_rfl) ?_
  simp only [List.take_succ_cons, List.take_zero, List.drop_succ_cons, List.drop_zero]
  repeat (go_big_quiet_step (first | (go_at_call 20; exact Calls.qs (Power_c _ (by omega) (by omega) _)) | (go_at_call 53; first | exact Calls.qs (Mod_c _ _ (by omega) (by omega) _) | (rw [hd.out]; exact Calls.qs (Mod_c _ _ (by omega) (by omega) _)))))
  refine wpQuiet_nil ?_
  intro x
  have rr : x.val.heap[w.heap.size + 1]? = some (.cells #[.int .i64 0, .int .i64 0] 23) := by (repeat' (first | (with_reducible assumption) | omega | (simp only [World.size_alloc, World.size_drew, World.size_setCell]; omega) | exact heap_alloc_at (by first | rfl | (simp; done)) | (with_reducible refine heap_aft _ ?_ ?_) | (with_reducible refine heap_alloc' ?_ ?_) | (with_reducible refine heap_drew ?_)))
  have qr0 := cell_block (i := 0) rr
  have qr1 := cell_block (i := 1) rr
  have fr0 := free_block (i := 0) rr
  have fr1 := free_block (i := 1) rr
  simp at qr0 qr1
  have hb0 : Below w.heap.size w x.val := by (repeat' (first | (with_reducible exact Below.refl _ _) | (with_reducible assumption) | (with_reducible refine Below.alloc ?_ ?_ _) | (with_reducible refine Below.drew ?_) | (with_reducible refine Aft.below _ ?_ ?_) | (with_reducible refine Below.setCell_new ?_ ?_ _ _) | (with_reducible exact Nat.le_refl _) | (with_reducible refine Aft.le _ ?_) | (with_reducible refine le_alloc ?_) | (with_reducible refine le_drew ?_) | (with_reducible refine le_setCell ?_) | omega))
  clear rr
  generalize x.val = W1 at *
  go_wp2
  refine bodyPost_ret (by simp [results, Try.results33, go_sem, qr0, qr1]; try rfl) rfl ?_
  exact ⟨rfl, Below.aft (by (repeat' (first | (with_reducible exact Below.refl _ _) | (with_reducible assumption) | (with_reducible refine Below.alloc ?_ ?_ _) | (with_reducible refine Below.drew ?_) | (with_reducible refine Aft.below _ ?_ ?_) | (with_reducible refine Below.setCell_new ?_ ?_ _ _) | (with_reducible exact Nat.le_refl _) | (with_reducible refine Aft.le _ ?_) | (with_reducible refine le_alloc ?_) | (with_reducible refine le_drew ?_) | (with_reducible refine le_setCell ?_) | omega)))⟩


theorem andNot_nat (a b : Nat) (ha : a < 2 ^ 62) (hb : b < 2 ^ 64) : bits .andNot .i64 (a : Int) (b : Int) = ((a &&& (2 ^ 64 - (b + 1)) : Nat) : Int) := by
  show IntKind.i64.wrap ((BitVec.ofInt 64 (a : Int) &&& ~~~ BitVec.ofInt 64 (b : Int)).toNat : Nat) = _
  have e1 : (BitVec.ofInt 64 (b : Int)).toNat = b := by rw [BitVec.ofInt_natCast, BitVec.toNat_ofNat]; exact Nat.mod_eq_of_lt hb
  have e0 : (BitVec.ofInt 64 (a : Int)).toNat = a := by rw [BitVec.ofInt_natCast, BitVec.toNat_ofNat]; exact Nat.mod_eq_of_lt (by omega)
  rw [BitVec.toNat_and, BitVec.toNat_not, e0, e1, IntKind.wrap_i64]
  have h : a &&& (2 ^ 64 - 1 - b) ≤ a := Nat.and_le_left
  have e2 : 2 ^ 64 - 1 - b = 2 ^ 64 - (b + 1) := by omega
  rw [e2] at h ⊢
  omega
/-- A value with another field. -/
theorem setfield (v lo bw bv : Nat) (hv : v < 65536) (hl : lo + bw ≤ 16) (hb : bv < 2 ^ bw) :
    (v &&& (2 ^ 64 - ((2 ^ bw - 1) * 2 ^ lo + 1))) ||| (bv * 2 ^ lo) = 2 ^ (lo + bw) * (v / 2 ^ (lo + bw)) + (2 ^ lo * bv + v % 2 ^ lo) := by
  have hlow : v % 2 ^ lo < 2 ^ lo := Nat.mod_lt _ (Nat.pow_pos (by decide))
  have hpl : 0 < 2 ^ lo := Nat.pow_pos (by decide)
  have hin : 2 ^ lo * bv + v % 2 ^ lo < 2 ^ (lo + bw) := by
    rw [Nat.pow_add]
    have : 2 ^ lo * bv + 2 ^ lo ≤ 2 ^ lo * 2 ^ bw := by rw [← Nat.mul_succ]; exact Nat.mul_le_mul_left _ hb
    omega
  have hm : (2 ^ bw - 1) * 2 ^ lo < 2 ^ 64 := by
    have h1 : (2 ^ bw - 1) * 2 ^ lo ≤ 2 ^ bw * 2 ^ lo := Nat.mul_le_mul_right _ (Nat.sub_le _ _)
    rw [← Nat.pow_add] at h1
    have h2 : 2 ^ (bw + lo) ≤ 2 ^ 16 := Nat.pow_le_pow_right (by decide) (by omega)
    omega
  refine Nat.eq_of_testBit_eq fun j => ?_
  rw [Nat.testBit_or, Nat.testBit_and, Nat.testBit_two_pow_sub_succ hm, Nat.testBit_two_pow_mul_add _ hin, Nat.mul_comm bv, Nat.mul_comm _ (2 ^ lo), Nat.testBit_two_pow_mul, Nat.testBit_two_pow_mul, Nat.testBit_two_pow_sub_one]
  by_cases h1 : j < lo
  · have h2 : j < lo + bw := by omega
    have h3 : ¬ lo ≤ j := by omega
    have h4 : j < 64 := by omega
    rw [if_pos h2, Nat.testBit_two_pow_mul_add _ hlow, if_pos h1, Nat.testBit_mod_two_pow]
    simp [h1, h3, h4]
  · have h3 : lo ≤ j := by omega
    by_cases h2 : j < lo + bw
    · have h5 : j - lo < bw := by omega
      rw [if_pos h2, Nat.testBit_two_pow_mul_add _ hlow, if_neg h1]
      simp [h3, h5]
    · have h5 : ¬ j - lo < bw := by omega
      rw [if_neg h2, Nat.testBit_div_two_pow, show j - (lo + bw) + (lo + bw) = j by omega]
      have h6 : bv.testBit (j - lo) = false := Nat.testBit_lt_two_pow (Nat.lt_of_lt_of_le hb (Nat.pow_le_pow_right (by decide) (by omega)))
      by_cases h7 : j < 64
      · simp [h3, h5, h6, h7]
      · have h8 : v.testBit j = false := Nat.testBit_lt_two_pow (Nat.lt_of_lt_of_le hv (by
          have := Nat.pow_le_pow_right (n := 2) (by decide) (show 16 ≤ j by omega)
          omega))
        simp [h6, h8]
theorem setfield_int {v lo bw bv : Int} (h0 : 0 ≤ v) (h5 : v ≤ 65535) (h1 : 0 ≤ lo) (h3 : 1 ≤ bw) (h6 : lo + bw ≤ 16) (h7 : 0 ≤ bv) (h8 : bv < pw bw) :
    bits .or .i64 (bits .andNot .i64 v (wrap64 ((pw bw - 1) * 2 ^ lo.toNat))) (wrap64 (bv * 2 ^ lo.toNat)) = v + (bv - md (v / pw lo) (pw bw)) * pw lo := by
  obtain ⟨v, rfl⟩ := Int.eq_ofNat_of_zero_le h0
  obtain ⟨lo, rfl⟩ := Int.eq_ofNat_of_zero_le h1
  obtain ⟨bw, rfl⟩ := Int.eq_ofNat_of_zero_le (show 0 ≤ bw by omega)
  obtain ⟨bv, rfl⟩ := Int.eq_ofNat_of_zero_le h7
  have ep : ∀ k : Nat, ((2 : Int) ^ k) = ((2 ^ k : Nat) : Int) := fun k => by simp
  have hpl : 0 < 2 ^ lo := Nat.pow_pos (by decide)
  have hpb : 0 < 2 ^ bw := Nat.pow_pos (by decide)
  unfold pw md at *
  simp only [Int.toNat_natCast, ep] at *
  have hb : bv < 2 ^ bw := by omega
  have hpp : 2 ^ bw * 2 ^ lo ≤ 65536 := by
    rw [← Nat.pow_add]; exact Nat.pow_le_pow_right (n := 2) (by decide) (show bw + lo ≤ 16 by omega)
  have m1 : (2 ^ bw - 1) * 2 ^ lo ≤ 2 ^ bw * 2 ^ lo := Nat.mul_le_mul_right _ (Nat.sub_le _ _)
  have m2 : bv * 2 ^ lo ≤ 2 ^ bw * 2 ^ lo := Nat.mul_le_mul_right _ (by omega)
  have e1 : (((2 ^ bw : Nat) : Int) - 1) * ((2 ^ lo : Nat) : Int) = (((2 ^ bw - 1) * 2 ^ lo : Nat) : Int) := by
    rw [Int.natCast_mul]; congr 1; omega
  have e2 : ((bv : Nat) : Int) * ((2 ^ lo : Nat) : Int) = ((bv * 2 ^ lo : Nat) : Int) := by rw [Int.natCast_mul]
  rw [e1, e2, IntWalk.wrap64_in _ ⟨by omega, by omega⟩, IntWalk.wrap64_in _ ⟨by omega, by omega⟩, andNot_nat _ _ (by omega) (by omega),
    or_nat _ _ (Nat.lt_of_le_of_lt Nat.and_le_left (by omega)) (by omega), setfield v lo bw bv (by omega) (by omega) hb]
  have d1 := Nat.div_add_mod v (2 ^ lo)
  have d2 := Nat.div_add_mod (v / 2 ^ lo) (2 ^ bw)
  have d3 : v / 2 ^ (lo + bw) = v / 2 ^ lo / 2 ^ bw := by rw [Nat.div_div_eq_div_mul, Nat.pow_add]
  have d4 : 2 ^ (lo + bw) * (v / 2 ^ (lo + bw)) = 2 ^ lo * (2 ^ bw * (v / 2 ^ lo / 2 ^ bw)) := by rw [d3, Nat.pow_add, Nat.mul_assoc]
  have d5 : 2 ^ lo * (v / 2 ^ lo) = 2 ^ lo * (2 ^ bw * (v / 2 ^ lo / 2 ^ bw)) + 2 ^ lo * (v / 2 ^ lo % 2 ^ bw) := by rw [← Nat.mul_add, d2]
  have e3 : ((v : Int) / ((2 ^ lo : Nat) : Int) % ((2 ^ bw : Nat) : Int)) = ((v / 2 ^ lo % 2 ^ bw : Nat) : Int) := by simp
  rw [e3, Int.sub_mul, d4]
  have e4 : ((v / 2 ^ lo % 2 ^ bw : Nat) : Int) * ((2 ^ lo : Nat) : Int) = ((2 ^ lo * (v / 2 ^ lo % 2 ^ bw) : Nat) : Int) := by rw [Nat.mul_comm, Int.natCast_mul]
  have e5 : ((bv : Nat) : Int) * ((2 ^ lo : Nat) : Int) = ((2 ^ lo * bv : Nat) : Int) := by rw [Nat.mul_comm, Int.natCast_mul]
  rw [e4, e5]
  omega

set_option maxRecDepth 20000 in
set_option maxHeartbeats 1600000 in
theorem WithField_bad (wd v lo bw bv er : Int) (w : World) (hn : er ≠ 0) (h9 : Hid (stErr wd v lo bw bv = er)) :
    Calls Try.prog 29 #[.agg #[.int .i64 wd, .int .i64 v], .int .i64 lo, .agg #[.int .i64 bw, .int .i64 bv]] w fun e w' => e = .returned (.tuple #[.agg #[.int .i64 0, .int .i64 0], .int .i64 er]) ∧ ∃ x : Aft w, w' = x.val := by
  have hn' : (er == 0) = false := by simpa using hn
  have hb_ : (er != 0) = true := by simpa using hn
  have h9' : Hid (firstE [bErr wd v, bErr bw bv, spE wd lo bw] = er) := h9
  clear hn h9
  go_enter Try.func29, Try.ntmps29
  go_wp2_with fail
  refine wp_region_aft_tail 9 (by kernel_rfl) (by kernel_rfl) ?_
  simp only [List.take_succ_cons, List.take_zero, List.drop_succ_cons, List.drop_zero]
  repeat (go_big_quiet_step (first | (go_at_call 14; exact Calls.qa (CheckBits_c _ _ _)) | (go_at_call 79; exact Calls.qa (errorOfField_c _ _ _ _ _))))
  refine wpQuiet_nil ?_
  intro x1
  have zx1_0 : w.heap.size < x1.val.heap.size := by have := x1.size; (try simp at this); omega
  have zx1_1 : w.heap.size + 1 < x1.val.heap.size := by have := x1.size; (try simp at this); omega
  have zx1_2 : w.heap.size + 1 + 1 < x1.val.heap.size := by have := x1.size; (try simp at this); omega
  go_wp2_with fail
  refine (firstError3 _ _ _ _ _ _ _ (by exact heap_alloc_at (by simp [go_sem]))).mono ?_
  rw [h9'.out]
  rintro e w' ⟨rfl, rfl⟩
  go_wp2
  refine bodyPost_ret (by simp [results, Try.results29, go_sem]; try rfl) rfl ?_
  exact ⟨rfl, Below.aft (by (repeat' (first | (with_reducible exact Below.refl _ _) | (with_reducible refine Below.alloc ?_ ?_ _) | (with_reducible refine Below.drew ?_) | (with_reducible refine Aft.below _ ?_ ?_) | (with_reducible refine Below.setCell_new ?_ ?_ _ _) | (with_reducible exact Nat.le_refl _) | (with_reducible refine Aft.le _ ?_) | (with_reducible refine le_alloc ?_) | (with_reducible refine le_drew ?_) | (with_reducible refine le_setCell ?_) | omega)))⟩

set_option maxRecDepth 20000 in
set_option maxHeartbeats 1600000 in
theorem WithField_c (wd v lo bw bv : Int) (w : World) (h0 : 0 ≤ v) (h5 : v ≤ 65535) (h1 : 0 ≤ lo) (h2 : lo ≤ 16) (h3 : 1 ≤ bw) (h4 : bw ≤ 16) (h6 : lo + bw ≤ 16) (h7 : 0 ≤ bv) (h8 : bv < pw bw) (h9 : Hid (stErr wd v lo bw bv = 0)) :
    Calls Try.prog 29 #[.agg #[.int .i64 wd, .int .i64 v], .int .i64 lo, .agg #[.int .i64 bw, .int .i64 bv]] w fun e w' => e = .returned (.tuple #[.agg #[.int .i64 wd, .int .i64 (v + (bv - md (v / pw lo) (pw bw)) * pw lo)], .int .i64 0]) ∧ ∃ x : Aft w, w' = x.val := by
  have h9' : Hid (firstE [bErr wd v, bErr bw bv, spE wd lo bw] = 0) := h9
  have hp := pw_bd (n := bw) (by omega) h4
  have hm := Lib.hid (setfield_int h0 h5 h1 h3 h6 h7 h8)
  clear h9
  go_enter Try.func29, Try.ntmps29
  go_wp2_with fail
  refine wp_region_aft_tail 9 (by kernel_rfl) (by kernel_rfl) ?_
  simp only [List.take_succ_cons, List.take_zero, List.drop_succ_cons, List.drop_zero]
  repeat (go_big_quiet_step (first | (go_at_call 14; exact Calls.qa (CheckBits_c _ _ _)) | (go_at_call 79; exact Calls.qa (errorOfField_c _ _ _ _ _))))
  refine wpQuiet_nil ?_
  intro x1
  have zx1_0 : w.heap.size < x1.val.heap.size := by have := x1.size; (try simp at this); omega
  have zx1_1 : w.heap.size + 1 < x1.val.heap.size := by have := x1.size; (try simp at this); omega
  have zx1_2 : w.heap.size + 1 + 1 < x1.val.heap.size := by have := x1.size; (try simp at this); omega
  go_wp2_with fail
  refine (firstError3 _ _ _ _ _ _ _ (by exact heap_alloc_at (by simp [go_sem]))).mono ?_
  rw [h9'.out]
  rintro e w' ⟨rfl, rfl⟩
  go_wp2_with fail
  refine wp_region_aft (by kernel_rfl) (by kernel_rfl) ?_
  repeat (go_big_quiet_step (first | (go_at_call 66; exact Calls.qs (highest_c _ (by omega) (by omega) _))))
  refine wpQuiet_nil ?_
  intro x2
  have zx2_0 : w.heap.size < x2.val.heap.size := by have := x2.size; (try simp at this); omega
  have zx2_1 : w.heap.size + 1 < x2.val.heap.size := by have := x2.size; (try simp at this); omega
  have zx2_2 : w.heap.size + 1 + 1 < x2.val.heap.size := by have := x2.size; (try simp at this); omega
  go_wp2_with fail
  refine wp_region_aft_tail 9 (by kernel_rfl) (by kernel_rfl) ?_
  simp only [List.take_succ_cons, List.take_zero, List.drop_succ_cons, List.drop_zero]
  repeat (go_big_quiet_step (first | fail))
  refine wpQuiet_nil ?_
  intro x
  have rr : x.val.heap[w.heap.size + 1 + 1]? = some (.cells #[.int .i64 0, .int .i64 0] 23) := by (repeat' (first | (with_reducible assumption) | omega | (simp only [World.size_alloc, World.size_drew, World.size_setCell]; omega) | exact heap_alloc_at (by first | rfl | (simp; done)) | (with_reducible refine heap_aft _ ?_ ?_) | (with_reducible refine heap_alloc' ?_ ?_) | (with_reducible refine heap_drew ?_)))
  have qr0 := cell_block (i := 0) rr
  have qr1 := cell_block (i := 1) rr
  have fr0 := free_block (i := 0) rr
  have fr1 := free_block (i := 1) rr
  simp at qr0 qr1
  have hb0 : Below w.heap.size w x.val := by (repeat' (first | (with_reducible exact Below.refl _ _) | (with_reducible assumption) | (with_reducible refine Below.alloc ?_ ?_ _) | (with_reducible refine Below.drew ?_) | (with_reducible refine Aft.below _ ?_ ?_) | (with_reducible refine Below.setCell_new ?_ ?_ _ _) | (with_reducible exact Nat.le_refl _) | (with_reducible refine Aft.le _ ?_) | (with_reducible refine le_alloc ?_) | (with_reducible refine le_drew ?_) | (with_reducible refine le_setCell ?_) | omega))
  clear rr
  generalize x.val = W1 at *
  go_wp2
  refine bodyPost_ret (by simp [results, Try.results29, go_sem, qr0, qr1]; try rfl) rfl ?_
  exact ⟨by rw [hm.out], Below.aft (by (repeat' (first | (with_reducible exact Below.refl _ _) | (with_reducible assumption) | (with_reducible refine Below.alloc ?_ ?_ _) | (with_reducible refine Below.drew ?_) | (with_reducible refine Aft.below _ ?_ ?_) | (with_reducible refine Below.setCell_new ?_ ?_ _ _) | (with_reducible exact Nat.le_refl _) | (with_reducible refine Aft.le _ ?_) | (with_reducible refine le_alloc ?_) | (with_reducible refine le_drew ?_) | (with_reducible refine le_setCell ?_) | omega)))⟩


theorem set_bd {v lo bw bv : Int} (h0 : 0 ≤ v) (h5 : v ≤ 65535) (h1 : 0 ≤ lo) (h2 : lo ≤ 16) (h3 : 1 ≤ bw) (h4 : bw ≤ 16) (h7 : 0 ≤ bv) (h8 : bv < pw bw) :
    -65536 ≤ bv - md (v / pw lo) (pw bw) ∧ bv - md (v / pw lo) (pw bw) ≤ 65536 ∧ -4294967296 ≤ (bv - md (v / pw lo) (pw bw)) * pw lo ∧ (bv - md (v / pw lo) (pw bw)) * pw lo ≤ 4294967296 := by
  have hp := pw_bd (n := bw) (by omega) h4
  have hq := pw_bd h1 h2
  have hm := md_bd (v / pw lo) (m := pw bw) (by omega)
  generalize md (v / pw lo) (pw bw) = m at *
  have b1 : -65536 ≤ bv - m := by omega
  have b2 : bv - m ≤ 65536 := by omega
  refine ⟨b1, b2, ?_, ?_⟩
  · have e1 : -65536 * pw lo ≤ (bv - m) * pw lo := Int.mul_le_mul_of_nonneg_right b1 (by omega)
    omega
  · have e1 : (bv - m) * pw lo ≤ 65536 * pw lo := Int.mul_le_mul_of_nonneg_right b2 (by omega)
    omega
set_option maxRecDepth 20000 in
set_option maxHeartbeats 1600000 in
theorem Set_c (wd v lo bw bv : Int) (w : World) (h0 : 0 ≤ v) (h5 : v ≤ 65535) (h1 : 0 ≤ lo) (h2 : lo ≤ 16) (h3 : 1 ≤ bw) (h4 : bw ≤ 16) (h7 : 0 ≤ bv) (h8 : bv < pw bw) :
    Calls Try.prog 35 #[.agg #[.int .i64 wd, .int .i64 v], .int .i64 lo, .agg #[.int .i64 bw, .int .i64 bv]] w fun e w' => e = .returned (.agg #[.int .i64 wd, .int .i64 (v + (bv - md (v / pw lo) (pw bw)) * pw lo)]) ∧ ∃ x : Aft w, w' = x.val := by
  obtain ⟨b1, b2, b3, b4⟩ := set_bd h0 h5 h1 h2 h3 h4 h7 h8
  have u1 := IntWalk.i64_in (bv - md (v / pw lo) (pw bw)) (by omega)
  have u2 := IntWalk.i64_in ((bv - md (v / pw lo) (pw bw)) * pw lo) (by omega)
  have u3 := IntWalk.i64_in (v + (bv - md (v / pw lo) (pw bw)) * pw lo) (by omega)
  have fx : ∀ w, (Instr.field 23 (.agg #[.int .i64 bw, .int .i64 (md (v / pw lo) (pw bw))]) 1).run Try.prog w = .ok (.int .i64 (md (v / pw lo) (pw bw))) w := fun _ => by kernel_rfl
  go_enter Try.func35, Try.ntmps35
  go_wp2_with fail
  refine wp_region_aft_tail 18 (by kernel_rfl) (by kernel_rfl) ?_
  simp only [List.take_succ_cons, List.take_zero, List.drop_succ_cons, List.drop_zero]
  repeat (go_big_quiet_step (first | (go_at_call 20; exact Calls.qs (Power_c _ (by omega) (by omega) _)) | (go_at_call 33; exact Calls.qa (Field_c _ _ _ _ _ (by omega) (by omega) (by omega) (by omega) (by omega) (by omega)))))
  refine wpQuiet_nil ?_
  intro x
  have rr : x.val.heap[w.heap.size + 1 + 1]? = some (.cells #[.int .i64 0, .int .i64 0] 23) := by (repeat' (first | (with_reducible assumption) | omega | (simp only [World.size_alloc, World.size_drew, World.size_setCell]; omega) | exact heap_alloc_at (by first | rfl | (simp; done)) | (with_reducible refine heap_aft _ ?_ ?_) | (with_reducible refine heap_alloc' ?_ ?_) | (with_reducible refine heap_drew ?_)))
  have qr0 := cell_block (i := 0) rr
  have qr1 := cell_block (i := 1) rr
  have fr0 := free_block (i := 0) rr
  have fr1 := free_block (i := 1) rr
  simp at qr0 qr1
  have hb0 : Below w.heap.size w x.val := by (repeat' (first | (with_reducible exact Below.refl _ _) | (with_reducible assumption) | (with_reducible refine Below.alloc ?_ ?_ _) | (with_reducible refine Below.drew ?_) | (with_reducible refine Aft.below _ ?_ ?_) | (with_reducible refine Below.setCell_new ?_ ?_ _ _) | (with_reducible exact Nat.le_refl _) | (with_reducible refine Aft.le _ ?_) | (with_reducible refine le_alloc ?_) | (with_reducible refine le_drew ?_) | (with_reducible refine le_setCell ?_) | omega))
  clear rr
  generalize x.val = W1 at *
  go_wp2
  refine bodyPost_ret (by simp [results, Try.results35, go_sem, qr0, qr1]; try rfl) rfl ?_
  exact ⟨rfl, Below.aft (by (repeat' (first | (with_reducible exact Below.refl _ _) | (with_reducible assumption) | (with_reducible refine Below.alloc ?_ ?_ _) | (with_reducible refine Below.drew ?_) | (with_reducible refine Aft.below _ ?_ ?_) | (with_reducible refine Below.setCell_new ?_ ?_ _ _) | (with_reducible exact Nat.le_refl _) | (with_reducible refine Aft.le _ ?_) | (with_reducible refine le_alloc ?_) | (with_reducible refine le_drew ?_) | (with_reducible refine le_setCell ?_) | omega)))⟩

set_option maxRecDepth 20000 in
set_option maxHeartbeats 1600000 in
theorem SetErr_c (wd v lo bw bv : Int) (w : World) :
    Calls Try.prog 34 #[.agg #[.int .i64 wd, .int .i64 v], .int .i64 lo, .agg #[.int .i64 bw, .int .i64 bv]] w fun e w' => e = .returned (.int .i64 (stErr wd v lo bw bv)) ∧ ∃ x : Aft w, w' = x.val := by
  have hE := Lib.hid (stErr_if wd v lo bw bv)
  by_cases h : pairErr wd v bw bv = 0
  · have H := Lib.hid h
    clear h
    go_enter Try.func34, Try.ntmps34
    go_wp2_with fail
    refine (PairErr_c wd v bw bv _).mono ?_
    rw [H.out]
    rintro e w' ⟨rfl, x, rfl⟩
    go_wp2_with fail
    refine (spotErr_c _ _ _ _ _).mono ?_
    rintro e w' ⟨rfl, x2, rfl⟩
    go_wp2
    go_ret
    exact ⟨retI (by rw [hE.out, if_pos H.out]), Below.aft (by (repeat' (first | (with_reducible exact Below.refl _ _) | (with_reducible assumption) | (with_reducible refine Below.alloc ?_ ?_ _) | (with_reducible refine Below.drew ?_) | (with_reducible refine Aft.below _ ?_ ?_) | (with_reducible refine Below.setCell_new ?_ ?_ _ _) | (with_reducible exact Nat.le_refl _) | (with_reducible refine Aft.le _ ?_) | (with_reducible refine le_alloc ?_) | (with_reducible refine le_drew ?_) | (with_reducible refine le_setCell ?_) | omega)))⟩
  · have h1 : (pairErr wd v bw bv == 0) = false := by simpa using h
    have h2 : (pairErr wd v bw bv != 0) = true := by simpa using h
    have H := Lib.hid h
    clear h
    go_enter Try.func34, Try.ntmps34
    go_wp2_with fail
    refine (PairErr_c wd v bw bv _).mono ?_
    rintro e w' ⟨rfl, x, rfl⟩
    go_wp2
    go_ret
    exact ⟨retI (by rw [hE.out, if_neg H.out]), Below.aft (by (repeat' (first | (with_reducible exact Below.refl _ _) | (with_reducible assumption) | (with_reducible refine Below.alloc ?_ ?_ _) | (with_reducible refine Below.drew ?_) | (with_reducible refine Aft.below _ ?_ ?_) | (with_reducible refine Below.setCell_new ?_ ?_ _ _) | (with_reducible exact Nat.le_refl _) | (with_reducible refine Aft.le _ ?_) | (with_reducible refine le_alloc ?_) | (with_reducible refine le_drew ?_) | (with_reducible refine le_setCell ?_) | omega)))⟩

end Go.Proofs.Ytlplphigjejahaa
