/-
  Contracts of the functions of chapter 1 (ninth part: ParseBits at the string of the example).
-/
import Derived.Test.YtlplphigjejahaaDoorBi
import Derived.Test.YtlplphigjejahaaDoorBb
import Derived.Test.YtlplphigjejahaaDoorBg
set_option linter.unusedSimpArgs false
set_option linter.unusedVariables false
namespace Go.Proofs.YtlplphigjejahaaDoor
open Go.RowKit Go.BigFrame


set_option maxRecDepth 20000 in
theorem literalOf_c (w : World) :
    Calls Tryd.prog 23 #[.string ⟨#[49, 50, 39, 104, 48, 95, 70, 70]⟩] w fun e w' => e = .returned (.tuple #[.agg #[.int .i64 12, .int .i64 255], .bool true]) ∧ ∃ x : Aft w, w' = x.val := by
  have e1 := fun w => numberOf_c ((⟨#[104, 48, 95, 70, 70]⟩ : ByteArray).extract 1 5) 16 w (by decide) (by decide) (by decide)
  rw [show numV 16 ((⟨#[104, 48, 95, 70, 70]⟩ : ByteArray).extract 1 5).data.toList = 255 from by decide +kernel, show numB 16 ((⟨#[104, 48, 95, 70, 70]⟩ : ByteArray).extract 1 5).data.toList = true from by decide +kernel] at e1
  have E1 := Lib.hid e1
  clear e1
  go_enter Tryd.func23, Tryd.ntmps23
  go_wp2_with fail
  refine (cut_c _).mono ?_
  rintro e w' ⟨rfl, x1, rfl⟩
  have zx1_0 : w.heap.size < x1.val.heap.size := by have := x1.size; (try simp at this); omega
  go_wp2_with fail
  refine (widthOf12 _).mono ?_
  rintro e w' ⟨rfl, rfl⟩
  go_wp2_with fail
  refine (numeralsThat_c x1.val.heap.size _ ?c1 ?c2).mono ?_
  case c1 => simp [go_sem]
  case c2 => simp
  rintro e w' ⟨rfl, x2, rfl⟩
  have zx2_0 : w.heap.size < x2.val.heap.size := by have := x2.size; (try simp at this); omega
  have zx2_1 : x1.val.heap.size < x2.val.heap.size := by have := x2.size; (try simp at this); omega
  have c3 : x2.val.cell? ⟨x1.val.heap.size, 0, none⟩ = some (.string ⟨#[104, 48, 95, 70, 70]⟩) := cell_aft x2 (by simp) (by simp [go_sem])
  go_wp2_with fail
  refine wp_region_aft (by kernel_rfl) (by kernel_rfl) ?_
  repeat (go_big_quiet_step (first | (go_at_call 53; exact Calls.qs (E1.out _))))
  refine wpQuiet_nil ?_
  intro x3
  have zx3_0 : w.heap.size < x3.val.heap.size := by have := x3.size; (try simp at this); omega
  have zx3_1 : x1.val.heap.size < x3.val.heap.size := by have := x3.size; (try simp at this); omega
  have zx3_2 : x2.val.heap.size < x3.val.heap.size := by have := x3.size; (try simp at this); omega
  have rr : x3.val.heap[w.heap.size]? = some (.cells #[.int .i64 0, .int .i64 0] 23) := by (repeat' (first | (with_reducible assumption) | omega | (simp only [World.size_alloc, World.size_drew, World.size_setCell]; omega) | exact heap_alloc_at (by first | rfl | (simp; done)) | (with_reducible refine heap_aft _ ?_ ?_) | (with_reducible refine heap_alloc' ?_ ?_) | (with_reducible refine heap_drew ?_)))
  have q0 := cell_block (i := 0) rr
  have f0 := free_block (i := 0) rr
  have q1 := cell_block (i := 1) rr
  have f1 := free_block (i := 1) rr
  simp at q0 q1
  have hb0' : Below w.heap.size w x3.val := by (repeat' (first | (with_reducible exact Below.refl _ _) | (with_reducible refine Below.alloc ?_ ?_ _) | (with_reducible refine Below.drew ?_) | (with_reducible refine Aft.below _ ?_ ?_) | (with_reducible refine Below.setCell_new ?_ ?_ _ _) | (with_reducible exact Nat.le_refl _) | (with_reducible refine Aft.le _ ?_) | (with_reducible refine le_alloc ?_) | (with_reducible refine le_drew ?_) | (with_reducible refine le_setCell ?_) | omega))
  clear rr
  generalize x3.val = W' at *
  go_wp2
  refine bodyPost_ret (by simp [results, Tryd.results23, go_sem, q0, q1]; try rfl) rfl ?_
  exact ⟨rfl, Below.aft (by (repeat' (first | (with_reducible exact Below.refl _ _) | (with_reducible assumption) | (with_reducible refine Below.alloc ?_ ?_ _) | (with_reducible refine Below.drew ?_) | (with_reducible refine Aft.below _ ?_ ?_) | (with_reducible refine Below.setCell_new ?_ ?_ _ _) | (with_reducible exact Nat.le_refl _) | (with_reducible refine Aft.le _ ?_) | (with_reducible refine le_alloc ?_) | (with_reducible refine le_drew ?_) | (with_reducible refine le_setCell ?_) | omega)))⟩

set_option maxRecDepth 20000 in
theorem ParseBits_c (w : World) :
    Calls Tryd.prog 6 #[.string ⟨#[49, 50, 39, 104, 48, 95, 70, 70]⟩] w fun e w' => e = .returned (.tuple #[.agg #[.int .i64 12, .int .i64 255], .int .i64 0]) ∧ ∃ x : Aft w, w' = x.val := by
  have h : firstE [eIf false 7, bErr 12 255] = 0 := by decide
  have H := Lib.hid h
  clear h
  go_enter Tryd.func6, Tryd.ntmps6
  go_wp2_with fail
  refine (literalOf_c _).mono ?_
  rintro e w' ⟨rfl, x1, rfl⟩
  have zx1_0 : w.heap.size < x1.val.heap.size := by have := x1.size; (try simp at this); omega
  go_wp2_with fail
  refine wp_region_aft_tail 5 (by kernel_rfl) (by kernel_rfl) ?_
  simp only [List.take_succ_cons, List.take_zero, List.drop_succ_cons, List.drop_zero]
  repeat (go_big_quiet_step (first | (go_at_call 19; exact Calls.qs (errorIf_c _ _ _)) | (go_at_call 18; exact Calls.qa (CheckBits_c _ _ _))))
  refine wpQuiet_nil ?_
  intro x2
  have zx2_0 : w.heap.size < x2.val.heap.size := by have := x2.size; (try simp at this); omega
  have zx2_1 : x1.val.heap.size < x2.val.heap.size := by have := x2.size; (try simp at this); omega
  go_wp2_with fail
  refine (firstError2 _ _ _ _ _ _ (by exact heap_alloc_at (by simp [go_sem]))).mono ?_
  rw [H.out]
  rintro e w' ⟨rfl, rfl⟩
  have rr : x2.val.heap[w.heap.size]? = some (.cells #[.int .i64 0, .int .i64 0] 23) := by (repeat' (first | (with_reducible assumption) | omega | (simp only [World.size_alloc, World.size_drew, World.size_setCell]; omega) | exact heap_alloc_at (by first | rfl | (simp; done)) | (with_reducible refine heap_aft _ ?_ ?_) | (with_reducible refine heap_alloc' ?_ ?_) | (with_reducible refine heap_drew ?_)))
  have q0 := cell_block (i := 0) rr
  have q1 := cell_block (i := 1) rr
  have f0 := free_block (i := 0) rr
  have f1 := free_block (i := 1) rr
  simp at q0 q1
  clear rr
  go_wp2
  refine bodyPost_ret (by simp [results, Tryd.results6, go_sem, q0, q1, zx2_0]; try rfl) rfl ?_
  exact ⟨rfl, Below.aft (by (repeat' (first | (with_reducible exact Below.refl _ _) | (with_reducible refine Below.alloc ?_ ?_ _) | (with_reducible refine Below.drew ?_) | (with_reducible refine Aft.below _ ?_ ?_) | (with_reducible refine Below.setCell_new ?_ ?_ _ _) | (with_reducible exact Nat.le_refl _) | (with_reducible refine Aft.le _ ?_) | (with_reducible refine le_alloc ?_) | (with_reducible refine le_drew ?_) | (with_reducible refine le_setCell ?_) | omega)))⟩

theorem H1 : Hid (sumErr 8 255 8 1 0 = 0) := by show _ = _; decide
theorem H2 : Hid (mulErr 4 9 4 5 = 0) := by
  show _ = _
  unfold mulErr
  rw [IntWalk.wrap64_in _ ⟨by omega, by omega⟩]; decide
theorem H3 : Hid (bErr 4 11 = 0) := by show _ = _; decide
theorem H4 : Hid (bErr 4 12 = 0) := by show _ = _; decide
theorem aw1 (w : World) : Calls Tryd.prog 10 #[.agg #[.int .i64 8, .int .i64 255], .agg #[.int .i64 8, .int .i64 1], .int .i64 0] w fun e w' => e = .returned (.tuple #[.agg #[.int .i64 8, .int .i64 0, .int .i64 1, .int .i64 0, .int .i64 1, .int .i64 0], .int .i64 0]) ∧ ∃ x : Aft w, w' = x.val := by
  have h := AddWith_c 8 255 1 0 w (by decide) (by decide) (by decide) (by decide) (by decide) (by decide) (by decide) (by decide) H1
  rw [show md (255 + 1 + 0) (pw 8) = 0 from by decide, show fl ((255 + 1 + 0 : Int) != 0) = 1 from by decide, show fl (sg 8 255 + sg 8 1 + 0 != sg 8 0) = 0 from by decide, show fl ((0 : Int) == 0) = 1 from by decide, show bitI 8 0 (8 - 1) = 0 from by decide] at h
  exact h
theorem aw2 (w : World) : Calls Tryd.prog 12 #[.agg #[.int .i64 4, .int .i64 9], .agg #[.int .i64 4, .int .i64 5]] w fun e w' => e = .returned (.tuple #[.agg #[.int .i64 8, .int .i64 45], .int .i64 0]) ∧ ∃ x : Aft w, w' = x.val := by
  have h := MulWide_c 4 9 4 5 w H2
  exact h
theorem aw3 (w : World) : Calls Tryd.prog 13 #[.agg #[.int .i64 4, .int .i64 11], .int .i64 2, .int .i64 1] w fun e w' => e = .returned (.tuple #[.agg #[.int .i64 4, .int .i64 13], .int .i64 0]) ∧ ∃ x : Aft w, w' = x.val := by
  have h := Shifted2_c 4 11 1 w (by decide) (by decide) (by decide) (by decide) H3
  rw [show bw (fun i => bitI (4 : Nat) 11 (srcI 2 i 1 (4 : Nat))) 4 = 13 from by decide] at h
  exact h
theorem aw4 (w : World) : Calls Tryd.prog 14 #[.agg #[.int .i64 4, .int .i64 12]] w fun e w' => e = .returned (.tuple #[.int .i64 (-4), .int .i64 0]) ∧ ∃ x : Aft w, w' = x.val := by
  have h := SignedOf_c 4 12 w (by decide) (by decide) (by decide) (by decide) H4
  rw [show sg 4 12 = -4 from by decide] at h
  exact h


set_option maxRecDepth 20000 in
set_option maxHeartbeats 3200000 in
theorem awake_c (w : World) :
    Calls Tryd.prog 4 #[] w fun e w' => e = .returned (.bool true) ∧ ∃ x : Aft w, w' = x.val := by
  go_enter Tryd.func4, Tryd.ntmps4
  go_wp2_with fail
  refine (of_c _ _ _).mono ?_
  rintro e w' ⟨rfl, x1, rfl⟩
  go_wp2_with fail
  refine (of_c _ _ _).mono ?_
  rintro e w' ⟨rfl, x2, rfl⟩
  go_wp2_with fail
  refine (aw1 _).mono ?_
  rintro e w' ⟨rfl, x3, rfl⟩
  go_wp2_with fail
  refine (of_c _ _ _).mono ?_
  rintro e w' ⟨rfl, x4, rfl⟩
  have zx4_0 : x3.val.heap.size < x4.val.heap.size := by have := x4.size; (try simp at this); omega
  go_wp2_with fail
  refine (of_c _ _ _).mono ?_
  rintro e w' ⟨rfl, x5, rfl⟩
  have zx5_0 : x3.val.heap.size < x5.val.heap.size := by have := x5.size; (try simp at this); omega
  go_wp2_with fail
  refine (aw2 _).mono ?_
  rintro e w' ⟨rfl, x6, rfl⟩
  have zx6_0 : x3.val.heap.size < x6.val.heap.size := by have := x6.size; (try simp at this); omega
  go_wp2_with fail
  refine (of_c _ _ _).mono ?_
  rintro e w' ⟨rfl, x7, rfl⟩
  have zx7_0 : x3.val.heap.size < x7.val.heap.size := by have := x7.size; (try simp at this); omega
  have zx7_1 : x6.val.heap.size < x7.val.heap.size := by have := x7.size; (try simp at this); omega
  go_wp2_with fail
  refine (aw3 _).mono ?_
  rintro e w' ⟨rfl, x8, rfl⟩
  have zx8_0 : x3.val.heap.size < x8.val.heap.size := by have := x8.size; (try simp at this); omega
  have zx8_1 : x6.val.heap.size < x8.val.heap.size := by have := x8.size; (try simp at this); omega
  go_wp2_with fail
  refine (of_c _ _ _).mono ?_
  rintro e w' ⟨rfl, x9, rfl⟩
  have zx9_0 : x3.val.heap.size < x9.val.heap.size := by have := x9.size; (try simp at this); omega
  have zx9_1 : x6.val.heap.size < x9.val.heap.size := by have := x9.size; (try simp at this); omega
  have zx9_2 : x8.val.heap.size < x9.val.heap.size := by have := x9.size; (try simp at this); omega
  go_wp2_with fail
  refine (aw4 _).mono ?_
  rintro e w' ⟨rfl, x10, rfl⟩
  have zx10_0 : x3.val.heap.size < x10.val.heap.size := by have := x10.size; (try simp at this); omega
  have zx10_1 : x6.val.heap.size < x10.val.heap.size := by have := x10.size; (try simp at this); omega
  have zx10_2 : x8.val.heap.size < x10.val.heap.size := by have := x10.size; (try simp at this); omega
  go_wp2_with fail
  refine (ParseBits_c _).mono ?_
  rintro e w' ⟨rfl, x11, rfl⟩
  have zx11_0 : x3.val.heap.size < x11.val.heap.size := by have := x11.size; (try simp at this); omega
  have zx11_1 : x6.val.heap.size < x11.val.heap.size := by have := x11.size; (try simp at this); omega
  have zx11_2 : x8.val.heap.size < x11.val.heap.size := by have := x11.size; (try simp at this); omega
  go_wp2_with fail
  refine wp_region_aft (by kernel_rfl) (by kernel_rfl) ?_
  repeat (go_big_quiet_step (first | (go_at_call 11; exact Calls.qa (of_c _ _ _))))
  refine wpQuiet_nil ?_
  intro x12
  have zx12_0 : x3.val.heap.size < x12.val.heap.size := by have := x12.size; (try simp at this); omega
  have zx12_1 : x6.val.heap.size < x12.val.heap.size := by have := x12.size; (try simp at this); omega
  have zx12_2 : x8.val.heap.size < x12.val.heap.size := by have := x12.size; (try simp at this); omega
  have zx12_3 : x11.val.heap.size < x12.val.heap.size := by have := x12.size; (try simp at this); omega
  go_wp2
  go_ret
  exact ⟨rfl, Below.aft (by (repeat' (first | (with_reducible exact Below.refl _ _) | (with_reducible refine Below.alloc ?_ ?_ _) | (with_reducible refine Below.drew ?_) | (with_reducible refine Aft.below _ ?_ ?_) | (with_reducible refine Below.setCell_new ?_ ?_ _ _) | (with_reducible exact Nat.le_refl _) | (with_reducible refine Aft.le _ ?_) | (with_reducible refine le_alloc ?_) | (with_reducible refine le_drew ?_) | (with_reducible refine le_setCell ?_) | omega)))⟩
end Go.Proofs.YtlplphigjejahaaDoor
