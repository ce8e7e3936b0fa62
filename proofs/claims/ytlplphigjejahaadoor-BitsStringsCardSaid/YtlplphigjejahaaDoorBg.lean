/-
  Contracts of the functions of chapter 1 (sixth part: Shifted).
-/
import Derived.Test.YtlplphigjejahaaDoorBf
set_option linter.unusedSimpArgs false
set_option linter.unusedVariables false
namespace Go.Proofs.YtlplphigjejahaaDoor
open Go.RowKit Go.BigFrame

def shErr (wd v k b : Int) : Int := firstE [bErr wd v, eIf (decide (k < 0) || decide (5 ≤ k)) 15, eIf (decide (b < 0) || decide (16 < b)) 2]


set_option maxRecDepth 20000 in
set_option maxHeartbeats 800000 in
theorem Shifted0_c (n : Nat) (v b : Int) (w : World) (h1 : 1 ≤ n) (h2 : n ≤ 16) (h3 : 0 ≤ b) (h4 : b ≤ 16) (h9 : Hid (bErr n v = 0)) :
    Calls Tryd.prog 13 #[.agg #[.int .i64 n, .int .i64 v], .int .i64 0, .int .i64 b] w fun e w' => e = .returned (.tuple #[.agg #[.int .i64 n, .int .i64 (bw (fun i => bitI n v (srcI 0 i b n)) n)], .int .i64 0]) ∧ ∃ x : Aft w, w' = x.val := by
  have hb0 : decide (b < 0) = false := by simpa using h3
  have hb16 : decide (16 < b) = false := by simpa using h4
  have h9' : Hid (firstE [bErr n v, eIf false 15, eIf false 2] = 0) := by show _ = _; rw [firstE_cons, if_pos h9.out]; rfl
  have ix : ∀ w, (Instr.index 74 (.agg #[.func (.func 60) #[] #[], .func (.func 61) #[] #[], .func (.func 62) #[] #[], .func (.func 63) #[] #[], .func (.func 64) #[] #[]]) (.int .i64 0)).run Tryd.prog w = .ok (.agg #[.func (.func 60) #[] #[]]) w := fun _ => by kernel_rfl
  have fx : ∀ w, (Instr.field 73 (.agg #[.func (.func 60) #[] #[]]) 0).run Tryd.prog w = .ok (.func (.func 60) #[] #[]) w := fun _ => by kernel_rfl
  go_enter Tryd.func13, Tryd.ntmps13
  go_wp2_with fail
  refine wp_region_aft_tail 16 (by kernel_rfl) (by kernel_rfl) ?_
  simp only [List.take_succ_cons, List.take_zero, List.drop_succ_cons, List.drop_zero]
  repeat (go_big_quiet_step (first | (go_at_call 18; exact Calls.qa (CheckBits_c _ _ _)) | (go_at_call 19; exact Calls.qs (errorIf_c _ _ _))))
  refine wpQuiet_nil ?_
  intro x1
  have zx1_0 : w.heap.size < x1.val.heap.size := by have := x1.size; (try simp at this); omega
  have zx1_1 : w.heap.size + 1 < x1.val.heap.size := by have := x1.size; (try simp at this); omega
  have zx1_2 : w.heap.size + 1 + 1 < x1.val.heap.size := by have := x1.size; (try simp at this); omega
  go_wp2_with fail
  refine (firstError3 _ _ _ _ _ _ _ (by exact heap_alloc_at (by simp [go_sem]))).mono ?_
  rw [h9'.out]
  rintro e w' ⟨rfl, rfl⟩
  go_wp2_with fail
  refine (shifts_c _).mono ?_
  rintro e w' ⟨rfl, x2, rfl⟩
  have zx2_0 : w.heap.size < x2.val.heap.size := by have := x2.size; (try simp at this); omega
  have zx2_1 : w.heap.size + 1 < x2.val.heap.size := by have := x2.size; (try simp at this); omega
  have zx2_2 : w.heap.size + 1 + 1 < x2.val.heap.size := by have := x2.size; (try simp at this); omega
  go_wp2_with fail
  refine (bitwise_Shifted0 n v b (w.heap.size) (x2.val.heap.size) (w.heap.size + 1) _ (by omega) (by omega) h3 h4 ?c1 ?c2 ?c3 ?c4 ?c5 ?c6 ?c7).mono ?_
  case c1 => simp [go_sem, *]
  case c2 => simp [go_sem, *]
  case c3 => simp [go_sem, *]
  case c4 => simp [go_sem, *]
  case c5 => simp [go_sem, *]
  case c6 => simp [go_sem, *]
  case c7 => simp [go_sem, *]
  rintro e w' ⟨rfl, x3, rfl⟩
  have zx3_0 : w.heap.size < x3.val.heap.size := by have := x3.size; (try simp at this); omega
  have zx3_1 : w.heap.size + 1 < x3.val.heap.size := by have := x3.size; (try simp at this); omega
  have zx3_2 : w.heap.size + 1 + 1 < x3.val.heap.size := by have := x3.size; (try simp at this); omega
  have zx3_3 : x2.val.heap.size < x3.val.heap.size := by have := x3.size; (try simp at this); omega
  have rr : x3.val.heap[w.heap.size + 1 + 1]? = some (.cells #[.int .i64 0, .int .i64 0] 23) := by (repeat' (first | (with_reducible assumption) | omega | (simp only [World.size_alloc, World.size_drew, World.size_setCell]; omega) | exact heap_alloc_at (by first | rfl | (simp; done)) | (with_reducible refine heap_aft _ ?_ ?_) | (with_reducible refine heap_alloc' ?_ ?_) | (with_reducible refine heap_drew ?_)))
  have q0 := cell_block (i := 0) rr
  have f0 := free_block (i := 0) rr
  have q1 := cell_block (i := 1) rr
  have f1 := free_block (i := 1) rr
  simp at q0 q1
  have hb0' : Below w.heap.size w x3.val := by (repeat' (first | (with_reducible exact Below.refl _ _) | (with_reducible refine Below.alloc ?_ ?_ _) | (with_reducible refine Below.drew ?_) | (with_reducible refine Aft.below _ ?_ ?_) | (with_reducible refine Below.setCell_new ?_ ?_ _ _) | (with_reducible exact Nat.le_refl _) | (with_reducible refine Aft.le _ ?_) | (with_reducible refine le_alloc ?_) | (with_reducible refine le_drew ?_) | (with_reducible refine le_setCell ?_) | omega))
  clear rr
  generalize x3.val = W' at *
  go_wp2
  refine bodyPost_ret (by simp [results, Tryd.results13, go_sem, q0, q1]; try rfl) rfl ?_
  exact ⟨rfl, Below.aft (by (repeat' (first | (with_reducible exact Below.refl _ _) | (with_reducible assumption) | (with_reducible refine Below.alloc ?_ ?_ _) | (with_reducible refine Below.drew ?_) | (with_reducible refine Aft.below _ ?_ ?_) | (with_reducible refine Below.setCell_new ?_ ?_ _ _) | (with_reducible exact Nat.le_refl _) | (with_reducible refine Aft.le _ ?_) | (with_reducible refine le_alloc ?_) | (with_reducible refine le_drew ?_) | (with_reducible refine le_setCell ?_) | omega)))⟩

set_option maxRecDepth 20000 in
set_option maxHeartbeats 800000 in
theorem Shifted1_c (n : Nat) (v b : Int) (w : World) (h1 : 1 ≤ n) (h2 : n ≤ 16) (h3 : 0 ≤ b) (h4 : b ≤ 16) (h9 : Hid (bErr n v = 0)) :
    Calls Tryd.prog 13 #[.agg #[.int .i64 n, .int .i64 v], .int .i64 1, .int .i64 b] w fun e w' => e = .returned (.tuple #[.agg #[.int .i64 n, .int .i64 (bw (fun i => bitI n v (srcI 1 i b n)) n)], .int .i64 0]) ∧ ∃ x : Aft w, w' = x.val := by
  have hb0 : decide (b < 0) = false := by simpa using h3
  have hb16 : decide (16 < b) = false := by simpa using h4
  have h9' : Hid (firstE [bErr n v, eIf false 15, eIf false 2] = 0) := by show _ = _; rw [firstE_cons, if_pos h9.out]; rfl
  have ix : ∀ w, (Instr.index 74 (.agg #[.func (.func 60) #[] #[], .func (.func 61) #[] #[], .func (.func 62) #[] #[], .func (.func 63) #[] #[], .func (.func 64) #[] #[]]) (.int .i64 1)).run Tryd.prog w = .ok (.agg #[.func (.func 61) #[] #[]]) w := fun _ => by kernel_rfl
  have fx : ∀ w, (Instr.field 73 (.agg #[.func (.func 61) #[] #[]]) 0).run Tryd.prog w = .ok (.func (.func 61) #[] #[]) w := fun _ => by kernel_rfl
  go_enter Tryd.func13, Tryd.ntmps13
  go_wp2_with fail
  refine wp_region_aft_tail 16 (by kernel_rfl) (by kernel_rfl) ?_
  simp only [List.take_succ_cons, List.take_zero, List.drop_succ_cons, List.drop_zero]
  repeat (go_big_quiet_step (first | (go_at_call 18; exact Calls.qa (CheckBits_c _ _ _)) | (go_at_call 19; exact Calls.qs (errorIf_c _ _ _))))
  refine wpQuiet_nil ?_
  intro x1
  have zx1_0 : w.heap.size < x1.val.heap.size := by have := x1.size; (try simp at this); omega
  have zx1_1 : w.heap.size + 1 < x1.val.heap.size := by have := x1.size; (try simp at this); omega
  have zx1_2 : w.heap.size + 1 + 1 < x1.val.heap.size := by have := x1.size; (try simp at this); omega
  go_wp2_with fail
  refine (firstError3 _ _ _ _ _ _ _ (by exact heap_alloc_at (by simp [go_sem]))).mono ?_
  rw [h9'.out]
  rintro e w' ⟨rfl, rfl⟩
  go_wp2_with fail
  refine (shifts_c _).mono ?_
  rintro e w' ⟨rfl, x2, rfl⟩
  have zx2_0 : w.heap.size < x2.val.heap.size := by have := x2.size; (try simp at this); omega
  have zx2_1 : w.heap.size + 1 < x2.val.heap.size := by have := x2.size; (try simp at this); omega
  have zx2_2 : w.heap.size + 1 + 1 < x2.val.heap.size := by have := x2.size; (try simp at this); omega
  go_wp2_with fail
  refine (bitwise_Shifted1 n v b (w.heap.size) (x2.val.heap.size) (w.heap.size + 1) _ (by omega) (by omega) h3 h4 ?c1 ?c2 ?c3 ?c4 ?c5 ?c6 ?c7).mono ?_
  case c1 => simp [go_sem, *]
  case c2 => simp [go_sem, *]
  case c3 => simp [go_sem, *]
  case c4 => simp [go_sem, *]
  case c5 => simp [go_sem, *]
  case c6 => simp [go_sem, *]
  case c7 => simp [go_sem, *]
  rintro e w' ⟨rfl, x3, rfl⟩
  have zx3_0 : w.heap.size < x3.val.heap.size := by have := x3.size; (try simp at this); omega
  have zx3_1 : w.heap.size + 1 < x3.val.heap.size := by have := x3.size; (try simp at this); omega
  have zx3_2 : w.heap.size + 1 + 1 < x3.val.heap.size := by have := x3.size; (try simp at this); omega
  have zx3_3 : x2.val.heap.size < x3.val.heap.size := by have := x3.size; (try simp at this); omega
  have rr : x3.val.heap[w.heap.size + 1 + 1]? = some (.cells #[.int .i64 0, .int .i64 0] 23) := by (repeat' (first | (with_reducible assumption) | omega | (simp only [World.size_alloc, World.size_drew, World.size_setCell]; omega) | exact heap_alloc_at (by first | rfl | (simp; done)) | (with_reducible refine heap_aft _ ?_ ?_) | (with_reducible refine heap_alloc' ?_ ?_) | (with_reducible refine heap_drew ?_)))
  have q0 := cell_block (i := 0) rr
  have f0 := free_block (i := 0) rr
  have q1 := cell_block (i := 1) rr
  have f1 := free_block (i := 1) rr
  simp at q0 q1
  have hb0' : Below w.heap.size w x3.val := by (repeat' (first | (with_reducible exact Below.refl _ _) | (with_reducible refine Below.alloc ?_ ?_ _) | (with_reducible refine Below.drew ?_) | (with_reducible refine Aft.below _ ?_ ?_) | (with_reducible refine Below.setCell_new ?_ ?_ _ _) | (with_reducible exact Nat.le_refl _) | (with_reducible refine Aft.le _ ?_) | (with_reducible refine le_alloc ?_) | (with_reducible refine le_drew ?_) | (with_reducible refine le_setCell ?_) | omega))
  clear rr
  generalize x3.val = W' at *
  go_wp2
  refine bodyPost_ret (by simp [results, Tryd.results13, go_sem, q0, q1]; try rfl) rfl ?_
  exact ⟨rfl, Below.aft (by (repeat' (first | (with_reducible exact Below.refl _ _) | (with_reducible assumption) | (with_reducible refine Below.alloc ?_ ?_ _) | (with_reducible refine Below.drew ?_) | (with_reducible refine Aft.below _ ?_ ?_) | (with_reducible refine Below.setCell_new ?_ ?_ _ _) | (with_reducible exact Nat.le_refl _) | (with_reducible refine Aft.le _ ?_) | (with_reducible refine le_alloc ?_) | (with_reducible refine le_drew ?_) | (with_reducible refine le_setCell ?_) | omega)))⟩

set_option maxRecDepth 20000 in
set_option maxHeartbeats 800000 in
theorem Shifted2_c (n : Nat) (v b : Int) (w : World) (h1 : 1 ≤ n) (h2 : n ≤ 16) (h3 : 0 ≤ b) (h4 : b ≤ 16) (h9 : Hid (bErr n v = 0)) :
    Calls Tryd.prog 13 #[.agg #[.int .i64 n, .int .i64 v], .int .i64 2, .int .i64 b] w fun e w' => e = .returned (.tuple #[.agg #[.int .i64 n, .int .i64 (bw (fun i => bitI n v (srcI 2 i b n)) n)], .int .i64 0]) ∧ ∃ x : Aft w, w' = x.val := by
  have hb0 : decide (b < 0) = false := by simpa using h3
  have hb16 : decide (16 < b) = false := by simpa using h4
  have h9' : Hid (firstE [bErr n v, eIf false 15, eIf false 2] = 0) := by show _ = _; rw [firstE_cons, if_pos h9.out]; rfl
  have ix : ∀ w, (Instr.index 74 (.agg #[.func (.func 60) #[] #[], .func (.func 61) #[] #[], .func (.func 62) #[] #[], .func (.func 63) #[] #[], .func (.func 64) #[] #[]]) (.int .i64 2)).run Tryd.prog w = .ok (.agg #[.func (.func 62) #[] #[]]) w := fun _ => by kernel_rfl
  have fx : ∀ w, (Instr.field 73 (.agg #[.func (.func 62) #[] #[]]) 0).run Tryd.prog w = .ok (.func (.func 62) #[] #[]) w := fun _ => by kernel_rfl
  go_enter Tryd.func13, Tryd.ntmps13
  go_wp2_with fail
  refine wp_region_aft_tail 16 (by kernel_rfl) (by kernel_rfl) ?_
  simp only [List.take_succ_cons, List.take_zero, List.drop_succ_cons, List.drop_zero]
  repeat (go_big_quiet_step (first | (go_at_call 18; exact Calls.qa (CheckBits_c _ _ _)) | (go_at_call 19; exact Calls.qs (errorIf_c _ _ _))))
  refine wpQuiet_nil ?_
  intro x1
  have zx1_0 : w.heap.size < x1.val.heap.size := by have := x1.size; (try simp at this); omega
  have zx1_1 : w.heap.size + 1 < x1.val.heap.size := by have := x1.size; (try simp at this); omega
  have zx1_2 : w.heap.size + 1 + 1 < x1.val.heap.size := by have := x1.size; (try simp at this); omega
  go_wp2_with fail
  refine (firstError3 _ _ _ _ _ _ _ (by exact heap_alloc_at (by simp [go_sem]))).mono ?_
  rw [h9'.out]
  rintro e w' ⟨rfl, rfl⟩
  go_wp2_with fail
  refine (shifts_c _).mono ?_
  rintro e w' ⟨rfl, x2, rfl⟩
  have zx2_0 : w.heap.size < x2.val.heap.size := by have := x2.size; (try simp at this); omega
  have zx2_1 : w.heap.size + 1 < x2.val.heap.size := by have := x2.size; (try simp at this); omega
  have zx2_2 : w.heap.size + 1 + 1 < x2.val.heap.size := by have := x2.size; (try simp at this); omega
  go_wp2_with fail
  refine (bitwise_Shifted2 n v b (w.heap.size) (x2.val.heap.size) (w.heap.size + 1) _ (by omega) (by omega) h3 h4 ?c1 ?c2 ?c3 ?c4 ?c5 ?c6 ?c7).mono ?_
  case c1 => simp [go_sem, *]
  case c2 => simp [go_sem, *]
  case c3 => simp [go_sem, *]
  case c4 => simp [go_sem, *]
  case c5 => simp [go_sem, *]
  case c6 => simp [go_sem, *]
  case c7 => simp [go_sem, *]
  rintro e w' ⟨rfl, x3, rfl⟩
  have zx3_0 : w.heap.size < x3.val.heap.size := by have := x3.size; (try simp at this); omega
  have zx3_1 : w.heap.size + 1 < x3.val.heap.size := by have := x3.size; (try simp at this); omega
  have zx3_2 : w.heap.size + 1 + 1 < x3.val.heap.size := by have := x3.size; (try simp at this); omega
  have zx3_3 : x2.val.heap.size < x3.val.heap.size := by have := x3.size; (try simp at this); omega
  have rr : x3.val.heap[w.heap.size + 1 + 1]? = some (.cells #[.int .i64 0, .int .i64 0] 23) := by (repeat' (first | (with_reducible assumption) | omega | (simp only [World.size_alloc, World.size_drew, World.size_setCell]; omega) | exact heap_alloc_at (by first | rfl | (simp; done)) | (with_reducible refine heap_aft _ ?_ ?_) | (with_reducible refine heap_alloc' ?_ ?_) | (with_reducible refine heap_drew ?_)))
  have q0 := cell_block (i := 0) rr
  have f0 := free_block (i := 0) rr
  have q1 := cell_block (i := 1) rr
  have f1 := free_block (i := 1) rr
  simp at q0 q1
  have hb0' : Below w.heap.size w x3.val := by (repeat' (first | (with_reducible exact Below.refl _ _) | (with_reducible refine Below.alloc ?_ ?_ _) | (with_reducible refine Below.drew ?_) | (with_reducible refine Aft.below _ ?_ ?_) | (with_reducible refine Below.setCell_new ?_ ?_ _ _) | (with_reducible exact Nat.le_refl _) | (with_reducible refine Aft.le _ ?_) | (with_reducible refine le_alloc ?_) | (with_reducible refine le_drew ?_) | (with_reducible refine le_setCell ?_) | omega))
  clear rr
  generalize x3.val = W' at *
  go_wp2
  refine bodyPost_ret (by simp [results, Tryd.results13, go_sem, q0, q1]; try rfl) rfl ?_
  exact ⟨rfl, Below.aft (by (repeat' (first | (with_reducible exact Below.refl _ _) | (with_reducible assumption) | (with_reducible refine Below.alloc ?_ ?_ _) | (with_reducible refine Below.drew ?_) | (with_reducible refine Aft.below _ ?_ ?_) | (with_reducible refine Below.setCell_new ?_ ?_ _ _) | (with_reducible exact Nat.le_refl _) | (with_reducible refine Aft.le _ ?_) | (with_reducible refine le_alloc ?_) | (with_reducible refine le_drew ?_) | (with_reducible refine le_setCell ?_) | omega)))⟩

set_option maxRecDepth 20000 in
set_option maxHeartbeats 800000 in
theorem Shifted3_c (n : Nat) (v b : Int) (w : World) (h1 : 1 ≤ n) (h2 : n ≤ 16) (h3 : 0 ≤ b) (h4 : b ≤ 16) (h9 : Hid (bErr n v = 0)) :
    Calls Tryd.prog 13 #[.agg #[.int .i64 n, .int .i64 v], .int .i64 3, .int .i64 b] w fun e w' => e = .returned (.tuple #[.agg #[.int .i64 n, .int .i64 (bw (fun i => bitI n v (srcI 3 i b n)) n)], .int .i64 0]) ∧ ∃ x : Aft w, w' = x.val := by
  have hb0 : decide (b < 0) = false := by simpa using h3
  have hb16 : decide (16 < b) = false := by simpa using h4
  have h9' : Hid (firstE [bErr n v, eIf false 15, eIf false 2] = 0) := by show _ = _; rw [firstE_cons, if_pos h9.out]; rfl
  have ix : ∀ w, (Instr.index 74 (.agg #[.func (.func 60) #[] #[], .func (.func 61) #[] #[], .func (.func 62) #[] #[], .func (.func 63) #[] #[], .func (.func 64) #[] #[]]) (.int .i64 3)).run Tryd.prog w = .ok (.agg #[.func (.func 63) #[] #[]]) w := fun _ => by kernel_rfl
  have fx : ∀ w, (Instr.field 73 (.agg #[.func (.func 63) #[] #[]]) 0).run Tryd.prog w = .ok (.func (.func 63) #[] #[]) w := fun _ => by kernel_rfl
  go_enter Tryd.func13, Tryd.ntmps13
  go_wp2_with fail
  refine wp_region_aft_tail 16 (by kernel_rfl) (by kernel_rfl) ?_
  simp only [List.take_succ_cons, List.take_zero, List.drop_succ_cons, List.drop_zero]
  repeat (go_big_quiet_step (first | (go_at_call 18; exact Calls.qa (CheckBits_c _ _ _)) | (go_at_call 19; exact Calls.qs (errorIf_c _ _ _))))
  refine wpQuiet_nil ?_
  intro x1
  have zx1_0 : w.heap.size < x1.val.heap.size := by have := x1.size; (try simp at this); omega
  have zx1_1 : w.heap.size + 1 < x1.val.heap.size := by have := x1.size; (try simp at this); omega
  have zx1_2 : w.heap.size + 1 + 1 < x1.val.heap.size := by have := x1.size; (try simp at this); omega
  go_wp2_with fail
  refine (firstError3 _ _ _ _ _ _ _ (by exact heap_alloc_at (by simp [go_sem]))).mono ?_
  rw [h9'.out]
  rintro e w' ⟨rfl, rfl⟩
  go_wp2_with fail
  refine (shifts_c _).mono ?_
  rintro e w' ⟨rfl, x2, rfl⟩
  have zx2_0 : w.heap.size < x2.val.heap.size := by have := x2.size; (try simp at this); omega
  have zx2_1 : w.heap.size + 1 < x2.val.heap.size := by have := x2.size; (try simp at this); omega
  have zx2_2 : w.heap.size + 1 + 1 < x2.val.heap.size := by have := x2.size; (try simp at this); omega
  go_wp2_with fail
  refine (bitwise_Shifted3 n v b (w.heap.size) (x2.val.heap.size) (w.heap.size + 1) _ (by omega) (by omega) h3 h4 ?c1 ?c2 ?c3 ?c4 ?c5 ?c6 ?c7).mono ?_
  case c1 => simp [go_sem, *]
  case c2 => simp [go_sem, *]
  case c3 => simp [go_sem, *]
  case c4 => simp [go_sem, *]
  case c5 => simp [go_sem, *]
  case c6 => simp [go_sem, *]
  case c7 => simp [go_sem, *]
  rintro e w' ⟨rfl, x3, rfl⟩
  have zx3_0 : w.heap.size < x3.val.heap.size := by have := x3.size; (try simp at this); omega
  have zx3_1 : w.heap.size + 1 < x3.val.heap.size := by have := x3.size; (try simp at this); omega
  have zx3_2 : w.heap.size + 1 + 1 < x3.val.heap.size := by have := x3.size; (try simp at this); omega
  have zx3_3 : x2.val.heap.size < x3.val.heap.size := by have := x3.size; (try simp at this); omega
  have rr : x3.val.heap[w.heap.size + 1 + 1]? = some (.cells #[.int .i64 0, .int .i64 0] 23) := by (repeat' (first | (with_reducible assumption) | omega | (simp only [World.size_alloc, World.size_drew, World.size_setCell]; omega) | exact heap_alloc_at (by first | rfl | (simp; done)) | (with_reducible refine heap_aft _ ?_ ?_) | (with_reducible refine heap_alloc' ?_ ?_) | (with_reducible refine heap_drew ?_)))
  have q0 := cell_block (i := 0) rr
  have f0 := free_block (i := 0) rr
  have q1 := cell_block (i := 1) rr
  have f1 := free_block (i := 1) rr
  simp at q0 q1
  have hb0' : Below w.heap.size w x3.val := by (repeat' (first | (with_reducible exact Below.refl _ _) | (with_reducible refine Below.alloc ?_ ?_ _) | (with_reducible refine Below.drew ?_) | (with_reducible refine Aft.below _ ?_ ?_) | (with_reducible refine Below.setCell_new ?_ ?_ _ _) | (with_reducible exact Nat.le_refl _) | (with_reducible refine Aft.le _ ?_) | (with_reducible refine le_alloc ?_) | (with_reducible refine le_drew ?_) | (with_reducible refine le_setCell ?_) | omega))
  clear rr
  generalize x3.val = W' at *
  go_wp2
  refine bodyPost_ret (by simp [results, Tryd.results13, go_sem, q0, q1]; try rfl) rfl ?_
  exact ⟨rfl, Below.aft (by (repeat' (first | (with_reducible exact Below.refl _ _) | (with_reducible assumption) | (with_reducible refine Below.alloc ?_ ?_ _) | (with_reducible refine Below.drew ?_) | (with_reducible refine Aft.below _ ?_ ?_) | (with_reducible refine Below.setCell_new ?_ ?_ _ _) | (with_reducible exact Nat.le_refl _) | (with_reducible refine Aft.le _ ?_) | (with_reducible refine le_alloc ?_) | (with_reducible refine le_drew ?_) | (with_reducible refine le_setCell ?_) | omega)))⟩

set_option maxRecDepth 20000 in
set_option maxHeartbeats 800000 in
theorem Shifted4_c (n : Nat) (v b : Int) (w : World) (h1 : 1 ≤ n) (h2 : n ≤ 16) (h3 : 0 ≤ b) (h4 : b ≤ 16) (h9 : Hid (bErr n v = 0)) :
    Calls Tryd.prog 13 #[.agg #[.int .i64 n, .int .i64 v], .int .i64 4, .int .i64 b] w fun e w' => e = .returned (.tuple #[.agg #[.int .i64 n, .int .i64 (bw (fun i => bitI n v (srcI 4 i b n)) n)], .int .i64 0]) ∧ ∃ x : Aft w, w' = x.val := by
  have hb0 : decide (b < 0) = false := by simpa using h3
  have hb16 : decide (16 < b) = false := by simpa using h4
  have h9' : Hid (firstE [bErr n v, eIf false 15, eIf false 2] = 0) := by show _ = _; rw [firstE_cons, if_pos h9.out]; rfl
  have ix : ∀ w, (Instr.index 74 (.agg #[.func (.func 60) #[] #[], .func (.func 61) #[] #[], .func (.func 62) #[] #[], .func (.func 63) #[] #[], .func (.func 64) #[] #[]]) (.int .i64 4)).run Tryd.prog w = .ok (.agg #[.func (.func 64) #[] #[]]) w := fun _ => by kernel_rfl
  have fx : ∀ w, (Instr.field 73 (.agg #[.func (.func 64) #[] #[]]) 0).run Tryd.prog w = .ok (.func (.func 64) #[] #[]) w := fun _ => by kernel_rfl
  go_enter Tryd.func13, Tryd.ntmps13
  go_wp2_with fail
  refine wp_region_aft_tail 16 (by kernel_rfl) (by kernel_rfl) ?_
  simp only [List.take_succ_cons, List.take_zero, List.drop_succ_cons, List.drop_zero]
  repeat (go_big_quiet_step (first | (go_at_call 18; exact Calls.qa (CheckBits_c _ _ _)) | (go_at_call 19; exact Calls.qs (errorIf_c _ _ _))))
  refine wpQuiet_nil ?_
  intro x1
  have zx1_0 : w.heap.size < x1.val.heap.size := by have := x1.size; (try simp at this); omega
  have zx1_1 : w.heap.size + 1 < x1.val.heap.size := by have := x1.size; (try simp at this); omega
  have zx1_2 : w.heap.size + 1 + 1 < x1.val.heap.size := by have := x1.size; (try simp at this); omega
  go_wp2_with fail
  refine (firstError3 _ _ _ _ _ _ _ (by exact heap_alloc_at (by simp [go_sem]))).mono ?_
  rw [h9'.out]
  rintro e w' ⟨rfl, rfl⟩
  go_wp2_with fail
  refine (shifts_c _).mono ?_
  rintro e w' ⟨rfl, x2, rfl⟩
  have zx2_0 : w.heap.size < x2.val.heap.size := by have := x2.size; (try simp at this); omega
  have zx2_1 : w.heap.size + 1 < x2.val.heap.size := by have := x2.size; (try simp at this); omega
  have zx2_2 : w.heap.size + 1 + 1 < x2.val.heap.size := by have := x2.size; (try simp at this); omega
  go_wp2_with fail
  refine (bitwise_Shifted4 n v b (w.heap.size) (x2.val.heap.size) (w.heap.size + 1) _ (by omega) (by omega) h3 h4 ?c1 ?c2 ?c3 ?c4 ?c5 ?c6 ?c7).mono ?_
  case c1 => simp [go_sem, *]
  case c2 => simp [go_sem, *]
  case c3 => simp [go_sem, *]
  case c4 => simp [go_sem, *]
  case c5 => simp [go_sem, *]
  case c6 => simp [go_sem, *]
  case c7 => simp [go_sem, *]
  rintro e w' ⟨rfl, x3, rfl⟩
  have zx3_0 : w.heap.size < x3.val.heap.size := by have := x3.size; (try simp at this); omega
  have zx3_1 : w.heap.size + 1 < x3.val.heap.size := by have := x3.size; (try simp at this); omega
  have zx3_2 : w.heap.size + 1 + 1 < x3.val.heap.size := by have := x3.size; (try simp at this); omega
  have zx3_3 : x2.val.heap.size < x3.val.heap.size := by have := x3.size; (try simp at this); omega
  have rr : x3.val.heap[w.heap.size + 1 + 1]? = some (.cells #[.int .i64 0, .int .i64 0] 23) := by (repeat' (first | (with_reducible assumption) | omega | (simp only [World.size_alloc, World.size_drew, World.size_setCell]; omega) | exact heap_alloc_at (by first | rfl | (simp; done)) | (with_reducible refine heap_aft _ ?_ ?_) | (with_reducible refine heap_alloc' ?_ ?_) | (with_reducible refine heap_drew ?_)))
  have q0 := cell_block (i := 0) rr
  have f0 := free_block (i := 0) rr
  have q1 := cell_block (i := 1) rr
  have f1 := free_block (i := 1) rr
  simp at q0 q1
  have hb0' : Below w.heap.size w x3.val := by (repeat' (first | (with_reducible exact Below.refl _ _) | (with_reducible refine Below.alloc ?_ ?_ _) | (with_reducible refine Below.drew ?_) | (with_reducible refine Aft.below _ ?_ ?_) | (with_reducible refine Below.setCell_new ?_ ?_ _ _) | (with_reducible exact Nat.le_refl _) | (with_reducible refine Aft.le _ ?_) | (with_reducible refine le_alloc ?_) | (with_reducible refine le_drew ?_) | (with_reducible refine le_setCell ?_) | omega))
  clear rr
  generalize x3.val = W' at *
  go_wp2
  refine bodyPost_ret (by simp [results, Tryd.results13, go_sem, q0, q1]; try rfl) rfl ?_
  exact ⟨rfl, Below.aft (by (repeat' (first | (with_reducible exact Below.refl _ _) | (with_reducible assumption) | (with_reducible refine Below.alloc ?_ ?_ _) | (with_reducible refine Below.drew ?_) | (with_reducible refine Aft.below _ ?_ ?_) | (with_reducible refine Below.setCell_new ?_ ?_ _ _) | (with_reducible exact Nat.le_refl _) | (with_reducible refine Aft.le _ ?_) | (with_reducible refine le_alloc ?_) | (with_reducible refine le_drew ?_) | (with_reducible refine le_setCell ?_) | omega)))⟩
end Go.Proofs.YtlplphigjejahaaDoor
