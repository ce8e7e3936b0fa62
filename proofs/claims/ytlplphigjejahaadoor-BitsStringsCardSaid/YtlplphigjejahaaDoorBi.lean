/-
  Contracts of the functions of chapter 1 (eighth part: the string of the example).
-/
import Derived.Test.YtlplphigjejahaaDoorBh
import Derived.Test.YtlplphigjejahaaDoorShelf
set_option linter.unusedSimpArgs false
set_option linter.unusedVariables false
namespace Go.Proofs.YtlplphigjejahaaDoor
open Go.RowKit Go.BigFrame

theorem slcut_c (w : World) :
    Calls Tryd.prog 77 #[.string ⟨#[49, 50, 39, 104, 48, 95, 70, 70]⟩, .string ⟨#[39]⟩] w fun e w' => e = .returned (.tuple #[.string ⟨#[49, 50]⟩, .string ⟨#[104, 48, 95, 70, 70]⟩, .bool true]) ∧ ∃ x : Aft w, w' = x.val := by
  have hI : Lib.indexByte (⟨#[49, 50, 39, 104, 48, 95, 70, 70]⟩ : ByteArray).data.toList 39 = 2 := by decide
  have HI := Lib.hid hI
  clear hI
  go_enter Tryd.func77, Tryd.ntmps77
  go_wp2_with fail
  refine ((Tryd.stringslite_Index_one _ _ _).mono fun e w' h => (⟨h.1, h.2.symm⟩ : _ ∧ w = w')).mono ?_
  rw [HI.out]
  rintro e w' ⟨rfl, rfl⟩
  go_wp2_with fail
  refine wp_region_aft (by kernel_rfl) (by kernel_rfl) ?_
  repeat (go_big_quiet_step (fail))
  refine wpQuiet_nil ?_
  intro x
  go_wp2
  go_ret3
  exact ⟨rfl, x, rfl⟩
theorem cut_c (w : World) :
    Calls Tryd.prog 50 #[.string ⟨#[49, 50, 39, 104, 48, 95, 70, 70]⟩, .string ⟨#[39]⟩] w fun e w' => e = .returned (.tuple #[.string ⟨#[49, 50]⟩, .string ⟨#[104, 48, 95, 70, 70]⟩, .bool true]) ∧ ∃ x : Aft w, w' = x.val := by
  go_enter Tryd.func50, Tryd.ntmps50
  go_wp2_with (go_at_call 77; refine (slcut_c _).mono ?_; rintro e w' ⟨rfl, x, rfl⟩)
  go_ret3
  exact ⟨rfl, x, rfl⟩

theorem allNumerals_c  (w : World) :
    Calls Tryd.prog 39 #[] w fun e w' => e = .returned (.agg #[.int .i64 2, .string ⟨#[98]⟩, .func (.func 65) #[] #[], .int .i64 10, .string ⟨#[100]⟩, .func (.func 66) #[] #[], .int .i64 16, .string ⟨#[104]⟩, .func (.func 67) #[] #[]]) ∧ ∃ x : Aft w, w' = x.val := by
  go_enter Tryd.func39, Tryd.ntmps39
  go_wp2
  refine bodyPost_ret (by simp [results, Tryd.results39, go_sem]; try rfl) rfl ?_
  exact ⟨rfl, Below.aft (by (repeat' (first | (with_reducible exact Below.refl _ _) | (with_reducible refine Below.alloc ?_ ?_ _) | (with_reducible refine Below.drew ?_) | (with_reducible refine Aft.below _ ?_ ?_) | (with_reducible refine Below.setCell_new ?_ ?_ _ _) | (with_reducible exact Nat.le_refl _) | (with_reducible refine Aft.le _ ?_) | (with_reducible refine le_alloc ?_) | (with_reducible refine le_drew ?_) | (with_reducible refine le_setCell ?_) | omega)))⟩


theorem lit1_c (S : Nat) (s : ByteArray) (b : Int) (l : ByteArray) (fv : Value) (hfv : ∃ n, fv = .func (.func n) #[] #[]) (w : World) (cs : w.cell? ⟨S, 0, none⟩ = some (.string s)) (ls : S < w.heap.size) :
    Calls Tryd.prog 52 #[.agg #[.int .i64 b, .string l, fv], .pointer (some ⟨S, 0, none⟩)] w fun e w' => e = .returned (.bool (Lib.hasPrefix s.data.toList l.data.toList)) ∧ ∃ x : Aft w, w' = x.val := by
  obtain ⟨n, rfl⟩ := hfv
  go_enter Tryd.func52, Tryd.ntmps52
  go_wp2_with (go_at_call 44; refine ((Tryd.strings_HasPrefix _ _ _).mono fun e w' h => (⟨h.1, h.2.symm⟩ : _ ∧ _ = w')).mono ?_; rintro e w' ⟨rfl, rfl⟩)
  go_ret
  exact ⟨rfl, Below.aft (by (repeat' (first | (with_reducible exact Below.refl _ _) | (with_reducible refine Below.alloc ?_ ?_ _) | (with_reducible refine Below.drew ?_) | (with_reducible refine Aft.below _ ?_ ?_) | (with_reducible refine Below.setCell_new ?_ ?_ _ _) | (with_reducible exact Nat.le_refl _) | (with_reducible refine Aft.le _ ?_) | (with_reducible refine le_alloc ?_) | (with_reducible refine le_drew ?_) | (with_reducible refine le_setCell ?_) | omega)))⟩


set_option maxRecDepth 20000 in
set_option maxHeartbeats 800000 in
theorem numeralsThat_c (S : Nat) (w : World) (cs : w.cell? ⟨S, 0, none⟩ = some (.string ⟨#[104, 48, 95, 70, 70]⟩)) (ls : S < w.heap.size) :
    Calls Tryd.prog 15 #[.func (.func 52) #[] #[.pointer (some ⟨S, 0, none⟩)]] w fun e w' => e = .returned (.tuple #[.agg #[.int .i64 16, .string ⟨#[104]⟩, .func (.func 67) #[] #[]], .bool true]) ∧ ∃ x : Aft w, w' = x.val := by
  have ix0 : ∀ w, (Instr.index 77 (.agg #[.int .i64 2, .string ⟨#[98]⟩, .func (.func 65) #[] #[], .int .i64 10, .string ⟨#[100]⟩, .func (.func 66) #[] #[], .int .i64 16, .string ⟨#[104]⟩, .func (.func 67) #[] #[]]) (.int .i64 0)).run Tryd.prog w = .ok (.agg #[.int .i64 2, .string ⟨#[98]⟩, .func (.func 65) #[] #[]]) w := fun _ => by kernel_rfl
  have ix1 : ∀ w, (Instr.index 77 (.agg #[.int .i64 2, .string ⟨#[98]⟩, .func (.func 65) #[] #[], .int .i64 10, .string ⟨#[100]⟩, .func (.func 66) #[] #[], .int .i64 16, .string ⟨#[104]⟩, .func (.func 67) #[] #[]]) (.int .i64 1)).run Tryd.prog w = .ok (.agg #[.int .i64 10, .string ⟨#[100]⟩, .func (.func 66) #[] #[]]) w := fun _ => by kernel_rfl
  have ix2 : ∀ w, (Instr.index 77 (.agg #[.int .i64 2, .string ⟨#[98]⟩, .func (.func 65) #[] #[], .int .i64 10, .string ⟨#[100]⟩, .func (.func 66) #[] #[], .int .i64 16, .string ⟨#[104]⟩, .func (.func 67) #[] #[]]) (.int .i64 2)).run Tryd.prog w = .ok (.agg #[.int .i64 16, .string ⟨#[104]⟩, .func (.func 67) #[] #[]]) w := fun _ => by kernel_rfl
  have p1 : Lib.hasPrefix (⟨#[104, 48, 95, 70, 70]⟩ : ByteArray).data.toList (⟨#[98]⟩ : ByteArray).data.toList = false := by decide
  have p2 : Lib.hasPrefix (⟨#[104, 48, 95, 70, 70]⟩ : ByteArray).data.toList (⟨#[100]⟩ : ByteArray).data.toList = false := by decide
  have p3 : Lib.hasPrefix (⟨#[104, 48, 95, 70, 70]⟩ : ByteArray).data.toList (⟨#[104]⟩ : ByteArray).data.toList = true := by decide
  have P1 := Lib.hid p1; have P2 := Lib.hid p2; have P3 := Lib.hid p3
  clear p1 p2 p3
  go_enter Tryd.func15, Tryd.ntmps15
  go_wp2_with fail
  refine (allNumerals_c _).mono ?_
  rintro e w' ⟨rfl, x1, rfl⟩
  have z1 : S < x1.val.heap.size := x1.lt' (lt_alloc ls)
  have y1 : w.heap.size < x1.val.heap.size := x1.lt' (by simp)
  have r1 : x1.val.heap[w.heap.size]? = some (.cells #[.int .i64 0, .string ⟨#[]⟩, .nilFunc] 46) := heap_aft x1 (by simp) (heap_alloc_new _ _)
  have R1 := Lib.hid r1; clear r1
  have c1 : x1.val.cell? ⟨S, 0, none⟩ = some (.string ⟨#[104, 48, 95, 70, 70]⟩) := cell_aft x1 (lt_alloc ls) (cell_alloc ls cs)
  go_wp2_with fail
  refine wp_loop_rounds 3 ?_
  rw [rounds_succ]
  go_wp2_with fail
  refine (lit1_c S _ _ _ _ ⟨_, rfl⟩ _ (cell_alloc z1 c1) (lt_alloc z1)).mono ?_
  rw [P1.out]
  rintro e w' ⟨rfl, x2, rfl⟩
  have z2 : S < x2.val.heap.size := x2.lt' (lt_alloc z1)
  have y2 : w.heap.size < x2.val.heap.size := x2.lt' (lt_alloc y1)
  have R2 := Lib.hid (heap_aft_alloc x2 y1 R1.out)
  have c2 : x2.val.cell? ⟨S, 0, none⟩ = some (.string ⟨#[104, 48, 95, 70, 70]⟩) := cell_aft x2 (lt_alloc z1) (cell_alloc z1 c1)
  go_wp2_with fail
  rw [rounds_succ]
  go_wp2_with fail
  refine (lit1_c S _ _ _ _ ⟨_, rfl⟩ _ (cell_alloc z2 c2) (lt_alloc z2)).mono ?_
  rw [P2.out]
  rintro e w' ⟨rfl, x3, rfl⟩
  have z3 : S < x3.val.heap.size := x3.lt' (lt_alloc z2)
  have y3 : w.heap.size < x3.val.heap.size := x3.lt' (lt_alloc y2)
  have R3 := Lib.hid (heap_aft_alloc x3 y2 R2.out)
  have c3 : x3.val.cell? ⟨S, 0, none⟩ = some (.string ⟨#[104, 48, 95, 70, 70]⟩) := cell_aft x3 (lt_alloc z2) (cell_alloc z2 c2)
  go_wp2_with fail
  rw [rounds_succ]
  go_wp2_with fail
  refine (lit1_c S _ _ _ _ ⟨_, rfl⟩ _ (cell_alloc z3 c3) (lt_alloc z3)).mono ?_
  rw [P3.out]
  rintro e w' ⟨rfl, x4, rfl⟩
  have y4 : w.heap.size < x4.val.heap.size := x4.lt' (lt_alloc y3)
  have r4 := heap_aft_alloc x4 y3 R3.out
  have q0 := cell_block (i := 0) r4
  have q1 := cell_block (i := 1) r4
  have q2 := cell_block (i := 2) r4
  have f0 := free_block (i := 0) r4
  have f1 := free_block (i := 1) r4
  have f2 := free_block (i := 2) r4
  simp at q0 q1 q2
  have hb4 : Below w.heap.size w x4.val := by (repeat' (first | (with_reducible exact Below.refl _ _) | (with_reducible refine Below.alloc ?_ ?_ _) | (with_reducible refine Below.drew ?_) | (with_reducible refine Aft.below _ ?_ ?_) | (with_reducible refine Below.setCell_new ?_ ?_ _ _) | (with_reducible exact Nat.le_refl _) | (with_reducible refine Aft.le _ ?_) | (with_reducible refine le_alloc ?_) | (with_reducible refine le_drew ?_) | (with_reducible refine le_setCell ?_) | omega))
  clear r4 z1 z2 z3 y1 y2 c1 c2 c3
  have hne : ¬ w.heap.size = x3.val.heap.size := by omega
  clear y3
  have l4 : x4.val.heap[x3.val.heap.size]? = some (.cells #[.int .i64 16, .string ⟨#[104]⟩, .func (.func 67) #[] #[]] 46) := heap_aft x4 (by simp) (heap_alloc_new _ _)
  have k0 := cell_block (i := 0) l4
  have k1 := cell_block (i := 1) l4
  have k2 := cell_block (i := 2) l4
  simp at k0 k1 k2
  clear l4
  generalize x3.val.heap.size = G at *
  generalize x4.val = W' at *
  go_wp2
  refine bodyPost_ret (by simp [results, Tryd.results15, go_sem, q0, q1, q2]; try rfl) rfl ?_
  exact ⟨rfl, Below.aft (by (repeat' (first | (with_reducible exact Below.refl _ _) | (with_reducible refine Below.alloc ?_ ?_ _) | (with_reducible refine Below.drew ?_) | (with_reducible refine Aft.below _ ?_ ?_) | (with_reducible refine Below.setCell_new ?_ ?_ _ _) | (with_reducible exact Nat.le_refl _) | (with_reducible refine Aft.le _ ?_) | (with_reducible refine le_alloc ?_) | (with_reducible refine le_drew ?_) | (with_reducible refine le_setCell ?_) | omega)))⟩

end Go.Proofs.YtlplphigjejahaaDoor
