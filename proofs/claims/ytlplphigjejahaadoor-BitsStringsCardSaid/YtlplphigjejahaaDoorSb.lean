/-
  Contracts of the functions of chapter 1 (strings, second part: the numerals that fit; built for the door seat only).
-/
import Derived.Test.YtlplphigjejahaaDoorSa
set_option linter.unusedSimpArgs false
set_option linter.unusedVariables false
namespace Go.Proofs.YtlplphigjejahaaDoor
open Go.RowKit Go.BigFrame

theorem fmt1_c (S : Nat) (c : Int) (b : Int) (l : ByteArray) (fv : Value) (hfv : ∃ n, fv = .func (.func n) #[] #[]) (w : World) (cs : w.cell? ⟨S, 0, none⟩ = some (.int .i64 c)) (ls : S < w.heap.size) :
    Calls Tryd.prog 16 #[.agg #[.int .i64 b, .string l, fv], .pointer (some ⟨S, 0, none⟩)] w fun e w' => e = .returned (.bool (b == c)) ∧ ∃ x : Aft w, w' = x.val := by
  obtain ⟨n, rfl⟩ := hfv
  go_enter Tryd.func16, Tryd.ntmps16
  go_wp2
  go_ret
  exact ⟨rfl, Below.aft (by (repeat' (first | (with_reducible exact Below.refl _ _) | (with_reducible assumption) | (with_reducible exact Aft.pf _) | (with_reducible refine Below.alloc ?_ ?_ _) | (with_reducible refine Below.drew ?_) | (with_reducible refine Aft.below _ ?_ ?_) | (with_reducible refine Below.setCell_new ?_ ?_ _ _) | (with_reducible exact Nat.le_refl _) | (with_reducible refine Aft.le _ ?_) | (with_reducible refine le_alloc ?_) | (with_reducible refine le_drew ?_) | (with_reducible refine le_setCell ?_) | omega)))⟩

set_option maxRecDepth 20000 in
set_option maxHeartbeats 1600000 in
theorem numerals_lit0 (S : Nat) (s : ByteArray) (w : World) (cs : w.cell? ⟨S, 0, none⟩ = some (.string s)) (ls : S < w.heap.size) (p0 : Lib.hasPrefix s.data.toList (⟨#[98]⟩ : ByteArray).data.toList = true) :
    Calls Tryd.prog 15 #[.func (.func 52) #[] #[.pointer (some ⟨S, 0, none⟩)]] w fun e w' => e = .returned (.tuple #[.agg #[.int .i64 2, .string ⟨#[98]⟩, .func (.func 65) #[] #[]], .bool true]) ∧ ∃ x : Aft w, w' = x.val := by
  have ix0 : ∀ w, (Instr.index 77 (.agg #[.int .i64 2, .string ⟨#[98]⟩, .func (.func 65) #[] #[], .int .i64 10, .string ⟨#[100]⟩, .func (.func 66) #[] #[], .int .i64 16, .string ⟨#[104]⟩, .func (.func 67) #[] #[]]) (.int .i64 0)).run Tryd.prog w = .ok (.agg #[.int .i64 2, .string ⟨#[98]⟩, .func (.func 65) #[] #[]]) w := fun _ => by kernel_rfl
  have ix1 : ∀ w, (Instr.index 77 (.agg #[.int .i64 2, .string ⟨#[98]⟩, .func (.func 65) #[] #[], .int .i64 10, .string ⟨#[100]⟩, .func (.func 66) #[] #[], .int .i64 16, .string ⟨#[104]⟩, .func (.func 67) #[] #[]]) (.int .i64 1)).run Tryd.prog w = .ok (.agg #[.int .i64 10, .string ⟨#[100]⟩, .func (.func 66) #[] #[]]) w := fun _ => by kernel_rfl
  have ix2 : ∀ w, (Instr.index 77 (.agg #[.int .i64 2, .string ⟨#[98]⟩, .func (.func 65) #[] #[], .int .i64 10, .string ⟨#[100]⟩, .func (.func 66) #[] #[], .int .i64 16, .string ⟨#[104]⟩, .func (.func 67) #[] #[]]) (.int .i64 2)).run Tryd.prog w = .ok (.agg #[.int .i64 16, .string ⟨#[104]⟩, .func (.func 67) #[] #[]]) w := fun _ => by kernel_rfl
  have P0 := Lib.hid p0
  clear p0
  go_enter Tryd.func15, Tryd.ntmps15
  go_wp2_with fail
  refine (allNumerals_c _).mono ?_
  rintro e w' ⟨rfl, x1, rfl⟩
  have z1 : S < x1.val.heap.size := x1.lt' (lt_alloc ls)
  have y1 : w.heap.size < x1.val.heap.size := x1.lt' (by simp)
  have r1 : x1.val.heap[w.heap.size]? = some (.cells #[.int .i64 0, .string ⟨#[]⟩, .nilFunc] 46) := heap_aft x1 (by simp) (heap_alloc_new _ _)
  have R1 := Lib.hid r1; clear r1
  have c1 : x1.val.cell? ⟨S, 0, none⟩ = some (.string s) := cell_aft x1 (lt_alloc ls) (cell_alloc ls cs)
  go_wp2_with fail
  refine wp_loop_rounds 1 ?_
  rw [rounds_succ]
  go_wp2_with fail
  refine (lit1_c S _ _ _ _ ⟨_, rfl⟩ _ (cell_alloc z1 c1) (lt_alloc z1)).mono ?_
  rw [P0.out]
  rintro e w' ⟨rfl, x2, rfl⟩
  have y2 : w.heap.size < x2.val.heap.size := x2.lt' (lt_alloc y1)
  have R2 := Lib.hid (heap_aft_alloc x2 y1 R1.out)
  have r := R2.out
  have q0 := cell_block (i := 0) r
  have f0 := free_block (i := 0) r
  have q1 := cell_block (i := 1) r
  have f1 := free_block (i := 1) r
  have q2 := cell_block (i := 2) r
  have f2 := free_block (i := 2) r
  simp at q0 q1 q2
  have hb4 : Below w.heap.size w x2.val := by (repeat' (first | (with_reducible exact Below.refl _ _) | (with_reducible assumption) | (with_reducible exact Aft.pf _) | (with_reducible refine Below.alloc ?_ ?_ _) | (with_reducible refine Below.drew ?_) | (with_reducible refine Aft.below _ ?_ ?_) | (with_reducible refine Below.setCell_new ?_ ?_ _ _) | (with_reducible exact Nat.le_refl _) | (with_reducible refine Aft.le _ ?_) | (with_reducible refine le_alloc ?_) | (with_reducible refine le_drew ?_) | (with_reducible refine le_setCell ?_) | omega))
  clear r z1 c1
  have hne : ¬ w.heap.size = x1.val.heap.size := by omega
  clear y1
  have l4 : x2.val.heap[x1.val.heap.size]? = some (.cells #[.int .i64 2, .string ⟨#[98]⟩, .func (.func 65) #[] #[]] 46) := heap_aft x2 (by simp) (heap_alloc_new _ _)
  have k0 := cell_block (i := 0) l4
  have k1 := cell_block (i := 1) l4
  have k2 := cell_block (i := 2) l4
  simp at k0 k1 k2
  clear l4
  generalize x1.val.heap.size = G at *
  generalize x2.val = W' at *
  go_wp2
  refine bodyPost_ret (by simp [results, Tryd.results15, go_sem, q0, q1, q2]; try rfl) rfl ?_
  exact ⟨rfl, Below.aft (by (repeat' (first | (with_reducible exact Below.refl _ _) | (with_reducible assumption) | (with_reducible exact Aft.pf _) | (with_reducible refine Below.alloc ?_ ?_ _) | (with_reducible refine Below.drew ?_) | (with_reducible refine Aft.below _ ?_ ?_) | (with_reducible refine Below.setCell_new ?_ ?_ _ _) | (with_reducible exact Nat.le_refl _) | (with_reducible refine Aft.le _ ?_) | (with_reducible refine le_alloc ?_) | (with_reducible refine le_drew ?_) | (with_reducible refine le_setCell ?_) | omega)))⟩

set_option maxRecDepth 20000 in
set_option maxHeartbeats 1600000 in
theorem numerals_lit1 (S : Nat) (s : ByteArray) (w : World) (cs : w.cell? ⟨S, 0, none⟩ = some (.string s)) (ls : S < w.heap.size) (p0 : Lib.hasPrefix s.data.toList (⟨#[98]⟩ : ByteArray).data.toList = false) (p1 : Lib.hasPrefix s.data.toList (⟨#[100]⟩ : ByteArray).data.toList = true) :
    Calls Tryd.prog 15 #[.func (.func 52) #[] #[.pointer (some ⟨S, 0, none⟩)]] w fun e w' => e = .returned (.tuple #[.agg #[.int .i64 10, .string ⟨#[100]⟩, .func (.func 66) #[] #[]], .bool true]) ∧ ∃ x : Aft w, w' = x.val := by
  have ix0 : ∀ w, (Instr.index 77 (.agg #[.int .i64 2, .string ⟨#[98]⟩, .func (.func 65) #[] #[], .int .i64 10, .string ⟨#[100]⟩, .func (.func 66) #[] #[], .int .i64 16, .string ⟨#[104]⟩, .func (.func 67) #[] #[]]) (.int .i64 0)).run Tryd.prog w = .ok (.agg #[.int .i64 2, .string ⟨#[98]⟩, .func (.func 65) #[] #[]]) w := fun _ => by kernel_rfl
  have ix1 : ∀ w, (Instr.index 77 (.agg #[.int .i64 2, .string ⟨#[98]⟩, .func (.func 65) #[] #[], .int .i64 10, .string ⟨#[100]⟩, .func (.func 66) #[] #[], .int .i64 16, .string ⟨#[104]⟩, .func (.func 67) #[] #[]]) (.int .i64 1)).run Tryd.prog w = .ok (.agg #[.int .i64 10, .string ⟨#[100]⟩, .func (.func 66) #[] #[]]) w := fun _ => by kernel_rfl
  have ix2 : ∀ w, (Instr.index 77 (.agg #[.int .i64 2, .string ⟨#[98]⟩, .func (.func 65) #[] #[], .int .i64 10, .string ⟨#[100]⟩, .func (.func 66) #[] #[], .int .i64 16, .string ⟨#[104]⟩, .func (.func 67) #[] #[]]) (.int .i64 2)).run Tryd.prog w = .ok (.agg #[.int .i64 16, .string ⟨#[104]⟩, .func (.func 67) #[] #[]]) w := fun _ => by kernel_rfl
  have P0 := Lib.hid p0
  have P1 := Lib.hid p1
  clear p0 p1
  go_enter Tryd.func15, Tryd.ntmps15
  go_wp2_with fail
  refine (allNumerals_c _).mono ?_
  rintro e w' ⟨rfl, x1, rfl⟩
  have z1 : S < x1.val.heap.size := x1.lt' (lt_alloc ls)
  have y1 : w.heap.size < x1.val.heap.size := x1.lt' (by simp)
  have r1 : x1.val.heap[w.heap.size]? = some (.cells #[.int .i64 0, .string ⟨#[]⟩, .nilFunc] 46) := heap_aft x1 (by simp) (heap_alloc_new _ _)
  have R1 := Lib.hid r1; clear r1
  have c1 : x1.val.cell? ⟨S, 0, none⟩ = some (.string s) := cell_aft x1 (lt_alloc ls) (cell_alloc ls cs)
  go_wp2_with fail
  refine wp_loop_rounds 2 ?_
  rw [rounds_succ]
  go_wp2_with fail
  refine (lit1_c S _ _ _ _ ⟨_, rfl⟩ _ (cell_alloc z1 c1) (lt_alloc z1)).mono ?_
  rw [P0.out]
  rintro e w' ⟨rfl, x2, rfl⟩
  have y2 : w.heap.size < x2.val.heap.size := x2.lt' (lt_alloc y1)
  have R2 := Lib.hid (heap_aft_alloc x2 y1 R1.out)
  have z2 : S < x2.val.heap.size := x2.lt' (lt_alloc z1)
  have c2 : x2.val.cell? ⟨S, 0, none⟩ = some (.string s) := cell_aft x2 (lt_alloc z1) (cell_alloc z1 c1)
  go_wp2_with fail
  rw [rounds_succ]
  go_wp2_with fail
  refine (lit1_c S _ _ _ _ ⟨_, rfl⟩ _ (cell_alloc z2 c2) (lt_alloc z2)).mono ?_
  rw [P1.out]
  rintro e w' ⟨rfl, x3, rfl⟩
  have y3 : w.heap.size < x3.val.heap.size := x3.lt' (lt_alloc y2)
  have R3 := Lib.hid (heap_aft_alloc x3 y2 R2.out)
  have r := R3.out
  have q0 := cell_block (i := 0) r
  have f0 := free_block (i := 0) r
  have q1 := cell_block (i := 1) r
  have f1 := free_block (i := 1) r
  have q2 := cell_block (i := 2) r
  have f2 := free_block (i := 2) r
  simp at q0 q1 q2
  have hb4 : Below w.heap.size w x3.val := by (repeat' (first | (with_reducible exact Below.refl _ _) | (with_reducible assumption) | (with_reducible exact Aft.pf _) | (with_reducible refine Below.alloc ?_ ?_ _) | (with_reducible refine Below.drew ?_) | (with_reducible refine Aft.below _ ?_ ?_) | (with_reducible refine Below.setCell_new ?_ ?_ _ _) | (with_reducible exact Nat.le_refl _) | (with_reducible refine Aft.le _ ?_) | (with_reducible refine le_alloc ?_) | (with_reducible refine le_drew ?_) | (with_reducible refine le_setCell ?_) | omega))
  clear r z1 z2 c1 c2
  have hne : ¬ w.heap.size = x2.val.heap.size := by omega
  clear y1 y2
  have l4 : x3.val.heap[x2.val.heap.size]? = some (.cells #[.int .i64 10, .string ⟨#[100]⟩, .func (.func 66) #[] #[]] 46) := heap_aft x3 (by simp) (heap_alloc_new _ _)
  have k0 := cell_block (i := 0) l4
  have k1 := cell_block (i := 1) l4
  have k2 := cell_block (i := 2) l4
  simp at k0 k1 k2
  clear l4
  generalize x2.val.heap.size = G at *
  generalize x3.val = W' at *
  go_wp2
  refine bodyPost_ret (by simp [results, Tryd.results15, go_sem, q0, q1, q2]; try rfl) rfl ?_
  exact ⟨rfl, Below.aft (by (repeat' (first | (with_reducible exact Below.refl _ _) | (with_reducible assumption) | (with_reducible exact Aft.pf _) | (with_reducible refine Below.alloc ?_ ?_ _) | (with_reducible refine Below.drew ?_) | (with_reducible refine Aft.below _ ?_ ?_) | (with_reducible refine Below.setCell_new ?_ ?_ _ _) | (with_reducible exact Nat.le_refl _) | (with_reducible refine Aft.le _ ?_) | (with_reducible refine le_alloc ?_) | (with_reducible refine le_drew ?_) | (with_reducible refine le_setCell ?_) | omega)))⟩

set_option maxRecDepth 20000 in
set_option maxHeartbeats 1600000 in
theorem numerals_lit2 (S : Nat) (s : ByteArray) (w : World) (cs : w.cell? ⟨S, 0, none⟩ = some (.string s)) (ls : S < w.heap.size) (p0 : Lib.hasPrefix s.data.toList (⟨#[98]⟩ : ByteArray).data.toList = false) (p1 : Lib.hasPrefix s.data.toList (⟨#[100]⟩ : ByteArray).data.toList = false) (p2 : Lib.hasPrefix s.data.toList (⟨#[104]⟩ : ByteArray).data.toList = true) :
    Calls Tryd.prog 15 #[.func (.func 52) #[] #[.pointer (some ⟨S, 0, none⟩)]] w fun e w' => e = .returned (.tuple #[.agg #[.int .i64 16, .string ⟨#[104]⟩, .func (.func 67) #[] #[]], .bool true]) ∧ ∃ x : Aft w, w' = x.val := by
  have ix0 : ∀ w, (Instr.index 77 (.agg #[.int .i64 2, .string ⟨#[98]⟩, .func (.func 65) #[] #[], .int .i64 10, .string ⟨#[100]⟩, .func (.func 66) #[] #[], .int .i64 16, .string ⟨#[104]⟩, .func (.func 67) #[] #[]]) (.int .i64 0)).run Tryd.prog w = .ok (.agg #[.int .i64 2, .string ⟨#[98]⟩, .func (.func 65) #[] #[]]) w := fun _ => by kernel_rfl
  have ix1 : ∀ w, (Instr.index 77 (.agg #[.int .i64 2, .string ⟨#[98]⟩, .func (.func 65) #[] #[], .int .i64 10, .string ⟨#[100]⟩, .func (.func 66) #[] #[], .int .i64 16, .string ⟨#[104]⟩, .func (.func 67) #[] #[]]) (.int .i64 1)).run Tryd.prog w = .ok (.agg #[.int .i64 10, .string ⟨#[100]⟩, .func (.func 66) #[] #[]]) w := fun _ => by kernel_rfl
  have ix2 : ∀ w, (Instr.index 77 (.agg #[.int .i64 2, .string ⟨#[98]⟩, .func (.func 65) #[] #[], .int .i64 10, .string ⟨#[100]⟩, .func (.func 66) #[] #[], .int .i64 16, .string ⟨#[104]⟩, .func (.func 67) #[] #[]]) (.int .i64 2)).run Tryd.prog w = .ok (.agg #[.int .i64 16, .string ⟨#[104]⟩, .func (.func 67) #[] #[]]) w := fun _ => by kernel_rfl
  have P0 := Lib.hid p0
  have P1 := Lib.hid p1
  have P2 := Lib.hid p2
  clear p0 p1 p2
  go_enter Tryd.func15, Tryd.ntmps15
  go_wp2_with fail
  refine (allNumerals_c _).mono ?_
  rintro e w' ⟨rfl, x1, rfl⟩
  have z1 : S < x1.val.heap.size := x1.lt' (lt_alloc ls)
  have y1 : w.heap.size < x1.val.heap.size := x1.lt' (by simp)
  have r1 : x1.val.heap[w.heap.size]? = some (.cells #[.int .i64 0, .string ⟨#[]⟩, .nilFunc] 46) := heap_aft x1 (by simp) (heap_alloc_new _ _)
  have R1 := Lib.hid r1; clear r1
  have c1 : x1.val.cell? ⟨S, 0, none⟩ = some (.string s) := cell_aft x1 (lt_alloc ls) (cell_alloc ls cs)
  go_wp2_with fail
  refine wp_loop_rounds 3 ?_
  rw [rounds_succ]
  go_wp2_with fail
  refine (lit1_c S _ _ _ _ ⟨_, rfl⟩ _ (cell_alloc z1 c1) (lt_alloc z1)).mono ?_
  rw [P0.out]
  rintro e w' ⟨rfl, x2, rfl⟩
  have y2 : w.heap.size < x2.val.heap.size := x2.lt' (lt_alloc y1)
  have R2 := Lib.hid (heap_aft_alloc x2 y1 R1.out)
  have z2 : S < x2.val.heap.size := x2.lt' (lt_alloc z1)
  have c2 : x2.val.cell? ⟨S, 0, none⟩ = some (.string s) := cell_aft x2 (lt_alloc z1) (cell_alloc z1 c1)
  go_wp2_with fail
  rw [rounds_succ]
  go_wp2_with fail
  refine (lit1_c S _ _ _ _ ⟨_, rfl⟩ _ (cell_alloc z2 c2) (lt_alloc z2)).mono ?_
  rw [P1.out]
  rintro e w' ⟨rfl, x3, rfl⟩
  have y3 : w.heap.size < x3.val.heap.size := x3.lt' (lt_alloc y2)
  have R3 := Lib.hid (heap_aft_alloc x3 y2 R2.out)
  have z3 : S < x3.val.heap.size := x3.lt' (lt_alloc z2)
  have c3 : x3.val.cell? ⟨S, 0, none⟩ = some (.string s) := cell_aft x3 (lt_alloc z2) (cell_alloc z2 c2)
  go_wp2_with fail
  rw [rounds_succ]
  go_wp2_with fail
  refine (lit1_c S _ _ _ _ ⟨_, rfl⟩ _ (cell_alloc z3 c3) (lt_alloc z3)).mono ?_
  rw [P2.out]
  rintro e w' ⟨rfl, x4, rfl⟩
  have y4 : w.heap.size < x4.val.heap.size := x4.lt' (lt_alloc y3)
  have R4 := Lib.hid (heap_aft_alloc x4 y3 R3.out)
  have r := R4.out
  have q0 := cell_block (i := 0) r
  have f0 := free_block (i := 0) r
  have q1 := cell_block (i := 1) r
  have f1 := free_block (i := 1) r
  have q2 := cell_block (i := 2) r
  have f2 := free_block (i := 2) r
  simp at q0 q1 q2
  have hb4 : Below w.heap.size w x4.val := by (repeat' (first | (with_reducible exact Below.refl _ _) | (with_reducible assumption) | (with_reducible exact Aft.pf _) | (with_reducible refine Below.alloc ?_ ?_ _) | (with_reducible refine Below.drew ?_) | (with_reducible refine Aft.below _ ?_ ?_) | (with_reducible refine Below.setCell_new ?_ ?_ _ _) | (with_reducible exact Nat.le_refl _) | (with_reducible refine Aft.le _ ?_) | (with_reducible refine le_alloc ?_) | (with_reducible refine le_drew ?_) | (with_reducible refine le_setCell ?_) | omega))
  clear r z1 z2 z3 c1 c2 c3
  have hne : ¬ w.heap.size = x3.val.heap.size := by omega
  clear y1 y2 y3
  have l4 : x4.val.heap[x3.val.heap.size]? = some (.cells #[.int .i64 16, .string ⟨#[104]⟩, .func (.func 67) #[] #[]] 46) := heap_aft x4 (by simp) (heap_alloc_new _ _)
  have k0 := cell_block (i := 0) l4
  have k1 := cell_block (i := 1) l4
  have k2 := cell_block (i := 2) l4
  simp at k0 k1 k2
  clear l4
  generalize x3.val.heap.size = G at *
  generalize x4.val = W' at *
  go_wp2
  refine bodyPost_ret (by simp [results, Tryd.results15, go_sem, q0, q1, q2]; try rfl) rfl ?_
  exact ⟨rfl, Below.aft (by (repeat' (first | (with_reducible exact Below.refl _ _) | (with_reducible assumption) | (with_reducible exact Aft.pf _) | (with_reducible refine Below.alloc ?_ ?_ _) | (with_reducible refine Below.drew ?_) | (with_reducible refine Aft.below _ ?_ ?_) | (with_reducible refine Below.setCell_new ?_ ?_ _ _) | (with_reducible exact Nat.le_refl _) | (with_reducible refine Aft.le _ ?_) | (with_reducible refine le_alloc ?_) | (with_reducible refine le_drew ?_) | (with_reducible refine le_setCell ?_) | omega)))⟩

set_option maxRecDepth 20000 in
set_option maxHeartbeats 1600000 in
theorem numerals_lit3 (S : Nat) (s : ByteArray) (w : World) (cs : w.cell? ⟨S, 0, none⟩ = some (.string s)) (ls : S < w.heap.size) (p0 : Lib.hasPrefix s.data.toList (⟨#[98]⟩ : ByteArray).data.toList = false) (p1 : Lib.hasPrefix s.data.toList (⟨#[100]⟩ : ByteArray).data.toList = false) (p2 : Lib.hasPrefix s.data.toList (⟨#[104]⟩ : ByteArray).data.toList = false) :
    Calls Tryd.prog 15 #[.func (.func 52) #[] #[.pointer (some ⟨S, 0, none⟩)]] w fun e w' => e = .returned (.tuple #[.agg #[.int .i64 0, .string ⟨#[]⟩, .nilFunc], .bool false]) ∧ ∃ x : Aft w, w' = x.val := by
  have ix0 : ∀ w, (Instr.index 77 (.agg #[.int .i64 2, .string ⟨#[98]⟩, .func (.func 65) #[] #[], .int .i64 10, .string ⟨#[100]⟩, .func (.func 66) #[] #[], .int .i64 16, .string ⟨#[104]⟩, .func (.func 67) #[] #[]]) (.int .i64 0)).run Tryd.prog w = .ok (.agg #[.int .i64 2, .string ⟨#[98]⟩, .func (.func 65) #[] #[]]) w := fun _ => by kernel_rfl
  have ix1 : ∀ w, (Instr.index 77 (.agg #[.int .i64 2, .string ⟨#[98]⟩, .func (.func 65) #[] #[], .int .i64 10, .string ⟨#[100]⟩, .func (.func 66) #[] #[], .int .i64 16, .string ⟨#[104]⟩, .func (.func 67) #[] #[]]) (.int .i64 1)).run Tryd.prog w = .ok (.agg #[.int .i64 10, .string ⟨#[100]⟩, .func (.func 66) #[] #[]]) w := fun _ => by kernel_rfl
  have ix2 : ∀ w, (Instr.index 77 (.agg #[.int .i64 2, .string ⟨#[98]⟩, .func (.func 65) #[] #[], .int .i64 10, .string ⟨#[100]⟩, .func (.func 66) #[] #[], .int .i64 16, .string ⟨#[104]⟩, .func (.func 67) #[] #[]]) (.int .i64 2)).run Tryd.prog w = .ok (.agg #[.int .i64 16, .string ⟨#[104]⟩, .func (.func 67) #[] #[]]) w := fun _ => by kernel_rfl
  have P0 := Lib.hid p0
  have P1 := Lib.hid p1
  have P2 := Lib.hid p2
  clear p0 p1 p2
  go_enter Tryd.func15, Tryd.ntmps15
  go_wp2_with fail
  refine (allNumerals_c _).mono ?_
  rintro e w' ⟨rfl, x1, rfl⟩
  have z1 : S < x1.val.heap.size := x1.lt' (lt_alloc ls)
  have y1 : w.heap.size < x1.val.heap.size := x1.lt' (by simp)
  have r1 : x1.val.heap[w.heap.size]? = some (.cells #[.int .i64 0, .string ⟨#[]⟩, .nilFunc] 46) := heap_aft x1 (by simp) (heap_alloc_new _ _)
  have R1 := Lib.hid r1; clear r1
  have c1 : x1.val.cell? ⟨S, 0, none⟩ = some (.string s) := cell_aft x1 (lt_alloc ls) (cell_alloc ls cs)
  go_wp2_with fail
  refine wp_loop_rounds 4 ?_
  rw [rounds_succ]
  go_wp2_with fail
  refine (lit1_c S _ _ _ _ ⟨_, rfl⟩ _ (cell_alloc z1 c1) (lt_alloc z1)).mono ?_
  rw [P0.out]
  rintro e w' ⟨rfl, x2, rfl⟩
  have y2 : w.heap.size < x2.val.heap.size := x2.lt' (lt_alloc y1)
  have R2 := Lib.hid (heap_aft_alloc x2 y1 R1.out)
  have z2 : S < x2.val.heap.size := x2.lt' (lt_alloc z1)
  have c2 : x2.val.cell? ⟨S, 0, none⟩ = some (.string s) := cell_aft x2 (lt_alloc z1) (cell_alloc z1 c1)
  go_wp2_with fail
  rw [rounds_succ]
  go_wp2_with fail
  refine (lit1_c S _ _ _ _ ⟨_, rfl⟩ _ (cell_alloc z2 c2) (lt_alloc z2)).mono ?_
  rw [P1.out]
  rintro e w' ⟨rfl, x3, rfl⟩
  have y3 : w.heap.size < x3.val.heap.size := x3.lt' (lt_alloc y2)
  have R3 := Lib.hid (heap_aft_alloc x3 y2 R2.out)
  have z3 : S < x3.val.heap.size := x3.lt' (lt_alloc z2)
  have c3 : x3.val.cell? ⟨S, 0, none⟩ = some (.string s) := cell_aft x3 (lt_alloc z2) (cell_alloc z2 c2)
  go_wp2_with fail
  rw [rounds_succ]
  go_wp2_with fail
  refine (lit1_c S _ _ _ _ ⟨_, rfl⟩ _ (cell_alloc z3 c3) (lt_alloc z3)).mono ?_
  rw [P2.out]
  rintro e w' ⟨rfl, x4, rfl⟩
  have y4 : w.heap.size < x4.val.heap.size := x4.lt' (lt_alloc y3)
  have R4 := Lib.hid (heap_aft_alloc x4 y3 R3.out)
  have r := R4.out
  have q0 := cell_block (i := 0) r
  have f0 := free_block (i := 0) r
  have q1 := cell_block (i := 1) r
  have f1 := free_block (i := 1) r
  have q2 := cell_block (i := 2) r
  have f2 := free_block (i := 2) r
  simp at q0 q1 q2
  have hb4 : Below w.heap.size w x4.val := by (repeat' (first | (with_reducible exact Below.refl _ _) | (with_reducible assumption) | (with_reducible exact Aft.pf _) | (with_reducible refine Below.alloc ?_ ?_ _) | (with_reducible refine Below.drew ?_) | (with_reducible refine Aft.below _ ?_ ?_) | (with_reducible refine Below.setCell_new ?_ ?_ _ _) | (with_reducible exact Nat.le_refl _) | (with_reducible refine Aft.le _ ?_) | (with_reducible refine le_alloc ?_) | (with_reducible refine le_drew ?_) | (with_reducible refine le_setCell ?_) | omega))
  clear r z1 z2 z3 c1 c2 c3
  have hne : ¬ w.heap.size = x3.val.heap.size := by omega
  clear y1 y2 y3
  generalize x3.val.heap.size = G at *
  generalize x4.val = W' at *
  go_wp2_with fail
  rw [rounds_succ]
  go_wp2
  refine bodyPost_ret (by simp [results, Tryd.results15, go_sem, q0, q1, q2]; try rfl) rfl ?_
  exact ⟨rfl, Below.aft (by (repeat' (first | (with_reducible exact Below.refl _ _) | (with_reducible assumption) | (with_reducible exact Aft.pf _) | (with_reducible refine Below.alloc ?_ ?_ _) | (with_reducible refine Below.drew ?_) | (with_reducible refine Aft.below _ ?_ ?_) | (with_reducible refine Below.setCell_new ?_ ?_ _ _) | (with_reducible exact Nat.le_refl _) | (with_reducible refine Aft.le _ ?_) | (with_reducible refine le_alloc ?_) | (with_reducible refine le_drew ?_) | (with_reducible refine le_setCell ?_) | omega)))⟩

set_option maxRecDepth 20000 in
set_option maxHeartbeats 1600000 in
theorem numerals_fmt0 (S : Nat) (c : Int) (w : World) (cs : w.cell? ⟨S, 0, none⟩ = some (.int .i64 c)) (ls : S < w.heap.size) (p0 : ((2 : Int) == c) = true) :
    Calls Tryd.prog 15 #[.func (.func 16) #[] #[.pointer (some ⟨S, 0, none⟩)]] w fun e w' => e = .returned (.tuple #[.agg #[.int .i64 2, .string ⟨#[98]⟩, .func (.func 65) #[] #[]], .bool true]) ∧ ∃ x : Aft w, w' = x.val := by
  have ix0 : ∀ w, (Instr.index 77 (.agg #[.int .i64 2, .string ⟨#[98]⟩, .func (.func 65) #[] #[], .int .i64 10, .string ⟨#[100]⟩, .func (.func 66) #[] #[], .int .i64 16, .string ⟨#[104]⟩, .func (.func 67) #[] #[]]) (.int .i64 0)).run Tryd.prog w = .ok (.agg #[.int .i64 2, .string ⟨#[98]⟩, .func (.func 65) #[] #[]]) w := fun _ => by kernel_rfl
  have ix1 : ∀ w, (Instr.index 77 (.agg #[.int .i64 2, .string ⟨#[98]⟩, .func (.func 65) #[] #[], .int .i64 10, .string ⟨#[100]⟩, .func (.func 66) #[] #[], .int .i64 16, .string ⟨#[104]⟩, .func (.func 67) #[] #[]]) (.int .i64 1)).run Tryd.prog w = .ok (.agg #[.int .i64 10, .string ⟨#[100]⟩, .func (.func 66) #[] #[]]) w := fun _ => by kernel_rfl
  have ix2 : ∀ w, (Instr.index 77 (.agg #[.int .i64 2, .string ⟨#[98]⟩, .func (.func 65) #[] #[], .int .i64 10, .string ⟨#[100]⟩, .func (.func 66) #[] #[], .int .i64 16, .string ⟨#[104]⟩, .func (.func 67) #[] #[]]) (.int .i64 2)).run Tryd.prog w = .ok (.agg #[.int .i64 16, .string ⟨#[104]⟩, .func (.func 67) #[] #[]]) w := fun _ => by kernel_rfl
  have P0 := Lib.hid p0
  clear p0
  go_enter Tryd.func15, Tryd.ntmps15
  go_wp2_with fail
  refine (allNumerals_c _).mono ?_
  rintro e w' ⟨rfl, x1, rfl⟩
  have z1 : S < x1.val.heap.size := x1.lt' (lt_alloc ls)
  have y1 : w.heap.size < x1.val.heap.size := x1.lt' (by simp)
  have r1 : x1.val.heap[w.heap.size]? = some (.cells #[.int .i64 0, .string ⟨#[]⟩, .nilFunc] 46) := heap_aft x1 (by simp) (heap_alloc_new _ _)
  have R1 := Lib.hid r1; clear r1
  have c1 : x1.val.cell? ⟨S, 0, none⟩ = some (.int .i64 c) := cell_aft x1 (lt_alloc ls) (cell_alloc ls cs)
  go_wp2_with fail
  refine wp_loop_rounds 1 ?_
  rw [rounds_succ]
  go_wp2_with fail
  refine (fmt1_c S _ _ _ _ ⟨_, rfl⟩ _ (cell_alloc z1 c1) (lt_alloc z1)).mono ?_
  rw [P0.out]
  rintro e w' ⟨rfl, x2, rfl⟩
  have y2 : w.heap.size < x2.val.heap.size := x2.lt' (lt_alloc y1)
  have R2 := Lib.hid (heap_aft_alloc x2 y1 R1.out)
  have r := R2.out
  have q0 := cell_block (i := 0) r
  have f0 := free_block (i := 0) r
  have q1 := cell_block (i := 1) r
  have f1 := free_block (i := 1) r
  have q2 := cell_block (i := 2) r
  have f2 := free_block (i := 2) r
  simp at q0 q1 q2
  have hb4 : Below w.heap.size w x2.val := by (repeat' (first | (with_reducible exact Below.refl _ _) | (with_reducible assumption) | (with_reducible exact Aft.pf _) | (with_reducible refine Below.alloc ?_ ?_ _) | (with_reducible refine Below.drew ?_) | (with_reducible refine Aft.below _ ?_ ?_) | (with_reducible refine Below.setCell_new ?_ ?_ _ _) | (with_reducible exact Nat.le_refl _) | (with_reducible refine Aft.le _ ?_) | (with_reducible refine le_alloc ?_) | (with_reducible refine le_drew ?_) | (with_reducible refine le_setCell ?_) | omega))
  clear r z1 c1
  have hne : ¬ w.heap.size = x1.val.heap.size := by omega
  clear y1
  have l4 : x2.val.heap[x1.val.heap.size]? = some (.cells #[.int .i64 2, .string ⟨#[98]⟩, .func (.func 65) #[] #[]] 46) := heap_aft x2 (by simp) (heap_alloc_new _ _)
  have k0 := cell_block (i := 0) l4
  have k1 := cell_block (i := 1) l4
  have k2 := cell_block (i := 2) l4
  simp at k0 k1 k2
  clear l4
  generalize x1.val.heap.size = G at *
  generalize x2.val = W' at *
  go_wp2
  refine bodyPost_ret (by simp [results, Tryd.results15, go_sem, q0, q1, q2]; try rfl) rfl ?_
  exact ⟨rfl, Below.aft (by (repeat' (first | (with_reducible exact Below.refl _ _) | (with_reducible assumption) | (with_reducible exact Aft.pf _) | (with_reducible refine Below.alloc ?_ ?_ _) | (with_reducible refine Below.drew ?_) | (with_reducible refine Aft.below _ ?_ ?_) | (with_reducible refine Below.setCell_new ?_ ?_ _ _) | (with_reducible exact Nat.le_refl _) | (with_reducible refine Aft.le _ ?_) | (with_reducible refine le_alloc ?_) | (with_reducible refine le_drew ?_) | (with_reducible refine le_setCell ?_) | omega)))⟩

set_option maxRecDepth 20000 in
set_option maxHeartbeats 1600000 in
theorem numerals_fmt1 (S : Nat) (c : Int) (w : World) (cs : w.cell? ⟨S, 0, none⟩ = some (.int .i64 c)) (ls : S < w.heap.size) (p0 : ((2 : Int) == c) = false) (p1 : ((10 : Int) == c) = true) :
    Calls Tryd.prog 15 #[.func (.func 16) #[] #[.pointer (some ⟨S, 0, none⟩)]] w fun e w' => e = .returned (.tuple #[.agg #[.int .i64 10, .string ⟨#[100]⟩, .func (.func 66) #[] #[]], .bool true]) ∧ ∃ x : Aft w, w' = x.val := by
  have ix0 : ∀ w, (Instr.index 77 (.agg #[.int .i64 2, .string ⟨#[98]⟩, .func (.func 65) #[] #[], .int .i64 10, .string ⟨#[100]⟩, .func (.func 66) #[] #[], .int .i64 16, .string ⟨#[104]⟩, .func (.func 67) #[] #[]]) (.int .i64 0)).run Tryd.prog w = .ok (.agg #[.int .i64 2, .string ⟨#[98]⟩, .func (.func 65) #[] #[]]) w := fun _ => by kernel_rfl
  have ix1 : ∀ w, (Instr.index 77 (.agg #[.int .i64 2, .string ⟨#[98]⟩, .func (.func 65) #[] #[], .int .i64 10, .string ⟨#[100]⟩, .func (.func 66) #[] #[], .int .i64 16, .string ⟨#[104]⟩, .func (.func 67) #[] #[]]) (.int .i64 1)).run Tryd.prog w = .ok (.agg #[.int .i64 10, .string ⟨#[100]⟩, .func (.func 66) #[] #[]]) w := fun _ => by kernel_rfl
  have ix2 : ∀ w, (Instr.index 77 (.agg #[.int .i64 2, .string ⟨#[98]⟩, .func (.func 65) #[] #[], .int .i64 10, .string ⟨#[100]⟩, .func (.func 66) #[] #[], .int .i64 16, .string ⟨#[104]⟩, .func (.func 67) #[] #[]]) (.int .i64 2)).run Tryd.prog w = .ok (.agg #[.int .i64 16, .string ⟨#[104]⟩, .func (.func 67) #[] #[]]) w := fun _ => by kernel_rfl
  have P0 := Lib.hid p0
  have P1 := Lib.hid p1
  clear p0 p1
  go_enter Tryd.func15, Tryd.ntmps15
  go_wp2_with fail
  refine (allNumerals_c _).mono ?_
  rintro e w' ⟨rfl, x1, rfl⟩
  have z1 : S < x1.val.heap.size := x1.lt' (lt_alloc ls)
  have y1 : w.heap.size < x1.val.heap.size := x1.lt' (by simp)
  have r1 : x1.val.heap[w.heap.size]? = some (.cells #[.int .i64 0, .string ⟨#[]⟩, .nilFunc] 46) := heap_aft x1 (by simp) (heap_alloc_new _ _)
  have R1 := Lib.hid r1; clear r1
  have c1 : x1.val.cell? ⟨S, 0, none⟩ = some (.int .i64 c) := cell_aft x1 (lt_alloc ls) (cell_alloc ls cs)
  go_wp2_with fail
  refine wp_loop_rounds 2 ?_
  rw [rounds_succ]
  go_wp2_with fail
  refine (fmt1_c S _ _ _ _ ⟨_, rfl⟩ _ (cell_alloc z1 c1) (lt_alloc z1)).mono ?_
  rw [P0.out]
  rintro e w' ⟨rfl, x2, rfl⟩
  have y2 : w.heap.size < x2.val.heap.size := x2.lt' (lt_alloc y1)
  have R2 := Lib.hid (heap_aft_alloc x2 y1 R1.out)
  have z2 : S < x2.val.heap.size := x2.lt' (lt_alloc z1)
  have c2 : x2.val.cell? ⟨S, 0, none⟩ = some (.int .i64 c) := cell_aft x2 (lt_alloc z1) (cell_alloc z1 c1)
  go_wp2_with fail
  rw [rounds_succ]
  go_wp2_with fail
  refine (fmt1_c S _ _ _ _ ⟨_, rfl⟩ _ (cell_alloc z2 c2) (lt_alloc z2)).mono ?_
  rw [P1.out]
  rintro e w' ⟨rfl, x3, rfl⟩
  have y3 : w.heap.size < x3.val.heap.size := x3.lt' (lt_alloc y2)
  have R3 := Lib.hid (heap_aft_alloc x3 y2 R2.out)
  have r := R3.out
  have q0 := cell_block (i := 0) r
  have f0 := free_block (i := 0) r
  have q1 := cell_block (i := 1) r
  have f1 := free_block (i := 1) r
  have q2 := cell_block (i := 2) r
  have f2 := free_block (i := 2) r
  simp at q0 q1 q2
  have hb4 : Below w.heap.size w x3.val := by (repeat' (first | (with_reducible exact Below.refl _ _) | (with_reducible assumption) | (with_reducible exact Aft.pf _) | (with_reducible refine Below.alloc ?_ ?_ _) | (with_reducible refine Below.drew ?_) | (with_reducible refine Aft.below _ ?_ ?_) | (with_reducible refine Below.setCell_new ?_ ?_ _ _) | (with_reducible exact Nat.le_refl _) | (with_reducible refine Aft.le _ ?_) | (with_reducible refine le_alloc ?_) | (with_reducible refine le_drew ?_) | (with_reducible refine le_setCell ?_) | omega))
  clear r z1 z2 c1 c2
  have hne : ¬ w.heap.size = x2.val.heap.size := by omega
  clear y1 y2
  have l4 : x3.val.heap[x2.val.heap.size]? = some (.cells #[.int .i64 10, .string ⟨#[100]⟩, .func (.func 66) #[] #[]] 46) := heap_aft x3 (by simp) (heap_alloc_new _ _)
  have k0 := cell_block (i := 0) l4
  have k1 := cell_block (i := 1) l4
  have k2 := cell_block (i := 2) l4
  simp at k0 k1 k2
  clear l4
  generalize x2.val.heap.size = G at *
  generalize x3.val = W' at *
  go_wp2
  refine bodyPost_ret (by simp [results, Tryd.results15, go_sem, q0, q1, q2]; try rfl) rfl ?_
  exact ⟨rfl, Below.aft (by (repeat' (first | (with_reducible exact Below.refl _ _) | (with_reducible assumption) | (with_reducible exact Aft.pf _) | (with_reducible refine Below.alloc ?_ ?_ _) | (with_reducible refine Below.drew ?_) | (with_reducible refine Aft.below _ ?_ ?_) | (with_reducible refine Below.setCell_new ?_ ?_ _ _) | (with_reducible exact Nat.le_refl _) | (with_reducible refine Aft.le _ ?_) | (with_reducible refine le_alloc ?_) | (with_reducible refine le_drew ?_) | (with_reducible refine le_setCell ?_) | omega)))⟩

set_option maxRecDepth 20000 in
set_option maxHeartbeats 1600000 in
theorem numerals_fmt2 (S : Nat) (c : Int) (w : World) (cs : w.cell? ⟨S, 0, none⟩ = some (.int .i64 c)) (ls : S < w.heap.size) (p0 : ((2 : Int) == c) = false) (p1 : ((10 : Int) == c) = false) (p2 : ((16 : Int) == c) = true) :
    Calls Tryd.prog 15 #[.func (.func 16) #[] #[.pointer (some ⟨S, 0, none⟩)]] w fun e w' => e = .returned (.tuple #[.agg #[.int .i64 16, .string ⟨#[104]⟩, .func (.func 67) #[] #[]], .bool true]) ∧ ∃ x : Aft w, w' = x.val := by
  have ix0 : ∀ w, (Instr.index 77 (.agg #[.int .i64 2, .string ⟨#[98]⟩, .func (.func 65) #[] #[], .int .i64 10, .string ⟨#[100]⟩, .func (.func 66) #[] #[], .int .i64 16, .string ⟨#[104]⟩, .func (.func 67) #[] #[]]) (.int .i64 0)).run Tryd.prog w = .ok (.agg #[.int .i64 2, .string ⟨#[98]⟩, .func (.func 65) #[] #[]]) w := fun _ => by kernel_rfl
  have ix1 : ∀ w, (Instr.index 77 (.agg #[.int .i64 2, .string ⟨#[98]⟩, .func (.func 65) #[] #[], .int .i64 10, .string ⟨#[100]⟩, .func (.func 66) #[] #[], .int .i64 16, .string ⟨#[104]⟩, .func (.func 67) #[] #[]]) (.int .i64 1)).run Tryd.prog w = .ok (.agg #[.int .i64 10, .string ⟨#[100]⟩, .func (.func 66) #[] #[]]) w := fun _ => by kernel_rfl
  have ix2 : ∀ w, (Instr.index 77 (.agg #[.int .i64 2, .string ⟨#[98]⟩, .func (.func 65) #[] #[], .int .i64 10, .string ⟨#[100]⟩, .func (.func 66) #[] #[], .int .i64 16, .string ⟨#[104]⟩, .func (.func 67) #[] #[]]) (.int .i64 2)).run Tryd.prog w = .ok (.agg #[.int .i64 16, .string ⟨#[104]⟩, .func (.func 67) #[] #[]]) w := fun _ => by kernel_rfl
  have P0 := Lib.hid p0
  have P1 := Lib.hid p1
  have P2 := Lib.hid p2
  clear p0 p1 p2
  go_enter Tryd.func15, Tryd.ntmps15
  go_wp2_with fail
  refine (allNumerals_c _).mono ?_
  rintro e w' ⟨rfl, x1, rfl⟩
  have z1 : S < x1.val.heap.size := x1.lt' (lt_alloc ls)
  have y1 : w.heap.size < x1.val.heap.size := x1.lt' (by simp)
  have r1 : x1.val.heap[w.heap.size]? = some (.cells #[.int .i64 0, .string ⟨#[]⟩, .nilFunc] 46) := heap_aft x1 (by simp) (heap_alloc_new _ _)
  have R1 := Lib.hid r1; clear r1
  have c1 : x1.val.cell? ⟨S, 0, none⟩ = some (.int .i64 c) := cell_aft x1 (lt_alloc ls) (cell_alloc ls cs)
  go_wp2_with fail
  refine wp_loop_rounds 3 ?_
  rw [rounds_succ]
  go_wp2_with fail
  refine (fmt1_c S _ _ _ _ ⟨_, rfl⟩ _ (cell_alloc z1 c1) (lt_alloc z1)).mono ?_
  rw [P0.out]
  rintro e w' ⟨rfl, x2, rfl⟩
  have y2 : w.heap.size < x2.val.heap.size := x2.lt' (lt_alloc y1)
  have R2 := Lib.hid (heap_aft_alloc x2 y1 R1.out)
  have z2 : S < x2.val.heap.size := x2.lt' (lt_alloc z1)
  have c2 : x2.val.cell? ⟨S, 0, none⟩ = some (.int .i64 c) := cell_aft x2 (lt_alloc z1) (cell_alloc z1 c1)
  go_wp2_with fail
  rw [rounds_succ]
  go_wp2_with fail
  refine (fmt1_c S _ _ _ _ ⟨_, rfl⟩ _ (cell_alloc z2 c2) (lt_alloc z2)).mono ?_
  rw [P1.out]
  rintro e w' ⟨rfl, x3, rfl⟩
  have y3 : w.heap.size < x3.val.heap.size := x3.lt' (lt_alloc y2)
  have R3 := Lib.hid (heap_aft_alloc x3 y2 R2.out)
  have z3 : S < x3.val.heap.size := x3.lt' (lt_alloc z2)
  have c3 : x3.val.cell? ⟨S, 0, none⟩ = some (.int .i64 c) := cell_aft x3 (lt_alloc z2) (cell_alloc z2 c2)
  go_wp2_with fail
  rw [rounds_succ]
  go_wp2_with fail
  refine (fmt1_c S _ _ _ _ ⟨_, rfl⟩ _ (cell_alloc z3 c3) (lt_alloc z3)).mono ?_
  rw [P2.out]
  rintro e w' ⟨rfl, x4, rfl⟩
  have y4 : w.heap.size < x4.val.heap.size := x4.lt' (lt_alloc y3)
  have R4 := Lib.hid (heap_aft_alloc x4 y3 R3.out)
  have r := R4.out
  have q0 := cell_block (i := 0) r
  have f0 := free_block (i := 0) r
  have q1 := cell_block (i := 1) r
  have f1 := free_block (i := 1) r
  have q2 := cell_block (i := 2) r
  have f2 := free_block (i := 2) r
  simp at q0 q1 q2
  have hb4 : Below w.heap.size w x4.val := by (repeat' (first | (with_reducible exact Below.refl _ _) | (with_reducible assumption) | (with_reducible exact Aft.pf _) | (with_reducible refine Below.alloc ?_ ?_ _) | (with_reducible refine Below.drew ?_) | (with_reducible refine Aft.below _ ?_ ?_) | (with_reducible refine Below.setCell_new ?_ ?_ _ _) | (with_reducible exact Nat.le_refl _) | (with_reducible refine Aft.le _ ?_) | (with_reducible refine le_alloc ?_) | (with_reducible refine le_drew ?_) | (with_reducible refine le_setCell ?_) | omega))
  clear r z1 z2 z3 c1 c2 c3
  have hne : ¬ w.heap.size = x3.val.heap.size := by omega
  clear y1 y2 y3
  have l4 : x4.val.heap[x3.val.heap.size]? = some (.cells #[.int .i64 16, .string ⟨#[104]⟩, .func (.func 67) #[] #[]] 46) := heap_aft x4 (by simp) (heap_alloc_new _ _)
  have k0 := cell_block (i := 0) l4
  have k1 := cell_block (i := 1) l4
  have k2 := cell_block (i := 2) l4
  simp at k0 k1 k2
  clear l4
  generalize x3.val.heap.size = G at *
  generalize x4.val = W' at *
  go_wp2
  refine bodyPost_ret (by simp [results, Tryd.results15, go_sem, q0, q1, q2]; try rfl) rfl ?_
  exact ⟨rfl, Below.aft (by (repeat' (first | (with_reducible exact Below.refl _ _) | (with_reducible assumption) | (with_reducible exact Aft.pf _) | (with_reducible refine Below.alloc ?_ ?_ _) | (with_reducible refine Below.drew ?_) | (with_reducible refine Aft.below _ ?_ ?_) | (with_reducible refine Below.setCell_new ?_ ?_ _ _) | (with_reducible exact Nat.le_refl _) | (with_reducible refine Aft.le _ ?_) | (with_reducible refine le_alloc ?_) | (with_reducible refine le_drew ?_) | (with_reducible refine le_setCell ?_) | omega)))⟩

set_option maxRecDepth 20000 in
set_option maxHeartbeats 1600000 in
theorem numerals_fmt3 (S : Nat) (c : Int) (w : World) (cs : w.cell? ⟨S, 0, none⟩ = some (.int .i64 c)) (ls : S < w.heap.size) (p0 : ((2 : Int) == c) = false) (p1 : ((10 : Int) == c) = false) (p2 : ((16 : Int) == c) = false) :
    Calls Tryd.prog 15 #[.func (.func 16) #[] #[.pointer (some ⟨S, 0, none⟩)]] w fun e w' => e = .returned (.tuple #[.agg #[.int .i64 0, .string ⟨#[]⟩, .nilFunc], .bool false]) ∧ ∃ x : Aft w, w' = x.val := by
  have ix0 : ∀ w, (Instr.index 77 (.agg #[.int .i64 2, .string ⟨#[98]⟩, .func (.func 65) #[] #[], .int .i64 10, .string ⟨#[100]⟩, .func (.func 66) #[] #[], .int .i64 16, .string ⟨#[104]⟩, .func (.func 67) #[] #[]]) (.int .i64 0)).run Tryd.prog w = .ok (.agg #[.int .i64 2, .string ⟨#[98]⟩, .func (.func 65) #[] #[]]) w := fun _ => by kernel_rfl
  have ix1 : ∀ w, (Instr.index 77 (.agg #[.int .i64 2, .string ⟨#[98]⟩, .func (.func 65) #[] #[], .int .i64 10, .string ⟨#[100]⟩, .func (.func 66) #[] #[], .int .i64 16, .string ⟨#[104]⟩, .func (.func 67) #[] #[]]) (.int .i64 1)).run Tryd.prog w = .ok (.agg #[.int .i64 10, .string ⟨#[100]⟩, .func (.func 66) #[] #[]]) w := fun _ => by kernel_rfl
  have ix2 : ∀ w, (Instr.index 77 (.agg #[.int .i64 2, .string ⟨#[98]⟩, .func (.func 65) #[] #[], .int .i64 10, .string ⟨#[100]⟩, .func (.func 66) #[] #[], .int .i64 16, .string ⟨#[104]⟩, .func (.func 67) #[] #[]]) (.int .i64 2)).run Tryd.prog w = .ok (.agg #[.int .i64 16, .string ⟨#[104]⟩, .func (.func 67) #[] #[]]) w := fun _ => by kernel_rfl
  have P0 := Lib.hid p0
  have P1 := Lib.hid p1
  have P2 := Lib.hid p2
  clear p0 p1 p2
  go_enter Tryd.func15, Tryd.ntmps15
  go_wp2_with fail
  refine (allNumerals_c _).mono ?_
  rintro e w' ⟨rfl, x1, rfl⟩
  have z1 : S < x1.val.heap.size := x1.lt' (lt_alloc ls)
  have y1 : w.heap.size < x1.val.heap.size := x1.lt' (by simp)
  have r1 : x1.val.heap[w.heap.size]? = some (.cells #[.int .i64 0, .string ⟨#[]⟩, .nilFunc] 46) := heap_aft x1 (by simp) (heap_alloc_new _ _)
  have R1 := Lib.hid r1; clear r1
  have c1 : x1.val.cell? ⟨S, 0, none⟩ = some (.int .i64 c) := cell_aft x1 (lt_alloc ls) (cell_alloc ls cs)
  go_wp2_with fail
  refine wp_loop_rounds 4 ?_
  rw [rounds_succ]
  go_wp2_with fail
  refine (fmt1_c S _ _ _ _ ⟨_, rfl⟩ _ (cell_alloc z1 c1) (lt_alloc z1)).mono ?_
  rw [P0.out]
  rintro e w' ⟨rfl, x2, rfl⟩
  have y2 : w.heap.size < x2.val.heap.size := x2.lt' (lt_alloc y1)
  have R2 := Lib.hid (heap_aft_alloc x2 y1 R1.out)
  have z2 : S < x2.val.heap.size := x2.lt' (lt_alloc z1)
  have c2 : x2.val.cell? ⟨S, 0, none⟩ = some (.int .i64 c) := cell_aft x2 (lt_alloc z1) (cell_alloc z1 c1)
  go_wp2_with fail
  rw [rounds_succ]
  go_wp2_with fail
  refine (fmt1_c S _ _ _ _ ⟨_, rfl⟩ _ (cell_alloc z2 c2) (lt_alloc z2)).mono ?_
  rw [P1.out]
  rintro e w' ⟨rfl, x3, rfl⟩
  have y3 : w.heap.size < x3.val.heap.size := x3.lt' (lt_alloc y2)
  have R3 := Lib.hid (heap_aft_alloc x3 y2 R2.out)
  have z3 : S < x3.val.heap.size := x3.lt' (lt_alloc z2)
  have c3 : x3.val.cell? ⟨S, 0, none⟩ = some (.int .i64 c) := cell_aft x3 (lt_alloc z2) (cell_alloc z2 c2)
  go_wp2_with fail
  rw [rounds_succ]
  go_wp2_with fail
  refine (fmt1_c S _ _ _ _ ⟨_, rfl⟩ _ (cell_alloc z3 c3) (lt_alloc z3)).mono ?_
  rw [P2.out]
  rintro e w' ⟨rfl, x4, rfl⟩
  have y4 : w.heap.size < x4.val.heap.size := x4.lt' (lt_alloc y3)
  have R4 := Lib.hid (heap_aft_alloc x4 y3 R3.out)
  have r := R4.out
  have q0 := cell_block (i := 0) r
  have f0 := free_block (i := 0) r
  have q1 := cell_block (i := 1) r
  have f1 := free_block (i := 1) r
  have q2 := cell_block (i := 2) r
  have f2 := free_block (i := 2) r
  simp at q0 q1 q2
  have hb4 : Below w.heap.size w x4.val := by (repeat' (first | (with_reducible exact Below.refl _ _) | (with_reducible assumption) | (with_reducible exact Aft.pf _) | (with_reducible refine Below.alloc ?_ ?_ _) | (with_reducible refine Below.drew ?_) | (with_reducible refine Aft.below _ ?_ ?_) | (with_reducible refine Below.setCell_new ?_ ?_ _ _) | (with_reducible exact Nat.le_refl _) | (with_reducible refine Aft.le _ ?_) | (with_reducible refine le_alloc ?_) | (with_reducible refine le_drew ?_) | (with_reducible refine le_setCell ?_) | omega))
  clear r z1 z2 z3 c1 c2 c3
  have hne : ¬ w.heap.size = x3.val.heap.size := by omega
  clear y1 y2 y3
  generalize x3.val.heap.size = G at *
  generalize x4.val = W' at *
  go_wp2_with fail
  rw [rounds_succ]
  go_wp2
  refine bodyPost_ret (by simp [results, Tryd.results15, go_sem, q0, q1, q2]; try rfl) rfl ?_
  exact ⟨rfl, Below.aft (by (repeat' (first | (with_reducible exact Below.refl _ _) | (with_reducible assumption) | (with_reducible exact Aft.pf _) | (with_reducible refine Below.alloc ?_ ?_ _) | (with_reducible refine Below.drew ?_) | (with_reducible refine Aft.below _ ?_ ?_) | (with_reducible refine Below.setCell_new ?_ ?_ _ _) | (with_reducible exact Nat.le_refl _) | (with_reducible refine Aft.le _ ?_) | (with_reducible refine le_alloc ?_) | (with_reducible refine le_drew ?_) | (with_reducible refine le_setCell ?_) | omega)))⟩

end Go.Proofs.YtlplphigjejahaaDoor
