/-
  Contracts of chapter 2 (graph): what an operation gives, by the reference.
-/
import Derived.Test.YtkdonapgonegkaaGreatDoorZe
import Derived.Maps.AppendAt
import Derived.Test.YtkdonapgonegkaaGreatDoorZa
set_option linter.unusedSimpArgs false
set_option linter.unusedVariables false
namespace Go.Proofs.YtkdonapgonegkaaGreatDoor
open Go.RowKit Go.BigFrame

theorem baseBit_c (b : Bool) (w : World) : Calls Tryz.prog 79 #[.bool b] w fun e w' => e = .returned (.int .i64 (fl b)) ∧ w = w' := by
  cases b
  all_goals
    go_enter Tryz.func79, Tryz.ntmps79
    go_wp2
    go_ret
    exact ⟨rfl, rfl⟩

set_option maxRecDepth 100000 in
set_option maxHeartbeats 1600000 in
theorem baseSigned_c (n wd : Int) (h1 : 1 ≤ wd) (h2 : wd ≤ 16) (n0 : 0 ≤ n) (n1 : n ≤ 65536) (w : World) : Calls Tryz.prog 80 #[.int .i64 n, .int .i64 wd] w fun e w' => e = .returned (.int .i64 (sgS wd n)) ∧ w = w' := by
  have hp := pw_bd (n := wd) (by omega) h2
  have hq := pw_bd (n := wd - 1) (by omega) (by omega)
  by_cases h : pw (wd - 1) ≤ n
  · have HR := Lib.hid (show sgS wd n = n - pw wd from if_pos h)
    go_enter Tryz.func80, Tryz.ntmps80
    go_wp2_with (go_at_call 78; refine (Power_c _ (by omega) (by omega) _).mono ?_; rintro e w' ⟨rfl, rfl⟩)
    go_ret
    exact ⟨retI HR.out.symm, rfl⟩
  · have HR := Lib.hid (show sgS wd n = n from if_neg h)
    go_enter Tryz.func80, Tryz.ntmps80
    go_wp2_with (go_at_call 78; refine (Power_c _ (by omega) (by omega) _).mono ?_; rintro e w' ⟨rfl, rfl⟩)
    go_ret
    exact ⟨retI HR.out.symm, rfl⟩

set_option maxRecDepth 100000 in
set_option maxHeartbeats 1600000 in
theorem ap_2 (wd v av bv cv aw bw cw : Int) (w1 : 1 ≤ wd) (w2 : wd ≤ 16) (a0 : 0 ≤ av) (a1 : av ≤ 65536) (b0 : 0 ≤ bv) (b1 : bv ≤ 65536) (B : Option Addr) (al bc : Nat) (Aa : Option Addr) (ca : Nat) (Wa : Option Addr) (cwa : Nat) (V : Option Addr) (nv cv2 : Nat) (w : World) (hA : LiesI w Aa [av]) (hW : LiesI w Wa [aw]) :
    Calls Tryz.prog 42 #[.agg #[.int .i64 2, .int .i64 wd, .slice B al bc, .int .i64 v], .slice Aa 1 ca, .slice Wa 1 cwa, .slice V nv cv2] w fun e w' => e = .returned (.int .i64 (apG 2 wd v aw av bw bv cv)) ∧ ∃ x : Aft w, w' = x.val := by
  obtain ⟨x, rfl, lx, cx⟩ := hA (by simp)
  obtain ⟨y, rfl, ly, cy⟩ := hW (by simp)
  have hp := pw_bd (n := wd) (by omega) w2
  go_enter Tryz.func42, Tryz.ntmps42
  go_upto_region 1 with (fail)
  have hb1 := (Below.refl w.heap.size w).alloc (Nat.le_refl _) (.cells #[.int .i64 2, .int .i64 wd, .slice B al bc, .int .i64 v] 61)
  have rn : (w.alloc (.cells #[.int .i64 2, .int .i64 wd, .slice B al bc, .int .i64 v] 61)).heap[w.heap.size]? = some (.cells #[.int .i64 2, .int .i64 wd, .slice B al bc, .int .i64 v] 61) := heap_alloc_new _ _
  generalize w.alloc (.cells #[.int .i64 2, .int .i64 wd, .slice B al bc, .int .i64 v] 61) = W1 at *
  have qx0 : ∀ z : Aft W1, z.val.cell? x = some (.int .i64 av) := fun z => by
    have := ((z.below hb1 hb1.size).cell (p := x.add 0) (by rw [addB]; exact lx)).trans (cx 0 _ rfl)
    exact this
  have qy0 : ∀ z : Aft W1, z.val.cell? y = some (.int .i64 aw) := fun z => by
    have := ((z.below hb1 hb1.size).cell (p := y.add 0) (by rw [addB]; exact ly)).trans (cy 0 _ rfl)
    exact this
  have n0 : ∀ z : Aft W1, z.val.cell? ⟨w.heap.size, 0, none⟩ = some (.int .i64 2) := fun z => by
    have := cell_block (i := 0) (heap_aft z (lt_of_get rn) rn); simpa using this
  have n1 : ∀ z : Aft W1, z.val.cell? ⟨w.heap.size, 1, none⟩ = some (.int .i64 wd) := fun z => by
    have := cell_block (i := 1) (heap_aft z (lt_of_get rn) rn); simpa using this
  have n3 : ∀ z : Aft W1, z.val.cell? ⟨w.heap.size, 3, none⟩ = some (.int .i64 v) := fun z => by
    have := cell_block (i := 3) (heap_aft z (lt_of_get rn) rn); simpa using this
  have m0 := n0 ⟨W1, Below.refl _ _⟩
  have m1 := n1 ⟨W1, Below.refl _ _⟩
  have m3 := n3 ⟨W1, Below.refl _ _⟩
  have px0 := qx0 ⟨W1, Below.refl _ _⟩
  have py0 := qy0 ⟨W1, Below.refl _ _⟩
  clear cx cy rn
  have HB1 := Lib.hid hb1
  clear hb1
  go_wp2_with (go_at_call 78; refine (Power_c _ (by omega) (by omega) _).mono ?_; rintro e w' ⟨rfl, rfl⟩)
  go_ret
  exact ⟨retI (by first | rfl | (simp [apG]; done)), Below.aft HB1.out⟩

set_option maxRecDepth 100000 in
set_option maxHeartbeats 1600000 in
theorem ap_3 (wd v av bv cv aw bw cw : Int) (w1 : 1 ≤ wd) (w2 : wd ≤ 16) (a0 : 0 ≤ av) (a1 : av ≤ 65536) (b0 : 0 ≤ bv) (b1 : bv ≤ 65536) (B : Option Addr) (al bc : Nat) (Aa : Option Addr) (ca : Nat) (Wa : Option Addr) (cwa : Nat) (V : Option Addr) (nv cv2 : Nat) (w : World) (hA : LiesI w Aa [av, bv]) (hW : LiesI w Wa [aw, bw]) :
    Calls Tryz.prog 42 #[.agg #[.int .i64 3, .int .i64 wd, .slice B al bc, .int .i64 v], .slice Aa 2 ca, .slice Wa 2 cwa, .slice V nv cv2] w fun e w' => e = .returned (.int .i64 (apG 3 wd v aw av bw bv cv)) ∧ ∃ x : Aft w, w' = x.val := by
  obtain ⟨x, rfl, lx, cx⟩ := hA (by simp)
  obtain ⟨y, rfl, ly, cy⟩ := hW (by simp)
  have hp := pw_bd (n := wd) (by omega) w2
  go_enter Tryz.func42, Tryz.ntmps42
  go_upto_region 1 with (fail)
  have hb1 := (Below.refl w.heap.size w).alloc (Nat.le_refl _) (.cells #[.int .i64 3, .int .i64 wd, .slice B al bc, .int .i64 v] 61)
  have rn : (w.alloc (.cells #[.int .i64 3, .int .i64 wd, .slice B al bc, .int .i64 v] 61)).heap[w.heap.size]? = some (.cells #[.int .i64 3, .int .i64 wd, .slice B al bc, .int .i64 v] 61) := heap_alloc_new _ _
  generalize w.alloc (.cells #[.int .i64 3, .int .i64 wd, .slice B al bc, .int .i64 v] 61) = W1 at *
  have qx0 : ∀ z : Aft W1, z.val.cell? x = some (.int .i64 av) := fun z => by
    have := ((z.below hb1 hb1.size).cell (p := x.add 0) (by rw [addB]; exact lx)).trans (cx 0 _ rfl)
    exact this
  have qx1 : ∀ z : Aft W1, z.val.cell? ⟨x.block, x.off + 1, none⟩ = some (.int .i64 bv) := fun z => by
    have := ((z.below hb1 hb1.size).cell (p := x.add 1) (by rw [addB]; exact lx)).trans (cx 1 _ rfl)
    exact this
  have qy0 : ∀ z : Aft W1, z.val.cell? y = some (.int .i64 aw) := fun z => by
    have := ((z.below hb1 hb1.size).cell (p := y.add 0) (by rw [addB]; exact ly)).trans (cy 0 _ rfl)
    exact this
  have qy1 : ∀ z : Aft W1, z.val.cell? ⟨y.block, y.off + 1, none⟩ = some (.int .i64 bw) := fun z => by
    have := ((z.below hb1 hb1.size).cell (p := y.add 1) (by rw [addB]; exact ly)).trans (cy 1 _ rfl)
    exact this
  have n0 : ∀ z : Aft W1, z.val.cell? ⟨w.heap.size, 0, none⟩ = some (.int .i64 3) := fun z => by
    have := cell_block (i := 0) (heap_aft z (lt_of_get rn) rn); simpa using this
  have n1 : ∀ z : Aft W1, z.val.cell? ⟨w.heap.size, 1, none⟩ = some (.int .i64 wd) := fun z => by
    have := cell_block (i := 1) (heap_aft z (lt_of_get rn) rn); simpa using this
  have n3 : ∀ z : Aft W1, z.val.cell? ⟨w.heap.size, 3, none⟩ = some (.int .i64 v) := fun z => by
    have := cell_block (i := 3) (heap_aft z (lt_of_get rn) rn); simpa using this
  have m0 := n0 ⟨W1, Below.refl _ _⟩
  have m1 := n1 ⟨W1, Below.refl _ _⟩
  have m3 := n3 ⟨W1, Below.refl _ _⟩
  have px0 := qx0 ⟨W1, Below.refl _ _⟩
  have px1 := qx1 ⟨W1, Below.refl _ _⟩
  have py0 := qy0 ⟨W1, Below.refl _ _⟩
  have py1 := qy1 ⟨W1, Below.refl _ _⟩
  clear cx cy rn
  have HB1 := Lib.hid hb1
  clear hb1
  go_wp2_with (go_at_call 78; refine (Power_c _ (by omega) (by omega) _).mono ?_; rintro e w' ⟨rfl, rfl⟩)
  refine wp_region_aft (by kernel_rfl) (by kernel_rfl) ?_
  repeat (go_big_quiet_step (first | (go_at_call 78; exact Calls.qs (Power_c _ (by omega) (by omega) _)) | (go_at_call 79; exact Calls.qs (baseBit_c _ _)) | (go_at_call 80; exact Calls.qs (baseSigned_c _ _ (by omega) (by omega) (by omega) (by omega) _))))
  refine wpQuiet_nil ?_
  intro z
  go_wp2
  go_ret
  exact ⟨retI (by first | rfl | (simp [apG]; done)), Below.aft (z.below HB1.out HB1.out.size)⟩

set_option maxRecDepth 100000 in
set_option maxHeartbeats 1600000 in
theorem ap_4 (wd v av bv cv aw bw cw : Int) (w1 : 1 ≤ wd) (w2 : wd ≤ 16) (a0 : 0 ≤ av) (a1 : av ≤ 65536) (b0 : 0 ≤ bv) (b1 : bv ≤ 65536) (B : Option Addr) (al bc : Nat) (Aa : Option Addr) (ca : Nat) (Wa : Option Addr) (cwa : Nat) (V : Option Addr) (nv cv2 : Nat) (w : World) (hA : LiesI w Aa [av, bv]) (hW : LiesI w Wa [aw, bw]) :
    Calls Tryz.prog 42 #[.agg #[.int .i64 4, .int .i64 wd, .slice B al bc, .int .i64 v], .slice Aa 2 ca, .slice Wa 2 cwa, .slice V nv cv2] w fun e w' => e = .returned (.int .i64 (apG 4 wd v aw av bw bv cv)) ∧ ∃ x : Aft w, w' = x.val := by
  obtain ⟨x, rfl, lx, cx⟩ := hA (by simp)
  obtain ⟨y, rfl, ly, cy⟩ := hW (by simp)
  have hp := pw_bd (n := wd) (by omega) w2
  go_enter Tryz.func42, Tryz.ntmps42
  go_upto_region 1 with (fail)
  have hb1 := (Below.refl w.heap.size w).alloc (Nat.le_refl _) (.cells #[.int .i64 4, .int .i64 wd, .slice B al bc, .int .i64 v] 61)
  have rn : (w.alloc (.cells #[.int .i64 4, .int .i64 wd, .slice B al bc, .int .i64 v] 61)).heap[w.heap.size]? = some (.cells #[.int .i64 4, .int .i64 wd, .slice B al bc, .int .i64 v] 61) := heap_alloc_new _ _
  generalize w.alloc (.cells #[.int .i64 4, .int .i64 wd, .slice B al bc, .int .i64 v] 61) = W1 at *
  have qx0 : ∀ z : Aft W1, z.val.cell? x = some (.int .i64 av) := fun z => by
    have := ((z.below hb1 hb1.size).cell (p := x.add 0) (by rw [addB]; exact lx)).trans (cx 0 _ rfl)
    exact this
  have qx1 : ∀ z : Aft W1, z.val.cell? ⟨x.block, x.off + 1, none⟩ = some (.int .i64 bv) := fun z => by
    have := ((z.below hb1 hb1.size).cell (p := x.add 1) (by rw [addB]; exact lx)).trans (cx 1 _ rfl)
    exact this
  have qy0 : ∀ z : Aft W1, z.val.cell? y = some (.int .i64 aw) := fun z => by
    have := ((z.below hb1 hb1.size).cell (p := y.add 0) (by rw [addB]; exact ly)).trans (cy 0 _ rfl)
    exact this
  have qy1 : ∀ z : Aft W1, z.val.cell? ⟨y.block, y.off + 1, none⟩ = some (.int .i64 bw) := fun z => by
    have := ((z.below hb1 hb1.size).cell (p := y.add 1) (by rw [addB]; exact ly)).trans (cy 1 _ rfl)
    exact this
  have n0 : ∀ z : Aft W1, z.val.cell? ⟨w.heap.size, 0, none⟩ = some (.int .i64 4) := fun z => by
    have := cell_block (i := 0) (heap_aft z (lt_of_get rn) rn); simpa using this
  have n1 : ∀ z : Aft W1, z.val.cell? ⟨w.heap.size, 1, none⟩ = some (.int .i64 wd) := fun z => by
    have := cell_block (i := 1) (heap_aft z (lt_of_get rn) rn); simpa using this
  have n3 : ∀ z : Aft W1, z.val.cell? ⟨w.heap.size, 3, none⟩ = some (.int .i64 v) := fun z => by
    have := cell_block (i := 3) (heap_aft z (lt_of_get rn) rn); simpa using this
  have m0 := n0 ⟨W1, Below.refl _ _⟩
  have m1 := n1 ⟨W1, Below.refl _ _⟩
  have m3 := n3 ⟨W1, Below.refl _ _⟩
  have px0 := qx0 ⟨W1, Below.refl _ _⟩
  have px1 := qx1 ⟨W1, Below.refl _ _⟩
  have py0 := qy0 ⟨W1, Below.refl _ _⟩
  have py1 := qy1 ⟨W1, Below.refl _ _⟩
  clear cx cy rn
  have HB1 := Lib.hid hb1
  clear hb1
  go_wp2_with (go_at_call 78; refine (Power_c _ (by omega) (by omega) _).mono ?_; rintro e w' ⟨rfl, rfl⟩)
  refine wp_region_aft (by kernel_rfl) (by kernel_rfl) ?_
  repeat (go_big_quiet_step (first | (go_at_call 78; exact Calls.qs (Power_c _ (by omega) (by omega) _)) | (go_at_call 79; exact Calls.qs (baseBit_c _ _)) | (go_at_call 80; exact Calls.qs (baseSigned_c _ _ (by omega) (by omega) (by omega) (by omega) _))))
  refine wpQuiet_nil ?_
  intro z
  go_wp2
  go_ret
  exact ⟨retI (by first | rfl | (simp [apG]; done)), Below.aft (z.below HB1.out HB1.out.size)⟩

set_option maxRecDepth 100000 in
set_option maxHeartbeats 1600000 in
theorem ap_5 (wd v av bv cv aw bw cw : Int) (w1 : 1 ≤ wd) (w2 : wd ≤ 16) (a0 : 0 ≤ av) (a1 : av ≤ 65536) (b0 : 0 ≤ bv) (b1 : bv ≤ 65536) (B : Option Addr) (al bc : Nat) (Aa : Option Addr) (ca : Nat) (Wa : Option Addr) (cwa : Nat) (V : Option Addr) (nv cv2 : Nat) (w : World) (hA : LiesI w Aa [av, bv]) (hW : LiesI w Wa [aw, bw]) :
    Calls Tryz.prog 42 #[.agg #[.int .i64 5, .int .i64 wd, .slice B al bc, .int .i64 v], .slice Aa 2 ca, .slice Wa 2 cwa, .slice V nv cv2] w fun e w' => e = .returned (.int .i64 (apG 5 wd v aw av bw bv cv)) ∧ ∃ x : Aft w, w' = x.val := by
  obtain ⟨x, rfl, lx, cx⟩ := hA (by simp)
  obtain ⟨y, rfl, ly, cy⟩ := hW (by simp)
  have hp := pw_bd (n := wd) (by omega) w2
  go_enter Tryz.func42, Tryz.ntmps42
  go_upto_region 1 with (fail)
  have hb1 := (Below.refl w.heap.size w).alloc (Nat.le_refl _) (.cells #[.int .i64 5, .int .i64 wd, .slice B al bc, .int .i64 v] 61)
  have rn : (w.alloc (.cells #[.int .i64 5, .int .i64 wd, .slice B al bc, .int .i64 v] 61)).heap[w.heap.size]? = some (.cells #[.int .i64 5, .int .i64 wd, .slice B al bc, .int .i64 v] 61) := heap_alloc_new _ _
  generalize w.alloc (.cells #[.int .i64 5, .int .i64 wd, .slice B al bc, .int .i64 v] 61) = W1 at *
  have qx0 : ∀ z : Aft W1, z.val.cell? x = some (.int .i64 av) := fun z => by
    have := ((z.below hb1 hb1.size).cell (p := x.add 0) (by rw [addB]; exact lx)).trans (cx 0 _ rfl)
    exact this
  have qx1 : ∀ z : Aft W1, z.val.cell? ⟨x.block, x.off + 1, none⟩ = some (.int .i64 bv) := fun z => by
    have := ((z.below hb1 hb1.size).cell (p := x.add 1) (by rw [addB]; exact lx)).trans (cx 1 _ rfl)
    exact this
  have qy0 : ∀ z : Aft W1, z.val.cell? y = some (.int .i64 aw) := fun z => by
    have := ((z.below hb1 hb1.size).cell (p := y.add 0) (by rw [addB]; exact ly)).trans (cy 0 _ rfl)
    exact this
  have qy1 : ∀ z : Aft W1, z.val.cell? ⟨y.block, y.off + 1, none⟩ = some (.int .i64 bw) := fun z => by
    have := ((z.below hb1 hb1.size).cell (p := y.add 1) (by rw [addB]; exact ly)).trans (cy 1 _ rfl)
    exact this
  have n0 : ∀ z : Aft W1, z.val.cell? ⟨w.heap.size, 0, none⟩ = some (.int .i64 5) := fun z => by
    have := cell_block (i := 0) (heap_aft z (lt_of_get rn) rn); simpa using this
  have n1 : ∀ z : Aft W1, z.val.cell? ⟨w.heap.size, 1, none⟩ = some (.int .i64 wd) := fun z => by
    have := cell_block (i := 1) (heap_aft z (lt_of_get rn) rn); simpa using this
  have n3 : ∀ z : Aft W1, z.val.cell? ⟨w.heap.size, 3, none⟩ = some (.int .i64 v) := fun z => by
    have := cell_block (i := 3) (heap_aft z (lt_of_get rn) rn); simpa using this
  have m0 := n0 ⟨W1, Below.refl _ _⟩
  have m1 := n1 ⟨W1, Below.refl _ _⟩
  have m3 := n3 ⟨W1, Below.refl _ _⟩
  have px0 := qx0 ⟨W1, Below.refl _ _⟩
  have px1 := qx1 ⟨W1, Below.refl _ _⟩
  have py0 := qy0 ⟨W1, Below.refl _ _⟩
  have py1 := qy1 ⟨W1, Below.refl _ _⟩
  clear cx cy rn
  have HB1 := Lib.hid hb1
  clear hb1
  go_wp2_with (go_at_call 78; refine (Power_c _ (by omega) (by omega) _).mono ?_; rintro e w' ⟨rfl, rfl⟩)
  refine wp_region_aft (by kernel_rfl) (by kernel_rfl) ?_
  repeat (go_big_quiet_step (first | (go_at_call 78; exact Calls.qs (Power_c _ (by omega) (by omega) _)) | (go_at_call 79; exact Calls.qs (baseBit_c _ _)) | (go_at_call 80; exact Calls.qs (baseSigned_c _ _ (by omega) (by omega) (by omega) (by omega) _))))
  refine wpQuiet_nil ?_
  intro z
  go_wp2
  go_ret
  exact ⟨retI (by first | rfl | (simp [apG]; done)), Below.aft (z.below HB1.out HB1.out.size)⟩

set_option maxRecDepth 100000 in
set_option maxHeartbeats 1600000 in
theorem ap_6 (wd v av bv cv aw bw cw : Int) (w1 : 1 ≤ wd) (w2 : wd ≤ 16) (a0 : 0 ≤ av) (a1 : av ≤ 65536) (b0 : 0 ≤ bv) (b1 : bv ≤ 65536) (B : Option Addr) (al bc : Nat) (Aa : Option Addr) (ca : Nat) (Wa : Option Addr) (cwa : Nat) (V : Option Addr) (nv cv2 : Nat) (w : World) (hA : LiesI w Aa [av, bv]) (hW : LiesI w Wa [aw, bw]) :
    Calls Tryz.prog 42 #[.agg #[.int .i64 6, .int .i64 wd, .slice B al bc, .int .i64 v], .slice Aa 2 ca, .slice Wa 2 cwa, .slice V nv cv2] w fun e w' => e = .returned (.int .i64 (apG 6 wd v aw av bw bv cv)) ∧ ∃ x : Aft w, w' = x.val := by
  obtain ⟨x, rfl, lx, cx⟩ := hA (by simp)
  obtain ⟨y, rfl, ly, cy⟩ := hW (by simp)
  have hp := pw_bd (n := wd) (by omega) w2
  go_enter Tryz.func42, Tryz.ntmps42
  go_upto_region 1 with (fail)
  have hb1 := (Below.refl w.heap.size w).alloc (Nat.le_refl _) (.cells #[.int .i64 6, .int .i64 wd, .slice B al bc, .int .i64 v] 61)
  have rn : (w.alloc (.cells #[.int .i64 6, .int .i64 wd, .slice B al bc, .int .i64 v] 61)).heap[w.heap.size]? = some (.cells #[.int .i64 6, .int .i64 wd, .slice B al bc, .int .i64 v] 61) := heap_alloc_new _ _
  generalize w.alloc (.cells #[.int .i64 6, .int .i64 wd, .slice B al bc, .int .i64 v] 61) = W1 at *
  have qx0 : ∀ z : Aft W1, z.val.cell? x = some (.int .i64 av) := fun z => by
    have := ((z.below hb1 hb1.size).cell (p := x.add 0) (by rw [addB]; exact lx)).trans (cx 0 _ rfl)
    exact this
  have qx1 : ∀ z : Aft W1, z.val.cell? ⟨x.block, x.off + 1, none⟩ = some (.int .i64 bv) := fun z => by
    have := ((z.below hb1 hb1.size).cell (p := x.add 1) (by rw [addB]; exact lx)).trans (cx 1 _ rfl)
    exact this
  have qy0 : ∀ z : Aft W1, z.val.cell? y = some (.int .i64 aw) := fun z => by
    have := ((z.below hb1 hb1.size).cell (p := y.add 0) (by rw [addB]; exact ly)).trans (cy 0 _ rfl)
    exact this
  have qy1 : ∀ z : Aft W1, z.val.cell? ⟨y.block, y.off + 1, none⟩ = some (.int .i64 bw) := fun z => by
    have := ((z.below hb1 hb1.size).cell (p := y.add 1) (by rw [addB]; exact ly)).trans (cy 1 _ rfl)
    exact this
  have n0 : ∀ z : Aft W1, z.val.cell? ⟨w.heap.size, 0, none⟩ = some (.int .i64 6) := fun z => by
    have := cell_block (i := 0) (heap_aft z (lt_of_get rn) rn); simpa using this
  have n1 : ∀ z : Aft W1, z.val.cell? ⟨w.heap.size, 1, none⟩ = some (.int .i64 wd) := fun z => by
    have := cell_block (i := 1) (heap_aft z (lt_of_get rn) rn); simpa using this
  have n3 : ∀ z : Aft W1, z.val.cell? ⟨w.heap.size, 3, none⟩ = some (.int .i64 v) := fun z => by
    have := cell_block (i := 3) (heap_aft z (lt_of_get rn) rn); simpa using this
  have m0 := n0 ⟨W1, Below.refl _ _⟩
  have m1 := n1 ⟨W1, Below.refl _ _⟩
  have m3 := n3 ⟨W1, Below.refl _ _⟩
  have px0 := qx0 ⟨W1, Below.refl _ _⟩
  have px1 := qx1 ⟨W1, Below.refl _ _⟩
  have py0 := qy0 ⟨W1, Below.refl _ _⟩
  have py1 := qy1 ⟨W1, Below.refl _ _⟩
  clear cx cy rn
  have HB1 := Lib.hid hb1
  clear hb1
  go_wp2_with (go_at_call 78; refine (Power_c _ (by omega) (by omega) _).mono ?_; rintro e w' ⟨rfl, rfl⟩)
  refine wp_region_aft (by kernel_rfl) (by kernel_rfl) ?_
  repeat (go_big_quiet_step (first | (go_at_call 78; exact Calls.qs (Power_c _ (by omega) (by omega) _)) | (go_at_call 79; exact Calls.qs (baseBit_c _ _)) | (go_at_call 80; exact Calls.qs (baseSigned_c _ _ (by omega) (by omega) (by omega) (by omega) _))))
  refine wpQuiet_nil ?_
  intro z
  go_wp2
  go_ret
  exact ⟨retI (by first | rfl | (simp [apG]; done)), Below.aft (z.below HB1.out HB1.out.size)⟩

set_option maxRecDepth 100000 in
set_option maxHeartbeats 1600000 in
theorem ap_7 (wd v av bv cv aw bw cw : Int) (w1 : 1 ≤ wd) (w2 : wd ≤ 16) (a0 : 0 ≤ av) (a1 : av ≤ 65536) (b0 : 0 ≤ bv) (b1 : bv ≤ 65536) (B : Option Addr) (al bc : Nat) (Aa : Option Addr) (ca : Nat) (Wa : Option Addr) (cwa : Nat) (V : Option Addr) (nv cv2 : Nat) (w : World) (hA : LiesI w Aa [av, bv]) (hW : LiesI w Wa [aw, bw]) (h7b : bv < pw wd) :
    Calls Tryz.prog 42 #[.agg #[.int .i64 7, .int .i64 wd, .slice B al bc, .int .i64 v], .slice Aa 2 ca, .slice Wa 2 cwa, .slice V nv cv2] w fun e w' => e = .returned (.int .i64 (apG 7 wd v aw av bw bv cv)) ∧ ∃ x : Aft w, w' = x.val := by
  obtain ⟨x, rfl, lx, cx⟩ := hA (by simp)
  obtain ⟨y, rfl, ly, cy⟩ := hW (by simp)
  have hp := pw_bd (n := wd) (by omega) w2
  go_enter Tryz.func42, Tryz.ntmps42
  go_upto_region 1 with (fail)
  have hb1 := (Below.refl w.heap.size w).alloc (Nat.le_refl _) (.cells #[.int .i64 7, .int .i64 wd, .slice B al bc, .int .i64 v] 61)
  have rn : (w.alloc (.cells #[.int .i64 7, .int .i64 wd, .slice B al bc, .int .i64 v] 61)).heap[w.heap.size]? = some (.cells #[.int .i64 7, .int .i64 wd, .slice B al bc, .int .i64 v] 61) := heap_alloc_new _ _
  generalize w.alloc (.cells #[.int .i64 7, .int .i64 wd, .slice B al bc, .int .i64 v] 61) = W1 at *
  have qx0 : ∀ z : Aft W1, z.val.cell? x = some (.int .i64 av) := fun z => by
    have := ((z.below hb1 hb1.size).cell (p := x.add 0) (by rw [addB]; exact lx)).trans (cx 0 _ rfl)
    exact this
  have qx1 : ∀ z : Aft W1, z.val.cell? ⟨x.block, x.off + 1, none⟩ = some (.int .i64 bv) := fun z => by
    have := ((z.below hb1 hb1.size).cell (p := x.add 1) (by rw [addB]; exact lx)).trans (cx 1 _ rfl)
    exact this
  have qy0 : ∀ z : Aft W1, z.val.cell? y = some (.int .i64 aw) := fun z => by
    have := ((z.below hb1 hb1.size).cell (p := y.add 0) (by rw [addB]; exact ly)).trans (cy 0 _ rfl)
    exact this
  have qy1 : ∀ z : Aft W1, z.val.cell? ⟨y.block, y.off + 1, none⟩ = some (.int .i64 bw) := fun z => by
    have := ((z.below hb1 hb1.size).cell (p := y.add 1) (by rw [addB]; exact ly)).trans (cy 1 _ rfl)
    exact this
  have n0 : ∀ z : Aft W1, z.val.cell? ⟨w.heap.size, 0, none⟩ = some (.int .i64 7) := fun z => by
    have := cell_block (i := 0) (heap_aft z (lt_of_get rn) rn); simpa using this
  have n1 : ∀ z : Aft W1, z.val.cell? ⟨w.heap.size, 1, none⟩ = some (.int .i64 wd) := fun z => by
    have := cell_block (i := 1) (heap_aft z (lt_of_get rn) rn); simpa using this
  have n3 : ∀ z : Aft W1, z.val.cell? ⟨w.heap.size, 3, none⟩ = some (.int .i64 v) := fun z => by
    have := cell_block (i := 3) (heap_aft z (lt_of_get rn) rn); simpa using this
  have m0 := n0 ⟨W1, Below.refl _ _⟩
  have m1 := n1 ⟨W1, Below.refl _ _⟩
  have m3 := n3 ⟨W1, Below.refl _ _⟩
  have px0 := qx0 ⟨W1, Below.refl _ _⟩
  have px1 := qx1 ⟨W1, Below.refl _ _⟩
  have py0 := qy0 ⟨W1, Below.refl _ _⟩
  have py1 := qy1 ⟨W1, Below.refl _ _⟩
  clear cx cy rn
  have HB1 := Lib.hid hb1
  clear hb1
  have h7 : 0 ≤ av - bv + pw wd := by omega
  go_wp2_with (go_at_call 78; refine (Power_c _ (by omega) (by omega) _).mono ?_; rintro e w' ⟨rfl, rfl⟩)
  refine wp_region_aft (by kernel_rfl) (by kernel_rfl) ?_
  repeat (go_big_quiet_step (first | (go_at_call 78; exact Calls.qs (Power_c _ (by omega) (by omega) _)) | (go_at_call 79; exact Calls.qs (baseBit_c _ _)) | (go_at_call 80; exact Calls.qs (baseSigned_c _ _ (by omega) (by omega) (by omega) (by omega) _))))
  refine wpQuiet_nil ?_
  intro z
  go_wp2
  go_ret
  exact ⟨retI (by first | rfl | (simp [apG]; done)), Below.aft (z.below HB1.out HB1.out.size)⟩

set_option maxRecDepth 100000 in
set_option maxHeartbeats 1600000 in
theorem ap_8 (wd v av bv cv aw bw cw : Int) (w1 : 1 ≤ wd) (w2 : wd ≤ 16) (a0 : 0 ≤ av) (a1 : av ≤ 65536) (b0 : 0 ≤ bv) (b1 : bv ≤ 65536) (B : Option Addr) (al bc : Nat) (Aa : Option Addr) (ca : Nat) (Wa : Option Addr) (cwa : Nat) (V : Option Addr) (nv cv2 : Nat) (w : World) (hA : LiesI w Aa [av, bv]) (hW : LiesI w Wa [aw, bw]) :
    Calls Tryz.prog 42 #[.agg #[.int .i64 8, .int .i64 wd, .slice B al bc, .int .i64 v], .slice Aa 2 ca, .slice Wa 2 cwa, .slice V nv cv2] w fun e w' => e = .returned (.int .i64 (apG 8 wd v aw av bw bv cv)) ∧ ∃ x : Aft w, w' = x.val := by
  obtain ⟨x, rfl, lx, cx⟩ := hA (by simp)
  obtain ⟨y, rfl, ly, cy⟩ := hW (by simp)
  have hp := pw_bd (n := wd) (by omega) w2
  go_enter Tryz.func42, Tryz.ntmps42
  go_upto_region 1 with (fail)
  have hb1 := (Below.refl w.heap.size w).alloc (Nat.le_refl _) (.cells #[.int .i64 8, .int .i64 wd, .slice B al bc, .int .i64 v] 61)
  have rn : (w.alloc (.cells #[.int .i64 8, .int .i64 wd, .slice B al bc, .int .i64 v] 61)).heap[w.heap.size]? = some (.cells #[.int .i64 8, .int .i64 wd, .slice B al bc, .int .i64 v] 61) := heap_alloc_new _ _
  generalize w.alloc (.cells #[.int .i64 8, .int .i64 wd, .slice B al bc, .int .i64 v] 61) = W1 at *
  have qx0 : ∀ z : Aft W1, z.val.cell? x = some (.int .i64 av) := fun z => by
    have := ((z.below hb1 hb1.size).cell (p := x.add 0) (by rw [addB]; exact lx)).trans (cx 0 _ rfl)
    exact this
  have qx1 : ∀ z : Aft W1, z.val.cell? ⟨x.block, x.off + 1, none⟩ = some (.int .i64 bv) := fun z => by
    have := ((z.below hb1 hb1.size).cell (p := x.add 1) (by rw [addB]; exact lx)).trans (cx 1 _ rfl)
    exact this
  have qy0 : ∀ z : Aft W1, z.val.cell? y = some (.int .i64 aw) := fun z => by
    have := ((z.below hb1 hb1.size).cell (p := y.add 0) (by rw [addB]; exact ly)).trans (cy 0 _ rfl)
    exact this
  have qy1 : ∀ z : Aft W1, z.val.cell? ⟨y.block, y.off + 1, none⟩ = some (.int .i64 bw) := fun z => by
    have := ((z.below hb1 hb1.size).cell (p := y.add 1) (by rw [addB]; exact ly)).trans (cy 1 _ rfl)
    exact this
  have n0 : ∀ z : Aft W1, z.val.cell? ⟨w.heap.size, 0, none⟩ = some (.int .i64 8) := fun z => by
    have := cell_block (i := 0) (heap_aft z (lt_of_get rn) rn); simpa using this
  have n1 : ∀ z : Aft W1, z.val.cell? ⟨w.heap.size, 1, none⟩ = some (.int .i64 wd) := fun z => by
    have := cell_block (i := 1) (heap_aft z (lt_of_get rn) rn); simpa using this
  have n3 : ∀ z : Aft W1, z.val.cell? ⟨w.heap.size, 3, none⟩ = some (.int .i64 v) := fun z => by
    have := cell_block (i := 3) (heap_aft z (lt_of_get rn) rn); simpa using this
  have m0 := n0 ⟨W1, Below.refl _ _⟩
  have m1 := n1 ⟨W1, Below.refl _ _⟩
  have m3 := n3 ⟨W1, Below.refl _ _⟩
  have px0 := qx0 ⟨W1, Below.refl _ _⟩
  have px1 := qx1 ⟨W1, Below.refl _ _⟩
  have py0 := qy0 ⟨W1, Below.refl _ _⟩
  have py1 := qy1 ⟨W1, Below.refl _ _⟩
  clear cx cy rn
  have HB1 := Lib.hid hb1
  clear hb1
  have hml := mulS a0 a1 b0 b1
  go_wp2_with (go_at_call 78; refine (Power_c _ (by omega) (by omega) _).mono ?_; rintro e w' ⟨rfl, rfl⟩)
  refine wp_region_aft (by kernel_rfl) (by kernel_rfl) ?_
  repeat (go_big_quiet_step (first | (go_at_call 78; exact Calls.qs (Power_c _ (by omega) (by omega) _)) | (go_at_call 79; exact Calls.qs (baseBit_c _ _)) | (go_at_call 80; exact Calls.qs (baseSigned_c _ _ (by omega) (by omega) (by omega) (by omega) _))))
  refine wpQuiet_nil ?_
  intro z
  go_wp2
  go_ret
  exact ⟨retI (by first | rfl | (simp [apG]; done)), Below.aft (z.below HB1.out HB1.out.size)⟩

set_option maxRecDepth 100000 in
set_option maxHeartbeats 1600000 in
theorem ap_9 (wd v av bv cv aw bw cw : Int) (w1 : 1 ≤ wd) (w2 : wd ≤ 16) (a0 : 0 ≤ av) (a1 : av ≤ 65536) (b0 : 0 ≤ bv) (b1 : bv ≤ 65536) (B : Option Addr) (al bc : Nat) (Aa : Option Addr) (ca : Nat) (Wa : Option Addr) (cwa : Nat) (V : Option Addr) (nv cv2 : Nat) (w : World) (hA : LiesI w Aa [av, bv]) (hW : LiesI w Wa [aw, bw]) :
    Calls Tryz.prog 42 #[.agg #[.int .i64 9, .int .i64 wd, .slice B al bc, .int .i64 v], .slice Aa 2 ca, .slice Wa 2 cwa, .slice V nv cv2] w fun e w' => e = .returned (.int .i64 (apG 9 wd v aw av bw bv cv)) ∧ ∃ x : Aft w, w' = x.val := by
  obtain ⟨x, rfl, lx, cx⟩ := hA (by simp)
  obtain ⟨y, rfl, ly, cy⟩ := hW (by simp)
  have hp := pw_bd (n := wd) (by omega) w2
  go_enter Tryz.func42, Tryz.ntmps42
  go_upto_region 1 with (fail)
  have hb1 := (Below.refl w.heap.size w).alloc (Nat.le_refl _) (.cells #[.int .i64 9, .int .i64 wd, .slice B al bc, .int .i64 v] 61)
  have rn : (w.alloc (.cells #[.int .i64 9, .int .i64 wd, .slice B al bc, .int .i64 v] 61)).heap[w.heap.size]? = some (.cells #[.int .i64 9, .int .i64 wd, .slice B al bc, .int .i64 v] 61) := heap_alloc_new _ _
  generalize w.alloc (.cells #[.int .i64 9, .int .i64 wd, .slice B al bc, .int .i64 v] 61) = W1 at *
  have qx0 : ∀ z : Aft W1, z.val.cell? x = some (.int .i64 av) := fun z => by
    have := ((z.below hb1 hb1.size).cell (p := x.add 0) (by rw [addB]; exact lx)).trans (cx 0 _ rfl)
    exact this
  have qx1 : ∀ z : Aft W1, z.val.cell? ⟨x.block, x.off + 1, none⟩ = some (.int .i64 bv) := fun z => by
    have := ((z.below hb1 hb1.size).cell (p := x.add 1) (by rw [addB]; exact lx)).trans (cx 1 _ rfl)
    exact this
  have qy0 : ∀ z : Aft W1, z.val.cell? y = some (.int .i64 aw) := fun z => by
    have := ((z.below hb1 hb1.size).cell (p := y.add 0) (by rw [addB]; exact ly)).trans (cy 0 _ rfl)
    exact this
  have qy1 : ∀ z : Aft W1, z.val.cell? ⟨y.block, y.off + 1, none⟩ = some (.int .i64 bw) := fun z => by
    have := ((z.below hb1 hb1.size).cell (p := y.add 1) (by rw [addB]; exact ly)).trans (cy 1 _ rfl)
    exact this
  have n0 : ∀ z : Aft W1, z.val.cell? ⟨w.heap.size, 0, none⟩ = some (.int .i64 9) := fun z => by
    have := cell_block (i := 0) (heap_aft z (lt_of_get rn) rn); simpa using this
  have n1 : ∀ z : Aft W1, z.val.cell? ⟨w.heap.size, 1, none⟩ = some (.int .i64 wd) := fun z => by
    have := cell_block (i := 1) (heap_aft z (lt_of_get rn) rn); simpa using this
  have n3 : ∀ z : Aft W1, z.val.cell? ⟨w.heap.size, 3, none⟩ = some (.int .i64 v) := fun z => by
    have := cell_block (i := 3) (heap_aft z (lt_of_get rn) rn); simpa using this
  have m0 := n0 ⟨W1, Below.refl _ _⟩
  have m1 := n1 ⟨W1, Below.refl _ _⟩
  have m3 := n3 ⟨W1, Below.refl _ _⟩
  have px0 := qx0 ⟨W1, Below.refl _ _⟩
  have px1 := qx1 ⟨W1, Below.refl _ _⟩
  have py0 := qy0 ⟨W1, Below.refl _ _⟩
  have py1 := qy1 ⟨W1, Below.refl _ _⟩
  clear cx cy rn
  have HB1 := Lib.hid hb1
  clear hb1
  go_wp2_with (go_at_call 78; refine (Power_c _ (by omega) (by omega) _).mono ?_; rintro e w' ⟨rfl, rfl⟩)
  refine wp_region_aft (by kernel_rfl) (by kernel_rfl) ?_
  repeat (go_big_quiet_step (first | (go_at_call 78; exact Calls.qs (Power_c _ (by omega) (by omega) _)) | (go_at_call 79; exact Calls.qs (baseBit_c _ _)) | (go_at_call 80; exact Calls.qs (baseSigned_c _ _ (by omega) (by omega) (by omega) (by omega) _))))
  refine wpQuiet_nil ?_
  intro z
  go_wp2
  go_ret
  exact ⟨retI (by first | rfl | (simp [apG]; done)), Below.aft (z.below HB1.out HB1.out.size)⟩

set_option maxRecDepth 100000 in
set_option maxHeartbeats 1600000 in
theorem ap_10 (wd v av bv cv aw bw cw : Int) (w1 : 1 ≤ wd) (w2 : wd ≤ 16) (a0 : 0 ≤ av) (a1 : av ≤ 65536) (b0 : 0 ≤ bv) (b1 : bv ≤ 65536) (B : Option Addr) (al bc : Nat) (Aa : Option Addr) (ca : Nat) (Wa : Option Addr) (cwa : Nat) (V : Option Addr) (nv cv2 : Nat) (w : World) (hA : LiesI w Aa [av, bv]) (hW : LiesI w Wa [aw, bw]) :
    Calls Tryz.prog 42 #[.agg #[.int .i64 10, .int .i64 wd, .slice B al bc, .int .i64 v], .slice Aa 2 ca, .slice Wa 2 cwa, .slice V nv cv2] w fun e w' => e = .returned (.int .i64 (apG 10 wd v aw av bw bv cv)) ∧ ∃ x : Aft w, w' = x.val := by
  obtain ⟨x, rfl, lx, cx⟩ := hA (by simp)
  obtain ⟨y, rfl, ly, cy⟩ := hW (by simp)
  have hp := pw_bd (n := wd) (by omega) w2
  go_enter Tryz.func42, Tryz.ntmps42
  go_upto_region 1 with (fail)
  have hb1 := (Below.refl w.heap.size w).alloc (Nat.le_refl _) (.cells #[.int .i64 10, .int .i64 wd, .slice B al bc, .int .i64 v] 61)
  have rn : (w.alloc (.cells #[.int .i64 10, .int .i64 wd, .slice B al bc, .int .i64 v] 61)).heap[w.heap.size]? = some (.cells #[.int .i64 10, .int .i64 wd, .slice B al bc, .int .i64 v] 61) := heap_alloc_new _ _
  generalize w.alloc (.cells #[.int .i64 10, .int .i64 wd, .slice B al bc, .int .i64 v] 61) = W1 at *
  have qx0 : ∀ z : Aft W1, z.val.cell? x = some (.int .i64 av) := fun z => by
    have := ((z.below hb1 hb1.size).cell (p := x.add 0) (by rw [addB]; exact lx)).trans (cx 0 _ rfl)
    exact this
  have qx1 : ∀ z : Aft W1, z.val.cell? ⟨x.block, x.off + 1, none⟩ = some (.int .i64 bv) := fun z => by
    have := ((z.below hb1 hb1.size).cell (p := x.add 1) (by rw [addB]; exact lx)).trans (cx 1 _ rfl)
    exact this
  have qy0 : ∀ z : Aft W1, z.val.cell? y = some (.int .i64 aw) := fun z => by
    have := ((z.below hb1 hb1.size).cell (p := y.add 0) (by rw [addB]; exact ly)).trans (cy 0 _ rfl)
    exact this
  have qy1 : ∀ z : Aft W1, z.val.cell? ⟨y.block, y.off + 1, none⟩ = some (.int .i64 bw) := fun z => by
    have := ((z.below hb1 hb1.size).cell (p := y.add 1) (by rw [addB]; exact ly)).trans (cy 1 _ rfl)
    exact this
  have n0 : ∀ z : Aft W1, z.val.cell? ⟨w.heap.size, 0, none⟩ = some (.int .i64 10) := fun z => by
    have := cell_block (i := 0) (heap_aft z (lt_of_get rn) rn); simpa using this
  have n1 : ∀ z : Aft W1, z.val.cell? ⟨w.heap.size, 1, none⟩ = some (.int .i64 wd) := fun z => by
    have := cell_block (i := 1) (heap_aft z (lt_of_get rn) rn); simpa using this
  have n3 : ∀ z : Aft W1, z.val.cell? ⟨w.heap.size, 3, none⟩ = some (.int .i64 v) := fun z => by
    have := cell_block (i := 3) (heap_aft z (lt_of_get rn) rn); simpa using this
  have m0 := n0 ⟨W1, Below.refl _ _⟩
  have m1 := n1 ⟨W1, Below.refl _ _⟩
  have m3 := n3 ⟨W1, Below.refl _ _⟩
  have px0 := qx0 ⟨W1, Below.refl _ _⟩
  have px1 := qx1 ⟨W1, Below.refl _ _⟩
  have py0 := qy0 ⟨W1, Below.refl _ _⟩
  have py1 := qy1 ⟨W1, Below.refl _ _⟩
  clear cx cy rn
  have HB1 := Lib.hid hb1
  clear hb1
  go_wp2_with (go_at_call 78; refine (Power_c _ (by omega) (by omega) _).mono ?_; rintro e w' ⟨rfl, rfl⟩)
  refine wp_region_aft (by kernel_rfl) (by kernel_rfl) ?_
  repeat (go_big_quiet_step (first | (go_at_call 78; exact Calls.qs (Power_c _ (by omega) (by omega) _)) | (go_at_call 79; exact Calls.qs (baseBit_c _ _)) | (go_at_call 80; exact Calls.qs (baseSigned_c _ _ (by omega) (by omega) (by omega) (by omega) _))))
  refine wpQuiet_nil ?_
  intro z
  go_wp2
  go_ret
  exact ⟨retI (by first | rfl | (simp [apG]; done)), Below.aft (z.below HB1.out HB1.out.size)⟩

set_option maxRecDepth 100000 in
set_option maxHeartbeats 1600000 in
theorem ap_11 (wd v av bv cv aw bw cw : Int) (w1 : 1 ≤ wd) (w2 : wd ≤ 16) (a0 : 0 ≤ av) (a1 : av ≤ 65536) (b0 : 0 ≤ bv) (b1 : bv ≤ 65536) (B : Option Addr) (al bc : Nat) (Aa : Option Addr) (ca : Nat) (Wa : Option Addr) (cwa : Nat) (V : Option Addr) (nv cv2 : Nat) (w : World) (hA : LiesI w Aa [av, bv]) (hW : LiesI w Wa [aw, bw]) (aw1 : 1 ≤ aw) (aw2 : aw ≤ 16) (bw1 : 1 ≤ bw) (bw2 : bw ≤ 16) :
    Calls Tryz.prog 42 #[.agg #[.int .i64 11, .int .i64 wd, .slice B al bc, .int .i64 v], .slice Aa 2 ca, .slice Wa 2 cwa, .slice V nv cv2] w fun e w' => e = .returned (.int .i64 (apG 11 wd v aw av bw bv cv)) ∧ ∃ x : Aft w, w' = x.val := by
  obtain ⟨x, rfl, lx, cx⟩ := hA (by simp)
  obtain ⟨y, rfl, ly, cy⟩ := hW (by simp)
  have hp := pw_bd (n := wd) (by omega) w2
  go_enter Tryz.func42, Tryz.ntmps42
  go_upto_region 1 with (fail)
  have hb1 := (Below.refl w.heap.size w).alloc (Nat.le_refl _) (.cells #[.int .i64 11, .int .i64 wd, .slice B al bc, .int .i64 v] 61)
  have rn : (w.alloc (.cells #[.int .i64 11, .int .i64 wd, .slice B al bc, .int .i64 v] 61)).heap[w.heap.size]? = some (.cells #[.int .i64 11, .int .i64 wd, .slice B al bc, .int .i64 v] 61) := heap_alloc_new _ _
  generalize w.alloc (.cells #[.int .i64 11, .int .i64 wd, .slice B al bc, .int .i64 v] 61) = W1 at *
  have qx0 : ∀ z : Aft W1, z.val.cell? x = some (.int .i64 av) := fun z => by
    have := ((z.below hb1 hb1.size).cell (p := x.add 0) (by rw [addB]; exact lx)).trans (cx 0 _ rfl)
    exact this
  have qx1 : ∀ z : Aft W1, z.val.cell? ⟨x.block, x.off + 1, none⟩ = some (.int .i64 bv) := fun z => by
    have := ((z.below hb1 hb1.size).cell (p := x.add 1) (by rw [addB]; exact lx)).trans (cx 1 _ rfl)
    exact this
  have qy0 : ∀ z : Aft W1, z.val.cell? y = some (.int .i64 aw) := fun z => by
    have := ((z.below hb1 hb1.size).cell (p := y.add 0) (by rw [addB]; exact ly)).trans (cy 0 _ rfl)
    exact this
  have qy1 : ∀ z : Aft W1, z.val.cell? ⟨y.block, y.off + 1, none⟩ = some (.int .i64 bw) := fun z => by
    have := ((z.below hb1 hb1.size).cell (p := y.add 1) (by rw [addB]; exact ly)).trans (cy 1 _ rfl)
    exact this
  have n0 : ∀ z : Aft W1, z.val.cell? ⟨w.heap.size, 0, none⟩ = some (.int .i64 11) := fun z => by
    have := cell_block (i := 0) (heap_aft z (lt_of_get rn) rn); simpa using this
  have n1 : ∀ z : Aft W1, z.val.cell? ⟨w.heap.size, 1, none⟩ = some (.int .i64 wd) := fun z => by
    have := cell_block (i := 1) (heap_aft z (lt_of_get rn) rn); simpa using this
  have n3 : ∀ z : Aft W1, z.val.cell? ⟨w.heap.size, 3, none⟩ = some (.int .i64 v) := fun z => by
    have := cell_block (i := 3) (heap_aft z (lt_of_get rn) rn); simpa using this
  have m0 := n0 ⟨W1, Below.refl _ _⟩
  have m1 := n1 ⟨W1, Below.refl _ _⟩
  have m3 := n3 ⟨W1, Below.refl _ _⟩
  have px0 := qx0 ⟨W1, Below.refl _ _⟩
  have px1 := qx1 ⟨W1, Below.refl _ _⟩
  have py0 := qy0 ⟨W1, Below.refl _ _⟩
  have py1 := qy1 ⟨W1, Below.refl _ _⟩
  clear cx cy rn
  have HB1 := Lib.hid hb1
  clear hb1
  have hpa := pw_bd (n := aw) (by omega) aw2
  have hpb := pw_bd (n := bw) (by omega) bw2
  go_wp2_with (go_at_call 78; refine (Power_c _ (by omega) (by omega) _).mono ?_; rintro e w' ⟨rfl, rfl⟩)
  refine wp_region_aft (by kernel_rfl) (by kernel_rfl) ?_
  repeat (go_big_quiet_step (first | (go_at_call 78; exact Calls.qs (Power_c _ (by omega) (by omega) _)) | (go_at_call 79; exact Calls.qs (baseBit_c _ _)) | (go_at_call 80; exact Calls.qs (baseSigned_c _ _ (by omega) (by omega) (by omega) (by omega) _))))
  refine wpQuiet_nil ?_
  intro z
  go_wp2
  go_ret
  exact ⟨retI (by first | rfl | (simp [apG]; done)), Below.aft (z.below HB1.out HB1.out.size)⟩

set_option maxRecDepth 100000 in
set_option maxHeartbeats 1600000 in
theorem ap_12 (wd v av bv cv aw bw cw : Int) (w1 : 1 ≤ wd) (w2 : wd ≤ 16) (a0 : 0 ≤ av) (a1 : av ≤ 65536) (b0 : 0 ≤ bv) (b1 : bv ≤ 65536) (B : Option Addr) (al bc : Nat) (Aa : Option Addr) (ca : Nat) (Wa : Option Addr) (cwa : Nat) (V : Option Addr) (nv cv2 : Nat) (w : World) (hA : LiesI w Aa [av, bv, cv]) (hW : LiesI w Wa [aw, bw, cw]) :
    Calls Tryz.prog 42 #[.agg #[.int .i64 12, .int .i64 wd, .slice B al bc, .int .i64 v], .slice Aa 3 ca, .slice Wa 3 cwa, .slice V nv cv2] w fun e w' => e = .returned (.int .i64 (apG 12 wd v aw av bw bv cv)) ∧ ∃ x : Aft w, w' = x.val := by
  obtain ⟨x, rfl, lx, cx⟩ := hA (by simp)
  obtain ⟨y, rfl, ly, cy⟩ := hW (by simp)
  have hp := pw_bd (n := wd) (by omega) w2
  go_enter Tryz.func42, Tryz.ntmps42
  go_upto_region 1 with (fail)
  have hb1 := (Below.refl w.heap.size w).alloc (Nat.le_refl _) (.cells #[.int .i64 12, .int .i64 wd, .slice B al bc, .int .i64 v] 61)
  have rn : (w.alloc (.cells #[.int .i64 12, .int .i64 wd, .slice B al bc, .int .i64 v] 61)).heap[w.heap.size]? = some (.cells #[.int .i64 12, .int .i64 wd, .slice B al bc, .int .i64 v] 61) := heap_alloc_new _ _
  generalize w.alloc (.cells #[.int .i64 12, .int .i64 wd, .slice B al bc, .int .i64 v] 61) = W1 at *
  have qx0 : ∀ z : Aft W1, z.val.cell? x = some (.int .i64 av) := fun z => by
    have := ((z.below hb1 hb1.size).cell (p := x.add 0) (by rw [addB]; exact lx)).trans (cx 0 _ rfl)
    exact this
  have qx1 : ∀ z : Aft W1, z.val.cell? ⟨x.block, x.off + 1, none⟩ = some (.int .i64 bv) := fun z => by
    have := ((z.below hb1 hb1.size).cell (p := x.add 1) (by rw [addB]; exact lx)).trans (cx 1 _ rfl)
    exact this
  have qx2 : ∀ z : Aft W1, z.val.cell? ⟨x.block, x.off + 2, none⟩ = some (.int .i64 cv) := fun z => by
    have := ((z.below hb1 hb1.size).cell (p := x.add 2) (by rw [addB]; exact lx)).trans (cx 2 _ rfl)
    exact this
  have qy0 : ∀ z : Aft W1, z.val.cell? y = some (.int .i64 aw) := fun z => by
    have := ((z.below hb1 hb1.size).cell (p := y.add 0) (by rw [addB]; exact ly)).trans (cy 0 _ rfl)
    exact this
  have qy1 : ∀ z : Aft W1, z.val.cell? ⟨y.block, y.off + 1, none⟩ = some (.int .i64 bw) := fun z => by
    have := ((z.below hb1 hb1.size).cell (p := y.add 1) (by rw [addB]; exact ly)).trans (cy 1 _ rfl)
    exact this
  have qy2 : ∀ z : Aft W1, z.val.cell? ⟨y.block, y.off + 2, none⟩ = some (.int .i64 cw) := fun z => by
    have := ((z.below hb1 hb1.size).cell (p := y.add 2) (by rw [addB]; exact ly)).trans (cy 2 _ rfl)
    exact this
  have n0 : ∀ z : Aft W1, z.val.cell? ⟨w.heap.size, 0, none⟩ = some (.int .i64 12) := fun z => by
    have := cell_block (i := 0) (heap_aft z (lt_of_get rn) rn); simpa using this
  have n1 : ∀ z : Aft W1, z.val.cell? ⟨w.heap.size, 1, none⟩ = some (.int .i64 wd) := fun z => by
    have := cell_block (i := 1) (heap_aft z (lt_of_get rn) rn); simpa using this
  have n3 : ∀ z : Aft W1, z.val.cell? ⟨w.heap.size, 3, none⟩ = some (.int .i64 v) := fun z => by
    have := cell_block (i := 3) (heap_aft z (lt_of_get rn) rn); simpa using this
  have m0 := n0 ⟨W1, Below.refl _ _⟩
  have m1 := n1 ⟨W1, Below.refl _ _⟩
  have m3 := n3 ⟨W1, Below.refl _ _⟩
  have px0 := qx0 ⟨W1, Below.refl _ _⟩
  have px1 := qx1 ⟨W1, Below.refl _ _⟩
  have px2 := qx2 ⟨W1, Below.refl _ _⟩
  have py0 := qy0 ⟨W1, Below.refl _ _⟩
  have py1 := qy1 ⟨W1, Below.refl _ _⟩
  have py2 := qy2 ⟨W1, Below.refl _ _⟩
  clear cx cy rn
  have HB1 := Lib.hid hb1
  clear hb1
  by_cases h : av = 1
  · subst h
    have hR : apG 12 wd v aw 1 bw bv cv = bv := rfl
    go_wp2_with (go_at_call 78; refine (Power_c _ (by omega) (by omega) _).mono ?_; rintro e w' ⟨rfl, rfl⟩)
    go_ret
    exact ⟨retI hR.symm, Below.aft HB1.out⟩
  · have hn : (av == 1) = false := by simpa using h
    have hR : apG 12 wd v aw av bw bv cv = cv := by show muxG av bv cv = cv; exact if_neg h
    clear h
    go_wp2_with (go_at_call 78; refine (Power_c _ (by omega) (by omega) _).mono ?_; rintro e w' ⟨rfl, rfl⟩)
    go_ret
    exact ⟨retI hR.symm, Below.aft HB1.out⟩

set_option maxRecDepth 100000 in
set_option maxHeartbeats 1600000 in
theorem ap_13 (wd v av bv cv aw bw cw : Int) (w1 : 1 ≤ wd) (w2 : wd ≤ 16) (a0 : 0 ≤ av) (a1 : av ≤ 65536) (b0 : 0 ≤ bv) (b1 : bv ≤ 65536) (B : Option Addr) (al bc : Nat) (Aa : Option Addr) (ca : Nat) (Wa : Option Addr) (cwa : Nat) (V : Option Addr) (nv cv2 : Nat) (w : World) (hA : LiesI w Aa [av, bv]) (hW : LiesI w Wa [aw, bw]) (bw0 : 0 ≤ bw) (bw2 : bw ≤ 16) :
    Calls Tryz.prog 42 #[.agg #[.int .i64 13, .int .i64 wd, .slice B al bc, .int .i64 v], .slice Aa 2 ca, .slice Wa 2 cwa, .slice V nv cv2] w fun e w' => e = .returned (.int .i64 (apG 13 wd v aw av bw bv cv)) ∧ ∃ x : Aft w, w' = x.val := by
  obtain ⟨x, rfl, lx, cx⟩ := hA (by simp)
  obtain ⟨y, rfl, ly, cy⟩ := hW (by simp)
  have hp := pw_bd (n := wd) (by omega) w2
  go_enter Tryz.func42, Tryz.ntmps42
  go_upto_region 1 with (fail)
  have hb1 := (Below.refl w.heap.size w).alloc (Nat.le_refl _) (.cells #[.int .i64 13, .int .i64 wd, .slice B al bc, .int .i64 v] 61)
  have rn : (w.alloc (.cells #[.int .i64 13, .int .i64 wd, .slice B al bc, .int .i64 v] 61)).heap[w.heap.size]? = some (.cells #[.int .i64 13, .int .i64 wd, .slice B al bc, .int .i64 v] 61) := heap_alloc_new _ _
  generalize w.alloc (.cells #[.int .i64 13, .int .i64 wd, .slice B al bc, .int .i64 v] 61) = W1 at *
  have qx0 : ∀ z : Aft W1, z.val.cell? x = some (.int .i64 av) := fun z => by
    have := ((z.below hb1 hb1.size).cell (p := x.add 0) (by rw [addB]; exact lx)).trans (cx 0 _ rfl)
    exact this
  have qx1 : ∀ z : Aft W1, z.val.cell? ⟨x.block, x.off + 1, none⟩ = some (.int .i64 bv) := fun z => by
    have := ((z.below hb1 hb1.size).cell (p := x.add 1) (by rw [addB]; exact lx)).trans (cx 1 _ rfl)
    exact this
  have qy0 : ∀ z : Aft W1, z.val.cell? y = some (.int .i64 aw) := fun z => by
    have := ((z.below hb1 hb1.size).cell (p := y.add 0) (by rw [addB]; exact ly)).trans (cy 0 _ rfl)
    exact this
  have qy1 : ∀ z : Aft W1, z.val.cell? ⟨y.block, y.off + 1, none⟩ = some (.int .i64 bw) := fun z => by
    have := ((z.below hb1 hb1.size).cell (p := y.add 1) (by rw [addB]; exact ly)).trans (cy 1 _ rfl)
    exact this
  have n0 : ∀ z : Aft W1, z.val.cell? ⟨w.heap.size, 0, none⟩ = some (.int .i64 13) := fun z => by
    have := cell_block (i := 0) (heap_aft z (lt_of_get rn) rn); simpa using this
  have n1 : ∀ z : Aft W1, z.val.cell? ⟨w.heap.size, 1, none⟩ = some (.int .i64 wd) := fun z => by
    have := cell_block (i := 1) (heap_aft z (lt_of_get rn) rn); simpa using this
  have n3 : ∀ z : Aft W1, z.val.cell? ⟨w.heap.size, 3, none⟩ = some (.int .i64 v) := fun z => by
    have := cell_block (i := 3) (heap_aft z (lt_of_get rn) rn); simpa using this
  have m0 := n0 ⟨W1, Below.refl _ _⟩
  have m1 := n1 ⟨W1, Below.refl _ _⟩
  have m3 := n3 ⟨W1, Below.refl _ _⟩
  have px0 := qx0 ⟨W1, Below.refl _ _⟩
  have px1 := qx1 ⟨W1, Below.refl _ _⟩
  have py0 := qy0 ⟨W1, Below.refl _ _⟩
  have py1 := qy1 ⟨W1, Below.refl _ _⟩
  clear cx cy rn
  have HB1 := Lib.hid hb1
  clear hb1
  have hpb := pw_bd bw0 bw2
  have hml := mulS a0 a1 (by omega : 0 ≤ pw bw) (by omega)
  go_wp2_with (go_at_call 78; refine (Power_c _ (by omega) (by omega) _).mono ?_; rintro e w' ⟨rfl, rfl⟩)
  refine wp_region_aft (by kernel_rfl) (by kernel_rfl) ?_
  repeat (go_big_quiet_step (first | (go_at_call 78; exact Calls.qs (Power_c _ (by omega) (by omega) _)) | (go_at_call 79; exact Calls.qs (baseBit_c _ _)) | (go_at_call 80; exact Calls.qs (baseSigned_c _ _ (by omega) (by omega) (by omega) (by omega) _))))
  refine wpQuiet_nil ?_
  intro z
  go_wp2
  go_ret
  exact ⟨retI (by first | rfl | (simp [apG]; done)), Below.aft (z.below HB1.out HB1.out.size)⟩

set_option maxRecDepth 100000 in
set_option maxHeartbeats 1600000 in
theorem ap_14 (wd v av bv cv aw bw cw : Int) (w1 : 1 ≤ wd) (w2 : wd ≤ 16) (a0 : 0 ≤ av) (a1 : av ≤ 65536) (b0 : 0 ≤ bv) (b1 : bv ≤ 65536) (B : Option Addr) (al bc : Nat) (Aa : Option Addr) (ca : Nat) (Wa : Option Addr) (cwa : Nat) (V : Option Addr) (nv cv2 : Nat) (w : World) (hA : LiesI w Aa [av]) (hW : LiesI w Wa [aw]) (v0 : 0 ≤ v) (v1 : v ≤ 16) :
    Calls Tryz.prog 42 #[.agg #[.int .i64 14, .int .i64 wd, .slice B al bc, .int .i64 v], .slice Aa 1 ca, .slice Wa 1 cwa, .slice V nv cv2] w fun e w' => e = .returned (.int .i64 (apG 14 wd v aw av bw bv cv)) ∧ ∃ x : Aft w, w' = x.val := by
  obtain ⟨x, rfl, lx, cx⟩ := hA (by simp)
  obtain ⟨y, rfl, ly, cy⟩ := hW (by simp)
  have hp := pw_bd (n := wd) (by omega) w2
  go_enter Tryz.func42, Tryz.ntmps42
  go_upto_region 1 with (fail)
  have hb1 := (Below.refl w.heap.size w).alloc (Nat.le_refl _) (.cells #[.int .i64 14, .int .i64 wd, .slice B al bc, .int .i64 v] 61)
  have rn : (w.alloc (.cells #[.int .i64 14, .int .i64 wd, .slice B al bc, .int .i64 v] 61)).heap[w.heap.size]? = some (.cells #[.int .i64 14, .int .i64 wd, .slice B al bc, .int .i64 v] 61) := heap_alloc_new _ _
  generalize w.alloc (.cells #[.int .i64 14, .int .i64 wd, .slice B al bc, .int .i64 v] 61) = W1 at *
  have qx0 : ∀ z : Aft W1, z.val.cell? x = some (.int .i64 av) := fun z => by
    have := ((z.below hb1 hb1.size).cell (p := x.add 0) (by rw [addB]; exact lx)).trans (cx 0 _ rfl)
    exact this
  have qy0 : ∀ z : Aft W1, z.val.cell? y = some (.int .i64 aw) := fun z => by
    have := ((z.below hb1 hb1.size).cell (p := y.add 0) (by rw [addB]; exact ly)).trans (cy 0 _ rfl)
    exact this
  have n0 : ∀ z : Aft W1, z.val.cell? ⟨w.heap.size, 0, none⟩ = some (.int .i64 14) := fun z => by
    have := cell_block (i := 0) (heap_aft z (lt_of_get rn) rn); simpa using this
  have n1 : ∀ z : Aft W1, z.val.cell? ⟨w.heap.size, 1, none⟩ = some (.int .i64 wd) := fun z => by
    have := cell_block (i := 1) (heap_aft z (lt_of_get rn) rn); simpa using this
  have n3 : ∀ z : Aft W1, z.val.cell? ⟨w.heap.size, 3, none⟩ = some (.int .i64 v) := fun z => by
    have := cell_block (i := 3) (heap_aft z (lt_of_get rn) rn); simpa using this
  have m0 := n0 ⟨W1, Below.refl _ _⟩
  have m1 := n1 ⟨W1, Below.refl _ _⟩
  have m3 := n3 ⟨W1, Below.refl _ _⟩
  have px0 := qx0 ⟨W1, Below.refl _ _⟩
  have py0 := qy0 ⟨W1, Below.refl _ _⟩
  clear cx cy rn
  have HB1 := Lib.hid hb1
  clear hb1
  have hpv := pw_bd v0 v1
  have hdv := Int.ediv_nonneg a0 (by omega : 0 ≤ pw v)
  have hdl := Int.ediv_le_self (pw v) a0
  go_wp2_with (go_at_call 78; refine (Power_c _ (by omega) (by omega) _).mono ?_; rintro e w' ⟨rfl, rfl⟩)
  refine wp_region_aft (by kernel_rfl) (by kernel_rfl) ?_
  repeat (go_big_quiet_step (first | (go_at_call 78; exact Calls.qs (Power_c _ (by omega) (by omega) _)) | (go_at_call 79; exact Calls.qs (baseBit_c _ _)) | (go_at_call 80; exact Calls.qs (baseSigned_c _ _ (by omega) (by omega) (by omega) (by omega) _))))
  refine wpQuiet_nil ?_
  intro z
  go_wp2
  go_ret
  exact ⟨retI (by first | rfl | (simp [apG]; done)), Below.aft (z.below HB1.out HB1.out.size)⟩

set_option maxRecDepth 100000 in
set_option maxHeartbeats 1600000 in
theorem ap_15 (wd v av bv cv aw bw cw : Int) (w1 : 1 ≤ wd) (w2 : wd ≤ 16) (a0 : 0 ≤ av) (a1 : av ≤ 65536) (b0 : 0 ≤ bv) (b1 : bv ≤ 65536) (B : Option Addr) (al bc : Nat) (Aa : Option Addr) (ca : Nat) (Wa : Option Addr) (cwa : Nat) (V : Option Addr) (nv cv2 : Nat) (w : World) (hA : LiesI w Aa [av]) (hW : LiesI w Wa [aw]) :
    Calls Tryz.prog 42 #[.agg #[.int .i64 15, .int .i64 wd, .slice B al bc, .int .i64 v], .slice Aa 1 ca, .slice Wa 1 cwa, .slice V nv cv2] w fun e w' => e = .returned (.int .i64 (apG 15 wd v aw av bw bv cv)) ∧ ∃ x : Aft w, w' = x.val := by
  obtain ⟨x, rfl, lx, cx⟩ := hA (by simp)
  obtain ⟨y, rfl, ly, cy⟩ := hW (by simp)
  have hp := pw_bd (n := wd) (by omega) w2
  go_enter Tryz.func42, Tryz.ntmps42
  go_upto_region 1 with (fail)
  have hb1 := (Below.refl w.heap.size w).alloc (Nat.le_refl _) (.cells #[.int .i64 15, .int .i64 wd, .slice B al bc, .int .i64 v] 61)
  have rn : (w.alloc (.cells #[.int .i64 15, .int .i64 wd, .slice B al bc, .int .i64 v] 61)).heap[w.heap.size]? = some (.cells #[.int .i64 15, .int .i64 wd, .slice B al bc, .int .i64 v] 61) := heap_alloc_new _ _
  generalize w.alloc (.cells #[.int .i64 15, .int .i64 wd, .slice B al bc, .int .i64 v] 61) = W1 at *
  have qx0 : ∀ z : Aft W1, z.val.cell? x = some (.int .i64 av) := fun z => by
    have := ((z.below hb1 hb1.size).cell (p := x.add 0) (by rw [addB]; exact lx)).trans (cx 0 _ rfl)
    exact this
  have qy0 : ∀ z : Aft W1, z.val.cell? y = some (.int .i64 aw) := fun z => by
    have := ((z.below hb1 hb1.size).cell (p := y.add 0) (by rw [addB]; exact ly)).trans (cy 0 _ rfl)
    exact this
  have n0 : ∀ z : Aft W1, z.val.cell? ⟨w.heap.size, 0, none⟩ = some (.int .i64 15) := fun z => by
    have := cell_block (i := 0) (heap_aft z (lt_of_get rn) rn); simpa using this
  have n1 : ∀ z : Aft W1, z.val.cell? ⟨w.heap.size, 1, none⟩ = some (.int .i64 wd) := fun z => by
    have := cell_block (i := 1) (heap_aft z (lt_of_get rn) rn); simpa using this
  have n3 : ∀ z : Aft W1, z.val.cell? ⟨w.heap.size, 3, none⟩ = some (.int .i64 v) := fun z => by
    have := cell_block (i := 3) (heap_aft z (lt_of_get rn) rn); simpa using this
  have m0 := n0 ⟨W1, Below.refl _ _⟩
  have m1 := n1 ⟨W1, Below.refl _ _⟩
  have m3 := n3 ⟨W1, Below.refl _ _⟩
  have px0 := qx0 ⟨W1, Below.refl _ _⟩
  have py0 := qy0 ⟨W1, Below.refl _ _⟩
  clear cx cy rn
  have HB1 := Lib.hid hb1
  clear hb1
  go_wp2_with (go_at_call 78; refine (Power_c _ (by omega) (by omega) _).mono ?_; rintro e w' ⟨rfl, rfl⟩)
  go_ret
  exact ⟨retI (by first | rfl | (simp [apG]; done)), Below.aft HB1.out⟩

set_option maxRecDepth 100000 in
set_option maxHeartbeats 1600000 in
theorem ap_16 (wd v av bv cv aw bw cw : Int) (w1 : 1 ≤ wd) (w2 : wd ≤ 16) (a0 : 0 ≤ av) (a1 : av ≤ 65536) (b0 : 0 ≤ bv) (b1 : bv ≤ 65536) (B : Option Addr) (al bc : Nat) (Aa : Option Addr) (ca : Nat) (Wa : Option Addr) (cwa : Nat) (V : Option Addr) (nv cv2 : Nat) (w : World) (hA : LiesI w Aa [av]) (hW : LiesI w Wa [aw]) (aw1 : 1 ≤ aw) (aw2 : aw ≤ 16) (hle : pw aw ≤ pw wd) :
    Calls Tryz.prog 42 #[.agg #[.int .i64 16, .int .i64 wd, .slice B al bc, .int .i64 v], .slice Aa 1 ca, .slice Wa 1 cwa, .slice V nv cv2] w fun e w' => e = .returned (.int .i64 (apG 16 wd v aw av bw bv cv)) ∧ ∃ x : Aft w, w' = x.val := by
  obtain ⟨x, rfl, lx, cx⟩ := hA (by simp)
  obtain ⟨y, rfl, ly, cy⟩ := hW (by simp)
  have hp := pw_bd (n := wd) (by omega) w2
  go_enter Tryz.func42, Tryz.ntmps42
  go_upto_region 1 with (fail)
  have hb1 := (Below.refl w.heap.size w).alloc (Nat.le_refl _) (.cells #[.int .i64 16, .int .i64 wd, .slice B al bc, .int .i64 v] 61)
  have rn : (w.alloc (.cells #[.int .i64 16, .int .i64 wd, .slice B al bc, .int .i64 v] 61)).heap[w.heap.size]? = some (.cells #[.int .i64 16, .int .i64 wd, .slice B al bc, .int .i64 v] 61) := heap_alloc_new _ _
  generalize w.alloc (.cells #[.int .i64 16, .int .i64 wd, .slice B al bc, .int .i64 v] 61) = W1 at *
  have qx0 : ∀ z : Aft W1, z.val.cell? x = some (.int .i64 av) := fun z => by
    have := ((z.below hb1 hb1.size).cell (p := x.add 0) (by rw [addB]; exact lx)).trans (cx 0 _ rfl)
    exact this
  have qy0 : ∀ z : Aft W1, z.val.cell? y = some (.int .i64 aw) := fun z => by
    have := ((z.below hb1 hb1.size).cell (p := y.add 0) (by rw [addB]; exact ly)).trans (cy 0 _ rfl)
    exact this
  have n0 : ∀ z : Aft W1, z.val.cell? ⟨w.heap.size, 0, none⟩ = some (.int .i64 16) := fun z => by
    have := cell_block (i := 0) (heap_aft z (lt_of_get rn) rn); simpa using this
  have n1 : ∀ z : Aft W1, z.val.cell? ⟨w.heap.size, 1, none⟩ = some (.int .i64 wd) := fun z => by
    have := cell_block (i := 1) (heap_aft z (lt_of_get rn) rn); simpa using this
  have n3 : ∀ z : Aft W1, z.val.cell? ⟨w.heap.size, 3, none⟩ = some (.int .i64 v) := fun z => by
    have := cell_block (i := 3) (heap_aft z (lt_of_get rn) rn); simpa using this
  have m0 := n0 ⟨W1, Below.refl _ _⟩
  have m1 := n1 ⟨W1, Below.refl _ _⟩
  have m3 := n3 ⟨W1, Below.refl _ _⟩
  have px0 := qx0 ⟨W1, Below.refl _ _⟩
  have py0 := qy0 ⟨W1, Below.refl _ _⟩
  clear cx cy rn
  have HB1 := Lib.hid hb1
  clear hb1
  have hpa := pw_bd (n := aw) (by omega) aw2
  have hsg : 0 ≤ sgS aw av + pw wd := by unfold sgS; split <;> omega
  have hsh : sgS aw av ≤ 65536 := by unfold sgS; split <;> omega
  go_wp2_with (go_at_call 78; refine (Power_c _ (by omega) (by omega) _).mono ?_; rintro e w' ⟨rfl, rfl⟩)
  refine wp_region_aft (by kernel_rfl) (by kernel_rfl) ?_
  repeat (go_big_quiet_step (first | (go_at_call 78; exact Calls.qs (Power_c _ (by omega) (by omega) _)) | (go_at_call 79; exact Calls.qs (baseBit_c _ _)) | (go_at_call 80; exact Calls.qs (baseSigned_c _ _ (by omega) (by omega) (by omega) (by omega) _))))
  refine wpQuiet_nil ?_
  intro z
  go_wp2
  go_ret
  exact ⟨retI (by first | rfl | (simp [apG]; done)), Below.aft (z.below HB1.out HB1.out.size)⟩

set_option maxRecDepth 100000 in
set_option maxHeartbeats 1600000 in
theorem ap_17 (wd v av bv cv aw bw cw : Int) (w1 : 1 ≤ wd) (w2 : wd ≤ 16) (a0 : 0 ≤ av) (a1 : av ≤ 65536) (b0 : 0 ≤ bv) (b1 : bv ≤ 65536) (B : Option Addr) (al bc : Nat) (Aa : Option Addr) (ca : Nat) (Wa : Option Addr) (cwa : Nat) (V : Option Addr) (nv cv2 : Nat) (w : World) (hA : LiesI w Aa [av, bv]) (hW : LiesI w Wa [aw, bw]) :
    Calls Tryz.prog 42 #[.agg #[.int .i64 17, .int .i64 wd, .slice B al bc, .int .i64 v], .slice Aa 2 ca, .slice Wa 2 cwa, .slice V nv cv2] w fun e w' => e = .returned (.int .i64 (apG 17 wd v aw av bw bv cv)) ∧ ∃ x : Aft w, w' = x.val := by
  obtain ⟨x, rfl, lx, cx⟩ := hA (by simp)
  obtain ⟨y, rfl, ly, cy⟩ := hW (by simp)
  have hp := pw_bd (n := wd) (by omega) w2
  go_enter Tryz.func42, Tryz.ntmps42
  go_upto_region 1 with (fail)
  have hb1 := (Below.refl w.heap.size w).alloc (Nat.le_refl _) (.cells #[.int .i64 17, .int .i64 wd, .slice B al bc, .int .i64 v] 61)
  have rn : (w.alloc (.cells #[.int .i64 17, .int .i64 wd, .slice B al bc, .int .i64 v] 61)).heap[w.heap.size]? = some (.cells #[.int .i64 17, .int .i64 wd, .slice B al bc, .int .i64 v] 61) := heap_alloc_new _ _
  generalize w.alloc (.cells #[.int .i64 17, .int .i64 wd, .slice B al bc, .int .i64 v] 61) = W1 at *
  have qx0 : ∀ z : Aft W1, z.val.cell? x = some (.int .i64 av) := fun z => by
    have := ((z.below hb1 hb1.size).cell (p := x.add 0) (by rw [addB]; exact lx)).trans (cx 0 _ rfl)
    exact this
  have qx1 : ∀ z : Aft W1, z.val.cell? ⟨x.block, x.off + 1, none⟩ = some (.int .i64 bv) := fun z => by
    have := ((z.below hb1 hb1.size).cell (p := x.add 1) (by rw [addB]; exact lx)).trans (cx 1 _ rfl)
    exact this
  have qy0 : ∀ z : Aft W1, z.val.cell? y = some (.int .i64 aw) := fun z => by
    have := ((z.below hb1 hb1.size).cell (p := y.add 0) (by rw [addB]; exact ly)).trans (cy 0 _ rfl)
    exact this
  have qy1 : ∀ z : Aft W1, z.val.cell? ⟨y.block, y.off + 1, none⟩ = some (.int .i64 bw) := fun z => by
    have := ((z.below hb1 hb1.size).cell (p := y.add 1) (by rw [addB]; exact ly)).trans (cy 1 _ rfl)
    exact this
  have n0 : ∀ z : Aft W1, z.val.cell? ⟨w.heap.size, 0, none⟩ = some (.int .i64 17) := fun z => by
    have := cell_block (i := 0) (heap_aft z (lt_of_get rn) rn); simpa using this
  have n1 : ∀ z : Aft W1, z.val.cell? ⟨w.heap.size, 1, none⟩ = some (.int .i64 wd) := fun z => by
    have := cell_block (i := 1) (heap_aft z (lt_of_get rn) rn); simpa using this
  have n3 : ∀ z : Aft W1, z.val.cell? ⟨w.heap.size, 3, none⟩ = some (.int .i64 v) := fun z => by
    have := cell_block (i := 3) (heap_aft z (lt_of_get rn) rn); simpa using this
  have m0 := n0 ⟨W1, Below.refl _ _⟩
  have m1 := n1 ⟨W1, Below.refl _ _⟩
  have m3 := n3 ⟨W1, Below.refl _ _⟩
  have px0 := qx0 ⟨W1, Below.refl _ _⟩
  have px1 := qx1 ⟨W1, Below.refl _ _⟩
  have py0 := qy0 ⟨W1, Below.refl _ _⟩
  have py1 := qy1 ⟨W1, Below.refl _ _⟩
  clear cx cy rn
  have HB1 := Lib.hid hb1
  clear hb1
  go_wp2_with (go_at_call 78; refine (Power_c _ (by omega) (by omega) _).mono ?_; rintro e w' ⟨rfl, rfl⟩)
  by_cases h : wd ≤ bv
  · have hR : apG 17 wd v aw av bw bv cv = 0 := by unfold apG; simp [h]
    refine wp_region_aft (by kernel_rfl) (by kernel_rfl) ?_
    repeat (go_big_quiet_step (first | (go_at_call 78; exact Calls.qs (Power_c _ (by omega) (by omega) _))))
    refine wpQuiet_nil ?_
    intro z
    go_wp2
    go_ret
    exact ⟨retI hR.symm, Below.aft (z.below HB1.out HB1.out.size)⟩
  · have hR : apG 17 wd v aw av bw bv cv = av * pw bv % pw wd := by unfold apG; simp [h]
    have hpb := pw_bd (n := bv) b0 (by omega)
    have hml := mulS a0 a1 (by omega : 0 ≤ pw bv) (by omega)
    refine wp_region_aft (by kernel_rfl) (by kernel_rfl) ?_
    repeat (go_big_quiet_step (first | (go_at_call 78; exact Calls.qs (Power_c _ (by omega) (by omega) _))))
    refine wpQuiet_nil ?_
    intro z
    have rx0 : ∀ u : Aft z.val, u.val.cell? x = some (.int .i64 av) := fun u => qx0 ⟨u.val, u.below z.pf z.pf.size⟩
    have rx1 : ∀ u : Aft z.val, u.val.cell? ⟨x.block, x.off + 1, none⟩ = some (.int .i64 bv) := fun u => qx1 ⟨u.val, u.below z.pf z.pf.size⟩
    have hbz := z.below HB1.out HB1.out.size
    clear qx0 qx1 qy0 qy1 n0 n1 n3 m0 m1 m3 px0 px1 py0 py1
    generalize z.val = W2 at *
    go_wp2_with fail
    refine wp_region_aft (by kernel_rfl) (by kernel_rfl) ?_
    repeat (go_big_quiet_step (first | (go_at_call 78; exact Calls.qs (Power_c _ (by omega) (by omega) _))))
    refine wpQuiet_nil ?_
    intro z2
    go_wp2
    go_ret
    exact ⟨retI (by rw [hR]), Below.aft (z2.below hbz hbz.size)⟩

set_option maxRecDepth 100000 in
set_option maxHeartbeats 1600000 in
theorem ap_18 (wd v av bv cv aw bw cw : Int) (w1 : 1 ≤ wd) (w2 : wd ≤ 16) (a0 : 0 ≤ av) (a1 : av ≤ 65536) (b0 : 0 ≤ bv) (b1 : bv ≤ 65536) (B : Option Addr) (al bc : Nat) (Aa : Option Addr) (ca : Nat) (Wa : Option Addr) (cwa : Nat) (V : Option Addr) (nv cv2 : Nat) (w : World) (hA : LiesI w Aa [av, bv]) (hW : LiesI w Wa [aw, bw]) :
    Calls Tryz.prog 42 #[.agg #[.int .i64 18, .int .i64 wd, .slice B al bc, .int .i64 v], .slice Aa 2 ca, .slice Wa 2 cwa, .slice V nv cv2] w fun e w' => e = .returned (.int .i64 (apG 18 wd v aw av bw bv cv)) ∧ ∃ x : Aft w, w' = x.val := by
  obtain ⟨x, rfl, lx, cx⟩ := hA (by simp)
  obtain ⟨y, rfl, ly, cy⟩ := hW (by simp)
  have hp := pw_bd (n := wd) (by omega) w2
  go_enter Tryz.func42, Tryz.ntmps42
  go_upto_region 1 with (fail)
  have hb1 := (Below.refl w.heap.size w).alloc (Nat.le_refl _) (.cells #[.int .i64 18, .int .i64 wd, .slice B al bc, .int .i64 v] 61)
  have rn : (w.alloc (.cells #[.int .i64 18, .int .i64 wd, .slice B al bc, .int .i64 v] 61)).heap[w.heap.size]? = some (.cells #[.int .i64 18, .int .i64 wd, .slice B al bc, .int .i64 v] 61) := heap_alloc_new _ _
  generalize w.alloc (.cells #[.int .i64 18, .int .i64 wd, .slice B al bc, .int .i64 v] 61) = W1 at *
  have qx0 : ∀ z : Aft W1, z.val.cell? x = some (.int .i64 av) := fun z => by
    have := ((z.below hb1 hb1.size).cell (p := x.add 0) (by rw [addB]; exact lx)).trans (cx 0 _ rfl)
    exact this
  have qx1 : ∀ z : Aft W1, z.val.cell? ⟨x.block, x.off + 1, none⟩ = some (.int .i64 bv) := fun z => by
    have := ((z.below hb1 hb1.size).cell (p := x.add 1) (by rw [addB]; exact lx)).trans (cx 1 _ rfl)
    exact this
  have qy0 : ∀ z : Aft W1, z.val.cell? y = some (.int .i64 aw) := fun z => by
    have := ((z.below hb1 hb1.size).cell (p := y.add 0) (by rw [addB]; exact ly)).trans (cy 0 _ rfl)
    exact this
  have qy1 : ∀ z : Aft W1, z.val.cell? ⟨y.block, y.off + 1, none⟩ = some (.int .i64 bw) := fun z => by
    have := ((z.below hb1 hb1.size).cell (p := y.add 1) (by rw [addB]; exact ly)).trans (cy 1 _ rfl)
    exact this
  have n0 : ∀ z : Aft W1, z.val.cell? ⟨w.heap.size, 0, none⟩ = some (.int .i64 18) := fun z => by
    have := cell_block (i := 0) (heap_aft z (lt_of_get rn) rn); simpa using this
  have n1 : ∀ z : Aft W1, z.val.cell? ⟨w.heap.size, 1, none⟩ = some (.int .i64 wd) := fun z => by
    have := cell_block (i := 1) (heap_aft z (lt_of_get rn) rn); simpa using this
  have n3 : ∀ z : Aft W1, z.val.cell? ⟨w.heap.size, 3, none⟩ = some (.int .i64 v) := fun z => by
    have := cell_block (i := 3) (heap_aft z (lt_of_get rn) rn); simpa using this
  have m0 := n0 ⟨W1, Below.refl _ _⟩
  have m1 := n1 ⟨W1, Below.refl _ _⟩
  have m3 := n3 ⟨W1, Below.refl _ _⟩
  have px0 := qx0 ⟨W1, Below.refl _ _⟩
  have px1 := qx1 ⟨W1, Below.refl _ _⟩
  have py0 := qy0 ⟨W1, Below.refl _ _⟩
  have py1 := qy1 ⟨W1, Below.refl _ _⟩
  clear cx cy rn
  have HB1 := Lib.hid hb1
  clear hb1
  go_wp2_with (go_at_call 78; refine (Power_c _ (by omega) (by omega) _).mono ?_; rintro e w' ⟨rfl, rfl⟩)
  by_cases h : wd ≤ bv
  · have hR : apG 18 wd v aw av bw bv cv = 0 := by unfold apG; simp [h]
    refine wp_region_aft (by kernel_rfl) (by kernel_rfl) ?_
    repeat (go_big_quiet_step (first | (go_at_call 78; exact Calls.qs (Power_c _ (by omega) (by omega) _))))
    refine wpQuiet_nil ?_
    intro z
    go_wp2
    go_ret
    exact ⟨retI hR.symm, Below.aft (z.below HB1.out HB1.out.size)⟩
  · have hR : apG 18 wd v aw av bw bv cv = av / pw bv := by unfold apG; simp [h]
    have hpb := pw_bd (n := bv) b0 (by omega)
    have hml := mulS a0 a1 (by omega : 0 ≤ pw bv) (by omega)
    refine wp_region_aft (by kernel_rfl) (by kernel_rfl) ?_
    repeat (go_big_quiet_step (first | (go_at_call 78; exact Calls.qs (Power_c _ (by omega) (by omega) _))))
    refine wpQuiet_nil ?_
    intro z
    have rx0 : ∀ u : Aft z.val, u.val.cell? x = some (.int .i64 av) := fun u => qx0 ⟨u.val, u.below z.pf z.pf.size⟩
    have rx1 : ∀ u : Aft z.val, u.val.cell? ⟨x.block, x.off + 1, none⟩ = some (.int .i64 bv) := fun u => qx1 ⟨u.val, u.below z.pf z.pf.size⟩
    have hbz := z.below HB1.out HB1.out.size
    clear qx0 qx1 qy0 qy1 n0 n1 n3 m0 m1 m3 px0 px1 py0 py1
    generalize z.val = W2 at *
    go_wp2_with fail
    refine wp_region_aft (by kernel_rfl) (by kernel_rfl) ?_
    repeat (go_big_quiet_step (first | (go_at_call 78; exact Calls.qs (Power_c _ (by omega) (by omega) _))))
    refine wpQuiet_nil ?_
    intro z2
    go_wp2
    go_ret
    exact ⟨retI (by rw [hR]), Below.aft (z2.below hbz hbz.size)⟩

end Go.Proofs.YtkdonapgonegkaaGreatDoor

set_option linter.unusedSimpArgs false
set_option linter.unusedVariables false
namespace Go.Proofs.YtkdonapgonegkaaGreatDoor
open Go.RowKit Go.BigFrame

end Go.Proofs.YtkdonapgonegkaaGreatDoor

set_option linter.unusedSimpArgs false
set_option linter.unusedVariables false
namespace Go.Proofs.YtkdonapgonegkaaGreatDoor
open Go.RowKit Go.BigFrame

theorem len1 {l : List Int} (h : l.length = 1) : ∃ a, l = [a] := by
  match l, h with
  | [a], _ => exact ⟨a, rfl⟩
theorem len2 {l : List Int} (h : l.length = 2) : ∃ a b, l = [a, b] := by
  match l, h with
  | [a, b], _ => exact ⟨a, b, rfl⟩
theorem len3 {l : List Int} (h : l.length = 3) : ∃ a b c, l = [a, b, c] := by
  match l, h with
  | [a, b, c], _ => exact ⟨a, b, c, rfl⟩
/-- Values of arguments that fit their widths. -/
structure ArgsOK (op wd v : Int) (us ws : List Int) : Prop where
  o0 : 2 ≤ op
  o1 : op ≤ 18
  w1 : 1 ≤ wd
  w2 : wd ≤ 16
  al : (us.length : Int) = argN op
  wl : ws.length = us.length
  ft : fitW op wd v (ws.getD 0 0) (ws.getD 1 0) (ws.getD 2 0) = true
  ab : ∀ i, i < us.length → 0 ≤ us.getD i 0 ∧ us.getD i 0 < pw (ws.getD i 0)
  wb : ∀ i, i < us.length → 1 ≤ ws.getD i 0 ∧ ws.getD i 0 ≤ 16
  v0 : op = 14 → 0 ≤ v ∧ v ≤ 16

set_option maxRecDepth 100000 in
set_option maxHeartbeats 1600000 in
theorem Apply_c (op wd v : Int) (us ws : List Int) (h : ArgsOK op wd v us ws) (B : Option Addr) (al bc : Nat) (Aa : Option Addr) (ca : Nat) (Wa : Option Addr) (cwa : Nat) (V : Option Addr) (nv cv2 : Nat) (w : World) (hA : LiesI w Aa us) (hW : LiesI w Wa ws) :
    Calls Tryz.prog 42 #[.agg #[.int .i64 op, .int .i64 wd, .slice B al bc, .int .i64 v], .slice Aa us.length ca, .slice Wa ws.length cwa, .slice V nv cv2] w fun e w' => e = .returned (.int .i64 (resG op wd v (ws.getD 0 0) (us.getD 0 0) (ws.getD 1 0) (us.getD 1 0) (us.getD 2 0))) ∧ ∃ x : Aft w, w' = x.val := by
  have hcase : op = 2 ∨ op = 3 ∨ op = 4 ∨ op = 5 ∨ op = 6 ∨ op = 7 ∨ op = 8 ∨ op = 9 ∨ op = 10 ∨ op = 11 ∨ op = 12 ∨ op = 13 ∨ op = 14 ∨ op = 15 ∨ op = 16 ∨ op = 17 ∨ op = 18 := by have := h.o0; have := h.o1; omega
  rcases hcase with rfl | rfl | rfl | rfl | rfl | rfl | rfl | rfl | rfl | rfl | rfl | rfl | rfl | rfl | rfl | rfl | rfl
  · obtain ⟨av, rfl⟩ := len1 (l := us) (by have := h.al; simp [argN] at this; omega)
    obtain ⟨aw, rfl⟩ := len1 (l := ws) (by have := h.wl; simpa using this)
    have hf := h.ft
    have ha := h.ab 0 (by simp)
    have hwa := h.wb 0 (by simp)
    simp only [List.getD, List.getElem?_cons_zero, List.getElem?_cons_succ, List.getElem?_nil, Option.getD_some, Option.getD_none] at *
    have hpa := pw_bd (n := aw) (by omega) hwa.2
    have e := apG_res (op := 2) (wd := wd) (v := v) (aw := aw) (av := av) (bw := 0) (bv := 0) (cw := 0) (cv := 0) (by decide) (by decide) h.w1 h.w2 hf (by omega) hwa.2 (Int.le_refl _) (by decide) ha.1 ha.2 (Int.le_refl _) (by decide) (Int.le_refl _) (by decide)
    rw [← e]
    exact ap_2 wd v av 0 0 aw 0 0 h.w1 h.w2 ha.1 (by omega) (Int.le_refl _) (by decide) B al bc Aa ca Wa cwa V nv cv2 w hA hW
  · obtain ⟨av, bv, rfl⟩ := len2 (l := us) (by have := h.al; simp [argN] at this; omega)
    obtain ⟨aw, bw, rfl⟩ := len2 (l := ws) (by have := h.wl; simpa using this)
    have hf := h.ft
    have ha := h.ab 0 (by simp)
    have hwa := h.wb 0 (by simp)
    have hb := h.ab 1 (by simp)
    have hwb := h.wb 1 (by simp)
    simp only [List.getD, List.getElem?_cons_zero, List.getElem?_cons_succ, List.getElem?_nil, Option.getD_some, Option.getD_none] at *
    have hpa := pw_bd (n := aw) (by omega) hwa.2
    have hpb := pw_bd (n := bw) (by omega) hwb.2
    have e := apG_res (op := 3) (wd := wd) (v := v) (aw := aw) (av := av) (bw := bw) (bv := bv) (cw := 0) (cv := 0) (by decide) (by decide) h.w1 h.w2 hf (by omega) hwa.2 (by omega) hwb.2 ha.1 ha.2 hb.1 hb.2 (Int.le_refl _) (by decide)
    rw [← e]
    exact ap_3 wd v av bv 0 aw bw 0 h.w1 h.w2 ha.1 (by omega) hb.1 (by omega) B al bc Aa ca Wa cwa V nv cv2 w hA hW
  · obtain ⟨av, bv, rfl⟩ := len2 (l := us) (by have := h.al; simp [argN] at this; omega)
    obtain ⟨aw, bw, rfl⟩ := len2 (l := ws) (by have := h.wl; simpa using this)
    have hf := h.ft
    have ha := h.ab 0 (by simp)
    have hwa := h.wb 0 (by simp)
    have hb := h.ab 1 (by simp)
    have hwb := h.wb 1 (by simp)
    simp only [List.getD, List.getElem?_cons_zero, List.getElem?_cons_succ, List.getElem?_nil, Option.getD_some, Option.getD_none] at *
    have hpa := pw_bd (n := aw) (by omega) hwa.2
    have hpb := pw_bd (n := bw) (by omega) hwb.2
    have e := apG_res (op := 4) (wd := wd) (v := v) (aw := aw) (av := av) (bw := bw) (bv := bv) (cw := 0) (cv := 0) (by decide) (by decide) h.w1 h.w2 hf (by omega) hwa.2 (by omega) hwb.2 ha.1 ha.2 hb.1 hb.2 (Int.le_refl _) (by decide)
    rw [← e]
    exact ap_4 wd v av bv 0 aw bw 0 h.w1 h.w2 ha.1 (by omega) hb.1 (by omega) B al bc Aa ca Wa cwa V nv cv2 w hA hW
  · obtain ⟨av, bv, rfl⟩ := len2 (l := us) (by have := h.al; simp [argN] at this; omega)
    obtain ⟨aw, bw, rfl⟩ := len2 (l := ws) (by have := h.wl; simpa using this)
    have hf := h.ft
    have ha := h.ab 0 (by simp)
    have hwa := h.wb 0 (by simp)
    have hb := h.ab 1 (by simp)
    have hwb := h.wb 1 (by simp)
    simp only [List.getD, List.getElem?_cons_zero, List.getElem?_cons_succ, List.getElem?_nil, Option.getD_some, Option.getD_none] at *
    have hpa := pw_bd (n := aw) (by omega) hwa.2
    have hpb := pw_bd (n := bw) (by omega) hwb.2
    have e := apG_res (op := 5) (wd := wd) (v := v) (aw := aw) (av := av) (bw := bw) (bv := bv) (cw := 0) (cv := 0) (by decide) (by decide) h.w1 h.w2 hf (by omega) hwa.2 (by omega) hwb.2 ha.1 ha.2 hb.1 hb.2 (Int.le_refl _) (by decide)
    rw [← e]
    exact ap_5 wd v av bv 0 aw bw 0 h.w1 h.w2 ha.1 (by omega) hb.1 (by omega) B al bc Aa ca Wa cwa V nv cv2 w hA hW
  · obtain ⟨av, bv, rfl⟩ := len2 (l := us) (by have := h.al; simp [argN] at this; omega)
    obtain ⟨aw, bw, rfl⟩ := len2 (l := ws) (by have := h.wl; simpa using this)
    have hf := h.ft
    have ha := h.ab 0 (by simp)
    have hwa := h.wb 0 (by simp)
    have hb := h.ab 1 (by simp)
    have hwb := h.wb 1 (by simp)
    simp only [List.getD, List.getElem?_cons_zero, List.getElem?_cons_succ, List.getElem?_nil, Option.getD_some, Option.getD_none] at *
    have hpa := pw_bd (n := aw) (by omega) hwa.2
    have hpb := pw_bd (n := bw) (by omega) hwb.2
    have e := apG_res (op := 6) (wd := wd) (v := v) (aw := aw) (av := av) (bw := bw) (bv := bv) (cw := 0) (cv := 0) (by decide) (by decide) h.w1 h.w2 hf (by omega) hwa.2 (by omega) hwb.2 ha.1 ha.2 hb.1 hb.2 (Int.le_refl _) (by decide)
    rw [← e]
    exact ap_6 wd v av bv 0 aw bw 0 h.w1 h.w2 ha.1 (by omega) hb.1 (by omega) B al bc Aa ca Wa cwa V nv cv2 w hA hW
  · obtain ⟨av, bv, rfl⟩ := len2 (l := us) (by have := h.al; simp [argN] at this; omega)
    obtain ⟨aw, bw, rfl⟩ := len2 (l := ws) (by have := h.wl; simpa using this)
    have hf := h.ft
    have ha := h.ab 0 (by simp)
    have hwa := h.wb 0 (by simp)
    have hb := h.ab 1 (by simp)
    have hwb := h.wb 1 (by simp)
    simp only [List.getD, List.getElem?_cons_zero, List.getElem?_cons_succ, List.getElem?_nil, Option.getD_some, Option.getD_none] at *
    have hpa := pw_bd (n := aw) (by omega) hwa.2
    have hpb := pw_bd (n := bw) (by omega) hwb.2
    have e := apG_res (op := 7) (wd := wd) (v := v) (aw := aw) (av := av) (bw := bw) (bv := bv) (cw := 0) (cv := 0) (by decide) (by decide) h.w1 h.w2 hf (by omega) hwa.2 (by omega) hwb.2 ha.1 ha.2 hb.1 hb.2 (Int.le_refl _) (by decide)
    rw [← e]
    exact ap_7 wd v av bv 0 aw bw 0 h.w1 h.w2 ha.1 (by omega) hb.1 (by omega) B al bc Aa ca Wa cwa V nv cv2 w hA hW (by have := show (aw == wd && bw == wd) = true from hf; simp at this; rw [← this.2]; exact hb.2)
  · obtain ⟨av, bv, rfl⟩ := len2 (l := us) (by have := h.al; simp [argN] at this; omega)
    obtain ⟨aw, bw, rfl⟩ := len2 (l := ws) (by have := h.wl; simpa using this)
    have hf := h.ft
    have ha := h.ab 0 (by simp)
    have hwa := h.wb 0 (by simp)
    have hb := h.ab 1 (by simp)
    have hwb := h.wb 1 (by simp)
    simp only [List.getD, List.getElem?_cons_zero, List.getElem?_cons_succ, List.getElem?_nil, Option.getD_some, Option.getD_none] at *
    have hpa := pw_bd (n := aw) (by omega) hwa.2
    have hpb := pw_bd (n := bw) (by omega) hwb.2
    have e := apG_res (op := 8) (wd := wd) (v := v) (aw := aw) (av := av) (bw := bw) (bv := bv) (cw := 0) (cv := 0) (by decide) (by decide) h.w1 h.w2 hf (by omega) hwa.2 (by omega) hwb.2 ha.1 ha.2 hb.1 hb.2 (Int.le_refl _) (by decide)
    rw [← e]
    exact ap_8 wd v av bv 0 aw bw 0 h.w1 h.w2 ha.1 (by omega) hb.1 (by omega) B al bc Aa ca Wa cwa V nv cv2 w hA hW
  · obtain ⟨av, bv, rfl⟩ := len2 (l := us) (by have := h.al; simp [argN] at this; omega)
    obtain ⟨aw, bw, rfl⟩ := len2 (l := ws) (by have := h.wl; simpa using this)
    have hf := h.ft
    have ha := h.ab 0 (by simp)
    have hwa := h.wb 0 (by simp)
    have hb := h.ab 1 (by simp)
    have hwb := h.wb 1 (by simp)
    simp only [List.getD, List.getElem?_cons_zero, List.getElem?_cons_succ, List.getElem?_nil, Option.getD_some, Option.getD_none] at *
    have hpa := pw_bd (n := aw) (by omega) hwa.2
    have hpb := pw_bd (n := bw) (by omega) hwb.2
    have e := apG_res (op := 9) (wd := wd) (v := v) (aw := aw) (av := av) (bw := bw) (bv := bv) (cw := 0) (cv := 0) (by decide) (by decide) h.w1 h.w2 hf (by omega) hwa.2 (by omega) hwb.2 ha.1 ha.2 hb.1 hb.2 (Int.le_refl _) (by decide)
    rw [← e]
    exact ap_9 wd v av bv 0 aw bw 0 h.w1 h.w2 ha.1 (by omega) hb.1 (by omega) B al bc Aa ca Wa cwa V nv cv2 w hA hW
  · obtain ⟨av, bv, rfl⟩ := len2 (l := us) (by have := h.al; simp [argN] at this; omega)
    obtain ⟨aw, bw, rfl⟩ := len2 (l := ws) (by have := h.wl; simpa using this)
    have hf := h.ft
    have ha := h.ab 0 (by simp)
    have hwa := h.wb 0 (by simp)
    have hb := h.ab 1 (by simp)
    have hwb := h.wb 1 (by simp)
    simp only [List.getD, List.getElem?_cons_zero, List.getElem?_cons_succ, List.getElem?_nil, Option.getD_some, Option.getD_none] at *
    have hpa := pw_bd (n := aw) (by omega) hwa.2
    have hpb := pw_bd (n := bw) (by omega) hwb.2
    have e := apG_res (op := 10) (wd := wd) (v := v) (aw := aw) (av := av) (bw := bw) (bv := bv) (cw := 0) (cv := 0) (by decide) (by decide) h.w1 h.w2 hf (by omega) hwa.2 (by omega) hwb.2 ha.1 ha.2 hb.1 hb.2 (Int.le_refl _) (by decide)
    rw [← e]
    exact ap_10 wd v av bv 0 aw bw 0 h.w1 h.w2 ha.1 (by omega) hb.1 (by omega) B al bc Aa ca Wa cwa V nv cv2 w hA hW
  · obtain ⟨av, bv, rfl⟩ := len2 (l := us) (by have := h.al; simp [argN] at this; omega)
    obtain ⟨aw, bw, rfl⟩ := len2 (l := ws) (by have := h.wl; simpa using this)
    have hf := h.ft
    have ha := h.ab 0 (by simp)
    have hwa := h.wb 0 (by simp)
    have hb := h.ab 1 (by simp)
    have hwb := h.wb 1 (by simp)
    simp only [List.getD, List.getElem?_cons_zero, List.getElem?_cons_succ, List.getElem?_nil, Option.getD_some, Option.getD_none] at *
    have hpa := pw_bd (n := aw) (by omega) hwa.2
    have hpb := pw_bd (n := bw) (by omega) hwb.2
    have e := apG_res (op := 11) (wd := wd) (v := v) (aw := aw) (av := av) (bw := bw) (bv := bv) (cw := 0) (cv := 0) (by decide) (by decide) h.w1 h.w2 hf (by omega) hwa.2 (by omega) hwb.2 ha.1 ha.2 hb.1 hb.2 (Int.le_refl _) (by decide)
    rw [← e]
    exact ap_11 wd v av bv 0 aw bw 0 h.w1 h.w2 ha.1 (by omega) hb.1 (by omega) B al bc Aa ca Wa cwa V nv cv2 w hA hW hwa.1 hwa.2 hwb.1 hwb.2
  · obtain ⟨av, bv, cv, rfl⟩ := len3 (l := us) (by have := h.al; simp [argN] at this; omega)
    obtain ⟨aw, bw, cw, rfl⟩ := len3 (l := ws) (by have := h.wl; simpa using this)
    have hf := h.ft
    have ha := h.ab 0 (by simp)
    have hwa := h.wb 0 (by simp)
    have hb := h.ab 1 (by simp)
    have hwb := h.wb 1 (by simp)
    have hc := h.ab 2 (by simp)
    have hwc := h.wb 2 (by simp)
    simp only [List.getD, List.getElem?_cons_zero, List.getElem?_cons_succ, List.getElem?_nil, Option.getD_some, Option.getD_none] at *
    have hpa := pw_bd (n := aw) (by omega) hwa.2
    have hpb := pw_bd (n := bw) (by omega) hwb.2
    have e := apG_res (op := 12) (wd := wd) (v := v) (aw := aw) (av := av) (bw := bw) (bv := bv) (cw := cw) (cv := cv) (by decide) (by decide) h.w1 h.w2 hf (by omega) hwa.2 (by omega) hwb.2 ha.1 ha.2 hb.1 hb.2 hc.1 hc.2
    rw [← e]
    exact ap_12 wd v av bv cv aw bw cw h.w1 h.w2 ha.1 (by omega) hb.1 (by omega) B al bc Aa ca Wa cwa V nv cv2 w hA hW
  · obtain ⟨av, bv, rfl⟩ := len2 (l := us) (by have := h.al; simp [argN] at this; omega)
    obtain ⟨aw, bw, rfl⟩ := len2 (l := ws) (by have := h.wl; simpa using this)
    have hf := h.ft
    have ha := h.ab 0 (by simp)
    have hwa := h.wb 0 (by simp)
    have hb := h.ab 1 (by simp)
    have hwb := h.wb 1 (by simp)
    simp only [List.getD, List.getElem?_cons_zero, List.getElem?_cons_succ, List.getElem?_nil, Option.getD_some, Option.getD_none] at *
    have hpa := pw_bd (n := aw) (by omega) hwa.2
    have hpb := pw_bd (n := bw) (by omega) hwb.2
    have e := apG_res (op := 13) (wd := wd) (v := v) (aw := aw) (av := av) (bw := bw) (bv := bv) (cw := 0) (cv := 0) (by decide) (by decide) h.w1 h.w2 hf (by omega) hwa.2 (by omega) hwb.2 ha.1 ha.2 hb.1 hb.2 (Int.le_refl _) (by decide)
    rw [← e]
    exact ap_13 wd v av bv 0 aw bw 0 h.w1 h.w2 ha.1 (by omega) hb.1 (by omega) B al bc Aa ca Wa cwa V nv cv2 w hA hW (by omega) hwb.2
  · obtain ⟨av, rfl⟩ := len1 (l := us) (by have := h.al; simp [argN] at this; omega)
    obtain ⟨aw, rfl⟩ := len1 (l := ws) (by have := h.wl; simpa using this)
    have hf := h.ft
    have ha := h.ab 0 (by simp)
    have hwa := h.wb 0 (by simp)
    simp only [List.getD, List.getElem?_cons_zero, List.getElem?_cons_succ, List.getElem?_nil, Option.getD_some, Option.getD_none] at *
    have hpa := pw_bd (n := aw) (by omega) hwa.2
    have e := apG_res (op := 14) (wd := wd) (v := v) (aw := aw) (av := av) (bw := 0) (bv := 0) (cw := 0) (cv := 0) (by decide) (by decide) h.w1 h.w2 hf (by omega) hwa.2 (Int.le_refl _) (by decide) ha.1 ha.2 (Int.le_refl _) (by decide) (Int.le_refl _) (by decide)
    rw [← e]
    exact ap_14 wd v av 0 0 aw 0 0 h.w1 h.w2 ha.1 (by omega) (Int.le_refl _) (by decide) B al bc Aa ca Wa cwa V nv cv2 w hA hW (h.v0 rfl).1 (h.v0 rfl).2
  · obtain ⟨av, rfl⟩ := len1 (l := us) (by have := h.al; simp [argN] at this; omega)
    obtain ⟨aw, rfl⟩ := len1 (l := ws) (by have := h.wl; simpa using this)
    have hf := h.ft
    have ha := h.ab 0 (by simp)
    have hwa := h.wb 0 (by simp)
    simp only [List.getD, List.getElem?_cons_zero, List.getElem?_cons_succ, List.getElem?_nil, Option.getD_some, Option.getD_none] at *
    have hpa := pw_bd (n := aw) (by omega) hwa.2
    have e := apG_res (op := 15) (wd := wd) (v := v) (aw := aw) (av := av) (bw := 0) (bv := 0) (cw := 0) (cv := 0) (by decide) (by decide) h.w1 h.w2 hf (by omega) hwa.2 (Int.le_refl _) (by decide) ha.1 ha.2 (Int.le_refl _) (by decide) (Int.le_refl _) (by decide)
    rw [← e]
    exact ap_15 wd v av 0 0 aw 0 0 h.w1 h.w2 ha.1 (by omega) (Int.le_refl _) (by decide) B al bc Aa ca Wa cwa V nv cv2 w hA hW
  · obtain ⟨av, rfl⟩ := len1 (l := us) (by have := h.al; simp [argN] at this; omega)
    obtain ⟨aw, rfl⟩ := len1 (l := ws) (by have := h.wl; simpa using this)
    have hf := h.ft
    have ha := h.ab 0 (by simp)
    have hwa := h.wb 0 (by simp)
    simp only [List.getD, List.getElem?_cons_zero, List.getElem?_cons_succ, List.getElem?_nil, Option.getD_some, Option.getD_none] at *
    have hpa := pw_bd (n := aw) (by omega) hwa.2
    have e := apG_res (op := 16) (wd := wd) (v := v) (aw := aw) (av := av) (bw := 0) (bv := 0) (cw := 0) (cv := 0) (by decide) (by decide) h.w1 h.w2 hf (by omega) hwa.2 (Int.le_refl _) (by decide) ha.1 ha.2 (Int.le_refl _) (by decide) (Int.le_refl _) (by decide)
    rw [← e]
    exact ap_16 wd v av 0 0 aw 0 0 h.w1 h.w2 ha.1 (by omega) (Int.le_refl _) (by decide) B al bc Aa ca Wa cwa V nv cv2 w hA hW hwa.1 hwa.2 (pwM (by omega) (by have := show decide (aw ≤ wd) = true from hf; simpa using this))
  · obtain ⟨av, bv, rfl⟩ := len2 (l := us) (by have := h.al; simp [argN] at this; omega)
    obtain ⟨aw, bw, rfl⟩ := len2 (l := ws) (by have := h.wl; simpa using this)
    have hf := h.ft
    have ha := h.ab 0 (by simp)
    have hwa := h.wb 0 (by simp)
    have hb := h.ab 1 (by simp)
    have hwb := h.wb 1 (by simp)
    simp only [List.getD, List.getElem?_cons_zero, List.getElem?_cons_succ, List.getElem?_nil, Option.getD_some, Option.getD_none] at *
    have hpa := pw_bd (n := aw) (by omega) hwa.2
    have hpb := pw_bd (n := bw) (by omega) hwb.2
    have e := apG_res (op := 17) (wd := wd) (v := v) (aw := aw) (av := av) (bw := bw) (bv := bv) (cw := 0) (cv := 0) (by decide) (by decide) h.w1 h.w2 hf (by omega) hwa.2 (by omega) hwb.2 ha.1 ha.2 hb.1 hb.2 (Int.le_refl _) (by decide)
    rw [← e]
    exact ap_17 wd v av bv 0 aw bw 0 h.w1 h.w2 ha.1 (by omega) hb.1 (by omega) B al bc Aa ca Wa cwa V nv cv2 w hA hW
  · obtain ⟨av, bv, rfl⟩ := len2 (l := us) (by have := h.al; simp [argN] at this; omega)
    obtain ⟨aw, bw, rfl⟩ := len2 (l := ws) (by have := h.wl; simpa using this)
    have hf := h.ft
    have ha := h.ab 0 (by simp)
    have hwa := h.wb 0 (by simp)
    have hb := h.ab 1 (by simp)
    have hwb := h.wb 1 (by simp)
    simp only [List.getD, List.getElem?_cons_zero, List.getElem?_cons_succ, List.getElem?_nil, Option.getD_some, Option.getD_none] at *
    have hpa := pw_bd (n := aw) (by omega) hwa.2
    have hpb := pw_bd (n := bw) (by omega) hwb.2
    have e := apG_res (op := 18) (wd := wd) (v := v) (aw := aw) (av := av) (bw := bw) (bv := bv) (cw := 0) (cv := 0) (by decide) (by decide) h.w1 h.w2 hf (by omega) hwa.2 (by omega) hwb.2 ha.1 ha.2 hb.1 hb.2 (Int.le_refl _) (by decide)
    rw [← e]
    exact ap_18 wd v av bv 0 aw bw 0 h.w1 h.w2 ha.1 (by omega) hb.1 (by omega) B al bc Aa ca Wa cwa V nv cv2 w hA hW

end Go.Proofs.YtkdonapgonegkaaGreatDoor

set_option linter.unusedSimpArgs false
set_option linter.unusedVariables false
namespace Go.Proofs.YtkdonapgonegkaaGreatDoor
open Go.RowKit Go.BigFrame

theorem wAt_take {ns : List Nd} {args : List Int} {k i : Nat} (hk : k ≤ ns.length) (ha : ∀ a ∈ args, isIx a (ns.take k).length = true) : wAt (ns.take k) args i = wAt ns args i := by
  unfold wAt
  cases h : args[i]? with
  | none => rfl
  | some a =>
    have h1 := isIx_iff.1 (ha a (List.mem_of_getElem? h))
    rw [List.length_take] at h1
    simp only []
    rw [List.getElem?_take_of_lt (by omega)]
theorem chk_fit {ls : List Int} {ns : List Nd} (h : (chk ls ns).2 = 0) {k : Nat} {n : Nd} (hn : ns[k]? = some n) :
    (n.args.length : Int) = argN n.op ∧ numE ls n.op n.wd n.v = 0 ∧ fitW n.op n.wd n.v (wAt ns n.args 0) (wAt ns n.args 1) (wAt ns n.args 2) = true := by
  obtain ⟨_, _, _, hall⟩ := chk_ok h
  obtain ⟨_, _, h3, h4, h5, h6⟩ := nodeE_ok (hall k n hn)
  have hk := (List.getElem?_eq_some_iff.1 hn).1
  rw [wAt_take (by omega) h4, wAt_take (by omega) h4, wAt_take (by omega) h4] at h6
  exact ⟨h3, h5, h6⟩
end Go.Proofs.YtkdonapgonegkaaGreatDoor

set_option linter.unusedSimpArgs false
set_option linter.unusedVariables false
namespace Go.Proofs.YtkdonapgonegkaaGreatDoor
open Go.RowKit Go.BigFrame

def avC (bs : List Nd) (a : Int) : Int := match bs[a.toNat]? with | none => 0 | some m => m.v
def awC (bs : List Nd) (a : Int) : Int := match bs[a.toNat]? with | none => 0 | some m => m.wd
def ccV (bs : List Nd) (args : List Int) : List Int := (args.filter fun a => !opC bs a).map (avC bs)
def ccW (bs : List Nd) (args : List Int) : List Int := (args.filter fun a => !opC bs a).map (awC bs)
theorem cc_len (bs : List Nd) (args : List Int) : (ccW bs args).length = (ccV bs args).length := by simp [ccV, ccW]
theorem cc_le (bs : List Nd) (args : List Int) : (ccV bs args).length ≤ args.length := by
  unfold ccV; rw [List.length_map]; exact List.length_filter_le _ _
theorem cc_no {bs : List Nd} {args : List Int} {j : Nat} {a : Int} (h : args[j]? = some a) (ho : opC bs a = true) : ccV bs (args.take (j + 1)) = ccV bs (args.take j) ∧ ccW bs (args.take (j + 1)) = ccW bs (args.take j) := by
  obtain ⟨hj, rfl⟩ := List.getElem?_eq_some_iff.1 h
  unfold ccV ccW
  rw [List.take_succ_eq_append_getElem hj, List.filter_append]
  simp [ho]
theorem cc_yes {bs : List Nd} {args : List Int} {j : Nat} {a : Int} (h : args[j]? = some a) (ho : opC bs a = false) : ccV bs (args.take (j + 1)) = ccV bs (args.take j) ++ [avC bs a] ∧ ccW bs (args.take (j + 1)) = ccW bs (args.take j) ++ [awC bs a] := by
  obtain ⟨hj, rfl⟩ := List.getElem?_eq_some_iff.1 h
  unfold ccV ccW
  rw [List.take_succ_eq_append_getElem hj, List.filter_append]
  simp [ho]
theorem cc_all {bs : List Nd} {args : List Int} (h : args.any (opC bs) = false) : ccV bs args = args.map (avC bs) ∧ ccW bs args = args.map (awC bs) := by
  have e : args.filter (fun a => !opC bs a) = args := List.filter_eq_self.2 fun a ha => by
    have := List.any_eq_false.1 h a ha
    simpa using this
  unfold ccV ccW
  rw [e]
  exact ⟨rfl, rfl⟩
theorem cc_some {bs : List Nd} {args : List Int} (h : args.any (opC bs) = true) : (ccV bs args).length < args.length := by
  unfold ccV
  rw [List.length_map]
  refine Nat.lt_of_le_of_ne (List.length_filter_le _ _) (fun e => ?_)
  obtain ⟨a, ha, hs⟩ := List.any_eq_true.1 h
  have := List.length_filter_eq_length_iff.1 e a ha
  rw [hs] at this
  exact absurd this (by decide)
theorem av_in {bs : List Nd} {p : Nat} {m : Nd} (h : bs[p]? = some m) : avC bs (p : Int) = m.v := by unfold avC; simp [h]
theorem aw_in {bs : List Nd} {p : Nat} {m : Nd} (h : bs[p]? = some m) : awC bs (p : Int) = m.wd := by unfold awC; simp [h]
theorem cvA_map (bs : List Nd) (args : List Int) (i : Nat) : (args.map (avC bs)).getD i 0 = cvA bs args i := by
  unfold cvA avC
  rw [List.getD, List.getElem?_map]
  cases args[i]? with
  | none => rfl
  | some a => rfl
theorem wAt_map (bs : List Nd) (args : List Int) (i : Nat) : (args.map (awC bs)).getD i 0 = wAt bs args i := by
  unfold wAt awC
  rw [List.getD, List.getElem?_map]
  cases args[i]? with
  | none => rfl
  | some a => rfl
/-- What is handed on fits. -/
theorem argsOK_fld {ls : List Int} {ns : List Nd} (h : (chk ls ns).2 = 0) {k : Nat} {n : Nd} (hn : ns[k]? = some n) (hs : stays (fldK ns k) n = false) : ArgsOK n.op n.wd n.v (ccV (fldK ns k) n.args) (ccW (fldK ns k) n.args) := by
  have ok := chk_nodes h k n hn
  have hk := Nat.le_of_lt (List.getElem?_eq_some_iff.1 hn).1
  have hc := closed_of ok hk hs
  obtain ⟨h3, h5, h6⟩ := chk_fit h hn
  have hany : n.args.any (opC (fldK ns k)) = false := by
    unfold stays at hs
    exact (Bool.or_eq_false_iff.1 hs).1
  obtain ⟨e1, e2⟩ := cc_all hany
  have hf := fldK_fit (fitC_of h) hk
  have al := ok.al
  rw [e1, e2]
  refine ⟨?_, ok.o1, ok.w1, ok.w2, by rw [List.length_map]; exact h3, by rw [List.length_map, List.length_map], ?_, ?_, ?_, ok.sl⟩
  · by_cases ho : n.op = 0 ∨ n.op = 1
    · have e : argN n.op = 0 := if_pos ho
      have : n.args = [] := List.eq_nil_of_length_eq_zero (by omega)
      exact absurd this hc.ne
    · have := ok.o0; omega
  · rw [wAt_map, wAt_map, wAt_map, wAt_fld ok hk, wAt_fld ok hk, wAt_fld ok hk]; exact h6
  · intro i hi
    rw [cvA_map, wAt_map]
    rw [List.length_map] at hi
    have := cvA_bd hc hf i
    exact ⟨this.1, this.2.2 hi⟩
  · intro i hi
    rw [wAt_map, wAt_fld ok hk]
    rw [List.length_map] at hi
    have := wAt_ok (chk_nodes h) hn i
    exact ⟨this.2.2 hi, this.2.1⟩
theorem res_fld {bs : List Nd} {n : Nd} (hs : stays bs n = false) : fldN bs n = ⟨0, n.wd, [], resG n.op n.wd n.v ((ccW bs n.args).getD 0 0) ((ccV bs n.args).getD 0 0) ((ccW bs n.args).getD 1 0) ((ccV bs n.args).getD 1 0) ((ccV bs n.args).getD 2 0)⟩ := by
  have hany : n.args.any (opC bs) = false := by
    unfold stays at hs
    exact (Bool.or_eq_false_iff.1 hs).1
  obtain ⟨e1, e2⟩ := cc_all hany
  rw [e1, e2, cvA_map, cvA_map, cvA_map, wAt_map, wAt_map]
  unfold fldN
  rw [if_neg (by rw [hs]; decide)]
theorem prog_before {T ns : List Nd} {k p : Nat} (hl : T.length = ns.length) (hk : k ≤ ns.length) (hp : p < k) : (T.take k ++ ns.drop k)[p]? = T[p]? := by
  rw [List.getElem?_append_left (by rw [List.length_take]; omega), List.getElem?_take, if_pos hp]

end Go.Proofs.YtkdonapgonegkaaGreatDoor

set_option linter.unusedSimpArgs false
set_option linter.unusedVariables false
namespace Go.Proofs.YtkdonapgonegkaaGreatDoor
open Go.RowKit Go.BigFrame

theorem prog_at {T ns : List Nd} {k : Nat} (hl : T.length = ns.length) (hk : k < ns.length) : (T.take k ++ ns.drop k)[k]? = ns[k]? := by
  rw [List.getElem?_append_right (by simp; omega), List.length_take_of_le (by omega), Nat.sub_self, List.getElem?_drop, Nat.add_zero]
theorem prog_next {T ns : List Nd} {k : Nat} {t : Nd} (hl : T.length = ns.length) (hk : k < ns.length) (ht : T[k]? = some t) : (T.take k ++ ns.drop k).set k t = T.take (k + 1) ++ ns.drop (k + 1) := by
  obtain ⟨hj, rfl⟩ := List.getElem?_eq_some_iff.1 ht
  rw [List.take_succ_eq_append_getElem hj, List.drop_eq_getElem_cons hk, List.set_append_right _ _ (by simp; omega), List.length_take_of_le (by omega), Nat.sub_self, List.set_cons_zero, List.append_assoc]
  rfl
theorem prog_keep {T ns : List Nd} {k : Nat} (hl : T.length = ns.length) (hk : k < ns.length) (ht : T[k]? = ns[k]?) : T.take (k + 1) ++ ns.drop (k + 1) = T.take k ++ ns.drop k := by
  have hj : k < T.length := by omega
  rw [List.getElem?_eq_getElem hj, List.getElem?_eq_getElem hk] at ht
  rw [List.take_succ_eq_append_getElem hj, List.drop_eq_getElem_cons hk, Option.some.inj ht, List.append_assoc]
  rfl
theorem prog_all {T ns : List Nd} (hl : T.length = ns.length) : T.take ns.length ++ ns.drop ns.length = T := by
  rw [List.drop_length, List.append_nil, ← hl, List.take_length]
theorem eqL_refl (a : List Int) : eqL a a = true := by unfold eqL; exact decide_eq_true rfl

/-- A row of nodes of the call's own: what its arguments lead to lies in blocks of X, in rows of numbers. -/
def NodesX (w : World) (base : Nat) (X : Nat → Prop) (v : Value) (ns : List Nd) (xs : List Value) : Prop :=
  w.ownsRow base 61 4 v ns.length xs ∧ ∀ i n, ns[i]? = some n → xs[i * 4]? = some (.int .i64 n.op) ∧ xs[i * 4 + 1]? = some (.int .i64 n.wd) ∧ xs[i * 4 + 3]? = some (.int .i64 n.v) ∧
    ∃ B cap, xs[i * 4 + 2]? = some (.slice B n.args.length cap) ∧ LiesI w B n.args ∧ ∀ ad, B = some ad → X ad.block ∧ ad.block < w.heap.size ∧ ∀ cur fz, w.heap[ad.block]? ≠ some (.cells cur 61 fz)
theorem NodesX.nil (w : World) (base : Nat) (X : Nat → Prop) : NodesX w base X (.slice none 0 0) [] [] := ⟨World.ownsRow_nil _ _ _ _, fun i n h => by simp at h⟩
theorem NodesX.below {w W : World} {base : Nat} {X : Nat → Prop} {v : Value} {ns : List Nd} {xs : List Value} (h : NodesX w base X v ns xs) (hb : Below w.heap.size w W) : NodesX W base X v ns xs :=
  ⟨own_below h.1 hb, fun i n hi => by
    obtain ⟨a, b, c, B, cap, d, hl, hB⟩ := h.2 i n hi
    refine ⟨a, b, c, B, cap, d, hl.below hb, fun ad he => ?_⟩
    obtain ⟨h1, h2, h3⟩ := hB ad he
    exact ⟨h1, Nat.lt_of_lt_of_le h2 hb.size, by rw [hb.block _ h2]; exact h3⟩⟩
theorem NodesX.snoc {w W w3 : World} {base : Nat} {X : Nat → Prop} {v v' : Value} {ns : List Nd} {xs : List Value} {n : Nd} {B : Option Addr} {cap : Nat} (h : NodesX w base X v ns xs) (hW : Below w.heap.size w W)
    (ho : w3.ownsRow base 61 4 v' (ns.length + 1) (xs ++ [.int .i64 n.op, .int .i64 n.wd, .slice B n.args.length cap, .int .i64 n.v])) (hg : W.grownBy w3 v.ownBlock)
    (hl : LiesI w B n.args) (hB : ∀ ad, B = some ad → X ad.block ∧ ad.block < w.heap.size ∧ ∀ cur fz, w.heap[ad.block]? ≠ some (.cells cur 61 fz)) :
    NodesX w3 base X v' (ns ++ [n]) (xs ++ [.int .i64 n.op, .int .i64 n.wd, .slice B n.args.length cap, .int .i64 n.v]) := by
  have hx : xs.length = ns.length * 4 := h.1.1
  have keep : ∀ m, m < w.heap.size → (∀ cur fz, w.heap[m]? ≠ some (.cells cur 61 fz)) → w3.heap[m]? = w.heap[m]? := by
    intro m hm hne
    rw [← hW.block m hm]
    refine hg.block m (Nat.lt_of_lt_of_le hm hW.size) (fun e => ?_)
    rcases h.1.2 with ⟨rfl, _⟩ | ⟨q, c1, cur, rfl, _, h3, _⟩
    · cases e
    · have e' : some m = some q := e
      injection e' with e'
      subst e'
      exact hne _ _ h3
  have keepL : ∀ (A : Option Addr) (zs : List Int), LiesI w A zs → (∀ ad, A = some ad → X ad.block ∧ ad.block < w.heap.size ∧ ∀ cur fz, w.heap[ad.block]? ≠ some (.cells cur 61 fz)) → LiesI w3 A zs ∧ ∀ ad, A = some ad → X ad.block ∧ ad.block < w3.heap.size ∧ ∀ cur fz, w3.heap[ad.block]? ≠ some (.cells cur 61 fz) := by
    intro A zs hA hf
    refine ⟨fun hp => ?_, fun ad he => ?_⟩
    · obtain ⟨ad, rfl, h1, h2⟩ := hA hp
      obtain ⟨_, h3, h4⟩ := hf ad rfl
      refine ⟨ad, rfl, ?_, fun i x hi => ?_⟩
      · exact Nat.lt_of_lt_of_le h1 (Nat.le_trans hW.size hg.size)
      · have := h2 i x hi
        unfold World.cell? at this ⊢
        rw [keep _ (by rw [addB]; exact h3) (by rw [addB]; exact h4)]
        exact this
    · obtain ⟨h1, h3, h4⟩ := hf ad he
      refine ⟨h1, ?_, by rw [keep _ h3 h4]; exact h4⟩
      exact Nat.lt_of_lt_of_le h3 (Nat.le_trans hW.size hg.size)
  refine ⟨by rw [List.length_append]; exact ho, fun i m hi => ?_⟩
  by_cases hin : i < ns.length
  · rw [List.getElem?_append_left hin] at hi
    obtain ⟨a, b, c, B', cap', d, hl', hB'⟩ := h.2 i m hi
    obtain ⟨k1, k2⟩ := keepL B' _ hl' hB'
    refine ⟨?_, ?_, ?_, B', cap', ?_, k1, k2⟩
    all_goals rw [List.getElem?_append_left (by omega)]; assumption
  · have hin' : i = ns.length := by
      have := (List.getElem?_eq_some_iff.1 hi).1
      rw [List.length_append] at this
      simp at this; omega
    subst hin'
    rw [List.getElem?_append_right (Nat.le_refl _), Nat.sub_self] at hi
    obtain rfl : n = m := by simpa using hi
    obtain ⟨k1, k2⟩ := keepL B _ hl hB
    refine ⟨?_, ?_, ?_, B, cap, ?_, k1, k2⟩
    all_goals
      rw [List.getElem?_append_right (by omega), hx]
      first | (rw [Nat.sub_self]; rfl) | (rw [Nat.add_sub_cancel_left]; rfl)
theorem NodesX.lies {w : World} {base : Nat} {X : Nat → Prop} {v : Value} {ns : List Nd} {xs : List Value} (h : NodesX w base X v ns xs) : ∃ A' cap', v = .slice A' ns.length cap' ∧ ns.length ≤ cap' ∧ LiesN w A' ns ∧ ∀ ad, A' = some ad → base ≤ ad.block := by
  rcases h.1.2 with ⟨rfl, h0⟩ | ⟨q, cap', cur, rfl, hb, _, hc, _⟩
  · exact ⟨none, 0, by rw [h0], by omega, fun hp => by omega, fun ad h => by cases h⟩
  · refine ⟨_, cap', rfl, hc, fun hp => ⟨_, rfl, (h.1.lt q rfl).2, fun i n hi => ?_⟩, fun ad h => by injection h with h; subst h; exact hb⟩
    obtain ⟨f0, f1, f3, B, bc, f2, hl, _⟩ := h.2 i n hi
    exact ⟨h.1.cells (g := q) rfl _ _ f0, (by rw [add_add]; exact h.1.cells (g := q) rfl _ _ f1), (by rw [add_add]; exact h.1.cells (g := q) rfl _ _ f3), B, bc, (by rw [add_add]; exact h.1.cells (g := q) rfl _ _ f2), hl⟩

/-- A row that something else grows beside. -/
theorem own_beside {w w' : World} {base : Nat} {e : TypeId} {k n : Nat} {v : Value} {xs : List Value} {row : Option Nat} (h : w.ownsRow base e k v n xs) (hg : w.grownBy w' row) (hr : ∀ q, row = some q → ∀ c z, w.heap[q]? ≠ some (.cells c e z)) : w'.ownsRow base e k v n xs := by
  refine ⟨h.1, h.2.imp id ?_⟩
  rintro ⟨g, cap, cur, h1, h2, h3, h4⟩
  exact ⟨g, cap, cur, h1, h2, (hg.block g (lt_of_get h3) (fun e => hr g e.symm _ _ h3)).trans h3, h4⟩
theorem NodesX.beside {w w' : World} {base : Nat} {X X' : Nat → Prop} {v : Value} {ns : List Nd} {xs : List Value} {row : Option Nat} (h : NodesX w base X v ns xs) (hg : w.grownBy w' row)
    (hX : ∀ q, q < w.heap.size → X q → X' q ∧ some q ≠ row) (hr : ∀ q, row = some q → ∀ c z, w.heap[q]? ≠ some (.cells c 61 z)) : NodesX w' base X' v ns xs :=
  ⟨own_beside h.1 hg hr, fun i n hi => by
    obtain ⟨a, b, c, B, cap, d, hl, hB⟩ := h.2 i n hi
    refine ⟨a, b, c, B, cap, d, fun hp => ?_, fun ad he => ?_⟩
    · obtain ⟨ad, rfl, h1, h2⟩ := hl hp
      obtain ⟨hx, h3, _⟩ := hB ad rfl
      have k := hg.block ad.block h3 (hX _ h3 hx).2
      exact ⟨ad, rfl, Nat.lt_of_lt_of_le h1 hg.size, fun i x hi => by
        have := h2 i x hi
        unfold World.cell? at this ⊢
        rw [show (ad.add i).block = ad.block from by rw [addB]] at this ⊢
        rw [k]
        exact this⟩
    · obtain ⟨hx, h3, h4⟩ := hB ad he
      exact ⟨(hX _ h3 hx).1, Nat.lt_of_lt_of_le h3 hg.size, by rw [hg.block _ h3 (hX _ h3 hx).2]; exact h4⟩⟩
theorem NodesX.mono {w : World} {base : Nat} {X X' : Nat → Prop} {v : Value} {ns : List Nd} {xs : List Value} (h : NodesX w base X v ns xs) (hX : ∀ q, q < w.heap.size → X q → X' q) : NodesX w base X' v ns xs :=
  ⟨h.1, fun i n hi => by
    obtain ⟨a, b, c, B, cap, d, hl, hB⟩ := h.2 i n hi
    exact ⟨a, b, c, B, cap, d, hl, fun ad he => ⟨hX _ (hB ad he).2.1 (hB ad he).1, (hB ad he).2⟩⟩⟩
theorem grown_setCell {w : World} {m j : Nat} {u : Value} : w.grownBy (w.setCell ⟨m, j, none⟩ u) (some m) :=
  ⟨rfl, rfl, rfl, by simp, fun k _ hk => heap_setCell_ne (fun e => hk (by rw [e]))⟩
theorem NodesX.setCell {w : World} {base m j : Nat} {X : Nat → Prop} {v u : Value} {ns : List Nd} {xs : List Value} (h : NodesX w base X v ns xs) (hX : ∀ q, X q → q ≠ m) (hm : ∀ c z, w.heap[m]? ≠ some (.cells c 61 z)) : NodesX (w.setCell ⟨m, j, none⟩ u) base X v ns xs :=
  h.beside grown_setCell (fun q _ hx => ⟨hx, fun e => hX q hx (Option.some.inj e)⟩) (fun q e => by injection e with e; subst e; exact hm)

set_option maxRecDepth 100000 in
set_option maxHeartbeats 1600000 in
theorem constant_c (wd v : Int) (w : World) :
    Calls Tryz.prog 61 #[.int .i64 wd, .int .i64 v] w fun e w' => e = .returned (.agg #[.int .i64 0, .int .i64 wd, .slice none 0 0, .int .i64 v]) ∧ Below w.heap.size w w' := by
  go_enter Tryz.func61, Tryz.ntmps61
  go_upto_region 1 with (fail)
  have hb0 := (Below.refl w.heap.size w).alloc (Nat.le_refl _) (.cells #[.int .i64 0, .int .i64 0, .slice none 0 0, .int .i64 0] 61)
  have rR : (w.alloc (.cells #[.int .i64 0, .int .i64 0, .slice none 0 0, .int .i64 0] 61)).heap[w.heap.size]? = some (.cells #[.int .i64 0, .int .i64 0, .slice none 0 0, .int .i64 0] 61) := heap_alloc_new _ _
  generalize (w.alloc (.cells #[.int .i64 0, .int .i64 0, .slice none 0 0, .int .i64 0] 61)) = W0 at *
  have HF := Lib.hid (((((hb0.setCell (p := ⟨w.heap.size, 0, none⟩) (Nat.le_refl _) (.int .i64 0)).setCell (p := ⟨w.heap.size, 1, none⟩) (Nat.le_refl _) (.int .i64 wd)).setCell (p := ⟨w.heap.size, 2, none⟩) (Nat.le_refl _) (.slice none 0 0)).setCell (p := ⟨w.heap.size, 3, none⟩) (Nat.le_refl _) (.int .i64 v)))
  have r0 := cell_block (i := 0) rR
  have e0 := free_block (i := 0) rR
  have r1 := cell_block (i := 1) rR
  have e1 := free_block (i := 1) rR
  have r2 := cell_block (i := 2) rR
  have e2 := free_block (i := 2) rR
  have r3 := cell_block (i := 3) rR
  have e3 := free_block (i := 3) rR
  simp at r0 r1 r2 r3
  go_wp2
  refine bodyPost_ret (by simp [results, Tryz.results61, go_sem, r0, r1, r2, r3]; try rfl) rfl ?_
  exact ⟨rfl, HF.out⟩

end Go.Proofs.YtkdonapgonegkaaGreatDoor

set_option linter.unusedSimpArgs false
set_option linter.unusedVariables false
namespace Go.Proofs.YtkdonapgonegkaaGreatDoor
open Go.RowKit Go.BigFrame

def CopiedT (w : World) (ns : List Int) (e : Ending) (w' : World) : Prop := ∃ A' cap', e = .returned (.slice A' ns.length cap') ∧ LiesI w' A' ns ∧ (∀ ad, A' = some ad → w.heap.size ≤ ad.block ∧ ∃ cur z, w'.heap[ad.block]? = some (.cells cur 3 z)) ∧ Below w.heap.size w w'

set_option maxRecDepth 100000 in
set_option maxHeartbeats 1600000 in
theorem CopyIntsT_c (A : Option Addr) (cap : Nat) (ns : List Int) (w : World) (h : LiesI w A ns) (hA : ns.length = 0 → A = none ∧ cap = 0 ∨ ∃ ad, A = some ad) (h16 : ns.length ≤ 65536) :
    Calls Tryz.prog 9 #[.slice A ns.length cap] w (CopiedT w ns) := by
  obtain ⟨i0, hi, hz0, hz1, hz2⟩ := info_parts int_info
  have hown0 := World.ownsRow_lit (base := w.heap.size) (e := 3) (size := 1) w #[] 0 (Nat.le_refl _) (by unfold maxLen; omega) rfl
  have fin : ∀ (v' : Value) (w3 : World), w3.ownsRow w.heap.size 3 1 v' (0 + ns.length) ([] ++ ns.map (.int .i64)) → ∃ A' cap', Ending.returned v' = .returned (.slice A' ns.length cap') ∧ LiesI w3 A' ns ∧ ∀ ad, A' = some ad → w.heap.size ≤ ad.block ∧ ∃ cur z, w3.heap[ad.block]? = some (.cells cur 3 z) := by
    intro v' w3 ho
    rw [Nat.zero_add, List.nil_append] at ho
    rcases ho.2 with ⟨rfl, h0⟩ | ⟨g, cap', cur, rfl, hgb, hg3, _⟩
    · exact ⟨none, 0, by rw [h0], (fun hp => by omega), fun ad h => by cases h⟩
    · exact ⟨_, cap', rfl, LiesI.of_own ho, fun ad h => by injection h with h; subst h; exact ⟨hgb, cur, _, hg3⟩⟩
  have HF := Lib.hid fin
  have HO : Hid (∀ u ∈ ns.map (Value.int .i64), u.oneCell' = true) := Lib.hid (by
    intro u hu
    obtain ⟨x, _, rfl⟩ := List.mem_map.1 hu
    rfl)
  have hm1 : 0 + ns.length ≤ maxLen := by unfold maxLen; omega
  have hm2 : (0 + ns.length) * 8 ≤ 140737488355328 := by omega
  have HL : Hid ((ns.map (Value.int .i64)).length = ns.length * 1) := Lib.hid (by simp)
  clear fin
  have way : ∀ ad : Addr, A = some ad → (0 < ns.length → ad.block < w.heap.size) → (∀ i x, ns[i]? = some x → w.cell? (ad.add i) = some (.int .i64 x)) →
      Calls Tryz.prog 9 #[.slice A ns.length cap] w (CopiedT w ns) := by
    rintro ad rfl hb hc
    have hcells : ∀ j u, (ns.map (Value.int .i64))[j]? = some u → (w.alloc (.cells #[] 3)).cell? (ad.add j) = some u := by
      intro j u hj
      rw [List.getElem?_map] at hj
      cases hx : ns[j]? with
      | none => rw [hx] at hj; cases hj
      | some x =>
        rw [hx] at hj
        injection hj with hj
        subst hj
        have hb' := hb (by have := (List.getElem?_eq_some_iff.1 hx).1; omega)
        rw [World.cell?_alloc_lt _ _ _ (by rw [addB]; exact hb')]
        exact hc j x hx
    have HC := Lib.hid hcells
    clear hcells hc h hA
    go_enter Tryz.func9, Tryz.ntmps9
    go_wp2_with (at_builtin; refine wpList_append_own _ rfl _ _ 22 rfl w.heap.size 3 i0 (.int .i64 0) 1 8 Tryz.underlying22 hi hz0 hz1 hz2 rfl (by decide) _ _ _ rfl hown0 ad ns.length cap (ns.map (.int .i64)) rfl HL.out HC.out HO.out hm1 hm2 (by simp) ?_; intro v' w3 hown' hgrow3 hnn)
    go_wp2
    go_ret
    obtain ⟨A', cap', h1, h2, h3⟩ := HF.out v' w3 hown'
    refine ⟨A', cap', h1, h2, h3, ((Below.refl _ _).alloc (Nat.le_refl _) _).grown hgrow3 (by simp) (fun q hq => ?_)⟩
    have hq' : some w.heap.size = some q := hq
    injection hq' with hq'
    omega
  by_cases h0 : 0 < ns.length
  · obtain ⟨ad, e, hb, hc⟩ := h h0
    exact way ad e (fun _ => hb) hc
  · rcases hA (by omega) with ⟨rfl, rfl⟩ | ⟨ad, e⟩
    · obtain rfl : ns = [] := List.eq_nil_of_length_eq_zero (by omega)
      have hown1 := hown0
      clear way hown0 HF HO HL h hA
      go_enter Tryz.func9, Tryz.ntmps9
      go_wp2_with (at_builtin; refine wpList_append_own_none rfl _ _ 22 rfl w.heap.size 3 i0 1 Tryz.underlying22 hi _ _ _ rfl hown1 rfl ?_)
      go_wp2
      go_ret
      exact ⟨some ⟨w.heap.size, 0, none⟩, 0, rfl, (fun hp => by simp at hp), (fun ad h => by injection h with h; subst h; exact ⟨Nat.le_refl _, #[], _, heap_alloc_new _ _⟩), (Below.refl _ _).alloc (Nat.le_refl _) _⟩
    · exact way ad e (fun h => absurd h h0) fun i p hp => by rw [List.getElem?_eq_none (by omega)] at hp; cases hp


/-- So many nodes are copied into a row of cells. -/
def DidX (w : World) (g : Nat) (ns : List Nd) (k : Nat) (xs : List Value) : Prop := ∀ i n, i < k → ns[i]? = some n → xs[i * 4]? = some (.int .i64 n.op) ∧ xs[i * 4 + 1]? = some (.int .i64 n.wd) ∧ xs[i * 4 + 3]? = some (.int .i64 n.v) ∧
  ∃ B cap, xs[i * 4 + 2]? = some (.slice B n.args.length cap) ∧ LiesI w B n.args ∧ ∀ ad, B = some ad → g < ad.block ∧ ad.block < w.heap.size ∧ ∀ cur fz, w.heap[ad.block]? ≠ some (.cells cur 61 fz)
theorem DidX.set {w : World} {g k j : Nat} {ns : List Nd} {xs : List Value} {u : Value} (h : DidX w g ns k xs) (hj : k * 4 ≤ j) : DidX (w.setCell ⟨g, j, none⟩ u) g ns k (xs.set j u) := fun i n hi hn => by
  obtain ⟨a, b, c, B, cap, d, hl, hB⟩ := h i n hi hn
  refine ⟨?_, ?_, ?_, B, cap, ?_, hl.set (fun ad e => (hB ad e).1), fun ad e => ⟨(hB ad e).1, (by simpa using (hB ad e).2.1), by rw [heap_setCell_ne (by have := (hB ad e).1; omega)]; exact (hB ad e).2.2⟩⟩
  all_goals rw [List.getElem?_set_ne (by omega)]; assumption
theorem DidX.below {w W : World} {g k : Nat} {ns : List Nd} {xs : List Value} (h : DidX w g ns k xs) (hb : Below w.heap.size w W) : DidX W g ns k xs := fun i n hi hn => by
  obtain ⟨a, b, c, B, cap, d, hl, hB⟩ := h i n hi hn
  exact ⟨a, b, c, B, cap, d, hl.below hb, fun ad e => ⟨(hB ad e).1, Nat.lt_of_lt_of_le (hB ad e).2.1 hb.size, by rw [hb.block _ (hB ad e).2.1]; exact (hB ad e).2.2⟩⟩
theorem DidX.setW {w : World} {g k j : Nat} {ns : List Nd} {xs : List Value} {u : Value} (h : DidX w g ns k xs) : DidX (w.setCell ⟨g, j, none⟩ u) g ns k xs := fun i n hi hn => by
  obtain ⟨a, b, c, B, cap, d, hl, hB⟩ := h i n hi hn
  exact ⟨a, b, c, B, cap, d, hl.set (fun ad e => (hB ad e).1), fun ad e => ⟨(hB ad e).1, (by simpa using (hB ad e).2.1), by rw [heap_setCell_ne (by have := (hB ad e).1; omega)]; exact (hB ad e).2.2⟩⟩
theorem DidX.next {w : World} {g k cap : Nat} {ns : List Nd} {xs : List Value} {x : Nd} {y : Value} {B : Option Addr} (h : DidX w g ns k xs) (hx : ns[k]? = some x) (hl : xs.length = ns.length * 4) (hk : k < ns.length) (hL : LiesI w B x.args) (hB : ∀ ad, B = some ad → g < ad.block ∧ ad.block < w.heap.size ∧ ∀ cur fz, w.heap[ad.block]? ≠ some (.cells cur 61 fz)) :
    DidX w g ns (k + 1) (((((xs.set (k * 4) (.int .i64 x.op)).set (k * 4 + 1) (.int .i64 x.wd)).set (k * 4 + 2) y).set (k * 4 + 3) (.int .i64 x.v)).set (k * 4 + 2) (.slice B x.args.length cap)) := by
  intro i n hi hn
  by_cases hik : i < k
  · obtain ⟨a, b, c, B', cap', d, hl', hB'⟩ := h i n hik hn
    refine ⟨?_, ?_, ?_, B', cap', ?_, hl', hB'⟩
    all_goals
      rw [List.getElem?_set_ne (by omega), List.getElem?_set_ne (by omega), List.getElem?_set_ne (by omega), List.getElem?_set_ne (by omega), List.getElem?_set_ne (by omega)]
      assumption
  · obtain rfl : i = k := by omega
    rw [hx] at hn
    obtain rfl := Option.some.inj hn
    refine ⟨?_, ?_, ?_, B, cap, ?_, hL, hB⟩
    · rw [List.getElem?_set_ne (by omega), List.getElem?_set_ne (by omega), List.getElem?_set_ne (by omega), List.getElem?_set_ne (by omega), List.getElem?_set_self (by omega)]
    · rw [List.getElem?_set_ne (by omega), List.getElem?_set_ne (by omega), List.getElem?_set_ne (by omega), List.getElem?_set_self (by simp; omega)]
    · rw [List.getElem?_set_ne (by omega), List.getElem?_set_self (by simp; omega)]
    · rw [List.getElem?_set_self (by simp; omega)]

/-- A copy of nodes, a row of the call's own. -/
def CopiedX (w : World) (ns : List Nd) (e : Ending) (w' : World) : Prop := ∃ xs, e = .returned (.slice (some ⟨w.heap.size, 0, none⟩) ns.length ns.length) ∧ NodesX w' w.heap.size (fun _ => True) (.slice (some ⟨w.heap.size, 0, none⟩) ns.length ns.length) ns xs ∧ Below w.heap.size w w'

set_option maxRecDepth 100000 in
set_option maxHeartbeats 1600000 in
theorem CopyNodesX_c (A : Option Addr) (cap : Nat) (ns : List Nd) (hns : ns.length ≤ 65536) (hla : ∀ n ∈ ns, n.args.length ≤ 65536) (w : World) (h : LiesG w A ns) :
    Calls Tryz.prog 10 #[.slice A ns.length cap] w (CopiedX w ns) := by
  obtain ⟨i0, hi, hz0, hz1, hz2⟩ := info_parts node_info
  have HG := Lib.hid h
  have HLA := Lib.hid hla
  clear h hla
  go_enter Tryz.func10, Tryz.ntmps10
  go_wp2_with (refine wpList_make_full _ rfl _ _ 23 rfl w.heap.size 61 i0 _ 4 Tryz.underlying23 hi hz0 hz1 .i64 .i64 _ _ ns.length rfl rfl rfl rfl (by rw [hz2]; omega) (by unfold maxLen; omega) (Nat.le_refl _) ?_; intro W1 hown hgr)
  have hb1 : Below w.heap.size w W1 := (Below.refl _ _).grown hgr (Nat.le_refl _) (fun q hq => by cases hq)
  have hgl : w.heap.size < W1.heap.size := (hown.lt w.heap.size rfl).2
  have R0 := Lib.hid hown
  clear hown hgr
  go_wp2
  go_loopw [4] (fun v4 wr => ∃ (k : Nat) (xs : List Value), k ≤ ns.length ∧ v4 = .int .i64 k ∧ wr.ownsRow w.heap.size 61 4 (.slice (some ⟨w.heap.size, 0, none⟩) ns.length ns.length) ns.length xs ∧ DidX wr w.heap.size ns k xs ∧ Below w.heap.size w wr) (fun v4 _ => ns.length - (intOf v4).toNat)
  case atStart => exact ⟨0, _, by omega, rfl, R0.out, fun i n hi => by omega, hb1⟩
  case round =>
    obtain ⟨k, xs, hk, rfl, hown, hd, hb⟩ := hrel
    by_cases hlt : k < ns.length
    · have hkk : (k : Int) < ns.length := by omega
      have HX := Lib.hid (List.getElem?_eq_getElem hlt)
      have HL := Lib.hid (HLA.out _ (List.getElem_mem hlt))
      generalize ns[k] = x at *
      obtain ⟨ad, rfl, hbl, hnode⟩ := HG.out (by omega)
      obtain ⟨c0, c1, c3, B, bc, c2, hB, hB0, _⟩ := hnode k x HX.out
      have hbk : ∀ q : Addr, q.block = ad.block → wr.cell? q = w.cell? q := fun q hq => hb.cell (p := q) (by rw [hq]; exact hbl)
      have a0 := (hbk (ad.add (k * 4)) (by rw [addB])).trans c0
      have a1 : wr.cell? ⟨(ad.add (k * 4)).block, (ad.add (k * 4)).off + 1, none⟩ = some (.int .i64 x.wd) := (hbk ((ad.add (k * 4)).add 1) (by rw [addB, addB])).trans c1
      have a2 : wr.cell? ⟨(ad.add (k * 4)).block, (ad.add (k * 4)).off + 2, none⟩ = some (.slice B x.args.length bc) := (hbk ((ad.add (k * 4)).add 2) (by rw [addB, addB])).trans c2
      have a3 : wr.cell? ⟨(ad.add (k * 4)).block, (ad.add (k * 4)).off + 3, none⟩ = some (.int .i64 x.v) := (hbk ((ad.add (k * 4)).add 3) (by rw [addB, addB])).trans c3
      obtain ⟨u0, d0⟩ := own_at hown (j := k * 4) (by omega)
      obtain ⟨u1, d1⟩ := own_at hown (j := k * 4 + 1) (by omega)
      obtain ⟨u2, d2⟩ := own_at hown (j := k * 4 + 2) (by omega)
      obtain ⟨u3, d3⟩ := own_at hown (j := k * 4 + 3) (by omega)
      have e0 := hown.frozenAt (k * 4)
      have e1 := hown.frozenAt (k * 4 + 1)
      have e2 := hown.frozenAt (k * 4 + 2)
      have e3 := hown.frozenAt (k * 4 + 3)
      have HD := Lib.hid hd
      have HO := Lib.hid hown
      have HB := Lib.hid hb
      have HC2 := Lib.hid c2
      clear hnode c0 c1 c2 c3 hbk hd hown hb
      go_upto_region 6 with (fail)
      clear a0 a1 a2 a3 d0 d1 d2 d3 e0 e1 e2 e3
      have ho1 := ((((HO.out.stored (k * 4) (.int .i64 x.op)).1.stored (k * 4 + 1) (.int .i64 x.wd)).1.stored (k * 4 + 2) (.slice B x.args.length bc)).1.stored (k * 4 + 3) (.int .i64 x.v)).1
      have hd1 := ((((HD.out.setW (j := k * 4) (u := .int .i64 x.op)).setW (j := k * 4 + 1) (u := .int .i64 x.wd)).setW (j := k * 4 + 2) (u := .slice B x.args.length bc)).setW (j := k * 4 + 3) (u := .int .i64 x.v))
      have hb1 : Below w.heap.size w ((((wr.setCell ⟨w.heap.size, k * 4, none⟩ (.int .i64 x.op)).setCell ⟨w.heap.size, k * 4 + 1, none⟩ (.int .i64 x.wd)).setCell ⟨w.heap.size, k * 4 + 2, none⟩ (.slice B x.args.length bc)).setCell ⟨w.heap.size, k * 4 + 3, none⟩ (.int .i64 x.v)) :=
        (((HB.out.setCell (Nat.le_refl _) _).setCell (Nat.le_refl _) _).setCell (Nat.le_refl _) _).setCell (Nat.le_refl _) _
      generalize ((((wr.setCell ⟨w.heap.size, k * 4, none⟩ (.int .i64 x.op)).setCell ⟨w.heap.size, k * 4 + 1, none⟩ (.int .i64 x.wd)).setCell ⟨w.heap.size, k * 4 + 2, none⟩ (.slice B x.args.length bc)).setCell ⟨w.heap.size, k * 4 + 3, none⟩ (.int .i64 x.v)) = S1 at *
      have a2 : S1.cell? ⟨(ad.add (k * 4)).block, (ad.add (k * 4)).off + 2, none⟩ = some (.slice B x.args.length bc) := (hb1.cell (p := (ad.add (k * 4)).add 2) (by rw [addB, addB]; exact hbl)).trans HC2.out
      have HB1 := Lib.hid hb1
      have HO1 := Lib.hid ho1
      have HD1 := Lib.hid hd1
      clear hb1 ho1 hd1
      go_wp2_with fail
      refine (CopyIntsT_c B bc x.args S1 (hB.below HB1.out) hB0 HL.out).mono ?_
      rintro e W2 ⟨A', cap', rfl, hl2, hA2, hb2⟩
      have ho2 := own_below HO1.out hb2
      obtain ⟨u2, d2⟩ := own_at ho2 (j := k * 4 + 2) (by omega)
      have e2 := ho2.frozenAt (k * 4 + 2)
      have hgS : w.heap.size < S1.heap.size := (HO1.out.lt w.heap.size rfl).2
      have hA3 : ∀ ad, A' = some ad → w.heap.size < ad.block := fun ad h => Nat.lt_of_lt_of_le hgS (hA2 ad h).1
      have hA4 : ∀ ad, A' = some ad → w.heap.size < ad.block ∧ ad.block < (W2.setCell ⟨w.heap.size, k * 4 + 2, none⟩ (.slice A' x.args.length cap')).heap.size ∧ ∀ cur fz, (W2.setCell ⟨w.heap.size, k * 4 + 2, none⟩ (.slice A' x.args.length cap')).heap[ad.block]? ≠ some (.cells cur 61 fz) := fun ad h => by
        obtain ⟨_, cur, z, h2⟩ := hA2 ad h
        have h3 := hA3 ad h
        refine ⟨h3, by simpa using lt_of_get h2, fun c1 z1 h4 => ?_⟩
        rw [heap_setCell_ne (by omega), h2] at h4
        simp at h4
      have HF := Lib.hid (show ∃ xs', (W2.setCell ⟨w.heap.size, k * 4 + 2, none⟩ (.slice A' x.args.length cap')).ownsRow w.heap.size 61 4 (.slice (some ⟨w.heap.size, 0, none⟩) ns.length ns.length) ns.length xs' ∧ DidX (W2.setCell ⟨w.heap.size, k * 4 + 2, none⟩ (.slice A' x.args.length cap')) w.heap.size ns (k + 1) xs' ∧ Below w.heap.size w (W2.setCell ⟨w.heap.size, k * 4 + 2, none⟩ (.slice A' x.args.length cap')) from
        ⟨_, (ho2.stored (k * 4 + 2) (.slice A' x.args.length cap')).1, DidX.next ((HD1.out.below hb2).setW) HX.out HO.out.1 hlt (hl2.set hA3) hA4, (HB1.out.trans (hb2.mono (Nat.le_of_lt hgS))).setCell (Nat.le_refl _) _⟩)
      clear ho2 hl2 hA2 hb2 a2 hA3 hA4
      go_wp2
      go_roundw
      case rel =>
        obtain ⟨xs', f1, f2, f3⟩ := HF.out
        exact ⟨k + 1, xs', by omega, by go_num, f1, f2, f3⟩
      case measure => simp [intOf]; omega
    · obtain rfl : k = ns.length := by omega
      have HF := Lib.hid (show CopiedX w ns (.returned (.slice (some ⟨w.heap.size, 0, none⟩) ns.length ns.length)) wr from ⟨xs, rfl, ⟨hown, fun i n hi => by
        obtain ⟨f0, f1, f3, B, bc, f2, hl, hB⟩ := hd i n (List.getElem?_eq_some_iff.1 hi).1 hi
        exact ⟨f0, f1, f3, B, bc, f2, hl, fun ad e => ⟨trivial, (hB ad e).2⟩⟩⟩, hb⟩)
      clear hown hd hb
      go_wp2
      go_ret
      exact HF.out


theorem LiesI.setN {w : World} {A : Option Addr} {ns : List Int} {g j : Nat} {u : Value} (h : LiesI w A ns) (hne : ∀ ad, A = some ad → g ≠ ad.block) : LiesI (w.setCell ⟨g, j, none⟩ u) A ns := fun hp => by
  obtain ⟨ad, rfl, hb, hc⟩ := h hp
  have := hne ad rfl
  refine ⟨ad, rfl, by simpa using hb, fun i x hi => ?_⟩
  have k : (w.setCell ⟨g, j, none⟩ u).cell? (ad.add i) = w.cell? (ad.add i) := by
    unfold World.cell?
    rw [heap_setCell_other w ⟨g, j, none⟩ (ad.add i).block u (by rw [addB]; simp; omega)]
  exact k.trans (hc i x hi)
/-- A node put in the place of another one. -/
theorem NodesX.put {w : World} {base g cap bc k : Nat} {X : Nat → Prop} {ns : List Nd} {xs : List Value} {n : Nd} {B : Option Addr} (h : NodesX w base X (.slice (some ⟨g, 0, none⟩) ns.length cap) ns xs) (hk : k < ns.length) (hl : LiesI w B n.args)
    (hB : ∀ ad, B = some ad → X ad.block ∧ ad.block < w.heap.size ∧ ∀ cur fz, w.heap[ad.block]? ≠ some (.cells cur 61 fz)) :
    ∃ xs', NodesX ((((w.setCell ⟨g, k * 4, none⟩ (.int .i64 n.op)).setCell ⟨g, k * 4 + 1, none⟩ (.int .i64 n.wd)).setCell ⟨g, k * 4 + 2, none⟩ (.slice B n.args.length bc)).setCell ⟨g, k * 4 + 3, none⟩ (.int .i64 n.v)) base X (.slice (some ⟨g, 0, none⟩) ns.length cap) (ns.set k n) xs' := by
  have hx : xs.length = ns.length * 4 := h.1.1
  have ho1 := ((((h.1.stored (k * 4) (.int .i64 n.op)).1.stored (k * 4 + 1) (.int .i64 n.wd)).1.stored (k * 4 + 2) (.slice B n.args.length bc)).1.stored (k * 4 + 3) (.int .i64 n.v)).1
  have hg : ∃ cur fz, w.heap[g]? = some (.cells cur 61 fz) := by
    rcases h.1.2 with ⟨e, _⟩ | ⟨q, c1, cur, e, _, h3, _⟩
    · cases e
    · injection e with e; injection e with e; injection e with e
      subst e
      exact ⟨cur, _, h3⟩
  obtain ⟨cg, zg, hg⟩ := hg
  have keep : ∀ (A : Option Addr) (zs : List Int), LiesI w A zs → (∀ ad, A = some ad → X ad.block ∧ ad.block < w.heap.size ∧ ∀ cur fz, w.heap[ad.block]? ≠ some (.cells cur 61 fz)) →
      LiesI ((((w.setCell ⟨g, k * 4, none⟩ (.int .i64 n.op)).setCell ⟨g, k * 4 + 1, none⟩ (.int .i64 n.wd)).setCell ⟨g, k * 4 + 2, none⟩ (.slice B n.args.length bc)).setCell ⟨g, k * 4 + 3, none⟩ (.int .i64 n.v)) A zs ∧ ∀ ad, A = some ad → X ad.block ∧ ad.block < ((((w.setCell ⟨g, k * 4, none⟩ (.int .i64 n.op)).setCell ⟨g, k * 4 + 1, none⟩ (.int .i64 n.wd)).setCell ⟨g, k * 4 + 2, none⟩ (.slice B n.args.length bc)).setCell ⟨g, k * 4 + 3, none⟩ (.int .i64 n.v)).heap.size ∧ ∀ cur fz, ((((w.setCell ⟨g, k * 4, none⟩ (.int .i64 n.op)).setCell ⟨g, k * 4 + 1, none⟩ (.int .i64 n.wd)).setCell ⟨g, k * 4 + 2, none⟩ (.slice B n.args.length bc)).setCell ⟨g, k * 4 + 3, none⟩ (.int .i64 n.v)).heap[ad.block]? ≠ some (.cells cur 61 fz) := by
    intro A zs hA hf
    have hne : ∀ ad, A = some ad → g ≠ ad.block := fun ad e eq => by
      have := (hf ad e).2.2 cg zg
      rw [← eq] at this
      exact this hg
    refine ⟨(((hA.setN hne).setN hne).setN hne).setN hne, fun ad e => ⟨(hf ad e).1, by simpa using (hf ad e).2.1, ?_⟩⟩
    have := hne ad e
    rw [heap_setCell_ne this, heap_setCell_ne this, heap_setCell_ne this, heap_setCell_ne this]
    exact (hf ad e).2.2
  refine ⟨_, by rw [List.length_set]; exact ho1, fun i p hi => ?_⟩
  by_cases hik : i = k
  · subst hik
    rw [List.getElem?_set_self hk] at hi
    obtain rfl := Option.some.inj hi
    obtain ⟨k1, k2⟩ := keep B _ hl hB
    refine ⟨?_, ?_, ?_, B, bc, ?_, k1, k2⟩
    · rw [List.getElem?_set_ne (by omega), List.getElem?_set_ne (by omega), List.getElem?_set_ne (by omega), List.getElem?_set_self (by omega)]
    · rw [List.getElem?_set_ne (by omega), List.getElem?_set_ne (by omega), List.getElem?_set_self (by simp; omega)]
    · rw [List.getElem?_set_self (by simp; omega)]
    · rw [List.getElem?_set_ne (by omega), List.getElem?_set_self (by simp; omega)]
  · rw [List.getElem?_set_ne (fun e => hik e.symm)] at hi
    obtain ⟨a, b, c, B', cap', d, hl', hB'⟩ := h.2 i p hi
    obtain ⟨k1, k2⟩ := keep B' _ hl' hB'
    refine ⟨?_, ?_, ?_, B', cap', ?_, k1, k2⟩
    all_goals
      rw [List.getElem?_set_ne (by omega), List.getElem?_set_ne (by omega), List.getElem?_set_ne (by omega), List.getElem?_set_ne (by omega)]
      assumption

set_option maxRecDepth 100000 in
set_option maxHeartbeats 1600000 in
theorem moved_c (op wd v : Int) (B : Option Addr) (bc : Nat) (gs : List Int) (hal : gs.length ≤ 65536) (P : Option Addr) (cp : Nat) (ps : List Int) (hx : ∀ a ∈ gs, isIx a ps.length = true) (hps : ps.length ≤ 65536) (w : World) (hB : LiesI w B gs) (hP : LiesI w P ps) :
    Calls Tryz.prog 41 #[.agg #[.int .i64 op, .int .i64 wd, .slice B gs.length bc, .int .i64 v], .slice P ps.length cp] w (WithA w op wd v (pickL ps gs)) := by
  obtain ⟨i0, hi, hz0, hz1, hz2⟩ := info_parts int_info
  have HB := Lib.hid hB
  have HP0 := Lib.hid hP
  have HIX := Lib.hid hx
  obtain ⟨g, hg⟩ : ∃ g : Int → Int, g = fun i => ps.getD i.toNat 0 := ⟨_, rfl⟩
  have hgl : pickL ps gs = gs.map g := by rw [hg]; rfl
  rw [hgl]
  have HGG := Lib.hid hg
  clear hB hP hx hgl hg
  go_enter Tryz.func41, Tryz.ntmps41
  go_upto_region 1 with (fail)
  have rP : ((w.alloc (.cells #[.int .i64 op, .int .i64 wd, .slice B gs.length bc, .int .i64 v] 61)).alloc (.cells #[.int .i64 0, .int .i64 0, .slice none 0 0, .int .i64 0] 61)).heap[w.heap.size]? = some (.cells #[.int .i64 op, .int .i64 wd, .slice B gs.length bc, .int .i64 v] 61) := heap_alloc' (by simp) (heap_alloc_new _ _)
  have rR : ((w.alloc (.cells #[.int .i64 op, .int .i64 wd, .slice B gs.length bc, .int .i64 v] 61)).alloc (.cells #[.int .i64 0, .int .i64 0, .slice none 0 0, .int .i64 0] 61)).heap[w.heap.size + 1]? = some (.cells #[.int .i64 0, .int .i64 0, .slice none 0 0, .int .i64 0] 61) := heap_alloc_at (by simp)
  have hb0 : Below w.heap.size w ((w.alloc (.cells #[.int .i64 op, .int .i64 wd, .slice B gs.length bc, .int .i64 v] 61)).alloc (.cells #[.int .i64 0, .int .i64 0, .slice none 0 0, .int .i64 0] 61)) := ((Below.refl _ _).alloc (Nat.le_refl _) _).alloc (by simp) _
  have hs0 : w.heap.size + 2 ≤ ((w.alloc (.cells #[.int .i64 op, .int .i64 wd, .slice B gs.length bc, .int .i64 v] 61)).alloc (.cells #[.int .i64 0, .int .i64 0, .slice none 0 0, .int .i64 0] 61)).heap.size := by simp
  generalize ((w.alloc (.cells #[.int .i64 op, .int .i64 wd, .slice B gs.length bc, .int .i64 v] 61)).alloc (.cells #[.int .i64 0, .int .i64 0, .slice none 0 0, .int .i64 0] 61)) = W0 at *
  have p2 := cell_block (i := 2) rP
  simp at p2
  go_wp2_with fail
  go_loopw [5, 6] (fun v5 v6 wr => ∃ k : Nat, k ≤ gs.length ∧ v6 = .int .i64 k ∧ wr.ownsRow (w.heap.size + 2) 3 1 v5 ((gs.take k).map g).length (((gs.take k).map g).map (Value.int .i64)) ∧ wr.heap[w.heap.size]? = some (.cells #[.int .i64 op, .int .i64 wd, .slice B gs.length bc, .int .i64 v] 61) ∧ wr.heap[w.heap.size + 1]? = some (.cells #[.int .i64 0, .int .i64 0, .slice none 0 0, .int .i64 0] 61) ∧ Below w.heap.size w wr ∧ w.heap.size + 2 ≤ wr.heap.size) (fun _ v6 _ => gs.length - (intOf v6).toNat)
  case atStart => exact ⟨0, by omega, rfl, World.ownsRow_nil _ _ _ _, rP, rR, hb0, hs0⟩
  case round =>
    clear rP rR hb0 hs0 p2
    obtain ⟨k, hk, rfl, hown, rP, rR, hb, hs⟩ := hrel
    have p2 := cell_block (i := 2) rP
    simp at p2
    by_cases hlt : k < gs.length
    · have hkk : (k : Int) < gs.length := by omega
      have HX := Lib.hid (List.getElem?_eq_getElem hlt)
      have HM := Lib.hid (HIX.out _ (List.getElem_mem hlt))
      generalize gs[k] = a at *
      obtain ⟨a0, a1⟩ := isIx_iff.1 HM.out
      obtain ⟨p, rfl⟩ := Int.eq_ofNat_of_zero_le a0
      have hp : p < ps.length := by omega
      have HU := Lib.hid (List.getElem?_eq_getElem hp)
      have hga : g (p : Int) = ps[p] := by rw [HGG.out]; simp [List.getD, List.getElem?_eq_getElem hp]
      have HGA := Lib.hid hga
      clear hga
      generalize ps[p] = u at *
      obtain ⟨ap, rfl, hap, e0⟩ := HP0.out.cell HU.out
      have e1 := (hb.cell (p := ap.add p) (by rw [addB]; exact hap)).trans e0
      obtain ⟨ad, rfl, hbl, c0⟩ := HB.out.cell HX.out
      have c1 := (hb.cell (p := ad.add k) (by rw [addB]; exact hbl)).trans c0
      have HS := Lib.hid (map_snoc (g := g) HX.out)
      rw [HGA.out] at HS
      have hml : ((gs.take k).map g).length ≤ 65536 := by simp; omega
      generalize hm : ((gs.take k).map g).length = m at *
      clear c0 e0
      go_wp2_with (at_builtin; refine wpList_append_own _ rfl _ _ 22 rfl (w.heap.size + 2) 3 i0 (.int .i64 0) 1 8 Tryz.underlying22 hi hz0 hz1 hz2 rfl (by decide) _ _ _ rfl (hown.alloc _) ⟨_, 0, none⟩ 1 1 [.int .i64 _] rfl rfl (cell_one_new _ _ _) (fun x hx => by simp at hx; subst hx; rfl) (by unfold maxLen; omega) (by omega) (by first | omega | (simp; omega) | (simp at *; omega)) ?_; intro v' w3 hown' hgrow3 hnn)
      have HF := Lib.hid (own_snoc hown' hm.symm HS.out)
      have hal2 := hb.alloc hb.size (.cells #[.int .i64 u] 3)
      have HB2 := Lib.hid (hal2.grown hgrow3 hal2.size (fun q hq => Nat.le_trans (by omega) (hown.lt q hq).1))
      have hbp := ((Below.refl (w.heap.size + 2) wr).alloc hs (.cells #[.int .i64 u] 3)).grown hgrow3 (by simp; omega) (fun q hq => (hown.lt q hq).1)
      have HP := Lib.hid ((hbp.block _ (by omega)).trans rP)
      have HR := Lib.hid ((hbp.block _ (by omega)).trans rR)
      have hs3 := Nat.le_trans hs hbp.size
      clear hown' hgrow3 hown hal2 hbp rP rR p2
      go_wp2
      go_roundw
      case rel => exact ⟨k + 1, by omega, by go_num, HF.out, HP.out, HR.out, HB2.out, hs3⟩
      case measure => simp [intOf]; omega
    · obtain rfl : k = gs.length := by omega
      rw [List.take_length] at hown
      obtain ⟨A', cap', rfl, hc, hl, hfr⟩ := own_lies hown
      have HF := Lib.hid (show WithA w op wd v (gs.map g) (.returned (.agg #[.int .i64 op, .int .i64 wd, .slice A' gs.length cap', .int .i64 v])) (((((wr.setCell ⟨w.heap.size, 2, none⟩ (.slice A' gs.length cap')).setCell ⟨w.heap.size + 1, 0, none⟩ (.int .i64 op)).setCell ⟨w.heap.size + 1, 1, none⟩ (.int .i64 wd)).setCell ⟨w.heap.size + 1, 2, none⟩ (.slice A' gs.length cap')).setCell ⟨w.heap.size + 1, 3, none⟩ (.int .i64 v)) from
        ⟨A', cap', by rw [List.length_map], hc, ((((hl.set (fun ad h => by have := (hfr ad h).1; omega)).set (fun ad h => by have := (hfr ad h).1; omega)).set (fun ad h => by have := (hfr ad h).1; omega)).set (fun ad h => by have := (hfr ad h).1; omega)).set (fun ad h => by have := (hfr ad h).1; omega), fun ad h => (by obtain ⟨h1, cur, h2⟩ := hfr ad h; exact ⟨by omega, cur, by rw [heap_setCell_ne (by omega), heap_setCell_ne (by omega), heap_setCell_ne (by omega), heap_setCell_ne (by omega), heap_setCell_ne (by omega)]; exact h2⟩),
          ((((hb.setCell (Nat.le_refl _) _).setCell (Nat.le_succ _) _).setCell (Nat.le_succ _) _).setCell (Nat.le_succ _) _).setCell (Nat.le_succ _) _⟩)
      clear hown hl hc hfr hb
      have p0 := cell_block (i := 0) rP
      have f0 := free_block (i := 0) rP
      have r0 := cell_block (i := 0) rR
      have e0 := free_block (i := 0) rR
      have p1 := cell_block (i := 1) rP
      have f1 := free_block (i := 1) rP
      have r1 := cell_block (i := 1) rR
      have e1 := free_block (i := 1) rR
      have p2 := cell_block (i := 2) rP
      have f2 := free_block (i := 2) rP
      have r2 := cell_block (i := 2) rR
      have e2 := free_block (i := 2) rR
      have p3 := cell_block (i := 3) rP
      have f3 := free_block (i := 3) rP
      have r3 := cell_block (i := 3) rR
      have e3 := free_block (i := 3) rR
      simp at p0 p1 p2 p3 r0 r1 r2 r3
      go_wp2
      refine bodyPost_ret (by simp [results, Tryz.results41, go_sem, r0, r1, r2, r3]; try rfl) rfl ?_
      exact HF.out

set_option maxRecDepth 100000 in
set_option maxHeartbeats 1600000 in
theorem SameNodes_c (A : Option Addr) (ca : Nat) (B : Option Addr) (cb : Nat) (ns : List Nd) (hns : ns.length ≤ 65536) (hla : ∀ n ∈ ns, n.args.length ≤ 65536) (w : World) (hA : LiesN w A ns) (hB : LiesN w B ns) :
    Calls Tryz.prog 15 #[.slice A ns.length ca, .slice B ns.length cb] w fun e w' => e = .returned (.bool true) ∧ ∃ z : Aft w, w' = z.val := by
  have HA := Lib.hid hA
  have HB := Lib.hid hB
  have HLA := Lib.hid hla
  clear hA hB hla
  go_enter Tryz.func15, Tryz.ntmps15
  go_wp2
  go_loopw [5] (fun v5 wr => ∃ k : Nat, k ≤ ns.length ∧ v5 = .int .i64 k ∧ Below w.heap.size w wr) (fun v5 _ => ns.length - (intOf v5).toNat)
  case atStart => exact ⟨0, by omega, rfl, Below.refl _ _⟩
  case round =>
    obtain ⟨k, hk, rfl, hb⟩ := hrel
    by_cases hlt : k < ns.length
    · have hkk : (k : Int) < ns.length := by omega
      have HX := Lib.hid (List.getElem?_eq_getElem hlt)
      have hxl := HLA.out _ (List.getElem_mem hlt)
      generalize ns[k] = x at *
      obtain ⟨aa, rfl, hbla, c0, c1, c3, Ba, bca, c2, hBa⟩ := HA.out.cells HX.out
      have hbk : ∀ (z : Aft wr) (p : Addr), p.block = aa.block → z.val.cell? p = w.cell? p := fun z p hp => (z.below hb hb.size).cell (p := p) (by rw [hp]; exact hbla)
      have a0 : ∀ z : Aft wr, z.val.cell? (aa.add (k * 4)) = some (.int .i64 x.op) := fun z => (hbk z (aa.add (k * 4)) (by rw [addB])).trans c0
      have a1 : ∀ z : Aft wr, z.val.cell? ⟨(aa.add (k * 4)).block, (aa.add (k * 4)).off + 1, none⟩ = some (.int .i64 x.wd) := fun z => (hbk z ((aa.add (k * 4)).add 1) (by rw [addB, addB])).trans c1
      have a2 : ∀ z : Aft wr, z.val.cell? ⟨(aa.add (k * 4)).block, (aa.add (k * 4)).off + 2, none⟩ = some (.slice Ba x.args.length bca) := fun z => (hbk z ((aa.add (k * 4)).add 2) (by rw [addB, addB])).trans c2
      have a3 : ∀ z : Aft wr, z.val.cell? ⟨(aa.add (k * 4)).block, (aa.add (k * 4)).off + 3, none⟩ = some (.int .i64 x.v) := fun z => (hbk z ((aa.add (k * 4)).add 3) (by rw [addB, addB])).trans c3
      clear c0 c1 c2 c3 hbk
      have HLa := Lib.hid hBa
      clear hBa
      obtain ⟨ab, rfl, hblb, c0, c1, c3, Bb, bcb, c2, hBb⟩ := HB.out.cells HX.out
      have hbk : ∀ (z : Aft wr) (p : Addr), p.block = ab.block → z.val.cell? p = w.cell? p := fun z p hp => (z.below hb hb.size).cell (p := p) (by rw [hp]; exact hblb)
      have b0 : ∀ z : Aft wr, z.val.cell? (ab.add (k * 4)) = some (.int .i64 x.op) := fun z => (hbk z (ab.add (k * 4)) (by rw [addB])).trans c0
      have b1 : ∀ z : Aft wr, z.val.cell? ⟨(ab.add (k * 4)).block, (ab.add (k * 4)).off + 1, none⟩ = some (.int .i64 x.wd) := fun z => (hbk z ((ab.add (k * 4)).add 1) (by rw [addB, addB])).trans c1
      have b2 : ∀ z : Aft wr, z.val.cell? ⟨(ab.add (k * 4)).block, (ab.add (k * 4)).off + 2, none⟩ = some (.slice Bb x.args.length bcb) := fun z => (hbk z ((ab.add (k * 4)).add 2) (by rw [addB, addB])).trans c2
      have b3 : ∀ z : Aft wr, z.val.cell? ⟨(ab.add (k * 4)).block, (ab.add (k * 4)).off + 3, none⟩ = some (.int .i64 x.v) := fun z => (hbk z ((ab.add (k * 4)).add 3) (by rw [addB, addB])).trans c3
      clear c0 c1 c2 c3 hbk
      have HLb := Lib.hid hBb
      clear hBb
      have HI : Hid (∀ z : Aft wr, Calls Tryz.prog 16 #[.slice Ba x.args.length bca, .slice Bb x.args.length bcb] z.val fun e w' => e = .returned (.bool true) ∧ ∃ y : Aft z.val, w' = y.val) := Lib.hid (fun z => by
        have := Ints_c Ba bca x.args hxl Bb bcb x.args hxl z.val (HLa.out.below (z.below hb hb.size)) (HLb.out.below (z.below hb hb.size))
        rwa [eqL_refl] at this)
      have HBB := Lib.hid hb
      clear hb
      go_wp2_with fail
      refine wp_region_aft (by kernel_rfl) (by kernel_rfl) ?_
      repeat (go_big_quiet_step ((go_at_call 16; exact Calls.qa (HI.out _))))
      refine wpQuiet_nil ?_
      intro y
      have hby := y.below HBB.out HBB.out.size
      go_wp2
      go_roundw
      case rel => exact ⟨k + 1, by omega, by go_num, hby⟩
      case measure => simp [intOf]; omega
    · obtain rfl : k = ns.length := by omega
      go_wp2
      go_ret
      exact ⟨rfl, Below.aft hb⟩

end Go.Proofs.YtkdonapgonegkaaGreatDoor

set_option linter.unusedSimpArgs false
set_option linter.unusedVariables false
namespace Go.Proofs.YtkdonapgonegkaaGreatDoor
open Go.RowKit

section
variable {P : Program} {ops : Array Oper} {Q : Exit → Act → World → Prop} {md : Region.Mode}

theorem unlisted_set {listed : Array Bool} {i : Nat} (h : listed.getD i true = false) : (listed.setIfInBounds i true).toList.countP (!·) + 1 = listed.toList.countP (!·) := by
  have hlt : i < listed.size := by
    rcases Nat.lt_or_ge i listed.size with h1 | h1
    · exact h1
    · rw [Array.getD_eq_getD_getElem?, Array.getElem?_eq_none h1] at h; cases h
  have hi : listed[i] = false := by rw [Array.getD_eq_getD_getElem?, Array.getElem?_eq_getElem hlt] at h; simpa using h
  have hl : i < listed.toList.length := by simpa using hlt
  rw [Array.toList_setIfInBounds, List.countP_set hl]
  have hi' : listed.toList[i] = false := by simpa using hi
  have hpos : 0 < listed.toList.countP (!·) := List.countP_pos_iff.2 ⟨listed.toList[i], List.getElem_mem hl, by rw [hi']; rfl⟩
  rw [hi']
  generalize listed.toList.countP (!·) = n at *
  show n - 1 + 0 + 1 = n
  omega
theorem wpAny_J {J : Array Bool → Act → World → Prop}
    (hs : ∀ i o, ops[i]? = some o → ∀ listed a w, J listed a w → listed.getD i true = false → (∀ e ∈ o.after, Region.binds md e = true → listed.getD e.on false = true) → wpOp P ops Q i (J (listed.setIfInBounds i true)) a w)
    (hq : ∀ listed a w, J listed a w → Region.ready md ops listed = [] → Q .normal a w) :
    ∀ (f : Nat) (listed : Array Bool) (a : Act) (w : World), listed.toList.countP (!·) ≤ f → J listed a w → wpAny P md ops Q f listed a w
  | 0, listed, a, w, hf, hJ => by
    have hr : Region.ready md ops listed = [] := by
      cases h : Region.ready md ops listed with
      | nil => rfl
      | cons i r =>
        have hi : i ∈ Region.ready md ops listed := by rw [h]; exact List.mem_cons_self
        have := unlisted_set (mem_ready.1 hi).1
        omega
    exact ⟨hr, hq _ _ _ hJ hr⟩
  | f + 1, listed, a, w, hf, hJ => by
    refine ⟨fun hr => hq _ _ _ hJ hr, fun i hi => ?_⟩
    obtain ⟨h1, o, ho, h2⟩ := mem_ready.1 hi
    have := unlisted_set h1
    exact wpOp_mono (fun a' w' hJ' => wpAny_J hs hq f _ a' w' (by omega) hJ') (hs i o ho listed a w hJ h1 h2)

/-- A region that draws its order, by an invariant over which operations have been done. -/
theorem wp_region_J {id : Nat} {a : Act} {w : World} {l : List Oper} (J : Array Bool → Act → World → Prop) (hm : P.follows .mixedOrders = true)
    (h0 : J (Array.replicate l.toArray.size false) a (w.drew))
    (hs : ∀ i o, l[i]? = some o → ∀ listed a w, J listed a w → listed.getD i true = false → (∀ e ∈ o.after, Region.binds .any e = true → listed.getD e.on false = true) → wpOp P l.toArray Q i (J (listed.setIfInBounds i true)) a w)
    (hq : ∀ listed a w, J listed a w → Region.ready .any l.toArray listed = [] → Q .normal a w) :
    (Code.region id l.toArray true).wp P Q a w := by
  refine wp_region_any hm ?_
  refine wpAny_J (J := J) (fun i o ho => hs i o (by simpa using ho)) hq _ _ _ _ ?_ h0
  refine Nat.le_trans List.countP_le_length ?_
  simp
end
end Go.Proofs.YtkdonapgonegkaaGreatDoor

set_option linter.unusedSimpArgs false
set_option linter.unusedVariables false
namespace Go.Proofs.YtkdonapgonegkaaGreatDoor
open Go.RowKit

/-- The frame a with those of the values laid in whose bit is set. -/
def frm (a : Act) : List (Bool × Tmp × Value) → Act
  | [] => a
  | (b, d, v) :: S => if b then (frm a S).put (some d) v else frm a S
theorem fr_size (a : Act) : ∀ S, (frm a S).tmps.size = a.tmps.size
  | [] => rfl
  | (b, d, v) :: S => by
    unfold frm
    cases b
    · exact fr_size a S
    · simpa [Act.put] using fr_size a S
theorem put_other {a : Act} {d e : Tmp} {v : Value} (h : e ≠ d) : (a.put (some d) v).eval (.tmp e) = a.eval (.tmp e) := by
  simp [Act.put, Act.eval, Array.getD_eq_getD_getElem?, Array.getElem?_setIfInBounds_ne (Ne.symm h)]
theorem put_self {a : Act} {d : Tmp} {v : Value} (h : d < a.tmps.size) : (a.put (some d) v).eval (.tmp d) = v := by
  simp [Act.put, Act.eval, Array.getD_eq_getD_getElem?, Array.getElem?_setIfInBounds_self_of_lt h]
theorem fr_other {a : Act} {d : Tmp} : ∀ {S : List (Bool × Tmp × Value)}, d ∉ S.map (fun s => s.2.1) → (frm a S).eval (.tmp d) = a.eval (.tmp d)
  | [], _ => rfl
  | (b, d', v) :: S, h => by
    simp only [List.map_cons, List.mem_cons, not_or] at h
    unfold frm
    cases b
    · exact fr_other h.2
    · exact (put_other h.1).trans (fr_other h.2)
theorem mem_dst {S : List (Bool × Tmp × Value)} {j : Nat} {b : Bool} {d : Tmp} {v : Value} (h : S[j]? = some (b, d, v)) : d ∈ S.map (fun s => s.2.1) :=
  List.mem_map.2 ⟨_, List.mem_of_getElem? h, rfl⟩
theorem fr_off {a : Act} {d : Tmp} {v : Value} : ∀ {S : List (Bool × Tmp × Value)} {j : Nat}, (S.map (fun s => s.2.1)).Nodup → S[j]? = some (false, d, v) → (frm a S).eval (.tmp d) = a.eval (.tmp d)
  | [], j, _, h => by simp at h
  | (b, d', v') :: S, 0, hn, h => by
    simp at h
    obtain ⟨rfl, rfl, rfl⟩ := h
    simp only [List.map_cons, List.nodup_cons] at hn
    unfold frm
    exact fr_other hn.1
  | (b, d', v') :: S, j + 1, hn, h => by
    simp only [List.getElem?_cons_succ] at h
    simp only [List.map_cons, List.nodup_cons] at hn
    have hd : d ≠ d' := fun e => hn.1 (e ▸ mem_dst h)
    unfold frm
    cases b
    · exact fr_off hn.2 h
    · exact (put_other hd).trans (fr_off hn.2 h)
theorem fr_on {a : Act} {d : Tmp} {v : Value} (hd : d < a.tmps.size) : ∀ {S : List (Bool × Tmp × Value)} {j : Nat}, (S.map (fun s => s.2.1)).Nodup → S[j]? = some (true, d, v) → (frm a S).eval (.tmp d) = v
  | [], j, _, h => by simp at h
  | (b, d', v') :: S, 0, hn, h => by
    simp at h
    obtain ⟨rfl, rfl, rfl⟩ := h
    unfold frm
    exact put_self (by rw [fr_size]; exact hd)
  | (b, d', v') :: S, j + 1, hn, h => by
    simp only [List.getElem?_cons_succ] at h
    simp only [List.map_cons, List.nodup_cons] at hn
    have hd' : d ≠ d' := fun e => hn.1 (e ▸ mem_dst h)
    unfold frm
    cases b
    · exact fr_on hd hn.2 h
    · exact (put_other hd').trans (fr_on hd hn.2 h)
theorem put_put_comm {a : Act} {d e : Tmp} {u v : Value} (h : d ≠ e) : (a.put (some d) u).put (some e) v = (a.put (some e) v).put (some d) u :=
  Act.put_comm a u v fun x hx hy => by cases hx; cases hy; exact h rfl
theorem fr_set {a : Act} {d : Tmp} {v w : Value} : ∀ {S : List (Bool × Tmp × Value)} {j : Nat}, (S.map (fun s => s.2.1)).Nodup → S[j]? = some (false, d, w) → (frm a S).put (some d) v = frm a (S.set j (true, d, v))
  | [], j, _, h => by simp at h
  | (b, d', v') :: S, 0, hn, h => by
    simp at h
    obtain ⟨rfl, rfl, rfl⟩ := h
    simp only [List.set_cons_zero]
    conv => lhs; unfold frm
    conv => rhs; unfold frm
    simp
  | (b, d', v') :: S, j + 1, hn, h => by
    simp only [List.getElem?_cons_succ] at h
    simp only [List.map_cons, List.nodup_cons] at hn
    have hd' : d ≠ d' := fun e => hn.1 (e ▸ mem_dst h)
    simp only [List.set_cons_succ]
    conv => lhs; unfold frm
    conv => rhs; unfold frm
    cases b
    · simpa using fr_set hn.2 h
    · simp only [if_true]
      rw [put_put_comm (Ne.symm hd'), fr_set hn.2 h]

section
variable {P : Program} {Q : Exit → Act → World → Prop}
/-- Each operation waits for earlier ones alone. -/
def fwdB (l : List Oper) : Bool := l.zipIdx.all fun x => x.1.after.all fun e => !Region.binds .any e || decide (e.on < x.2)
theorem fwdB_at {l : List Oper} (h : fwdB l = true) {i : Nat} {o : Oper} (ho : l[i]? = some o) : ∀ e ∈ o.after, Region.binds .any e = true → e.on < i := by
  intro e he hb
  unfold fwdB at h
  have hm : (o, i) ∈ l.zipIdx := List.mem_zipIdx_iff_getElem?.2 ho
  have h1 := (List.all_eq_true.1 h) _ hm
  have h2 := (Array.all_eq_true'.1 h1) e he
  rw [hb] at h2
  simpa using h2
theorem all_done {l : List Oper} (h : fwdB l = true) {listed : Array Bool} (hz : listed.size = l.length) (hr : Region.ready .any l.toArray listed = []) : ∀ i, i < l.length → listed.getD i true = true := by
  intro i
  induction i using Nat.strongRecOn with
  | ind i ih =>
    intro hi
    cases hb : listed.getD i true with
    | true => rfl
    | false =>
      exfalso
      have ho := List.getElem?_eq_getElem hi
      have : i ∈ Region.ready .any l.toArray listed := mem_ready.2 ⟨hb, l[i], by simp [ho], fun e he hbi => by
        have hlt := fwdB_at h ho e he hbi
        have h1 := ih e.on hlt (by omega)
        rw [Array.getD_eq_getD_getElem?, Array.getElem?_eq_getElem (by omega)] at h1 ⊢
        simpa using h1⟩
      rw [hr] at this
      cases this

def zp (b : List Bool) (E : List (Tmp × Value)) : List (Bool × Tmp × Value) := b.zip E
theorem zp_dst {b : List Bool} {E : List (Tmp × Value)} (h : b.length = E.length) : (zp b E).map (fun s => s.2.1) = E.map Prod.fst := by
  unfold zp
  induction b generalizing E with
  | nil => cases E with | nil => rfl | cons x E => simp at h
  | cons y b ih => cases E with | nil => simp at h | cons x E => simp at h; simp [ih h]
theorem zp_at {b : List Bool} {E : List (Tmp × Value)} {j : Nat} {c : Bool} {d : Tmp} {v : Value} (hb : b[j]? = some c) (hE : E[j]? = some (d, v)) : (zp b E)[j]? = some (c, d, v) := by
  unfold zp
  rw [List.getElem?_zip_eq_some]
  exact ⟨hb, hE⟩
theorem fr_same {a : Act} : ∀ {b : List Bool} {E E' : List (Tmp × Value)}, E.length = E'.length → (∀ j : Nat, b[j]? = some true → E[j]? = E'[j]?) → frm a (zp b E) = frm a (zp b E')
  | [], E, E', _, _ => by simp [zp]
  | y :: b, [], [], _, _ => rfl
  | y :: b, [], _ :: _, h, _ => by simp at h
  | y :: b, _ :: _, [], h, _ => by simp at h
  | y :: b, (d, v) :: E, (d', v') :: E', h, hj => by
    have ih := fr_same (a := a) (b := b) (E := E) (E' := E') (by simpa using h) (fun j hb => by simpa using hj (j + 1) (by simpa using hb))
    show frm a ((y, d, v) :: zp b E) = frm a ((y, d', v') :: zp b E')
    unfold frm
    cases y
    · exact ih
    · have h0 := hj 0 (by simp)
      simp at h0
      obtain ⟨rfl, rfl⟩ := h0
      rw [ih]
theorem getD_some {b : List Bool} {j : Nat} (h : b.getD j false = true) : b[j]? = some true := by
  rw [List.getD_eq_getElem?_getD] at h
  cases hb : b[j]? with
  | none => rw [hb] at h; cases h
  | some c => rw [hb] at h; simpa using h
theorem getD_none' {b : List Bool} {j : Nat} (h : b.getD j true = false) : b[j]? = some false := by
  rw [List.getD_eq_getElem?_getD] at h
  cases hb : b[j]? with
  | none => rw [hb] at h; cases h
  | some c => rw [hb] at h; simpa using h
theorem ev_on {a : Act} {b : List Bool} {E : List (Tmp × Value)} {j : Nat} {d : Tmp} {v : Value} (hl : b.length = E.length) (hn : (E.map Prod.fst).Nodup) (hb : b[j]? = some true) (hE : E[j]? = some (d, v)) (hd : d < a.tmps.size) : (frm a (zp b E)).eval (.tmp d) = v :=
  fr_on hd (by rw [zp_dst hl]; exact hn) (zp_at hb hE)
theorem ev_off {a : Act} {b : List Bool} {E : List (Tmp × Value)} {j : Nat} {d : Tmp} {v : Value} (hl : b.length = E.length) (hn : (E.map Prod.fst).Nodup) (hb : b[j]? = some false) (hE : E[j]? = some (d, v)) : (frm a (zp b E)).eval (.tmp d) = a.eval (.tmp d) :=
  fr_off (by rw [zp_dst hl]; exact hn) (zp_at hb hE)
theorem ev_else {a : Act} {b : List Bool} {E : List (Tmp × Value)} {d : Tmp} (hl : b.length = E.length) (hd : d ∉ E.map Prod.fst) : (frm a (zp b E)).eval (.tmp d) = a.eval (.tmp d) :=
  fr_other (by rw [zp_dst hl]; exact hd)
theorem zp_set {b : List Bool} {E : List (Tmp × Value)} {j : Nat} {d : Tmp} {v : Value} (hE : E[j]? = some (d, v)) : (zp b E).set j (true, d, v) = zp (b.set j true) E := by
  unfold zp
  induction b generalizing E j with
  | nil => simp
  | cons y b ih =>
    cases E with
    | nil => simp at hE
    | cons x E =>
      cases j with
      | zero => simp at hE; subst hE; simp
      | succ j => simp at hE; simp [ih hE]
theorem put_done {a : Act} {b : List Bool} {E E' : List (Tmp × Value)} {j : Nat} {d : Tmp} {v : Value} (hl : b.length = E.length) (hl' : E.length = E'.length) (hn : (E'.map Prod.fst).Nodup) (hb : b[j]? = some false) (hE : E'[j]? = some (d, v))
    (hs : ∀ k : Nat, b[k]? = some true → E[k]? = E'[k]?) : (frm a (zp b E)).put (some d) v = frm a (zp (b.set j true) E') := by
  rw [fr_same hl' hs, fr_set (by rw [zp_dst (by omega)]; exact hn) (zp_at hb hE), zp_set hE]

/-- A region that draws its order: which operations are done, what each gives, and a condition on the world. -/
theorem wp_region_fr {α : Type} {id : Nat} {a : Act} {w : World} {l : List Oper} (E : α → List (Tmp × Value)) (C : List Bool → α → World → Prop) (hm : P.follows .mixedOrders = true) (hf : fwdB l = true)
    (h0 : ∃ x, C (List.replicate l.length false) x w.drew) (hlen : ∀ x, (E x).length = l.length)
    (hs : ∀ (i : Nat) (o : Oper), l[i]? = some o → ∀ (b : List Bool) (x : α) (w' : World), b.length = l.length → C b x w' → b[i]? = some false → (∀ e ∈ o.after, Region.binds .any e = true → b[e.on]? = some true) →
      (∀ (j : Nat) (p : Oper), l[j]? = some p → b[j]? = some true → ∀ e ∈ p.after, Region.binds .any e = true → b[e.on]? = some true) →
      wpOp P l.toArray Q i (fun a' w'' => ∃ x', C (b.set i true) x' w'' ∧ a' = frm a (zp (b.set i true) (E x'))) (frm a (zp b (E x))) w')
    (hq : ∀ x w', C (List.replicate l.length true) x w' → Q .normal (frm a (zp (List.replicate l.length true) (E x))) w') :
    (Code.region id l.toArray true).wp P Q a w := by
  refine wp_region_J (fun listed a' w' => ∃ (b : List Bool) (x : α), listed = b.toArray ∧ b.length = l.length ∧ C b x w' ∧ a' = frm a (zp b (E x)) ∧
    ∀ (j : Nat) (p : Oper), l[j]? = some p → b[j]? = some true → ∀ e ∈ p.after, Region.binds .any e = true → b[e.on]? = some true) hm ?_ ?_ ?_
  · obtain ⟨x, hx⟩ := h0
    refine ⟨_, x, by simp, by simp, hx, ?_, fun j p _ hb => ?_⟩
    · have : ∀ (n : Nat) (E : List (Tmp × Value)), frm a (zp (List.replicate n false) E) = a := by
        intro n
        induction n with
        | zero => intro E; simp [zp, frm]
        | succ n ih => intro E; cases E with
          | nil => simp [zp, frm]
          | cons y E => show frm a ((false, y.1, y.2) :: zp (List.replicate n false) E) = a; unfold frm; simpa using ih E
      exact (this _ _).symm
    · rw [List.getElem?_replicate] at hb
      split at hb <;> cases hb
  · rintro i o ho listed a' w' ⟨b, x, rfl, hb, hC, rfl, hcl⟩ hun hall
    have hun' : b[i]? = some false := getD_none' (by simpa [Array.getD_eq_getD_getElem?, List.getD_eq_getElem?_getD] using hun)
    have hall' : ∀ e ∈ o.after, Region.binds .any e = true → b[e.on]? = some true := fun e he hbi => getD_some (by simpa [Array.getD_eq_getD_getElem?, List.getD_eq_getElem?_getD] using hall e he hbi)
    refine wpOp_mono (fun a'' w'' ⟨x', hC', ha⟩ => ⟨b.set i true, x', by simp, by simpa using hb, hC', ha, fun j p hp hj e he hbi => ?_⟩) (hs i o ho b x w' hb hC hun' hall' hcl)
    have key : b[e.on]? = some true := by
      by_cases hij : i = j
      · subst hij
        rw [ho] at hp
        obtain rfl := Option.some.inj hp
        exact hall' e he hbi
      · rw [List.getElem?_set_ne hij] at hj
        exact hcl j p hp hj e he hbi
    by_cases hie : i = e.on
    · rw [← hie] at key; rw [key] at hun'; cases hun'
    · rw [List.getElem?_set_ne hie]; exact key
  · rintro listed a' w' ⟨b, x, rfl, hb, hC, rfl, hcl⟩ hr
    have hall := all_done hf (by simpa using hb) hr
    have e : b = List.replicate l.length true := by
      apply List.ext_getElem (by simpa using hb)
      intro i h1 h2
      have := hall i (by omega)
      simpa [Array.getD_eq_getD_getElem?, h1] using this
    rw [e] at hC ⊢
    exact hq x w' hC

/-- The same, the frame hidden: of each operation that is done its value is known. -/
theorem wp_region_fx {α : Type} {id : Nat} {a : Act} {w : World} {l : List Oper} (E : α → List (Tmp × Value)) (C : List Bool → α → World → Prop) (hm : P.follows .mixedOrders = true) (hf : fwdB l = true)
    (h0 : ∃ x, C (List.replicate l.length false) x w.drew) (D : List Tmp) (hD : ∀ x, (E x).map Prod.fst = D) (hlen : D.length = l.length) (hnd : D.Nodup) (hsz : ∃ n, a.tmps.size = n ∧ ∀ d ∈ D, d < n)
    (hs : ∀ (i : Nat) (o : Oper), l[i]? = some o → ∀ (b : List Bool) (x : α) (w' : World) (A : Act), C b x w' → b.length = l.length → b[i]? = some false → (∀ e ∈ o.after, Region.binds .any e = true → b[e.on]? = some true) →
      (∀ (j : Nat) (p : Oper), l[j]? = some p → b[j]? = some true → ∀ e ∈ p.after, Region.binds .any e = true → b[e.on]? = some true) →
      (∀ (j : Nat) (d : Tmp) (v : Value), b[j]? = some true → (E x)[j]? = some (d, v) → A.eval (.tmp d) = v) → (∀ (j : Nat) (d : Tmp) (v : Value), b[j]? = some false → (E x)[j]? = some (d, v) → A.eval (.tmp d) = a.eval (.tmp d)) →
      (∀ d : Tmp, d ∉ D → A.eval (.tmp d) = a.eval (.tmp d)) →
      ∀ K : Act → World → Prop, (∀ (d : Tmp) (v : Value) (x' : α) (w'' : World), C (b.set i true) x' w'' → (E x')[i]? = some (d, v) → (∀ k : Nat, b[k]? = some true → (E x)[k]? = (E x')[k]?) → K (A.put (some d) v) w'') →
      if Region.wanted o (yielded l.toArray A.tmps) = true then Oper.wp P o A w' K Q else K (A.put o.dst undef) w')
    (hq : ∀ x w', C (List.replicate l.length true) x w' → Q .normal (frm a (zp (List.replicate l.length true) (E x))) w') :
    (Code.region id l.toArray true).wp P Q a w := by
  obtain ⟨n, hn0, hsz'⟩ := hsz
  have hsz : ∀ d ∈ D, d < a.tmps.size := by rw [hn0]; exact hsz'
  have hl : ∀ x, (E x).length = l.length := fun x => by rw [← hlen, ← hD x, List.length_map]
  refine wp_region_fr E C hm hf h0 hl (fun i o ho b x w' hb hC hun hall hcl => ?_) hq
  have hn : ∀ x, ((E x).map Prod.fst).Nodup := fun x => by rw [hD x]; exact hnd
  have hin : ∀ {j : Nat} {d : Tmp} {v : Value}, (E x)[j]? = some (d, v) → d < a.tmps.size := fun {j d v} hE => hsz d (by rw [← hD x]; exact List.mem_map.2 ⟨_, List.mem_of_getElem? hE, rfl⟩)
  have H := hs i o ho b x w' (frm a (zp b (E x))) hC hb hun hall hcl (fun j d v hj hE => ev_on (by rw [hb, hl]) (hn x) hj hE (hin hE)) (fun j d v hj hE => ev_off (by rw [hb, hl]) (hn x) hj hE) (fun d hd => ev_else (by rw [hb, hl]) (by rw [hD x]; exact hd))
    (fun a' w'' => ∃ x', C (b.set i true) x' w'' ∧ a' = frm a (zp (b.set i true) (E x'))) (fun d v x' w'' hC' hE hk => ⟨x', hC', put_done (by rw [hb, hl]) (by rw [hl, hl]) (hn x') hun hE hk⟩)
  have ho' : l.toArray[i]? = some o := by simpa using ho
  unfold wpOp
  simp only [ho']
  split
  · rename_i h1; rw [if_pos h1] at H; exact .inl H
  · rename_i h1; rw [if_neg h1] at H; exact H
end

/-- Two rows of numbers of the call's own, apart from each other. -/
structure Rows2 (w : World) (B : Nat) (T : TypeId) (v1 : Value) (xs : List Int) (v2 : Value) (ys : List Int) : Prop where
  o1 : w.ownsRow B T 1 v1 xs.length (xs.map (Value.int .i64))
  o2 : w.ownsRow B T 1 v2 ys.length (ys.map (Value.int .i64))
  ne : v1.ownBlock = none ∨ v1.ownBlock ≠ v2.ownBlock
theorem Rows2.nil (w : World) (B : Nat) (T : TypeId) : Rows2 w B T (.slice none 0 0) [] (.slice none 0 0) [] := ⟨World.ownsRow_nil _ _ _ _, World.ownsRow_nil _ _ _ _, .inl rfl⟩
theorem Rows2.drew {w : World} {B : Nat} {T : TypeId} {v1 v2 : Value} {xs ys : List Int} (h : Rows2 w B T v1 xs v2 ys) : Rows2 w.drew B T v1 xs v2 ys := ⟨h.o1.drew, h.o2.drew, h.ne⟩
theorem Rows2.alloc {w : World} {B : Nat} {T : TypeId} {v1 v2 : Value} {xs ys : List Int} (h : Rows2 w B T v1 xs v2 ys) (o : Obj) : Rows2 (w.alloc o) B T v1 xs v2 ys := ⟨h.o1.alloc o, h.o2.alloc o, h.ne⟩
theorem Rows2.app1 {w w' : World} {B : Nat} {T : TypeId} {v1 v2 v1' : Value} {xs ys : List Int} {x : Int} (h : Rows2 w B T v1 xs v2 ys)
    (ho : w'.ownsRow B T 1 v1' (xs.length + 1) (xs.map (Value.int .i64) ++ [.int .i64 x])) (hg : w.grownBy w' v1.ownBlock) (hat : v1'.ownBlock = v1.ownBlock ∨ v1'.ownBlock = some w.heap.size) : Rows2 w' B T v1' (xs ++ [x]) v2 ys := by
  refine ⟨by rw [List.length_append, List.map_append]; exact ho, h.o2.kept hg ?_, ?_⟩
  · rcases h.ne with h1 | h1
    · rw [h1]
      cases v2.ownBlock with
      | none => exact .inl rfl
      | some g => exact .inr (by simp)
    · exact .inr (Ne.symm h1)
  · rcases hat with h1 | h1
    · rw [h1]; exact h.ne
    · right
      rw [h1]
      intro e
      have := (h.o2.lt _ e.symm).2
      omega
theorem Rows2.app2 {w w' : World} {B : Nat} {T : TypeId} {v1 v2 v2' : Value} {xs ys : List Int} {y : Int} (h : Rows2 w B T v1 xs v2 ys)
    (ho : w'.ownsRow B T 1 v2' (ys.length + 1) (ys.map (Value.int .i64) ++ [.int .i64 y])) (hg : w.grownBy w' v2.ownBlock) (hat : v2'.ownBlock = v2.ownBlock ∨ v2'.ownBlock = some w.heap.size) : Rows2 w' B T v1 xs v2' (ys ++ [y]) := by
  refine ⟨h.o1.kept hg h.ne, by rw [List.length_append, List.map_append]; exact ho, ?_⟩
  rcases hat with h1 | h1
  · rw [h1]; exact h.ne
  · cases hb : v1.ownBlock with
    | none => exact .inl rfl
    | some g =>
      right
      rw [h1]
      intro e
      have := (h.o1.lt _ hb).2
      injection e with e
      omega

/-- Two appends to two rows beside each other, the second behind the first: what has been done, and what lies where. -/
structure NJ (wr : World) (T : TypeId) (r1 : Value) (xs : List Int) (x : Int) (r2 : Value) (ys : List Int) (y : Int) (b12 b13 b27 b28 : Bool) (q : Nat × Nat × Value × Value) (W : World) : Prop where
  bel : Below wr.heap.size wr W
  row : Rows2 W wr.heap.size T (if b13 then q.2.2.1 else r1) (if b13 then xs ++ [x] else xs) (if b28 then q.2.2.2 else r2) (if b28 then ys ++ [y] else ys)
  c1 : b12 = true → b13 = false → W.heap[q.1]? = some (.cells #[.int .i64 x] T)
  c2 : b27 = true → b28 = false → W.heap[q.2.1]? = some (.cells #[.int .i64 y] T) ∧ (b13 = false → r1.ownBlock ≠ some q.2.1)
section
variable {wr : World} {T : TypeId} {r1 : Value} {xs : List Int} {x : Int} {r2 : Value} {ys : List Int} {y : Int} {b12 b13 b27 b28 : Bool} {q : Nat × Nat × Value × Value} {W : World}
theorem NJ.drew (h : NJ wr T r1 xs x r2 ys y b12 b13 b27 b28 q W) : NJ wr T r1 xs x r2 ys y b12 b13 b27 b28 q W.drew := ⟨h.bel.drew, h.row.drew, h.c1, h.c2⟩
theorem NJ.start (hb : Below wr.heap.size wr W) (hr : Rows2 W wr.heap.size T r1 xs r2 ys) (q : Nat × Nat × Value × Value) : NJ wr T r1 xs x r2 ys y false false false false q W :=
  ⟨hb, hr, fun h => absurd h (by decide), fun h => absurd h (by decide)⟩
theorem NJ.bs1 (h : NJ wr T r1 xs x r2 ys y false false b27 b28 q W) : NJ wr T r1 xs x r2 ys y true false b27 b28 (W.heap.size, q.2) (W.alloc (.cells #[.int .i64 x] T)) :=
  ⟨h.bel.alloc h.bel.size _, h.row.alloc _, fun _ _ => heap_alloc_new _ _, fun h1 h2 => ⟨by exact (Below.heap_alloc _ _ _ (lt_of_get (h.c2 h1 h2).1)).trans (h.c2 h1 h2).1, (h.c2 h1 h2).2⟩⟩
theorem NJ.bs2 (h : NJ wr T r1 xs x r2 ys y b12 b13 false false q W) : NJ wr T r1 xs x r2 ys y b12 b13 true false (q.1, W.heap.size, q.2.2) (W.alloc (.cells #[.int .i64 y] T)) :=
  ⟨h.bel.alloc h.bel.size _, h.row.alloc _, fun h1 h2 => by exact (Below.heap_alloc _ _ _ (lt_of_get (h.c1 h1 h2))).trans (h.c1 h1 h2), fun _ _ => ⟨heap_alloc_new _ _, fun h3 e => by
    subst h3
    have := (h.row.o1.lt _ (by simpa using e)).2
    omega⟩⟩
theorem NJ.ap1 (h : NJ wr T r1 xs x r2 ys y true false b27 false q W) {v : Value} {w' : World} (ho : w'.ownsRow wr.heap.size T 1 v (xs.length + 1) (xs.map (Value.int .i64) ++ [.int .i64 x])) (hg : W.grownBy w' r1.ownBlock) (hat : v.ownBlock = r1.ownBlock ∨ v.ownBlock = some W.heap.size) :
    NJ wr T r1 xs x r2 ys y true true b27 false (q.1, q.2.1, v, q.2.2.2) w' := by
  have hr : Rows2 W wr.heap.size T r1 xs r2 ys := by simpa using h.row
  refine ⟨h.bel.grown hg h.bel.size (fun k hk => (hr.o1.lt k hk).1), by simpa using hr.app1 ho hg hat, fun _ h2 => absurd h2 (by decide), fun h1 h2 => ⟨?_, fun h3 => absurd h3 (by decide)⟩⟩
  obtain ⟨c, ne⟩ := h.c2 h1 h2
  rw [hg.block _ (lt_of_get c) (by have := ne rfl; exact fun e => this e.symm)]
  exact c
theorem NJ.ap2 (h : NJ wr T r1 xs x r2 ys y true true true false q W) {v : Value} {w' : World} (ho : w'.ownsRow wr.heap.size T 1 v (ys.length + 1) (ys.map (Value.int .i64) ++ [.int .i64 y])) (hg : W.grownBy w' r2.ownBlock) (hat : v.ownBlock = r2.ownBlock ∨ v.ownBlock = some W.heap.size) :
    NJ wr T r1 xs x r2 ys y true true true true (q.1, q.2.1, q.2.2.1, v) w' := by
  have hr : Rows2 W wr.heap.size T q.2.2.1 (xs ++ [x]) r2 ys := by simpa using h.row
  exact ⟨h.bel.grown hg h.bel.size (fun k hk => (hr.o2.lt k hk).1), by simpa using hr.app2 ho hg hat, fun _ h2 => absurd h2 (by decide), fun _ h2 => absurd h2 (by decide)⟩
end

theorem ev_tmp {a : Act} {d : Tmp} {v : Value} (h : a.eval (.tmp d) = v) : a.tmps[d]?.getD undef = v := by rw [← h]; simp [Act.eval, Array.getD_eq_getD_getElem?]
theorem not_yet {l : List Oper} {b : List Bool} {i j : Nat} {p : Oper} (hl : j < b.length) (hcl : ∀ (j : Nat) (p : Oper), l[j]? = some p → b[j]? = some true → ∀ e ∈ p.after, Region.binds .any e = true → b[e.on]? = some true)
    (hp : l[j]? = some p) (e : Edge) (he : e ∈ p.after) (hbi : Region.binds .any e = true) (heq : e.on = i) (hun : b[i]? = some false) : b[j]? = some false := by
  cases hb : b[j] with
  | false => rw [List.getElem?_eq_getElem hl, hb]
  | true =>
    have := hcl j p hp (by rw [List.getElem?_eq_getElem hl, hb]) e he hbi
    rw [heq, hun] at this
    cases this
def bt (b : List Bool) (i : Nat) : Bool := b.getD i false
theorem bt_ne {b : List Bool} {i j : Nat} (h : i ≠ j) : bt (b.set i true) j = bt b j := by
  unfold bt; rw [List.getD_eq_getElem?_getD, List.getElem?_set_ne h, ← List.getD_eq_getElem?_getD]
theorem bt_eq {b : List Bool} {i : Nat} {c : Bool} (h : b[i]? = some c) : bt (b.set i true) i = true := by
  have := (List.getElem?_eq_some_iff.1 h).1
  unfold bt; rw [List.getD_eq_getElem?_getD, List.getElem?_set_self this]; rfl
theorem bt_of {b : List Bool} {i : Nat} {c : Bool} (h : b[i]? = some c) : bt b i = c := by
  unfold bt; rw [List.getD_eq_getElem?_getD, h]; rfl
def CJ (wr : World) (T : TypeId) (r1 : Value) (xs : List Int) (x : Int) (r2 : Value) (ys : List Int) (y : Int) (b : List Bool) (q : Nat × Nat × Value × Value) (W : World) : Prop :=
  NJ wr T r1 xs x r2 ys y (bt b 12) (bt b 13) (bt b 27) (bt b 28) q W
theorem CJ.quiet {wr : World} {T : TypeId} {r1 : Value} {xs : List Int} {x : Int} {r2 : Value} {ys : List Int} {y : Int} {b : List Bool} {q : Nat × Nat × Value × Value} {W : World} (h : CJ wr T r1 xs x r2 ys y b q W) (i : Nat)
    (hi : i ≠ 12 ∧ i ≠ 13 ∧ i ≠ 27 ∧ i ≠ 28) : CJ wr T r1 xs x r2 ys y (b.set i true) q W := by
  unfold CJ
  rw [bt_ne hi.1, bt_ne hi.2.1, bt_ne hi.2.2.1, bt_ne hi.2.2.2]
  exact h

/-- append to a row of the call's own, as one step of a region that draws. -/
theorem step_append_at {P : Program} {ops : Array Oper} {o : Oper} {a : Act} {w : World} {K : Act → World → Prop} {Q : Exit → Act → World → Prop} {E : Prop}
    (hg : o.guard = none) (s x : Operand) (t : TypeId) (hop : o.op = Op.call { callee := Callee.builtin Builtin.append, args := #[s, x], argTypes := #[t, t] })
    (base : Nat) (e : TypeId) (i : TypeInfo) (z : Value) (size bytes : Nat) (h1 : P.underlying t = some (.slice e)) (h2 : P.info? e = some i) (h3 : i.zero = some z) (h4 : i.size = size) (h5 : i.bytes = bytes) (h6 : z.cells.size = size) (h7 : 0 < size)
    (v : Value) (n : Nat) (xs : List Value) (hs : a.eval s = v) (hown : w.ownsRow base e size v n xs)
    (ad : Addr) (m c : Nat) (news : List Value) (hx : a.eval x = .slice (some ad) m c) (hn : news.length = m * size) (hc : ∀ j u, news[j]? = some u → w.cell? (ad.add j) = some u) (h1c : ∀ u ∈ news, u.oneCell' = true)
    (b1 : n + m ≤ maxLen) (b2 : (n + m) * bytes ≤ 140737488355328) (hbase : base ≤ w.heap.size)
    (hK : ∀ v' w', w'.ownsRow base e size v' (n + m) (xs ++ news) → w.grownBy w' v.ownBlock → (v'.ownBlock = v.ownBlock ∨ v'.ownBlock = some w.heap.size) → K (a.put o.dst v') w') :
    if Region.wanted o (yielded ops a.tmps) = true then Oper.wp P o a w K Q else E := by
  have hw : Region.wanted o (yielded ops a.tmps) = true := by simp [Region.wanted, hg]
  rw [if_pos hw]
  obtain ⟨v', w', hrun, r1, r2, _, r4⟩ := run_append_own_at (P := P) w base t o.type e i z size bytes h1 h2 h3 h4 h5 h6 h7 v n xs hown ad m c news hn hc h1c b1 b2 hbase
  unfold Oper.wp
  simp [execOp, hop, resolve, invoke, builtin, hs, hx, hrun, Result.andThen]
  exact hK v' w' r1 r2 r4
end Go.Proofs.YtkdonapgonegkaaGreatDoor

set_option linter.unusedSimpArgs false
set_option linter.unusedVariables false
namespace Go.Proofs.YtkdonapgonegkaaGreatDoor
open Go.RowKit Go.BigFrame

theorem lies_form {w : World} {B : Nat} {T : TypeId} {v : Value} {xs : List Int} (h : w.ownsRow B T 1 v xs.length (xs.map (Value.int .i64))) : ∃ A c, v = .slice A xs.length c ∧ LiesI w A xs := by
  obtain ⟨_, ⟨h1, h2⟩ | ⟨g, cap, cur, h1, _, _, _, _, _, _⟩⟩ := id h
  · exact ⟨none, 0, by rw [h1, h2], fun hp => by omega⟩
  · subst h1
    exact ⟨_, cap, rfl, LiesI.of_own h⟩

end Go.Proofs.YtkdonapgonegkaaGreatDoor

set_option linter.unusedSimpArgs false
set_option linter.unusedVariables false
namespace Go.Proofs.YtkdonapgonegkaaGreatDoor
open Go.RowKit Go.BigFrame

theorem own_type {w : World} {base : Nat} {e : TypeId} {k n q : Nat} {v : Value} {xs : List Value} (h : w.ownsRow base e k v n xs) (hq : v.ownBlock = some q) : ∃ cur, w.heap[q]? = some (.cells cur e (0, 0)) := by
  rcases h.2 with ⟨rfl, _⟩ | ⟨g, cap, cur, rfl, _, hg, _⟩
  · cases hq
  · have e : some g = some q := hq
    injection e with e
    subst e
    exact ⟨cur, hg⟩
theorem own_not {w : World} {base : Nat} {e e' : TypeId} {k n : Nat} {v : Value} {xs : List Value} (h : w.ownsRow base e k v n xs) (hne : e ≠ e') (q : Nat) (hq : v.ownBlock = some q) : ∀ c z, w.heap[q]? ≠ some (.cells c e' z) := by
  obtain ⟨cur, h1⟩ := own_type h hq
  intro c z h2
  rw [h1] at h2
  simp at h2
  exact hne h2.2.1
end Go.Proofs.YtkdonapgonegkaaGreatDoor
