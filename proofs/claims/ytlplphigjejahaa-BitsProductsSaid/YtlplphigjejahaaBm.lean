/-
  The walk of the law BitsProducts.
-/
import Derived.Test.YtlplphigjejahaaBk
namespace Go.Proofs.Ytlplphigjejahaa
open Go.RowKit Go.BigFrame

set_option maxRecDepth 20000 in
set_option maxHeartbeats 1600000 in
theorem BitsProducts_00 (hawake : ∀ w, Calls Try.prog 11 #[] w fun e w' => e = .returned (.bool true) ∧ ∃ x : Aft w, w' = x.val) (aw av bw bv : Int) (w : World) (h1 : Hid (mulErr aw av bw bv = 0)) (h2 : Hid (divErr aw av bw bv = 0)) :
    Calls Try.prog 5 #[.agg #[.int .i64 aw, .int .i64 av], .agg #[.int .i64 bw, .int .i64 bv]] w fun e w' => e = .returned (.bool true) ∧ ∃ x : Aft w, w' = x.val := by
  obtain ⟨⟨a1, a2, a3⟩, ⟨b1, b2, b3⟩, hs⟩ := mulErr_ok h1
  have hm := mul_bd (by omega) (by omega) hs a2 a3 b2 b3
  obtain ⟨⟨c1, c2, c3, c4⟩, ⟨d1, d2⟩, -, d3⟩ := divErr_ok.1 h2
  have hp := pw_bd (n := aw) (by omega) c2
  obtain ⟨t1, t2, t3, t4, -⟩ := tdiv_bd (a := av) (b := bv) c3 (by omega)
  have d3' : (bv == 0) = false := by simpa using d3
  go_enter Try.func5, Try.ntmps5
  go_wp2_with fail
  refine (hawake _).mono ?_
  rintro e w' ⟨rfl, x1, rfl⟩
  have zx1_0 : w.heap.size < x1.val.heap.size := by have := x1.size; (try simp at this); omega
  have zx1_1 : w.heap.size + 1 < x1.val.heap.size := by have := x1.size; (try simp at this); omega
  go_wp2_with fail
  refine (MulWide_c aw av bw bv _ h1).mono ?_
  rintro e w' ⟨rfl, x2, rfl⟩
  have zx2_0 : w.heap.size < x2.val.heap.size := by have := x2.size; (try simp at this); omega
  have zx2_1 : w.heap.size + 1 < x2.val.heap.size := by have := x2.size; (try simp at this); omega
  go_wp2_with fail
  refine (DivMod_c aw av bw bv _ h2).mono ?_
  rintro e w' ⟨rfl, x3, rfl⟩
  have zx3_0 : w.heap.size < x3.val.heap.size := by have := x3.size; (try simp at this); omega
  have zx3_1 : w.heap.size + 1 < x3.val.heap.size := by have := x3.size; (try simp at this); omega
  have zx3_2 : x2.val.heap.size < x3.val.heap.size := by have := x3.size; (try simp at this); omega
  go_wp2_with fail
  refine (MulErr_c aw av bw bv _).mono ?_
  rw [h1.out]
  rintro e W' ⟨rfl, x4, hW⟩
  have s0 : w.heap.size < W'.heap.size := by rw [hW]; have := x4.size; (try simp at this); omega
  have s1 : w.heap.size + 1 < W'.heap.size := by rw [hW]; have := x4.size; (try simp at this); omega
  have s2 : x2.val.heap.size < W'.heap.size := by rw [hW]; have := x4.size; (try simp at this); omega
  have s3 : x3.val.heap.size < W'.heap.size := by rw [hW]; have := x4.size; (try simp at this); omega
  have s4 : x3.val.heap.size + 1 < W'.heap.size := by rw [hW]; have := x4.size; (try simp at this); omega
  have rr0 : W'.heap[w.heap.size]? = some (.cells #[.int .i64 aw, .int .i64 av] 23) := by rw [hW]; (repeat' (first | (with_reducible assumption) | omega | (simp only [World.size_alloc, World.size_drew, World.size_setCell]; omega) | (refine heap_alloc_at ?_; (first | rfl | (simp; done))) | (with_reducible refine heap_aft _ ?_ ?_) | (with_reducible refine heap_alloc' ?_ ?_) | (with_reducible refine heap_drew ?_)))
  have q00 := cell_block (i := 0) rr0
  have f00 := free_block (i := 0) rr0
  have q01 := cell_block (i := 1) rr0
  have f01 := free_block (i := 1) rr0
  have rr1 : W'.heap[w.heap.size + 1]? = some (.cells #[.int .i64 bw, .int .i64 bv] 23) := by rw [hW]; (repeat' (first | (with_reducible assumption) | omega | (simp only [World.size_alloc, World.size_drew, World.size_setCell]; omega) | (refine heap_alloc_at ?_; (first | rfl | (simp; done))) | (with_reducible refine heap_aft _ ?_ ?_) | (with_reducible refine heap_alloc' ?_ ?_) | (with_reducible refine heap_drew ?_)))
  have q10 := cell_block (i := 0) rr1
  have f10 := free_block (i := 0) rr1
  have q11 := cell_block (i := 1) rr1
  have f11 := free_block (i := 1) rr1
  have rr2 : W'.heap[x2.val.heap.size]? = some (.cells #[.int .i64 (aw + bw), .int .i64 (av * bv)] 23) := by rw [hW]; (repeat' (first | (with_reducible assumption) | omega | (simp only [World.size_alloc, World.size_drew, World.size_setCell]; omega) | (refine heap_alloc_at ?_; (first | rfl | (simp; done))) | (with_reducible refine heap_aft _ ?_ ?_) | (with_reducible refine heap_alloc' ?_ ?_) | (with_reducible refine heap_drew ?_)))
  have q20 := cell_block (i := 0) rr2
  have f20 := free_block (i := 0) rr2
  have q21 := cell_block (i := 1) rr2
  have f21 := free_block (i := 1) rr2
  have rr3 : W'.heap[x3.val.heap.size]? = some (.cells #[.int .i64 aw, .int .i64 (av.tdiv bv)] 23) := by rw [hW]; (repeat' (first | (with_reducible assumption) | omega | (simp only [World.size_alloc, World.size_drew, World.size_setCell]; omega) | (refine heap_alloc_at ?_; (first | rfl | (simp; done))) | (with_reducible refine heap_aft _ ?_ ?_) | (with_reducible refine heap_alloc' ?_ ?_) | (with_reducible refine heap_drew ?_)))
  have q30 := cell_block (i := 0) rr3
  have f30 := free_block (i := 0) rr3
  have q31 := cell_block (i := 1) rr3
  have f31 := free_block (i := 1) rr3
  have rr4 : W'.heap[x3.val.heap.size + 1]? = some (.cells #[.int .i64 aw, .int .i64 (av % bv)] 23) := by rw [hW]; (repeat' (first | (with_reducible assumption) | omega | (simp only [World.size_alloc, World.size_drew, World.size_setCell]; omega) | (refine heap_alloc_at ?_; (first | rfl | (simp; done))) | (with_reducible refine heap_aft _ ?_ ?_) | (with_reducible refine heap_alloc' ?_ ?_) | (with_reducible refine heap_drew ?_)))
  have q40 := cell_block (i := 0) rr4
  have f40 := free_block (i := 0) rr4
  have q41 := cell_block (i := 1) rr4
  have f41 := free_block (i := 1) rr4
  simp at q00 q01 q10 q11 q20 q21 q30 q31 q40 q41
  clear rr0
  clear rr1
  clear rr2
  clear rr3
  clear rr4
  have hb0' : Below w.heap.size w W' := by rw [hW]; (repeat' (first | (with_reducible exact Below.refl _ _) | (with_reducible refine Below.alloc ?_ ?_ _) | (with_reducible refine Below.drew ?_) | (with_reducible refine Aft.below _ ?_ ?_) | (with_reducible refine Below.setCell_new ?_ ?_ _ _) | (with_reducible exact Nat.le_refl _) | (with_reducible refine Aft.le _ ?_) | (with_reducible refine le_alloc ?_) | (with_reducible refine le_drew ?_) | (with_reducible refine le_setCell ?_) | omega))
  clear hW
  go_wp2_with fail
  refine wp_region_aft (by kernel_rfl) (by kernel_rfl) ?_
  repeat (go_big_quiet_step (first | (go_at_call 19; exact Calls.qa (of_c _ _ _))))
  refine wpQuiet_nil ?_
  intro x5
  have zx5_0 : w.heap.size < x5.val.heap.size := by have := x5.size; (try simp at this); omega
  have zx5_1 : w.heap.size + 1 < x5.val.heap.size := by have := x5.size; (try simp at this); omega
  have zx5_2 : x2.val.heap.size < x5.val.heap.size := by have := x5.size; (try simp at this); omega
  have zx5_3 : x3.val.heap.size < x5.val.heap.size := by have := x5.size; (try simp at this); omega
  have zx5_4 : x3.val.heap.size + 1 < x5.val.heap.size := by have := x5.size; (try simp at this); omega
  go_wp2_with fail
  refine (DivErr_c aw av bw bv _).mono ?_
  rw [h2.out]
  rintro e w' ⟨rfl, x6, rfl⟩
  have zx6_0 : w.heap.size < x6.val.heap.size := by have := x6.size; (try simp at this); omega
  have zx6_1 : w.heap.size + 1 < x6.val.heap.size := by have := x6.size; (try simp at this); omega
  have zx6_2 : x2.val.heap.size < x6.val.heap.size := by have := x6.size; (try simp at this); omega
  have zx6_3 : x3.val.heap.size < x6.val.heap.size := by have := x6.size; (try simp at this); omega
  have zx6_4 : x3.val.heap.size + 1 < x6.val.heap.size := by have := x6.size; (try simp at this); omega
  go_wp2_with fail
  refine wp_region_aft (by kernel_rfl) (by kernel_rfl) ?_
  repeat (go_big_quiet_step (first | (go_at_call 19; exact Calls.qa (of_c _ _ _))))
  refine wpQuiet_nil ?_
  intro x7
  have zx7_0 : w.heap.size < x7.val.heap.size := by have := x7.size; (try simp at this); omega
  have zx7_1 : w.heap.size + 1 < x7.val.heap.size := by have := x7.size; (try simp at this); omega
  have zx7_2 : x2.val.heap.size < x7.val.heap.size := by have := x7.size; (try simp at this); omega
  have zx7_3 : x3.val.heap.size < x7.val.heap.size := by have := x7.size; (try simp at this); omega
  have zx7_4 : x3.val.heap.size + 1 < x7.val.heap.size := by have := x7.size; (try simp at this); omega
  go_wp2
  go_ret
  exact ⟨rfl, Below.aft (by (repeat' (first | (with_reducible exact Below.refl _ _) | (with_reducible assumption) | (with_reducible refine Below.alloc ?_ ?_ _) | (with_reducible refine Below.drew ?_) | (with_reducible refine Aft.below _ ?_ ?_) | (with_reducible refine Below.setCell_new ?_ ?_ _ _) | (with_reducible exact Nat.le_refl _) | (with_reducible refine Aft.le _ ?_) | (with_reducible refine le_alloc ?_) | (with_reducible refine le_drew ?_) | (with_reducible refine le_setCell ?_) | omega)))⟩

set_option maxRecDepth 20000 in
set_option maxHeartbeats 1600000 in
theorem BitsProducts_01 (hawake : ∀ w, Calls Try.prog 11 #[] w fun e w' => e = .returned (.bool true) ∧ ∃ x : Aft w, w' = x.val) (aw av bw bv e2 : Int) (w : World) (h1 : Hid (mulErr aw av bw bv = 0)) (hn2 : e2 ≠ 0) (h2 : Hid (divErr aw av bw bv = e2)) :
    Calls Try.prog 5 #[.agg #[.int .i64 aw, .int .i64 av], .agg #[.int .i64 bw, .int .i64 bv]] w fun e w' => e = .returned (.bool true) ∧ ∃ x : Aft w, w' = x.val := by
  obtain ⟨⟨a1, a2, a3⟩, ⟨b1, b2, b3⟩, hs⟩ := mulErr_ok h1
  have hm := mul_bd (by omega) (by omega) hs a2 a3 b2 b3
  have Hn_e2 := Lib.hid hn2
  have hn'_e2 : (e2 == 0) = false := by simpa using hn2
  have hb_e2 : (e2 != 0) = true := by simpa using hn2
  clear hn2
  go_enter Try.func5, Try.ntmps5
  go_wp2_with fail
  refine (hawake _).mono ?_
  rintro e w' ⟨rfl, x1, rfl⟩
  have zx1_0 : w.heap.size < x1.val.heap.size := by have := x1.size; (try simp at this); omega
  have zx1_1 : w.heap.size + 1 < x1.val.heap.size := by have := x1.size; (try simp at this); omega
  go_wp2_with fail
  refine (MulWide_c aw av bw bv _ h1).mono ?_
  rintro e w' ⟨rfl, x2, rfl⟩
  have zx2_0 : w.heap.size < x2.val.heap.size := by have := x2.size; (try simp at this); omega
  have zx2_1 : w.heap.size + 1 < x2.val.heap.size := by have := x2.size; (try simp at this); omega
  go_wp2_with fail
  refine (DivMod_bad aw av bw bv e2 _ Hn_e2.out h2).mono ?_
  rintro e w' ⟨rfl, x3, rfl⟩
  have zx3_0 : w.heap.size < x3.val.heap.size := by have := x3.size; (try simp at this); omega
  have zx3_1 : w.heap.size + 1 < x3.val.heap.size := by have := x3.size; (try simp at this); omega
  have zx3_2 : x2.val.heap.size < x3.val.heap.size := by have := x3.size; (try simp at this); omega
  go_wp2_with fail
  refine (MulErr_c aw av bw bv _).mono ?_
  rw [h1.out]
  rintro e W' ⟨rfl, x4, hW⟩
  have s0 : w.heap.size < W'.heap.size := by rw [hW]; have := x4.size; (try simp at this); omega
  have s1 : w.heap.size + 1 < W'.heap.size := by rw [hW]; have := x4.size; (try simp at this); omega
  have s2 : x2.val.heap.size < W'.heap.size := by rw [hW]; have := x4.size; (try simp at this); omega
  have s3 : x3.val.heap.size < W'.heap.size := by rw [hW]; have := x4.size; (try simp at this); omega
  have s4 : x3.val.heap.size + 1 < W'.heap.size := by rw [hW]; have := x4.size; (try simp at this); omega
  have rr0 : W'.heap[w.heap.size]? = some (.cells #[.int .i64 aw, .int .i64 av] 23) := by rw [hW]; (repeat' (first | (with_reducible assumption) | omega | (simp only [World.size_alloc, World.size_drew, World.size_setCell]; omega) | (refine heap_alloc_at ?_; (first | rfl | (simp; done))) | (with_reducible refine heap_aft _ ?_ ?_) | (with_reducible refine heap_alloc' ?_ ?_) | (with_reducible refine heap_drew ?_)))
  have q00 := cell_block (i := 0) rr0
  have f00 := free_block (i := 0) rr0
  have q01 := cell_block (i := 1) rr0
  have f01 := free_block (i := 1) rr0
  have rr1 : W'.heap[w.heap.size + 1]? = some (.cells #[.int .i64 bw, .int .i64 bv] 23) := by rw [hW]; (repeat' (first | (with_reducible assumption) | omega | (simp only [World.size_alloc, World.size_drew, World.size_setCell]; omega) | (refine heap_alloc_at ?_; (first | rfl | (simp; done))) | (with_reducible refine heap_aft _ ?_ ?_) | (with_reducible refine heap_alloc' ?_ ?_) | (with_reducible refine heap_drew ?_)))
  have q10 := cell_block (i := 0) rr1
  have f10 := free_block (i := 0) rr1
  have q11 := cell_block (i := 1) rr1
  have f11 := free_block (i := 1) rr1
  have rr2 : W'.heap[x2.val.heap.size]? = some (.cells #[.int .i64 (aw + bw), .int .i64 (av * bv)] 23) := by rw [hW]; (repeat' (first | (with_reducible assumption) | omega | (simp only [World.size_alloc, World.size_drew, World.size_setCell]; omega) | (refine heap_alloc_at ?_; (first | rfl | (simp; done))) | (with_reducible refine heap_aft _ ?_ ?_) | (with_reducible refine heap_alloc' ?_ ?_) | (with_reducible refine heap_drew ?_)))
  have q20 := cell_block (i := 0) rr2
  have f20 := free_block (i := 0) rr2
  have q21 := cell_block (i := 1) rr2
  have f21 := free_block (i := 1) rr2
  have rr3 : W'.heap[x3.val.heap.size]? = some (.cells #[.int .i64 0, .int .i64 0] 23) := by rw [hW]; (repeat' (first | (with_reducible assumption) | omega | (simp only [World.size_alloc, World.size_drew, World.size_setCell]; omega) | (refine heap_alloc_at ?_; (first | rfl | (simp; done))) | (with_reducible refine heap_aft _ ?_ ?_) | (with_reducible refine heap_alloc' ?_ ?_) | (with_reducible refine heap_drew ?_)))
  have q30 := cell_block (i := 0) rr3
  have f30 := free_block (i := 0) rr3
  have q31 := cell_block (i := 1) rr3
  have f31 := free_block (i := 1) rr3
  have rr4 : W'.heap[x3.val.heap.size + 1]? = some (.cells #[.int .i64 0, .int .i64 0] 23) := by rw [hW]; (repeat' (first | (with_reducible assumption) | omega | (simp only [World.size_alloc, World.size_drew, World.size_setCell]; omega) | (refine heap_alloc_at ?_; (first | rfl | (simp; done))) | (with_reducible refine heap_aft _ ?_ ?_) | (with_reducible refine heap_alloc' ?_ ?_) | (with_reducible refine heap_drew ?_)))
  have q40 := cell_block (i := 0) rr4
  have f40 := free_block (i := 0) rr4
  have q41 := cell_block (i := 1) rr4
  have f41 := free_block (i := 1) rr4
  simp at q00 q01 q10 q11 q20 q21 q30 q31 q40 q41
  clear rr0
  clear rr1
  clear rr2
  clear rr3
  clear rr4
  have hb0' : Below w.heap.size w W' := by rw [hW]; (repeat' (first | (with_reducible exact Below.refl _ _) | (with_reducible refine Below.alloc ?_ ?_ _) | (with_reducible refine Below.drew ?_) | (with_reducible refine Aft.below _ ?_ ?_) | (with_reducible refine Below.setCell_new ?_ ?_ _ _) | (with_reducible exact Nat.le_refl _) | (with_reducible refine Aft.le _ ?_) | (with_reducible refine le_alloc ?_) | (with_reducible refine le_drew ?_) | (with_reducible refine le_setCell ?_) | omega))
  clear hW
  go_wp2_with fail
  refine wp_region_aft (by kernel_rfl) (by kernel_rfl) ?_
  repeat (go_big_quiet_step (first | (go_at_call 19; exact Calls.qa (of_c _ _ _))))
  refine wpQuiet_nil ?_
  intro x5
  have zx5_0 : w.heap.size < x5.val.heap.size := by have := x5.size; (try simp at this); omega
  have zx5_1 : w.heap.size + 1 < x5.val.heap.size := by have := x5.size; (try simp at this); omega
  have zx5_2 : x2.val.heap.size < x5.val.heap.size := by have := x5.size; (try simp at this); omega
  have zx5_3 : x3.val.heap.size < x5.val.heap.size := by have := x5.size; (try simp at this); omega
  have zx5_4 : x3.val.heap.size + 1 < x5.val.heap.size := by have := x5.size; (try simp at this); omega
  go_wp2_with fail
  refine (DivErr_c aw av bw bv _).mono ?_
  rw [h2.out]
  rintro e w' ⟨rfl, x6, rfl⟩
  have zx6_0 : w.heap.size < x6.val.heap.size := by have := x6.size; (try simp at this); omega
  have zx6_1 : w.heap.size + 1 < x6.val.heap.size := by have := x6.size; (try simp at this); omega
  have zx6_2 : x2.val.heap.size < x6.val.heap.size := by have := x6.size; (try simp at this); omega
  have zx6_3 : x3.val.heap.size < x6.val.heap.size := by have := x6.size; (try simp at this); omega
  have zx6_4 : x3.val.heap.size + 1 < x6.val.heap.size := by have := x6.size; (try simp at this); omega
  go_wp2
  go_ret
  exact ⟨rfl, Below.aft (by (repeat' (first | (with_reducible exact Below.refl _ _) | (with_reducible assumption) | (with_reducible refine Below.alloc ?_ ?_ _) | (with_reducible refine Below.drew ?_) | (with_reducible refine Aft.below _ ?_ ?_) | (with_reducible refine Below.setCell_new ?_ ?_ _ _) | (with_reducible exact Nat.le_refl _) | (with_reducible refine Aft.le _ ?_) | (with_reducible refine le_alloc ?_) | (with_reducible refine le_drew ?_) | (with_reducible refine le_setCell ?_) | omega)))⟩

set_option maxRecDepth 20000 in
set_option maxHeartbeats 1600000 in
theorem BitsProducts_10 (hawake : ∀ w, Calls Try.prog 11 #[] w fun e w' => e = .returned (.bool true) ∧ ∃ x : Aft w, w' = x.val) (aw av bw bv e1 : Int) (w : World) (hn1 : e1 ≠ 0) (h1 : Hid (mulErr aw av bw bv = e1)) (h2 : Hid (divErr aw av bw bv = 0)) :
    Calls Try.prog 5 #[.agg #[.int .i64 aw, .int .i64 av], .agg #[.int .i64 bw, .int .i64 bv]] w fun e w' => e = .returned (.bool true) ∧ ∃ x : Aft w, w' = x.val := by
  have Hn_e1 := Lib.hid hn1
  have hn'_e1 : (e1 == 0) = false := by simpa using hn1
  have hb_e1 : (e1 != 0) = true := by simpa using hn1
  clear hn1
  obtain ⟨⟨c1, c2, c3, c4⟩, ⟨d1, d2⟩, -, d3⟩ := divErr_ok.1 h2
  have hp := pw_bd (n := aw) (by omega) c2
  obtain ⟨t1, t2, t3, t4, -⟩ := tdiv_bd (a := av) (b := bv) c3 (by omega)
  have d3' : (bv == 0) = false := by simpa using d3
  go_enter Try.func5, Try.ntmps5
  go_wp2_with fail
  refine (hawake _).mono ?_
  rintro e w' ⟨rfl, x1, rfl⟩
  have zx1_0 : w.heap.size < x1.val.heap.size := by have := x1.size; (try simp at this); omega
  have zx1_1 : w.heap.size + 1 < x1.val.heap.size := by have := x1.size; (try simp at this); omega
  go_wp2_with fail
  refine (MulWide_bad aw av bw bv e1 _ Hn_e1.out h1).mono ?_
  rintro e w' ⟨rfl, x2, rfl⟩
  have zx2_0 : w.heap.size < x2.val.heap.size := by have := x2.size; (try simp at this); omega
  have zx2_1 : w.heap.size + 1 < x2.val.heap.size := by have := x2.size; (try simp at this); omega
  go_wp2_with fail
  refine (DivMod_c aw av bw bv _ h2).mono ?_
  rintro e w' ⟨rfl, x3, rfl⟩
  have zx3_0 : w.heap.size < x3.val.heap.size := by have := x3.size; (try simp at this); omega
  have zx3_1 : w.heap.size + 1 < x3.val.heap.size := by have := x3.size; (try simp at this); omega
  have zx3_2 : x2.val.heap.size < x3.val.heap.size := by have := x3.size; (try simp at this); omega
  go_wp2_with fail
  refine (MulErr_c aw av bw bv _).mono ?_
  rw [h1.out]
  rintro e W' ⟨rfl, x4, hW⟩
  have s0 : w.heap.size < W'.heap.size := by rw [hW]; have := x4.size; (try simp at this); omega
  have s1 : w.heap.size + 1 < W'.heap.size := by rw [hW]; have := x4.size; (try simp at this); omega
  have s2 : x2.val.heap.size < W'.heap.size := by rw [hW]; have := x4.size; (try simp at this); omega
  have s3 : x3.val.heap.size < W'.heap.size := by rw [hW]; have := x4.size; (try simp at this); omega
  have s4 : x3.val.heap.size + 1 < W'.heap.size := by rw [hW]; have := x4.size; (try simp at this); omega
  have rr0 : W'.heap[w.heap.size]? = some (.cells #[.int .i64 aw, .int .i64 av] 23) := by rw [hW]; (repeat' (first | (with_reducible assumption) | omega | (simp only [World.size_alloc, World.size_drew, World.size_setCell]; omega) | (refine heap_alloc_at ?_; (first | rfl | (simp; done))) | (with_reducible refine heap_aft _ ?_ ?_) | (with_reducible refine heap_alloc' ?_ ?_) | (with_reducible refine heap_drew ?_)))
  have q00 := cell_block (i := 0) rr0
  have f00 := free_block (i := 0) rr0
  have q01 := cell_block (i := 1) rr0
  have f01 := free_block (i := 1) rr0
  have rr1 : W'.heap[w.heap.size + 1]? = some (.cells #[.int .i64 bw, .int .i64 bv] 23) := by rw [hW]; (repeat' (first | (with_reducible assumption) | omega | (simp only [World.size_alloc, World.size_drew, World.size_setCell]; omega) | (refine heap_alloc_at ?_; (first | rfl | (simp; done))) | (with_reducible refine heap_aft _ ?_ ?_) | (with_reducible refine heap_alloc' ?_ ?_) | (with_reducible refine heap_drew ?_)))
  have q10 := cell_block (i := 0) rr1
  have f10 := free_block (i := 0) rr1
  have q11 := cell_block (i := 1) rr1
  have f11 := free_block (i := 1) rr1
  have rr2 : W'.heap[x2.val.heap.size]? = some (.cells #[.int .i64 0, .int .i64 0] 23) := by rw [hW]; (repeat' (first | (with_reducible assumption) | omega | (simp only [World.size_alloc, World.size_drew, World.size_setCell]; omega) | (refine heap_alloc_at ?_; (first | rfl | (simp; done))) | (with_reducible refine heap_aft _ ?_ ?_) | (with_reducible refine heap_alloc' ?_ ?_) | (with_reducible refine heap_drew ?_)))
  have q20 := cell_block (i := 0) rr2
  have f20 := free_block (i := 0) rr2
  have q21 := cell_block (i := 1) rr2
  have f21 := free_block (i := 1) rr2
  have rr3 : W'.heap[x3.val.heap.size]? = some (.cells #[.int .i64 aw, .int .i64 (av.tdiv bv)] 23) := by rw [hW]; (repeat' (first | (with_reducible assumption) | omega | (simp only [World.size_alloc, World.size_drew, World.size_setCell]; omega) | (refine heap_alloc_at ?_; (first | rfl | (simp; done))) | (with_reducible refine heap_aft _ ?_ ?_) | (with_reducible refine heap_alloc' ?_ ?_) | (with_reducible refine heap_drew ?_)))
  have q30 := cell_block (i := 0) rr3
  have f30 := free_block (i := 0) rr3
  have q31 := cell_block (i := 1) rr3
  have f31 := free_block (i := 1) rr3
  have rr4 : W'.heap[x3.val.heap.size + 1]? = some (.cells #[.int .i64 aw, .int .i64 (av % bv)] 23) := by rw [hW]; (repeat' (first | (with_reducible assumption) | omega | (simp only [World.size_alloc, World.size_drew, World.size_setCell]; omega) | (refine heap_alloc_at ?_; (first | rfl | (simp; done))) | (with_reducible refine heap_aft _ ?_ ?_) | (with_reducible refine heap_alloc' ?_ ?_) | (with_reducible refine heap_drew ?_)))
  have q40 := cell_block (i := 0) rr4
  have f40 := free_block (i := 0) rr4
  have q41 := cell_block (i := 1) rr4
  have f41 := free_block (i := 1) rr4
  simp at q00 q01 q10 q11 q20 q21 q30 q31 q40 q41
  clear rr0
  clear rr1
  clear rr2
  clear rr3
  clear rr4
  have hb0' : Below w.heap.size w W' := by rw [hW]; (repeat' (first | (with_reducible exact Below.refl _ _) | (with_reducible refine Below.alloc ?_ ?_ _) | (with_reducible refine Below.drew ?_) | (with_reducible refine Aft.below _ ?_ ?_) | (with_reducible refine Below.setCell_new ?_ ?_ _ _) | (with_reducible exact Nat.le_refl _) | (with_reducible refine Aft.le _ ?_) | (with_reducible refine le_alloc ?_) | (with_reducible refine le_drew ?_) | (with_reducible refine le_setCell ?_) | omega))
  clear hW
  go_wp2_with fail
  refine wp_region_aft (by kernel_rfl) (by kernel_rfl) ?_
  repeat (go_big_quiet_step (fail))
  refine wpQuiet_nil ?_
  intro x5
  have zx5_0 : w.heap.size < x5.val.heap.size := by have := x5.size; (try simp at this); omega
  have zx5_1 : w.heap.size + 1 < x5.val.heap.size := by have := x5.size; (try simp at this); omega
  have zx5_2 : x2.val.heap.size < x5.val.heap.size := by have := x5.size; (try simp at this); omega
  have zx5_3 : x3.val.heap.size < x5.val.heap.size := by have := x5.size; (try simp at this); omega
  have zx5_4 : x3.val.heap.size + 1 < x5.val.heap.size := by have := x5.size; (try simp at this); omega
  go_wp2_with fail
  refine (DivErr_c aw av bw bv _).mono ?_
  rw [h2.out]
  rintro e w' ⟨rfl, x6, rfl⟩
  have zx6_0 : w.heap.size < x6.val.heap.size := by have := x6.size; (try simp at this); omega
  have zx6_1 : w.heap.size + 1 < x6.val.heap.size := by have := x6.size; (try simp at this); omega
  have zx6_2 : x2.val.heap.size < x6.val.heap.size := by have := x6.size; (try simp at this); omega
  have zx6_3 : x3.val.heap.size < x6.val.heap.size := by have := x6.size; (try simp at this); omega
  have zx6_4 : x3.val.heap.size + 1 < x6.val.heap.size := by have := x6.size; (try simp at this); omega
  go_wp2_with fail
  refine wp_region_aft (by kernel_rfl) (by kernel_rfl) ?_
  repeat (go_big_quiet_step (first | (go_at_call 19; exact Calls.qa (of_c _ _ _))))
  refine wpQuiet_nil ?_
  intro x7
  have zx7_0 : w.heap.size < x7.val.heap.size := by have := x7.size; (try simp at this); omega
  have zx7_1 : w.heap.size + 1 < x7.val.heap.size := by have := x7.size; (try simp at this); omega
  have zx7_2 : x2.val.heap.size < x7.val.heap.size := by have := x7.size; (try simp at this); omega
  have zx7_3 : x3.val.heap.size < x7.val.heap.size := by have := x7.size; (try simp at this); omega
  have zx7_4 : x3.val.heap.size + 1 < x7.val.heap.size := by have := x7.size; (try simp at this); omega
  go_wp2
  go_ret
  exact ⟨rfl, Below.aft (by (repeat' (first | (with_reducible exact Below.refl _ _) | (with_reducible assumption) | (with_reducible refine Below.alloc ?_ ?_ _) | (with_reducible refine Below.drew ?_) | (with_reducible refine Aft.below _ ?_ ?_) | (with_reducible refine Below.setCell_new ?_ ?_ _ _) | (with_reducible exact Nat.le_refl _) | (with_reducible refine Aft.le _ ?_) | (with_reducible refine le_alloc ?_) | (with_reducible refine le_drew ?_) | (with_reducible refine le_setCell ?_) | omega)))⟩

set_option maxRecDepth 20000 in
set_option maxHeartbeats 1600000 in
theorem BitsProducts_11 (hawake : ∀ w, Calls Try.prog 11 #[] w fun e w' => e = .returned (.bool true) ∧ ∃ x : Aft w, w' = x.val) (aw av bw bv e1 e2 : Int) (w : World) (hn1 : e1 ≠ 0) (h1 : Hid (mulErr aw av bw bv = e1)) (hn2 : e2 ≠ 0) (h2 : Hid (divErr aw av bw bv = e2)) :
    Calls Try.prog 5 #[.agg #[.int .i64 aw, .int .i64 av], .agg #[.int .i64 bw, .int .i64 bv]] w fun e w' => e = .returned (.bool true) ∧ ∃ x : Aft w, w' = x.val := by
  have Hn_e1 := Lib.hid hn1
  have hn'_e1 : (e1 == 0) = false := by simpa using hn1
  have hb_e1 : (e1 != 0) = true := by simpa using hn1
  clear hn1
  have Hn_e2 := Lib.hid hn2
  have hn'_e2 : (e2 == 0) = false := by simpa using hn2
  have hb_e2 : (e2 != 0) = true := by simpa using hn2
  clear hn2
  go_enter Try.func5, Try.ntmps5
  go_wp2_with fail
  refine (hawake _).mono ?_
  rintro e w' ⟨rfl, x1, rfl⟩
  have zx1_0 : w.heap.size < x1.val.heap.size := by have := x1.size; (try simp at this); omega
  have zx1_1 : w.heap.size + 1 < x1.val.heap.size := by have := x1.size; (try simp at this); omega
  go_wp2_with fail
  refine (MulWide_bad aw av bw bv e1 _ Hn_e1.out h1).mono ?_
  rintro e w' ⟨rfl, x2, rfl⟩
  have zx2_0 : w.heap.size < x2.val.heap.size := by have := x2.size; (try simp at this); omega
  have zx2_1 : w.heap.size + 1 < x2.val.heap.size := by have := x2.size; (try simp at this); omega
  go_wp2_with fail
  refine (DivMod_bad aw av bw bv e2 _ Hn_e2.out h2).mono ?_
  rintro e w' ⟨rfl, x3, rfl⟩
  have zx3_0 : w.heap.size < x3.val.heap.size := by have := x3.size; (try simp at this); omega
  have zx3_1 : w.heap.size + 1 < x3.val.heap.size := by have := x3.size; (try simp at this); omega
  have zx3_2 : x2.val.heap.size < x3.val.heap.size := by have := x3.size; (try simp at this); omega
  go_wp2_with fail
  refine (MulErr_c aw av bw bv _).mono ?_
  rw [h1.out]
  rintro e W' ⟨rfl, x4, hW⟩
  have s0 : w.heap.size < W'.heap.size := by rw [hW]; have := x4.size; (try simp at this); omega
  have s1 : w.heap.size + 1 < W'.heap.size := by rw [hW]; have := x4.size; (try simp at this); omega
  have s2 : x2.val.heap.size < W'.heap.size := by rw [hW]; have := x4.size; (try simp at this); omega
  have s3 : x3.val.heap.size < W'.heap.size := by rw [hW]; have := x4.size; (try simp at this); omega
  have s4 : x3.val.heap.size + 1 < W'.heap.size := by rw [hW]; have := x4.size; (try simp at this); omega
  have rr0 : W'.heap[w.heap.size]? = some (.cells #[.int .i64 aw, .int .i64 av] 23) := by rw [hW]; (repeat' (first | (with_reducible assumption) | omega | (simp only [World.size_alloc, World.size_drew, World.size_setCell]; omega) | (refine heap_alloc_at ?_; (first | rfl | (simp; done))) | (with_reducible refine heap_aft _ ?_ ?_) | (with_reducible refine heap_alloc' ?_ ?_) | (with_reducible refine heap_drew ?_)))
  have q00 := cell_block (i := 0) rr0
  have f00 := free_block (i := 0) rr0
  have q01 := cell_block (i := 1) rr0
  have f01 := free_block (i := 1) rr0
  have rr1 : W'.heap[w.heap.size + 1]? = some (.cells #[.int .i64 bw, .int .i64 bv] 23) := by rw [hW]; (repeat' (first | (with_reducible assumption) | omega | (simp only [World.size_alloc, World.size_drew, World.size_setCell]; omega) | (refine heap_alloc_at ?_; (first | rfl | (simp; done))) | (with_reducible refine heap_aft _ ?_ ?_) | (with_reducible refine heap_alloc' ?_ ?_) | (with_reducible refine heap_drew ?_)))
  have q10 := cell_block (i := 0) rr1
  have f10 := free_block (i := 0) rr1
  have q11 := cell_block (i := 1) rr1
  have f11 := free_block (i := 1) rr1
  have rr2 : W'.heap[x2.val.heap.size]? = some (.cells #[.int .i64 0, .int .i64 0] 23) := by rw [hW]; (repeat' (first | (with_reducible assumption) | omega | (simp only [World.size_alloc, World.size_drew, World.size_setCell]; omega) | (refine heap_alloc_at ?_; (first | rfl | (simp; done))) | (with_reducible refine heap_aft _ ?_ ?_) | (with_reducible refine heap_alloc' ?_ ?_) | (with_reducible refine heap_drew ?_)))
  have q20 := cell_block (i := 0) rr2
  have f20 := free_block (i := 0) rr2
  have q21 := cell_block (i := 1) rr2
  have f21 := free_block (i := 1) rr2
  have rr3 : W'.heap[x3.val.heap.size]? = some (.cells #[.int .i64 0, .int .i64 0] 23) := by rw [hW]; (repeat' (first | (with_reducible assumption) | omega | (simp only [World.size_alloc, World.size_drew, World.size_setCell]; omega) | (refine heap_alloc_at ?_; (first | rfl | (simp; done))) | (with_reducible refine heap_aft _ ?_ ?_) | (with_reducible refine heap_alloc' ?_ ?_) | (with_reducible refine heap_drew ?_)))
  have q30 := cell_block (i := 0) rr3
  have f30 := free_block (i := 0) rr3
  have q31 := cell_block (i := 1) rr3
  have f31 := free_block (i := 1) rr3
  have rr4 : W'.heap[x3.val.heap.size + 1]? = some (.cells #[.int .i64 0, .int .i64 0] 23) := by rw [hW]; (repeat' (first | (with_reducible assumption) | omega | (simp only [World.size_alloc, World.size_drew, World.size_setCell]; omega) | (refine heap_alloc_at ?_; (first | rfl | (simp; done))) | (with_reducible refine heap_aft _ ?_ ?_) | (with_reducible refine heap_alloc' ?_ ?_) | (with_reducible refine heap_drew ?_)))
  have q40 := cell_block (i := 0) rr4
  have f40 := free_block (i := 0) rr4
  have q41 := cell_block (i := 1) rr4
  have f41 := free_block (i := 1) rr4
  simp at q00 q01 q10 q11 q20 q21 q30 q31 q40 q41
  clear rr0
  clear rr1
  clear rr2
  clear rr3
  clear rr4
  have hb0' : Below w.heap.size w W' := by rw [hW]; (repeat' (first | (with_reducible exact Below.refl _ _) | (with_reducible refine Below.alloc ?_ ?_ _) | (with_reducible refine Below.drew ?_) | (with_reducible refine Aft.below _ ?_ ?_) | (with_reducible refine Below.setCell_new ?_ ?_ _ _) | (with_reducible exact Nat.le_refl _) | (with_reducible refine Aft.le _ ?_) | (with_reducible refine le_alloc ?_) | (with_reducible refine le_drew ?_) | (with_reducible refine le_setCell ?_) | omega))
  clear hW
  go_wp2_with fail
  refine wp_region_aft (by kernel_rfl) (by kernel_rfl) ?_
  repeat (go_big_quiet_step (fail))
  refine wpQuiet_nil ?_
  intro x5
  have zx5_0 : w.heap.size < x5.val.heap.size := by have := x5.size; (try simp at this); omega
  have zx5_1 : w.heap.size + 1 < x5.val.heap.size := by have := x5.size; (try simp at this); omega
  have zx5_2 : x2.val.heap.size < x5.val.heap.size := by have := x5.size; (try simp at this); omega
  have zx5_3 : x3.val.heap.size < x5.val.heap.size := by have := x5.size; (try simp at this); omega
  have zx5_4 : x3.val.heap.size + 1 < x5.val.heap.size := by have := x5.size; (try simp at this); omega
  go_wp2_with fail
  refine (DivErr_c aw av bw bv _).mono ?_
  rw [h2.out]
  rintro e w' ⟨rfl, x6, rfl⟩
  have zx6_0 : w.heap.size < x6.val.heap.size := by have := x6.size; (try simp at this); omega
  have zx6_1 : w.heap.size + 1 < x6.val.heap.size := by have := x6.size; (try simp at this); omega
  have zx6_2 : x2.val.heap.size < x6.val.heap.size := by have := x6.size; (try simp at this); omega
  have zx6_3 : x3.val.heap.size < x6.val.heap.size := by have := x6.size; (try simp at this); omega
  have zx6_4 : x3.val.heap.size + 1 < x6.val.heap.size := by have := x6.size; (try simp at this); omega
  go_wp2
  go_ret
  exact ⟨rfl, Below.aft (by (repeat' (first | (with_reducible exact Below.refl _ _) | (with_reducible assumption) | (with_reducible refine Below.alloc ?_ ?_ _) | (with_reducible refine Below.drew ?_) | (with_reducible refine Aft.below _ ?_ ?_) | (with_reducible refine Below.setCell_new ?_ ?_ _ _) | (with_reducible exact Nat.le_refl _) | (with_reducible refine Aft.le _ ?_) | (with_reducible refine le_alloc ?_) | (with_reducible refine le_drew ?_) | (with_reducible refine le_setCell ?_) | omega)))⟩


theorem BitsProducts_all (hawake : ∀ w, Calls Try.prog 11 #[] w fun e w' => e = .returned (.bool true) ∧ ∃ x : Aft w, w' = x.val) (aw av bw bv : Int) (w : World) :
    Calls Try.prog 5 #[.agg #[.int .i64 aw, .int .i64 av], .agg #[.int .i64 bw, .int .i64 bv]] w fun e w' => e = .returned (.bool true) ∧ ∃ x : Aft w, w' = x.val := by
  by_cases h1 : mulErr aw av bw bv = 0 <;> by_cases h2 : divErr aw av bw bv = 0
  · exact BitsProducts_00 hawake aw av bw bv w h1 h2
  · exact BitsProducts_01 hawake aw av bw bv _ w h1 h2 rfl
  · exact BitsProducts_10 hawake aw av bw bv _ w h1 rfl h2
  · exact BitsProducts_11 hawake aw av bw bv _ _ w h1 rfl h2 rfl

end Go.Proofs.Ytlplphigjejahaa
