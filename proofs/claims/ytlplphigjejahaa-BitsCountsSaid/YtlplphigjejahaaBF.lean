/-
  Contracts of the functions of chapter 1 (twenty-second part: counts).
-/
import Derived.Test.YtlplphigjejahaaBE
set_option linter.unusedSimpArgs false
set_option linter.unusedVariables false
namespace Go.Proofs.Ytlplphigjejahaa
open Go.RowKit Go.BigFrame

set_option maxRecDepth 20000 in
set_option maxHeartbeats 1600000 in
theorem CountsOf_bad (wd v er : Int) (w : World) (hn : er ≠ 0) (h9 : Hid (bErr wd v = er)) :
    Calls Try.prog 39 #[.agg #[.int .i64 wd, .int .i64 v]] w fun e w' => e = .returned (.tuple #[.agg #[.int .i64 0, .int .i64 0, .int .i64 0, .int .i64 0], .int .i64 er]) ∧ ∃ x : Aft w, w' = x.val := by
  have hn' : (er == 0) = false := by simpa using hn
  have hb_ : (er != 0) = true := by simpa using hn
  clear hn
  go_enter Try.func39, Try.ntmps39
  go_wp2_with fail
  refine (CheckBits_c wd v _).mono ?_
  rw [h9.out]
  rintro e w' ⟨rfl, x1, rfl⟩
  have zx1_0 : w.heap.size < x1.val.heap.size := by have := x1.size; (try simp at this); omega
  have zx1_1 : w.heap.size + 1 < x1.val.heap.size := by have := x1.size; (try simp at this); omega
  have rr : x1.val.heap[w.heap.size + 1]? = some (.cells #[.int .i64 0, .int .i64 0, .int .i64 0, .int .i64 0] 60) := by (repeat' (first | (with_reducible assumption) | omega | (simp only [World.size_alloc, World.size_drew, World.size_setCell]; omega) | exact heap_alloc_at (by first | rfl | (simp; done)) | (with_reducible refine heap_aft _ ?_ ?_) | (with_reducible refine heap_alloc' ?_ ?_) | (with_reducible refine heap_drew ?_)))
  have q0 := cell_block (i := 0) rr
  have f0 := free_block (i := 0) rr
  have q1 := cell_block (i := 1) rr
  have f1 := free_block (i := 1) rr
  have q2 := cell_block (i := 2) rr
  have f2 := free_block (i := 2) rr
  have q3 := cell_block (i := 3) rr
  have f3 := free_block (i := 3) rr
  simp at q0 q1 q2 q3
  have hb0' : Below w.heap.size w x1.val := by (repeat' (first | (with_reducible exact Below.refl _ _) | (with_reducible refine Below.alloc ?_ ?_ _) | (with_reducible refine Below.drew ?_) | (with_reducible refine Aft.below _ ?_ ?_) | (with_reducible refine Below.setCell_new ?_ ?_ _ _) | (with_reducible exact Nat.le_refl _) | (with_reducible refine Aft.le _ ?_) | (with_reducible refine le_alloc ?_) | (with_reducible refine le_drew ?_) | (with_reducible refine le_setCell ?_) | omega))
  clear rr
  generalize x1.val = W' at *
  go_wp2
  refine bodyPost_ret (by simp [results, Try.results39, go_sem, q0, q1, q2, q3]; try rfl) rfl ?_
  exact ⟨rfl, Below.aft (by (repeat' (first | (with_reducible exact Below.refl _ _) | (with_reducible assumption) | (with_reducible refine Below.alloc ?_ ?_ _) | (with_reducible refine Below.drew ?_) | (with_reducible refine Aft.below _ ?_ ?_) | (with_reducible refine Below.setCell_new ?_ ?_ _ _) | (with_reducible exact Nat.le_refl _) | (with_reducible refine Aft.le _ ?_) | (with_reducible refine le_alloc ?_) | (with_reducible refine le_drew ?_) | (with_reducible refine le_setCell ?_) | omega)))⟩

set_option maxRecDepth 20000 in
set_option maxHeartbeats 1600000 in
theorem CountsOf_c (n : Nat) (v : Int) (w : World) (h1 : 1 ≤ n) (h2 : n ≤ 16) (h9 : Hid (bErr n v = 0)) :
    Calls Try.prog 39 #[.agg #[.int .i64 n, .int .i64 v]] w fun e w' => e = .returned (.tuple #[.agg #[.int .i64 (cst n v n).2.2, .int .i64 ((n : Int) - 1 - (cst n v n).2.1), .int .i64 (cst n v n).1, .int .i64 ((cst n v n).2.2 % 2)], .int .i64 0]) ∧ ∃ x : Aft w, w' = x.val := by
  have hcb := cst_bd (n := (n : Int)) (v := v) (by omega) n
  go_enter Try.func39, Try.ntmps39
  go_wp2_with fail
  refine (CheckBits_c n v _).mono ?_
  rw [h9.out]
  rintro e w' ⟨rfl, x1, rfl⟩
  have ma : x1.val.heap[w.heap.size]? = some (.cells #[.int .i64 n, .int .i64 v] 23) := by (repeat' (first | (with_reducible assumption) | omega | (simp only [World.size_alloc, World.size_drew, World.size_setCell]; omega) | (refine heap_alloc_at ?_; (first | rfl | (simp; done))) | (with_reducible refine heap_aft _ ?_ ?_) | (with_reducible refine heap_alloc' ?_ ?_) | (with_reducible refine heap_drew ?_)))
  have mr : x1.val.heap[w.heap.size + 1]? = some (.cells #[.int .i64 0, .int .i64 0, .int .i64 0, .int .i64 0] 60) := by (repeat' (first | (with_reducible assumption) | omega | (simp only [World.size_alloc, World.size_drew, World.size_setCell]; omega) | (refine heap_alloc_at ?_; (first | rfl | (simp; done))) | (with_reducible refine heap_aft _ ?_ ?_) | (with_reducible refine heap_alloc' ?_ ?_) | (with_reducible refine heap_drew ?_)))
  have hb1 : Below w.heap.size w x1.val := by (repeat' (first | (with_reducible exact Below.refl _ _) | (with_reducible assumption) | (with_reducible exact Aft.pf _) | (with_reducible refine Below.alloc ?_ ?_ _) | (with_reducible refine Below.drew ?_) | (with_reducible refine Aft.below _ ?_ ?_) | (with_reducible refine Below.setCell_new ?_ ?_ _ _) | (with_reducible exact Nat.le_refl _) | (with_reducible refine Aft.le _ ?_) | (with_reducible refine le_alloc ?_) | (with_reducible refine le_drew ?_) | (with_reducible refine le_setCell ?_) | omega))
  generalize x1.val = W1 at *
  have la := lt_of_get ma
  have lr := lt_of_get mr
  have qa0 := cell_block (i := 0) ma
  have qa1 := cell_block (i := 1) ma
  simp at qa0 qa1
  have la1 : w.heap.size < W1.heap.size + 1 := by omega
  have la2 : w.heap.size < W1.heap.size + 1 + 1 := by omega
  have la3 : w.heap.size < W1.heap.size + 1 + 1 + 1 := by omega
  have la4 : ¬ w.heap.size = W1.heap.size := by omega
  have la5 : ¬ w.heap.size = W1.heap.size + 1 := by omega
  have la6 : ¬ w.heap.size = W1.heap.size + 1 + 1 := by omega
  have la7 : ¬ W1.heap.size = w.heap.size := by omega
  have la8 : ¬ W1.heap.size + 1 = w.heap.size := by omega
  have la9 : ¬ W1.heap.size + 1 + 1 = w.heap.size := by omega
  go_wp2_with fail
  clear la1 la2 la3 la4 la5 la6 la7 la8 la9
  refine (eachOne_Counts n v W1.heap.size W1.heap.size (W1.heap.size + 1) (W1.heap.size + 1 + 1) _ h1 h2 (by omega) (by omega) (by omega) (by omega) (by omega) ?hw ?c1 ?c2 ?c3).mono ?_
  case hw => simp; omega
  case c1 => show _ = some (Obj.cells #[.int .i64 (n : Int)] _); (repeat' (first | (with_reducible assumption) | omega | (simp only [World.size_alloc, World.size_drew, World.size_setCell]; omega) | (refine heap_alloc_at ?_; (first | rfl | (simp; done))) | (with_reducible refine heap_aft _ ?_ ?_) | (with_reducible refine heap_alloc' ?_ ?_) | (with_reducible refine heap_drew ?_)))
  case c2 => show _ = some (Obj.cells #[.int .i64 (-1)] _); (repeat' (first | (with_reducible assumption) | omega | (simp only [World.size_alloc, World.size_drew, World.size_setCell]; omega) | (refine heap_alloc_at ?_; (first | rfl | (simp; done))) | (with_reducible refine heap_aft _ ?_ ?_) | (with_reducible refine heap_alloc' ?_ ?_) | (with_reducible refine heap_drew ?_)))
  case c3 => show _ = some (Obj.cells #[.int .i64 0] _); (repeat' (first | (with_reducible assumption) | omega | (simp only [World.size_alloc, World.size_drew, World.size_setCell]; omega) | (refine heap_alloc_at ?_; (first | rfl | (simp; done))) | (with_reducible refine heap_aft _ ?_ ?_) | (with_reducible refine heap_alloc' ?_ ?_) | (with_reducible refine heap_drew ?_)))
  rintro e W2 ⟨rfl, hb2, r1, r2, r3⟩
  have ma2 : W2.heap[w.heap.size]? = some (.cells #[.int .i64 n, .int .i64 v] 23) := by rw [hb2.block _ la]; (repeat' (first | (with_reducible assumption) | omega | (simp only [World.size_alloc, World.size_drew, World.size_setCell]; omega) | (refine heap_alloc_at ?_; (first | rfl | (simp; done))) | (with_reducible refine heap_aft _ ?_ ?_) | (with_reducible refine heap_alloc' ?_ ?_) | (with_reducible refine heap_drew ?_)))
  have mr2 : W2.heap[w.heap.size + 1]? = some (.cells #[.int .i64 0, .int .i64 0, .int .i64 0, .int .i64 0] 60) := by rw [hb2.block _ lr]; (repeat' (first | (with_reducible assumption) | omega | (simp only [World.size_alloc, World.size_drew, World.size_setCell]; omega) | (refine heap_alloc_at ?_; (first | rfl | (simp; done))) | (with_reducible refine heap_aft _ ?_ ?_) | (with_reducible refine heap_alloc' ?_ ?_) | (with_reducible refine heap_drew ?_)))
  have hbw : Below w.heap.size w W2 := Below.trans (by (repeat' (first | (with_reducible exact Below.refl _ _) | (with_reducible assumption) | (with_reducible exact Aft.pf _) | (with_reducible refine Below.alloc ?_ ?_ _) | (with_reducible refine Below.drew ?_) | (with_reducible refine Aft.below _ ?_ ?_) | (with_reducible refine Below.setCell_new ?_ ?_ _ _) | (with_reducible exact Nat.le_refl _) | (with_reducible refine Aft.le _ ?_) | (with_reducible refine le_alloc ?_) | (with_reducible refine le_drew ?_) | (with_reducible refine le_setCell ?_) | omega))) (hb2.mono (by omega))
  have pa0 := cell_block (i := 0) ma2
  have p1 := cell_block (i := 0) r1
  have p2 := cell_block (i := 0) r2
  have p3 := cell_block (i := 0) r3
  have pr0 := cell_block (i := 0) mr2
  have fr0 := free_block (i := 0) mr2
  have pr1 := cell_block (i := 1) mr2
  have fr1 := free_block (i := 1) mr2
  have pr2 := cell_block (i := 2) mr2
  have fr2 := free_block (i := 2) mr2
  have pr3 := cell_block (i := 3) mr2
  have fr3 := free_block (i := 3) mr2
  simp at pa0 p1 p2 p3 pr0 pr1 pr2 pr3
  have t0 := lt_of_get ma2
  have t1 := lt_of_get mr2
  have t2 := lt_of_get r1
  have t3 := lt_of_get r2
  have t4 := lt_of_get r3
  clear ma2 mr2 r1 r2 r3 qa0 qa1 hb2
  clear ma mr hb1
  obtain ⟨S, hS⟩ : ∃ S, cst n v n = S := ⟨_, rfl⟩
  rw [hS] at hcb p1 p2 p3
  have HS := Lib.hid hS
  clear hS
  obtain ⟨S1, S2, S3⟩ := S
  simp only at hcb p1 p2 p3
  generalize W1.heap.size = N at *
  go_wp2
  refine bodyPost_ret (by simp [results, Try.results39, go_sem, pr0, pr1, pr2, pr3]; try rfl) rfl ?_
  exact ⟨by rw [HS.out], Below.aft (by (repeat' (first | (with_reducible exact Below.refl _ _) | (with_reducible assumption) | (with_reducible exact Aft.pf _) | (with_reducible refine Below.alloc ?_ ?_ _) | (with_reducible refine Below.drew ?_) | (with_reducible refine Aft.below _ ?_ ?_) | (with_reducible refine Below.setCell_new ?_ ?_ _ _) | (with_reducible exact Nat.le_refl _) | (with_reducible refine Aft.le _ ?_) | (with_reducible refine le_alloc ?_) | (with_reducible refine le_drew ?_) | (with_reducible refine le_setCell ?_) | omega)))⟩

set_option maxRecDepth 20000 in
set_option maxHeartbeats 1600000 in
theorem IndexOf_bad (wd v er : Int) (w : World) (hn : er ≠ 0) (h9 : Hid (bErr wd v = er)) :
    Calls Try.prog 41 #[.agg #[.int .i64 wd, .int .i64 v]] w fun e w' => e = .returned (.tuple #[.int .i64 0, .int .i64 er]) ∧ ∃ x : Aft w, w' = x.val := by
  have hn' : (er == 0) = false := by simpa using hn
  have hb_ : (er != 0) = true := by simpa using hn
  clear hn
  go_enter Try.func41, Try.ntmps41
  go_wp2_with fail
  refine (CheckBits_c wd v _).mono ?_
  rw [h9.out]
  rintro e w' ⟨rfl, x1, rfl⟩
  have zx1_0 : w.heap.size < x1.val.heap.size := by have := x1.size; (try simp at this); omega
  go_wp2
  go_ret2
  exact ⟨rfl, Below.aft (by (repeat' (first | (with_reducible exact Below.refl _ _) | (with_reducible assumption) | (with_reducible exact Aft.pf _) | (with_reducible refine Below.alloc ?_ ?_ _) | (with_reducible refine Below.drew ?_) | (with_reducible refine Aft.below _ ?_ ?_) | (with_reducible refine Below.setCell_new ?_ ?_ _ _) | (with_reducible exact Nat.le_refl _) | (with_reducible refine Aft.le _ ?_) | (with_reducible refine le_alloc ?_) | (with_reducible refine le_drew ?_) | (with_reducible refine le_setCell ?_) | omega)))⟩

set_option maxRecDepth 20000 in
set_option maxHeartbeats 1600000 in
theorem IndexOf_none (n : Nat) (v : Int) (w : World) (h1 : 1 ≤ n) (h2 : n ≤ 16) (h9 : Hid (bErr n v = 0)) (ho : (cst n v n).2.2 ≠ 1) :
    Calls Try.prog 41 #[.agg #[.int .i64 n, .int .i64 v]] w fun e w' => e = .returned (.tuple #[.int .i64 0, .int .i64 3]) ∧ ∃ x : Aft w, w' = x.val := by
  have hcb := cst_bd (n := (n : Int)) (v := v) (by omega) n
  go_enter Try.func41, Try.ntmps41
  go_wp2_with fail
  refine (CheckBits_c n v _).mono ?_
  rw [h9.out]
  rintro e w' ⟨rfl, x1, rfl⟩
  have ma : x1.val.heap[w.heap.size]? = some (.cells #[.int .i64 n, .int .i64 v] 23) := by (repeat' (first | (with_reducible assumption) | omega | (simp only [World.size_alloc, World.size_drew, World.size_setCell]; omega) | (refine heap_alloc_at ?_; (first | rfl | (simp; done))) | (with_reducible refine heap_aft _ ?_ ?_) | (with_reducible refine heap_alloc' ?_ ?_) | (with_reducible refine heap_drew ?_)))
  have hb1 : Below w.heap.size w x1.val := by (repeat' (first | (with_reducible exact Below.refl _ _) | (with_reducible assumption) | (with_reducible exact Aft.pf _) | (with_reducible refine Below.alloc ?_ ?_ _) | (with_reducible refine Below.drew ?_) | (with_reducible refine Aft.below _ ?_ ?_) | (with_reducible refine Below.setCell_new ?_ ?_ _ _) | (with_reducible exact Nat.le_refl _) | (with_reducible refine Aft.le _ ?_) | (with_reducible refine le_alloc ?_) | (with_reducible refine le_drew ?_) | (with_reducible refine le_setCell ?_) | omega))
  generalize x1.val = W1 at *
  have la := lt_of_get ma
  have qa0 := cell_block (i := 0) ma
  have qa1 := cell_block (i := 1) ma
  simp at qa0 qa1
  have la1 : w.heap.size < W1.heap.size + 1 := by omega
  have la2 : w.heap.size < W1.heap.size + 1 + 1 := by omega
  have la4 : ¬ w.heap.size = W1.heap.size := by omega
  have la5 : ¬ w.heap.size = W1.heap.size + 1 := by omega
  have la7 : ¬ W1.heap.size = w.heap.size := by omega
  have la8 : ¬ W1.heap.size + 1 = w.heap.size := by omega
  go_wp2_with fail
  clear la1 la2 la4 la5 la7 la8
  refine (eachOne_Index n v W1.heap.size W1.heap.size (W1.heap.size + 1) _ h1 h2 (by omega) (by omega) (by omega) ?hw ?c1 ?c2).mono ?_
  case hw => simp; omega
  case c1 => show _ = some (Obj.cells #[.int .i64 0] _); (repeat' (first | (with_reducible assumption) | omega | (simp only [World.size_alloc, World.size_drew, World.size_setCell]; omega) | (refine heap_alloc_at ?_; (first | rfl | (simp; done))) | (with_reducible refine heap_aft _ ?_ ?_) | (with_reducible refine heap_alloc' ?_ ?_) | (with_reducible refine heap_drew ?_)))
  case c2 => show _ = some (Obj.cells #[.int .i64 0] _); (repeat' (first | (with_reducible assumption) | omega | (simp only [World.size_alloc, World.size_drew, World.size_setCell]; omega) | (refine heap_alloc_at ?_; (first | rfl | (simp; done))) | (with_reducible refine heap_aft _ ?_ ?_) | (with_reducible refine heap_alloc' ?_ ?_) | (with_reducible refine heap_drew ?_)))
  rintro e W2 ⟨rfl, hb2, r1, r2⟩
  have hbw : Below w.heap.size w W2 := Below.trans (by (repeat' (first | (with_reducible exact Below.refl _ _) | (with_reducible assumption) | (with_reducible exact Aft.pf _) | (with_reducible refine Below.alloc ?_ ?_ _) | (with_reducible refine Below.drew ?_) | (with_reducible refine Aft.below _ ?_ ?_) | (with_reducible refine Below.setCell_new ?_ ?_ _ _) | (with_reducible exact Nat.le_refl _) | (with_reducible refine Aft.le _ ?_) | (with_reducible refine le_alloc ?_) | (with_reducible refine le_drew ?_) | (with_reducible refine le_setCell ?_) | omega))) (hb2.mono (by omega))
  have p1 := cell_block (i := 0) r1
  have p2 := cell_block (i := 0) r2
  simp at p1 p2
  have t2 := lt_of_get r1
  have t3 := lt_of_get r2
  clear r1 r2 qa0 qa1 hb2 ma hb1
  have ho1 : ((cst n v n).2.2 == 1) = false := by simpa using ho
  have ho2 : ((cst n v n).2.2 != 1) = true := by simpa using ho
  clear ho
  go_wp2
  go_ret2
  exact ⟨rfl, Below.aft (by (repeat' (first | (with_reducible exact Below.refl _ _) | (with_reducible assumption) | (with_reducible exact Aft.pf _) | (with_reducible refine Below.alloc ?_ ?_ _) | (with_reducible refine Below.drew ?_) | (with_reducible refine Aft.below _ ?_ ?_) | (with_reducible refine Below.setCell_new ?_ ?_ _ _) | (with_reducible exact Nat.le_refl _) | (with_reducible refine Aft.le _ ?_) | (with_reducible refine le_alloc ?_) | (with_reducible refine le_drew ?_) | (with_reducible refine le_setCell ?_) | omega)))⟩

set_option maxRecDepth 20000 in
set_option maxHeartbeats 1600000 in
theorem IndexOf_c (n : Nat) (v : Int) (w : World) (h1 : 1 ≤ n) (h2 : n ≤ 16) (h9 : Hid (bErr n v = 0)) (ho : (cst n v n).2.2 = 1) :
    Calls Try.prog 41 #[.agg #[.int .i64 n, .int .i64 v]] w fun e w' => e = .returned (.tuple #[.int .i64 (cst n v n).1, .int .i64 0]) ∧ ∃ x : Aft w, w' = x.val := by
  have hcb := cst_bd (n := (n : Int)) (v := v) (by omega) n
  go_enter Try.func41, Try.ntmps41
  go_wp2_with fail
  refine (CheckBits_c n v _).mono ?_
  rw [h9.out]
  rintro e w' ⟨rfl, x1, rfl⟩
  have ma : x1.val.heap[w.heap.size]? = some (.cells #[.int .i64 n, .int .i64 v] 23) := by (repeat' (first | (with_reducible assumption) | omega | (simp only [World.size_alloc, World.size_drew, World.size_setCell]; omega) | (refine heap_alloc_at ?_; (first | rfl | (simp; done))) | (with_reducible refine heap_aft _ ?_ ?_) | (with_reducible refine heap_alloc' ?_ ?_) | (with_reducible refine heap_drew ?_)))
  have hb1 : Below w.heap.size w x1.val := by (repeat' (first | (with_reducible exact Below.refl _ _) | (with_reducible assumption) | (with_reducible exact Aft.pf _) | (with_reducible refine Below.alloc ?_ ?_ _) | (with_reducible refine Below.drew ?_) | (with_reducible refine Aft.below _ ?_ ?_) | (with_reducible refine Below.setCell_new ?_ ?_ _ _) | (with_reducible exact Nat.le_refl _) | (with_reducible refine Aft.le _ ?_) | (with_reducible refine le_alloc ?_) | (with_reducible refine le_drew ?_) | (with_reducible refine le_setCell ?_) | omega))
  generalize x1.val = W1 at *
  have la := lt_of_get ma
  have qa0 := cell_block (i := 0) ma
  have qa1 := cell_block (i := 1) ma
  simp at qa0 qa1
  have la1 : w.heap.size < W1.heap.size + 1 := by omega
  have la2 : w.heap.size < W1.heap.size + 1 + 1 := by omega
  have la4 : ¬ w.heap.size = W1.heap.size := by omega
  have la5 : ¬ w.heap.size = W1.heap.size + 1 := by omega
  have la7 : ¬ W1.heap.size = w.heap.size := by omega
  have la8 : ¬ W1.heap.size + 1 = w.heap.size := by omega
  go_wp2_with fail
  clear la1 la2 la4 la5 la7 la8
  refine (eachOne_Index n v W1.heap.size W1.heap.size (W1.heap.size + 1) _ h1 h2 (by omega) (by omega) (by omega) ?hw ?c1 ?c2).mono ?_
  case hw => simp; omega
  case c1 => show _ = some (Obj.cells #[.int .i64 0] _); (repeat' (first | (with_reducible assumption) | omega | (simp only [World.size_alloc, World.size_drew, World.size_setCell]; omega) | (refine heap_alloc_at ?_; (first | rfl | (simp; done))) | (with_reducible refine heap_aft _ ?_ ?_) | (with_reducible refine heap_alloc' ?_ ?_) | (with_reducible refine heap_drew ?_)))
  case c2 => show _ = some (Obj.cells #[.int .i64 0] _); (repeat' (first | (with_reducible assumption) | omega | (simp only [World.size_alloc, World.size_drew, World.size_setCell]; omega) | (refine heap_alloc_at ?_; (first | rfl | (simp; done))) | (with_reducible refine heap_aft _ ?_ ?_) | (with_reducible refine heap_alloc' ?_ ?_) | (with_reducible refine heap_drew ?_)))
  rintro e W2 ⟨rfl, hb2, r1, r2⟩
  have hbw : Below w.heap.size w W2 := Below.trans (by (repeat' (first | (with_reducible exact Below.refl _ _) | (with_reducible assumption) | (with_reducible exact Aft.pf _) | (with_reducible refine Below.alloc ?_ ?_ _) | (with_reducible refine Below.drew ?_) | (with_reducible refine Aft.below _ ?_ ?_) | (with_reducible refine Below.setCell_new ?_ ?_ _ _) | (with_reducible exact Nat.le_refl _) | (with_reducible refine Aft.le _ ?_) | (with_reducible refine le_alloc ?_) | (with_reducible refine le_drew ?_) | (with_reducible refine le_setCell ?_) | omega))) (hb2.mono (by omega))
  have p1 := cell_block (i := 0) r1
  have p2 := cell_block (i := 0) r2
  simp at p1 p2
  have t2 := lt_of_get r1
  have t3 := lt_of_get r2
  clear r1 r2 qa0 qa1 hb2 ma hb1
  have hc1 := (cst_one (n := (n : Int)) (v := v) n (by omega)).2 ho
  have hi1 : ist n v n = (cst n v n).2.1 := by unfold ist; rw [if_neg (by omega)]
  rw [hi1, ← hc1] at p1
  rw [ho] at p2
  clear ho hc1 hi1 hcb
  go_wp2
  go_ret2
  exact ⟨rfl, Below.aft (by (repeat' (first | (with_reducible exact Below.refl _ _) | (with_reducible assumption) | (with_reducible exact Aft.pf _) | (with_reducible refine Below.alloc ?_ ?_ _) | (with_reducible refine Below.drew ?_) | (with_reducible refine Aft.below _ ?_ ?_) | (with_reducible refine Below.setCell_new ?_ ?_ _ _) | (with_reducible exact Nat.le_refl _) | (with_reducible refine Aft.le _ ?_) | (with_reducible refine le_alloc ?_) | (with_reducible refine le_drew ?_) | (with_reducible refine le_setCell ?_) | omega)))⟩

set_option maxRecDepth 20000 in
set_option maxHeartbeats 6400000 in
theorem Counts_c (n : Nat) (v : Int) (w : World) (h1 : 1 ≤ n) (h2 : n ≤ 16) (h3 : 0 ≤ v) (h4 : v ≤ 65535) :
    Calls Try.prog 44 #[.agg #[.int .i64 n, .int .i64 v]] w fun e w' => e = .returned (.agg #[.int .i64 (cst n v n).2.2, .int .i64 ((n : Int) - 1 - (cst n v n).2.1), .int .i64 (cst n v n).1, .int .i64 ((cst n v n).2.2 % 2)]) ∧ ∃ x : Aft w, w' = x.val := by
  go_enter Try.func44, Try.ntmps44
  go_wp2_with fail
  refine (low_c v n h3 h4 (by omega) _).mono ?_
  rintro e W1 ⟨Lv, rfl, hownL, hbL⟩
  have hs1 : w.heap.size + 1 < W1.heap.size := by have := hbL.size; simp at this; omega
  have e0 : W1.cell? ⟨w.heap.size, 0, none⟩ = some (.int .i64 n) := by rw [hbL.cell (p := ⟨w.heap.size, 0, none⟩) (by simp; omega)]; simp [go_sem]
  have e2 : W1.heap[w.heap.size + 1]? = some (.cells #[.int .i64 0, .int .i64 0, .int .i64 0, .int .i64 0] 60) := by rw [hbL.block _ (by simp)]; (repeat' (first | (with_reducible assumption) | omega | (simp only [World.size_alloc, World.size_drew, World.size_setCell]; omega) | (refine heap_alloc_at ?_; (first | rfl | (simp; done))) | (with_reducible refine heap_aft _ ?_ ?_) | (with_reducible refine heap_alloc' ?_ ?_) | (with_reducible refine heap_drew ?_)))
  have hbw : Below w.heap.size w W1 := ((((Below.refl _ _).alloc (Nat.le_refl _) _).alloc (by simp) _).trans (hbL.mono (by simp; omega)))
  obtain ⟨gl, cap, rfl, hg1, hg2⟩ := hownL.form (by omega)
  have hcl := own_cells hownL
  have hgl : gl < W1.heap.size := by simpa using hg2
  have lw : w.heap.size < W1.heap.size := by omega
  have HCL := Lib.hid hcl
  clear hownL hbL hg1 hg2 hcl
  go_wp2
  go_loopw [5] (fun v5 wr => ∃ k : Nat, k ≤ n ∧ v5 = .int .i64 k ∧ Below W1.heap.size W1 wr ∧ wr.heap[W1.heap.size]? = some (.cells #[.int .i64 (cst n v k).2.2, .int .i64 ((n : Int) - 1 - (cst n v k).2.1), .int .i64 (cst n v k).1, .int .i64 0] 60)) (fun v5 _ => n - (intOf v5).toNat)
  case atStart => exact ⟨0, by omega, rfl, (Below.refl _ _).alloc (Nat.le_refl _) _, by rw [show ((n : Int) - 1 - (cst n v 0).2.1) = n by simp [cst]]; exact heap_alloc_new _ _⟩
  case round =>
    obtain ⟨k, hk, rfl, hb, mo⟩ := hrel
    have hbs := hb.size
    have c0 : wr.cell? ⟨w.heap.size, 0, none⟩ = some (.int .i64 n) := by rw [hb.cell (p := ⟨w.heap.size, 0, none⟩) lw]; exact e0
    have lo := lt_of_get mo
    have po0 := cell_block (i := 0) mo
    have fo0 := free_block (i := 0) mo
    have po1 := cell_block (i := 1) mo
    have fo1 := free_block (i := 1) mo
    have po2 := cell_block (i := 2) mo
    have fo2 := free_block (i := 2) mo
    have po3 := cell_block (i := 3) mo
    have fo3 := free_block (i := 3) mo
    simp at po0 po1 po2 po3
    have hcb := cst_bd (n := (n : Int)) (v := v) (by omega) k
    by_cases hlt : k < n
    · have hkn : (k : Int) < n := by omega
      have cl : wr.cell? ⟨gl, k, none⟩ = some (.int .i64 (bitI n v k)) := by
        rw [hb.cell (p := ⟨gl, k, none⟩) hgl, HCL.out k hlt, bitI_in (by omega) (by omega), Int.toNat_natCast]
      have hs := Lib.hid (show cst n v (k + 1) = if bitI n v k = 1 then (min (cst n v k).1 (k : Int), (k : Int), (cst n v k).2.2 + 1) else cst n v k from rfl)
      by_cases h0 : bitI n v k = 1
      · rw [h0] at cl
        have H0 := Lib.hid h0
        have MO := Lib.hid mo
        clear h0 mo
        obtain ⟨S, hS⟩ : ∃ S, cst n v k = S := ⟨_, rfl⟩
        rw [hS] at hcb po0 po1 po2
        have HS := Lib.hid hS
        clear hS
        obtain ⟨S1, S2, S3⟩ := S
        simp only at hcb po0 po1 po2
        go_wp2_with fail
        have hmin : (if (k : Int) < S1 then (k : Int) else S1) = min S1 k := by split <;> omega
        have HM := Lib.hid hmin
        clear hmin
        go_region
        go_wp2
        go_roundw
        case rel =>
          refine ⟨k + 1, by omega, by go_num, Below.drew (((hb.setCell (Nat.le_refl _) _).setCell (Nat.le_refl _) _).setCell (Nat.le_refl _) _), ?_⟩
          rw [hs.out, if_pos H0.out, HS.out, ← HM.out]
          exact ((((Setted.start MO.out).step 0 _).step 1 _).step 2 _).here
        case measure => simp [intOf]; omega
      · have hz : (bitI n v k == 1) = false := by simpa using h0
        have H0 := Lib.hid h0
        have MO := Lib.hid mo
        clear h0 mo
        go_wp2
        go_roundw
        case rel => exact ⟨k + 1, by omega, by go_num, hb, by rw [hs.out, if_neg H0.out]; exact MO.out⟩
        case measure => simp [intOf]; omega
    · obtain rfl : k = n := by omega
      have mr2 : wr.heap[w.heap.size + 1]? = some (.cells #[.int .i64 0, .int .i64 0, .int .i64 0, .int .i64 0] 60) := by rw [hb.block _ hs1]; exact e2
      have pr0 := cell_block (i := 0) mr2
      have fr0 := free_block (i := 0) mr2
      have pr1 := cell_block (i := 1) mr2
      have fr1 := free_block (i := 1) mr2
      have pr2 := cell_block (i := 2) mr2
      have fr2 := free_block (i := 2) mr2
      have pr3 := cell_block (i := 3) mr2
      have fr3 := free_block (i := 3) mr2
      simp at pr0 pr1 pr2 pr3
      have lr := lt_of_get mr2
      have hB : Below w.heap.size w wr := hbw.trans (hb.mono (by omega))
      have ner : ¬ w.heap.size + 1 = W1.heap.size := by omega
      have ner2 : ¬ W1.heap.size = w.heap.size + 1 := by omega
      obtain ⟨S, hS⟩ : ∃ S, cst k v k = S := ⟨_, rfl⟩
      rw [hS] at hcb po0 po1 po2
      have HS := Lib.hid hS
      clear hS
      obtain ⟨S1, S2, S3⟩ := S
      simp only at hcb po0 po1 po2
      clear mo mr2
      go_wp2
      refine bodyPost_ret (by simp [results, Try.results44, go_sem, pr0, pr1, pr2, pr3]; try rfl) rfl ?_
      exact ⟨by rw [HS.out], Below.aft (by (repeat' (first | (with_reducible exact Below.refl _ _) | (with_reducible assumption) | (with_reducible exact Aft.pf _) | (with_reducible refine Below.alloc ?_ ?_ _) | (with_reducible refine Below.drew ?_) | (with_reducible refine Aft.below _ ?_ ?_) | (with_reducible refine Below.setCell_new ?_ ?_ _ _) | (with_reducible exact Nat.le_refl _) | (with_reducible refine Aft.le _ ?_) | (with_reducible refine le_alloc ?_) | (with_reducible refine le_drew ?_) | (with_reducible refine le_setCell ?_) | omega)))⟩


def idxE (n v : Int) (k : Nat) : Int := if bErr n v = 0 then eIf ((cst n v k).2.2 != 1) 3 else bErr n v
set_option maxRecDepth 20000 in
set_option maxHeartbeats 1600000 in
theorem IndexErr_bad (wd v er : Int) (w : World) (hn : er ≠ 0) (h9 : Hid (bErr wd v = er)) :
    Calls Try.prog 46 #[.agg #[.int .i64 wd, .int .i64 v]] w fun e w' => e = .returned (.int .i64 er) ∧ ∃ x : Aft w, w' = x.val := by
  have hn' : (er == 0) = false := by simpa using hn
  have hb_ : (er != 0) = true := by simpa using hn
  clear hn
  go_enter Try.func46, Try.ntmps46
  go_wp2_with fail
  refine (BitsErr_c wd v _).mono ?_
  rw [h9.out]
  rintro e w' ⟨rfl, x, rfl⟩
  go_wp2
  go_ret
  exact ⟨rfl, Below.aft (by (repeat' (first | (with_reducible exact Below.refl _ _) | (with_reducible assumption) | (with_reducible exact Aft.pf _) | (with_reducible refine Below.alloc ?_ ?_ _) | (with_reducible refine Below.drew ?_) | (with_reducible refine Aft.below _ ?_ ?_) | (with_reducible refine Below.setCell_new ?_ ?_ _ _) | (with_reducible exact Nat.le_refl _) | (with_reducible refine Aft.le _ ?_) | (with_reducible refine le_alloc ?_) | (with_reducible refine le_drew ?_) | (with_reducible refine le_setCell ?_) | omega)))⟩
set_option maxRecDepth 20000 in
set_option maxHeartbeats 1600000 in
theorem IndexErr_c (n : Nat) (v : Int) (w : World) (h1 : 1 ≤ n) (h2 : n ≤ 16) (h3 : 0 ≤ v) (h4 : v ≤ 65535) (h9 : Hid (bErr n v = 0)) :
    Calls Try.prog 46 #[.agg #[.int .i64 n, .int .i64 v]] w fun e w' => e = .returned (.int .i64 (eIf ((cst n v n).2.2 != 1) 3)) ∧ ∃ x : Aft w, w' = x.val := by
  have fx : ∀ w, (Instr.field 60 (.agg #[.int .i64 (cst n v n).2.2, .int .i64 ((n : Int) - 1 - (cst n v n).2.1), .int .i64 (cst n v n).1, .int .i64 ((cst n v n).2.2 % 2)]) 0).run Try.prog w = .ok (.int .i64 (cst n v n).2.2) w := fun _ => by kernel_rfl
  by_cases ho : (cst n v n).2.2 = 1
  · have ho1 : ((cst n v n).2.2 != 1) = false := by simpa using ho
    have HE := Lib.hid (show eIf ((cst n v n).2.2 != 1) 3 = 0 by rw [ho1]; rfl)
    clear ho
    go_enter Try.func46, Try.ntmps46
    go_wp2_with fail
    refine (BitsErr_c n v _).mono ?_
    rw [h9.out]
    rintro e w' ⟨rfl, x, rfl⟩
    go_wp2_with fail
    refine (Counts_c n v _ h1 h2 h3 h4).mono ?_
    rintro e w' ⟨rfl, x2, rfl⟩
    go_wp2
    go_ret
    exact ⟨retI HE.out.symm, Below.aft (by (repeat' (first | (with_reducible exact Below.refl _ _) | (with_reducible assumption) | (with_reducible exact Aft.pf _) | (with_reducible refine Below.alloc ?_ ?_ _) | (with_reducible refine Below.drew ?_) | (with_reducible refine Aft.below _ ?_ ?_) | (with_reducible refine Below.setCell_new ?_ ?_ _ _) | (with_reducible exact Nat.le_refl _) | (with_reducible refine Aft.le _ ?_) | (with_reducible refine le_alloc ?_) | (with_reducible refine le_drew ?_) | (with_reducible refine le_setCell ?_) | omega)))⟩
  · have ho1 : ((cst n v n).2.2 != 1) = true := by simpa using ho
    have HE := Lib.hid (show eIf ((cst n v n).2.2 != 1) 3 = 3 by rw [ho1]; rfl)
    clear ho
    go_enter Try.func46, Try.ntmps46
    go_wp2_with fail
    refine (BitsErr_c n v _).mono ?_
    rw [h9.out]
    rintro e w' ⟨rfl, x, rfl⟩
    go_wp2_with fail
    refine (Counts_c n v _ h1 h2 h3 h4).mono ?_
    rintro e w' ⟨rfl, x2, rfl⟩
    go_wp2
    go_ret
    exact ⟨retI HE.out.symm, Below.aft (by (repeat' (first | (with_reducible exact Below.refl _ _) | (with_reducible assumption) | (with_reducible exact Aft.pf _) | (with_reducible refine Below.alloc ?_ ?_ _) | (with_reducible refine Below.drew ?_) | (with_reducible refine Aft.below _ ?_ ?_) | (with_reducible refine Below.setCell_new ?_ ?_ _ _) | (with_reducible exact Nat.le_refl _) | (with_reducible refine Aft.le _ ?_) | (with_reducible refine le_alloc ?_) | (with_reducible refine le_drew ?_) | (with_reducible refine le_setCell ?_) | omega)))⟩

end Go.Proofs.Ytlplphigjejahaa
