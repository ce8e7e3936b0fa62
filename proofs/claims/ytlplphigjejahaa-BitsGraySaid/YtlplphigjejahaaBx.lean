/-
  The walk of the law BitsGray.
-/
import Derived.Test.YtlplphigjejahaaBw
import Derived.Test.YtlplphigjejahaaBd
set_option linter.unusedSimpArgs false
set_option linter.unusedVariables false
namespace Go.Proofs.Ytlplphigjejahaa
open Go.RowKit Go.BigFrame
theorem dc_bd : ∀ k x y, 0 ≤ dc k x y ∧ dc k x y ≤ k
  | 0, _, _ => by simp [dc]
  | k + 1, x, y => by
    have h := dc_bd k (x / 2) (y / 2)
    have h2 := fl_bd (x.testBit 0 != y.testBit 0)
    rw [dc_succ]
    omega

set_option maxRecDepth 20000 in
set_option maxHeartbeats 8000000 in
theorem BitsGray_no (hawake : ∀ w, Calls Try.prog 11 #[] w fun e w' => e = .returned (.bool true) ∧ ∃ x : Aft w, w' = x.val) (wd v er : Int) (w : World) (hn : er ≠ 0) (h9 : Hid (bErr wd v = er)) :
    Calls Try.prog 9 #[.agg #[.int .i64 wd, .int .i64 v]] w fun e w' => e = .returned (.bool true) ∧ ∃ x : Aft w, w' = x.val := by
  have hn' : (er == 0) = false := by simpa using hn
  have hn2 : (er != 0) = true := by simpa using hn
  have hn0 := Lib.hid hn
  clear hn
  go_enter Try.func9, Try.ntmps9
  go_wp2_with fail
  refine (hawake _).mono ?_
  rintro e w' ⟨rfl, x1, rfl⟩
  have zx1_0 : w.heap.size < x1.val.heap.size := by have := x1.size; (try simp at this); omega
  go_wp2_with fail
  refine (GrayOf_bad wd v er _ hn0.out h9).mono ?_
  rintro e w' ⟨rfl, x2, rfl⟩
  have zx2_0 : w.heap.size < x2.val.heap.size := by have := x2.size; (try simp at this); omega
  go_wp2_with fail
  refine (FromGray_bad wd v er _ hn0.out h9).mono ?_
  rintro e w' ⟨rfl, x3, rfl⟩
  have zx3_0 : w.heap.size < x3.val.heap.size := by have := x3.size; (try simp at this); omega
  have zx3_1 : x2.val.heap.size < x3.val.heap.size := by have := x3.size; (try simp at this); omega
  go_wp2_with fail
  refine (BitsErr_c wd v _).mono ?_
  rw [h9.out]
  rintro e w' ⟨rfl, x4, rfl⟩
  have zx4_0 : w.heap.size < x4.val.heap.size := by have := x4.size; (try simp at this); omega
  have zx4_1 : x2.val.heap.size < x4.val.heap.size := by have := x4.size; (try simp at this); omega
  have zx4_2 : x3.val.heap.size < x4.val.heap.size := by have := x4.size; (try simp at this); omega
  go_wp2
  go_ret
  exact ⟨rfl, Below.aft (by (repeat' (first | (with_reducible exact Below.refl _ _) | (with_reducible refine Below.alloc ?_ ?_ _) | (with_reducible refine Below.drew ?_) | (with_reducible refine Aft.below _ ?_ ?_) | (with_reducible refine Below.setCell_new ?_ ?_ _ _) | (with_reducible exact Nat.le_refl _) | (with_reducible refine Aft.le _ ?_) | (with_reducible refine le_alloc ?_) | (with_reducible refine le_drew ?_) | (with_reducible refine le_setCell ?_) | omega)))⟩

set_option maxRecDepth 20000 in
set_option maxHeartbeats 8000000 in
theorem BitsGray_yes (hawake : ∀ w, Calls Try.prog 11 #[] w fun e w' => e = .returned (.bool true) ∧ ∃ x : Aft w, w' = x.val) (n v G U G2 nv : Nat) (w : World) (h1 : 1 ≤ n) (h2 : n ≤ 16) (hv : v < 65536) (hG : G < 65536) (hG2 : G2 < 65536) (hn1 : 1 ≤ pw n) (hn2 : pw n ≤ 65536) (k1 : Hid (∀ w, Calls Try.prog 49 #[.agg #[.int .i64 n, .int .i64 v]] w fun e w' => e = .returned (.tuple #[.agg #[.int .i64 n, .int .i64 G], .int .i64 0]) ∧ ∃ x : Aft w, w' = x.val)) (k2 : Hid (∀ w, Calls Try.prog 50 #[.agg #[.int .i64 n, .int .i64 v]] w fun e w' => e = .returned (.tuple #[.agg #[.int .i64 n, .int .i64 U], .int .i64 0]) ∧ ∃ x : Aft w, w' = x.val)) (k3 : Hid (∀ w, Calls Try.prog 50 #[.agg #[.int .i64 n, .int .i64 G]] w fun e w' => e = .returned (.tuple #[.agg #[.int .i64 n, .int .i64 v], .int .i64 0]) ∧ ∃ x : Aft w, w' = x.val)) (k4 : Hid (∀ w, Calls Try.prog 49 #[.agg #[.int .i64 n, .int .i64 nv]] w fun e w' => e = .returned (.tuple #[.agg #[.int .i64 n, .int .i64 G2], .int .i64 0]) ∧ ∃ x : Aft w, w' = x.val)) (r1 : Hid (∀ w, Calls Try.prog 51 #[.agg #[.int .i64 n, .int .i64 v]] w fun e w' => e = .returned (.agg #[.int .i64 n, .int .i64 G]) ∧ ∃ x : Aft w, w' = x.val)) (r2 : Hid (∀ w, Calls Try.prog 52 #[.agg #[.int .i64 n, .int .i64 v]] w fun e w' => e = .returned (.agg #[.int .i64 n, .int .i64 U]) ∧ ∃ x : Aft w, w' = x.val)) (hmod : md ((v : Int) + 1) (pw n) = nv) (h0 : Hid (bErr n v = 0)) (h9 : Hid (bErr n G2 = 0)) (hd : Hid (dc n G G2 = 1)) :
    Calls Try.prog 9 #[.agg #[.int .i64 n, .int .i64 v]] w fun e w' => e = .returned (.bool true) ∧ ∃ x : Aft w, w' = x.val := by
  go_enter Try.func9, Try.ntmps9
  go_wp2_with fail
  refine (hawake _).mono ?_
  rintro e w' ⟨rfl, x1, rfl⟩
  have zx1_0 : w.heap.size < x1.val.heap.size := by have := x1.size; (try simp at this); omega
  go_wp2_with fail
  refine (k1.out _).mono ?_
  rintro e w' ⟨rfl, x2, rfl⟩
  have zx2_0 : w.heap.size < x2.val.heap.size := by have := x2.size; (try simp at this); omega
  go_wp2_with fail
  refine (k2.out _).mono ?_
  rintro e w' ⟨rfl, x3, rfl⟩
  have zx3_0 : w.heap.size < x3.val.heap.size := by have := x3.size; (try simp at this); omega
  have zx3_1 : x2.val.heap.size < x3.val.heap.size := by have := x3.size; (try simp at this); omega
  go_wp2_with fail
  refine (BitsErr_c n v _).mono ?_
  rw [h0.out]
  rintro e w' ⟨rfl, x4, rfl⟩
  have zx4_0 : w.heap.size < x4.val.heap.size := by have := x4.size; (try simp at this); omega
  have zx4_1 : x2.val.heap.size < x4.val.heap.size := by have := x4.size; (try simp at this); omega
  have zx4_2 : x3.val.heap.size < x4.val.heap.size := by have := x4.size; (try simp at this); omega
  go_wp2_with fail
  refine wp_region_aft (by kernel_rfl) (by kernel_rfl) ?_
  repeat (go_big_quiet_step (first | (go_at_call 51; exact Calls.qa (r1.out _)) | (go_at_call 52; exact Calls.qa (r2.out _))))
  refine wpQuiet_nil ?_
  intro x5
  have zx5_0 : w.heap.size < x5.val.heap.size := by have := x5.size; (try simp at this); omega
  have zx5_1 : x2.val.heap.size < x5.val.heap.size := by have := x5.size; (try simp at this); omega
  have zx5_2 : x3.val.heap.size < x5.val.heap.size := by have := x5.size; (try simp at this); omega
  go_wp2_with fail
  refine (k3.out _).mono ?_
  rintro e W' ⟨rfl, x6, hW⟩
  have s0 : w.heap.size < W'.heap.size := by rw [hW]; have := x6.size; (try simp at this); omega
  have s1 : x2.val.heap.size < W'.heap.size := by rw [hW]; have := x6.size; (try simp at this); omega
  have rr0 : W'.heap[w.heap.size]? = some (.cells #[.int .i64 n, .int .i64 v] 23) := by rw [hW]; (repeat' (first | (with_reducible assumption) | omega | (simp only [World.size_alloc, World.size_drew, World.size_setCell]; omega) | (refine heap_alloc_at ?_; (first | rfl | (simp; done))) | (with_reducible refine heap_aft _ ?_ ?_) | (with_reducible refine heap_alloc' ?_ ?_) | (with_reducible refine heap_drew ?_)))
  have q00 := cell_block (i := 0) rr0
  have f00 := free_block (i := 0) rr0
  have q01 := cell_block (i := 1) rr0
  have f01 := free_block (i := 1) rr0
  have rr1 : W'.heap[x2.val.heap.size]? = some (.cells #[.int .i64 n, .int .i64 G] 23) := by rw [hW]; (repeat' (first | (with_reducible assumption) | omega | (simp only [World.size_alloc, World.size_drew, World.size_setCell]; omega) | (refine heap_alloc_at ?_; (first | rfl | (simp; done))) | (with_reducible refine heap_aft _ ?_ ?_) | (with_reducible refine heap_alloc' ?_ ?_) | (with_reducible refine heap_drew ?_)))
  have q10 := cell_block (i := 0) rr1
  have f10 := free_block (i := 0) rr1
  have q11 := cell_block (i := 1) rr1
  have f11 := free_block (i := 1) rr1
  simp at q00 q01 q10 q11
  clear rr0
  clear rr1
  have hb0' : Below w.heap.size w W' := by rw [hW]; (repeat' (first | (with_reducible exact Below.refl _ _) | (with_reducible refine Below.alloc ?_ ?_ _) | (with_reducible refine Below.drew ?_) | (with_reducible refine Aft.below _ ?_ ?_) | (with_reducible refine Below.setCell_new ?_ ?_ _ _) | (with_reducible exact Nat.le_refl _) | (with_reducible refine Aft.le _ ?_) | (with_reducible refine le_alloc ?_) | (with_reducible refine le_drew ?_) | (with_reducible refine le_setCell ?_) | omega))
  clear hW
  clear zx1_0 zx2_0 zx3_0 zx3_1 zx4_0 zx4_1 zx4_2 zx5_0 zx5_1 zx5_2
  have hwm : IntKind.i64.wrap ((v : Int) + 1) = (v : Int) + 1 := IntWalk.i64_in _ (by omega)
  have hmd := Lib.hid hmod
  go_wp2_with fail
  refine wp_region_kn 17 [.quiet, .quiet, .quiet, .quiet, .quiet, .quiet, .quiet, .quiet, .quiet, .quiet, .quiet, .quiet, .quiet, .quiet, .new, .put (.tmp 10) (.tmp 85), .late] rfl (by kernel_rfl) (by kernel_rfl) (by kernel_rfl) rfl (by kernel_rfl) (by kernel_rfl) ?hF ?_
  case hF =>
    simp only [List.take_succ_cons, List.take_zero, FitzL, fit2, true_and, and_true]
    repeat' apply And.intro
    all_goals first | trivial | rfl | (simp [Op.operands]; done)
  simp only [List.take_succ_cons, List.take_zero, List.drop_succ_cons, List.drop_zero]
  repeat (first | (with_reducible refine wqQ_new ?_) | (with_reducible refine wqQ_put ?_) | (with_reducible refine wqQ_late ?_) | (refine wqQ_step (fun K hK => ?_); go_simp; first | (refine hK _ ?_; clear hK K) | (apply Exists.intro; refine ⟨fun _ => ?_, hK _ ?_⟩; (first | (go_at_call 20; exact Calls.q0 (Power_c n (by omega) (by omega) _)) | (go_at_call 19; exact of_c _ _ _) | (go_at_call 53; have hM := Mod_c ((v : Int) + 1) (pw n) (by omega) (by omega); rw [hmd.out] at hM; exact Calls.q0 (hM _)) | (go_at_call 49; exact k4.out _)); clear hK K)))
  refine wqQ_nil ?_
  repeat (with_reducible refine wqN_skip (by decide) ?_)
  refine wqN_step (.cells #[.int .i64 0, .int .i64 0] 23) (fun g => .pointer (some ⟨g, 0, none⟩)) (fun w => by go_simp) ?_
  intro gn hgn
  repeat (with_reducible refine wqN_skip (by decide) ?_)
  refine wqN_nil ?_
  repeat (with_reducible refine wqP_skip (by decide) ?_)
  refine wqP_step gn _ (by simp [go_sem]) (by simp [Held.put, Held.nil]; rfl) ?hx ?_
  case hx =>
    intro w' hw'
    have q0 := cell_block (i := 0) hw'; have f0 := free_block (i := 0) hw'
    have q1 := cell_block (i := 1) hw'; have f1 := free_block (i := 1) hw'
    simp at q0 q1
    go_simp
    simp only [upPut]
    refine (Setted.start hw' |>.step 0 _ |>.step 1 _).eq ?_
    simp [wrote, go_sem]
  repeat (with_reducible refine wqP_skip (by decide) ?_)
  refine wqP_nil ?_
  repeat (first | (refine wqL_step (fun K hK => ?_); go_simp; refine hK _ ?_; clear hK K) | (with_reducible refine wqL_skip (by decide) ?_))
  refine wqL_nil ?_
  intro xn hin
  obtain ⟨hgn1, hgn2⟩ := hin gn _ _ (Held.at_self _ _ _ _)
  clear hin hgn
  have qn0 := cell_block (i := 0) hgn2
  have fn0 : xn.val.frozen? ⟨gn, 0, none⟩ = false := by simp [World.frozen?, hgn2, wrote]
  have qn1 := cell_block (i := 1) hgn2
  have fn1 : xn.val.frozen? ⟨gn, 1, none⟩ = false := by simp [World.frozen?, hgn2, wrote]
  simp [wrote, go_sem] at qn0 qn1
  have tn := lt_of_get hgn2
  clear hgn2
  have p0 : xn.val.cell? ⟨w.heap.size, 0, none⟩ = some (.int .i64 n) := by (repeat' (first | (with_reducible assumption) | omega | (simp only [World.size_alloc, World.size_drew, World.size_setCell]; omega) | (simp [go_sem]; done) | (with_reducible refine Aft.lt' _ ?_) | (with_reducible refine lt_alloc ?_) | (with_reducible refine lt_drew ?_) | (with_reducible refine lt_setCell ?_) | (with_reducible refine cell_aft _ ?_ ?_) | (with_reducible refine cell_alloc ?_ ?_) | (with_reducible refine cell_drew' ?_) | (with_reducible refine cell_setCell ?_ ?_)))
  have p1 : xn.val.cell? ⟨w.heap.size, 1, none⟩ = some (.int .i64 v) := by (repeat' (first | (with_reducible assumption) | omega | (simp only [World.size_alloc, World.size_drew, World.size_setCell]; omega) | (simp [go_sem]; done) | (with_reducible refine Aft.lt' _ ?_) | (with_reducible refine lt_alloc ?_) | (with_reducible refine lt_drew ?_) | (with_reducible refine lt_setCell ?_) | (with_reducible refine cell_aft _ ?_ ?_) | (with_reducible refine cell_alloc ?_ ?_) | (with_reducible refine cell_drew' ?_) | (with_reducible refine cell_setCell ?_ ?_)))
  have p2 : xn.val.cell? ⟨x2.val.heap.size, 0, none⟩ = some (.int .i64 n) := by (repeat' (first | (with_reducible assumption) | omega | (simp only [World.size_alloc, World.size_drew, World.size_setCell]; omega) | (simp [go_sem]; done) | (with_reducible refine Aft.lt' _ ?_) | (with_reducible refine lt_alloc ?_) | (with_reducible refine lt_drew ?_) | (with_reducible refine lt_setCell ?_) | (with_reducible refine cell_aft _ ?_ ?_) | (with_reducible refine cell_alloc ?_ ?_) | (with_reducible refine cell_drew' ?_) | (with_reducible refine cell_setCell ?_ ?_)))
  have p3 : xn.val.cell? ⟨x2.val.heap.size, 1, none⟩ = some (.int .i64 G) := by (repeat' (first | (with_reducible assumption) | omega | (simp only [World.size_alloc, World.size_drew, World.size_setCell]; omega) | (simp [go_sem]; done) | (with_reducible refine Aft.lt' _ ?_) | (with_reducible refine lt_alloc ?_) | (with_reducible refine lt_drew ?_) | (with_reducible refine lt_setCell ?_) | (with_reducible refine cell_aft _ ?_ ?_) | (with_reducible refine cell_alloc ?_ ?_) | (with_reducible refine cell_drew' ?_) | (with_reducible refine cell_setCell ?_ ?_)))
  have p4 : xn.val.cell? ⟨W'.heap.size, 0, none⟩ = some (.int .i64 n) := by first | (rw [xn.cell _ _ (by simp)]; simp [go_sem]; done) | (repeat' (first | (with_reducible assumption) | omega | (simp only [World.size_alloc, World.size_drew, World.size_setCell]; omega) | (simp [go_sem]; done) | (with_reducible refine Aft.lt' _ ?_) | (with_reducible refine lt_alloc ?_) | (with_reducible refine lt_drew ?_) | (with_reducible refine lt_setCell ?_) | (with_reducible refine cell_aft _ ?_ ?_) | (with_reducible refine cell_alloc ?_ ?_) | (with_reducible refine cell_drew' ?_) | (with_reducible refine cell_setCell ?_ ?_)))
  have p5 : xn.val.cell? ⟨W'.heap.size, 1, none⟩ = some (.int .i64 v) := by first | (rw [xn.cell _ _ (by simp)]; simp [go_sem]; done) | (repeat' (first | (with_reducible assumption) | omega | (simp only [World.size_alloc, World.size_drew, World.size_setCell]; omega) | (simp [go_sem]; done) | (with_reducible refine Aft.lt' _ ?_) | (with_reducible refine lt_alloc ?_) | (with_reducible refine lt_drew ?_) | (with_reducible refine lt_setCell ?_) | (with_reducible refine cell_aft _ ?_ ?_) | (with_reducible refine cell_alloc ?_ ?_) | (with_reducible refine cell_drew' ?_) | (with_reducible refine cell_setCell ?_ ?_)))
  have tb0 : w.heap.size < xn.val.heap.size := by have := xn.size; (try simp at this); omega
  have tb1 : x2.val.heap.size < xn.val.heap.size := by have := xn.size; (try simp at this); omega
  have tb2 : W'.heap.size < xn.val.heap.size := by have := xn.size; (try simp at this); omega
  have hbn : Below w.heap.size w xn.val := by (repeat' (first | (with_reducible exact Below.refl _ _) | (with_reducible assumption) | (with_reducible refine Below.alloc ?_ ?_ _) | (with_reducible refine Below.drew ?_) | (with_reducible refine Aft.below _ ?_ ?_) | (with_reducible refine Below.setCell_new ?_ ?_ _ _) | (with_reducible exact Nat.le_refl _) | (with_reducible refine Aft.le _ ?_) | (with_reducible refine le_alloc ?_) | (with_reducible refine le_drew ?_) | (with_reducible refine le_setCell ?_) | omega))
  generalize xn.val = W8 at *
  clear q00 q01 q10 q11 f00 f01 f10 f11 hmd hwm k1 k2 k3 k4 r1 r2 h0
  go_wp2_with fail
  refine (BitsErr_c n G2 _).mono ?_
  rw [h9.out]
  rintro e W9 ⟨rfl, x9, rfl⟩
  have r0 := (x9.cell _ _ tb0).trans p0
  have r1 := (x9.cell _ _ tb0).trans p1
  have r2 := (x9.cell _ _ tb1).trans p2
  have r3 := (x9.cell _ _ tb1).trans p3
  have r4 := (x9.cell _ _ tn).trans qn0
  have r5 := (x9.cell _ _ tn).trans qn1
  have td0 : w.heap.size < x9.val.heap.size := by have := x9.size; omega
  have td1 : x2.val.heap.size < x9.val.heap.size := by have := x9.size; omega
  have td2 : gn < x9.val.heap.size := by have := x9.size; omega
  have hb9 : Below w.heap.size w x9.val := by (repeat' (first | (with_reducible exact Below.refl _ _) | (with_reducible assumption) | (with_reducible refine Below.alloc ?_ ?_ _) | (with_reducible refine Below.drew ?_) | (with_reducible refine Aft.below _ ?_ ?_) | (with_reducible refine Below.setCell_new ?_ ?_ _ _) | (with_reducible exact Nat.le_refl _) | (with_reducible refine Aft.le _ ?_) | (with_reducible refine le_alloc ?_) | (with_reducible refine le_drew ?_) | (with_reducible refine le_setCell ?_) | omega))
  clear p0 p1 p2 p3 p4 p5 qn0 qn1 hbn tb0 tb1 tb2 tn
  generalize x9.val = W9 at *
  go_wp2_with fail
  go_region_held3 (fun w' => w'.cell? ⟨w.heap.size, 0, none⟩ = some (.int .i64 n) ∧ w'.cell? ⟨w.heap.size, 1, none⟩ = some (.int .i64 v) ∧ w'.cell? ⟨x2.val.heap.size, 0, none⟩ = some (.int .i64 n) ∧ w'.cell? ⟨x2.val.heap.size, 1, none⟩ = some (.int .i64 G) ∧ w'.cell? ⟨gn, 0, none⟩ = some (.int .i64 n) ∧ w'.cell? ⟨gn, 1, none⟩ = some (.int .i64 G2) ∧ w.heap.size < w'.heap.size ∧ x2.val.heap.size < w'.heap.size ∧ gn < w'.heap.size ∧ Below w.heap.size w w') ((refine ⟨?_, ?_, ?_, ?_, ?_, ?_, ?_, ?_, ?_, ?_⟩ <;> first | assumption | exact Below.drew (by assumption))) (first | (go_at_call 54; (with_reducible refine (BitsOf_c (G : Int) n (by omega) (by omega) (by omega) _).mono ?_); rintro e WA ⟨vA, rfl, hoA, hbA⟩; have zA := hbA.size; have cA0 : WA.cell? ⟨w.heap.size, 0, none⟩ = some (.int .i64 n) := (hbA.cell (p := ⟨w.heap.size, 0, none⟩) (by first | assumption | exact lt_drew (by assumption))).trans (by first | assumption | exact cell_drew' (by assumption)); have cA1 : WA.cell? ⟨w.heap.size, 1, none⟩ = some (.int .i64 v) := (hbA.cell (p := ⟨w.heap.size, 1, none⟩) (by first | assumption | exact lt_drew (by assumption))).trans (by first | assumption | exact cell_drew' (by assumption)); have cA2 : WA.cell? ⟨x2.val.heap.size, 0, none⟩ = some (.int .i64 n) := (hbA.cell (p := ⟨x2.val.heap.size, 0, none⟩) (by first | assumption | exact lt_drew (by assumption))).trans (by first | assumption | exact cell_drew' (by assumption)); have cA3 : WA.cell? ⟨x2.val.heap.size, 1, none⟩ = some (.int .i64 G) := (hbA.cell (p := ⟨x2.val.heap.size, 1, none⟩) (by first | assumption | exact lt_drew (by assumption))).trans (by first | assumption | exact cell_drew' (by assumption)); have cA4 : WA.cell? ⟨gn, 0, none⟩ = some (.int .i64 n) := (hbA.cell (p := ⟨gn, 0, none⟩) (by first | assumption | exact lt_drew (by assumption))).trans (by first | assumption | exact cell_drew' (by assumption)); have cA5 : WA.cell? ⟨gn, 1, none⟩ = some (.int .i64 G2) := (hbA.cell (p := ⟨gn, 1, none⟩) (by first | assumption | exact lt_drew (by assumption))).trans (by first | assumption | exact cell_drew' (by assumption)); have dA0 : w.heap.size < WA.heap.size := Nat.lt_of_lt_of_le (by first | assumption | exact lt_drew (by assumption)) zA; have dA1 : x2.val.heap.size < WA.heap.size := Nat.lt_of_lt_of_le (by first | assumption | exact lt_drew (by assumption)) zA; have dA2 : gn < WA.heap.size := Nat.lt_of_lt_of_le (by first | assumption | exact lt_drew (by assumption)) zA; have hbwA : Below w.heap.size w WA := by (refine Below.trans ?_ (hbA.mono (by first | omega | exact Nat.le_of_lt (lt_drew (by assumption)))); first | assumption | exact Below.drew (by assumption))) | (go_at_call 54; (with_reducible refine (BitsOf_c (G2 : Int) n (by omega) (by omega) (by omega) _).mono ?_); rintro e WB ⟨vB, rfl, hoB, hbB⟩; have zB := hbB.size; have cB0 : WB.cell? ⟨w.heap.size, 0, none⟩ = some (.int .i64 n) := (hbB.cell (p := ⟨w.heap.size, 0, none⟩) (by first | assumption | exact lt_drew (by assumption))).trans (by first | assumption | exact cell_drew' (by assumption)); have cB1 : WB.cell? ⟨w.heap.size, 1, none⟩ = some (.int .i64 v) := (hbB.cell (p := ⟨w.heap.size, 1, none⟩) (by first | assumption | exact lt_drew (by assumption))).trans (by first | assumption | exact cell_drew' (by assumption)); have cB2 : WB.cell? ⟨x2.val.heap.size, 0, none⟩ = some (.int .i64 n) := (hbB.cell (p := ⟨x2.val.heap.size, 0, none⟩) (by first | assumption | exact lt_drew (by assumption))).trans (by first | assumption | exact cell_drew' (by assumption)); have cB3 : WB.cell? ⟨x2.val.heap.size, 1, none⟩ = some (.int .i64 G) := (hbB.cell (p := ⟨x2.val.heap.size, 1, none⟩) (by first | assumption | exact lt_drew (by assumption))).trans (by first | assumption | exact cell_drew' (by assumption)); have cB4 : WB.cell? ⟨gn, 0, none⟩ = some (.int .i64 n) := (hbB.cell (p := ⟨gn, 0, none⟩) (by first | assumption | exact lt_drew (by assumption))).trans (by first | assumption | exact cell_drew' (by assumption)); have cB5 : WB.cell? ⟨gn, 1, none⟩ = some (.int .i64 G2) := (hbB.cell (p := ⟨gn, 1, none⟩) (by first | assumption | exact lt_drew (by assumption))).trans (by first | assumption | exact cell_drew' (by assumption)); have dB0 : w.heap.size < WB.heap.size := Nat.lt_of_lt_of_le (by first | assumption | exact lt_drew (by assumption)) zB; have dB1 : x2.val.heap.size < WB.heap.size := Nat.lt_of_lt_of_le (by first | assumption | exact lt_drew (by assumption)) zB; have dB2 : gn < WB.heap.size := Nat.lt_of_lt_of_le (by first | assumption | exact lt_drew (by assumption)) zB; have hbwB : Below w.heap.size w WB := by (refine Below.trans ?_ (hbB.mono (by first | omega | exact Nat.le_of_lt (lt_drew (by assumption)))); first | assumption | exact Below.drew (by assumption))))
  obtain ⟨gA, capA, rfl, hA1, hA2⟩ := hoA.form (by omega)
  obtain ⟨gB', capB, rfl, hB1, hB2⟩ := hoB.form (by omega)
  have kA := own_cells (own_below hoA hbB)
  have kB := own_cells hoB
  have lA : gA < WB.heap.size := by omega
  have lB : gB' < WB.heap.size := hB2
  have KA : ∀ m, m < n → WB.cell? ⟨gA, m, none⟩ = some (.int .i64 (fl (G.testBit (n - 1 - m)))) := fun m hm => by rw [kA m hm, nbit]
  have KB : ∀ m, m < n → WB.cell? ⟨gB', m, none⟩ = some (.int .i64 (fl (G2.testBit (n - 1 - m)))) := fun m hm => by rw [kB m hm, nbit]
  have HKA := Lib.hid KA
  have HKB := Lib.hid KB
  clear kA kB KA KB hoA hoB hA1 hA2 hB1 hB2 cA0 cA1 cA2 cA3 cA4 cA5 dA0 dA1 dA2 zA zB hbA hbB hbwA hb9
  clear r0 r1 r2 r3 r4 r5
  go_wp2
  go_loopw [12, 15] (fun v12 v15 wr => ∃ (k : Nat) (y : Aft WB), wr = y.val ∧ k ≤ n ∧ v15 = .int .i64 k ∧ v12 = .int .i64 (dc k (G / 2 ^ (n - k)) (G2 / 2 ^ (n - k)))) (fun _ v15 _ => n - (intOf v15).toNat)
  case atStart => exact ⟨0, ⟨_, Below.refl _ _⟩, rfl, by omega, rfl, rfl⟩
  case round =>
    obtain ⟨k, y, rfl, hk, rfl, rfl⟩ := hrel
    have hdb := dc_bd k (G / 2 ^ (n - k)) (G2 / 2 ^ (n - k))
    by_cases hlt : k < n
    · have cA := (y.cell _ _ lA).trans (HKA.out k hlt)
      have cB := (y.cell _ _ lB).trans (HKB.out k hlt)
      have hkn : (k : Int) < n := by omega
      have ht := Lib.hid (dc_top (x := G) (y := G2) hlt)
      have lyA := y.lt' lA
      have lyB := y.lt' lB
      have cW := (y.cell _ _ dB0).trans cB0
      have lyW := y.lt' dB0
      generalize dc k (G / 2 ^ (n - k)) (G2 / 2 ^ (n - k)) = D at *
      have hbe := fl_bd (fl (G.testBit (n - 1 - k)) != fl (G2.testBit (n - 1 - k)))
      have hwD : IntKind.i64.wrap (D + fl (fl (G.testBit (n - 1 - k)) != fl (G2.testBit (n - 1 - k)))) = D + fl (fl (G.testBit (n - 1 - k)) != fl (G2.testBit (n - 1 - k))) := IntWalk.i64_in _ (by omega)
      go_wp2_with fail
      refine wp_region_aft (by kernel_rfl) (by kernel_rfl) ?_
      repeat (go_big_quiet_step ((go_at_call 55; exact Calls.qs (Bit_c _ _))))
      refine wpQuiet_nil ?_
      intro z
      go_wp2
      go_roundw
      case rel => exact ⟨k + 1, ⟨z.val, z.below y.pf y.pf.size⟩, rfl, by omega, by go_num, by rw [ht.out, fl_eq]⟩
      case measure => simp [intOf]; omega
    · obtain rfl : k = n := by omega
      have hd1 : dc k (G / 2 ^ (k - k)) (G2 / 2 ^ (k - k)) = 1 := by simpa using hd.out
      rw [hd1]
      have cW := (y.cell _ _ dB0).trans cB0
      have lyW := y.lt' dB0
      go_wp2
      go_ret
      exact ⟨rfl, Below.aft (by (repeat' (first | (with_reducible exact Below.refl _ _) | (with_reducible assumption) | (with_reducible refine Below.alloc ?_ ?_ _) | (with_reducible refine Below.drew ?_) | (with_reducible refine Aft.below _ ?_ ?_) | (with_reducible refine Below.setCell_new ?_ ?_ _ _) | (with_reducible exact Nat.le_refl _) | (with_reducible refine Aft.le _ ?_) | (with_reducible refine le_alloc ?_) | (with_reducible refine le_drew ?_) | (with_reducible refine le_setCell ?_) | omega)))⟩


theorem bErr_nat {n x : Nat} (h1 : 1 ≤ n) (h2 : n ≤ 16) (hx : x < 2 ^ n) : bErr n x = 0 := by
  refine bErr_ok.2 ⟨by omega, by omega, by omega, ?_⟩
  show (x : Int) < 2 ^ ((n : Nat) : Int).toNat
  have e : ((2 : Int) ^ n) = ((2 ^ n : Nat) : Int) := by simp
  rw [Int.toNat_natCast, e]; omega
theorem BitsGray_all (hawake : ∀ w, Calls Try.prog 11 #[] w fun e w' => e = .returned (.bool true) ∧ ∃ x : Aft w, w' = x.val) (wd v : Int) (w : World) :
    Calls Try.prog 9 #[.agg #[.int .i64 wd, .int .i64 v]] w fun e w' => e = .returned (.bool true) ∧ ∃ x : Aft w, w' = x.val := by
  by_cases h : bErr wd v = 0
  · obtain ⟨h1, h2, h3, h4⟩ := bErr_ok.1 h
    obtain ⟨n, rfl⟩ := Int.eq_ofNat_of_zero_le (show 0 ≤ wd by omega)
    obtain ⟨x, rfl⟩ := Int.eq_ofNat_of_zero_le h3
    have hn1 : 1 ≤ n := by omega
    have hn2 : n ≤ 16 := by omega
    have hp := pw_bd (n := (n : Int)) (by omega) h2
    have hx : x < 2 ^ n := by
      have e : ((2 : Int) ^ n) = ((2 ^ n : Nat) : Int) := by simp
      have h5 : (x : Int) < 2 ^ ((n : Nat) : Int).toNat := h4
      rw [Int.toNat_natCast, e] at h5; omega
    have hq := pow_16 hn2
    have hnv : (x + 1) % 2 ^ n < 2 ^ n := Nat.mod_lt _ (Nat.pow_pos (by decide))
    have k1 := fun w => GrayOf_c n x w hn1 hn2 (Lib.hid h)
    have k2 := fun w => FromGray_c n x w hn1 hn2 hx (Lib.hid h)
    have k3 := fun w => FromGray_c n (gray x) w hn1 hn2 (gray_lt hx) (Lib.hid (bErr_nat hn1 hn2 (gray_lt hx)))
    have k4 := fun w => GrayOf_c n ((x + 1) % 2 ^ n : Nat) w hn1 hn2 (Lib.hid (bErr_nat hn1 hn2 hnv))
    have r1 := fun w => Gray_c n x w hn1 hn2 (by omega) (by omega)
    have r2 := fun w => Ungray_c n x w hn1 hn2 hx
    simp only [bw_gray hx] at k1 r1
    simp only [bw_gray hnv] at k4
    simp only [ug_gray hx] at k3
    have hmod : md ((x : Int) + 1) (pw n) = ((x + 1) % 2 ^ n : Nat) := by
      have e : ((2 : Int) ^ n) = ((2 ^ n : Nat) : Int) := by simp
      unfold md pw
      rw [Int.toNat_natCast, e]; simp
    have hd : dc n (gray x) (gray ((x + 1) % 2 ^ n)) = 1 := by
      obtain ⟨m, rfl⟩ : ∃ m, n = m + 1 := ⟨n - 1, by omega⟩
      exact dc_next hx
    exact BitsGray_yes hawake n x (gray x) (ug n x) (gray ((x + 1) % 2 ^ n)) ((x + 1) % 2 ^ n) w hn1 hn2 (by omega) (by have := gray_lt hx; omega) (by have := gray_lt hnv; omega) hp.1 hp.2
      (Lib.hid k1) (Lib.hid k2) (Lib.hid k3) (Lib.hid k4) (Lib.hid r1) (Lib.hid r2) hmod (Lib.hid h) (Lib.hid (bErr_nat hn1 hn2 (gray_lt hnv))) (Lib.hid hd)
  · exact BitsGray_no hawake wd v _ w h (Lib.hid rfl)

end Go.Proofs.Ytlplphigjejahaa
