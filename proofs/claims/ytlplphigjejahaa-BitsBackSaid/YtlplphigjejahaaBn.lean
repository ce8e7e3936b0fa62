/-
  The walk of the law BitsBack, and the arithmetic that it rests on.
-/
import Derived.Test.YtlplphigjejahaaBk
import Derived.Test.YtlplphigjejahaaKic
import Derived.Deep.RegionHeld3
set_option linter.unusedSimpArgs false
set_option linter.unusedVariables false
namespace Go.Proofs.Ytlplphigjejahaa
open Go.RowKit Go.BigFrame

theorem sg_not {wd b : Int} (h1 : 1 ≤ wd) (h3 : 0 ≤ b) (h4 : b < pw wd) : sg wd (pw wd - 1 - b) = -1 - sg wd b := by
  have hh := pw_half h1
  rw [sg_eq h1 h3 h4, sg_eq h1 (by omega) (by omega)]
  split <;> split <;> omega
theorem back_md {a b c P : Int} (ha : 0 ≤ a) (ha' : a < P) : md (md (a + b + c) P - b - c) P = a := by
  unfold md
  have e := Int.mul_ediv_add_emod (a + b + c) P
  have e2 : (a + b + c) % P - b - c = a + P * (-((a + b + c) / P)) := by rw [Int.mul_neg]; omega
  rw [e2, Int.add_mul_emod_self_left]
  exact Int.emod_eq_of_lt ha ha'
theorem md_up (n P : Int) : md (n + P) P = md n P := by unfold md; exact Int.add_emod_right ..
theorem carry_up {E P : Int} (h1 : -P ≤ E) (h2 : E < P) : fl (E != md E P) = 1 - fl (E + P != md E P) := by
  by_cases h : 0 ≤ E
  · have e : md E P = E := Int.emod_eq_of_lt h h2
    have e1 : (E + P != md E P) = true := by rw [e]; simp; omega
    rw [e1, e]; simp [fl]
  · have e : md E P = E + P := by rw [← md_up]; exact Int.emod_eq_of_lt (by omega) (by omega)
    have e1 : (E != md E P) = true := by rw [e]; simp; omega
    rw [e1, e]; simp [fl]


theorem back_pair (wd av bv c : Int) (h1 : 1 ≤ wd) (h2 : wd ≤ 16) (h3 : 0 ≤ av) (h4 : av < pw wd) (h5 : 0 ≤ bv) (h6 : bv < pw wd) (h7 : 0 ≤ c) (h8 : c ≤ 1) :
    ∃ S cy ov z ng : Int, 0 ≤ cy ∧ cy ≤ 1 ∧ (∀ w, Calls Try.prog 13 #[.agg #[.int .i64 wd, .int .i64 av], .agg #[.int .i64 wd, .int .i64 bv], .int .i64 c] w fun e w' => e = .returned (.tuple #[.agg #[.int .i64 wd, .int .i64 S, .int .i64 (1 - cy), .int .i64 ov, .int .i64 z, .int .i64 ng], .int .i64 0]) ∧ ∃ x : Aft w, w' = x.val) ∧ (∀ w, Calls Try.prog 12 #[.agg #[.int .i64 wd, .int .i64 av], .agg #[.int .i64 wd, .int .i64 (pw wd - 1 - bv)], .int .i64 (1 - c)] w fun e w' => e = .returned (.tuple #[.agg #[.int .i64 wd, .int .i64 S, .int .i64 cy, .int .i64 ov, .int .i64 z, .int .i64 ng], .int .i64 0]) ∧ ∃ x : Aft w, w' = x.val) := by
  have ok : sumErr wd av wd bv c = 0 := sumErr_ok.2 ⟨⟨h1, h2, h3, h4⟩, ⟨h5, h6⟩, rfl, by omega⟩
  have ok' : sumErr wd av wd (pw wd - 1 - bv) (1 - c) = 0 := sumErr_ok.2 ⟨⟨h1, h2, h3, h4⟩, ⟨by omega, by omega⟩, rfl, by omega⟩
  have e1 := carry_up (E := av - bv - c) (P := pw wd) (by omega) (by omega)
  have e0 : av + (pw wd - 1 - bv) + (1 - c) = av - bv - c + pw wd := by omega
  have e2 := md_up (av - bv - c) (pw wd)
  have e3 : sg wd av + sg wd (pw wd - 1 - bv) + (1 - c) = sg wd av - sg wd bv - c := by rw [sg_not h1 h5 h6]; omega
  have x1 := fun w : World => SubWith_c wd av bv c w h1 h2 h3 h4 h5 h6 h7 h8 ok
  have x2 := fun w : World => AddWith_c wd av (pw wd - 1 - bv) (1 - c) w h1 h2 h3 h4 (by omega) (by omega) (by omega) (by omega) ok'
  simp only [e0, e2, e3] at x2
  simp only [e1] at x1
  exact ⟨_, _, _, _, _, (fl_bd _).1, (fl_bd _).2, x1, x2⟩
theorem back_sum (wd av bv c : Int) (h1 : 1 ≤ wd) (h2 : wd ≤ 16) (h3 : 0 ≤ av) (h4 : av < pw wd) (h5 : 0 ≤ bv) (h6 : bv < pw wd) (h7 : 0 ≤ c) (h8 : c ≤ 1) :
    ∃ S t1 t2 t3 t4 u1 u2 u3 u4 : Int, (∀ w, Calls Try.prog 12 #[.agg #[.int .i64 wd, .int .i64 av], .agg #[.int .i64 wd, .int .i64 bv], .int .i64 c] w fun e w' => e = .returned (.tuple #[.agg #[.int .i64 wd, .int .i64 S, .int .i64 t1, .int .i64 t2, .int .i64 t3, .int .i64 t4], .int .i64 0]) ∧ ∃ x : Aft w, w' = x.val) ∧ (∀ w, Calls Try.prog 13 #[.agg #[.int .i64 wd, .int .i64 S], .agg #[.int .i64 wd, .int .i64 bv], .int .i64 c] w fun e w' => e = .returned (.tuple #[.agg #[.int .i64 wd, .int .i64 av, .int .i64 u1, .int .i64 u2, .int .i64 u3, .int .i64 u4], .int .i64 0]) ∧ ∃ x : Aft w, w' = x.val) := by
  have ok : sumErr wd av wd bv c = 0 := sumErr_ok.2 ⟨⟨h1, h2, h3, h4⟩, ⟨h5, h6⟩, rfl, by omega⟩
  have hb := md_bd (av + bv + c) (pw_pos wd)
  have ok' : sumErr wd (md (av + bv + c) (pw wd)) wd bv c = 0 := sumErr_ok.2 ⟨⟨h1, h2, hb.1, hb.2⟩, ⟨h5, h6⟩, rfl, by omega⟩
  have e := back_md (b := bv) (c := c) h3 h4
  have x1 := fun w : World => AddWith_c wd av bv c w h1 h2 h3 h4 h5 h6 h7 h8 ok
  have x2 := fun w : World => SubWith_c wd (md (av + bv + c) (pw wd)) bv c w h1 h2 hb.1 hb.2 h5 h6 h7 h8 ok'
  simp only [e] at x2
  exact ⟨_, _, _, _, _, _, _, _, _, x1, x2⟩

set_option maxRecDepth 20000 in
set_option maxHeartbeats 8000000 in
theorem BitsBack_no (hawake : ∀ w, Calls Try.prog 11 #[] w fun e w' => e = .returned (.bool true) ∧ ∃ x : Aft w, w' = x.val) (aw av bw bv c er : Int) (w : World) (hn : er ≠ 0) (h9 : Hid (sumErr aw av bw bv c = er)) :
    Calls Try.prog 4 #[.agg #[.int .i64 aw, .int .i64 av], .agg #[.int .i64 bw, .int .i64 bv], .int .i64 c] w fun e w' => e = .returned (.bool true) ∧ ∃ x : Aft w, w' = x.val := by
  have hn' : (er == 0) = false := by simpa using hn
  clear hn
  go_enter Try.func4, Try.ntmps4
  go_wp2_with fail
  refine (hawake _).mono ?_
  rintro e w' ⟨rfl, x1, rfl⟩
  have zx1_0 : w.heap.size < x1.val.heap.size := by have := x1.size; (try simp at this); omega
  have zx1_1 : w.heap.size + 1 < x1.val.heap.size := by have := x1.size; (try simp at this); omega
  go_wp2_with fail
  refine (CarryErr_c aw av bw bv c _).mono ?_
  rw [h9.out]
  rintro e w' ⟨rfl, x2, rfl⟩
  have zx2_0 : w.heap.size < x2.val.heap.size := by have := x2.size; (try simp at this); omega
  have zx2_1 : w.heap.size + 1 < x2.val.heap.size := by have := x2.size; (try simp at this); omega
  go_wp2
  go_ret
  exact ⟨rfl, Below.aft (by (repeat' (first | (with_reducible exact Below.refl _ _) | (with_reducible refine Below.alloc ?_ ?_ _) | (with_reducible refine Below.drew ?_) | (with_reducible refine Aft.below _ ?_ ?_) | (with_reducible refine Below.setCell_new ?_ ?_ _ _) | (with_reducible exact Nat.le_refl _) | (with_reducible refine Aft.le _ ?_) | (with_reducible refine le_alloc ?_) | (with_reducible refine le_drew ?_) | (with_reducible refine le_setCell ?_) | omega)))⟩


theorem Calls.sa {P : Program} {F : Nat} {args : Array Value} {w : World} {r : Ending} (h : Calls P F args w fun e w' => e = r ∧ w = w') : Calls P F args w fun e w' => e = r ∧ ∃ x : Aft w, w' = x.val :=
  h.mono fun _ _ ⟨h1, h2⟩ => ⟨h1, ⟨_, Below.refl _ _⟩, h2.symm⟩

set_option maxRecDepth 20000 in
set_option maxHeartbeats 8000000 in
theorem BitsBack_0 (hawake : ∀ w, Calls Try.prog 11 #[] w fun e w' => e = .returned (.bool true) ∧ ∃ x : Aft w, w' = x.val) (wd av bv c S cy ov z ng S1 t1 t2 t3 t4 u1 u2 u3 u4 : Int) (w : World) (h1 : 1 ≤ wd) (h2 : wd ≤ 16) (h3 : 0 ≤ av) (h4 : av < pw wd) (h5 : 0 ≤ bv) (h6 : bv < pw wd) (h7 : 0 ≤ c) (h8 : c ≤ 1) (hc1 : 0 ≤ cy) (hc2 : cy ≤ 1) (k1 : Hid (∀ w, Calls Try.prog 13 #[.agg #[.int .i64 wd, .int .i64 av], .agg #[.int .i64 wd, .int .i64 bv], .int .i64 c] w fun e w' => e = .returned (.tuple #[.agg #[.int .i64 wd, .int .i64 S, .int .i64 (1 - cy), .int .i64 ov, .int .i64 z, .int .i64 ng], .int .i64 0]) ∧ ∃ x : Aft w, w' = x.val)) (k2 : Hid (∀ w, Calls Try.prog 12 #[.agg #[.int .i64 wd, .int .i64 av], .agg #[.int .i64 wd, .int .i64 (pw wd - 1 - bv)], .int .i64 (1 - c)] w fun e w' => e = .returned (.tuple #[.agg #[.int .i64 wd, .int .i64 S, .int .i64 cy, .int .i64 ov, .int .i64 z, .int .i64 ng], .int .i64 0]) ∧ ∃ x : Aft w, w' = x.val)) (k3 : Hid (∀ w, Calls Try.prog 12 #[.agg #[.int .i64 wd, .int .i64 av], .agg #[.int .i64 wd, .int .i64 bv], .int .i64 c] w fun e w' => e = .returned (.tuple #[.agg #[.int .i64 wd, .int .i64 S1, .int .i64 t1, .int .i64 t2, .int .i64 t3, .int .i64 t4], .int .i64 0]) ∧ ∃ x : Aft w, w' = x.val)) (k4 : Hid (∀ w, Calls Try.prog 13 #[.agg #[.int .i64 wd, .int .i64 S1], .agg #[.int .i64 wd, .int .i64 bv], .int .i64 c] w fun e w' => e = .returned (.tuple #[.agg #[.int .i64 wd, .int .i64 av, .int .i64 u1, .int .i64 u2, .int .i64 u3, .int .i64 u4], .int .i64 0]) ∧ ∃ x : Aft w, w' = x.val)) (h0 : Hid (sumErr wd av wd bv c = 0)) (hz : bv ≠ 0) :
    Calls Try.prog 4 #[.agg #[.int .i64 wd, .int .i64 av], .agg #[.int .i64 wd, .int .i64 bv], .int .i64 c] w fun e w' => e = .returned (.bool true) ∧ ∃ x : Aft w, w' = x.val := by
  have hp := pw_bd (n := wd) (by omega) h2
  have hd : Hid (divErr wd av wd bv = 0) := Lib.hid (divErr_ok.2 ⟨⟨h1, h2, h3, h4⟩, ⟨h5, h6⟩, rfl, hz⟩)
  have hz' : (bv == 0) = false := by simpa using hz
  obtain ⟨d1, d2, d3, d4, d5⟩ := tdiv_bd (a := av) (b := bv) h3 (by omega)
  have dm : 0 ≤ av.tdiv bv * bv := Int.mul_nonneg d1 h5
  have eq : Hid (bErr wd (av.tdiv bv) = 0) := Lib.hid (bErr_ok.2 ⟨h1, h2, by omega, by omega⟩)
  have er : Hid (bErr wd (av % bv) = 0) := Lib.hid (bErr_ok.2 ⟨h1, h2, by omega, by omega⟩)
  have hm1 := IntWalk.wrap64_in (av.tdiv bv * bv) ⟨by omega, by omega⟩
  go_enter Try.func4, Try.ntmps4
  go_wp2_with fail
  refine (hawake _).mono ?_
  rintro e w' ⟨rfl, x1, rfl⟩
  have zx1_0 : w.heap.size < x1.val.heap.size := by have := x1.size; (try simp at this); omega
  have zx1_1 : w.heap.size + 1 < x1.val.heap.size := by have := x1.size; (try simp at this); omega
  go_wp2_with fail
  refine (CarryErr_c wd av wd bv c _).mono ?_
  rw [h0.out]
  rintro e w' ⟨rfl, x2, rfl⟩
  have zx2_0 : w.heap.size < x2.val.heap.size := by have := x2.size; (try simp at this); omega
  have zx2_1 : w.heap.size + 1 < x2.val.heap.size := by have := x2.size; (try simp at this); omega
  go_wp2_with fail
  refine (k3.out _).mono ?_
  rintro e w' ⟨rfl, x3, rfl⟩
  have zx3_0 : w.heap.size < x3.val.heap.size := by have := x3.size; (try simp at this); omega
  have zx3_1 : w.heap.size + 1 < x3.val.heap.size := by have := x3.size; (try simp at this); omega
  go_wp2_with fail
  refine (k4.out _).mono ?_
  rintro e w' ⟨rfl, x4, rfl⟩
  have zx4_0 : w.heap.size < x4.val.heap.size := by have := x4.size; (try simp at this); omega
  have zx4_1 : w.heap.size + 1 < x4.val.heap.size := by have := x4.size; (try simp at this); omega
  have zx4_2 : x3.val.heap.size < x4.val.heap.size := by have := x4.size; (try simp at this); omega
  go_wp2_with fail
  refine (k1.out _).mono ?_
  rintro e W' ⟨rfl, x5, hW⟩
  have s0 : w.heap.size < W'.heap.size := by rw [hW]; have := x5.size; (try simp at this); omega
  have s1 : w.heap.size + 1 < W'.heap.size := by rw [hW]; have := x5.size; (try simp at this); omega
  have s2 : x4.val.heap.size < W'.heap.size := by rw [hW]; have := x5.size; (try simp at this); omega
  have rr0 : W'.heap[w.heap.size]? = some (.cells #[.int .i64 wd, .int .i64 av] 23) := by rw [hW]; (repeat' (first | (with_reducible assumption) | omega | (simp only [World.size_alloc, World.size_drew, World.size_setCell]; omega) | (refine heap_alloc_at ?_; (first | rfl | (simp; done))) | (with_reducible refine heap_aft _ ?_ ?_) | (with_reducible refine heap_alloc' ?_ ?_) | (with_reducible refine heap_drew ?_)))
  have q00 := cell_block (i := 0) rr0
  have f00 := free_block (i := 0) rr0
  have q01 := cell_block (i := 1) rr0
  have f01 := free_block (i := 1) rr0
  have rr1 : W'.heap[w.heap.size + 1]? = some (.cells #[.int .i64 wd, .int .i64 bv] 23) := by rw [hW]; (repeat' (first | (with_reducible assumption) | omega | (simp only [World.size_alloc, World.size_drew, World.size_setCell]; omega) | (refine heap_alloc_at ?_; (first | rfl | (simp; done))) | (with_reducible refine heap_aft _ ?_ ?_) | (with_reducible refine heap_alloc' ?_ ?_) | (with_reducible refine heap_drew ?_)))
  have q10 := cell_block (i := 0) rr1
  have f10 := free_block (i := 0) rr1
  have q11 := cell_block (i := 1) rr1
  have f11 := free_block (i := 1) rr1
  have rr2 : W'.heap[x4.val.heap.size]? = some (.cells #[.int .i64 wd, .int .i64 av, .int .i64 u1, .int .i64 u2, .int .i64 u3, .int .i64 u4] 26) := by rw [hW]; (repeat' (first | (with_reducible assumption) | omega | (simp only [World.size_alloc, World.size_drew, World.size_setCell]; omega) | (refine heap_alloc_at ?_; (first | rfl | (simp; done))) | (with_reducible refine heap_aft _ ?_ ?_) | (with_reducible refine heap_alloc' ?_ ?_) | (with_reducible refine heap_drew ?_)))
  have q20 := cell_block (i := 0) rr2
  have f20 := free_block (i := 0) rr2
  have q21 := cell_block (i := 1) rr2
  have f21 := free_block (i := 1) rr2
  have q22 := cell_block (i := 2) rr2
  have f22 := free_block (i := 2) rr2
  have q23 := cell_block (i := 3) rr2
  have f23 := free_block (i := 3) rr2
  have q24 := cell_block (i := 4) rr2
  have f24 := free_block (i := 4) rr2
  have q25 := cell_block (i := 5) rr2
  have f25 := free_block (i := 5) rr2
  simp at q00 q01 q10 q11 q20 q21 q22 q23 q24 q25
  clear rr0
  clear rr1
  clear rr2
  have hb0' : Below w.heap.size w W' := by rw [hW]; (repeat' (first | (with_reducible exact Below.refl _ _) | (with_reducible refine Below.alloc ?_ ?_ _) | (with_reducible refine Below.drew ?_) | (with_reducible refine Aft.below _ ?_ ?_) | (with_reducible refine Below.setCell_new ?_ ?_ _ _) | (with_reducible exact Nat.le_refl _) | (with_reducible refine Aft.le _ ?_) | (with_reducible refine le_alloc ?_) | (with_reducible refine le_drew ?_) | (with_reducible refine le_setCell ?_) | omega))
  clear hW
  clear zx1_0 zx1_1 zx2_0 zx2_1 zx3_0 zx3_1 zx4_0 zx4_1 zx4_2
  have hwr : ∀ n : Int, -70000 ≤ n → n ≤ 70000 → IntKind.i64.wrap n = n := fun n a b => by
    have h : (n + 9223372036854775808) % 18446744073709551616 - 9223372036854775808 = n := by omega
    first | exact h | (simpa [IntKind.wrap_i64] using h)
  have hw1 : Hid (IntKind.i64.wrap (IntKind.i64.wrap (pw wd - 1) - bv) = pw wd - 1 - bv) := Lib.hid (by rw [hwr (pw wd - 1) (by omega) (by omega), hwr _ (by omega) (by omega)])
  have hw2 : Hid (IntKind.i64.wrap (1 - c) = 1 - c) := Lib.hid (hwr _ (by omega) (by omega))
  clear hwr
  go_wp2_with fail
  refine wp_region_kd [.quiet, .quiet, .quiet, .quiet, .quiet, .quiet, .quiet, .quiet, .quiet, .quiet, .quiet, .quiet, .quiet, .quiet, .quiet, .quiet, .quiet, .new (.cells #[.int .i64 0, .int .i64 0, .int .i64 0, .int .i64 0, .int .i64 0, .int .i64 0] 26), .put (.tmp 13) (.tmp 62), .late] (by kernel_rfl) (by kernel_rfl) (by kernel_rfl) rfl (by kernel_rfl) ?hF ?_
  case hF =>
    simp only [FitsL, fit1, true_and, and_true]
    repeat' apply And.intro
    all_goals first | rfl | (simp [Op.operands]; done) | (intro a w; go_simp; done)
  repeat (first | (with_reducible refine wpQ_new ?_) | (with_reducible refine wpQ_put ?_) | (with_reducible refine wpQ_late ?_) | (refine wpQ_step (fun K hK => ?_); go_simp; first | (refine hK _ ?_; clear hK K) | (apply Exists.intro; refine ⟨fun _ => ?_, hK _ ?_⟩; (first | (go_at_call 20; exact Calls.q0 (Power_c wd (by omega) (by omega) _)) | (go_at_call 19; exact of_c _ _ _) | (go_at_call 12; rw [hw1.out, hw2.out]; exact k2.out _)); clear hK K)))
  refine wpQ_nil ?_
  simp only [wpN]
  intro gy hgy
  simp only [wpP]
  refine ⟨gy, _, by simp [go_sem], by simp [Held.put, Held.nil]; rfl, ?hx, ?_⟩
  case hx =>
    intro w' hw'
    have q0 := cell_block (i := 0) hw'; have f0 := free_block (i := 0) hw'
    have q1 := cell_block (i := 1) hw'; have f1 := free_block (i := 1) hw'
    have q2 := cell_block (i := 2) hw'; have f2 := free_block (i := 2) hw'
    have q3 := cell_block (i := 3) hw'; have f3 := free_block (i := 3) hw'
    have q4 := cell_block (i := 4) hw'; have f4 := free_block (i := 4) hw'
    have q5 := cell_block (i := 5) hw'; have f5 := free_block (i := 5) hw'
    simp at q0 q1 q2 q3 q4 q5
    go_simp
    simp only [upPut]
    refine (Setted.start hw' |>.step 0 _ |>.step 1 _ |>.step 2 _ |>.step 3 _ |>.step 4 _ |>.step 5 _).eq ?_
    simp [wrote, go_sem]
  repeat (first | (refine wpL_step (fun K hK => ?_); go_simp; refine hK _ ?_; clear hK K) | (with_reducible refine wpL_skip (by decide) ?_))
  refine wpL_nil ?_
  intro x8 hin
  have hgy' := hin gy _ _ (Held.at_self _ _ _ _)
  obtain ⟨hgy1, hgy2⟩ := hgy'
  clear hin hgy
  have qg0 := cell_block (i := 0) hgy2
  have fg0 : x8.val.frozen? ⟨gy, 0, none⟩ = false := by simp [World.frozen?, hgy2, wrote]
  have qg1 := cell_block (i := 1) hgy2
  have fg1 : x8.val.frozen? ⟨gy, 1, none⟩ = false := by simp [World.frozen?, hgy2, wrote]
  have qg2 := cell_block (i := 2) hgy2
  have fg2 : x8.val.frozen? ⟨gy, 2, none⟩ = false := by simp [World.frozen?, hgy2, wrote]
  have qg3 := cell_block (i := 3) hgy2
  have fg3 : x8.val.frozen? ⟨gy, 3, none⟩ = false := by simp [World.frozen?, hgy2, wrote]
  have qg4 := cell_block (i := 4) hgy2
  have fg4 : x8.val.frozen? ⟨gy, 4, none⟩ = false := by simp [World.frozen?, hgy2, wrote]
  have qg5 := cell_block (i := 5) hgy2
  have fg5 : x8.val.frozen? ⟨gy, 5, none⟩ = false := by simp [World.frozen?, hgy2, wrote]
  simp [wrote, go_sem] at qg0 qg1 qg2 qg3 qg4 qg5
  have tg := lt_of_get hgy2
  clear hgy2
  have p0 : x8.val.cell? ⟨w.heap.size, 0, none⟩ = some (.int .i64 wd) := by (repeat' (first | (with_reducible assumption) | omega | (simp only [World.size_alloc, World.size_drew, World.size_setCell]; omega) | (simp [go_sem]; done) | (with_reducible refine Aft.lt' _ ?_) | (with_reducible refine lt_alloc ?_) | (with_reducible refine lt_drew ?_) | (with_reducible refine lt_setCell ?_) | (with_reducible refine cell_aft _ ?_ ?_) | (with_reducible refine cell_alloc ?_ ?_) | (with_reducible refine cell_drew' ?_) | (with_reducible refine cell_setCell ?_ ?_)))
  have p1 : x8.val.cell? ⟨w.heap.size, 1, none⟩ = some (.int .i64 av) := by (repeat' (first | (with_reducible assumption) | omega | (simp only [World.size_alloc, World.size_drew, World.size_setCell]; omega) | (simp [go_sem]; done) | (with_reducible refine Aft.lt' _ ?_) | (with_reducible refine lt_alloc ?_) | (with_reducible refine lt_drew ?_) | (with_reducible refine lt_setCell ?_) | (with_reducible refine cell_aft _ ?_ ?_) | (with_reducible refine cell_alloc ?_ ?_) | (with_reducible refine cell_drew' ?_) | (with_reducible refine cell_setCell ?_ ?_)))
  have p2 : x8.val.cell? ⟨w.heap.size + 1, 0, none⟩ = some (.int .i64 wd) := by (repeat' (first | (with_reducible assumption) | omega | (simp only [World.size_alloc, World.size_drew, World.size_setCell]; omega) | (simp [go_sem]; done) | (with_reducible refine Aft.lt' _ ?_) | (with_reducible refine lt_alloc ?_) | (with_reducible refine lt_drew ?_) | (with_reducible refine lt_setCell ?_) | (with_reducible refine cell_aft _ ?_ ?_) | (with_reducible refine cell_alloc ?_ ?_) | (with_reducible refine cell_drew' ?_) | (with_reducible refine cell_setCell ?_ ?_)))
  have p3 : x8.val.cell? ⟨w.heap.size + 1, 1, none⟩ = some (.int .i64 bv) := by (repeat' (first | (with_reducible assumption) | omega | (simp only [World.size_alloc, World.size_drew, World.size_setCell]; omega) | (simp [go_sem]; done) | (with_reducible refine Aft.lt' _ ?_) | (with_reducible refine lt_alloc ?_) | (with_reducible refine lt_drew ?_) | (with_reducible refine lt_setCell ?_) | (with_reducible refine cell_aft _ ?_ ?_) | (with_reducible refine cell_alloc ?_ ?_) | (with_reducible refine cell_drew' ?_) | (with_reducible refine cell_setCell ?_ ?_)))
  have p4 : x8.val.cell? ⟨x4.val.heap.size, 0, none⟩ = some (.int .i64 wd) := by (repeat' (first | (with_reducible assumption) | omega | (simp only [World.size_alloc, World.size_drew, World.size_setCell]; omega) | (simp [go_sem]; done) | (with_reducible refine Aft.lt' _ ?_) | (with_reducible refine lt_alloc ?_) | (with_reducible refine lt_drew ?_) | (with_reducible refine lt_setCell ?_) | (with_reducible refine cell_aft _ ?_ ?_) | (with_reducible refine cell_alloc ?_ ?_) | (with_reducible refine cell_drew' ?_) | (with_reducible refine cell_setCell ?_ ?_)))
  have p5 : x8.val.cell? ⟨x4.val.heap.size, 1, none⟩ = some (.int .i64 av) := by (repeat' (first | (with_reducible assumption) | omega | (simp only [World.size_alloc, World.size_drew, World.size_setCell]; omega) | (simp [go_sem]; done) | (with_reducible refine Aft.lt' _ ?_) | (with_reducible refine lt_alloc ?_) | (with_reducible refine lt_drew ?_) | (with_reducible refine lt_setCell ?_) | (with_reducible refine cell_aft _ ?_ ?_) | (with_reducible refine cell_alloc ?_ ?_) | (with_reducible refine cell_drew' ?_) | (with_reducible refine cell_setCell ?_ ?_)))
  have p6 : x8.val.cell? ⟨W'.heap.size, 0, none⟩ = some (.int .i64 wd) := by first | (rw [x8.cell _ _ (by simp)]; simp [go_sem]; done) | (repeat' (first | (with_reducible assumption) | omega | (simp only [World.size_alloc, World.size_drew, World.size_setCell]; omega) | (simp [go_sem]; done) | (with_reducible refine Aft.lt' _ ?_) | (with_reducible refine lt_alloc ?_) | (with_reducible refine lt_drew ?_) | (with_reducible refine lt_setCell ?_) | (with_reducible refine cell_aft _ ?_ ?_) | (with_reducible refine cell_alloc ?_ ?_) | (with_reducible refine cell_drew' ?_) | (with_reducible refine cell_setCell ?_ ?_)))
  have p7 : x8.val.cell? ⟨W'.heap.size, 1, none⟩ = some (.int .i64 S) := by first | (rw [x8.cell _ _ (by simp)]; simp [go_sem]; done) | (repeat' (first | (with_reducible assumption) | omega | (simp only [World.size_alloc, World.size_drew, World.size_setCell]; omega) | (simp [go_sem]; done) | (with_reducible refine Aft.lt' _ ?_) | (with_reducible refine lt_alloc ?_) | (with_reducible refine lt_drew ?_) | (with_reducible refine lt_setCell ?_) | (with_reducible refine cell_aft _ ?_ ?_) | (with_reducible refine cell_alloc ?_ ?_) | (with_reducible refine cell_drew' ?_) | (with_reducible refine cell_setCell ?_ ?_)))
  have p8 : x8.val.cell? ⟨W'.heap.size, 2, none⟩ = some (.int .i64 (1 - cy)) := by first | (rw [x8.cell _ _ (by simp)]; simp [go_sem]; done) | (repeat' (first | (with_reducible assumption) | omega | (simp only [World.size_alloc, World.size_drew, World.size_setCell]; omega) | (simp [go_sem]; done) | (with_reducible refine Aft.lt' _ ?_) | (with_reducible refine lt_alloc ?_) | (with_reducible refine lt_drew ?_) | (with_reducible refine lt_setCell ?_) | (with_reducible refine cell_aft _ ?_ ?_) | (with_reducible refine cell_alloc ?_ ?_) | (with_reducible refine cell_drew' ?_) | (with_reducible refine cell_setCell ?_ ?_)))
  have p9 : x8.val.cell? ⟨W'.heap.size, 3, none⟩ = some (.int .i64 ov) := by first | (rw [x8.cell _ _ (by simp)]; simp [go_sem]; done) | (repeat' (first | (with_reducible assumption) | omega | (simp only [World.size_alloc, World.size_drew, World.size_setCell]; omega) | (simp [go_sem]; done) | (with_reducible refine Aft.lt' _ ?_) | (with_reducible refine lt_alloc ?_) | (with_reducible refine lt_drew ?_) | (with_reducible refine lt_setCell ?_) | (with_reducible refine cell_aft _ ?_ ?_) | (with_reducible refine cell_alloc ?_ ?_) | (with_reducible refine cell_drew' ?_) | (with_reducible refine cell_setCell ?_ ?_)))
  have p10 : x8.val.cell? ⟨W'.heap.size, 4, none⟩ = some (.int .i64 z) := by first | (rw [x8.cell _ _ (by simp)]; simp [go_sem]; done) | (repeat' (first | (with_reducible assumption) | omega | (simp only [World.size_alloc, World.size_drew, World.size_setCell]; omega) | (simp [go_sem]; done) | (with_reducible refine Aft.lt' _ ?_) | (with_reducible refine lt_alloc ?_) | (with_reducible refine lt_drew ?_) | (with_reducible refine lt_setCell ?_) | (with_reducible refine cell_aft _ ?_ ?_) | (with_reducible refine cell_alloc ?_ ?_) | (with_reducible refine cell_drew' ?_) | (with_reducible refine cell_setCell ?_ ?_)))
  have p11 : x8.val.cell? ⟨W'.heap.size, 5, none⟩ = some (.int .i64 ng) := by first | (rw [x8.cell _ _ (by simp)]; simp [go_sem]; done) | (repeat' (first | (with_reducible assumption) | omega | (simp only [World.size_alloc, World.size_drew, World.size_setCell]; omega) | (simp [go_sem]; done) | (with_reducible refine Aft.lt' _ ?_) | (with_reducible refine lt_alloc ?_) | (with_reducible refine lt_drew ?_) | (with_reducible refine lt_setCell ?_) | (with_reducible refine cell_aft _ ?_ ?_) | (with_reducible refine cell_alloc ?_ ?_) | (with_reducible refine cell_drew' ?_) | (with_reducible refine cell_setCell ?_ ?_)))
  have tb0 : w.heap.size < x8.val.heap.size := by have := x8.size; simp at this; omega
  have tb1 : w.heap.size + 1 < x8.val.heap.size := by have := x8.size; simp at this; omega
  have tb2 : x4.val.heap.size < x8.val.heap.size := by have := x8.size; simp at this; omega
  have tb3 : W'.heap.size < x8.val.heap.size := by have := x8.size; simp at this; omega
  have hb8 : Below w.heap.size w x8.val := by (repeat' (first | (with_reducible exact Below.refl _ _) | (with_reducible assumption) | (with_reducible refine Below.alloc ?_ ?_ _) | (with_reducible refine Below.drew ?_) | (with_reducible refine Aft.below _ ?_ ?_) | (with_reducible refine Below.setCell_new ?_ ?_ _ _) | (with_reducible exact Nat.le_refl _) | (with_reducible refine Aft.le _ ?_) | (with_reducible refine le_alloc ?_) | (with_reducible refine le_drew ?_) | (with_reducible refine le_setCell ?_) | omega))
  generalize x8.val = W8 at *
  clear q00 q01 q10 q11
  go_wp2_with fail
  refine (DivMod_c wd av wd bv _ hd).mono ?_
  rintro e W9 ⟨rfl, x9, rfl⟩
  have tc0 : w.heap.size < x9.val.heap.size := by have := x9.size; omega
  have tc1 : w.heap.size + 1 < x9.val.heap.size := by have := x9.size; omega
  have zq : x9.val.heap.size < x9.val.heap.size + 1 := by omega
  go_wp2_with fail
  refine (BitsErr_c wd (av.tdiv bv) _).mono ?_
  rw [eq.out]
  rintro e W10 ⟨rfl, x10, rfl⟩
  have td0 : x9.val.heap.size < x10.val.heap.size := by have := x10.size; simp at this; omega
  have td1 : x9.val.heap.size + 1 < x10.val.heap.size := by have := x10.size; simp at this; omega
  go_wp2_with fail
  refine (BitsErr_c wd (av % bv) _).mono ?_
  rw [er.out]
  rintro e W11 ⟨rfl, x11, hW⟩
  have rr0 : W11.heap[x9.val.heap.size]? = some (.cells #[.int .i64 wd, .int .i64 (av.tdiv bv)] 23) := by rw [hW]; (repeat' (first | (with_reducible assumption) | omega | (simp only [World.size_alloc, World.size_drew, World.size_setCell]; omega) | (refine heap_alloc_at ?_; (first | rfl | (simp; done))) | (with_reducible refine heap_aft _ ?_ ?_) | (with_reducible refine heap_alloc' ?_ ?_) | (with_reducible refine heap_drew ?_)))
  have qq0 := cell_block (i := 1) rr0
  have ff0 := free_block (i := 1) rr0
  have rr1 : W11.heap[x9.val.heap.size + 1]? = some (.cells #[.int .i64 wd, .int .i64 (av % bv)] 23) := by rw [hW]; (repeat' (first | (with_reducible assumption) | omega | (simp only [World.size_alloc, World.size_drew, World.size_setCell]; omega) | (refine heap_alloc_at ?_; (first | rfl | (simp; done))) | (with_reducible refine heap_aft _ ?_ ?_) | (with_reducible refine heap_alloc' ?_ ?_) | (with_reducible refine heap_drew ?_)))
  have qq1 := cell_block (i := 1) rr1
  have ff1 := free_block (i := 1) rr1
  simp at qq0 qq1
  clear rr0 rr1
  have pp0 : W11.cell? ⟨w.heap.size, 0, none⟩ = some (.int .i64 wd) := by rw [hW]; (repeat' (first | (with_reducible assumption) | omega | (simp only [World.size_alloc, World.size_drew, World.size_setCell]; omega) | (simp [go_sem]; done) | (with_reducible refine Aft.lt' _ ?_) | (with_reducible refine lt_alloc ?_) | (with_reducible refine lt_drew ?_) | (with_reducible refine lt_setCell ?_) | (with_reducible refine cell_aft _ ?_ ?_) | (with_reducible refine cell_alloc ?_ ?_) | (with_reducible refine cell_drew' ?_) | (with_reducible refine cell_setCell ?_ ?_)))
  have pp1 : W11.cell? ⟨w.heap.size, 1, none⟩ = some (.int .i64 av) := by rw [hW]; (repeat' (first | (with_reducible assumption) | omega | (simp only [World.size_alloc, World.size_drew, World.size_setCell]; omega) | (simp [go_sem]; done) | (with_reducible refine Aft.lt' _ ?_) | (with_reducible refine lt_alloc ?_) | (with_reducible refine lt_drew ?_) | (with_reducible refine lt_setCell ?_) | (with_reducible refine cell_aft _ ?_ ?_) | (with_reducible refine cell_alloc ?_ ?_) | (with_reducible refine cell_drew' ?_) | (with_reducible refine cell_setCell ?_ ?_)))
  have pp2 : W11.cell? ⟨w.heap.size + 1, 0, none⟩ = some (.int .i64 wd) := by rw [hW]; (repeat' (first | (with_reducible assumption) | omega | (simp only [World.size_alloc, World.size_drew, World.size_setCell]; omega) | (simp [go_sem]; done) | (with_reducible refine Aft.lt' _ ?_) | (with_reducible refine lt_alloc ?_) | (with_reducible refine lt_drew ?_) | (with_reducible refine lt_setCell ?_) | (with_reducible refine cell_aft _ ?_ ?_) | (with_reducible refine cell_alloc ?_ ?_) | (with_reducible refine cell_drew' ?_) | (with_reducible refine cell_setCell ?_ ?_)))
  have pp3 : W11.cell? ⟨w.heap.size + 1, 1, none⟩ = some (.int .i64 bv) := by rw [hW]; (repeat' (first | (with_reducible assumption) | omega | (simp only [World.size_alloc, World.size_drew, World.size_setCell]; omega) | (simp [go_sem]; done) | (with_reducible refine Aft.lt' _ ?_) | (with_reducible refine lt_alloc ?_) | (with_reducible refine lt_drew ?_) | (with_reducible refine lt_setCell ?_) | (with_reducible refine cell_aft _ ?_ ?_) | (with_reducible refine cell_alloc ?_ ?_) | (with_reducible refine cell_drew' ?_) | (with_reducible refine cell_setCell ?_ ?_)))
  have hb11 : Below w.heap.size w W11 := by rw [hW]; (repeat' (first | (with_reducible exact Below.refl _ _) | (with_reducible assumption) | (with_reducible refine Below.alloc ?_ ?_ _) | (with_reducible refine Below.drew ?_) | (with_reducible refine Aft.below _ ?_ ?_) | (with_reducible refine Below.setCell_new ?_ ?_ _ _) | (with_reducible exact Nat.le_refl _) | (with_reducible refine Aft.le _ ?_) | (with_reducible refine le_alloc ?_) | (with_reducible refine le_drew ?_) | (with_reducible refine le_setCell ?_) | omega))
  clear hW
  have dl : decide (av % bv < bv) = true := by simpa using d4
  go_wp2
  go_ret
  exact ⟨rfl, Below.aft hb11⟩

set_option maxRecDepth 20000 in
set_option maxHeartbeats 8000000 in
theorem BitsBack_1 (hawake : ∀ w, Calls Try.prog 11 #[] w fun e w' => e = .returned (.bool true) ∧ ∃ x : Aft w, w' = x.val) (wd av bv c S cy ov z ng S1 t1 t2 t3 t4 u1 u2 u3 u4 : Int) (w : World) (h1 : 1 ≤ wd) (h2 : wd ≤ 16) (h3 : 0 ≤ av) (h4 : av < pw wd) (h5 : 0 ≤ bv) (h6 : bv < pw wd) (h7 : 0 ≤ c) (h8 : c ≤ 1) (hc1 : 0 ≤ cy) (hc2 : cy ≤ 1) (k1 : Hid (∀ w, Calls Try.prog 13 #[.agg #[.int .i64 wd, .int .i64 av], .agg #[.int .i64 wd, .int .i64 bv], .int .i64 c] w fun e w' => e = .returned (.tuple #[.agg #[.int .i64 wd, .int .i64 S, .int .i64 (1 - cy), .int .i64 ov, .int .i64 z, .int .i64 ng], .int .i64 0]) ∧ ∃ x : Aft w, w' = x.val)) (k2 : Hid (∀ w, Calls Try.prog 12 #[.agg #[.int .i64 wd, .int .i64 av], .agg #[.int .i64 wd, .int .i64 (pw wd - 1 - bv)], .int .i64 (1 - c)] w fun e w' => e = .returned (.tuple #[.agg #[.int .i64 wd, .int .i64 S, .int .i64 cy, .int .i64 ov, .int .i64 z, .int .i64 ng], .int .i64 0]) ∧ ∃ x : Aft w, w' = x.val)) (k3 : Hid (∀ w, Calls Try.prog 12 #[.agg #[.int .i64 wd, .int .i64 av], .agg #[.int .i64 wd, .int .i64 bv], .int .i64 c] w fun e w' => e = .returned (.tuple #[.agg #[.int .i64 wd, .int .i64 S1, .int .i64 t1, .int .i64 t2, .int .i64 t3, .int .i64 t4], .int .i64 0]) ∧ ∃ x : Aft w, w' = x.val)) (k4 : Hid (∀ w, Calls Try.prog 13 #[.agg #[.int .i64 wd, .int .i64 S1], .agg #[.int .i64 wd, .int .i64 bv], .int .i64 c] w fun e w' => e = .returned (.tuple #[.agg #[.int .i64 wd, .int .i64 av, .int .i64 u1, .int .i64 u2, .int .i64 u3, .int .i64 u4], .int .i64 0]) ∧ ∃ x : Aft w, w' = x.val)) (h0 : Hid (sumErr wd av wd bv c = 0)) (hz : bv = 0) :
    Calls Try.prog 4 #[.agg #[.int .i64 wd, .int .i64 av], .agg #[.int .i64 wd, .int .i64 bv], .int .i64 c] w fun e w' => e = .returned (.bool true) ∧ ∃ x : Aft w, w' = x.val := by
  have hp := pw_bd (n := wd) (by omega) h2
  have hd : Hid (divErr wd av wd bv = 11) := by
    have e1 : bErr wd av = 0 := bErr_ok.2 ⟨h1, h2, h3, h4⟩
    have e2 : bErr wd bv = 0 := bErr_ok.2 ⟨h1, h2, h5, h6⟩
    exact Lib.hid (by unfold divErr; rw [e1, e2]; simp [firstE, eIf, hz])
  have hz' : (bv == 0) = true := by simpa using hz
  clear hz
  go_enter Try.func4, Try.ntmps4
  go_wp2_with fail
  refine (hawake _).mono ?_
  rintro e w' ⟨rfl, x1, rfl⟩
  have zx1_0 : w.heap.size < x1.val.heap.size := by have := x1.size; (try simp at this); omega
  have zx1_1 : w.heap.size + 1 < x1.val.heap.size := by have := x1.size; (try simp at this); omega
  go_wp2_with fail
  refine (CarryErr_c wd av wd bv c _).mono ?_
  rw [h0.out]
  rintro e w' ⟨rfl, x2, rfl⟩
  have zx2_0 : w.heap.size < x2.val.heap.size := by have := x2.size; (try simp at this); omega
  have zx2_1 : w.heap.size + 1 < x2.val.heap.size := by have := x2.size; (try simp at this); omega
  go_wp2_with fail
  refine (k3.out _).mono ?_
  rintro e w' ⟨rfl, x3, rfl⟩
  have zx3_0 : w.heap.size < x3.val.heap.size := by have := x3.size; (try simp at this); omega
  have zx3_1 : w.heap.size + 1 < x3.val.heap.size := by have := x3.size; (try simp at this); omega
  go_wp2_with fail
  refine (k4.out _).mono ?_
  rintro e w' ⟨rfl, x4, rfl⟩
  have zx4_0 : w.heap.size < x4.val.heap.size := by have := x4.size; (try simp at this); omega
  have zx4_1 : w.heap.size + 1 < x4.val.heap.size := by have := x4.size; (try simp at this); omega
  have zx4_2 : x3.val.heap.size < x4.val.heap.size := by have := x4.size; (try simp at this); omega
  go_wp2_with fail
  refine (k1.out _).mono ?_
  rintro e W' ⟨rfl, x5, hW⟩
  have s0 : w.heap.size < W'.heap.size := by rw [hW]; have := x5.size; (try simp at this); omega
  have s1 : w.heap.size + 1 < W'.heap.size := by rw [hW]; have := x5.size; (try simp at this); omega
  have s2 : x4.val.heap.size < W'.heap.size := by rw [hW]; have := x5.size; (try simp at this); omega
  have rr0 : W'.heap[w.heap.size]? = some (.cells #[.int .i64 wd, .int .i64 av] 23) := by rw [hW]; (repeat' (first | (with_reducible assumption) | omega | (simp only [World.size_alloc, World.size_drew, World.size_setCell]; omega) | (refine heap_alloc_at ?_; (first | rfl | (simp; done))) | (with_reducible refine heap_aft _ ?_ ?_) | (with_reducible refine heap_alloc' ?_ ?_) | (with_reducible refine heap_drew ?_)))
  have q00 := cell_block (i := 0) rr0
  have f00 := free_block (i := 0) rr0
  have q01 := cell_block (i := 1) rr0
  have f01 := free_block (i := 1) rr0
  have rr1 : W'.heap[w.heap.size + 1]? = some (.cells #[.int .i64 wd, .int .i64 bv] 23) := by rw [hW]; (repeat' (first | (with_reducible assumption) | omega | (simp only [World.size_alloc, World.size_drew, World.size_setCell]; omega) | (refine heap_alloc_at ?_; (first | rfl | (simp; done))) | (with_reducible refine heap_aft _ ?_ ?_) | (with_reducible refine heap_alloc' ?_ ?_) | (with_reducible refine heap_drew ?_)))
  have q10 := cell_block (i := 0) rr1
  have f10 := free_block (i := 0) rr1
  have q11 := cell_block (i := 1) rr1
  have f11 := free_block (i := 1) rr1
  have rr2 : W'.heap[x4.val.heap.size]? = some (.cells #[.int .i64 wd, .int .i64 av, .int .i64 u1, .int .i64 u2, .int .i64 u3, .int .i64 u4] 26) := by rw [hW]; (repeat' (first | (with_reducible assumption) | omega | (simp only [World.size_alloc, World.size_drew, World.size_setCell]; omega) | (refine heap_alloc_at ?_; (first | rfl | (simp; done))) | (with_reducible refine heap_aft _ ?_ ?_) | (with_reducible refine heap_alloc' ?_ ?_) | (with_reducible refine heap_drew ?_)))
  have q20 := cell_block (i := 0) rr2
  have f20 := free_block (i := 0) rr2
  have q21 := cell_block (i := 1) rr2
  have f21 := free_block (i := 1) rr2
  have q22 := cell_block (i := 2) rr2
  have f22 := free_block (i := 2) rr2
  have q23 := cell_block (i := 3) rr2
  have f23 := free_block (i := 3) rr2
  have q24 := cell_block (i := 4) rr2
  have f24 := free_block (i := 4) rr2
  have q25 := cell_block (i := 5) rr2
  have f25 := free_block (i := 5) rr2
  simp at q00 q01 q10 q11 q20 q21 q22 q23 q24 q25
  clear rr0
  clear rr1
  clear rr2
  have hb0' : Below w.heap.size w W' := by rw [hW]; (repeat' (first | (with_reducible exact Below.refl _ _) | (with_reducible refine Below.alloc ?_ ?_ _) | (with_reducible refine Below.drew ?_) | (with_reducible refine Aft.below _ ?_ ?_) | (with_reducible refine Below.setCell_new ?_ ?_ _ _) | (with_reducible exact Nat.le_refl _) | (with_reducible refine Aft.le _ ?_) | (with_reducible refine le_alloc ?_) | (with_reducible refine le_drew ?_) | (with_reducible refine le_setCell ?_) | omega))
  clear hW
  clear zx1_0 zx1_1 zx2_0 zx2_1 zx3_0 zx3_1 zx4_0 zx4_1 zx4_2
  have hwr : ∀ n : Int, -70000 ≤ n → n ≤ 70000 → IntKind.i64.wrap n = n := fun n a b => by
    have h : (n + 9223372036854775808) % 18446744073709551616 - 9223372036854775808 = n := by omega
    first | exact h | (simpa [IntKind.wrap_i64] using h)
  have hw1 : Hid (IntKind.i64.wrap (IntKind.i64.wrap (pw wd - 1) - bv) = pw wd - 1 - bv) := Lib.hid (by rw [hwr (pw wd - 1) (by omega) (by omega), hwr _ (by omega) (by omega)])
  have hw2 : Hid (IntKind.i64.wrap (1 - c) = 1 - c) := Lib.hid (hwr _ (by omega) (by omega))
  clear hwr
  go_wp2_with fail
  refine wp_region_kd [.quiet, .quiet, .quiet, .quiet, .quiet, .quiet, .quiet, .quiet, .quiet, .quiet, .quiet, .quiet, .quiet, .quiet, .quiet, .quiet, .quiet, .new (.cells #[.int .i64 0, .int .i64 0, .int .i64 0, .int .i64 0, .int .i64 0, .int .i64 0] 26), .put (.tmp 13) (.tmp 62), .late] (by kernel_rfl) (by kernel_rfl) (by kernel_rfl) rfl (by kernel_rfl) ?hF ?_
  case hF =>
    simp only [FitsL, fit1, true_and, and_true]
    repeat' apply And.intro
    all_goals first | rfl | (simp [Op.operands]; done) | (intro a w; go_simp; done)
  repeat (first | (with_reducible refine wpQ_new ?_) | (with_reducible refine wpQ_put ?_) | (with_reducible refine wpQ_late ?_) | (refine wpQ_step (fun K hK => ?_); go_simp; first | (refine hK _ ?_; clear hK K) | (apply Exists.intro; refine ⟨fun _ => ?_, hK _ ?_⟩; (first | (go_at_call 20; exact Calls.q0 (Power_c wd (by omega) (by omega) _)) | (go_at_call 19; exact of_c _ _ _) | (go_at_call 12; rw [hw1.out, hw2.out]; exact k2.out _)); clear hK K)))
  refine wpQ_nil ?_
  simp only [wpN]
  intro gy hgy
  simp only [wpP]
  refine ⟨gy, _, by simp [go_sem], by simp [Held.put, Held.nil]; rfl, ?hx, ?_⟩
  case hx =>
    intro w' hw'
    have q0 := cell_block (i := 0) hw'; have f0 := free_block (i := 0) hw'
    have q1 := cell_block (i := 1) hw'; have f1 := free_block (i := 1) hw'
    have q2 := cell_block (i := 2) hw'; have f2 := free_block (i := 2) hw'
    have q3 := cell_block (i := 3) hw'; have f3 := free_block (i := 3) hw'
    have q4 := cell_block (i := 4) hw'; have f4 := free_block (i := 4) hw'
    have q5 := cell_block (i := 5) hw'; have f5 := free_block (i := 5) hw'
    simp at q0 q1 q2 q3 q4 q5
    go_simp
    simp only [upPut]
    refine (Setted.start hw' |>.step 0 _ |>.step 1 _ |>.step 2 _ |>.step 3 _ |>.step 4 _ |>.step 5 _).eq ?_
    simp [wrote, go_sem]
  repeat (first | (refine wpL_step (fun K hK => ?_); go_simp; refine hK _ ?_; clear hK K) | (with_reducible refine wpL_skip (by decide) ?_))
  refine wpL_nil ?_
  intro x8 hin
  have hgy' := hin gy _ _ (Held.at_self _ _ _ _)
  obtain ⟨hgy1, hgy2⟩ := hgy'
  clear hin hgy
  have qg0 := cell_block (i := 0) hgy2
  have fg0 : x8.val.frozen? ⟨gy, 0, none⟩ = false := by simp [World.frozen?, hgy2, wrote]
  have qg1 := cell_block (i := 1) hgy2
  have fg1 : x8.val.frozen? ⟨gy, 1, none⟩ = false := by simp [World.frozen?, hgy2, wrote]
  have qg2 := cell_block (i := 2) hgy2
  have fg2 : x8.val.frozen? ⟨gy, 2, none⟩ = false := by simp [World.frozen?, hgy2, wrote]
  have qg3 := cell_block (i := 3) hgy2
  have fg3 : x8.val.frozen? ⟨gy, 3, none⟩ = false := by simp [World.frozen?, hgy2, wrote]
  have qg4 := cell_block (i := 4) hgy2
  have fg4 : x8.val.frozen? ⟨gy, 4, none⟩ = false := by simp [World.frozen?, hgy2, wrote]
  have qg5 := cell_block (i := 5) hgy2
  have fg5 : x8.val.frozen? ⟨gy, 5, none⟩ = false := by simp [World.frozen?, hgy2, wrote]
  simp [wrote, go_sem] at qg0 qg1 qg2 qg3 qg4 qg5
  have tg := lt_of_get hgy2
  clear hgy2
  have p0 : x8.val.cell? ⟨w.heap.size, 0, none⟩ = some (.int .i64 wd) := by (repeat' (first | (with_reducible assumption) | omega | (simp only [World.size_alloc, World.size_drew, World.size_setCell]; omega) | (simp [go_sem]; done) | (with_reducible refine Aft.lt' _ ?_) | (with_reducible refine lt_alloc ?_) | (with_reducible refine lt_drew ?_) | (with_reducible refine lt_setCell ?_) | (with_reducible refine cell_aft _ ?_ ?_) | (with_reducible refine cell_alloc ?_ ?_) | (with_reducible refine cell_drew' ?_) | (with_reducible refine cell_setCell ?_ ?_)))
  have p1 : x8.val.cell? ⟨w.heap.size, 1, none⟩ = some (.int .i64 av) := by (repeat' (first | (with_reducible assumption) | omega | (simp only [World.size_alloc, World.size_drew, World.size_setCell]; omega) | (simp [go_sem]; done) | (with_reducible refine Aft.lt' _ ?_) | (with_reducible refine lt_alloc ?_) | (with_reducible refine lt_drew ?_) | (with_reducible refine lt_setCell ?_) | (with_reducible refine cell_aft _ ?_ ?_) | (with_reducible refine cell_alloc ?_ ?_) | (with_reducible refine cell_drew' ?_) | (with_reducible refine cell_setCell ?_ ?_)))
  have p2 : x8.val.cell? ⟨w.heap.size + 1, 0, none⟩ = some (.int .i64 wd) := by (repeat' (first | (with_reducible assumption) | omega | (simp only [World.size_alloc, World.size_drew, World.size_setCell]; omega) | (simp [go_sem]; done) | (with_reducible refine Aft.lt' _ ?_) | (with_reducible refine lt_alloc ?_) | (with_reducible refine lt_drew ?_) | (with_reducible refine lt_setCell ?_) | (with_reducible refine cell_aft _ ?_ ?_) | (with_reducible refine cell_alloc ?_ ?_) | (with_reducible refine cell_drew' ?_) | (with_reducible refine cell_setCell ?_ ?_)))
  have p3 : x8.val.cell? ⟨w.heap.size + 1, 1, none⟩ = some (.int .i64 bv) := by (repeat' (first | (with_reducible assumption) | omega | (simp only [World.size_alloc, World.size_drew, World.size_setCell]; omega) | (simp [go_sem]; done) | (with_reducible refine Aft.lt' _ ?_) | (with_reducible refine lt_alloc ?_) | (with_reducible refine lt_drew ?_) | (with_reducible refine lt_setCell ?_) | (with_reducible refine cell_aft _ ?_ ?_) | (with_reducible refine cell_alloc ?_ ?_) | (with_reducible refine cell_drew' ?_) | (with_reducible refine cell_setCell ?_ ?_)))
  have p4 : x8.val.cell? ⟨x4.val.heap.size, 0, none⟩ = some (.int .i64 wd) := by (repeat' (first | (with_reducible assumption) | omega | (simp only [World.size_alloc, World.size_drew, World.size_setCell]; omega) | (simp [go_sem]; done) | (with_reducible refine Aft.lt' _ ?_) | (with_reducible refine lt_alloc ?_) | (with_reducible refine lt_drew ?_) | (with_reducible refine lt_setCell ?_) | (with_reducible refine cell_aft _ ?_ ?_) | (with_reducible refine cell_alloc ?_ ?_) | (with_reducible refine cell_drew' ?_) | (with_reducible refine cell_setCell ?_ ?_)))
  have p5 : x8.val.cell? ⟨x4.val.heap.size, 1, none⟩ = some (.int .i64 av) := by (repeat' (first | (with_reducible assumption) | omega | (simp only [World.size_alloc, World.size_drew, World.size_setCell]; omega) | (simp [go_sem]; done) | (with_reducible refine Aft.lt' _ ?_) | (with_reducible refine lt_alloc ?_) | (with_reducible refine lt_drew ?_) | (with_reducible refine lt_setCell ?_) | (with_reducible refine cell_aft _ ?_ ?_) | (with_reducible refine cell_alloc ?_ ?_) | (with_reducible refine cell_drew' ?_) | (with_reducible refine cell_setCell ?_ ?_)))
  have p6 : x8.val.cell? ⟨W'.heap.size, 0, none⟩ = some (.int .i64 wd) := by first | (rw [x8.cell _ _ (by simp)]; simp [go_sem]; done) | (repeat' (first | (with_reducible assumption) | omega | (simp only [World.size_alloc, World.size_drew, World.size_setCell]; omega) | (simp [go_sem]; done) | (with_reducible refine Aft.lt' _ ?_) | (with_reducible refine lt_alloc ?_) | (with_reducible refine lt_drew ?_) | (with_reducible refine lt_setCell ?_) | (with_reducible refine cell_aft _ ?_ ?_) | (with_reducible refine cell_alloc ?_ ?_) | (with_reducible refine cell_drew' ?_) | (with_reducible refine cell_setCell ?_ ?_)))
  have p7 : x8.val.cell? ⟨W'.heap.size, 1, none⟩ = some (.int .i64 S) := by first | (rw [x8.cell _ _ (by simp)]; simp [go_sem]; done) | (repeat' (first | (with_reducible assumption) | omega | (simp only [World.size_alloc, World.size_drew, World.size_setCell]; omega) | (simp [go_sem]; done) | (with_reducible refine Aft.lt' _ ?_) | (with_reducible refine lt_alloc ?_) | (with_reducible refine lt_drew ?_) | (with_reducible refine lt_setCell ?_) | (with_reducible refine cell_aft _ ?_ ?_) | (with_reducible refine cell_alloc ?_ ?_) | (with_reducible refine cell_drew' ?_) | (with_reducible refine cell_setCell ?_ ?_)))
  have p8 : x8.val.cell? ⟨W'.heap.size, 2, none⟩ = some (.int .i64 (1 - cy)) := by first | (rw [x8.cell _ _ (by simp)]; simp [go_sem]; done) | (repeat' (first | (with_reducible assumption) | omega | (simp only [World.size_alloc, World.size_drew, World.size_setCell]; omega) | (simp [go_sem]; done) | (with_reducible refine Aft.lt' _ ?_) | (with_reducible refine lt_alloc ?_) | (with_reducible refine lt_drew ?_) | (with_reducible refine lt_setCell ?_) | (with_reducible refine cell_aft _ ?_ ?_) | (with_reducible refine cell_alloc ?_ ?_) | (with_reducible refine cell_drew' ?_) | (with_reducible refine cell_setCell ?_ ?_)))
  have p9 : x8.val.cell? ⟨W'.heap.size, 3, none⟩ = some (.int .i64 ov) := by first | (rw [x8.cell _ _ (by simp)]; simp [go_sem]; done) | (repeat' (first | (with_reducible assumption) | omega | (simp only [World.size_alloc, World.size_drew, World.size_setCell]; omega) | (simp [go_sem]; done) | (with_reducible refine Aft.lt' _ ?_) | (with_reducible refine lt_alloc ?_) | (with_reducible refine lt_drew ?_) | (with_reducible refine lt_setCell ?_) | (with_reducible refine cell_aft _ ?_ ?_) | (with_reducible refine cell_alloc ?_ ?_) | (with_reducible refine cell_drew' ?_) | (with_reducible refine cell_setCell ?_ ?_)))
  have p10 : x8.val.cell? ⟨W'.heap.size, 4, none⟩ = some (.int .i64 z) := by first | (rw [x8.cell _ _ (by simp)]; simp [go_sem]; done) | (repeat' (first | (with_reducible assumption) | omega | (simp only [World.size_alloc, World.size_drew, World.size_setCell]; omega) | (simp [go_sem]; done) | (with_reducible refine Aft.lt' _ ?_) | (with_reducible refine lt_alloc ?_) | (with_reducible refine lt_drew ?_) | (with_reducible refine lt_setCell ?_) | (with_reducible refine cell_aft _ ?_ ?_) | (with_reducible refine cell_alloc ?_ ?_) | (with_reducible refine cell_drew' ?_) | (with_reducible refine cell_setCell ?_ ?_)))
  have p11 : x8.val.cell? ⟨W'.heap.size, 5, none⟩ = some (.int .i64 ng) := by first | (rw [x8.cell _ _ (by simp)]; simp [go_sem]; done) | (repeat' (first | (with_reducible assumption) | omega | (simp only [World.size_alloc, World.size_drew, World.size_setCell]; omega) | (simp [go_sem]; done) | (with_reducible refine Aft.lt' _ ?_) | (with_reducible refine lt_alloc ?_) | (with_reducible refine lt_drew ?_) | (with_reducible refine lt_setCell ?_) | (with_reducible refine cell_aft _ ?_ ?_) | (with_reducible refine cell_alloc ?_ ?_) | (with_reducible refine cell_drew' ?_) | (with_reducible refine cell_setCell ?_ ?_)))
  have tb0 : w.heap.size < x8.val.heap.size := by have := x8.size; simp at this; omega
  have tb1 : w.heap.size + 1 < x8.val.heap.size := by have := x8.size; simp at this; omega
  have tb2 : x4.val.heap.size < x8.val.heap.size := by have := x8.size; simp at this; omega
  have tb3 : W'.heap.size < x8.val.heap.size := by have := x8.size; simp at this; omega
  have hb8 : Below w.heap.size w x8.val := by (repeat' (first | (with_reducible exact Below.refl _ _) | (with_reducible assumption) | (with_reducible refine Below.alloc ?_ ?_ _) | (with_reducible refine Below.drew ?_) | (with_reducible refine Aft.below _ ?_ ?_) | (with_reducible refine Below.setCell_new ?_ ?_ _ _) | (with_reducible exact Nat.le_refl _) | (with_reducible refine Aft.le _ ?_) | (with_reducible refine le_alloc ?_) | (with_reducible refine le_drew ?_) | (with_reducible refine le_setCell ?_) | omega))
  generalize x8.val = W8 at *
  clear q00 q01 q10 q11
  go_wp2_with fail
  refine (DivMod_bad wd av wd bv 11 _ (by decide) hd).mono ?_
  rintro e W9 ⟨rfl, x9, rfl⟩
  go_wp2
  go_ret
  exact ⟨rfl, Below.aft (by (repeat' (first | (with_reducible exact Below.refl _ _) | (with_reducible assumption) | (with_reducible refine Below.alloc ?_ ?_ _) | (with_reducible refine Below.drew ?_) | (with_reducible refine Aft.below _ ?_ ?_) | (with_reducible refine Below.setCell_new ?_ ?_ _ _) | (with_reducible exact Nat.le_refl _) | (with_reducible refine Aft.le _ ?_) | (with_reducible refine le_alloc ?_) | (with_reducible refine le_drew ?_) | (with_reducible refine le_setCell ?_) | omega)))⟩


theorem BitsBack_all (hawake : ∀ w, Calls Try.prog 11 #[] w fun e w' => e = .returned (.bool true) ∧ ∃ x : Aft w, w' = x.val) (aw av bw bv c : Int) (w : World) :
    Calls Try.prog 4 #[.agg #[.int .i64 aw, .int .i64 av], .agg #[.int .i64 bw, .int .i64 bv], .int .i64 c] w fun e w' => e = .returned (.bool true) ∧ ∃ x : Aft w, w' = x.val := by
  by_cases h : sumErr aw av bw bv c = 0
  · obtain ⟨⟨h1, h2, h3, h4⟩, ⟨h5, h6⟩, rfl, h7⟩ := sumErr_ok.1 h
    obtain ⟨S, cy, ov, z, ng, c1, c2, k1, k2⟩ := back_pair aw av bv c h1 h2 h3 h4 h5 h6 (by omega) (by omega)
    obtain ⟨S1, t1, t2, t3, t4, u1, u2, u3, u4, k3, k4⟩ := back_sum aw av bv c h1 h2 h3 h4 h5 h6 (by omega) (by omega)
    by_cases hz : bv = 0
    · exact BitsBack_1 hawake aw av bv c S cy ov z ng S1 t1 t2 t3 t4 u1 u2 u3 u4 w h1 h2 h3 h4 h5 h6 (by omega) (by omega) c1 c2 (Lib.hid k1) (Lib.hid k2) (Lib.hid k3) (Lib.hid k4) (Lib.hid h) hz
    · exact BitsBack_0 hawake aw av bv c S cy ov z ng S1 t1 t2 t3 t4 u1 u2 u3 u4 w h1 h2 h3 h4 h5 h6 (by omega) (by omega) c1 c2 (Lib.hid k1) (Lib.hid k2) (Lib.hid k3) (Lib.hid k4) (Lib.hid h) hz
  · exact BitsBack_no hawake aw av bw bv c _ w h (Lib.hid rfl)

end Go.Proofs.Ytlplphigjejahaa
