/-
  The walk of the law BitsShifts.
-/
import Derived.Test.YtlplphigjejahaaBo
import Derived.Test.YtlplphigjejahaaBr
set_option linter.unusedSimpArgs false
set_option linter.unusedVariables false
namespace Go.Proofs.Ytlplphigjejahaa
open Go.RowKit Go.BigFrame

theorem md_back {i b n : Int} (h0 : 0 ≤ i) (h1 : i < n) : md (md (i + b) n + n - md b n) n = i := by
  rw [md_sub_md]
  unfold md
  have e := Int.mul_ediv_add_emod (i + b) n
  have e2 : (i + b) % n - b = i + n * (-((i + b) / n)) := by rw [Int.mul_neg]; omega
  rw [e2, Int.add_mul_emod_self_left]
  exact Int.emod_eq_of_lt h0 h1
theorem rot_back {n : Nat} {v b : Int} (h1 : 1 ≤ n) (h3 : 0 ≤ v) (h4 : v < 2 ^ n) :
    bw (fun i => bitI n (bw (fun i => bitI n v (srcI 3 i b n)) n) (srcI 4 i b n)) n = v := by
  refine Eq.trans (bw_ext fun i hi => ?_) (bw_self h3 h4)
  have hm := md_bd ((i : Int) + b) (m := n) (by omega)
  show bitI n _ (md ((i : Int) + b) n) = v / 2 ^ (i : Int).toNat % 2
  rw [bitI_in hm.1 hm.2, bw_bit _ (fun i => bitI_bd _ _ _) n _ (by omega)]
  show bitI n v (md (((md ((i : Int) + b) n).toNat : Int) + n - md b n) n) = _
  rw [Int.toNat_of_nonneg hm.1, md_back (by omega) (by omega), bitI_in (by omega) (by omega)]

set_option maxRecDepth 20000 in
set_option maxHeartbeats 4000000 in
theorem BitsShifts_no (hawake : ∀ w, Calls Try.prog 11 #[] w fun e w' => e = .returned (.bool true) ∧ ∃ x : Aft w, w' = x.val) (wd v k b er : Int) (w : World) (hn : er ≠ 0) (h9 : Hid (shErr wd v k b = er)) :
    Calls Try.prog 6 #[.agg #[.int .i64 wd, .int .i64 v], .int .i64 k, .int .i64 b] w fun e w' => e = .returned (.bool true) ∧ ∃ x : Aft w, w' = x.val := by
  have hn' : (er == 0) = false := by simpa using hn
  have hn2 : (er != 0) = true := by simpa using hn
  have hn0 := Lib.hid hn
  clear hn
  go_enter Try.func6, Try.ntmps6
  go_wp2_with fail
  refine (hawake _).mono ?_
  rintro e w' ⟨rfl, x1, rfl⟩
  have zx1_0 : w.heap.size < x1.val.heap.size := by have := x1.size; (try simp at this); omega
  go_wp2_with fail
  refine (Shifted_bad wd v k b er _ hn0.out h9).mono ?_
  rintro e w' ⟨rfl, x2, rfl⟩
  have zx2_0 : w.heap.size < x2.val.heap.size := by have := x2.size; (try simp at this); omega
  go_wp2_with fail
  refine (ShiftErr_c wd v k b _).mono ?_
  rw [h9.out]
  rintro e w' ⟨rfl, x3, rfl⟩
  have zx3_0 : w.heap.size < x3.val.heap.size := by have := x3.size; (try simp at this); omega
  have zx3_1 : x2.val.heap.size < x3.val.heap.size := by have := x3.size; (try simp at this); omega
  go_wp2
  go_ret
  exact ⟨rfl, Below.aft (by (repeat' (first | (with_reducible exact Below.refl _ _) | (with_reducible refine Below.alloc ?_ ?_ _) | (with_reducible refine Below.drew ?_) | (with_reducible refine Aft.below _ ?_ ?_) | (with_reducible refine Below.setCell_new ?_ ?_ _ _) | (with_reducible exact Nat.le_refl _) | (with_reducible refine Aft.le _ ?_) | (with_reducible refine le_alloc ?_) | (with_reducible refine le_drew ?_) | (with_reducible refine le_setCell ?_) | omega)))⟩

set_option maxRecDepth 20000 in
set_option maxHeartbeats 4000000 in
theorem BitsShifts_yes (hawake : ∀ w, Calls Try.prog 11 #[] w fun e w' => e = .returned (.bool true) ∧ ∃ x : Aft w, w' = x.val) (n v k b S Lv : Int) (w : World) (k1 : Hid (∀ w, Calls Try.prog 25 #[.agg #[.int .i64 n, .int .i64 v], .int .i64 k, .int .i64 b] w fun e w' => e = .returned (.tuple #[.agg #[.int .i64 n, .int .i64 S], .int .i64 0]) ∧ ∃ x : Aft w, w' = x.val)) (k2 : Hid (∀ w, Calls Try.prog 27 #[.agg #[.int .i64 n, .int .i64 v], .int .i64 k, .int .i64 b] w fun e w' => e = .returned (.agg #[.int .i64 n, .int .i64 S]) ∧ ∃ x : Aft w, w' = x.val)) (k3 : Hid (∀ w, Calls Try.prog 25 #[.agg #[.int .i64 n, .int .i64 v], .int .i64 3, .int .i64 b] w fun e w' => e = .returned (.tuple #[.agg #[.int .i64 n, .int .i64 Lv], .int .i64 0]) ∧ ∃ x : Aft w, w' = x.val)) (k4 : Hid (∀ w, Calls Try.prog 25 #[.agg #[.int .i64 n, .int .i64 Lv], .int .i64 4, .int .i64 b] w fun e w' => e = .returned (.tuple #[.agg #[.int .i64 n, .int .i64 v], .int .i64 0]) ∧ ∃ x : Aft w, w' = x.val)) (h0 : Hid (shErr n v k b = 0)) :
    Calls Try.prog 6 #[.agg #[.int .i64 n, .int .i64 v], .int .i64 k, .int .i64 b] w fun e w' => e = .returned (.bool true) ∧ ∃ x : Aft w, w' = x.val := by
  go_enter Try.func6, Try.ntmps6
  go_wp2_with fail
  refine (hawake _).mono ?_
  rintro e w' ⟨rfl, x1, rfl⟩
  have zx1_0 : w.heap.size < x1.val.heap.size := by have := x1.size; (try simp at this); omega
  go_wp2_with fail
  refine (k1.out _).mono ?_
  rintro e w' ⟨rfl, x2, rfl⟩
  have zx2_0 : w.heap.size < x2.val.heap.size := by have := x2.size; (try simp at this); omega
  go_wp2_with fail
  refine (ShiftErr_c n v k b _).mono ?_
  rw [h0.out]
  rintro e w' ⟨rfl, x3, rfl⟩
  have zx3_0 : w.heap.size < x3.val.heap.size := by have := x3.size; (try simp at this); omega
  have zx3_1 : x2.val.heap.size < x3.val.heap.size := by have := x3.size; (try simp at this); omega
  go_wp2_with fail
  refine wp_region_aft (by kernel_rfl) (by kernel_rfl) ?_
  repeat (go_big_quiet_step ((go_at_call 27; exact Calls.qa (k2.out _))))
  refine wpQuiet_nil ?_
  intro x4
  have zx4_0 : w.heap.size < x4.val.heap.size := by have := x4.size; (try simp at this); omega
  have zx4_1 : x2.val.heap.size < x4.val.heap.size := by have := x4.size; (try simp at this); omega
  go_wp2_with fail
  refine (k3.out _).mono ?_
  rintro e w' ⟨rfl, x5, rfl⟩
  have zx5_0 : w.heap.size < x5.val.heap.size := by have := x5.size; (try simp at this); omega
  have zx5_1 : x2.val.heap.size < x5.val.heap.size := by have := x5.size; (try simp at this); omega
  go_wp2_with fail
  refine (k4.out _).mono ?_
  rintro e W' ⟨rfl, x6, hW⟩
  have s0 : w.heap.size < W'.heap.size := by rw [hW]; have := x6.size; (try simp at this); omega
  have rr0 : W'.heap[w.heap.size]? = some (.cells #[.int .i64 n, .int .i64 v] 23) := by rw [hW]; (repeat' (first | (with_reducible assumption) | omega | (simp only [World.size_alloc, World.size_drew, World.size_setCell]; omega) | (refine heap_alloc_at ?_; (first | rfl | (simp; done))) | (with_reducible refine heap_aft _ ?_ ?_) | (with_reducible refine heap_alloc' ?_ ?_) | (with_reducible refine heap_drew ?_)))
  have q00 := cell_block (i := 0) rr0
  have f00 := free_block (i := 0) rr0
  have q01 := cell_block (i := 1) rr0
  have f01 := free_block (i := 1) rr0
  simp at q00 q01
  clear rr0
  have hb0' : Below w.heap.size w W' := by rw [hW]; (repeat' (first | (with_reducible exact Below.refl _ _) | (with_reducible refine Below.alloc ?_ ?_ _) | (with_reducible refine Below.drew ?_) | (with_reducible refine Aft.below _ ?_ ?_) | (with_reducible refine Below.setCell_new ?_ ?_ _ _) | (with_reducible exact Nat.le_refl _) | (with_reducible refine Aft.le _ ?_) | (with_reducible refine le_alloc ?_) | (with_reducible refine le_drew ?_) | (with_reducible refine le_setCell ?_) | omega))
  clear hW
  go_wp2
  go_ret
  exact ⟨rfl, Below.aft (by (repeat' (first | (with_reducible exact Below.refl _ _) | (with_reducible assumption) | (with_reducible refine Below.alloc ?_ ?_ _) | (with_reducible refine Below.drew ?_) | (with_reducible refine Aft.below _ ?_ ?_) | (with_reducible refine Below.setCell_new ?_ ?_ _ _) | (with_reducible exact Nat.le_refl _) | (with_reducible refine Aft.le _ ?_) | (with_reducible refine le_alloc ?_) | (with_reducible refine le_drew ?_) | (with_reducible refine le_setCell ?_) | omega)))⟩


theorem BitsShifts_all (hawake : ∀ w, Calls Try.prog 11 #[] w fun e w' => e = .returned (.bool true) ∧ ∃ x : Aft w, w' = x.val) (wd v k b : Int) (w : World) :
    Calls Try.prog 6 #[.agg #[.int .i64 wd, .int .i64 v], .int .i64 k, .int .i64 b] w fun e w' => e = .returned (.bool true) ∧ ∃ x : Aft w, w' = x.val := by
  by_cases h : shErr wd v k b = 0
  · obtain ⟨hb, k0, k4, b0, b16⟩ := shErr_ok.1 h
    obtain ⟨h1, h2, h3, h4⟩ := bErr_ok.1 hb
    obtain ⟨n, rfl⟩ := Int.eq_ofNat_of_zero_le (show 0 ≤ wd by omega)
    have hp := pw_bd (n := (n : Int)) (by omega) h2
    have h5 : v < 2 ^ n := by simpa [pw] using h4
    have c3 := fun w => Shifted3_c n v b w (by omega) (by omega) b0 b16 (Lib.hid hb)
    have hL := bw_bd (fun i => bitI n v (srcI 3 i b n)) (fun i => bitI_bd _ _ _) n
    have hLb : bErr n (bw (fun i => bitI n v (srcI 3 i b n)) n) = 0 := bErr_ok.2 ⟨h1, h2, hL.1, by simpa [pw] using hL.2⟩
    have c4 := fun w => Shifted4_c n (bw (fun i => bitI n v (srcI 3 i b n)) n) b w (by omega) (by omega) b0 b16 (Lib.hid hLb)
    simp only [rot_back (show 1 ≤ n by omega) h3 h5] at c4
    have hk : k = 0 ∨ k = 1 ∨ k = 2 ∨ k = 3 ∨ k = 4 := by omega
    rcases hk with rfl | rfl | rfl | rfl | rfl
    · exact BitsShifts_yes hawake n v 0 b _ _ w (Lib.hid fun w => Shifted0_c n v b w (by omega) (by omega) b0 b16 (Lib.hid hb)) (Lib.hid fun w => Shift_0 n v b w (by omega) (by omega) h3 (by omega) b0 b16) (Lib.hid c3) (Lib.hid c4) (Lib.hid h)
    · exact BitsShifts_yes hawake n v 1 b _ _ w (Lib.hid fun w => Shifted1_c n v b w (by omega) (by omega) b0 b16 (Lib.hid hb)) (Lib.hid fun w => Shift_1 n v b w (by omega) (by omega) h3 (by omega) b0 b16) (Lib.hid c3) (Lib.hid c4) (Lib.hid h)
    · exact BitsShifts_yes hawake n v 2 b _ _ w (Lib.hid fun w => Shifted2_c n v b w (by omega) (by omega) b0 b16 (Lib.hid hb)) (Lib.hid fun w => Shift_2 n v b w (by omega) (by omega) h3 (by omega) b0 b16) (Lib.hid c3) (Lib.hid c4) (Lib.hid h)
    · exact BitsShifts_yes hawake n v 3 b _ _ w (Lib.hid fun w => Shifted3_c n v b w (by omega) (by omega) b0 b16 (Lib.hid hb)) (Lib.hid fun w => Shift_3 n v b w (by omega) (by omega) h3 (by omega) b0 b16) (Lib.hid c3) (Lib.hid c4) (Lib.hid h)
    · exact BitsShifts_yes hawake n v 4 b _ _ w (Lib.hid fun w => Shifted4_c n v b w (by omega) (by omega) b0 b16 (Lib.hid hb)) (Lib.hid fun w => Shift_4 n v b w (by omega) (by omega) h3 (by omega) b0 b16) (Lib.hid c3) (Lib.hid c4) (Lib.hid h)
  · exact BitsShifts_no hawake wd v k b _ w h (Lib.hid rfl)

end Go.Proofs.Ytlplphigjejahaa
