/-
  Contracts of the functions of chapter 1 (fifth part: bitwise, shifts).
-/
import Derived.Test.YtlplphigjejahaaDoorBe
set_option linter.unusedSimpArgs false
set_option linter.unusedVariables false
namespace Go.Proofs.YtlplphigjejahaaDoor
open Go.RowKit Go.BigFrame

/-- The number whose bits are f 0, f 1, ... -/
def bw (f : Int → Int) : Nat → Int
  | 0 => 0
  | k + 1 => bw f k + f k * 2 ^ k
theorem bw_bd (f : Int → Int) (hf : ∀ i, 0 ≤ f i ∧ f i ≤ 1) (k : Nat) : 0 ≤ bw f k ∧ bw f k < 2 ^ k := by
  induction k with
  | zero => simp [bw]
  | succ k ih =>
    have h := hf k
    have hp : (0 : Int) < 2 ^ k := Int.pow_pos (by decide)
    rw [Int.pow_succ]
    simp only [bw]
    have e : f k = 0 ∨ f k = 1 := by omega
    rcases e with e | e <;> rw [e] <;> omega
theorem bw_join (f : Int → Int) (k : Nat) (hk : k ≤ 15) (hf : ∀ i, 0 ≤ f i ∧ f i ≤ 1) : bits .or .i64 (bw f k) (wrap64 (f k * 2 ^ k)) = bw f (k + 1) := by
  obtain ⟨h0, h1⟩ := bw_bd f hf k
  have hp : (2 : Int) ^ k ≤ 32768 := by
    have : ∀ k : Nat, k ≤ 15 → (2 : Int) ^ k ≤ 32768 := by decide
    exact this k hk
  have hp0 : (0 : Int) < 2 ^ k := Int.pow_pos (by decide)
  have hfk := hf k
  obtain ⟨v, hv⟩ := Int.eq_ofNat_of_zero_le h0
  have e2 : ((2 : Int) ^ k) = ((2 ^ k : Nat) : Int) := by simp
  have e : f k = 0 ∨ f k = 1 := by omega
  have hN : v < 2 ^ k := by rw [hv, e2] at h1; exact Int.ofNat_lt.1 h1
  have hN2 : (2 : Nat) ^ k ≤ 32768 := by rw [e2] at hp; exact Int.ofNat_le.1 hp
  simp only [bw]
  rcases e with e | e
  · rw [e, hv]
    rw [Int.zero_mul, Int.add_zero, show wrap64 0 = ((0 : Nat) : Int) from IntWalk.wrap64_in 0 ⟨by omega, by omega⟩, or_nat v 0 (by omega) (by decide), Nat.or_zero]
  · rw [e, hv, Int.one_mul, IntWalk.wrap64_in _ ⟨by omega, by omega⟩, e2, or_nat v (2 ^ k) (by omega) (by omega)]
    have hj := nat_join k (2 ^ k) v (by simp) hN
    rw [Nat.or_comm, hj]
    push_cast
    omega
def srcI (k : Nat) (i b wd : Int) : Int := match k with
  | 0 => i - b
  | 1 => i + b
  | 2 => min (i + b) (wd - 1)
  | 3 => md (i + wd - md b wd) wd
  | _ => md (i + b) wd
theorem tmod_pos {n m : Int} (h0 : 0 ≤ n) : n.tmod m = md n m := by unfold md; exact Int.tmod_eq_emod_of_nonneg h0


theorem shift0_c (i b wd : Int) (w : World) (h1 : 0 ≤ i) (h2 : i ≤ 15) (h3 : 0 ≤ b) (h4 : b ≤ 16) (h5 : 1 ≤ wd) (h6 : wd ≤ 16) :
    Calls Tryd.prog 60 #[.int .i64 i, .int .i64 b, .int .i64 wd] w fun e w' => e = .returned (.int .i64 (srcI 0 i b wd)) ∧ w = w' := by
  have hb := md_bd b (m := wd) (by omega)
  unfold srcI md at *
  go_enter Tryd.func60, Tryd.ntmps60
  go_wp2
  all_goals (go_ret; exact ⟨retI (by first | rfl | (unfold md at *; omega) | omega), rfl⟩)

theorem shift1_c (i b wd : Int) (w : World) (h1 : 0 ≤ i) (h2 : i ≤ 15) (h3 : 0 ≤ b) (h4 : b ≤ 16) (h5 : 1 ≤ wd) (h6 : wd ≤ 16) :
    Calls Tryd.prog 61 #[.int .i64 i, .int .i64 b, .int .i64 wd] w fun e w' => e = .returned (.int .i64 (srcI 1 i b wd)) ∧ w = w' := by
  have hb := md_bd b (m := wd) (by omega)
  unfold srcI md at *
  go_enter Tryd.func61, Tryd.ntmps61
  go_wp2
  all_goals (go_ret; exact ⟨retI (by first | rfl | (unfold md at *; omega) | omega), rfl⟩)

theorem shift2_c (i b wd : Int) (w : World) (h1 : 0 ≤ i) (h2 : i ≤ 15) (h3 : 0 ≤ b) (h4 : b ≤ 16) (h5 : 1 ≤ wd) (h6 : wd ≤ 16) :
    Calls Tryd.prog 62 #[.int .i64 i, .int .i64 b, .int .i64 wd] w fun e w' => e = .returned (.int .i64 (srcI 2 i b wd)) ∧ w = w' := by
  have hb := md_bd b (m := wd) (by omega)
  unfold srcI md at *
  go_enter Tryd.func62, Tryd.ntmps62
  go_wp2
  all_goals (go_ret; exact ⟨retI (by first | rfl | (unfold md at *; omega) | omega), rfl⟩)

theorem shift3_c (i b wd : Int) (w : World) (h1 : 0 ≤ i) (h2 : i ≤ 15) (h3 : 0 ≤ b) (h4 : b ≤ 16) (h5 : 1 ≤ wd) (h6 : wd ≤ 16) :
    Calls Tryd.prog 63 #[.int .i64 i, .int .i64 b, .int .i64 wd] w fun e w' => e = .returned (.int .i64 (srcI 3 i b wd)) ∧ w = w' := by
  have hb := md_bd b (m := wd) (by omega)
  unfold srcI md at *
  go_enter Tryd.func63, Tryd.ntmps63
  go_wp2
  all_goals (go_ret; exact ⟨retI (by first | rfl | (unfold md at *; omega) | omega), rfl⟩)

theorem shift4_c (i b wd : Int) (w : World) (h1 : 0 ≤ i) (h2 : i ≤ 15) (h3 : 0 ≤ b) (h4 : b ≤ 16) (h5 : 1 ≤ wd) (h6 : wd ≤ 16) :
    Calls Tryd.prog 64 #[.int .i64 i, .int .i64 b, .int .i64 wd] w fun e w' => e = .returned (.int .i64 (srcI 4 i b wd)) ∧ w = w' := by
  have hb := md_bd b (m := wd) (by omega)
  unfold srcI md at *
  go_enter Tryd.func64, Tryd.ntmps64
  go_wp2
  all_goals (go_ret; exact ⟨retI (by first | rfl | (unfold md at *; omega) | omega), rfl⟩)
theorem shifts_c  (w : World) :
    Calls Tryd.prog 34 #[] w fun e w' => e = .returned (.agg #[.func (.func 60) #[] #[], .func (.func 61) #[] #[], .func (.func 62) #[] #[], .func (.func 63) #[] #[], .func (.func 64) #[] #[]]) ∧ ∃ x : Aft w, w' = x.val := by
  go_enter Tryd.func34, Tryd.ntmps34
  go_wp2
  refine bodyPost_ret (by simp [results, Tryd.results34, go_sem]; try rfl) rfl ?_
  exact ⟨rfl, Below.aft (by (repeat' (first | (with_reducible exact Below.refl _ _) | (with_reducible refine Below.alloc ?_ ?_ _) | (with_reducible refine Below.drew ?_) | (with_reducible refine Aft.below _ ?_ ?_) | (with_reducible refine Below.setCell_new ?_ ?_ _ _) | (with_reducible exact Nat.le_refl _) | (with_reducible refine Aft.le _ ?_) | (with_reducible refine le_alloc ?_) | (with_reducible refine le_drew ?_) | (with_reducible refine le_setCell ?_) | omega)))⟩


theorem Shifted1_0 (i wd v b : Int) (A S Bk : Nat) (w : World) (h1 : 0 ≤ i) (h2 : i ≤ 15) (h3 : 0 ≤ b) (h4 : b ≤ 16) (h5 : 1 ≤ wd) (h6 : wd ≤ 16)
    (ca : w.cell? ⟨A, 0, none⟩ = some (.int .i64 wd)) (cv : w.cell? ⟨A, 1, none⟩ = some (.int .i64 v)) (cs : w.cell? ⟨S, 0, none⟩ = some (.func (.func 60) #[] #[])) (cb : w.cell? ⟨Bk, 0, none⟩ = some (.int .i64 b))
    (la : A < w.heap.size) (ls : S < w.heap.size) (lb : Bk < w.heap.size) :
    Calls Tryd.prog 36 #[.int .i64 i, .pointer (some ⟨A, 0, none⟩), .pointer (some ⟨S, 0, none⟩), .pointer (some ⟨Bk, 0, none⟩)] w fun e w' => e = .returned (.int .i64 (bitI wd v (srcI 0 i b wd))) ∧ ∃ x : Aft w, w' = x.val := by
  go_enter Tryd.func36, Tryd.ntmps36
  go_wp2_with fail
  refine wp_region_aft (by kernel_rfl) (by kernel_rfl) ?_
  repeat (go_big_quiet_step (first | (go_at_call 60; exact Calls.qs (shift0_c _ _ _ _ (by omega) (by omega) (by omega) (by omega) (by omega) (by omega))) | (go_at_call 37; exact Calls.qa (bitAt_c _ _ _ (by omega) _))))
  refine wpQuiet_nil ?_
  intro x
  go_wp2
  go_ret
  exact ⟨rfl, Below.aft (by (repeat' (first | (with_reducible exact Below.refl _ _) | (with_reducible refine Below.alloc ?_ ?_ _) | (with_reducible refine Below.drew ?_) | (with_reducible refine Aft.below _ ?_ ?_) | (with_reducible refine Below.setCell_new ?_ ?_ _ _) | (with_reducible exact Nat.le_refl _) | (with_reducible refine Aft.le _ ?_) | (with_reducible refine le_alloc ?_) | (with_reducible refine le_drew ?_) | (with_reducible refine le_setCell ?_) | omega)))⟩

set_option maxHeartbeats 400000 in
theorem bitwise_Shifted0 (n : Nat) (v b : Int) (A S Bk : Nat) (w : World) (h1 : 1 ≤ n) (h2 : n ≤ 16) (h3 : 0 ≤ b) (h4 : b ≤ 16)
    (ca : w.cell? ⟨A, 0, none⟩ = some (.int .i64 n)) (cv : w.cell? ⟨A, 1, none⟩ = some (.int .i64 v)) (cs : w.cell? ⟨S, 0, none⟩ = some (.func (.func 60) #[] #[])) (cb : w.cell? ⟨Bk, 0, none⟩ = some (.int .i64 b))
    (la : A < w.heap.size) (ls : S < w.heap.size) (lb : Bk < w.heap.size) :
    Calls Tryd.prog 35 #[.int .i64 n, .func (.func 36) #[] #[.pointer (some ⟨A, 0, none⟩), .pointer (some ⟨S, 0, none⟩), .pointer (some ⟨Bk, 0, none⟩)]] w fun e w' => e = .returned (.agg #[.int .i64 n, .int .i64 (bw (fun i => bitI n v (srcI 0 i b n)) n)]) ∧ ∃ x : Aft w, w' = x.val := by
  go_enter Tryd.func35, Tryd.ntmps35
  go_wp2_with fail
  go_loopw [5, 8] (fun v5 v8 wr => ∃ (k : Nat) (y : Aft (w.alloc (.cells #[.int .i64 0, .int .i64 0] 23))), wr = y.val ∧ k ≤ n ∧ v8 = .int .i64 k ∧ v5 = .int .i64 (bw (fun i => bitI n v (srcI 0 i b n)) k)) (fun _ v8 _ => n - (intOf v8).toNat)
  case atStart => exact ⟨0, ⟨_, Below.refl _ _⟩, rfl, by omega, rfl, rfl⟩
  case round =>
    obtain ⟨k, y, rfl, hk, rfl, rfl⟩ := hrel
    by_cases hlt : k < n
    · have hj := Lib.hid (bw_join (fun i => bitI n v (srcI 0 i b n)) k (by omega) (fun i => bitI_bd _ _ _))
      go_wp2_with fail
      refine (Shifted1_0 k n v b A S Bk y.val (by omega) (by omega) h3 h4 (by omega) (by omega) (cell_aft y (lt_alloc la) (cell_alloc la ca)) (cell_aft y (lt_alloc la) (cell_alloc la cv)) (cell_aft y (lt_alloc ls) (cell_alloc ls cs)) (cell_aft y (lt_alloc lb) (cell_alloc lb cb)) (y.lt' (lt_alloc la)) (y.lt' (lt_alloc ls)) (y.lt' (lt_alloc lb))).mono ?_
      skip
      rintro e w' ⟨rfl, z, rfl⟩
      go_wp2
      go_roundw
      case rel => exact ⟨k + 1, ⟨z.val, z.below y.pf y.pf.size⟩, rfl, by omega, by go_num, by rw [← hj.out]⟩
      case measure => simp [intOf]; omega
    · obtain rfl : k = n := by omega
      go_wp2
      refine bodyPost_ret (by simp [results, Tryd.results35, go_sem]; try rfl) rfl ?_
      exact ⟨rfl, Below.aft (by (repeat' (first | (with_reducible exact Below.refl _ _) | (with_reducible refine Below.alloc ?_ ?_ _) | (with_reducible refine Below.drew ?_) | (with_reducible refine Aft.below _ ?_ ?_) | (with_reducible refine Below.setCell_new ?_ ?_ _ _) | (with_reducible exact Nat.le_refl _) | (with_reducible refine Aft.le _ ?_) | (with_reducible refine le_alloc ?_) | (with_reducible refine le_drew ?_) | (with_reducible refine le_setCell ?_) | omega)))⟩


theorem Shifted1_1 (i wd v b : Int) (A S Bk : Nat) (w : World) (h1 : 0 ≤ i) (h2 : i ≤ 15) (h3 : 0 ≤ b) (h4 : b ≤ 16) (h5 : 1 ≤ wd) (h6 : wd ≤ 16)
    (ca : w.cell? ⟨A, 0, none⟩ = some (.int .i64 wd)) (cv : w.cell? ⟨A, 1, none⟩ = some (.int .i64 v)) (cs : w.cell? ⟨S, 0, none⟩ = some (.func (.func 61) #[] #[])) (cb : w.cell? ⟨Bk, 0, none⟩ = some (.int .i64 b))
    (la : A < w.heap.size) (ls : S < w.heap.size) (lb : Bk < w.heap.size) :
    Calls Tryd.prog 36 #[.int .i64 i, .pointer (some ⟨A, 0, none⟩), .pointer (some ⟨S, 0, none⟩), .pointer (some ⟨Bk, 0, none⟩)] w fun e w' => e = .returned (.int .i64 (bitI wd v (srcI 1 i b wd))) ∧ ∃ x : Aft w, w' = x.val := by
  go_enter Tryd.func36, Tryd.ntmps36
  go_wp2_with fail
  refine wp_region_aft (by kernel_rfl) (by kernel_rfl) ?_
  repeat (go_big_quiet_step (first | (go_at_call 61; exact Calls.qs (shift1_c _ _ _ _ (by omega) (by omega) (by omega) (by omega) (by omega) (by omega))) | (go_at_call 37; exact Calls.qa (bitAt_c _ _ _ (by omega) _))))
  refine wpQuiet_nil ?_
  intro x
  go_wp2
  go_ret
  exact ⟨rfl, Below.aft (by (repeat' (first | (with_reducible exact Below.refl _ _) | (with_reducible refine Below.alloc ?_ ?_ _) | (with_reducible refine Below.drew ?_) | (with_reducible refine Aft.below _ ?_ ?_) | (with_reducible refine Below.setCell_new ?_ ?_ _ _) | (with_reducible exact Nat.le_refl _) | (with_reducible refine Aft.le _ ?_) | (with_reducible refine le_alloc ?_) | (with_reducible refine le_drew ?_) | (with_reducible refine le_setCell ?_) | omega)))⟩

set_option maxHeartbeats 400000 in
theorem bitwise_Shifted1 (n : Nat) (v b : Int) (A S Bk : Nat) (w : World) (h1 : 1 ≤ n) (h2 : n ≤ 16) (h3 : 0 ≤ b) (h4 : b ≤ 16)
    (ca : w.cell? ⟨A, 0, none⟩ = some (.int .i64 n)) (cv : w.cell? ⟨A, 1, none⟩ = some (.int .i64 v)) (cs : w.cell? ⟨S, 0, none⟩ = some (.func (.func 61) #[] #[])) (cb : w.cell? ⟨Bk, 0, none⟩ = some (.int .i64 b))
    (la : A < w.heap.size) (ls : S < w.heap.size) (lb : Bk < w.heap.size) :
    Calls Tryd.prog 35 #[.int .i64 n, .func (.func 36) #[] #[.pointer (some ⟨A, 0, none⟩), .pointer (some ⟨S, 0, none⟩), .pointer (some ⟨Bk, 0, none⟩)]] w fun e w' => e = .returned (.agg #[.int .i64 n, .int .i64 (bw (fun i => bitI n v (srcI 1 i b n)) n)]) ∧ ∃ x : Aft w, w' = x.val := by
  go_enter Tryd.func35, Tryd.ntmps35
  go_wp2_with fail
  go_loopw [5, 8] (fun v5 v8 wr => ∃ (k : Nat) (y : Aft (w.alloc (.cells #[.int .i64 0, .int .i64 0] 23))), wr = y.val ∧ k ≤ n ∧ v8 = .int .i64 k ∧ v5 = .int .i64 (bw (fun i => bitI n v (srcI 1 i b n)) k)) (fun _ v8 _ => n - (intOf v8).toNat)
  case atStart => exact ⟨0, ⟨_, Below.refl _ _⟩, rfl, by omega, rfl, rfl⟩
  case round =>
    obtain ⟨k, y, rfl, hk, rfl, rfl⟩ := hrel
    by_cases hlt : k < n
    · have hj := Lib.hid (bw_join (fun i => bitI n v (srcI 1 i b n)) k (by omega) (fun i => bitI_bd _ _ _))
      go_wp2_with fail
      refine (Shifted1_1 k n v b A S Bk y.val (by omega) (by omega) h3 h4 (by omega) (by omega) (cell_aft y (lt_alloc la) (cell_alloc la ca)) (cell_aft y (lt_alloc la) (cell_alloc la cv)) (cell_aft y (lt_alloc ls) (cell_alloc ls cs)) (cell_aft y (lt_alloc lb) (cell_alloc lb cb)) (y.lt' (lt_alloc la)) (y.lt' (lt_alloc ls)) (y.lt' (lt_alloc lb))).mono ?_
      skip
      rintro e w' ⟨rfl, z, rfl⟩
      go_wp2
      go_roundw
      case rel => exact ⟨k + 1, ⟨z.val, z.below y.pf y.pf.size⟩, rfl, by omega, by go_num, by rw [← hj.out]⟩
      case measure => simp [intOf]; omega
    · obtain rfl : k = n := by omega
      go_wp2
      refine bodyPost_ret (by simp [results, Tryd.results35, go_sem]; try rfl) rfl ?_
      exact ⟨rfl, Below.aft (by (repeat' (first | (with_reducible exact Below.refl _ _) | (with_reducible refine Below.alloc ?_ ?_ _) | (with_reducible refine Below.drew ?_) | (with_reducible refine Aft.below _ ?_ ?_) | (with_reducible refine Below.setCell_new ?_ ?_ _ _) | (with_reducible exact Nat.le_refl _) | (with_reducible refine Aft.le _ ?_) | (with_reducible refine le_alloc ?_) | (with_reducible refine le_drew ?_) | (with_reducible refine le_setCell ?_) | omega)))⟩


theorem Shifted1_2 (i wd v b : Int) (A S Bk : Nat) (w : World) (h1 : 0 ≤ i) (h2 : i ≤ 15) (h3 : 0 ≤ b) (h4 : b ≤ 16) (h5 : 1 ≤ wd) (h6 : wd ≤ 16)
    (ca : w.cell? ⟨A, 0, none⟩ = some (.int .i64 wd)) (cv : w.cell? ⟨A, 1, none⟩ = some (.int .i64 v)) (cs : w.cell? ⟨S, 0, none⟩ = some (.func (.func 62) #[] #[])) (cb : w.cell? ⟨Bk, 0, none⟩ = some (.int .i64 b))
    (la : A < w.heap.size) (ls : S < w.heap.size) (lb : Bk < w.heap.size) :
    Calls Tryd.prog 36 #[.int .i64 i, .pointer (some ⟨A, 0, none⟩), .pointer (some ⟨S, 0, none⟩), .pointer (some ⟨Bk, 0, none⟩)] w fun e w' => e = .returned (.int .i64 (bitI wd v (srcI 2 i b wd))) ∧ ∃ x : Aft w, w' = x.val := by
  go_enter Tryd.func36, Tryd.ntmps36
  go_wp2_with fail
  refine wp_region_aft (by kernel_rfl) (by kernel_rfl) ?_
  repeat (go_big_quiet_step (first | (go_at_call 62; exact Calls.qs (shift2_c _ _ _ _ (by omega) (by omega) (by omega) (by omega) (by omega) (by omega))) | (go_at_call 37; exact Calls.qa (bitAt_c _ _ _ (by omega) _))))
  refine wpQuiet_nil ?_
  intro x
  go_wp2
  go_ret
  exact ⟨rfl, Below.aft (by (repeat' (first | (with_reducible exact Below.refl _ _) | (with_reducible refine Below.alloc ?_ ?_ _) | (with_reducible refine Below.drew ?_) | (with_reducible refine Aft.below _ ?_ ?_) | (with_reducible refine Below.setCell_new ?_ ?_ _ _) | (with_reducible exact Nat.le_refl _) | (with_reducible refine Aft.le _ ?_) | (with_reducible refine le_alloc ?_) | (with_reducible refine le_drew ?_) | (with_reducible refine le_setCell ?_) | omega)))⟩

set_option maxHeartbeats 400000 in
theorem bitwise_Shifted2 (n : Nat) (v b : Int) (A S Bk : Nat) (w : World) (h1 : 1 ≤ n) (h2 : n ≤ 16) (h3 : 0 ≤ b) (h4 : b ≤ 16)
    (ca : w.cell? ⟨A, 0, none⟩ = some (.int .i64 n)) (cv : w.cell? ⟨A, 1, none⟩ = some (.int .i64 v)) (cs : w.cell? ⟨S, 0, none⟩ = some (.func (.func 62) #[] #[])) (cb : w.cell? ⟨Bk, 0, none⟩ = some (.int .i64 b))
    (la : A < w.heap.size) (ls : S < w.heap.size) (lb : Bk < w.heap.size) :
    Calls Tryd.prog 35 #[.int .i64 n, .func (.func 36) #[] #[.pointer (some ⟨A, 0, none⟩), .pointer (some ⟨S, 0, none⟩), .pointer (some ⟨Bk, 0, none⟩)]] w fun e w' => e = .returned (.agg #[.int .i64 n, .int .i64 (bw (fun i => bitI n v (srcI 2 i b n)) n)]) ∧ ∃ x : Aft w, w' = x.val := by
  go_enter Tryd.func35, Tryd.ntmps35
  go_wp2_with fail
  go_loopw [5, 8] (fun v5 v8 wr => ∃ (k : Nat) (y : Aft (w.alloc (.cells #[.int .i64 0, .int .i64 0] 23))), wr = y.val ∧ k ≤ n ∧ v8 = .int .i64 k ∧ v5 = .int .i64 (bw (fun i => bitI n v (srcI 2 i b n)) k)) (fun _ v8 _ => n - (intOf v8).toNat)
  case atStart => exact ⟨0, ⟨_, Below.refl _ _⟩, rfl, by omega, rfl, rfl⟩
  case round =>
    obtain ⟨k, y, rfl, hk, rfl, rfl⟩ := hrel
    by_cases hlt : k < n
    · have hj := Lib.hid (bw_join (fun i => bitI n v (srcI 2 i b n)) k (by omega) (fun i => bitI_bd _ _ _))
      go_wp2_with fail
      refine (Shifted1_2 k n v b A S Bk y.val (by omega) (by omega) h3 h4 (by omega) (by omega) (cell_aft y (lt_alloc la) (cell_alloc la ca)) (cell_aft y (lt_alloc la) (cell_alloc la cv)) (cell_aft y (lt_alloc ls) (cell_alloc ls cs)) (cell_aft y (lt_alloc lb) (cell_alloc lb cb)) (y.lt' (lt_alloc la)) (y.lt' (lt_alloc ls)) (y.lt' (lt_alloc lb))).mono ?_
      skip
      rintro e w' ⟨rfl, z, rfl⟩
      go_wp2
      go_roundw
      case rel => exact ⟨k + 1, ⟨z.val, z.below y.pf y.pf.size⟩, rfl, by omega, by go_num, by rw [← hj.out]⟩
      case measure => simp [intOf]; omega
    · obtain rfl : k = n := by omega
      go_wp2
      refine bodyPost_ret (by simp [results, Tryd.results35, go_sem]; try rfl) rfl ?_
      exact ⟨rfl, Below.aft (by (repeat' (first | (with_reducible exact Below.refl _ _) | (with_reducible refine Below.alloc ?_ ?_ _) | (with_reducible refine Below.drew ?_) | (with_reducible refine Aft.below _ ?_ ?_) | (with_reducible refine Below.setCell_new ?_ ?_ _ _) | (with_reducible exact Nat.le_refl _) | (with_reducible refine Aft.le _ ?_) | (with_reducible refine le_alloc ?_) | (with_reducible refine le_drew ?_) | (with_reducible refine le_setCell ?_) | omega)))⟩


theorem Shifted1_3 (i wd v b : Int) (A S Bk : Nat) (w : World) (h1 : 0 ≤ i) (h2 : i ≤ 15) (h3 : 0 ≤ b) (h4 : b ≤ 16) (h5 : 1 ≤ wd) (h6 : wd ≤ 16)
    (ca : w.cell? ⟨A, 0, none⟩ = some (.int .i64 wd)) (cv : w.cell? ⟨A, 1, none⟩ = some (.int .i64 v)) (cs : w.cell? ⟨S, 0, none⟩ = some (.func (.func 63) #[] #[])) (cb : w.cell? ⟨Bk, 0, none⟩ = some (.int .i64 b))
    (la : A < w.heap.size) (ls : S < w.heap.size) (lb : Bk < w.heap.size) :
    Calls Tryd.prog 36 #[.int .i64 i, .pointer (some ⟨A, 0, none⟩), .pointer (some ⟨S, 0, none⟩), .pointer (some ⟨Bk, 0, none⟩)] w fun e w' => e = .returned (.int .i64 (bitI wd v (srcI 3 i b wd))) ∧ ∃ x : Aft w, w' = x.val := by
  go_enter Tryd.func36, Tryd.ntmps36
  go_wp2_with fail
  refine wp_region_aft (by kernel_rfl) (by kernel_rfl) ?_
  repeat (go_big_quiet_step (first | (go_at_call 63; exact Calls.qs (shift3_c _ _ _ _ (by omega) (by omega) (by omega) (by omega) (by omega) (by omega))) | (go_at_call 37; exact Calls.qa (bitAt_c _ _ _ (by omega) _))))
  refine wpQuiet_nil ?_
  intro x
  go_wp2
  go_ret
  exact ⟨rfl, Below.aft (by (repeat' (first | (with_reducible exact Below.refl _ _) | (with_reducible refine Below.alloc ?_ ?_ _) | (with_reducible refine Below.drew ?_) | (with_reducible refine Aft.below _ ?_ ?_) | (with_reducible refine Below.setCell_new ?_ ?_ _ _) | (with_reducible exact Nat.le_refl _) | (with_reducible refine Aft.le _ ?_) | (with_reducible refine le_alloc ?_) | (with_reducible refine le_drew ?_) | (with_reducible refine le_setCell ?_) | omega)))⟩

set_option maxHeartbeats 400000 in
theorem bitwise_Shifted3 (n : Nat) (v b : Int) (A S Bk : Nat) (w : World) (h1 : 1 ≤ n) (h2 : n ≤ 16) (h3 : 0 ≤ b) (h4 : b ≤ 16)
    (ca : w.cell? ⟨A, 0, none⟩ = some (.int .i64 n)) (cv : w.cell? ⟨A, 1, none⟩ = some (.int .i64 v)) (cs : w.cell? ⟨S, 0, none⟩ = some (.func (.func 63) #[] #[])) (cb : w.cell? ⟨Bk, 0, none⟩ = some (.int .i64 b))
    (la : A < w.heap.size) (ls : S < w.heap.size) (lb : Bk < w.heap.size) :
    Calls Tryd.prog 35 #[.int .i64 n, .func (.func 36) #[] #[.pointer (some ⟨A, 0, none⟩), .pointer (some ⟨S, 0, none⟩), .pointer (some ⟨Bk, 0, none⟩)]] w fun e w' => e = .returned (.agg #[.int .i64 n, .int .i64 (bw (fun i => bitI n v (srcI 3 i b n)) n)]) ∧ ∃ x : Aft w, w' = x.val := by
  go_enter Tryd.func35, Tryd.ntmps35
  go_wp2_with fail
  go_loopw [5, 8] (fun v5 v8 wr => ∃ (k : Nat) (y : Aft (w.alloc (.cells #[.int .i64 0, .int .i64 0] 23))), wr = y.val ∧ k ≤ n ∧ v8 = .int .i64 k ∧ v5 = .int .i64 (bw (fun i => bitI n v (srcI 3 i b n)) k)) (fun _ v8 _ => n - (intOf v8).toNat)
  case atStart => exact ⟨0, ⟨_, Below.refl _ _⟩, rfl, by omega, rfl, rfl⟩
  case round =>
    obtain ⟨k, y, rfl, hk, rfl, rfl⟩ := hrel
    by_cases hlt : k < n
    · have hj := Lib.hid (bw_join (fun i => bitI n v (srcI 3 i b n)) k (by omega) (fun i => bitI_bd _ _ _))
      go_wp2_with fail
      refine (Shifted1_3 k n v b A S Bk y.val (by omega) (by omega) h3 h4 (by omega) (by omega) (cell_aft y (lt_alloc la) (cell_alloc la ca)) (cell_aft y (lt_alloc la) (cell_alloc la cv)) (cell_aft y (lt_alloc ls) (cell_alloc ls cs)) (cell_aft y (lt_alloc lb) (cell_alloc lb cb)) (y.lt' (lt_alloc la)) (y.lt' (lt_alloc ls)) (y.lt' (lt_alloc lb))).mono ?_
      skip
      rintro e w' ⟨rfl, z, rfl⟩
      go_wp2
      go_roundw
      case rel => exact ⟨k + 1, ⟨z.val, z.below y.pf y.pf.size⟩, rfl, by omega, by go_num, by rw [← hj.out]⟩
      case measure => simp [intOf]; omega
    · obtain rfl : k = n := by omega
      go_wp2
      refine bodyPost_ret (by simp [results, Tryd.results35, go_sem]; try rfl) rfl ?_
      exact ⟨rfl, Below.aft (by (repeat' (first | (with_reducible exact Below.refl _ _) | (with_reducible refine Below.alloc ?_ ?_ _) | (with_reducible refine Below.drew ?_) | (with_reducible refine Aft.below _ ?_ ?_) | (with_reducible refine Below.setCell_new ?_ ?_ _ _) | (with_reducible exact Nat.le_refl _) | (with_reducible refine Aft.le _ ?_) | (with_reducible refine le_alloc ?_) | (with_reducible refine le_drew ?_) | (with_reducible refine le_setCell ?_) | omega)))⟩


theorem Shifted1_4 (i wd v b : Int) (A S Bk : Nat) (w : World) (h1 : 0 ≤ i) (h2 : i ≤ 15) (h3 : 0 ≤ b) (h4 : b ≤ 16) (h5 : 1 ≤ wd) (h6 : wd ≤ 16)
    (ca : w.cell? ⟨A, 0, none⟩ = some (.int .i64 wd)) (cv : w.cell? ⟨A, 1, none⟩ = some (.int .i64 v)) (cs : w.cell? ⟨S, 0, none⟩ = some (.func (.func 64) #[] #[])) (cb : w.cell? ⟨Bk, 0, none⟩ = some (.int .i64 b))
    (la : A < w.heap.size) (ls : S < w.heap.size) (lb : Bk < w.heap.size) :
    Calls Tryd.prog 36 #[.int .i64 i, .pointer (some ⟨A, 0, none⟩), .pointer (some ⟨S, 0, none⟩), .pointer (some ⟨Bk, 0, none⟩)] w fun e w' => e = .returned (.int .i64 (bitI wd v (srcI 4 i b wd))) ∧ ∃ x : Aft w, w' = x.val := by
  go_enter Tryd.func36, Tryd.ntmps36
  go_wp2_with fail
  refine wp_region_aft (by kernel_rfl) (by kernel_rfl) ?_
  repeat (go_big_quiet_step (first | (go_at_call 64; exact Calls.qs (shift4_c _ _ _ _ (by omega) (by omega) (by omega) (by omega) (by omega) (by omega))) | (go_at_call 37; exact Calls.qa (bitAt_c _ _ _ (by omega) _))))
  refine wpQuiet_nil ?_
  intro x
  go_wp2
  go_ret
  exact ⟨rfl, Below.aft (by (repeat' (first | (with_reducible exact Below.refl _ _) | (with_reducible refine Below.alloc ?_ ?_ _) | (with_reducible refine Below.drew ?_) | (with_reducible refine Aft.below _ ?_ ?_) | (with_reducible refine Below.setCell_new ?_ ?_ _ _) | (with_reducible exact Nat.le_refl _) | (with_reducible refine Aft.le _ ?_) | (with_reducible refine le_alloc ?_) | (with_reducible refine le_drew ?_) | (with_reducible refine le_setCell ?_) | omega)))⟩

set_option maxHeartbeats 400000 in
theorem bitwise_Shifted4 (n : Nat) (v b : Int) (A S Bk : Nat) (w : World) (h1 : 1 ≤ n) (h2 : n ≤ 16) (h3 : 0 ≤ b) (h4 : b ≤ 16)
    (ca : w.cell? ⟨A, 0, none⟩ = some (.int .i64 n)) (cv : w.cell? ⟨A, 1, none⟩ = some (.int .i64 v)) (cs : w.cell? ⟨S, 0, none⟩ = some (.func (.func 64) #[] #[])) (cb : w.cell? ⟨Bk, 0, none⟩ = some (.int .i64 b))
    (la : A < w.heap.size) (ls : S < w.heap.size) (lb : Bk < w.heap.size) :
    Calls Tryd.prog 35 #[.int .i64 n, .func (.func 36) #[] #[.pointer (some ⟨A, 0, none⟩), .pointer (some ⟨S, 0, none⟩), .pointer (some ⟨Bk, 0, none⟩)]] w fun e w' => e = .returned (.agg #[.int .i64 n, .int .i64 (bw (fun i => bitI n v (srcI 4 i b n)) n)]) ∧ ∃ x : Aft w, w' = x.val := by
  go_enter Tryd.func35, Tryd.ntmps35
  go_wp2_with fail
  go_loopw [5, 8] (fun v5 v8 wr => ∃ (k : Nat) (y : Aft (w.alloc (.cells #[.int .i64 0, .int .i64 0] 23))), wr = y.val ∧ k ≤ n ∧ v8 = .int .i64 k ∧ v5 = .int .i64 (bw (fun i => bitI n v (srcI 4 i b n)) k)) (fun _ v8 _ => n - (intOf v8).toNat)
  case atStart => exact ⟨0, ⟨_, Below.refl _ _⟩, rfl, by omega, rfl, rfl⟩
  case round =>
    obtain ⟨k, y, rfl, hk, rfl, rfl⟩ := hrel
    by_cases hlt : k < n
    · have hj := Lib.hid (bw_join (fun i => bitI n v (srcI 4 i b n)) k (by omega) (fun i => bitI_bd _ _ _))
      go_wp2_with fail
      refine (Shifted1_4 k n v b A S Bk y.val (by omega) (by omega) h3 h4 (by omega) (by omega) (cell_aft y (lt_alloc la) (cell_alloc la ca)) (cell_aft y (lt_alloc la) (cell_alloc la cv)) (cell_aft y (lt_alloc ls) (cell_alloc ls cs)) (cell_aft y (lt_alloc lb) (cell_alloc lb cb)) (y.lt' (lt_alloc la)) (y.lt' (lt_alloc ls)) (y.lt' (lt_alloc lb))).mono ?_
      skip
      rintro e w' ⟨rfl, z, rfl⟩
      go_wp2
      go_roundw
      case rel => exact ⟨k + 1, ⟨z.val, z.below y.pf y.pf.size⟩, rfl, by omega, by go_num, by rw [← hj.out]⟩
      case measure => simp [intOf]; omega
    · obtain rfl : k = n := by omega
      go_wp2
      refine bodyPost_ret (by simp [results, Tryd.results35, go_sem]; try rfl) rfl ?_
      exact ⟨rfl, Below.aft (by (repeat' (first | (with_reducible exact Below.refl _ _) | (with_reducible refine Below.alloc ?_ ?_ _) | (with_reducible refine Below.drew ?_) | (with_reducible refine Aft.below _ ?_ ?_) | (with_reducible refine Below.setCell_new ?_ ?_ _ _) | (with_reducible exact Nat.le_refl _) | (with_reducible refine Aft.le _ ?_) | (with_reducible refine le_alloc ?_) | (with_reducible refine le_drew ?_) | (with_reducible refine le_setCell ?_) | omega)))⟩

end Go.Proofs.YtlplphigjejahaaDoor
