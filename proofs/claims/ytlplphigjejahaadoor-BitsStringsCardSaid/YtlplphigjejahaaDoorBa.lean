/-
  Contracts of the functions of chapter 1 (first part: values, errors, flags, sums): what each returns, for every argument that reaches it; memory that was there is untouched.
-/
import Derived.Test.YtlplphigjejahaaDoorProg
import Derived.Test.YtlplphigjejahaaDoorKit
import Derived.Test.YtlplphigjejahaaDoorMath
set_option linter.unusedSimpArgs false
set_option linter.unusedVariables false
namespace Go.Proofs.YtlplphigjejahaaDoor
open Go.RowKit Go.BigFrame

def eIf (b : Bool) (e : Int) : Int := if b then e else 0
def fl (b : Bool) : Int := if b then 1 else 0
def isW (n : Int) : Bool := decide (1 ≤ n) && decide (n ≤ 16)
def firstE : List Int → Int
  | [] => 0
  | e :: r => if e = 0 then firstE r else e
def bErr (wd v : Int) : Int := if isW wd then eIf (decide (v < 0) || decide (pw wd - 1 < v)) 2 else 25
def sumErr (aw av bw bv c : Int) : Int := firstE [bErr aw av, bErr bw bv, eIf (aw != bw) 25, eIf (c != 0 && c != 1) 2]
def bitI (wd v i : Int) : Int := if decide (i < 0) || decide (wd ≤ i) then 0 else v / 2 ^ i.toNat % 2
def sg (wd v : Int) : Int := v - bitI wd v (wd - 1) * pw wd
def md (n m : Int) : Int := n % m

theorem isW_true {n : Int} (h1 : 1 ≤ n) (h2 : n ≤ 16) : isW n = true := by simp [isW, h1, h2]
theorem isW_iff {n : Int} : isW n = true ↔ 1 ≤ n ∧ n ≤ 16 := by simp [isW]
theorem bErr_bad {wd : Int} (v : Int) (h : ¬ (isW wd = true)) : bErr wd v = 25 := by simp [bErr, h]
theorem bErr_ok {wd v : Int} : bErr wd v = 0 ↔ 1 ≤ wd ∧ wd ≤ 16 ∧ 0 ≤ v ∧ v < pw wd := by
  by_cases h : isW wd = true
  · have h' := isW_iff.1 h
    simp only [bErr, h, eIf, if_true]
    by_cases h3 : v < 0
    · simp [h3]; omega
    · by_cases h4 : pw wd - 1 < v
      · simp [h3, h4]; omega
      · simp [h3, h4]; omega
  · have h' : ¬ (1 ≤ wd ∧ wd ≤ 16) := fun g => h (isW_iff.2 g)
    simp [bErr, h]; omega
theorem bitI_bd (wd v i : Int) : 0 ≤ bitI wd v i ∧ bitI wd v i ≤ 1 := by unfold bitI; split <;> omega
theorem md_bd (n : Int) {m : Int} (h : 0 < m) : 0 ≤ md n m ∧ md n m < m := ⟨Int.emod_nonneg _ (by omega), Int.emod_lt_of_pos _ h⟩
theorem bitI_top {wd v : Int} (h1 : 1 ≤ wd) (h2 : 0 ≤ v) (h3 : v < pw wd) : bitI wd v (wd - 1) = fl (decide (pw (wd - 1) ≤ v)) := by
  have hp := pw_half h1
  have hq := pw_pos (wd - 1)
  unfold bitI fl
  rw [if_neg (by simp; omega)]
  show v / pw (wd - 1) % 2 = _
  generalize pw (wd - 1) = q at *
  by_cases h : q ≤ v
  · rw [if_pos (by simpa using h)]
    have : v / q = 1 := by
      have a := Int.ediv_le_ediv hq (show q ≤ v from h); rw [Int.ediv_self (by omega)] at a
      have b := Int.ediv_lt_of_lt_mul hq (show v < 2 * q by omega); omega
    rw [this]; rfl
  · rw [if_neg (by simpa using h), Int.ediv_eq_zero_of_lt h2 (by omega)]; rfl
theorem sg_eq {wd v : Int} (h1 : 1 ≤ wd) (h2 : 0 ≤ v) (h3 : v < pw wd) : sg wd v = if pw (wd - 1) ≤ v then v - pw wd else v := by
  unfold sg; rw [bitI_top h1 h2 h3]; unfold fl
  by_cases h : pw (wd - 1) ≤ v <;> simp [h]
theorem sg_bd {wd v : Int} (h1 : 1 ≤ wd) (h4 : wd ≤ 16) (h2 : 0 ≤ v) (h3 : v < pw wd) : -65536 ≤ sg wd v ∧ sg wd v ≤ 65536 := by
  have := (pw_bd (n := wd) (by omega) h4)
  rw [sg_eq h1 h2 h3]; split <;> omega

theorem isWidth_c (n : Int) (w : World) :
    Calls Tryd.prog 40 #[.int .i64 n] w fun e w' => e = .returned (.bool (isW n)) ∧ w = w' := by
  unfold isW
  by_cases h1 : 1 ≤ n
  all_goals
    go_enter Tryd.func40, Tryd.ntmps40
    go_wp2
    go_ret
    exact ⟨by simp [Int.not_le, *]; try omega, rfl⟩

theorem errorIf_c (b : Bool) (e0 : Int) (w : World) :
    Calls Tryd.prog 19 #[.bool b, .int .i64 e0] w fun e w' => e = .returned (.int .i64 (eIf b e0)) ∧ w = w' := by
  unfold eIf
  go_enter Tryd.func19, Tryd.ntmps19
  go_wp2
  all_goals (go_ret; exact ⟨by simp [*], rfl⟩)

theorem highest_c (n : Int) (h1 : 0 ≤ n) (h2 : n ≤ 16) (w : World) :
    Calls Tryd.prog 41 #[.int .i64 n] w fun e w' => e = .returned (.int .i64 (pw n - 1)) ∧ w = w' := by
  have hp := pw_bd h1 h2
  unfold pw at *
  go_enter Tryd.func41, Tryd.ntmps41
  go_wp2
  go_ret
  exact ⟨rfl, rfl⟩

theorem flag_c (b : Bool) (w : World) :
    Calls Tryd.prog 59 #[.bool b] w fun e w' => e = .returned (.int .i64 (fl b)) ∧ w = w' := by
  unfold fl
  go_enter Tryd.func59, Tryd.ntmps59
  go_wp2
  all_goals (go_ret; exact ⟨by simp [*], rfl⟩)

theorem CheckBits_c (wd v : Int) (w : World) :
    Calls Tryd.prog 18 #[.agg #[.int .i64 wd, .int .i64 v]] w fun e w' => e = .returned (.int .i64 (bErr wd v)) ∧ ∃ x : Aft w, w' = x.val := by
  by_cases h : isW wd = true
  · obtain ⟨h1, h2⟩ := isW_iff.1 h
    by_cases h3 : v < 0
    · go_enter Tryd.func18, Tryd.ntmps18
      go_wp2_with (first | (go_at_call 40; refine (isWidth_c _ _).mono ?_; rintro e w' ⟨rfl, rfl⟩))
      refine wp_region_aft (by kernel_rfl) (by kernel_rfl) ?_
      repeat (go_big_quiet_step (first | (go_at_call 19; exact Calls.qs (errorIf_c _ _ _))))
      refine wpQuiet_nil ?_
      intro x
      go_wp2
      go_ret
      exact ⟨by simp [bErr, h, h3], Below.aft (by (repeat' (first | (with_reducible exact Below.refl _ _) | (with_reducible refine Below.alloc ?_ ?_ _) | (with_reducible refine Below.drew ?_) | (with_reducible refine Aft.below _ ?_ ?_) | (with_reducible refine Below.setCell_new ?_ ?_ _ _) | (with_reducible exact Nat.le_refl _) | (with_reducible refine Aft.le _ ?_) | (with_reducible refine le_alloc ?_) | (with_reducible refine le_drew ?_) | (with_reducible refine le_setCell ?_) | omega)))⟩
    · have h3' : decide (v < 0) = false := by simpa using h3
      go_enter Tryd.func18, Tryd.ntmps18
      go_wp2_with (first | (go_at_call 40; refine (isWidth_c _ _).mono ?_; rintro e w' ⟨rfl, rfl⟩))
      refine wp_region_aft (by kernel_rfl) (by kernel_rfl) ?_
      repeat (go_big_quiet_step (first | (go_at_call 19; exact Calls.qs (errorIf_c _ _ _)) | (go_at_call 41; exact Calls.qs (highest_c _ (by omega) (by omega) _))))
      refine wpQuiet_nil ?_
      intro x
      go_wp2
      go_ret
      exact ⟨by simp [bErr, h, h3'], Below.aft (by (repeat' (first | (with_reducible exact Below.refl _ _) | (with_reducible refine Below.alloc ?_ ?_ _) | (with_reducible refine Below.drew ?_) | (with_reducible refine Aft.below _ ?_ ?_) | (with_reducible refine Below.setCell_new ?_ ?_ _ _) | (with_reducible exact Nat.le_refl _) | (with_reducible refine Aft.le _ ?_) | (with_reducible refine le_alloc ?_) | (with_reducible refine le_drew ?_) | (with_reducible refine le_setCell ?_) | omega)))⟩
  · have h' : isW wd = false := by simpa using h
    go_enter Tryd.func18, Tryd.ntmps18
    go_wp2_with (first | (go_at_call 40; refine (isWidth_c _ _).mono ?_; rintro e w' ⟨rfl, rfl⟩))
    go_ret
    exact ⟨by simp [bErr_bad v h], Below.aft (by (repeat' (first | (with_reducible exact Below.refl _ _) | (with_reducible refine Below.alloc ?_ ?_ _) | (with_reducible refine Below.drew ?_) | (with_reducible refine Aft.below _ ?_ ?_) | (with_reducible refine Below.setCell_new ?_ ?_ _ _) | (with_reducible exact Nat.le_refl _) | (with_reducible refine Aft.le _ ?_) | (with_reducible refine le_alloc ?_) | (with_reducible refine le_drew ?_) | (with_reducible refine le_setCell ?_) | omega)))⟩


theorem firstE_drop (es : List Int) (k : Nat) (h : k < es.length) (h0 : es.getD k 0 = 0) : firstE (es.drop k) = firstE (es.drop (k + 1)) := by
  rw [List.drop_eq_getElem_cons h, firstE, if_pos (by simpa [h] using h0)]
theorem firstE_at (es : List Int) (k : Nat) (h : k < es.length) (h0 : es.getD k 0 ≠ 0) : firstE (es.drop k) = es.getD k 0 := by
  rw [List.drop_eq_getElem_cons h, firstE, if_neg (by simpa [h] using h0)]; simp [h]

theorem firstError_c (b : Nat) (es : List Int) (hl : es.length ≤ 100) (w : World) (hc : ∀ i, i < es.length → w.cell? ⟨b, i, none⟩ = some (.int .i64 (es.getD i 0))) :
    Calls Tryd.prog 17 #[.slice (some ⟨b, 0, none⟩) es.length es.length] w fun e w' => e = .returned (.int .i64 (firstE es)) ∧ w = w' := by
  go_enter Tryd.func17, Tryd.ntmps17
  go_wp2
  go_loop [7] (fun i => ∃ k : Nat, k ≤ es.length ∧ i = .int .i64 k ∧ firstE es = firstE (es.drop k)) (fun i => es.length - (intOf i).toNat)
  case atStart => exact ⟨0, Nat.zero_le _, rfl, rfl⟩
  case round =>
    obtain ⟨k, hk, rfl, hf⟩ := hrel
    have Hf := Lib.hid hf
    clear hf
    by_cases hlt : k < es.length
    · have hk1 := hc k hlt
      clear hc
      by_cases h0 : es.getD k 0 = 0
      · have hn := firstE_drop es k hlt h0
        have Hn := Lib.hid hn
        rw [h0] at hk1
        clear hn h0
        go_wp2
        go_round
        case rel => exact ⟨k + 1, by omega, by go_num, Hf.out.trans Hn.out⟩
        case measure => simp [intOf]; omega
      · have hn := firstE_at es k hlt h0
        have Hn := Lib.hid hn
        clear hn
        generalize es.getD k 0 = x at *
        have h0' : (x == 0) = false := by simpa using h0
        go_wp2
        go_ret
        refine ⟨?_, rfl⟩
        rw [Hf.out, Hn.out]; rfl
    · go_wp2
      go_ret
      refine ⟨?_, rfl⟩
      rw [Hf.out, List.drop_of_length_le (by omega)]; rfl

theorem firstError4 (b : Nat) (e0 e1 e2 e3 : Int) (T : TypeId) (fr : Nat × Nat) (w : World) (hc : w.heap[b]? = some (.cells #[.int .i64 e0, .int .i64 e1, .int .i64 e2, .int .i64 e3] T fr)) :
    Calls Tryd.prog 17 #[.slice (some ⟨b, 0, none⟩) 4 4] w fun e w' => e = .returned (.int .i64 (firstE [e0, e1, e2, e3])) ∧ w = w' := by
  refine firstError_c b [e0, e1, e2, e3] (by simp) w fun i hi => ?_
  have hi' : i < 4 := hi
  simp only [World.cell?, hc]
  rcases i with _ | _ | _ | _ | i <;> first | rfl | omega
theorem firstError3 (b : Nat) (e0 e1 e2 : Int) (T : TypeId) (fr : Nat × Nat) (w : World) (hc : w.heap[b]? = some (.cells #[.int .i64 e0, .int .i64 e1, .int .i64 e2] T fr)) :
    Calls Tryd.prog 17 #[.slice (some ⟨b, 0, none⟩) 3 3] w fun e w' => e = .returned (.int .i64 (firstE [e0, e1, e2])) ∧ w = w' := by
  refine firstError_c b [e0, e1, e2] (by simp) w fun i hi => ?_
  have hi' : i < 3 := hi
  simp only [World.cell?, hc]
  rcases i with _ | _ | _ | i <;> first | rfl | omega
theorem firstError2 (b : Nat) (e0 e1 : Int) (T : TypeId) (fr : Nat × Nat) (w : World) (hc : w.heap[b]? = some (.cells #[.int .i64 e0, .int .i64 e1] T fr)) :
    Calls Tryd.prog 17 #[.slice (some ⟨b, 0, none⟩) 2 2] w fun e w' => e = .returned (.int .i64 (firstE [e0, e1])) ∧ w = w' := by
  refine firstError_c b [e0, e1] (by simp) w fun i hi => ?_
  have hi' : i < 2 := hi
  simp only [World.cell?, hc]
  rcases i with _ | _ | i <;> first | rfl | omega

set_option maxHeartbeats 400000 in
theorem errorOfSum_c (aw av bw bv c : Int) (w : World) :
    Calls Tryd.prog 31 #[.agg #[.int .i64 aw, .int .i64 av], .agg #[.int .i64 bw, .int .i64 bv], .int .i64 c] w fun e w' => e = .returned (.int .i64 (sumErr aw av bw bv c)) ∧ ∃ x : Aft w, w' = x.val := by
  by_cases h : (c != 0) = false
  · go_enter Tryd.func31, Tryd.ntmps31
    go_wp2_with fail
    refine wp_region_aft_tail 17 (by kernel_rfl) (by kernel_rfl) ?_
    simp only [List.take_succ_cons, List.take_zero, List.drop_succ_cons, List.drop_zero]
    repeat (go_big_quiet_step (first | (go_at_call 19; exact Calls.qs (errorIf_c _ _ _)) | (go_at_call 18; exact Calls.qa (CheckBits_c _ _ _))))
    refine wpQuiet_nil ?_
    intro x
    go_wp2_with (first | (go_at_call 17; refine (firstError4 _ _ _ _ _ _ _ _ (by exact heap_alloc_at (by simp [go_sem]))).mono ?_; rintro e w' ⟨rfl, rfl⟩))
    go_ret
    exact ⟨by simp [sumErr, h], Below.aft (by (repeat' (first | (with_reducible exact Below.refl _ _) | (with_reducible refine Below.alloc ?_ ?_ _) | (with_reducible refine Below.drew ?_) | (with_reducible refine Aft.below _ ?_ ?_) | (with_reducible refine Below.setCell_new ?_ ?_ _ _) | (with_reducible exact Nat.le_refl _) | (with_reducible refine Aft.le _ ?_) | (with_reducible refine le_alloc ?_) | (with_reducible refine le_drew ?_) | (with_reducible refine le_setCell ?_) | omega)))⟩
  · have h' : (c != 0) = true := by simpa using h
    go_enter Tryd.func31, Tryd.ntmps31
    go_wp2_with fail
    refine wp_region_aft_tail 17 (by kernel_rfl) (by kernel_rfl) ?_
    simp only [List.take_succ_cons, List.take_zero, List.drop_succ_cons, List.drop_zero]
    repeat (go_big_quiet_step (first | (go_at_call 19; exact Calls.qs (errorIf_c _ _ _)) | (go_at_call 18; exact Calls.qa (CheckBits_c _ _ _))))
    refine wpQuiet_nil ?_
    intro x
    go_wp2_with (first | (go_at_call 17; refine (firstError4 _ _ _ _ _ _ _ _ (by exact heap_alloc_at (by simp [go_sem]))).mono ?_; rintro e w' ⟨rfl, rfl⟩))
    go_ret
    exact ⟨by simp [sumErr, h'], Below.aft (by (repeat' (first | (with_reducible exact Below.refl _ _) | (with_reducible refine Below.alloc ?_ ?_ _) | (with_reducible refine Below.drew ?_) | (with_reducible refine Aft.below _ ?_ ?_) | (with_reducible refine Below.setCell_new ?_ ?_ _ _) | (with_reducible exact Nat.le_refl _) | (with_reducible refine Aft.le _ ?_) | (with_reducible refine le_alloc ?_) | (with_reducible refine le_drew ?_) | (with_reducible refine le_setCell ?_) | omega)))⟩

theorem bitAt_c (wd v i : Int) (h2 : wd ≤ 16) (w : World) :
    Calls Tryd.prog 37 #[.agg #[.int .i64 wd, .int .i64 v], .int .i64 i] w fun e w' => e = .returned (.int .i64 (bitI wd v i)) ∧ ∃ x : Aft w, w' = x.val := by
  by_cases hi : i < 0
  · go_enter Tryd.func37, Tryd.ntmps37
    go_wp2
    go_ret
    exact ⟨by simp [bitI, hi], Below.aft (by (repeat' (first | (with_reducible exact Below.refl _ _) | (with_reducible refine Below.alloc ?_ ?_ _) | (with_reducible refine Below.drew ?_) | (with_reducible refine Aft.below _ ?_ ?_) | (with_reducible refine Below.setCell_new ?_ ?_ _ _) | (with_reducible exact Nat.le_refl _) | (with_reducible refine Aft.le _ ?_) | (with_reducible refine le_alloc ?_) | (with_reducible refine le_drew ?_) | (with_reducible refine le_setCell ?_) | omega)))⟩
  have hi' : decide (i < 0) = false := by simpa using hi
  by_cases hj : wd ≤ i
  · go_enter Tryd.func37, Tryd.ntmps37
    go_wp2
    go_ret
    exact ⟨by simp [bitI, hj], Below.aft (by (repeat' (first | (with_reducible exact Below.refl _ _) | (with_reducible refine Below.alloc ?_ ?_ _) | (with_reducible refine Below.drew ?_) | (with_reducible refine Aft.below _ ?_ ?_) | (with_reducible refine Below.setCell_new ?_ ?_ _ _) | (with_reducible exact Nat.le_refl _) | (with_reducible refine Aft.le _ ?_) | (with_reducible refine le_alloc ?_) | (with_reducible refine le_drew ?_) | (with_reducible refine le_setCell ?_) | omega)))⟩
  · have hj' : decide (wd ≤ i) = false := by simpa using hj
    have ha := and_one (v / 2 ^ i.toNat)
    have Ha := Lib.hid ha
    clear ha
    go_enter Tryd.func37, Tryd.ntmps37
    go_wp2
    go_ret
    exact ⟨by simp [bitI, hi', hj', Ha.out], Below.aft (by (repeat' (first | (with_reducible exact Below.refl _ _) | (with_reducible refine Below.alloc ?_ ?_ _) | (with_reducible refine Below.drew ?_) | (with_reducible refine Aft.below _ ?_ ?_) | (with_reducible refine Below.setCell_new ?_ ?_ _ _) | (with_reducible exact Nat.le_refl _) | (with_reducible refine Aft.le _ ?_) | (with_reducible refine le_alloc ?_) | (with_reducible refine le_drew ?_) | (with_reducible refine le_setCell ?_) | omega)))⟩


theorem fl_bd (b : Bool) : 0 ≤ fl b ∧ fl b ≤ 1 := by unfold fl; split <;> omega
theorem bit_pw (wd v : Int) (h1 : 1 ≤ wd) (h2 : wd ≤ 16) : wrap64 (bitI wd v (wd - 1) * 2 ^ wd.toNat) = bitI wd v (wd - 1) * pw wd := by
  have hp := pw_bd (n := wd) (by omega) h2
  have hb := bitI_bd wd v (wd - 1)
  show wrap64 (_ * pw wd) = _
  generalize bitI wd v (wd - 1) = b at *
  obtain rfl | rfl : b = 0 ∨ b = 1 := by omega
  · simp [wrap64]
  · rw [Int.one_mul]; exact IntWalk.wrap64_in _ ⟨by omega, by omega⟩


theorem signed_eq (wd v : Int) (h1 : 1 ≤ wd) (h2 : wd ≤ 16) (h3 : 0 ≤ v) (h4 : v < pw wd) : wrap64 (v - wrap64 (bitI wd v (wd - 1) * 2 ^ wd.toNat)) = sg wd v := by
  have hs := sg_bd h1 h2 h3 h4
  rw [bit_pw wd v h1 h2]
  exact IntWalk.wrap64_in _ ⟨by unfold sg at hs; omega, by unfold sg at hs; omega⟩

theorem signed_c (wd v : Int) (h1 : 1 ≤ wd) (h2 : wd ≤ 16) (h3 : 0 ≤ v) (h4 : v < pw wd) (w : World) :
    Calls Tryd.prog 38 #[.agg #[.int .i64 wd, .int .i64 v]] w fun e w' => e = .returned (.int .i64 (sg wd v)) ∧ ∃ x : Aft w, w' = x.val := by
  have hb := bitI_bd wd v (wd - 1)
  go_enter Tryd.func38, Tryd.ntmps38
  go_wp2_with fail
  refine wp_region_aft (by kernel_rfl) (by kernel_rfl) ?_
  repeat (go_big_quiet_step (first | (go_at_call 37; exact Calls.qa (bitAt_c _ _ _ (by omega) _))))
  refine wpQuiet_nil ?_
  intro x
  go_wp2
  go_ret
  exact ⟨retI (signed_eq wd v h1 h2 h3 h4), Below.aft (by (repeat' (first | (with_reducible exact Below.refl _ _) | (with_reducible refine Below.alloc ?_ ?_ _) | (with_reducible refine Below.drew ?_) | (with_reducible refine Aft.below _ ?_ ?_) | (with_reducible refine Below.setCell_new ?_ ?_ _ _) | (with_reducible exact Nat.le_refl _) | (with_reducible refine Aft.le _ ?_) | (with_reducible refine le_alloc ?_) | (with_reducible refine le_drew ?_) | (with_reducible refine le_setCell ?_) | omega)))⟩

theorem wrapped_c (n wd : Int) (h1 : 1 ≤ wd) (h2 : wd ≤ 16) (w : World) :
    Calls Tryd.prog 58 #[.int .i64 n, .int .i64 wd] w fun e w' => e = .returned (.agg #[.int .i64 wd, .int .i64 (md n (pw wd))]) ∧ ∃ x : Aft w, w' = x.val := by
  have ha : bits .and .i64 n (pw wd - 1) = md n (pw wd) := and_mask n wd.toNat (by omega)
  go_enter Tryd.func58, Tryd.ntmps58
  go_wp2_with (first | (go_at_call 41; refine (highest_c _ (by omega) (by omega) _).mono ?_; rintro e w' ⟨rfl, rfl⟩))
  refine bodyPost_ret (by simp [results, Tryd.results58, go_sem]; try rfl) rfl ?_
  exact ⟨rfl, Below.aft (by (repeat' (first | (with_reducible exact Below.refl _ _) | (with_reducible refine Below.alloc ?_ ?_ _) | (with_reducible refine Below.drew ?_) | (with_reducible refine Aft.below _ ?_ ?_) | (with_reducible refine Below.setCell_new ?_ ?_ _ _) | (with_reducible exact Nat.le_refl _) | (with_reducible refine Aft.le _ ?_) | (with_reducible refine le_alloc ?_) | (with_reducible refine le_drew ?_) | (with_reducible refine le_setCell ?_) | omega)))⟩

theorem operandOf_c (wd v : Int) (h1 : 1 ≤ wd) (h2 : wd ≤ 16) (h3 : 0 ≤ v) (h4 : v < pw wd) (w : World) :
    Calls Tryd.prog 32 #[.agg #[.int .i64 wd, .int .i64 v]] w fun e w' => e = .returned (.agg #[.int .i64 wd, .int .i64 v, .int .i64 (sg wd v)]) ∧ ∃ x : Aft w, w' = x.val := by
  go_enter Tryd.func32, Tryd.ntmps32
  go_wp2_with fail
  refine wp_region_aft_tail 4 (by kernel_rfl) (by kernel_rfl) ?_
  simp only [List.take_succ_cons, List.take_zero, List.drop_succ_cons, List.drop_zero]
  repeat (go_big_quiet_step (first | (go_at_call 38; exact Calls.qa (signed_c _ _ (by omega) (by omega) (by omega) (by omega) _))))
  refine wpQuiet_nil ?_
  intro x
  go_wp2
  refine bodyPost_ret (by simp [results, Tryd.results32, go_sem]; try rfl) rfl ?_
  exact ⟨rfl, Below.aft (by (repeat' (first | (with_reducible exact Below.refl _ _) | (with_reducible refine Below.alloc ?_ ?_ _) | (with_reducible refine Below.drew ?_) | (with_reducible refine Aft.below _ ?_ ?_) | (with_reducible refine Below.setCell_new ?_ ?_ _ _) | (with_reducible exact Nat.le_refl _) | (with_reducible refine Aft.le _ ?_) | (with_reducible refine le_alloc ?_) | (with_reducible refine le_drew ?_) | (with_reducible refine le_setCell ?_) | omega)))⟩

theorem flagged_c (wd ex exs : Int) (h1 : 1 ≤ wd) (h2 : wd ≤ 16) (w : World) :
    Calls Tryd.prog 33 #[.int .i64 wd, .int .i64 ex, .int .i64 exs] w fun e w' => e = .returned (.agg #[.int .i64 wd, .int .i64 (md ex (pw wd)), .int .i64 (fl (ex != md ex (pw wd))), .int .i64 (fl (exs != sg wd (md ex (pw wd)))), .int .i64 (fl (md ex (pw wd) == 0)), .int .i64 (bitI wd (md ex (pw wd)) (wd - 1))]) ∧ ∃ x : Aft w, w' = x.val := by
  have hm := md_bd ex (pw_pos wd)
  go_enter Tryd.func33, Tryd.ntmps33
  go_wp2_with (first | (go_at_call 58; refine (wrapped_c _ _ (by omega) (by omega) _).mono ?_; rintro e w' ⟨rfl, x, rfl⟩))
  refine wp_region_aft_tail 20 (by kernel_rfl) (by kernel_rfl) ?_
  simp only [List.take_succ_cons, List.take_zero, List.drop_succ_cons, List.drop_zero]
  repeat (go_big_quiet_step (first | (go_at_call 59; exact Calls.qs (flag_c _ _)) | (go_at_call 38; exact Calls.qa (signed_c _ _ (by omega) (by omega) (by omega) (by omega) _)) | (go_at_call 37; exact Calls.qa (bitAt_c _ _ _ (by omega) _))))
  refine wpQuiet_nil ?_
  intro x
  go_wp2
  refine bodyPost_ret (by simp [results, Tryd.results33, go_sem]; try rfl) rfl ?_
  exact ⟨rfl, Below.aft (by (repeat' (first | (with_reducible exact Below.refl _ _) | (with_reducible refine Below.alloc ?_ ?_ _) | (with_reducible refine Below.drew ?_) | (with_reducible refine Aft.below _ ?_ ?_) | (with_reducible refine Below.setCell_new ?_ ?_ _ _) | (with_reducible exact Nat.le_refl _) | (with_reducible refine Aft.le _ ?_) | (with_reducible refine le_alloc ?_) | (with_reducible refine le_drew ?_) | (with_reducible refine le_setCell ?_) | omega)))⟩

end Go.Proofs.YtlplphigjejahaaDoor
