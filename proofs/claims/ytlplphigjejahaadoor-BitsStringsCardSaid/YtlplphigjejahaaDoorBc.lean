/-
  Contracts of the functions of chapter 1 (third part: the reference of sums).
-/
import Derived.Test.YtlplphigjejahaaDoorBa
set_option linter.unusedSimpArgs false
set_option linter.unusedVariables false
namespace Go.Proofs.YtlplphigjejahaaDoor
open Go.RowKit Go.BigFrame

def win (n lo hi : Int) : Bool := decide (lo ≤ n) && decide (n ≤ hi)
def fits (n wd : Int) : Bool := win n 0 (pw wd - 1)
def pairErr (aw av bw bv : Int) : Int := firstE [bErr aw av, bErr bw bv]
def twinErr (aw av bw bv : Int) : Int := firstE [bErr aw av, bErr bw bv, eIf (aw != bw) 25]
theorem firstE_cons (e : Int) (l : List Int) : firstE (e :: l) = if e = 0 then firstE l else e := rfl
theorem firstE_one (e : Int) : firstE [e] = e := by simp [firstE]; intro h; exact h.symm

theorem Within_c (n lo hi : Int) (w : World) :
    Calls Tryd.prog 27 #[.int .i64 n, .int .i64 lo, .int .i64 hi] w fun e w' => e = .returned (.bool (win n lo hi)) ∧ w = w' := by
  unfold win
  by_cases h1 : lo ≤ n
  all_goals
    go_enter Tryd.func27, Tryd.ntmps27
    go_wp2
    go_ret
    exact ⟨by simp [Int.not_le, *]; try omega, rfl⟩

theorem IsWidth_c (n : Int) (w : World) :
    Calls Tryd.prog 54 #[.int .i64 n] w fun e w' => e = .returned (.bool (isW n)) ∧ w = w' := by
  go_enter Tryd.func54, Tryd.ntmps54
  go_wp2_with (first | (go_at_call 27; refine (Within_c _ _ _ _).mono ?_; rintro e w' ⟨rfl, rfl⟩))
  go_ret
  exact ⟨rfl, rfl⟩

theorem Power_c (n : Int) (h1 : 0 ≤ n) (h2 : n ≤ 61) (w : World) :
    Calls Tryd.prog 79 #[.int .i64 n] w fun e w' => e = .returned (.int .i64 (pw n)) ∧ w = w' := by
  have hp := pw_le h1 h2
  unfold pw at *
  go_enter Tryd.func79, Tryd.ntmps79
  go_wp2
  go_ret
  exact ⟨rfl, rfl⟩

theorem Fits_c (n wd : Int) (h1 : 0 ≤ wd) (h2 : wd ≤ 61) (w : World) :
    Calls Tryd.prog 55 #[.int .i64 n, .int .i64 wd] w fun e w' => e = .returned (.bool (fits n wd)) ∧ w = w' := by
  have hp := pw_le h1 h2
  go_enter Tryd.func55, Tryd.ntmps55
  go_wp2_with (first | (go_at_call 79; refine (Power_c _ (by omega) (by omega) _).mono ?_; rintro e w' ⟨rfl, rfl⟩) | (go_at_call 27; refine (Within_c _ _ _ _).mono ?_; rintro e w' ⟨rfl, rfl⟩))
  go_ret
  exact ⟨rfl, rfl⟩


theorem bErr_fits {wd v : Int} (h : isW wd = true) : bErr wd v = eIf (!(fits v wd)) 2 := by
  simp only [bErr, h, if_true, fits, win]
  congr 1
  by_cases h1 : v < 0 <;> by_cases h2 : pw wd - 1 < v <;> simp [h1, h2] <;> omega

theorem BitsErr_c (wd v : Int) (w : World) :
    Calls Tryd.prog 28 #[.agg #[.int .i64 wd, .int .i64 v]] w fun e w' => e = .returned (.int .i64 (bErr wd v)) ∧ ∃ x : Aft w, w' = x.val := by
  by_cases h : isW wd = true
  · obtain ⟨h1, h2⟩ := isW_iff.1 h
    have hf := bErr_fits (v := v) h
    cases hb : fits v wd
    all_goals
      rw [hb] at hf
      have Hf := Lib.hid hf
      clear hf
      go_enter Tryd.func28, Tryd.ntmps28
      go_wp2_with (first | (go_at_call 54; refine (IsWidth_c _ _).mono ?_; rintro e w' ⟨rfl, rfl⟩) | (go_at_call 55; refine (Fits_c _ _ (by omega) (by omega) _).mono ?_; rintro e w' ⟨rfl, rfl⟩))
      go_ret
      exact ⟨by rw [Hf.out]; rfl, Below.aft (by (repeat' (first | (with_reducible exact Below.refl _ _) | (with_reducible refine Below.alloc ?_ ?_ _) | (with_reducible refine Below.drew ?_) | (with_reducible refine Aft.below _ ?_ ?_) | (with_reducible refine Below.setCell_new ?_ ?_ _ _) | (with_reducible exact Nat.le_refl _) | (with_reducible refine Aft.le _ ?_) | (with_reducible refine le_alloc ?_) | (with_reducible refine le_drew ?_) | (with_reducible refine le_setCell ?_) | omega)))⟩
  · have h' : isW wd = false := by simpa using h
    go_enter Tryd.func28, Tryd.ntmps28
    go_wp2_with (first | (go_at_call 54; refine (IsWidth_c _ _).mono ?_; rintro e w' ⟨rfl, rfl⟩) | (go_at_call 55; refine (Fits_c _ _ (by omega) (by omega) _).mono ?_; rintro e w' ⟨rfl, rfl⟩))
    go_ret
    exact ⟨by simp [bErr_bad v h], Below.aft (by (repeat' (first | (with_reducible exact Below.refl _ _) | (with_reducible refine Below.alloc ?_ ?_ _) | (with_reducible refine Below.drew ?_) | (with_reducible refine Aft.below _ ?_ ?_) | (with_reducible refine Below.setCell_new ?_ ?_ _ _) | (with_reducible exact Nat.le_refl _) | (with_reducible refine Aft.le _ ?_) | (with_reducible refine le_alloc ?_) | (with_reducible refine le_drew ?_) | (with_reducible refine le_setCell ?_) | omega)))⟩

theorem twin_pair (aw av bw bv : Int) : twinErr aw av bw bv = if pairErr aw av bw bv = 0 then eIf (aw != bw) 25 else pairErr aw av bw bv := by
  unfold twinErr pairErr
  by_cases h1 : bErr aw av = 0 <;> by_cases h2 : bErr bw bv = 0 <;> simp [firstE, h1, h2]
  all_goals (intro h; exact h.symm)

theorem sum_twin (aw av bw bv c : Int) : sumErr aw av bw bv c = if twinErr aw av bw bv = 0 then eIf (!(win c 0 1)) 2 else twinErr aw av bw bv := by
  have e : (c != 0 && c != 1) = !(win c 0 1) := by
    unfold win
    by_cases h0 : c = 0
    · subst h0; decide
    · by_cases h1 : c = 1
      · subst h1; decide
      · have e0 : (c != 0) = true := by simpa using h0
        have e1 : (c != 1) = true := by simpa using h1
        rw [e0, e1]
        by_cases hc : 0 ≤ c
        · have hd : ¬ c ≤ 1 := by omega
          simp [hd]
        · simp [hc]
  unfold sumErr twinErr
  rw [e]
  by_cases h1 : bErr aw av = 0 <;> by_cases h2 : bErr bw bv = 0 <;> by_cases h3 : eIf (aw != bw) 25 = 0 <;> simp [firstE, h1, h2, h3]
  all_goals (intro h; exact h.symm)

theorem md_tmod (n m : Int) (h : 0 < m) : md n m = if n.tmod m < 0 then n.tmod m + m else n.tmod m := by
  unfold md
  have h1 := Int.emod_nonneg n (Int.ne_of_gt h)
  have h2 := Int.emod_lt_of_pos n h
  have e := Int.tmod_eq_emod (a := n) (b := m)
  split at e <;> split <;> omega
theorem tmod_bd (n m : Int) (h : 0 < m) : -m < n.tmod m ∧ n.tmod m < m := by
  have h1 := Int.emod_nonneg n (Int.ne_of_gt h)
  have h2 := Int.emod_lt_of_pos n h
  have e := Int.tmod_eq_emod (a := n) (b := m)
  split at e <;> constructor <;> try omega
  all_goals
    rename_i hc
    have h3 : n % m ≠ 0 := fun h4 => hc (Or.inr (Int.dvd_of_emod_eq_zero h4))
    omega

theorem ne_fits (ex wd : Int) : (ex != md ex (pw wd)) = !(fits ex wd) := by
  have hp := pw_pos wd
  have hb := md_bd ex hp
  unfold fits win
  by_cases h : 0 ≤ ex ∧ ex ≤ pw wd - 1
  · have e : md ex (pw wd) = ex := Int.emod_eq_of_lt h.1 (by omega)
    rw [e]; simp [h.1, h.2]
  · have e : ex ≠ md ex (pw wd) := fun e => h (by rw [e]; omega)
    have e1 : (ex != md ex (pw wd)) = true := by simpa using e
    rw [e1]
    by_cases h0 : 0 ≤ ex
    · have : ¬ ex ≤ pw wd - 1 := fun h1 => h ⟨h0, h1⟩
      simp [this]
    · simp [h0]
theorem top_neg {wd r : Int} (h1 : 1 ≤ wd) (h2 : 0 ≤ r) (h3 : r < pw wd) : bitI wd r (wd - 1) = fl (decide (sg wd r < 0)) := by
  rw [bitI_top h1 h2 h3, sg_eq h1 h2 h3]
  congr 1
  have := pw_half h1
  by_cases h : pw (wd - 1) ≤ r
  · simp [h]; omega
  · simp [h]; omega
theorem flags_eq (wd ex exs : Int) (h1 : 1 ≤ wd) : Ending.returned (.agg #[.int .i64 wd, .int .i64 (md ex (pw wd)), .int .i64 (fl (!(fits ex wd))), .int .i64 (fl (sg wd (md ex (pw wd)) != exs)), .int .i64 (fl (md ex (pw wd) == 0)), .int .i64 (fl (decide (sg wd (md ex (pw wd)) < 0)))]) = Ending.returned (.agg #[.int .i64 wd, .int .i64 (md ex (pw wd)), .int .i64 (fl (ex != md ex (pw wd))), .int .i64 (fl (exs != sg wd (md ex (pw wd)))), .int .i64 (fl (md ex (pw wd) == 0)), .int .i64 (bitI wd (md ex (pw wd)) (wd - 1))]) := by
  have hb := md_bd ex (pw_pos wd)
  rw [ne_fits, top_neg h1 hb.1 hb.2, show (exs != sg wd (md ex (pw wd))) = (sg wd (md ex (pw wd)) != exs) from bne_comm]

end Go.Proofs.YtlplphigjejahaaDoor
