/-
  Contracts of the small helpers of the references that work with strings: numbers, digits, cuts (built for the door seat only).
-/
import Derived.Test.YtlplphigjejahaaDoorSm
import Derived.Test.YtlplphigjejahaaDoorKid
set_option linter.unusedSimpArgs false
set_option linter.unusedVariables false
namespace Go.Proofs.YtlplphigjejahaaDoor
open Go.RowKit Go.BigFrame

def szI (n : Int) : Int := max n (-n)
theorem szI_nn {n : Int} (h : 0 ≤ n) : szI n = n := by unfold szI; omega
theorem Size_c (n : Int) (h0 : -9223372036854775807 ≤ n) (h1 : n ≤ 9223372036854775807) (w : World) :
    Calls Tryd.prog 56 #[.int .i64 n] w fun e w' => e = .returned (.int .i64 (szI n)) ∧ w = w' := by
  go_enter Tryd.func56, Tryd.ntmps56
  go_wp2
  go_ret
  exact ⟨retI (by unfold szI; first | rfl | omega | (rw [Int.max_def]; split <;> omega)), rfl⟩

theorem rdigit_c (c : Int) (h0 : 0 ≤ c) (h1 : c ≤ 255) (w : World) :
    Calls Tryd.prog 26 #[.int .u8 c] w fun e w' => e = .returned (.int .i64 (digI c)) ∧ w = w' := by
  have W1 : ∀ lo hi : Int, lo ≤ c → c ≤ hi → win c lo hi = true := fun lo hi a b => by simp [win, a, b]
  have W2 : ∀ lo hi : Int, ¬ lo ≤ c → win c lo hi = false := fun lo hi a => by simp [win]; omega
  have W3 : ∀ lo hi : Int, ¬ c ≤ hi → win c lo hi = false := fun lo hi a => by simp [win]; omega
  unfold digI
  by_cases a1 : 48 ≤ c <;> by_cases a2 : c ≤ 57 <;> by_cases b1 : 97 ≤ c <;> by_cases b2 : c ≤ 102 <;> by_cases c1 : 65 ≤ c <;> by_cases c2 : c ≤ 70 <;> first | omega | skip
  all_goals
    first | (have H1 := Lib.hid (W1 48 57 (by omega) (by omega))) | (have H1 := Lib.hid (W2 48 57 (by omega))) | (have H1 := Lib.hid (W3 48 57 (by omega)))
    first | (have H2 := Lib.hid (W1 97 102 (by omega) (by omega))) | (have H2 := Lib.hid (W2 97 102 (by omega))) | (have H2 := Lib.hid (W3 97 102 (by omega)))
    first | (have H3 := Lib.hid (W1 65 70 (by omega) (by omega))) | (have H3 := Lib.hid (W2 65 70 (by omega))) | (have H3 := Lib.hid (W3 65 70 (by omega)))
    clear W1 W2 W3
    go_enter Tryd.func26, Tryd.ntmps26
    go_wp2_with (go_at_call 27; refine (Within_c _ _ _ _).mono ?_; (first | rw [H1.out] | rw [H2.out] | rw [H3.out]); rintro e w' ⟨rfl, rfl⟩)
    go_ret
    refine ⟨retI ?_, rfl⟩
    first | omega | (rw [if_pos ⟨by assumption, by assumption⟩]; done) | (simp [*]; done) | (simp [*]; omega)

theorem Floor_c (n : Int) (h0 : -1000 ≤ n) (h1 : n ≤ 0) (w : World) :
    Calls Tryd.prog 80 #[.int .i64 n, .int .i64 4] w fun e w' => e = .returned (.int .i64 (n / 4)) ∧ w = w' := by
  have e1 := Int.tmod_add_mul_tdiv n 4
  have e2 := Int.tmod_lt_of_pos n (show (0 : Int) < 4 by decide)
  have e3 := Int.lt_tmod_of_pos n (show (0 : Int) < 4 by decide)
  have b1 : -250 ≤ n.tdiv 4 := by omega
  have b2 : n.tdiv 4 ≤ 0 := by omega
  have E1 := Lib.hid e1
  clear e1
  by_cases hz : n.tmod 4 < 0
  all_goals
    go_enter Tryd.func80, Tryd.ntmps80
    go_wp2
    go_ret
    exact ⟨retI (by have := E1.out; omega), rfl⟩
theorem Ceil_c (n : Int) (h0 : 0 ≤ n) (h1 : n ≤ 1000) (w : World) :
    Calls Tryd.prog 57 #[.int .i64 n, .int .i64 4] w fun e w' => e = .returned (.int .i64 ((n + 3) / 4)) ∧ w = w' := by
  go_enter Tryd.func57, Tryd.ntmps57
  go_wp2_with (go_at_call 80; refine (Floor_c _ (by omega) (by omega) _).mono ?_; rintro e w' ⟨rfl, rfl⟩)
  go_ret
  exact ⟨retI (by omega), rfl⟩
theorem rdigits2_c (n : Int) (w : World) :
    Calls Tryd.prog 30 #[.int .i64 n, .int .i64 2] w fun e w' => e = .returned (.int .i64 n) ∧ w = w' := by
  go_enter Tryd.func30, Tryd.ntmps30
  go_wp2
  go_ret
  exact ⟨rfl, rfl⟩
theorem rdigits16_c (n : Int) (h0 : 0 ≤ n) (h1 : n ≤ 1000) (w : World) :
    Calls Tryd.prog 30 #[.int .i64 n, .int .i64 16] w fun e w' => e = .returned (.int .i64 ((n + 3) / 4)) ∧ w = w' := by
  go_enter Tryd.func30, Tryd.ntmps30
  go_wp2_with (go_at_call 57; refine (Ceil_c _ (by omega) (by omega) _).mono ?_; rintro e w' ⟨rfl, rfl⟩)
  go_ret
  exact ⟨rfl, rfl⟩

end Go.Proofs.YtlplphigjejahaaDoor
