/-
  Contracts of the small functions of chapter 2 (graph) and of the references' base.
-/
import Derived.Test.YtkdonapgonegkaaDoorGa
set_option linter.unusedSimpArgs false
set_option linter.unusedVariables false
namespace Go.Proofs.YtkdonapgonegkaaDoor
open Go.RowKit Go.BigFrame

theorem isWidth_c (n : Int) (w : World) :
    Calls Tryd.prog 48 #[.int .i64 n] w fun e w' => e = .returned (.bool (isW n)) ∧ w = w' := by
  unfold isW
  by_cases h1 : 1 ≤ n
  all_goals
    go_enter Tryd.func48, Tryd.ntmps48
    go_wp2
    go_ret
    exact ⟨by simp [Int.not_le, *]; try omega, rfl⟩
theorem errorIf_c (b : Bool) (e0 : Int) (w : World) :
    Calls Tryd.prog 47 #[.bool b, .int .i64 e0] w fun e w' => e = .returned (.int .i64 (eIf b e0)) ∧ w = w' := by
  unfold eIf
  go_enter Tryd.func47, Tryd.ntmps47
  go_wp2
  all_goals (go_ret; exact ⟨by simp [*], rfl⟩)
theorem highest_c (n : Int) (h1 : 0 ≤ n) (h2 : n ≤ 16) (w : World) :
    Calls Tryd.prog 91 #[.int .i64 n] w fun e w' => e = .returned (.int .i64 (pw n - 1)) ∧ w = w' := by
  have hp := pw_bd h1 h2
  unfold pw at *
  go_enter Tryd.func91, Tryd.ntmps91
  go_wp2
  go_ret
  exact ⟨rfl, rfl⟩
theorem firstError_c (b : Nat) (es : List Int) (hl : es.length ≤ 100) (w : World) (hc : ∀ i, i < es.length → w.cell? ⟨b, i, none⟩ = some (.int .i64 (es.getD i 0))) :
    Calls Tryd.prog 65 #[.slice (some ⟨b, 0, none⟩) es.length es.length] w fun e w' => e = .returned (.int .i64 (firstE es)) ∧ w = w' := by
  go_enter Tryd.func65, Tryd.ntmps65
  go_wp2
  go_loop [7] (fun i => ∃ k : Nat, k ≤ es.length ∧ i = .int .i64 k ∧ firstE es = firstE (es.drop k)) (fun i => es.length - (intOf i).toNat)
  case atStart => exact ⟨0, Nat.zero_le _, rfl, rfl⟩
  case round =>
    obtain ⟨k, hk, rfl, hf⟩ := hrel
    have Hf := Lib.hid hf
    clear hf
    by_cases hlt : k < es.length
    · have hk1 := hc k hlt
      clear hc
      by_cases h0 : es.getD k 0 = 0
      · have hn := firstE_drop es k hlt h0
        have Hn := Lib.hid hn
        rw [h0] at hk1
        clear hn h0
        go_wp2
        go_round
        case rel => exact ⟨k + 1, by omega, by go_num, Hf.out.trans Hn.out⟩
        case measure => simp [intOf]; omega
      · have hn := firstE_at es k hlt h0
        have Hn := Lib.hid hn
        clear hn
        generalize es.getD k 0 = x at *
        have h0' : (x == 0) = false := by simpa using h0
        go_wp2
        go_ret
        refine ⟨?_, rfl⟩
        rw [Hf.out, Hn.out]; rfl
    · go_wp2
      go_ret
      refine ⟨?_, rfl⟩
      rw [Hf.out, List.drop_of_length_le (by omega)]; rfl
theorem firstError4 (b : Nat) (e0 e1 e2 e3 : Int) (T : TypeId) (fr : Nat × Nat) (w : World) (hc : w.heap[b]? = some (.cells #[.int .i64 e0, .int .i64 e1, .int .i64 e2, .int .i64 e3] T fr)) :
    Calls Tryd.prog 65 #[.slice (some ⟨b, 0, none⟩) 4 4] w fun e w' => e = .returned (.int .i64 (firstE [e0, e1, e2, e3])) ∧ w = w' := by
  refine firstError_c b [e0, e1, e2, e3] (by simp) w fun i hi => ?_
  have hi' : i < 4 := hi
  simp only [World.cell?, hc]
  rcases i with _ | _ | _ | _ | i <;> first | rfl | omega
theorem firstError3 (b : Nat) (e0 e1 e2 : Int) (T : TypeId) (fr : Nat × Nat) (w : World) (hc : w.heap[b]? = some (.cells #[.int .i64 e0, .int .i64 e1, .int .i64 e2] T fr)) :
    Calls Tryd.prog 65 #[.slice (some ⟨b, 0, none⟩) 3 3] w fun e w' => e = .returned (.int .i64 (firstE [e0, e1, e2])) ∧ w = w' := by
  refine firstError_c b [e0, e1, e2] (by simp) w fun i hi => ?_
  have hi' : i < 3 := hi
  simp only [World.cell?, hc]
  rcases i with _ | _ | _ | i <;> first | rfl | omega
theorem firstError2 (b : Nat) (e0 e1 : Int) (T : TypeId) (fr : Nat × Nat) (w : World) (hc : w.heap[b]? = some (.cells #[.int .i64 e0, .int .i64 e1] T fr)) :
    Calls Tryd.prog 65 #[.slice (some ⟨b, 0, none⟩) 2 2] w fun e w' => e = .returned (.int .i64 (firstE [e0, e1])) ∧ w = w' := by
  refine firstError_c b [e0, e1] (by simp) w fun i hi => ?_
  have hi' : i < 2 := hi
  simp only [World.cell?, hc]
  rcases i with _ | _ | i <;> first | rfl | omega

theorem Within_c (n lo hi : Int) (w : World) :
    Calls Tryd.prog 31 #[.int .i64 n, .int .i64 lo, .int .i64 hi] w fun e w' => e = .returned (.bool (win n lo hi)) ∧ w = w' := by
  unfold win
  by_cases h1 : lo ≤ n
  all_goals
    go_enter Tryd.func31, Tryd.ntmps31
    go_wp2
    go_ret
    exact ⟨by simp [Int.not_le, *]; try omega, rfl⟩
theorem IsWidth_c (n : Int) (w : World) :
    Calls Tryd.prog 52 #[.int .i64 n] w fun e w' => e = .returned (.bool (isW n)) ∧ w = w' := by
  go_enter Tryd.func52, Tryd.ntmps52
  go_wp2_with (first | (go_at_call 31; refine (Within_c _ _ _ _).mono ?_; rintro e w' ⟨rfl, rfl⟩))
  go_ret
  exact ⟨rfl, rfl⟩
theorem Power_c (n : Int) (h1 : 0 ≤ n) (h2 : n ≤ 61) (w : World) :
    Calls Tryd.prog 41 #[.int .i64 n] w fun e w' => e = .returned (.int .i64 (pw n)) ∧ w = w' := by
  have hp := pw_le h1 h2
  unfold pw at *
  go_enter Tryd.func41, Tryd.ntmps41
  go_wp2
  go_ret
  exact ⟨rfl, rfl⟩
def fits (n wd : Int) : Bool := win n 0 (pw wd - 1)
theorem Fits_c (n wd : Int) (h1 : 0 ≤ wd) (h2 : wd ≤ 61) (w : World) :
    Calls Tryd.prog 32 #[.int .i64 n, .int .i64 wd] w fun e w' => e = .returned (.bool (fits n wd)) ∧ w = w' := by
  have hp := pw_le h1 h2
  go_enter Tryd.func32, Tryd.ntmps32
  go_wp2_with (first | (go_at_call 41; refine (Power_c _ (by omega) (by omega) _).mono ?_; rintro e w' ⟨rfl, rfl⟩) | (go_at_call 31; refine (Within_c _ _ _ _).mono ?_; rintro e w' ⟨rfl, rfl⟩))
  go_ret
  exact ⟨rfl, rfl⟩


theorem isIndex_c (i n : Int) (w : World) :
    Calls Tryd.prog 66 #[.int .i64 i, .int .i64 n] w fun e w' => e = .returned (.bool (isIx i n)) ∧ w = w' := by
  unfold isIx
  by_cases h1 : 0 ≤ i
  all_goals
    go_enter Tryd.func66, Tryd.ntmps66
    go_wp2
    go_ret
    exact ⟨by simp [Int.not_le, *]; try omega, rfl⟩
theorem isValue_c (v wd : Int) (h1 : 0 ≤ wd) (h2 : wd ≤ 16) (w : World) :
    Calls Tryd.prog 67 #[.int .i64 v, .int .i64 wd] w fun e w' => e = .returned (.bool (isV v wd)) ∧ w = w' := by
  unfold isV
  by_cases h : 0 ≤ v
  all_goals
    go_enter Tryd.func67, Tryd.ntmps67
    go_wp2_with (go_at_call 91; refine (highest_c _ h1 h2 _).mono ?_; rintro e w' ⟨rfl, rfl⟩)
    go_ret
    exact ⟨by simp [Int.not_le, *]; try omega, rfl⟩
end Go.Proofs.YtkdonapgonegkaaDoor
