/-
  Contracts of the functions of chapter 1 (seventh part: numbers in strings).
-/
import Derived.Test.YtlplphigjejahaaDoorBe
set_option linter.unusedSimpArgs false
set_option linter.unusedVariables false
namespace Go.Proofs.YtlplphigjejahaaDoor
open Go.RowKit Go.BigFrame

/-- What is known behind some bytes: the number so far, how many digits, whether the last byte was a digit. -/
structure Num where
  v : Int
  n : Int
  a : Bool
def numStep (base : Int) : Option Num → UInt8 → Option Num
  | none, _ => none
  | some t, c =>
    if c.toNat = 95 then (if t.a then some ⟨t.v, t.n, false⟩ else none)
    else if digI c.toNat < 0 ∨ base ≤ digI c.toNat then none
    else some ⟨min (t.v * base + digI c.toNat) 65536, t.n + 1, true⟩
def numRun (base : Int) (l : List UInt8) : Option Num := l.foldl (numStep base) (some ⟨0, 0, false⟩)
def numV (base : Int) (l : List UInt8) : Int := match numRun base l with | none => 0 | some t => t.v
def numB (base : Int) (l : List UInt8) : Bool := match numRun base l with | none => false | some t => t.a && decide (t.n ≤ 20)

theorem fold_none (base : Int) (l : List UInt8) : l.foldl (numStep base) none = none := by
  induction l with
  | nil => rfl
  | cons c l ih => simpa [List.foldl, numStep] using ih
theorem run_snoc (base : Int) (s : ByteArray) (k : Nat) (h : k < s.size) : numRun base (s.data.toList.take (k + 1)) = numStep base (numRun base (s.data.toList.take k)) s[k] := by
  have e : s.data.toList.take (k + 1) = s.data.toList.take k ++ [s[k]] := by
    rw [List.take_succ_eq_append_getElem (by simpa using h)]; rfl
  rw [e]; unfold numRun; rw [List.foldl_append]; rfl
theorem run_stop (base : Int) (s : ByteArray) (k : Nat) (h : numRun base (s.data.toList.take k) = none) : numRun base s.data.toList = none := by
  have e : s.data.toList = s.data.toList.take k ++ s.data.toList.drop k := (List.take_append_drop k _).symm
  rw [e]; unfold numRun at *; rw [List.foldl_append, h, fold_none]
theorem digI_bd (c : Int) : -1 ≤ digI c ∧ digI c ≤ 15 := by unfold digI; split <;> (try split) <;> (try split) <;> omega
def numPost (base : Int) (s : ByteArray) (w : World) (e : Ending) (w' : World) : Prop := e = .returned (.tuple #[.int .i64 (numV base s.data.toList), .bool (numB base s.data.toList)]) ∧ w = w'
theorem numPost_none {base : Int} {s : ByteArray} {w : World} {k : Nat} (h : numRun base (s.data.toList.take k) = none) : numPost base s w (.returned (.tuple #[.int .i64 0, .bool false])) w := by
  have e := run_stop base s k h
  exact ⟨by simp [numV, numB, e], rfl⟩
theorem numPost_some {base : Int} {s : ByteArray} {w : World} {k : Nat} {t : Num} (hk : s.size ≤ k) (h : numRun base (s.data.toList.take k) = some t) : numPost base s w (.returned (.tuple #[.int .i64 t.v, .bool (t.a && decide (t.n ≤ 20))])) w := by
  rw [List.take_of_length_le (by simpa using hk)] at h
  exact ⟨by simp [numV, numB, h], rfl⟩

set_option maxHeartbeats 1600000 in
theorem numberOf_p (s : ByteArray) (base : Int) (w : World) (hs : s.size ≤ maxLen) (h2 : 2 ≤ base) (h3 : base ≤ 16) :
    Calls Tryd.prog 53 #[.string s, .int .i64 base] w (numPost base s w) := by
  unfold maxLen at hs
  have hp : pw 16 = 65536 := by decide
  have Hp := Lib.hid hp
  clear hp
  go_enter Tryd.func53, Tryd.ntmps53
  go_wp2
  go_loop [6, 7, 8, 13] (fun v n a i => ∃ (k : Nat) (t : Num), k ≤ s.size ∧ i = .int .i64 k ∧ v = .int .i64 t.v ∧ n = .int .i64 t.n ∧ a = .bool t.a ∧ numRun base (s.data.toList.take k) = some t ∧ 0 ≤ t.v ∧ t.v ≤ 65536 ∧ 0 ≤ t.n ∧ t.n ≤ k) (fun _ _ _ i => s.size - (intOf i).toNat)
  case atStart => exact ⟨0, ⟨0, 0, false⟩, Nat.zero_le _, rfl, rfl, rfl, rfl, rfl, by decide, by decide, by decide, by decide⟩
  case round =>
    obtain ⟨k, ⟨v, n, a⟩, hk, rfl, rfl, rfl, rfl, hr, b1, b2, b3, b4⟩ := hrel
    simp only at hr b1 b2 b3 b4
    have Hr := Lib.hid hr
    clear hr
    by_cases hlt : k < s.size
    · have hsn := run_snoc base s k hlt
      rw [Hr.out] at hsn
      have hc1 : s[k].toNat ≤ 255 := by have := s[k].toNat_lt; omega
      by_cases h95 : s[k].toNat = 95
      · have h95' : ((s[k].toNat : Int) == 95) = true := by simp [h95]
        cases a
        · have Hn : Hid (numRun base (s.data.toList.take (k + 1)) = none) := by show _ = _; rw [hsn]; simp [numStep, h95]
          clear hsn h95
          go_wp2_with fail
          go_ret2
          exact numPost_none Hn.out
        · have Hn : Hid (numRun base (s.data.toList.take (k + 1)) = some ⟨v, n, false⟩) := by show _ = _; rw [hsn]; simp [numStep, h95]
          clear hsn h95
          go_wp2_with fail
          go_round
          case rel => exact ⟨k + 1, ⟨v, n, false⟩, by omega, by go_num, rfl, rfl, rfl, Hn.out, b1, b2, b3, by simp only; omega⟩
          case measure => simp [intOf]; omega
      · have h95' : ((s[k].toNat : Int) == 95) = false := by simp; omega
        have hd := digI_bd (s[k].toNat : Int)
        have hD := Lib.hid (rfl : digI (s[k].toNat : Int) = digI (s[k].toNat : Int))
        have hstep : numStep base (some ⟨v, n, a⟩) s[k] = if digI (s[k].toNat : Int) < 0 ∨ base ≤ digI (s[k].toNat : Int) then none else some ⟨min (v * base + digI (s[k].toNat : Int)) 65536, n + 1, true⟩ := by simp [numStep, h95]
        rw [hstep] at hsn
        have Hsn := Lib.hid hsn
        clear hsn hstep h95 hD
        have hdc := digitOf_c (s[k].toNat : Int) (by omega) (by omega)
        have Hdc := Lib.hid hdc
        clear hdc
        generalize hg : digI (s[k].toNat : Int) = d at *
        have Hg := Lib.hid hg
        clear hg
        by_cases hd0 : d < 0
        · have Hn : Hid (numRun base (s.data.toList.take (k + 1)) = none) := by show _ = _; rw [Hsn.out, if_pos (Or.inl hd0)]
          clear Hsn
          go_wp2_with (go_at_call 78; refine (Hdc.out _).mono ?_; rintro e w' ⟨rfl, rfl⟩)
          go_ret2
          exact numPost_none Hn.out
        · have hd0' : decide (d < 0) = false := by simpa using hd0
          by_cases hdb : base ≤ d
          · have Hn : Hid (numRun base (s.data.toList.take (k + 1)) = none) := by show _ = _; rw [Hsn.out, if_pos (Or.inr hdb)]
            clear Hsn
            go_wp2_with (go_at_call 78; refine (Hdc.out _).mono ?_; rintro e w' ⟨rfl, rfl⟩)
            go_ret2
            exact numPost_none Hn.out
          · have Hn : Hid (numRun base (s.data.toList.take (k + 1)) = some ⟨min (v * base + d) 65536, n + 1, true⟩) := by show _ = _; rw [Hsn.out, if_neg (by omega)]
            clear Hsn
            have hvb : 0 ≤ v * base ∧ v * base ≤ 1048576 := ⟨Int.mul_nonneg b1 (by omega), by have := Int.mul_le_mul b2 h3 (by omega) (by omega); omega⟩
            go_wp2_with (first | (go_at_call 78; refine (Hdc.out _).mono ?_; rintro e w' ⟨rfl, rfl⟩) | (go_at_call 41; refine (highest_c _ (by omega) (by omega) _).mono ?_; rw [Hp.out]; rintro e w' ⟨rfl, rfl⟩))
            have hmn : min (v * base + d) 65536 = if 65536 < v * base + d then 65536 else v * base + d := by rw [Int.min_def]; split <;> split <;> omega
            have hmb : 0 ≤ min (v * base + d) 65536 ∧ min (v * base + d) 65536 ≤ 65536 := by omega
            go_round
            case rel => exact ⟨k + 1, ⟨min (v * base + d) 65536, n + 1, true⟩, by omega, by go_num, by rw [hmn], rfl, rfl, Hn.out, hmb.1, hmb.2, by simp only; omega, by simp only; omega⟩
            case measure => simp [intOf]; omega
    · cases a
      all_goals
        go_wp2
        go_ret2
        exact numPost_some (by omega) Hr.out


theorem numberOf_c (s : ByteArray) (base : Int) (w : World) (hs : s.size ≤ maxLen) (h2 : 2 ≤ base) (h3 : base ≤ 16) :
    Calls Tryd.prog 53 #[.string s, .int .i64 base] w fun e w' => e = .returned (.tuple #[.int .i64 (numV base s.data.toList), .bool (numB base s.data.toList)]) ∧ w = w' := numberOf_p s base w hs h2 h3
theorem widthOf12 (w : World) :
    Calls Tryd.prog 51 #[.string ⟨#[49, 50]⟩] w fun e w' => e = .returned (.tuple #[.int .i64 12, .bool true]) ∧ w = w' := by
  have hb : ∀ h, ((({ data := #[49, 50] } : ByteArray)[0]'h).toNat : Int) = 49 := fun _ => rfl
  have e1 := numberOf_c ⟨#[49, 50]⟩ 10 w (by decide) (by decide) (by decide)
  rw [show numV 10 (⟨#[49, 50]⟩ : ByteArray).data.toList = 12 from by decide, show numB 10 (⟨#[49, 50]⟩ : ByteArray).data.toList = true from by decide] at e1
  have E1 := Lib.hid e1
  clear e1
  go_enter Tryd.func51, Tryd.ntmps51
  go_wp2_with fail
  refine E1.out.mono ?_
  rintro e w' ⟨rfl, rfl⟩
  go_wp2
  go_ret2
  exact ⟨rfl, rfl⟩

end Go.Proofs.YtlplphigjejahaaDoor
