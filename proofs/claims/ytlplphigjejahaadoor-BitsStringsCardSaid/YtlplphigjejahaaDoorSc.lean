/-
  Contracts of the functions of chapter 1 (strings, third part: the width of a string; built for the door seat only).
-/
import Derived.Test.YtlplphigjejahaaDoorSb
set_option linter.unusedSimpArgs false
set_option linter.unusedVariables false
namespace Go.Proofs.YtlplphigjejahaaDoor
open Go.RowKit Go.BigFrame

def widBad (l : List UInt8) : Bool := decide (2 < l.length) || (l.length == 2 && ((l.headD 0).toNat == 48))
def widV (l : List UInt8) : Int := if widBad l then 0 else numV 10 l
def widB (l : List UInt8) : Bool := if widBad l then false else numB 10 l
theorem tupIB {a c : Int} {b d : Bool} (h : a = c) (g : b = d) : Ending.returned (.tuple #[.int .i64 a, .bool b]) = .returned (.tuple #[.int .i64 c, .bool d]) := by subst h; subst g; rfl
theorem head_at (s : ByteArray) (h : 0 < s.size) : s.data.toList.headD 0 = s[0] := by
  have h' : 0 < s.data.toList.length := by simpa using h
  have e : s.data.toList[0]? = some s[0] := by rw [List.getElem?_eq_getElem h']; rfl
  cases hl : s.data.toList with
  | nil => rw [hl] at h'; cases h'
  | cons a r => rw [hl] at e; simpa using e
theorem widE_bad {l : List UInt8} (h : widBad l = true) : widV l = 0 ∧ widB l = false := by simp [widV, widB, h]
theorem widE_ok {l : List UInt8} (h : widBad l = false) : widV l = numV 10 l ∧ widB l = numB 10 l := by simp [widV, widB, h]

set_option maxRecDepth 20000 in
set_option maxHeartbeats 1600000 in
theorem widthOf_c (s : ByteArray) (hs : s.size ≤ 60) (w : World) :
    Calls Tryd.prog 51 #[.string s] w fun e w' => e = .returned (.tuple #[.int .i64 (widV s.data.toList), .bool (widB s.data.toList)]) ∧ w = w' := by
  have hl : s.data.toList.length = s.size := by simp
  by_cases h2 : 2 < s.size
  · have hz : decide (2 < (s.size : Int)) = true := by simp; omega
    have HV := Lib.hid (widE_bad (l := s.data.toList) (by unfold widBad; rw [hl]; simp [h2]))
    clear hl h2
    go_enter Tryd.func51, Tryd.ntmps51
    go_wp2
    go_ret2
    exact ⟨tupIB HV.out.1.symm HV.out.2.symm, rfl⟩
  have hz : decide (2 < (s.size : Int)) = false := by simp; omega
  by_cases h3 : s.size = 2
  · have hz2 : ((s.size : Int) == 2) = true := by simp; omega
    have hpos : 0 < s.size := by omega
    have hpi : (0 : Int) < s.size := by omega
    have hd := head_at s hpos
    by_cases h0 : (s[0]'hpos).toNat = 48
    · have h0' : (((s[0]'hpos).toNat : Int) == 48) = true := by simp [h0]
      have HV := Lib.hid (widE_bad (l := s.data.toList) (by unfold widBad; rw [hl, hd, h0, h3]; rfl))
      clear hl h2 h3 hd h0
      go_enter Tryd.func51, Tryd.ntmps51
      go_wp2
      go_ret2
      exact ⟨tupIB HV.out.1.symm HV.out.2.symm, rfl⟩
    · have h0' : (((s[0]'hpos).toNat : Int) == 48) = false := by simp; omega
      have HV := Lib.hid (widE_ok (l := s.data.toList) (by unfold widBad; rw [hl, hd, h3]; simpa using h0))
      clear hl h2 h3 hd h0
      have HN := Lib.hid (fun w => numberOf_c s 10 w (by unfold maxLen; omega) (by decide) (by decide))
      go_enter Tryd.func51, Tryd.ntmps51
      go_wp2_with (go_at_call 53; refine (HN.out _).mono ?_; rintro e w' ⟨rfl, rfl⟩)
      go_ret2
      exact ⟨tupIB HV.out.1.symm HV.out.2.symm, rfl⟩
  · have hz2 : ((s.size : Int) == 2) = false := by simp; omega
    have HV := Lib.hid (widE_ok (l := s.data.toList) (by unfold widBad; rw [hl]; simp [h3]; omega))
    clear hl h2 h3
    have HN := Lib.hid (fun w => numberOf_c s 10 w (by unfold maxLen; omega) (by decide) (by decide))
    go_enter Tryd.func51, Tryd.ntmps51
    go_wp2_with (go_at_call 53; refine (HN.out _).mono ?_; rintro e w' ⟨rfl, rfl⟩)
    go_ret2
    exact ⟨tupIB HV.out.1.symm HV.out.2.symm, rfl⟩

end Go.Proofs.YtlplphigjejahaaDoor
