/-
  Contracts of the reference of chapter 1: the value of a string, its loop (built for the door seat only).
-/
import Derived.Test.YtlplphigjejahaaDoorSo
set_option linter.unusedSimpArgs false
set_option linter.unusedVariables false
namespace Go.Proofs.YtlplphigjejahaaDoor
open Go.RowKit Go.BigFrame

theorem run_us_yes {b : Int} {t : Num} {c : UInt8} (h : c.toNat = 95) (ha : t.a = true) : numStep b (some t) c = some ⟨t.v, t.n, false⟩ := by simp [numStep, h, ha]
theorem run_us_no {b : Int} {t : Num} {c : UInt8} (h : c.toNat = 95) (ha : t.a = false) : numStep b (some t) c = none := by simp [numStep, h, ha]
theorem run_bad {b : Int} {t : Num} {c : UInt8} (h : ¬ c.toNat = 95) (hd : digI (c.toNat : Int) < 0 ∨ b ≤ digI (c.toNat : Int)) : numStep b (some t) c = none := by simp only [numStep]; rw [if_neg h, if_pos hd]
theorem run_ok {b : Int} {t : Num} {c : UInt8} (h : ¬ c.toNat = 95) (hd : ¬ (digI (c.toNat : Int) < 0 ∨ b ≤ digI (c.toNat : Int))) : numStep b (some t) c = some ⟨min (t.v * b + digI (c.toNat : Int)) 65536, t.n + 1, true⟩ := by simp only [numStep]; rw [if_neg h, if_neg hd]
theorem numB_none {b : Int} {l : List UInt8} (h : numRun b l = none) : numB b l = false := by simp [numB, h]
theorem numB_some {b : Int} {l : List UInt8} {t : Num} (h : numRun b l = some t) : numB b l = (t.a && decide (t.n ≤ 20)) ∧ numV b l = t.v := by simp [numB, numV, h]
theorem take_all (s : ByteArray) (k : Nat) (h : s.size ≤ k) : s.data.toList.take k = s.data.toList := List.take_of_length_le (by simpa using h)
theorem win_yes {d hi : Int} (h0 : 0 ≤ d) (h1 : d ≤ hi) : win d 0 hi = true := by simp [win, h0, h1]
theorem win_no {d hi : Int} (h : d < 0 ∨ hi < d) : win d 0 hi = false := by simp [win]; omega

end Go.Proofs.YtlplphigjejahaaDoor
