/-
  Gray codes as numbers: plain arithmetic.
-/
import Derived.Test.YtlplphigjejahaaBr
set_option linter.unusedSimpArgs false
set_option linter.unusedVariables false
namespace Go.Proofs.Ytlplphigjejahaa
open Go.RowKit Go.BigFrame

theorem fl_eq (a b : Bool) : (fl a != fl b) = (a != b) := by cases a <;> cases b <;> rfl
theorem nbit (x i : Nat) : (x : Int) / 2 ^ i % 2 = fl (x.testBit i) := by
  rw [Nat.testBit_eq_decide_div_mod_eq]
  have e : (x : Int) / 2 ^ i % 2 = ((x / 2 ^ i % 2 : Nat) : Int) := by simp
  rw [e]
  have : x / 2 ^ i % 2 < 2 := Nat.mod_lt _ (by decide)
  unfold fl
  split
  · rename_i h; simp at h; rw [h]; rfl
  · rename_i h; simp at h; omega
theorem bitI_nat {n x i : Nat} (h : x < 2 ^ n) : bitI n x i = fl (x.testBit i) := by
  by_cases hi : i < n
  · rw [bitI_in (by omega) (by omega), Int.toNat_natCast, nbit]
  · rw [bitI_out (by omega), Nat.testBit_lt_two_pow (Nat.lt_of_lt_of_le h (Nat.pow_le_pow_right (by decide) (by omega)))]; rfl
/-- The bit of a Gray code. -/
def gB (wd v i : Int) : Int := fl (bitI wd v i != bitI wd v (i + 1))
theorem gB_bd (wd v i : Int) : 0 ≤ gB wd v i ∧ gB wd v i ≤ 1 := fl_bd _
theorem xor01 {a b : Int} (a0 : 0 ≤ a) (a1 : a ≤ 1) (b0 : 0 ≤ b) (b1 : b ≤ 1) : bits .xor .i64 a b = fl (a != b) := by
  have ha : a = 0 ∨ a = 1 := by omega
  have hb : b = 0 ∨ b = 1 := by omega
  rcases ha with rfl | rfl <;> rcases hb with rfl | rfl <;> rfl
def gray (x : Nat) : Nat := x ^^^ x / 2
theorem gray_lt {n x : Nat} (h : x < 2 ^ n) : gray x < 2 ^ n := Nat.xor_lt_two_pow h (by omega)
theorem gray_bit (x i : Nat) : (gray x).testBit i = (x.testBit i != x.testBit (i + 1)) := by
  unfold gray; rw [Nat.testBit_xor, Nat.testBit_succ]
theorem gB_nat {n x i : Nat} (h : x < 2 ^ n) : gB n x i = fl ((gray x).testBit i) := by
  unfold gB
  rw [bitI_nat h, show (i : Int) + 1 = ((i + 1 : Nat) : Int) by omega, bitI_nat h, fl_eq, gray_bit]
theorem bw_gray {n x : Nat} (h : x < 2 ^ n) : bw (fun i => gB n x i) n = (gray x : Int) := by
  have hg : ((gray x : Nat) : Int) < 2 ^ n := by
    have := gray_lt h
    have e : ((2 : Int) ^ n) = ((2 ^ n : Nat) : Int) := by simp
    rw [e]; omega
  refine Eq.trans (bw_ext fun i hi => ?_) (bw_self (v := (gray x : Int)) (by omega) hg)
  show gB n x i = (gray x : Int) / 2 ^ ((i : Nat) : Int).toNat % 2
  rw [gB_nat h, Int.toNat_natCast, nbit]

/-- The value with a Gray code, of at most so many bits. -/
def ug : Nat → Nat → Nat
  | 0, _ => 0
  | k + 1, u => u ^^^ ug k (u / 2)
theorem ug_zero : ∀ k, ug k 0 = 0
  | 0 => rfl
  | k + 1 => by simp [ug, ug_zero k]
theorem ug_lt : ∀ {k u : Nat}, u < 2 ^ k → ug k u < 2 ^ k
  | 0, _, _ => by simp [ug]
  | k + 1, u, h => Nat.xor_lt_two_pow h (Nat.lt_of_lt_of_le (ug_lt (by rw [Nat.pow_succ] at h; omega)) (Nat.pow_le_pow_right (by decide) (by omega)))
theorem xor_half (a b : Nat) : (a ^^^ b) / 2 = a / 2 ^^^ b / 2 := by
  have := Nat.shiftRight_xor_distrib (a := a) (b := b) (i := 1)
  simpa [Nat.shiftRight_succ] using this
theorem ug_half : ∀ {k u : Nat}, u < 2 ^ (k + 1) → ug (k + 1) u / 2 = ug k (u / 2)
  | 0, u, h => by
    have : u = 0 ∨ u = 1 := by omega
    rcases this with rfl | rfl <;> rfl
  | k + 1, u, h => by
    have h2 : u / 2 < 2 ^ (k + 1) := by rw [Nat.pow_succ] at h; omega
    have ih := ug_half h2
    show (u ^^^ ug (k + 1) (u / 2)) / 2 = _
    rw [xor_half, ih]
    rfl
theorem ug_fix {n u : Nat} (h : u < 2 ^ n) : ug n u = u ^^^ ug n u / 2 := by
  cases n with
  | zero => have : u = 0 := by omega
            subst this; rfl
  | succ k => rw [ug_half h]; rfl
theorem half_uniq : ∀ (x : Nat), x = x / 2 → x = 0 := by omega
theorem ug_uniq {g x y : Nat} (hx : x = g ^^^ x / 2) (hy : y = g ^^^ y / 2) : x = y := by
  have h : (x ^^^ y) = (x ^^^ y) / 2 := by
    rw [xor_half]
    conv => lhs; rw [hx, hy]
    rw [Nat.xor_comm g, Nat.xor_assoc, ← Nat.xor_assoc g g, Nat.xor_self, Nat.zero_xor]
  have h0 := half_uniq _ h
  refine Nat.eq_of_testBit_eq fun i => ?_
  have h1 : (x ^^^ y).testBit i = false := by rw [h0]; simp
  rw [Nat.testBit_xor] at h1
  revert h1
  cases x.testBit i <;> cases y.testBit i <;> simp
theorem ug_gray {n x : Nat} (h : x < 2 ^ n) : ug n (gray x) = x := by
  refine ug_uniq (ug_fix (gray_lt h)) ?_
  unfold gray
  rw [Nat.xor_assoc, Nat.xor_self, Nat.xor_zero]
theorem ug_bit {n u : Nat} (h : u < 2 ^ n) (i : Nat) : (ug n u).testBit i = (u.testBit i != (ug n u).testBit (i + 1)) := by
  conv => lhs; rw [ug_fix h]
  rw [Nat.testBit_xor, Nat.testBit_succ]

/-- In how many of the lowest bits two numbers differ. -/
def dc : Nat → Nat → Nat → Int
  | 0, _, _ => 0
  | k + 1, x, y => dc k (x / 2) (y / 2) + fl (x.testBit 0 != y.testBit 0)
theorem dc_succ (k x y : Nat) : dc (k + 1) x y = dc k (x / 2) (y / 2) + fl (x.testBit 0 != y.testBit 0) := rfl
theorem dc_self : ∀ k x, dc k x x = 0
  | 0, _ => rfl
  | k + 1, x => by simp [dc, dc_self k, fl]
theorem gray_half (x : Nat) : gray x / 2 = gray (x / 2) := by unfold gray; rw [xor_half]
theorem gray_zero (x : Nat) : (gray x).testBit 0 = decide ((x + x / 2) % 2 = 1) := by
  rw [gray_bit]
  simp only [Nat.testBit_zero, Nat.testBit_succ]
  by_cases h1 : x % 2 = 1 <;> by_cases h2 : x / 2 % 2 = 1 <;> simp [h1, h2] <;> omega
theorem dc_next : ∀ {n v : Nat}, v < 2 ^ (n + 1) → dc (n + 1) (gray v) (gray ((v + 1) % 2 ^ (n + 1))) = 1
  | 0, v, h => by
    have : v = 0 ∨ v = 1 := by omega
    rcases this with rfl | rfl <;> decide
  | n + 1, v, h => by
    have hp : 2 ^ (n + 1 + 1) = 2 * 2 ^ (n + 1) := by rw [Nat.pow_succ]; omega
    have hq : 2 ^ (n + 1) = 2 * 2 ^ n := by rw [Nat.pow_succ]; omega
    have hq0 : 0 < 2 ^ n := Nat.pow_pos (by decide)
    rw [dc_succ, gray_half, gray_half, gray_zero, gray_zero]
    by_cases hv : v % 2 = 0
    · have e : (v + 1) % 2 ^ (n + 1 + 1) = v + 1 := Nat.mod_eq_of_lt (by omega)
      rw [e, show (v + 1) / 2 = v / 2 by omega]
      rw [dc_self]
      have : (decide ((v + v / 2) % 2 = 1) != decide ((v + 1 + v / 2) % 2 = 1)) = true := by
        by_cases h1 : (v + v / 2) % 2 = 1
        · simp [h1]; omega
        · simp [h1]; omega
      rw [this]; rfl
    · have ih := dc_next (n := n) (v := v / 2) (by omega)
      have e : (v + 1) % 2 ^ (n + 1 + 1) / 2 = (v / 2 + 1) % 2 ^ (n + 1) := by
        rw [hp, show v + 1 = 2 * (v / 2 + 1) by omega, Nat.mul_mod_mul_left, Nat.mul_div_cancel_left _ (by decide)]
      have e0 : (v + 1) % 2 ^ (n + 1 + 1) % 2 = 0 := by
        rw [hp, Nat.mod_mul_right_mod]; omega
      have e1 : (v / 2 + 1) % 2 ^ (n + 1) % 2 = (v / 2 + 1) % 2 := by rw [hq, Nat.mod_mul_right_mod]
      rw [e, ih]
      have : (decide ((v + v / 2) % 2 = 1) != decide (((v + 1) % 2 ^ (n + 1 + 1) + (v / 2 + 1) % 2 ^ (n + 1)) % 2 = 1)) = false := by
        by_cases h1 : (v + v / 2) % 2 = 1
        · simp [h1]; omega
        · simp [h1]; omega
      rw [this]; rfl
/-- The same, counted from the highest bit on. -/
theorem dc_top {n j x y : Nat} (h : j < n) : dc (j + 1) (x / 2 ^ (n - (j + 1))) (y / 2 ^ (n - (j + 1))) = dc j (x / 2 ^ (n - j)) (y / 2 ^ (n - j)) + fl (x.testBit (n - 1 - j) != y.testBit (n - 1 - j)) := by
  have e : ∀ z : Nat, z / 2 ^ (n - (j + 1)) / 2 = z / 2 ^ (n - j) := fun z => by
    rw [Nat.div_div_eq_div_mul, ← Nat.pow_succ]; congr 2; omega
  have e2 : ∀ z : Nat, (z / 2 ^ (n - (j + 1))).testBit 0 = z.testBit (n - 1 - j) := fun z => by
    rw [← Nat.shiftRight_eq_div_pow, Nat.testBit_shiftRight]; congr 1; omega
  simp only [dc, e, e2]
end Go.Proofs.Ytlplphigjejahaa
