/-
  Numbers by their bits: plain arithmetic.
-/
import Derived.Test.YtlplphigjejahaaBf
import Derived.Test.YtlplphigjejahaaBp
set_option linter.unusedSimpArgs false
set_option linter.unusedVariables false
namespace Go.Proofs.Ytlplphigjejahaa
open Go.RowKit Go.BigFrame

theorem wl_snoc : ∀ (l : List Int) (b : Int), wl (l ++ [b]) = wl l + b * 2 ^ l.length
  | [], b => by simp [wl]
  | a :: l, b => by
    show 2 * wl (l ++ [b]) + a = 2 * wl l + a + b * 2 ^ (l.length + 1)
    rw [wl_snoc l b, Int.pow_succ, Int.mul_add, ← Int.mul_assoc b, Int.mul_comm (b * 2 ^ l.length) 2]
    omega
theorem wl_bw (f : Int → Int) : ∀ n : Nat, wl ((List.range n).map fun i : Nat => f i) = bw f n
  | 0 => rfl
  | n + 1 => by
    rw [List.range_succ, List.map_append, List.map_singleton, wl_snoc, wl_bw f n]
    simp [bw]
theorem bw_ext {f g : Int → Int} : ∀ {n : Nat}, (∀ i : Nat, i < n → f i = g i) → bw f n = bw g n
  | 0, _ => rfl
  | n + 1, h => by
    simp only [bw]
    rw [bw_ext (n := n) (fun i hi => h i (by omega)), h n (by omega)]
theorem bw_bit (f : Int → Int) (hf : ∀ i, 0 ≤ f i ∧ f i ≤ 1) : ∀ (n i : Nat), i < n → bw f n / 2 ^ i % 2 = f i
  | 0, i, h => absurd h (by omega)
  | n + 1, i, h => by
    have hb := bw_bd f hf n
    have hp : (0 : Int) < 2 ^ i := Int.pow_pos (by decide)
    have hn := hf n
    simp only [bw]
    by_cases e : i = n
    · subst e
      rw [Int.mul_comm, Int.add_mul_ediv_left _ _ (by omega), Int.ediv_eq_zero_of_lt hb.1 hb.2]
      omega
    · have e2 : (2 : Int) ^ n = 2 ^ i * (2 * 2 ^ (n - i - 1)) := by
        rw [← Int.pow_succ', ← Int.pow_add]; congr 1; omega
      rw [e2, Int.mul_comm (f n), Int.mul_assoc, Int.add_mul_ediv_left _ _ (by omega), Int.mul_assoc, Int.add_mul_emod_self_left]
      exact bw_bit f hf n i (by omega)
theorem bw_mod (v : Int) : ∀ k : Nat, bw (fun i => v / 2 ^ i.toNat % 2) k = v % 2 ^ k
  | 0 => by simp [bw]
  | k + 1 => by
    simp only [bw, bw_mod v k, Int.toNat_natCast]
    have hp : (0 : Int) < 2 ^ k := Int.pow_pos (by decide)
    have h1 := Int.mul_ediv_add_emod v (2 ^ k)
    have h2 := Int.mul_ediv_add_emod (v / 2 ^ k) 2
    have h3 := Int.emod_nonneg v (Int.ne_of_gt hp)
    have h4 := Int.emod_lt_of_pos v hp
    have h5 : v / 2 ^ k % 2 = 0 ∨ v / 2 ^ k % 2 = 1 := by omega
    have e : v = (v % 2 ^ k + v / 2 ^ k % 2 * 2 ^ k) + 2 ^ (k + 1) * (v / 2 ^ k / 2) := by
      rw [Int.pow_succ, Int.mul_assoc]
      have h6 : (2 : Int) ^ k * (2 * (v / 2 ^ k / 2) + v / 2 ^ k % 2) = 2 ^ k * (v / 2 ^ k) := by rw [h2]
      rw [Int.mul_add, Int.mul_comm _ (v / 2 ^ k % 2)] at h6
      omega
    have h7 := Int.add_mul_emod_self_left (v % 2 ^ k + v / 2 ^ k % 2 * 2 ^ k) (2 ^ (k + 1)) (v / 2 ^ k / 2)
    rw [← e] at h7
    refine (h7.trans (Int.emod_eq_of_lt ?_ ?_)).symm
    · rcases h5 with h | h <;> rw [h] <;> omega
    · rw [Int.pow_succ]; rcases h5 with h | h <;> rw [h] <;> omega
theorem bw_self {v : Int} {k : Nat} (h0 : 0 ≤ v) (h1 : v < 2 ^ k) : bw (fun i => v / 2 ^ i.toNat % 2) k = v := by
  rw [bw_mod, Int.emod_eq_of_lt h0 h1]
end Go.Proofs.Ytlplphigjejahaa
