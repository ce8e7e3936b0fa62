/-
  Contracts of the functions of chapter 1 (twenty-first part: counts by visiting each one).
-/
import Derived.Test.YtlplphigjejahaaBD
set_option linter.unusedSimpArgs false
set_option linter.unusedVariables false
namespace Go.Proofs.Ytlplphigjejahaa
open Go.RowKit Go.BigFrame

/-- The first and the last place of a one below k, and how many there are. -/
def cst (n v : Int) : Nat → Int × Int × Int
  | 0 => (n, -1, 0)
  | k + 1 => if bitI n v k = 1 then (min (cst n v k).1 k, k, (cst n v k).2.2 + 1) else cst n v k
theorem cst_bd {n v : Int} (hn : 0 ≤ n) : ∀ k : Nat, 0 ≤ (cst n v k).1 ∧ (cst n v k).1 ≤ n ∧ -1 ≤ (cst n v k).2.1 ∧ (cst n v k).2.1 < k ∧ 0 ≤ (cst n v k).2.2 ∧ (cst n v k).2.2 ≤ k
  | 0 => by simp [cst]; omega
  | k + 1 => by
    have ih := cst_bd (v := v) hn k
    simp only [cst]
    split
    · refine ⟨?_, ?_, ?_, ?_, ?_, ?_⟩ <;> (try simp only []) <;> omega
    · omega
/-- The place that was visited last, or 0. -/
def ist (n v : Int) (k : Nat) : Int := if (cst n v k).2.2 = 0 then 0 else (cst n v k).2.1
theorem cst_one {n v : Int} : ∀ k : Nat, (k : Int) ≤ n → ((cst n v k).2.2 = 0 → (cst n v k).1 = n) ∧ ((cst n v k).2.2 = 1 → (cst n v k).1 = (cst n v k).2.1)
  | 0, _ => by simp [cst]
  | k + 1, h => by
    obtain ⟨i0, i1⟩ := cst_one (n := n) (v := v) k (by omega)
    have hb := cst_bd (n := n) (v := v) (by omega) k
    simp only [cst]
    split
    · refine ⟨fun h1 => ?_, fun h1 => ?_⟩
      · simp only [] at h1; omega
      · simp only [] at h1 ⊢
        have := i0 (by omega)
        omega
    · exact ⟨i0, i1⟩
theorem ist_succ {n v : Int} (hn : 0 ≤ n) (k : Nat) : ist n v (k + 1) = if bitI n v k = 1 then (k : Int) else ist n v k := by
  have hb := cst_bd (v := v) hn k
  unfold ist
  simp only [cst]
  split
  · simp only []; rw [if_neg (by omega)]
  · rfl


theorem one_set {w : World} {G : Nat} {a c : Value} {T : TypeId} (h : w.heap[G]? = some (.cells #[a] T)) : (w.setCell ⟨G, 0, none⟩ c).heap[G]? = some (.cells #[c] T) := ((Setted.start h).step 0 c).here

set_option maxRecDepth 20000 in
set_option maxHeartbeats 1600000 in
theorem CountsOf1_c (i f l o : Int) (B b1 b2 b3 : Nat) (w : World) (hi : 0 ≤ i) (hi2 : i ≤ 15) (ho : 0 ≤ o) (ho2 : o ≤ 100) (hB1 : B ≤ b1) (hB2 : B ≤ b2) (hB3 : B ≤ b3) (n1 : b1 < b2) (n2 : b2 < b3)
    (m1 : w.heap[b1]? = some (.cells #[.int .i64 f] 3)) (m2 : w.heap[b2]? = some (.cells #[.int .i64 l] 3)) (m3 : w.heap[b3]? = some (.cells #[.int .i64 o] 3)) :
    Calls Try.prog 84 #[.int .i64 i, .pointer (some ⟨b1, 0, none⟩), .pointer (some ⟨b2, 0, none⟩), .pointer (some ⟨b3, 0, none⟩)] w
      fun e w' => e = .returned (.tuple #[]) ∧ Below B w w' ∧ (∀ k, ¬ b1 = k → ¬ b2 = k → ¬ b3 = k → w'.heap[k]? = w.heap[k]?) ∧ w'.heap[b1]? = some (.cells #[.int .i64 (min f i)] 3) ∧ w'.heap[b2]? = some (.cells #[.int .i64 i] 3) ∧ w'.heap[b3]? = some (.cells #[.int .i64 (o + 1)] 3) := by
  have q1 := cell_block (i := 0) m1
  have q2 := cell_block (i := 0) m2
  have q3 := cell_block (i := 0) m3
  have f1 := free_block (i := 0) m1
  have f2 := free_block (i := 0) m2
  have f3 := free_block (i := 0) m3
  simp at q1 q2 q3
  have M1 := Lib.hid m1
  have M2 := Lib.hid m2
  have M3 := Lib.hid m3
  clear m1 m2 m3
  have e12 : ¬ b1 = b2 := by omega
  have e13 : ¬ b1 = b3 := by omega
  have e23 : ¬ b2 = b3 := by omega
  go_enter Try.func84, Try.ntmps84
  go_wp2
  all_goals
    go_end0
    refine ⟨rfl, (((Below.refl _ _).setCell hB1 _).setCell hB2 _).setCell hB3 _, fun k k1 k2 k3 => by rw [heap_setCell_ne k3, heap_setCell_ne k2, heap_setCell_ne k1], ?_, ?_, ?_⟩
    · rw [heap_setCell_ne (by omega), heap_setCell_ne (by omega), show min f i = _ from by first | exact Int.min_eq_right (by omega) | exact Int.min_eq_left (by omega)]; exact one_set M1.out
    · rw [heap_setCell_ne (by omega)]; exact one_set (by rw [heap_setCell_ne (by omega)]; exact M2.out)
    · exact one_set (by rw [heap_setCell_ne (by omega), heap_setCell_ne (by omega)]; exact M3.out)

set_option maxRecDepth 20000 in
set_option maxHeartbeats 1600000 in
theorem IndexOf1_c (i f o : Int) (B b1 b2 : Nat) (w : World) (hi : 0 ≤ i) (hi2 : i ≤ 15) (ho : 0 ≤ o) (ho2 : o ≤ 100) (hB1 : B ≤ b1) (hB2 : B ≤ b2) (n1 : b1 < b2)
    (m1 : w.heap[b1]? = some (.cells #[.int .i64 f] 3)) (m2 : w.heap[b2]? = some (.cells #[.int .i64 o] 3)) :
    Calls Try.prog 85 #[.int .i64 i, .pointer (some ⟨b1, 0, none⟩), .pointer (some ⟨b2, 0, none⟩)] w
      fun e w' => e = .returned (.tuple #[]) ∧ Below B w w' ∧ (∀ k, ¬ b1 = k → ¬ b2 = k → w'.heap[k]? = w.heap[k]?) ∧ w'.heap[b1]? = some (.cells #[.int .i64 i] 3) ∧ w'.heap[b2]? = some (.cells #[.int .i64 (o + 1)] 3) := by
  have q1 := cell_block (i := 0) m1
  have q2 := cell_block (i := 0) m2
  have f1 := free_block (i := 0) m1
  have f2 := free_block (i := 0) m2
  simp at q1 q2
  have M1 := Lib.hid m1
  have M2 := Lib.hid m2
  clear m1 m2
  have e12 : ¬ b1 = b2 := by omega
  go_enter Try.func85, Try.ntmps85
  go_wp2
  all_goals
    go_end0
    refine ⟨rfl, ((Below.refl _ _).setCell hB1 _).setCell hB2 _, fun k k1 k2 => by rw [heap_setCell_ne k2, heap_setCell_ne k1], ?_, ?_⟩
    · rw [heap_setCell_ne (by omega)]; exact one_set M1.out
    · exact one_set (by rw [heap_setCell_ne (by omega)]; exact M2.out)


theorem _root_.Go.RowKit.Below.block' {B : Nat} {w w' : World} {k : Nat} {ob : Obj} (h : Below B w w') (hk : w.heap[k]? = some ob) (hB : k < B) : w'.heap[k]? = some ob := (h.block k hB).trans hk

set_option maxRecDepth 20000 in
set_option maxHeartbeats 1600000 in
theorem eachOne_Counts (n : Nat) (v : Int) (B b1 b2 b3 : Nat) (w : World) (h1 : 1 ≤ n) (h2 : n ≤ 16) (hB1 : B ≤ b1) (hB2 : B ≤ b2) (hB3 : B ≤ b3) (n1 : b1 < b2) (n2 : b2 < b3) (hBw : B ≤ w.heap.size) (m1 : w.heap[b1]? = some (.cells #[.int .i64 (cst n v 0).1] 3)) (m2 : w.heap[b2]? = some (.cells #[.int .i64 (cst n v 0).2.1] 3)) (m3 : w.heap[b3]? = some (.cells #[.int .i64 (cst n v 0).2.2] 3)) :
    Calls Try.prog 83 #[.agg #[.int .i64 n, .int .i64 v], .func (.func 84) #[] #[.pointer (some ⟨b1, 0, none⟩), .pointer (some ⟨b2, 0, none⟩), .pointer (some ⟨b3, 0, none⟩)]] w fun e w' => e = .returned (.tuple #[]) ∧ Below B w w' ∧ w'.heap[b1]? = some (.cells #[.int .i64 (cst n v n).1] 3) ∧ w'.heap[b2]? = some (.cells #[.int .i64 (cst n v n).2.1] 3) ∧ w'.heap[b3]? = some (.cells #[.int .i64 (cst n v n).2.2] 3) := by
  have l1 := lt_of_get m1
  have l2 := lt_of_get m2
  have l3 := lt_of_get m3
  go_enter Try.func83, Try.ntmps83
  go_wp2
  go_loopw [7] (fun v7 wr => ∃ k : Nat, k ≤ n ∧ v7 = .int .i64 k ∧ Below B (w.alloc (.cells #[.int .i64 n, .int .i64 v] 23)) wr ∧ wr.heap[w.heap.size]? = some (.cells #[.int .i64 n, .int .i64 v] 23) ∧ wr.heap[b1]? = some (.cells #[.int .i64 (cst n v k).1] 3) ∧ wr.heap[b2]? = some (.cells #[.int .i64 (cst n v k).2.1] 3) ∧ wr.heap[b3]? = some (.cells #[.int .i64 (cst n v k).2.2] 3)) (fun v7 _ => n - (intOf v7).toNat)
  case atStart => exact ⟨0, by omega, rfl, Below.refl _ _, heap_alloc_new _ _, heap_alloc' l1 m1, heap_alloc' l2 m2, heap_alloc' l3 m3⟩
  case round =>
    obtain ⟨k, hk, rfl, hb, ma, m1, m2, m3⟩ := hrel
    have hbd := cst_bd (n := n) (v := v) (by omega) k
    have qa0 := cell_block (i := 0) ma
    have qa1 := cell_block (i := 1) ma
    have fa0 := free_block (i := 0) ma
    have fa1 := free_block (i := 1) ma
    simp at qa0 qa1
    have la := lt_of_get ma
    have hbs := hb.size
    by_cases hlt : k < n
    · have hbit := bitI_bd n v k
      have hs := Lib.hid (show cst n v (k + 1) = if bitI n v k = 1 then (min (cst n v k).1 (k : Int), (k : Int), (cst n v k).2.2 + 1) else cst n v k from rfl)
      have hi := Lib.hid (ist_succ (n := n) (v := v) (by omega) k)
      by_cases h0 : bitI n v k = 1
      · have hz1 : (bitI n v k == 1) = true := by simpa using h0
        have H0 := Lib.hid h0
        have MA := Lib.hid ma
        have Hm1 := Lib.hid m1
        have Lm1 := lt_of_get m1
        clear m1
        have Hm2 := Lib.hid m2
        have Lm2 := lt_of_get m2
        clear m2
        have Hm3 := Lib.hid m3
        have Lm3 := lt_of_get m3
        clear m3
        clear h0 ma
        go_wp2_with fail
        refine (bitAt_c _ _ _ (by omega) _).mono ?_
        rintro e w' ⟨rfl, x, rfl⟩
        have MA2 : x.val.heap[w.heap.size]? = some (.cells #[.int .i64 n, .int .i64 v] 23) := by rw [x.pf.block _ la]; exact MA.out
        have m1' := (x.pf.block _ Lm1).trans Hm1.out
        have m2' := (x.pf.block _ Lm2).trans Hm2.out
        have m3' := (x.pf.block _ Lm3).trans Hm3.out
        have hx := x.pf.size
        have hbx := hb.trans (x.pf.mono (by have := hb.size; simp at this; omega))
        have MA3 := Lib.hid MA2
        clear MA2 qa0 qa1 fa0 fa1
        generalize x.val = W2 at *
        go_wp2_with fail
        refine (CountsOf1_c k (cst n v k).1 (cst n v k).2.1 (cst n v k).2.2 B b1 b2 b3 _ (by omega) (by omega) (by omega) (by omega) hB1 hB2 hB3 n1 n2 m1' m2' m3').mono ?_
        rintro e W3 ⟨rfl, hb3, hsm, r1, r2, r3⟩
        have MA4 := Lib.hid ((hsm w.heap.size (by omega) (by omega) (by omega)).trans MA3.out)
        clear hsm
        go_wp2
        go_roundw
        case rel => exact ⟨k + 1, by omega, by go_num, hbx.trans hb3, MA4.out, by rw [hs.out, if_pos H0.out]; exact r1, by rw [hs.out, if_pos H0.out]; exact r2, by rw [hs.out, if_pos H0.out]; exact r3⟩
        case measure => simp [intOf]; omega
      · have hz1 : (bitI n v k == 1) = false := by simpa using h0
        have H0 := Lib.hid h0
        have MA := Lib.hid ma
        have Hm1 := Lib.hid m1
        have Lm1 := lt_of_get m1
        clear m1
        have Hm2 := Lib.hid m2
        have Lm2 := lt_of_get m2
        clear m2
        have Hm3 := Lib.hid m3
        have Lm3 := lt_of_get m3
        clear m3
        clear h0 ma
        go_wp2_with fail
        refine (bitAt_c _ _ _ (by omega) _).mono ?_
        rintro e w' ⟨rfl, x, rfl⟩
        have MA2 : x.val.heap[w.heap.size]? = some (.cells #[.int .i64 n, .int .i64 v] 23) := by rw [x.pf.block _ la]; exact MA.out
        have m1' := (x.pf.block _ Lm1).trans Hm1.out
        have m2' := (x.pf.block _ Lm2).trans Hm2.out
        have m3' := (x.pf.block _ Lm3).trans Hm3.out
        have hbx := hb.trans (x.pf.mono (by have := hb.size; simp at this; omega))
        have MA3 := Lib.hid MA2
        clear MA2 qa0 qa1 fa0 fa1
        generalize x.val = W2 at *
        go_wp2
        go_roundw
        case rel => exact ⟨k + 1, by omega, by go_num, hbx, MA3.out, by rw [hs.out, if_neg H0.out]; exact m1', by rw [hs.out, if_neg H0.out]; exact m2', by rw [hs.out, if_neg H0.out]; exact m3'⟩
        case measure => simp [intOf]; omega
    · obtain rfl : k = n := by omega
      go_wp2
      go_end0
      exact ⟨rfl, ((Below.refl _ _).alloc hBw _).trans hb, m1, m2, m3⟩

set_option maxRecDepth 20000 in
set_option maxHeartbeats 1600000 in
theorem eachOne_Index (n : Nat) (v : Int) (B b1 b2 : Nat) (w : World) (h1 : 1 ≤ n) (h2 : n ≤ 16) (hB1 : B ≤ b1) (hB2 : B ≤ b2) (n1 : b1 < b2) (hBw : B ≤ w.heap.size) (m1 : w.heap[b1]? = some (.cells #[.int .i64 (ist n v 0)] 3)) (m2 : w.heap[b2]? = some (.cells #[.int .i64 (cst n v 0).2.2] 3)) :
    Calls Try.prog 83 #[.agg #[.int .i64 n, .int .i64 v], .func (.func 85) #[] #[.pointer (some ⟨b1, 0, none⟩), .pointer (some ⟨b2, 0, none⟩)]] w fun e w' => e = .returned (.tuple #[]) ∧ Below B w w' ∧ w'.heap[b1]? = some (.cells #[.int .i64 (ist n v n)] 3) ∧ w'.heap[b2]? = some (.cells #[.int .i64 (cst n v n).2.2] 3) := by
  have l1 := lt_of_get m1
  have l2 := lt_of_get m2
  go_enter Try.func83, Try.ntmps83
  go_wp2
  go_loopw [7] (fun v7 wr => ∃ k : Nat, k ≤ n ∧ v7 = .int .i64 k ∧ Below B (w.alloc (.cells #[.int .i64 n, .int .i64 v] 23)) wr ∧ wr.heap[w.heap.size]? = some (.cells #[.int .i64 n, .int .i64 v] 23) ∧ wr.heap[b1]? = some (.cells #[.int .i64 (ist n v k)] 3) ∧ wr.heap[b2]? = some (.cells #[.int .i64 (cst n v k).2.2] 3)) (fun v7 _ => n - (intOf v7).toNat)
  case atStart => exact ⟨0, by omega, rfl, Below.refl _ _, heap_alloc_new _ _, heap_alloc' l1 m1, heap_alloc' l2 m2⟩
  case round =>
    obtain ⟨k, hk, rfl, hb, ma, m1, m2⟩ := hrel
    have hbd := cst_bd (n := n) (v := v) (by omega) k
    have qa0 := cell_block (i := 0) ma
    have qa1 := cell_block (i := 1) ma
    have fa0 := free_block (i := 0) ma
    have fa1 := free_block (i := 1) ma
    simp at qa0 qa1
    have la := lt_of_get ma
    have hbs := hb.size
    by_cases hlt : k < n
    · have hbit := bitI_bd n v k
      have hs := Lib.hid (show cst n v (k + 1) = if bitI n v k = 1 then (min (cst n v k).1 (k : Int), (k : Int), (cst n v k).2.2 + 1) else cst n v k from rfl)
      have hi := Lib.hid (ist_succ (n := n) (v := v) (by omega) k)
      by_cases h0 : bitI n v k = 1
      · have hz1 : (bitI n v k == 1) = true := by simpa using h0
        have H0 := Lib.hid h0
        have MA := Lib.hid ma
        have Hm1 := Lib.hid m1
        have Lm1 := lt_of_get m1
        clear m1
        have Hm2 := Lib.hid m2
        have Lm2 := lt_of_get m2
        clear m2
        clear h0 ma
        go_wp2_with fail
        refine (bitAt_c _ _ _ (by omega) _).mono ?_
        rintro e w' ⟨rfl, x, rfl⟩
        have MA2 : x.val.heap[w.heap.size]? = some (.cells #[.int .i64 n, .int .i64 v] 23) := by rw [x.pf.block _ la]; exact MA.out
        have m1' := (x.pf.block _ Lm1).trans Hm1.out
        have m2' := (x.pf.block _ Lm2).trans Hm2.out
        have hx := x.pf.size
        have hbx := hb.trans (x.pf.mono (by have := hb.size; simp at this; omega))
        have MA3 := Lib.hid MA2
        clear MA2 qa0 qa1 fa0 fa1
        generalize x.val = W2 at *
        go_wp2_with fail
        refine (IndexOf1_c k (ist n v k) (cst n v k).2.2 B b1 b2 _ (by omega) (by omega) (by omega) (by omega) hB1 hB2 n1 m1' m2').mono ?_
        rintro e W3 ⟨rfl, hb3, hsm, r1, r2⟩
        have MA4 := Lib.hid ((hsm w.heap.size (by omega) (by omega)).trans MA3.out)
        clear hsm
        go_wp2
        go_roundw
        case rel => exact ⟨k + 1, by omega, by go_num, hbx.trans hb3, MA4.out, by rw [hi.out, if_pos H0.out]; exact r1, by rw [hs.out, if_pos H0.out]; exact r2⟩
        case measure => simp [intOf]; omega
      · have hz1 : (bitI n v k == 1) = false := by simpa using h0
        have H0 := Lib.hid h0
        have MA := Lib.hid ma
        have Hm1 := Lib.hid m1
        have Lm1 := lt_of_get m1
        clear m1
        have Hm2 := Lib.hid m2
        have Lm2 := lt_of_get m2
        clear m2
        clear h0 ma
        go_wp2_with fail
        refine (bitAt_c _ _ _ (by omega) _).mono ?_
        rintro e w' ⟨rfl, x, rfl⟩
        have MA2 : x.val.heap[w.heap.size]? = some (.cells #[.int .i64 n, .int .i64 v] 23) := by rw [x.pf.block _ la]; exact MA.out
        have m1' := (x.pf.block _ Lm1).trans Hm1.out
        have m2' := (x.pf.block _ Lm2).trans Hm2.out
        have hbx := hb.trans (x.pf.mono (by have := hb.size; simp at this; omega))
        have MA3 := Lib.hid MA2
        clear MA2 qa0 qa1 fa0 fa1
        generalize x.val = W2 at *
        go_wp2
        go_roundw
        case rel => exact ⟨k + 1, by omega, by go_num, hbx, MA3.out, by rw [hi.out, if_neg H0.out]; exact m1', by rw [hs.out, if_neg H0.out]; exact m2'⟩
        case measure => simp [intOf]; omega
    · obtain rfl : k = n := by omega
      go_wp2
      go_end0
      exact ⟨rfl, ((Below.refl _ _).alloc hBw _).trans hb, m1, m2⟩

end Go.Proofs.Ytlplphigjejahaa
