/-
  Chapter 2 (graph): the reference's operations give what the code's give: arithmetic without a walk.
-/
import Derived.Test.YtkdonapgonegkaaDoorQF
import Derived.Test.YtkdonapgonegkaaDoorQA
set_option linter.unusedSimpArgs false
set_option linter.unusedVariables false
namespace Go.Proofs.YtkdonapgonegkaaDoor
open Go.RowKit Go.BigFrame

/-- A number with a sign, as the reference has it. -/
def sgS (wd v : Int) : Int := if pw (wd - 1) ≤ v then v - pw wd else v
theorem sgS_eq (wd v : Int) : sgS wd v = sgG wd v := by
  unfold sgS sgG
  by_cases h : pw (wd - 1) ≤ v
  · rw [if_pos h, if_pos (by omega)]; omega
  · rw [if_neg h, if_neg (by omega)]
/-- What an operation from 2 on gives, as the reference has it. -/
def apG (op wd v aw av bw bv cv : Int) : Int :=
  if op = 2 then pw wd - 1 - av
  else if op = 3 then bits .and .i64 av bv
  else if op = 4 then bits .or .i64 av bv
  else if op = 5 then bits .xor .i64 av bv
  else if op = 6 then (av + bv) % pw wd
  else if op = 7 then (av - bv + pw wd) % pw wd
  else if op = 8 then av * bv % pw wd
  else if op = 9 then fl (av == bv)
  else if op = 10 then fl (decide (av < bv))
  else if op = 11 then fl (decide (sgS aw av < sgS bw bv))
  else if op = 12 then muxG av bv cv
  else if op = 13 then av * pw bw + bv
  else if op = 14 then av / pw v % pw wd
  else if op = 15 then av
  else if op = 16 then (sgS aw av + pw wd) % pw wd
  else if op = 17 then (if wd ≤ bv then 0 else av * pw bv % pw wd)
  else (if wd ≤ bv then 0 else av / pw bv)
theorem xor_neg1 {a : Int} (h0 : 0 ≤ a) (h1 : a < 65536) : bits .xor .i64 (-1) a = -1 - a := by
  obtain ⟨n, rfl⟩ := Int.eq_ofNat_of_zero_le h0
  show IntKind.i64.wrap ((BitVec.ofInt 64 (-1) ^^^ BitVec.ofInt 64 (n : Int)).toNat : Nat) = _
  rw [show BitVec.ofInt 64 (-1) = BitVec.allOnes 64 from by decide, BitVec.allOnes_xor, BitVec.toNat_not, ofInt_u64 n (by omega), IntKind.wrap_i64]
  omega
theorem pwN {wd : Int} (h0 : 0 ≤ wd) : pw wd = ((2 ^ wd.toNat : Nat) : Int) := by unfold pw; simp
theorem pwM {a b : Int} (h0 : 0 ≤ a) (h : a ≤ b) : pw a ≤ pw b := by
  rw [pwN h0, pwN (by omega)]
  exact_mod_cast Nat.pow_le_pow_right (by decide) (by omega)
theorem pwA {a b : Int} (h0 : 0 ≤ a) (h1 : 0 ≤ b) : pw (a + b) = pw a * pw b := by
  unfold pw
  rw [show (a + b).toNat = a.toNat + b.toNat by omega, Int.pow_add]
theorem fl_small (b : Bool) : 0 ≤ fl b ∧ fl b < 2 := by cases b <;> decide
theorem or_join {a b w : Int} (hw0 : 0 ≤ w) (hw1 : w ≤ 16) (a0 : 0 ≤ a) (a1 : a < 65536) (b0 : 0 ≤ b) (b1 : b < pw w) : bits .or .i64 (a * pw w) b = a * pw w + b := by
  obtain ⟨n, rfl⟩ := Int.eq_ofNat_of_zero_le a0
  obtain ⟨m, rfl⟩ := Int.eq_ofNat_of_zero_le b0
  have hp := pw_bd hw0 hw1
  rw [pwN hw0] at *
  generalize hk : w.toNat = k at *
  have hm : m < 2 ^ k := Int.ofNat_lt.1 b1
  have hk2 : 2 ^ k ≤ 65536 := Int.ofNat_le.1 hp.2
  have hn : n < 65536 := by omega
  have hnm : n * 2 ^ k < 2 ^ 62 := by
    calc n * 2 ^ k ≤ 65536 * 65536 := Nat.mul_le_mul (by omega) hk2
      _ < 2 ^ 62 := by decide
  have e : ((n : Int) * ((2 ^ k : Nat) : Int)) = ((n * 2 ^ k : Nat) : Int) := by simp
  rw [e, or_nat _ _ hnm (by omega), ← Nat.shiftLeft_eq, ← Nat.shiftLeft_add_eq_or_of_lt hm]
  simp
theorem apG_res {op wd v aw av bw bv cw cv : Int} (o0 : 2 ≤ op) (o1 : op ≤ 18) (w1 : 1 ≤ wd) (w2 : wd ≤ 16) (hf : fitW op wd v aw bw cw = true)
    (aw0 : 0 ≤ aw) (aw2 : aw ≤ 16) (bw0 : 0 ≤ bw) (bw2 : bw ≤ 16) (a0 : 0 ≤ av) (a1 : av < pw aw) (b0 : 0 ≤ bv) (b1 : bv < pw bw) (c0 : 0 ≤ cv) (c1 : cv < pw cw) :
    apG op wd v aw av bw bv cv = resG op wd v aw av bw bv cv := by
  have hp := pw_bd (n := wd) (by omega) w2
  have hpa := pw_bd aw0 aw2
  have hpb := pw_bd bw0 bw2
  have hcase : op = 2 ∨ op = 3 ∨ op = 4 ∨ op = 5 ∨ op = 6 ∨ op = 7 ∨ op = 8 ∨ op = 9 ∨ op = 10 ∨ op = 11 ∨ op = 12 ∨ op = 13 ∨ op = 14 ∨ op = 15 ∨ op = 16 ∨ op = 17 ∨ op = 18 := by omega
  have nat : ∀ x : Int, 0 ≤ x → x < pw wd → ∃ n : Nat, x = n ∧ n < 2 ^ wd.toNat ∧ n < 2 ^ 62 := by
    intro x x0 x1
    obtain ⟨n, rfl⟩ := Int.eq_ofNat_of_zero_le x0
    have h := x1
    rw [pwN (by omega)] at h
    exact ⟨n, rfl, by exact_mod_cast h, by omega⟩
  have back : ∀ n : Nat, n < 2 ^ wd.toNat → ((n : Nat) : Int) % pw wd = n := by
    intro n hn
    refine Int.emod_eq_of_lt (by omega) ?_
    rw [pwN (by omega)]
    exact_mod_cast hn
  unfold resG
  rcases hcase with rfl | rfl | rfl | rfl | rfl | rfl | rfl | rfl | rfl | rfl | rfl | rfl | rfl | rfl | rfl | rfl | rfl
  · have he : aw = wd := by simpa [fitW] using hf
    subst he
    show pw aw - 1 - av = bits .xor .i64 (-1) av % pw aw
    rw [xor_neg1 a0 (by omega), ← Int.add_emod_right]
    rw [Int.emod_eq_of_lt (by omega) (by omega)]
    omega
  · obtain ⟨rfl, rfl⟩ : aw = wd ∧ bw = wd := by simpa [fitW] using hf
    obtain ⟨n, rfl, hn, hn2⟩ := nat av a0 a1
    obtain ⟨m, rfl, hm, hm2⟩ := nat bv b0 b1
    show bits .and .i64 n m = bits .and .i64 n m % pw bw
    rw [and_nat n m hn2 hm2, back _ (Nat.lt_of_le_of_lt Nat.and_le_left hn)]
  · obtain ⟨rfl, rfl⟩ : aw = wd ∧ bw = wd := by simpa [fitW] using hf
    obtain ⟨n, rfl, hn, hn2⟩ := nat av a0 a1
    obtain ⟨m, rfl, hm, hm2⟩ := nat bv b0 b1
    show bits .or .i64 n m = bits .or .i64 n m % pw bw
    rw [or_nat n m hn2 hm2, back _ (Nat.or_lt_two_pow hn hm)]
  · obtain ⟨rfl, rfl⟩ : aw = wd ∧ bw = wd := by simpa [fitW] using hf
    obtain ⟨n, rfl, hn, hn2⟩ := nat av a0 a1
    obtain ⟨m, rfl, hm, hm2⟩ := nat bv b0 b1
    show bits .xor .i64 n m = bits .xor .i64 n m % pw bw
    rw [xor_nat n m hn2 hm2, back _ (Nat.xor_lt_two_pow hn hm)]
  · rfl
  · show (av - bv + pw wd) % pw wd = (av - bv) % pw wd
    rw [Int.add_emod_right]
  · rfl
  · obtain ⟨_, rfl⟩ : aw = bw ∧ wd = 1 := by simpa [fitW] using hf
    have := fl_small (av == bv)
    exact (Int.emod_eq_of_lt this.1 this.2).symm
  · obtain ⟨_, rfl⟩ : aw = bw ∧ wd = 1 := by simpa [fitW] using hf
    have := fl_small (decide (av < bv))
    exact (Int.emod_eq_of_lt this.1 this.2).symm
  · obtain ⟨_, rfl⟩ : aw = bw ∧ wd = 1 := by simpa [fitW] using hf
    show fl (decide (sgS aw av < sgS bw bv)) = fl (decide (sgG aw av < sgG bw bv)) % pw 1
    rw [sgS_eq, sgS_eq]
    have := fl_small (decide (sgG aw av < sgG bw bv))
    exact (Int.emod_eq_of_lt this.1 this.2).symm
  · obtain ⟨⟨_, rfl⟩, rfl⟩ : (aw = 1 ∧ bw = wd) ∧ cw = wd := by simpa [fitW] using hf
    show muxG av bv cv = muxG av bv cv % pw cw
    unfold muxG
    split
    · exact (Int.emod_eq_of_lt b0 b1).symm
    · exact (Int.emod_eq_of_lt c0 c1).symm
  · have he : aw + bw = wd := by simpa [fitW] using hf
    subst he
    show av * pw bw + bv = bits .or .i64 (av * pw bw) bv % pw (aw + bw)
    rw [or_join bw0 bw2 a0 (by omega) b0 b1, pwA aw0 bw0]
    have h1 : 0 ≤ av * pw bw := Int.mul_nonneg a0 (by omega)
    have h2 : (av + 1) * pw bw ≤ pw aw * pw bw := Int.mul_le_mul_of_nonneg_right (by omega) (by omega)
    have h3 : (av + 1) * pw bw = av * pw bw + pw bw := by rw [Int.add_mul, Int.one_mul]
    exact (Int.emod_eq_of_lt (by omega) (by omega)).symm
  · rfl
  · have he : aw ≤ wd := by simpa [fitW] using hf
    show av = av % pw wd
    have := pwM aw0 he
    exact (Int.emod_eq_of_lt a0 (by omega)).symm
  · show (sgS aw av + pw wd) % pw wd = sgG aw av % pw wd
    rw [sgS_eq, Int.add_emod_right]
  · show (if wd ≤ bv then 0 else av * pw bv % pw wd) = av * pw (min bv wd) % pw wd
    by_cases h : wd ≤ bv
    · rw [if_pos h, Int.min_eq_right h, Int.mul_emod_left]
    · rw [if_neg h, Int.min_eq_left (by omega)]
  · have he : aw = wd := by simpa [fitW] using hf
    subst he
    show (if aw ≤ bv then 0 else av / pw bv) = av / pw (min bv aw) % pw aw
    by_cases h : aw ≤ bv
    · rw [if_pos h, Int.min_eq_right h, Int.ediv_eq_zero_of_lt a0 a1]; rfl
    · rw [if_neg h, Int.min_eq_left (by omega)]
      have h1 := Int.ediv_nonneg a0 (by have := pw_pos bv; omega : 0 ≤ pw bv)
      have h2 := Int.ediv_le_self (pw bv) a0
      exact (Int.emod_eq_of_lt h1 (by omega)).symm

end Go.Proofs.YtkdonapgonegkaaDoor

set_option linter.unusedSimpArgs false
set_option linter.unusedVariables false
namespace Go.Proofs.YtkdonapgonegkaaDoor
open Go.RowKit Go.BigFrame

theorem baseBit_c (b : Bool) (w : World) : Calls Tryd.prog 89 #[.bool b] w fun e w' => e = .returned (.int .i64 (fl b)) ∧ w = w' := by
  cases b
  all_goals
    go_enter Tryd.func89, Tryd.ntmps89
    go_wp2
    go_ret
    exact ⟨rfl, rfl⟩

set_option maxRecDepth 100000 in
set_option maxHeartbeats 1600000 in
theorem baseSigned_c (n wd : Int) (h1 : 1 ≤ wd) (h2 : wd ≤ 16) (n0 : 0 ≤ n) (n1 : n ≤ 65536) (w : World) : Calls Tryd.prog 90 #[.int .i64 n, .int .i64 wd] w fun e w' => e = .returned (.int .i64 (sgS wd n)) ∧ w = w' := by
  have hp := pw_bd (n := wd) (by omega) h2
  have hq := pw_bd (n := wd - 1) (by omega) (by omega)
  by_cases h : pw (wd - 1) ≤ n
  · have HR := Lib.hid (show sgS wd n = n - pw wd from if_pos h)
    go_enter Tryd.func90, Tryd.ntmps90
    go_wp2_with (go_at_call 41; refine (Power_c _ (by omega) (by omega) _).mono ?_; rintro e w' ⟨rfl, rfl⟩)
    go_ret
    exact ⟨retI HR.out.symm, rfl⟩
  · have HR := Lib.hid (show sgS wd n = n from if_neg h)
    go_enter Tryd.func90, Tryd.ntmps90
    go_wp2_with (go_at_call 41; refine (Power_c _ (by omega) (by omega) _).mono ?_; rintro e w' ⟨rfl, rfl⟩)
    go_ret
    exact ⟨retI HR.out.symm, rfl⟩

set_option maxRecDepth 100000 in
set_option maxHeartbeats 1600000 in
theorem ap_2 (wd v av bv cv aw bw cw : Int) (w1 : 1 ≤ wd) (w2 : wd ≤ 16) (a0 : 0 ≤ av) (a1 : av ≤ 65536) (b0 : 0 ≤ bv) (b1 : bv ≤ 65536) (B : Option Addr) (al bc : Nat) (Aa : Option Addr) (ca : Nat) (Wa : Option Addr) (cwa : Nat) (V : Option Addr) (nv cv2 : Nat) (w : World) (hA : LiesI w Aa [av]) (hW : LiesI w Wa [aw]) :
    Calls Tryd.prog 64 #[.agg #[.int .i64 2, .int .i64 wd, .slice B al bc, .int .i64 v], .slice Aa 1 ca, .slice Wa 1 cwa, .slice V nv cv2] w fun e w' => e = .returned (.int .i64 (apG 2 wd v aw av bw bv cv)) ∧ ∃ x : Aft w, w' = x.val := by
  obtain ⟨x, rfl, lx, cx⟩ := hA (by simp)
  obtain ⟨y, rfl, ly, cy⟩ := hW (by simp)
  have hp := pw_bd (n := wd) (by omega) w2
  go_enter Tryd.func64, Tryd.ntmps64
  go_upto_region 1 with (fail)
  have hb1 := (Below.refl w.heap.size w).alloc (Nat.le_refl _) (.cells #[.int .i64 2, .int .i64 wd, .slice B al bc, .int .i64 v] 65)
  have rn : (w.alloc (.cells #[.int .i64 2, .int .i64 wd, .slice B al bc, .int .i64 v] 65)).heap[w.heap.size]? = some (.cells #[.int .i64 2, .int .i64 wd, .slice B al bc, .int .i64 v] 65) := heap_alloc_new _ _
  generalize w.alloc (.cells #[.int .i64 2, .int .i64 wd, .slice B al bc, .int .i64 v] 65) = W1 at *
  have qx0 : ∀ z : Aft W1, z.val.cell? x = some (.int .i64 av) := fun z => by
    have := ((z.below hb1 hb1.size).cell (p := x.add 0) (by rw [addB]; exact lx)).trans (cx 0 _ rfl)
    exact this
  have qy0 : ∀ z : Aft W1, z.val.cell? y = some (.int .i64 aw) := fun z => by
    have := ((z.below hb1 hb1.size).cell (p := y.add 0) (by rw [addB]; exact ly)).trans (cy 0 _ rfl)
    exact this
  have n0 : ∀ z : Aft W1, z.val.cell? ⟨w.heap.size, 0, none⟩ = some (.int .i64 2) := fun z => by
    have := cell_block (i := 0) (heap_aft z (lt_of_get rn) rn); simpa using this
  have n1 : ∀ z : Aft W1, z.val.cell? ⟨w.heap.size, 1, none⟩ = some (.int .i64 wd) := fun z => by
    have := cell_block (i := 1) (heap_aft z (lt_of_get rn) rn); simpa using this
  have n3 : ∀ z : Aft W1, z.val.cell? ⟨w.heap.size, 3, none⟩ = some (.int .i64 v) := fun z => by
    have := cell_block (i := 3) (heap_aft z (lt_of_get rn) rn); simpa using this
  have m0 := n0 ⟨W1, Below.refl _ _⟩
  have m1 := n1 ⟨W1, Below.refl _ _⟩
  have m3 := n3 ⟨W1, Below.refl _ _⟩
  have px0 := qx0 ⟨W1, Below.refl _ _⟩
  have py0 := qy0 ⟨W1, Below.refl _ _⟩
  clear cx cy rn
  have HB1 := Lib.hid hb1
  clear hb1
  go_wp2_with (go_at_call 41; refine (Power_c _ (by omega) (by omega) _).mono ?_; rintro e w' ⟨rfl, rfl⟩)
  go_ret
  exact ⟨retI (by first | rfl | (simp [apG]; done)), Below.aft HB1.out⟩

set_option maxRecDepth 100000 in
set_option maxHeartbeats 1600000 in
theorem ap_3 (wd v av bv cv aw bw cw : Int) (w1 : 1 ≤ wd) (w2 : wd ≤ 16) (a0 : 0 ≤ av) (a1 : av ≤ 65536) (b0 : 0 ≤ bv) (b1 : bv ≤ 65536) (B : Option Addr) (al bc : Nat) (Aa : Option Addr) (ca : Nat) (Wa : Option Addr) (cwa : Nat) (V : Option Addr) (nv cv2 : Nat) (w : World) (hA : LiesI w Aa [av, bv]) (hW : LiesI w Wa [aw, bw]) :
    Calls Tryd.prog 64 #[.agg #[.int .i64 3, .int .i64 wd, .slice B al bc, .int .i64 v], .slice Aa 2 ca, .slice Wa 2 cwa, .slice V nv cv2] w fun e w' => e = .returned (.int .i64 (apG 3 wd v aw av bw bv cv)) ∧ ∃ x : Aft w, w' = x.val := by
  obtain ⟨x, rfl, lx, cx⟩ := hA (by simp)
  obtain ⟨y, rfl, ly, cy⟩ := hW (by simp)
  have hp := pw_bd (n := wd) (by omega) w2
  go_enter Tryd.func64, Tryd.ntmps64
  go_upto_region 1 with (fail)
  have hb1 := (Below.refl w.heap.size w).alloc (Nat.le_refl _) (.cells #[.int .i64 3, .int .i64 wd, .slice B al bc, .int .i64 v] 65)
  have rn : (w.alloc (.cells #[.int .i64 3, .int .i64 wd, .slice B al bc, .int .i64 v] 65)).heap[w.heap.size]? = some (.cells #[.int .i64 3, .int .i64 wd, .slice B al bc, .int .i64 v] 65) := heap_alloc_new _ _
  generalize w.alloc (.cells #[.int .i64 3, .int .i64 wd, .slice B al bc, .int .i64 v] 65) = W1 at *
  have qx0 : ∀ z : Aft W1, z.val.cell? x = some (.int .i64 av) := fun z => by
    have := ((z.below hb1 hb1.size).cell (p := x.add 0) (by rw [addB]; exact lx)).trans (cx 0 _ rfl)
    exact this
  have qx1 : ∀ z : Aft W1, z.val.cell? ⟨x.block, x.off + 1, none⟩ = some (.int .i64 bv) := fun z => by
    have := ((z.below hb1 hb1.size).cell (p := x.add 1) (by rw [addB]; exact lx)).trans (cx 1 _ rfl)
    exact this
  have qy0 : ∀ z : Aft W1, z.val.cell? y = some (.int .i64 aw) := fun z => by
    have := ((z.below hb1 hb1.size).cell (p := y.add 0) (by rw [addB]; exact ly)).trans (cy 0 _ rfl)
    exact this
  have qy1 : ∀ z : Aft W1, z.val.cell? ⟨y.block, y.off + 1, none⟩ = some (.int .i64 bw) := fun z => by
    have := ((z.below hb1 hb1.size).cell (p := y.add 1) (by rw [addB]; exact ly)).trans (cy 1 _ rfl)
    exact this
  have n0 : ∀ z : Aft W1, z.val.cell? ⟨w.heap.size, 0, none⟩ = some (.int .i64 3) := fun z => by
    have := cell_block (i := 0) (heap_aft z (lt_of_get rn) rn); simpa using this
  have n1 : ∀ z : Aft W1, z.val.cell? ⟨w.heap.size, 1, none⟩ = some (.int .i64 wd) := fun z => by
    have := cell_block (i := 1) (heap_aft z (lt_of_get rn) rn); simpa using this
  have n3 : ∀ z : Aft W1, z.val.cell? ⟨w.heap.size, 3, none⟩ = some (.int .i64 v) := fun z => by
    have := cell_block (i := 3) (heap_aft z (lt_of_get rn) rn); simpa using this
  have m0 := n0 ⟨W1, Below.refl _ _⟩
  have m1 := n1 ⟨W1, Below.refl _ _⟩
  have m3 := n3 ⟨W1, Below.refl _ _⟩
  have px0 := qx0 ⟨W1, Below.refl _ _⟩
  have px1 := qx1 ⟨W1, Below.refl _ _⟩
  have py0 := qy0 ⟨W1, Below.refl _ _⟩
  have py1 := qy1 ⟨W1, Below.refl _ _⟩
  clear cx cy rn
  have HB1 := Lib.hid hb1
  clear hb1
  go_wp2_with (go_at_call 41; refine (Power_c _ (by omega) (by omega) _).mono ?_; rintro e w' ⟨rfl, rfl⟩)
  refine wp_region_aft (by kernel_rfl) (by kernel_rfl) ?_
  repeat (go_big_quiet_step (first | (go_at_call 41; exact Calls.qs (Power_c _ (by omega) (by omega) _)) | (go_at_call 89; exact Calls.qs (baseBit_c _ _)) | (go_at_call 90; exact Calls.qs (baseSigned_c _ _ (by omega) (by omega) (by omega) (by omega) _))))
  refine wpQuiet_nil ?_
  intro z
  go_wp2
  go_ret
  exact ⟨retI (by first | rfl | (simp [apG]; done)), Below.aft (z.below HB1.out HB1.out.size)⟩

set_option maxRecDepth 100000 in
set_option maxHeartbeats 1600000 in
theorem ap_4 (wd v av bv cv aw bw cw : Int) (w1 : 1 ≤ wd) (w2 : wd ≤ 16) (a0 : 0 ≤ av) (a1 : av ≤ 65536) (b0 : 0 ≤ bv) (b1 : bv ≤ 65536) (B : Option Addr) (al bc : Nat) (Aa : Option Addr) (ca : Nat) (Wa : Option Addr) (cwa : Nat) (V : Option Addr) (nv cv2 : Nat) (w : World) (hA : LiesI w Aa [av, bv]) (hW : LiesI w Wa [aw, bw]) :
    Calls Tryd.prog 64 #[.agg #[.int .i64 4, .int .i64 wd, .slice B al bc, .int .i64 v], .slice Aa 2 ca, .slice Wa 2 cwa, .slice V nv cv2] w fun e w' => e = .returned (.int .i64 (apG 4 wd v aw av bw bv cv)) ∧ ∃ x : Aft w, w' = x.val := by
  obtain ⟨x, rfl, lx, cx⟩ := hA (by simp)
  obtain ⟨y, rfl, ly, cy⟩ := hW (by simp)
  have hp := pw_bd (n := wd) (by omega) w2
  go_enter Tryd.func64, Tryd.ntmps64
  go_upto_region 1 with (fail)
  have hb1 := (Below.refl w.heap.size w).alloc (Nat.le_refl _) (.cells #[.int .i64 4, .int .i64 wd, .slice B al bc, .int .i64 v] 65)
  have rn : (w.alloc (.cells #[.int .i64 4, .int .i64 wd, .slice B al bc, .int .i64 v] 65)).heap[w.heap.size]? = some (.cells #[.int .i64 4, .int .i64 wd, .slice B al bc, .int .i64 v] 65) := heap_alloc_new _ _
  generalize w.alloc (.cells #[.int .i64 4, .int .i64 wd, .slice B al bc, .int .i64 v] 65) = W1 at *
  have qx0 : ∀ z : Aft W1, z.val.cell? x = some (.int .i64 av) := fun z => by
    have := ((z.below hb1 hb1.size).cell (p := x.add 0) (by rw [addB]; exact lx)).trans (cx 0 _ rfl)
    exact this
  have qx1 : ∀ z : Aft W1, z.val.cell? ⟨x.block, x.off + 1, none⟩ = some (.int .i64 bv) := fun z => by
    have := ((z.below hb1 hb1.size).cell (p := x.add 1) (by rw [addB]; exact lx)).trans (cx 1 _ rfl)
    exact this
  have qy0 : ∀ z : Aft W1, z.val.cell? y = some (.int .i64 aw) := fun z => by
    have := ((z.below hb1 hb1.size).cell (p := y.add 0) (by rw [addB]; exact ly)).trans (cy 0 _ rfl)
    exact this
  have qy1 : ∀ z : Aft W1, z.val.cell? ⟨y.block, y.off + 1, none⟩ = some (.int .i64 bw) := fun z => by
    have := ((z.below hb1 hb1.size).cell (p := y.add 1) (by rw [addB]; exact ly)).trans (cy 1 _ rfl)
    exact this
  have n0 : ∀ z : Aft W1, z.val.cell? ⟨w.heap.size, 0, none⟩ = some (.int .i64 4) := fun z => by
    have := cell_block (i := 0) (heap_aft z (lt_of_get rn) rn); simpa using this
  have n1 : ∀ z : Aft W1, z.val.cell? ⟨w.heap.size, 1, none⟩ = some (.int .i64 wd) := fun z => by
    have := cell_block (i := 1) (heap_aft z (lt_of_get rn) rn); simpa using this
  have n3 : ∀ z : Aft W1, z.val.cell? ⟨w.heap.size, 3, none⟩ = some (.int .i64 v) := fun z => by
    have := cell_block (i := 3) (heap_aft z (lt_of_get rn) rn); simpa using this
  have m0 := n0 ⟨W1, Below.refl _ _⟩
  have m1 := n1 ⟨W1, Below.refl _ _⟩
  have m3 := n3 ⟨W1, Below.refl _ _⟩
  have px0 := qx0 ⟨W1, Below.refl _ _⟩
  have px1 := qx1 ⟨W1, Below.refl _ _⟩
  have py0 := qy0 ⟨W1, Below.refl _ _⟩
  have py1 := qy1 ⟨W1, Below.refl _ _⟩
  clear cx cy rn
  have HB1 := Lib.hid hb1
  clear hb1
  go_wp2_with (go_at_call 41; refine (Power_c _ (by omega) (by omega) _).mono ?_; rintro e w' ⟨rfl, rfl⟩)
  refine wp_region_aft (by kernel_rfl) (by kernel_rfl) ?_
  repeat (go_big_quiet_step (first | (go_at_call 41; exact Calls.qs (Power_c _ (by omega) (by omega) _)) | (go_at_call 89; exact Calls.qs (baseBit_c _ _)) | (go_at_call 90; exact Calls.qs (baseSigned_c _ _ (by omega) (by omega) (by omega) (by omega) _))))
  refine wpQuiet_nil ?_
  intro z
  go_wp2
  go_ret
  exact ⟨retI (by first | rfl | (simp [apG]; done)), Below.aft (z.below HB1.out HB1.out.size)⟩

set_option maxRecDepth 100000 in
set_option maxHeartbeats 1600000 in
theorem ap_5 (wd v av bv cv aw bw cw : Int) (w1 : 1 ≤ wd) (w2 : wd ≤ 16) (a0 : 0 ≤ av) (a1 : av ≤ 65536) (b0 : 0 ≤ bv) (b1 : bv ≤ 65536) (B : Option Addr) (al bc : Nat) (Aa : Option Addr) (ca : Nat) (Wa : Option Addr) (cwa : Nat) (V : Option Addr) (nv cv2 : Nat) (w : World) (hA : LiesI w Aa [av, bv]) (hW : LiesI w Wa [aw, bw]) :
    Calls Tryd.prog 64 #[.agg #[.int .i64 5, .int .i64 wd, .slice B al bc, .int .i64 v], .slice Aa 2 ca, .slice Wa 2 cwa, .slice V nv cv2] w fun e w' => e = .returned (.int .i64 (apG 5 wd v aw av bw bv cv)) ∧ ∃ x : Aft w, w' = x.val := by
  obtain ⟨x, rfl, lx, cx⟩ := hA (by simp)
  obtain ⟨y, rfl, ly, cy⟩ := hW (by simp)
  have hp := pw_bd (n := wd) (by omega) w2
  go_enter Tryd.func64, Tryd.ntmps64
  go_upto_region 1 with (fail)
  have hb1 := (Below.refl w.heap.size w).alloc (Nat.le_refl _) (.cells #[.int .i64 5, .int .i64 wd, .slice B al bc, .int .i64 v] 65)
  have rn : (w.alloc (.cells #[.int .i64 5, .int .i64 wd, .slice B al bc, .int .i64 v] 65)).heap[w.heap.size]? = some (.cells #[.int .i64 5, .int .i64 wd, .slice B al bc, .int .i64 v] 65) := heap_alloc_new _ _
  generalize w.alloc (.cells #[.int .i64 5, .int .i64 wd, .slice B al bc, .int .i64 v] 65) = W1 at *
  have qx0 : ∀ z : Aft W1, z.val.cell? x = some (.int .i64 av) := fun z => by
    have := ((z.below hb1 hb1.size).cell (p := x.add 0) (by rw [addB]; exact lx)).trans (cx 0 _ rfl)
    exact this
  have qx1 : ∀ z : Aft W1, z.val.cell? ⟨x.block, x.off + 1, none⟩ = some (.int .i64 bv) := fun z => by
    have := ((z.below hb1 hb1.size).cell (p := x.add 1) (by rw [addB]; exact lx)).trans (cx 1 _ rfl)
    exact this
  have qy0 : ∀ z : Aft W1, z.val.cell? y = some (.int .i64 aw) := fun z => by
    have := ((z.below hb1 hb1.size).cell (p := y.add 0) (by rw [addB]; exact ly)).trans (cy 0 _ rfl)
    exact this
  have qy1 : ∀ z : Aft W1, z.val.cell? ⟨y.block, y.off + 1, none⟩ = some (.int .i64 bw) := fun z => by
    have := ((z.below hb1 hb1.size).cell (p := y.add 1) (by rw [addB]; exact ly)).trans (cy 1 _ rfl)
    exact this
  have n0 : ∀ z : Aft W1, z.val.cell? ⟨w.heap.size, 0, none⟩ = some (.int .i64 5) := fun z => by
    have := cell_block (i := 0) (heap_aft z (lt_of_get rn) rn); simpa using this
  have n1 : ∀ z : Aft W1, z.val.cell? ⟨w.heap.size, 1, none⟩ = some (.int .i64 wd) := fun z => by
    have := cell_block (i := 1) (heap_aft z (lt_of_get rn) rn); simpa using this
  have n3 : ∀ z : Aft W1, z.val.cell? ⟨w.heap.size, 3, none⟩ = some (.int .i64 v) := fun z => by
    have := cell_block (i := 3) (heap_aft z (lt_of_get rn) rn); simpa using this
  have m0 := n0 ⟨W1, Below.refl _ _⟩
  have m1 := n1 ⟨W1, Below.refl _ _⟩
  have m3 := n3 ⟨W1, Below.refl _ _⟩
  have px0 := qx0 ⟨W1, Below.refl _ _⟩
  have px1 := qx1 ⟨W1, Below.refl _ _⟩
  have py0 := qy0 ⟨W1, Below.refl _ _⟩
  have py1 := qy1 ⟨W1, Below.refl _ _⟩
  clear cx cy rn
  have HB1 := Lib.hid hb1
  clear hb1
  go_wp2_with (go_at_call 41; refine (Power_c _ (by omega) (by omega) _).mono ?_; rintro e w' ⟨rfl, rfl⟩)
  refine wp_region_aft (by kernel_rfl) (by kernel_rfl) ?_
  repeat (go_big_quiet_step (first | (go_at_call 41; exact Calls.qs (Power_c _ (by omega) (by omega) _)) | (go_at_call 89; exact Calls.qs (baseBit_c _ _)) | (go_at_call 90; exact Calls.qs (baseSigned_c _ _ (by omega) (by omega) (by omega) (by omega) _))))
  refine wpQuiet_nil ?_
  intro z
  go_wp2
  go_ret
  exact ⟨retI (by first | rfl | (simp [apG]; done)), Below.aft (z.below HB1.out HB1.out.size)⟩

set_option maxRecDepth 100000 in
set_option maxHeartbeats 1600000 in
theorem ap_6 (wd v av bv cv aw bw cw : Int) (w1 : 1 ≤ wd) (w2 : wd ≤ 16) (a0 : 0 ≤ av) (a1 : av ≤ 65536) (b0 : 0 ≤ bv) (b1 : bv ≤ 65536) (B : Option Addr) (al bc : Nat) (Aa : Option Addr) (ca : Nat) (Wa : Option Addr) (cwa : Nat) (V : Option Addr) (nv cv2 : Nat) (w : World) (hA : LiesI w Aa [av, bv]) (hW : LiesI w Wa [aw, bw]) :
    Calls Tryd.prog 64 #[.agg #[.int .i64 6, .int .i64 wd, .slice B al bc, .int .i64 v], .slice Aa 2 ca, .slice Wa 2 cwa, .slice V nv cv2] w fun e w' => e = .returned (.int .i64 (apG 6 wd v aw av bw bv cv)) ∧ ∃ x : Aft w, w' = x.val := by
  obtain ⟨x, rfl, lx, cx⟩ := hA (by simp)
  obtain ⟨y, rfl, ly, cy⟩ := hW (by simp)
  have hp := pw_bd (n := wd) (by omega) w2
  go_enter Tryd.func64, Tryd.ntmps64
  go_upto_region 1 with (fail)
  have hb1 := (Below.refl w.heap.size w).alloc (Nat.le_refl _) (.cells #[.int .i64 6, .int .i64 wd, .slice B al bc, .int .i64 v] 65)
  have rn : (w.alloc (.cells #[.int .i64 6, .int .i64 wd, .slice B al bc, .int .i64 v] 65)).heap[w.heap.size]? = some (.cells #[.int .i64 6, .int .i64 wd, .slice B al bc, .int .i64 v] 65) := heap_alloc_new _ _
  generalize w.alloc (.cells #[.int .i64 6, .int .i64 wd, .slice B al bc, .int .i64 v] 65) = W1 at *
  have qx0 : ∀ z : Aft W1, z.val.cell? x = some (.int .i64 av) := fun z => by
    have := ((z.below hb1 hb1.size).cell (p := x.add 0) (by rw [addB]; exact lx)).trans (cx 0 _ rfl)
    exact this
  have qx1 : ∀ z : Aft W1, z.val.cell? ⟨x.block, x.off + 1, none⟩ = some (.int .i64 bv) := fun z => by
    have := ((z.below hb1 hb1.size).cell (p := x.add 1) (by rw [addB]; exact lx)).trans (cx 1 _ rfl)
    exact this
  have qy0 : ∀ z : Aft W1, z.val.cell? y = some (.int .i64 aw) := fun z => by
    have := ((z.below hb1 hb1.size).cell (p := y.add 0) (by rw [addB]; exact ly)).trans (cy 0 _ rfl)
    exact this
  have qy1 : ∀ z : Aft W1, z.val.cell? ⟨y.block, y.off + 1, none⟩ = some (.int .i64 bw) := fun z => by
    have := ((z.below hb1 hb1.size).cell (p := y.add 1) (by rw [addB]; exact ly)).trans (cy 1 _ rfl)
    exact this
  have n0 : ∀ z : Aft W1, z.val.cell? ⟨w.heap.size, 0, none⟩ = some (.int .i64 6) := fun z => by
    have := cell_block (i := 0) (heap_aft z (lt_of_get rn) rn); simpa using this
  have n1 : ∀ z : Aft W1, z.val.cell? ⟨w.heap.size, 1, none⟩ = some (.int .i64 wd) := fun z => by
    have := cell_block (i := 1) (heap_aft z (lt_of_get rn) rn); simpa using this
  have n3 : ∀ z : Aft W1, z.val.cell? ⟨w.heap.size, 3, none⟩ = some (.int .i64 v) := fun z => by
    have := cell_block (i := 3) (heap_aft z (lt_of_get rn) rn); simpa using this
  have m0 := n0 ⟨W1, Below.refl _ _⟩
  have m1 := n1 ⟨W1, Below.refl _ _⟩
  have m3 := n3 ⟨W1, Below.refl _ _⟩
  have px0 := qx0 ⟨W1, Below.refl _ _⟩
  have px1 := qx1 ⟨W1, Below.refl _ _⟩
  have py0 := qy0 ⟨W1, Below.refl _ _⟩
  have py1 := qy1 ⟨W1, Below.refl _ _⟩
  clear cx cy rn
  have HB1 := Lib.hid hb1
  clear hb1
  go_wp2_with (go_at_call 41; refine (Power_c _ (by omega) (by omega) _).mono ?_; rintro e w' ⟨rfl, rfl⟩)
  refine wp_region_aft (by kernel_rfl) (by kernel_rfl) ?_
  repeat (go_big_quiet_step (first | (go_at_call 41; exact Calls.qs (Power_c _ (by omega) (by omega) _)) | (go_at_call 89; exact Calls.qs (baseBit_c _ _)) | (go_at_call 90; exact Calls.qs (baseSigned_c _ _ (by omega) (by omega) (by omega) (by omega) _))))
  refine wpQuiet_nil ?_
  intro z
  go_wp2
  go_ret
  exact ⟨retI (by first | rfl | (simp [apG]; done)), Below.aft (z.below HB1.out HB1.out.size)⟩

set_option maxRecDepth 100000 in
set_option maxHeartbeats 1600000 in
theorem ap_7 (wd v av bv cv aw bw cw : Int) (w1 : 1 ≤ wd) (w2 : wd ≤ 16) (a0 : 0 ≤ av) (a1 : av ≤ 65536) (b0 : 0 ≤ bv) (b1 : bv ≤ 65536) (B : Option Addr) (al bc : Nat) (Aa : Option Addr) (ca : Nat) (Wa : Option Addr) (cwa : Nat) (V : Option Addr) (nv cv2 : Nat) (w : World) (hA : LiesI w Aa [av, bv]) (hW : LiesI w Wa [aw, bw]) (h7b : bv < pw wd) :
    Calls Tryd.prog 64 #[.agg #[.int .i64 7, .int .i64 wd, .slice B al bc, .int .i64 v], .slice Aa 2 ca, .slice Wa 2 cwa, .slice V nv cv2] w fun e w' => e = .returned (.int .i64 (apG 7 wd v aw av bw bv cv)) ∧ ∃ x : Aft w, w' = x.val := by
  obtain ⟨x, rfl, lx, cx⟩ := hA (by simp)
  obtain ⟨y, rfl, ly, cy⟩ := hW (by simp)
  have hp := pw_bd (n := wd) (by omega) w2
  go_enter Tryd.func64, Tryd.ntmps64
  go_upto_region 1 with (fail)
  have hb1 := (Below.refl w.heap.size w).alloc (Nat.le_refl _) (.cells #[.int .i64 7, .int .i64 wd, .slice B al bc, .int .i64 v] 65)
  have rn : (w.alloc (.cells #[.int .i64 7, .int .i64 wd, .slice B al bc, .int .i64 v] 65)).heap[w.heap.size]? = some (.cells #[.int .i64 7, .int .i64 wd, .slice B al bc, .int .i64 v] 65) := heap_alloc_new _ _
  generalize w.alloc (.cells #[.int .i64 7, .int .i64 wd, .slice B al bc, .int .i64 v] 65) = W1 at *
  have qx0 : ∀ z : Aft W1, z.val.cell? x = some (.int .i64 av) := fun z => by
    have := ((z.below hb1 hb1.size).cell (p := x.add 0) (by rw [addB]; exact lx)).trans (cx 0 _ rfl)
    exact this
  have qx1 : ∀ z : Aft W1, z.val.cell? ⟨x.block, x.off + 1, none⟩ = some (.int .i64 bv) := fun z => by
    have := ((z.below hb1 hb1.size).cell (p := x.add 1) (by rw [addB]; exact lx)).trans (cx 1 _ rfl)
    exact this
  have qy0 : ∀ z : Aft W1, z.val.cell? y = some (.int .i64 aw) := fun z => by
    have := ((z.below hb1 hb1.size).cell (p := y.add 0) (by rw [addB]; exact ly)).trans (cy 0 _ rfl)
    exact this
  have qy1 : ∀ z : Aft W1, z.val.cell? ⟨y.block, y.off + 1, none⟩ = some (.int .i64 bw) := fun z => by
    have := ((z.below hb1 hb1.size).cell (p := y.add 1) (by rw [addB]; exact ly)).trans (cy 1 _ rfl)
    exact this
  have n0 : ∀ z : Aft W1, z.val.cell? ⟨w.heap.size, 0, none⟩ = some (.int .i64 7) := fun z => by
    have := cell_block (i := 0) (heap_aft z (lt_of_get rn) rn); simpa using this
  have n1 : ∀ z : Aft W1, z.val.cell? ⟨w.heap.size, 1, none⟩ = some (.int .i64 wd) := fun z => by
    have := cell_block (i := 1) (heap_aft z (lt_of_get rn) rn); simpa using this
  have n3 : ∀ z : Aft W1, z.val.cell? ⟨w.heap.size, 3, none⟩ = some (.int .i64 v) := fun z => by
    have := cell_block (i := 3) (heap_aft z (lt_of_get rn) rn); simpa using this
  have m0 := n0 ⟨W1, Below.refl _ _⟩
  have m1 := n1 ⟨W1, Below.refl _ _⟩
  have m3 := n3 ⟨W1, Below.refl _ _⟩
  have px0 := qx0 ⟨W1, Below.refl _ _⟩
  have px1 := qx1 ⟨W1, Below.refl _ _⟩
  have py0 := qy0 ⟨W1, Below.refl _ _⟩
  have py1 := qy1 ⟨W1, Below.refl _ _⟩
  clear cx cy rn
  have HB1 := Lib.hid hb1
  clear hb1
  have h7 : 0 ≤ av - bv + pw wd := by omega
  go_wp2_with (go_at_call 41; refine (Power_c _ (by omega) (by omega) _).mono ?_; rintro e w' ⟨rfl, rfl⟩)
  refine wp_region_aft (by kernel_rfl) (by kernel_rfl) ?_
  repeat (go_big_quiet_step (first | (go_at_call 41; exact Calls.qs (Power_c _ (by omega) (by omega) _)) | (go_at_call 89; exact Calls.qs (baseBit_c _ _)) | (go_at_call 90; exact Calls.qs (baseSigned_c _ _ (by omega) (by omega) (by omega) (by omega) _))))
  refine wpQuiet_nil ?_
  intro z
  go_wp2
  go_ret
  exact ⟨retI (by first | rfl | (simp [apG]; done)), Below.aft (z.below HB1.out HB1.out.size)⟩

set_option maxRecDepth 100000 in
set_option maxHeartbeats 1600000 in
theorem ap_8 (wd v av bv cv aw bw cw : Int) (w1 : 1 ≤ wd) (w2 : wd ≤ 16) (a0 : 0 ≤ av) (a1 : av ≤ 65536) (b0 : 0 ≤ bv) (b1 : bv ≤ 65536) (B : Option Addr) (al bc : Nat) (Aa : Option Addr) (ca : Nat) (Wa : Option Addr) (cwa : Nat) (V : Option Addr) (nv cv2 : Nat) (w : World) (hA : LiesI w Aa [av, bv]) (hW : LiesI w Wa [aw, bw]) :
    Calls Tryd.prog 64 #[.agg #[.int .i64 8, .int .i64 wd, .slice B al bc, .int .i64 v], .slice Aa 2 ca, .slice Wa 2 cwa, .slice V nv cv2] w fun e w' => e = .returned (.int .i64 (apG 8 wd v aw av bw bv cv)) ∧ ∃ x : Aft w, w' = x.val := by
  obtain ⟨x, rfl, lx, cx⟩ := hA (by simp)
  obtain ⟨y, rfl, ly, cy⟩ := hW (by simp)
  have hp := pw_bd (n := wd) (by omega) w2
  go_enter Tryd.func64, Tryd.ntmps64
  go_upto_region 1 with (fail)
  have hb1 := (Below.refl w.heap.size w).alloc (Nat.le_refl _) (.cells #[.int .i64 8, .int .i64 wd, .slice B al bc, .int .i64 v] 65)
  have rn : (w.alloc (.cells #[.int .i64 8, .int .i64 wd, .slice B al bc, .int .i64 v] 65)).heap[w.heap.size]? = some (.cells #[.int .i64 8, .int .i64 wd, .slice B al bc, .int .i64 v] 65) := heap_alloc_new _ _
  generalize w.alloc (.cells #[.int .i64 8, .int .i64 wd, .slice B al bc, .int .i64 v] 65) = W1 at *
  have qx0 : ∀ z : Aft W1, z.val.cell? x = some (.int .i64 av) := fun z => by
    have := ((z.below hb1 hb1.size).cell (p := x.add 0) (by rw [addB]; exact lx)).trans (cx 0 _ rfl)
    exact this
  have qx1 : ∀ z : Aft W1, z.val.cell? ⟨x.block, x.off + 1, none⟩ = some (.int .i64 bv) := fun z => by
    have := ((z.below hb1 hb1.size).cell (p := x.add 1) (by rw [addB]; exact lx)).trans (cx 1 _ rfl)
    exact this
  have qy0 : ∀ z : Aft W1, z.val.cell? y = some (.int .i64 aw) := fun z => by
    have := ((z.below hb1 hb1.size).cell (p := y.add 0) (by rw [addB]; exact ly)).trans (cy 0 _ rfl)
    exact this
  have qy1 : ∀ z : Aft W1, z.val.cell? ⟨y.block, y.off + 1, none⟩ = some (.int .i64 bw) := fun z => by
    have := ((z.below hb1 hb1.size).cell (p := y.add 1) (by rw [addB]; exact ly)).trans (cy 1 _ rfl)
    exact this
  have n0 : ∀ z : Aft W1, z.val.cell? ⟨w.heap.size, 0, none⟩ = some (.int .i64 8) := fun z => by
    have := cell_block (i := 0) (heap_aft z (lt_of_get rn) rn); simpa using this
  have n1 : ∀ z : Aft W1, z.val.cell? ⟨w.heap.size, 1, none⟩ = some (.int .i64 wd) := fun z => by
    have := cell_block (i := 1) (heap_aft z (lt_of_get rn) rn); simpa using this
  have n3 : ∀ z : Aft W1, z.val.cell? ⟨w.heap.size, 3, none⟩ = some (.int .i64 v) := fun z => by
    have := cell_block (i := 3) (heap_aft z (lt_of_get rn) rn); simpa using this
  have m0 := n0 ⟨W1, Below.refl _ _⟩
  have m1 := n1 ⟨W1, Below.refl _ _⟩
  have m3 := n3 ⟨W1, Below.refl _ _⟩
  have px0 := qx0 ⟨W1, Below.refl _ _⟩
  have px1 := qx1 ⟨W1, Below.refl _ _⟩
  have py0 := qy0 ⟨W1, Below.refl _ _⟩
  have py1 := qy1 ⟨W1, Below.refl _ _⟩
  clear cx cy rn
  have HB1 := Lib.hid hb1
  clear hb1
  have hml := mulS a0 a1 b0 b1
  go_wp2_with (go_at_call 41; refine (Power_c _ (by omega) (by omega) _).mono ?_; rintro e w' ⟨rfl, rfl⟩)
  refine wp_region_aft (by kernel_rfl) (by kernel_rfl) ?_
  repeat (go_big_quiet_step (first | (go_at_call 41; exact Calls.qs (Power_c _ (by omega) (by omega) _)) | (go_at_call 89; exact Calls.qs (baseBit_c _ _)) | (go_at_call 90; exact Calls.qs (baseSigned_c _ _ (by omega) (by omega) (by omega) (by omega) _))))
  refine wpQuiet_nil ?_
  intro z
  go_wp2
  go_ret
  exact ⟨retI (by first | rfl | (simp [apG]; done)), Below.aft (z.below HB1.out HB1.out.size)⟩

set_option maxRecDepth 100000 in
set_option maxHeartbeats 1600000 in
theorem ap_9 (wd v av bv cv aw bw cw : Int) (w1 : 1 ≤ wd) (w2 : wd ≤ 16) (a0 : 0 ≤ av) (a1 : av ≤ 65536) (b0 : 0 ≤ bv) (b1 : bv ≤ 65536) (B : Option Addr) (al bc : Nat) (Aa : Option Addr) (ca : Nat) (Wa : Option Addr) (cwa : Nat) (V : Option Addr) (nv cv2 : Nat) (w : World) (hA : LiesI w Aa [av, bv]) (hW : LiesI w Wa [aw, bw]) :
    Calls Tryd.prog 64 #[.agg #[.int .i64 9, .int .i64 wd, .slice B al bc, .int .i64 v], .slice Aa 2 ca, .slice Wa 2 cwa, .slice V nv cv2] w fun e w' => e = .returned (.int .i64 (apG 9 wd v aw av bw bv cv)) ∧ ∃ x : Aft w, w' = x.val := by
  obtain ⟨x, rfl, lx, cx⟩ := hA (by simp)
  obtain ⟨y, rfl, ly, cy⟩ := hW (by simp)
  have hp := pw_bd (n := wd) (by omega) w2
  go_enter Tryd.func64, Tryd.ntmps64
  go_upto_region 1 with (fail)
  have hb1 := (Below.refl w.heap.size w).alloc (Nat.le_refl _) (.cells #[.int .i64 9, .int .i64 wd, .slice B al bc, .int .i64 v] 65)
  have rn : (w.alloc (.cells #[.int .i64 9, .int .i64 wd, .slice B al bc, .int .i64 v] 65)).heap[w.heap.size]? = some (.cells #[.int .i64 9, .int .i64 wd, .slice B al bc, .int .i64 v] 65) := heap_alloc_new _ _
  generalize w.alloc (.cells #[.int .i64 9, .int .i64 wd, .slice B al bc, .int .i64 v] 65) = W1 at *
  have qx0 : ∀ z : Aft W1, z.val.cell? x = some (.int .i64 av) := fun z => by
    have := ((z.below hb1 hb1.size).cell (p := x.add 0) (by rw [addB]; exact lx)).trans (cx 0 _ rfl)
    exact this
  have qx1 : ∀ z : Aft W1, z.val.cell? ⟨x.block, x.off + 1, none⟩ = some (.int .i64 bv) := fun z => by
    have := ((z.below hb1 hb1.size).cell (p := x.add 1) (by rw [addB]; exact lx)).trans (cx 1 _ rfl)
    exact this
  have qy0 : ∀ z : Aft W1, z.val.cell? y = some (.int .i64 aw) := fun z => by
    have := ((z.below hb1 hb1.size).cell (p := y.add 0) (by rw [addB]; exact ly)).trans (cy 0 _ rfl)
    exact this
  have qy1 : ∀ z : Aft W1, z.val.cell? ⟨y.block, y.off + 1, none⟩ = some (.int .i64 bw) := fun z => by
    have := ((z.below hb1 hb1.size).cell (p := y.add 1) (by rw [addB]; exact ly)).trans (cy 1 _ rfl)
    exact this
  have n0 : ∀ z : Aft W1, z.val.cell? ⟨w.heap.size, 0, none⟩ = some (.int .i64 9) := fun z => by
    have := cell_block (i := 0) (heap_aft z (lt_of_get rn) rn); simpa using this
  have n1 : ∀ z : Aft W1, z.val.cell? ⟨w.heap.size, 1, none⟩ = some (.int .i64 wd) := fun z => by
    have := cell_block (i := 1) (heap_aft z (lt_of_get rn) rn); simpa using this
  have n3 : ∀ z : Aft W1, z.val.cell? ⟨w.heap.size, 3, none⟩ = some (.int .i64 v) := fun z => by
    have := cell_block (i := 3) (heap_aft z (lt_of_get rn) rn); simpa using this
  have m0 := n0 ⟨W1, Below.refl _ _⟩
  have m1 := n1 ⟨W1, Below.refl _ _⟩
  have m3 := n3 ⟨W1, Below.refl _ _⟩
  have px0 := qx0 ⟨W1, Below.refl _ _⟩
  have px1 := qx1 ⟨W1, Below.refl _ _⟩
  have py0 := qy0 ⟨W1, Below.refl _ _⟩
  have py1 := qy1 ⟨W1, Below.refl _ _⟩
  clear cx cy rn
  have HB1 := Lib.hid hb1
  clear hb1
  go_wp2_with (go_at_call 41; refine (Power_c _ (by omega) (by omega) _).mono ?_; rintro e w' ⟨rfl, rfl⟩)
  refine wp_region_aft (by kernel_rfl) (by kernel_rfl) ?_
  repeat (go_big_quiet_step (first | (go_at_call 41; exact Calls.qs (Power_c _ (by omega) (by omega) _)) | (go_at_call 89; exact Calls.qs (baseBit_c _ _)) | (go_at_call 90; exact Calls.qs (baseSigned_c _ _ (by omega) (by omega) (by omega) (by omega) _))))
  refine wpQuiet_nil ?_
  intro z
  go_wp2
  go_ret
  exact ⟨retI (by first | rfl | (simp [apG]; done)), Below.aft (z.below HB1.out HB1.out.size)⟩

set_option maxRecDepth 100000 in
set_option maxHeartbeats 1600000 in
theorem ap_10 (wd v av bv cv aw bw cw : Int) (w1 : 1 ≤ wd) (w2 : wd ≤ 16) (a0 : 0 ≤ av) (a1 : av ≤ 65536) (b0 : 0 ≤ bv) (b1 : bv ≤ 65536) (B : Option Addr) (al bc : Nat) (Aa : Option Addr) (ca : Nat) (Wa : Option Addr) (cwa : Nat) (V : Option Addr) (nv cv2 : Nat) (w : World) (hA : LiesI w Aa [av, bv]) (hW : LiesI w Wa [aw, bw]) :
    Calls Tryd.prog 64 #[.agg #[.int .i64 10, .int .i64 wd, .slice B al bc, .int .i64 v], .slice Aa 2 ca, .slice Wa 2 cwa, .slice V nv cv2] w fun e w' => e = .returned (.int .i64 (apG 10 wd v aw av bw bv cv)) ∧ ∃ x : Aft w, w' = x.val := by
  obtain ⟨x, rfl, lx, cx⟩ := hA (by simp)
  obtain ⟨y, rfl, ly, cy⟩ := hW (by simp)
  have hp := pw_bd (n := wd) (by omega) w2
  go_enter Tryd.func64, Tryd.ntmps64
  go_upto_region 1 with (fail)
  have hb1 := (Below.refl w.heap.size w).alloc (Nat.le_refl _) (.cells #[.int .i64 10, .int .i64 wd, .slice B al bc, .int .i64 v] 65)
  have rn : (w.alloc (.cells #[.int .i64 10, .int .i64 wd, .slice B al bc, .int .i64 v] 65)).heap[w.heap.size]? = some (.cells #[.int .i64 10, .int .i64 wd, .slice B al bc, .int .i64 v] 65) := heap_alloc_new _ _
  generalize w.alloc (.cells #[.int .i64 10, .int .i64 wd, .slice B al bc, .int .i64 v] 65) = W1 at *
  have qx0 : ∀ z : Aft W1, z.val.cell? x = some (.int .i64 av) := fun z => by
    have := ((z.below hb1 hb1.size).cell (p := x.add 0) (by rw [addB]; exact lx)).trans (cx 0 _ rfl)
    exact this
  have qx1 : ∀ z : Aft W1, z.val.cell? ⟨x.block, x.off + 1, none⟩ = some (.int .i64 bv) := fun z => by
    have := ((z.below hb1 hb1.size).cell (p := x.add 1) (by rw [addB]; exact lx)).trans (cx 1 _ rfl)
    exact this
  have qy0 : ∀ z : Aft W1, z.val.cell? y = some (.int .i64 aw) := fun z => by
    have := ((z.below hb1 hb1.size).cell (p := y.add 0) (by rw [addB]; exact ly)).trans (cy 0 _ rfl)
    exact this
  have qy1 : ∀ z : Aft W1, z.val.cell? ⟨y.block, y.off + 1, none⟩ = some (.int .i64 bw) := fun z => by
    have := ((z.below hb1 hb1.size).cell (p := y.add 1) (by rw [addB]; exact ly)).trans (cy 1 _ rfl)
    exact this
  have n0 : ∀ z : Aft W1, z.val.cell? ⟨w.heap.size, 0, none⟩ = some (.int .i64 10) := fun z => by
    have := cell_block (i := 0) (heap_aft z (lt_of_get rn) rn); simpa using this
  have n1 : ∀ z : Aft W1, z.val.cell? ⟨w.heap.size, 1, none⟩ = some (.int .i64 wd) := fun z => by
    have := cell_block (i := 1) (heap_aft z (lt_of_get rn) rn); simpa using this
  have n3 : ∀ z : Aft W1, z.val.cell? ⟨w.heap.size, 3, none⟩ = some (.int .i64 v) := fun z => by
    have := cell_block (i := 3) (heap_aft z (lt_of_get rn) rn); simpa using this
  have m0 := n0 ⟨W1, Below.refl _ _⟩
  have m1 := n1 ⟨W1, Below.refl _ _⟩
  have m3 := n3 ⟨W1, Below.refl _ _⟩
  have px0 := qx0 ⟨W1, Below.refl _ _⟩
  have px1 := qx1 ⟨W1, Below.refl _ _⟩
  have py0 := qy0 ⟨W1, Below.refl _ _⟩
  have py1 := qy1 ⟨W1, Below.refl _ _⟩
  clear cx cy rn
  have HB1 := Lib.hid hb1
  clear hb1
  go_wp2_with (go_at_call 41; refine (Power_c _ (by omega) (by omega) _).mono ?_; rintro e w' ⟨rfl, rfl⟩)
  refine wp_region_aft (by kernel_rfl) (by kernel_rfl) ?_
  repeat (go_big_quiet_step (first | (go_at_call 41; exact Calls.qs (Power_c _ (by omega) (by omega) _)) | (go_at_call 89; exact Calls.qs (baseBit_c _ _)) | (go_at_call 90; exact Calls.qs (baseSigned_c _ _ (by omega) (by omega) (by omega) (by omega) _))))
  refine wpQuiet_nil ?_
  intro z
  go_wp2
  go_ret
  exact ⟨retI (by first | rfl | (simp [apG]; done)), Below.aft (z.below HB1.out HB1.out.size)⟩

set_option maxRecDepth 100000 in
set_option maxHeartbeats 1600000 in
theorem ap_11 (wd v av bv cv aw bw cw : Int) (w1 : 1 ≤ wd) (w2 : wd ≤ 16) (a0 : 0 ≤ av) (a1 : av ≤ 65536) (b0 : 0 ≤ bv) (b1 : bv ≤ 65536) (B : Option Addr) (al bc : Nat) (Aa : Option Addr) (ca : Nat) (Wa : Option Addr) (cwa : Nat) (V : Option Addr) (nv cv2 : Nat) (w : World) (hA : LiesI w Aa [av, bv]) (hW : LiesI w Wa [aw, bw]) (aw1 : 1 ≤ aw) (aw2 : aw ≤ 16) (bw1 : 1 ≤ bw) (bw2 : bw ≤ 16) :
    Calls Tryd.prog 64 #[.agg #[.int .i64 11, .int .i64 wd, .slice B al bc, .int .i64 v], .slice Aa 2 ca, .slice Wa 2 cwa, .slice V nv cv2] w fun e w' => e = .returned (.int .i64 (apG 11 wd v aw av bw bv cv)) ∧ ∃ x : Aft w, w' = x.val := by
  obtain ⟨x, rfl, lx, cx⟩ := hA (by simp)
  obtain ⟨y, rfl, ly, cy⟩ := hW (by simp)
  have hp := pw_bd (n := wd) (by omega) w2
  go_enter Tryd.func64, Tryd.ntmps64
  go_upto_region 1 with (fail)
  have hb1 := (Below.refl w.heap.size w).alloc (Nat.le_refl _) (.cells #[.int .i64 11, .int .i64 wd, .slice B al bc, .int .i64 v] 65)
  have rn : (w.alloc (.cells #[.int .i64 11, .int .i64 wd, .slice B al bc, .int .i64 v] 65)).heap[w.heap.size]? = some (.cells #[.int .i64 11, .int .i64 wd, .slice B al bc, .int .i64 v] 65) := heap_alloc_new _ _
  generalize w.alloc (.cells #[.int .i64 11, .int .i64 wd, .slice B al bc, .int .i64 v] 65) = W1 at *
  have qx0 : ∀ z : Aft W1, z.val.cell? x = some (.int .i64 av) := fun z => by
    have := ((z.below hb1 hb1.size).cell (p := x.add 0) (by rw [addB]; exact lx)).trans (cx 0 _ rfl)
    exact this
  have qx1 : ∀ z : Aft W1, z.val.cell? ⟨x.block, x.off + 1, none⟩ = some (.int .i64 bv) := fun z => by
    have := ((z.below hb1 hb1.size).cell (p := x.add 1) (by rw [addB]; exact lx)).trans (cx 1 _ rfl)
    exact this
  have qy0 : ∀ z : Aft W1, z.val.cell? y = some (.int .i64 aw) := fun z => by
    have := ((z.below hb1 hb1.size).cell (p := y.add 0) (by rw [addB]; exact ly)).trans (cy 0 _ rfl)
    exact this
  have qy1 : ∀ z : Aft W1, z.val.cell? ⟨y.block, y.off + 1, none⟩ = some (.int .i64 bw) := fun z => by
    have := ((z.below hb1 hb1.size).cell (p := y.add 1) (by rw [addB]; exact ly)).trans (cy 1 _ rfl)
    exact this
  have n0 : ∀ z : Aft W1, z.val.cell? ⟨w.heap.size, 0, none⟩ = some (.int .i64 11) := fun z => by
    have := cell_block (i := 0) (heap_aft z (lt_of_get rn) rn); simpa using this
  have n1 : ∀ z : Aft W1, z.val.cell? ⟨w.heap.size, 1, none⟩ = some (.int .i64 wd) := fun z => by
    have := cell_block (i := 1) (heap_aft z (lt_of_get rn) rn); simpa using this
  have n3 : ∀ z : Aft W1, z.val.cell? ⟨w.heap.size, 3, none⟩ = some (.int .i64 v) := fun z => by
    have := cell_block (i := 3) (heap_aft z (lt_of_get rn) rn); simpa using this
  have m0 := n0 ⟨W1, Below.refl _ _⟩
  have m1 := n1 ⟨W1, Below.refl _ _⟩
  have m3 := n3 ⟨W1, Below.refl _ _⟩
  have px0 := qx0 ⟨W1, Below.refl _ _⟩
  have px1 := qx1 ⟨W1, Below.refl _ _⟩
  have py0 := qy0 ⟨W1, Below.refl _ _⟩
  have py1 := qy1 ⟨W1, Below.refl _ _⟩
  clear cx cy rn
  have HB1 := Lib.hid hb1
  clear hb1
  have hpa := pw_bd (n := aw) (by omega) aw2
  have hpb := pw_bd (n := bw) (by omega) bw2
  go_wp2_with (go_at_call 41; refine (Power_c _ (by omega) (by omega) _).mono ?_; rintro e w' ⟨rfl, rfl⟩)
  refine wp_region_aft (by kernel_rfl) (by kernel_rfl) ?_
  repeat (go_big_quiet_step (first | (go_at_call 41; exact Calls.qs (Power_c _ (by omega) (by omega) _)) | (go_at_call 89; exact Calls.qs (baseBit_c _ _)) | (go_at_call 90; exact Calls.qs (baseSigned_c _ _ (by omega) (by omega) (by omega) (by omega) _))))
  refine wpQuiet_nil ?_
  intro z
  go_wp2
  go_ret
  exact ⟨retI (by first | rfl | (simp [apG]; done)), Below.aft (z.below HB1.out HB1.out.size)⟩

set_option maxRecDepth 100000 in
set_option maxHeartbeats 1600000 in
theorem ap_12 (wd v av bv cv aw bw cw : Int) (w1 : 1 ≤ wd) (w2 : wd ≤ 16) (a0 : 0 ≤ av) (a1 : av ≤ 65536) (b0 : 0 ≤ bv) (b1 : bv ≤ 65536) (B : Option Addr) (al bc : Nat) (Aa : Option Addr) (ca : Nat) (Wa : Option Addr) (cwa : Nat) (V : Option Addr) (nv cv2 : Nat) (w : World) (hA : LiesI w Aa [av, bv, cv]) (hW : LiesI w Wa [aw, bw, cw]) :
    Calls Tryd.prog 64 #[.agg #[.int .i64 12, .int .i64 wd, .slice B al bc, .int .i64 v], .slice Aa 3 ca, .slice Wa 3 cwa, .slice V nv cv2] w fun e w' => e = .returned (.int .i64 (apG 12 wd v aw av bw bv cv)) ∧ ∃ x : Aft w, w' = x.val := by
  obtain ⟨x, rfl, lx, cx⟩ := hA (by simp)
  obtain ⟨y, rfl, ly, cy⟩ := hW (by simp)
  have hp := pw_bd (n := wd) (by omega) w2
  go_enter Tryd.func64, Tryd.ntmps64
  go_upto_region 1 with (fail)
  have hb1 := (Below.refl w.heap.size w).alloc (Nat.le_refl _) (.cells #[.int .i64 12, .int .i64 wd, .slice B al bc, .int .i64 v] 65)
  have rn : (w.alloc (.cells #[.int .i64 12, .int .i64 wd, .slice B al bc, .int .i64 v] 65)).heap[w.heap.size]? = some (.cells #[.int .i64 12, .int .i64 wd, .slice B al bc, .int .i64 v] 65) := heap_alloc_new _ _
  generalize w.alloc (.cells #[.int .i64 12, .int .i64 wd, .slice B al bc, .int .i64 v] 65) = W1 at *
  have qx0 : ∀ z : Aft W1, z.val.cell? x = some (.int .i64 av) := fun z => by
    have := ((z.below hb1 hb1.size).cell (p := x.add 0) (by rw [addB]; exact lx)).trans (cx 0 _ rfl)
    exact this
  have qx1 : ∀ z : Aft W1, z.val.cell? ⟨x.block, x.off + 1, none⟩ = some (.int .i64 bv) := fun z => by
    have := ((z.below hb1 hb1.size).cell (p := x.add 1) (by rw [addB]; exact lx)).trans (cx 1 _ rfl)
    exact this
  have qx2 : ∀ z : Aft W1, z.val.cell? ⟨x.block, x.off + 2, none⟩ = some (.int .i64 cv) := fun z => by
    have := ((z.below hb1 hb1.size).cell (p := x.add 2) (by rw [addB]; exact lx)).trans (cx 2 _ rfl)
    exact this
  have qy0 : ∀ z : Aft W1, z.val.cell? y = some (.int .i64 aw) := fun z => by
    have := ((z.below hb1 hb1.size).cell (p := y.add 0) (by rw [addB]; exact ly)).trans (cy 0 _ rfl)
    exact this
  have qy1 : ∀ z : Aft W1, z.val.cell? ⟨y.block, y.off + 1, none⟩ = some (.int .i64 bw) := fun z => by
    have := ((z.below hb1 hb1.size).cell (p := y.add 1) (by rw [addB]; exact ly)).trans (cy 1 _ rfl)
    exact this
  have qy2 : ∀ z : Aft W1, z.val.cell? ⟨y.block, y.off + 2, none⟩ = some (.int .i64 cw) := fun z => by
    have := ((z.below hb1 hb1.size).cell (p := y.add 2) (by rw [addB]; exact ly)).trans (cy 2 _ rfl)
    exact this
  have n0 : ∀ z : Aft W1, z.val.cell? ⟨w.heap.size, 0, none⟩ = some (.int .i64 12) := fun z => by
    have := cell_block (i := 0) (heap_aft z (lt_of_get rn) rn); simpa using this
  have n1 : ∀ z : Aft W1, z.val.cell? ⟨w.heap.size, 1, none⟩ = some (.int .i64 wd) := fun z => by
    have := cell_block (i := 1) (heap_aft z (lt_of_get rn) rn); simpa using this
  have n3 : ∀ z : Aft W1, z.val.cell? ⟨w.heap.size, 3, none⟩ = some (.int .i64 v) := fun z => by
    have := cell_block (i := 3) (heap_aft z (lt_of_get rn) rn); simpa using this
  have m0 := n0 ⟨W1, Below.refl _ _⟩
  have m1 := n1 ⟨W1, Below.refl _ _⟩
  have m3 := n3 ⟨W1, Below.refl _ _⟩
  have px0 := qx0 ⟨W1, Below.refl _ _⟩
  have px1 := qx1 ⟨W1, Below.refl _ _⟩
  have px2 := qx2 ⟨W1, Below.refl _ _⟩
  have py0 := qy0 ⟨W1, Below.refl _ _⟩
  have py1 := qy1 ⟨W1, Below.refl _ _⟩
  have py2 := qy2 ⟨W1, Below.refl _ _⟩
  clear cx cy rn
  have HB1 := Lib.hid hb1
  clear hb1
  by_cases h : av = 1
  · subst h
    have hR : apG 12 wd v aw 1 bw bv cv = bv := rfl
    go_wp2_with (go_at_call 41; refine (Power_c _ (by omega) (by omega) _).mono ?_; rintro e w' ⟨rfl, rfl⟩)
    go_ret
    exact ⟨retI hR.symm, Below.aft HB1.out⟩
  · have hn : (av == 1) = false := by simpa using h
    have hR : apG 12 wd v aw av bw bv cv = cv := by show muxG av bv cv = cv; exact if_neg h
    clear h
    go_wp2_with (go_at_call 41; refine (Power_c _ (by omega) (by omega) _).mono ?_; rintro e w' ⟨rfl, rfl⟩)
    go_ret
    exact ⟨retI hR.symm, Below.aft HB1.out⟩

set_option maxRecDepth 100000 in
set_option maxHeartbeats 1600000 in
theorem ap_13 (wd v av bv cv aw bw cw : Int) (w1 : 1 ≤ wd) (w2 : wd ≤ 16) (a0 : 0 ≤ av) (a1 : av ≤ 65536) (b0 : 0 ≤ bv) (b1 : bv ≤ 65536) (B : Option Addr) (al bc : Nat) (Aa : Option Addr) (ca : Nat) (Wa : Option Addr) (cwa : Nat) (V : Option Addr) (nv cv2 : Nat) (w : World) (hA : LiesI w Aa [av, bv]) (hW : LiesI w Wa [aw, bw]) (bw0 : 0 ≤ bw) (bw2 : bw ≤ 16) :
    Calls Tryd.prog 64 #[.agg #[.int .i64 13, .int .i64 wd, .slice B al bc, .int .i64 v], .slice Aa 2 ca, .slice Wa 2 cwa, .slice V nv cv2] w fun e w' => e = .returned (.int .i64 (apG 13 wd v aw av bw bv cv)) ∧ ∃ x : Aft w, w' = x.val := by
  obtain ⟨x, rfl, lx, cx⟩ := hA (by simp)
  obtain ⟨y, rfl, ly, cy⟩ := hW (by simp)
  have hp := pw_bd (n := wd) (by omega) w2
  go_enter Tryd.func64, Tryd.ntmps64
  go_upto_region 1 with (fail)
  have hb1 := (Below.refl w.heap.size w).alloc (Nat.le_refl _) (.cells #[.int .i64 13, .int .i64 wd, .slice B al bc, .int .i64 v] 65)
  have rn : (w.alloc (.cells #[.int .i64 13, .int .i64 wd, .slice B al bc, .int .i64 v] 65)).heap[w.heap.size]? = some (.cells #[.int .i64 13, .int .i64 wd, .slice B al bc, .int .i64 v] 65) := heap_alloc_new _ _
  generalize w.alloc (.cells #[.int .i64 13, .int .i64 wd, .slice B al bc, .int .i64 v] 65) = W1 at *
  have qx0 : ∀ z : Aft W1, z.val.cell? x = some (.int .i64 av) := fun z => by
    have := ((z.below hb1 hb1.size).cell (p := x.add 0) (by rw [addB]; exact lx)).trans (cx 0 _ rfl)
    exact this
  have qx1 : ∀ z : Aft W1, z.val.cell? ⟨x.block, x.off + 1, none⟩ = some (.int .i64 bv) := fun z => by
    have := ((z.below hb1 hb1.size).cell (p := x.add 1) (by rw [addB]; exact lx)).trans (cx 1 _ rfl)
    exact this
  have qy0 : ∀ z : Aft W1, z.val.cell? y = some (.int .i64 aw) := fun z => by
    have := ((z.below hb1 hb1.size).cell (p := y.add 0) (by rw [addB]; exact ly)).trans (cy 0 _ rfl)
    exact this
  have qy1 : ∀ z : Aft W1, z.val.cell? ⟨y.block, y.off + 1, none⟩ = some (.int .i64 bw) := fun z => by
    have := ((z.below hb1 hb1.size).cell (p := y.add 1) (by rw [addB]; exact ly)).trans (cy 1 _ rfl)
    exact this
  have n0 : ∀ z : Aft W1, z.val.cell? ⟨w.heap.size, 0, none⟩ = some (.int .i64 13) := fun z => by
    have := cell_block (i := 0) (heap_aft z (lt_of_get rn) rn); simpa using this
  have n1 : ∀ z : Aft W1, z.val.cell? ⟨w.heap.size, 1, none⟩ = some (.int .i64 wd) := fun z => by
    have := cell_block (i := 1) (heap_aft z (lt_of_get rn) rn); simpa using this
  have n3 : ∀ z : Aft W1, z.val.cell? ⟨w.heap.size, 3, none⟩ = some (.int .i64 v) := fun z => by
    have := cell_block (i := 3) (heap_aft z (lt_of_get rn) rn); simpa using this
  have m0 := n0 ⟨W1, Below.refl _ _⟩
  have m1 := n1 ⟨W1, Below.refl _ _⟩
  have m3 := n3 ⟨W1, Below.refl _ _⟩
  have px0 := qx0 ⟨W1, Below.refl _ _⟩
  have px1 := qx1 ⟨W1, Below.refl _ _⟩
  have py0 := qy0 ⟨W1, Below.refl _ _⟩
  have py1 := qy1 ⟨W1, Below.refl _ _⟩
  clear cx cy rn
  have HB1 := Lib.hid hb1
  clear hb1
  have hpb := pw_bd bw0 bw2
  have hml := mulS a0 a1 (by omega : 0 ≤ pw bw) (by omega)
  go_wp2_with (go_at_call 41; refine (Power_c _ (by omega) (by omega) _).mono ?_; rintro e w' ⟨rfl, rfl⟩)
  refine wp_region_aft (by kernel_rfl) (by kernel_rfl) ?_
  repeat (go_big_quiet_step (first | (go_at_call 41; exact Calls.qs (Power_c _ (by omega) (by omega) _)) | (go_at_call 89; exact Calls.qs (baseBit_c _ _)) | (go_at_call 90; exact Calls.qs (baseSigned_c _ _ (by omega) (by omega) (by omega) (by omega) _))))
  refine wpQuiet_nil ?_
  intro z
  go_wp2
  go_ret
  exact ⟨retI (by first | rfl | (simp [apG]; done)), Below.aft (z.below HB1.out HB1.out.size)⟩

set_option maxRecDepth 100000 in
set_option maxHeartbeats 1600000 in
theorem ap_14 (wd v av bv cv aw bw cw : Int) (w1 : 1 ≤ wd) (w2 : wd ≤ 16) (a0 : 0 ≤ av) (a1 : av ≤ 65536) (b0 : 0 ≤ bv) (b1 : bv ≤ 65536) (B : Option Addr) (al bc : Nat) (Aa : Option Addr) (ca : Nat) (Wa : Option Addr) (cwa : Nat) (V : Option Addr) (nv cv2 : Nat) (w : World) (hA : LiesI w Aa [av]) (hW : LiesI w Wa [aw]) (v0 : 0 ≤ v) (v1 : v ≤ 16) :
    Calls Tryd.prog 64 #[.agg #[.int .i64 14, .int .i64 wd, .slice B al bc, .int .i64 v], .slice Aa 1 ca, .slice Wa 1 cwa, .slice V nv cv2] w fun e w' => e = .returned (.int .i64 (apG 14 wd v aw av bw bv cv)) ∧ ∃ x : Aft w, w' = x.val := by
  obtain ⟨x, rfl, lx, cx⟩ := hA (by simp)
  obtain ⟨y, rfl, ly, cy⟩ := hW (by simp)
  have hp := pw_bd (n := wd) (by omega) w2
  go_enter Tryd.func64, Tryd.ntmps64
  go_upto_region 1 with (fail)
  have hb1 := (Below.refl w.heap.size w).alloc (Nat.le_refl _) (.cells #[.int .i64 14, .int .i64 wd, .slice B al bc, .int .i64 v] 65)
  have rn : (w.alloc (.cells #[.int .i64 14, .int .i64 wd, .slice B al bc, .int .i64 v] 65)).heap[w.heap.size]? = some (.cells #[.int .i64 14, .int .i64 wd, .slice B al bc, .int .i64 v] 65) := heap_alloc_new _ _
  generalize w.alloc (.cells #[.int .i64 14, .int .i64 wd, .slice B al bc, .int .i64 v] 65) = W1 at *
  have qx0 : ∀ z : Aft W1, z.val.cell? x = some (.int .i64 av) := fun z => by
    have := ((z.below hb1 hb1.size).cell (p := x.add 0) (by rw [addB]; exact lx)).trans (cx 0 _ rfl)
    exact this
  have qy0 : ∀ z : Aft W1, z.val.cell? y = some (.int .i64 aw) := fun z => by
    have := ((z.below hb1 hb1.size).cell (p := y.add 0) (by rw [addB]; exact ly)).trans (cy 0 _ rfl)
    exact this
  have n0 : ∀ z : Aft W1, z.val.cell? ⟨w.heap.size, 0, none⟩ = some (.int .i64 14) := fun z => by
    have := cell_block (i := 0) (heap_aft z (lt_of_get rn) rn); simpa using this
  have n1 : ∀ z : Aft W1, z.val.cell? ⟨w.heap.size, 1, none⟩ = some (.int .i64 wd) := fun z => by
    have := cell_block (i := 1) (heap_aft z (lt_of_get rn) rn); simpa using this
  have n3 : ∀ z : Aft W1, z.val.cell? ⟨w.heap.size, 3, none⟩ = some (.int .i64 v) := fun z => by
    have := cell_block (i := 3) (heap_aft z (lt_of_get rn) rn); simpa using this
  have m0 := n0 ⟨W1, Below.refl _ _⟩
  have m1 := n1 ⟨W1, Below.refl _ _⟩
  have m3 := n3 ⟨W1, Below.refl _ _⟩
  have px0 := qx0 ⟨W1, Below.refl _ _⟩
  have py0 := qy0 ⟨W1, Below.refl _ _⟩
  clear cx cy rn
  have HB1 := Lib.hid hb1
  clear hb1
  have hpv := pw_bd v0 v1
  have hdv := Int.ediv_nonneg a0 (by omega : 0 ≤ pw v)
  have hdl := Int.ediv_le_self (pw v) a0
  go_wp2_with (go_at_call 41; refine (Power_c _ (by omega) (by omega) _).mono ?_; rintro e w' ⟨rfl, rfl⟩)
  refine wp_region_aft (by kernel_rfl) (by kernel_rfl) ?_
  repeat (go_big_quiet_step (first | (go_at_call 41; exact Calls.qs (Power_c _ (by omega) (by omega) _)) | (go_at_call 89; exact Calls.qs (baseBit_c _ _)) | (go_at_call 90; exact Calls.qs (baseSigned_c _ _ (by omega) (by omega) (by omega) (by omega) _))))
  refine wpQuiet_nil ?_
  intro z
  go_wp2
  go_ret
  exact ⟨retI (by first | rfl | (simp [apG]; done)), Below.aft (z.below HB1.out HB1.out.size)⟩

set_option maxRecDepth 100000 in
set_option maxHeartbeats 1600000 in
theorem ap_15 (wd v av bv cv aw bw cw : Int) (w1 : 1 ≤ wd) (w2 : wd ≤ 16) (a0 : 0 ≤ av) (a1 : av ≤ 65536) (b0 : 0 ≤ bv) (b1 : bv ≤ 65536) (B : Option Addr) (al bc : Nat) (Aa : Option Addr) (ca : Nat) (Wa : Option Addr) (cwa : Nat) (V : Option Addr) (nv cv2 : Nat) (w : World) (hA : LiesI w Aa [av]) (hW : LiesI w Wa [aw]) :
    Calls Tryd.prog 64 #[.agg #[.int .i64 15, .int .i64 wd, .slice B al bc, .int .i64 v], .slice Aa 1 ca, .slice Wa 1 cwa, .slice V nv cv2] w fun e w' => e = .returned (.int .i64 (apG 15 wd v aw av bw bv cv)) ∧ ∃ x : Aft w, w' = x.val := by
  obtain ⟨x, rfl, lx, cx⟩ := hA (by simp)
  obtain ⟨y, rfl, ly, cy⟩ := hW (by simp)
  have hp := pw_bd (n := wd) (by omega) w2
  go_enter Tryd.func64, Tryd.ntmps64
  go_upto_region 1 with (fail)
  have hb1 := (Below.refl w.heap.size w).alloc (Nat.le_refl _) (.cells #[.int .i64 15, .int .i64 wd, .slice B al bc, .int .i64 v] 65)
  have rn : (w.alloc (.cells #[.int .i64 15, .int .i64 wd, .slice B al bc, .int .i64 v] 65)).heap[w.heap.size]? = some (.cells #[.int .i64 15, .int .i64 wd, .slice B al bc, .int .i64 v] 65) := heap_alloc_new _ _
  generalize w.alloc (.cells #[.int .i64 15, .int .i64 wd, .slice B al bc, .int .i64 v] 65) = W1 at *
  have qx0 : ∀ z : Aft W1, z.val.cell? x = some (.int .i64 av) := fun z => by
    have := ((z.below hb1 hb1.size).cell (p := x.add 0) (by rw [addB]; exact lx)).trans (cx 0 _ rfl)
    exact this
  have qy0 : ∀ z : Aft W1, z.val.cell? y = some (.int .i64 aw) := fun z => by
    have := ((z.below hb1 hb1.size).cell (p := y.add 0) (by rw [addB]; exact ly)).trans (cy 0 _ rfl)
    exact this
  have n0 : ∀ z : Aft W1, z.val.cell? ⟨w.heap.size, 0, none⟩ = some (.int .i64 15) := fun z => by
    have := cell_block (i := 0) (heap_aft z (lt_of_get rn) rn); simpa using this
  have n1 : ∀ z : Aft W1, z.val.cell? ⟨w.heap.size, 1, none⟩ = some (.int .i64 wd) := fun z => by
    have := cell_block (i := 1) (heap_aft z (lt_of_get rn) rn); simpa using this
  have n3 : ∀ z : Aft W1, z.val.cell? ⟨w.heap.size, 3, none⟩ = some (.int .i64 v) := fun z => by
    have := cell_block (i := 3) (heap_aft z (lt_of_get rn) rn); simpa using this
  have m0 := n0 ⟨W1, Below.refl _ _⟩
  have m1 := n1 ⟨W1, Below.refl _ _⟩
  have m3 := n3 ⟨W1, Below.refl _ _⟩
  have px0 := qx0 ⟨W1, Below.refl _ _⟩
  have py0 := qy0 ⟨W1, Below.refl _ _⟩
  clear cx cy rn
  have HB1 := Lib.hid hb1
  clear hb1
  go_wp2_with (go_at_call 41; refine (Power_c _ (by omega) (by omega) _).mono ?_; rintro e w' ⟨rfl, rfl⟩)
  go_ret
  exact ⟨retI (by first | rfl | (simp [apG]; done)), Below.aft HB1.out⟩

set_option maxRecDepth 100000 in
set_option maxHeartbeats 1600000 in
theorem ap_16 (wd v av bv cv aw bw cw : Int) (w1 : 1 ≤ wd) (w2 : wd ≤ 16) (a0 : 0 ≤ av) (a1 : av ≤ 65536) (b0 : 0 ≤ bv) (b1 : bv ≤ 65536) (B : Option Addr) (al bc : Nat) (Aa : Option Addr) (ca : Nat) (Wa : Option Addr) (cwa : Nat) (V : Option Addr) (nv cv2 : Nat) (w : World) (hA : LiesI w Aa [av]) (hW : LiesI w Wa [aw]) (aw1 : 1 ≤ aw) (aw2 : aw ≤ 16) (hle : pw aw ≤ pw wd) :
    Calls Tryd.prog 64 #[.agg #[.int .i64 16, .int .i64 wd, .slice B al bc, .int .i64 v], .slice Aa 1 ca, .slice Wa 1 cwa, .slice V nv cv2] w fun e w' => e = .returned (.int .i64 (apG 16 wd v aw av bw bv cv)) ∧ ∃ x : Aft w, w' = x.val := by
  obtain ⟨x, rfl, lx, cx⟩ := hA (by simp)
  obtain ⟨y, rfl, ly, cy⟩ := hW (by simp)
  have hp := pw_bd (n := wd) (by omega) w2
  go_enter Tryd.func64, Tryd.ntmps64
  go_upto_region 1 with (fail)
  have hb1 := (Below.refl w.heap.size w).alloc (Nat.le_refl _) (.cells #[.int .i64 16, .int .i64 wd, .slice B al bc, .int .i64 v] 65)
  have rn : (w.alloc (.cells #[.int .i64 16, .int .i64 wd, .slice B al bc, .int .i64 v] 65)).heap[w.heap.size]? = some (.cells #[.int .i64 16, .int .i64 wd, .slice B al bc, .int .i64 v] 65) := heap_alloc_new _ _
  generalize w.alloc (.cells #[.int .i64 16, .int .i64 wd, .slice B al bc, .int .i64 v] 65) = W1 at *
  have qx0 : ∀ z : Aft W1, z.val.cell? x = some (.int .i64 av) := fun z => by
    have := ((z.below hb1 hb1.size).cell (p := x.add 0) (by rw [addB]; exact lx)).trans (cx 0 _ rfl)
    exact this
  have qy0 : ∀ z : Aft W1, z.val.cell? y = some (.int .i64 aw) := fun z => by
    have := ((z.below hb1 hb1.size).cell (p := y.add 0) (by rw [addB]; exact ly)).trans (cy 0 _ rfl)
    exact this
  have n0 : ∀ z : Aft W1, z.val.cell? ⟨w.heap.size, 0, none⟩ = some (.int .i64 16) := fun z => by
    have := cell_block (i := 0) (heap_aft z (lt_of_get rn) rn); simpa using this
  have n1 : ∀ z : Aft W1, z.val.cell? ⟨w.heap.size, 1, none⟩ = some (.int .i64 wd) := fun z => by
    have := cell_block (i := 1) (heap_aft z (lt_of_get rn) rn); simpa using this
  have n3 : ∀ z : Aft W1, z.val.cell? ⟨w.heap.size, 3, none⟩ = some (.int .i64 v) := fun z => by
    have := cell_block (i := 3) (heap_aft z (lt_of_get rn) rn); simpa using this
  have m0 := n0 ⟨W1, Below.refl _ _⟩
  have m1 := n1 ⟨W1, Below.refl _ _⟩
  have m3 := n3 ⟨W1, Below.refl _ _⟩
  have px0 := qx0 ⟨W1, Below.refl _ _⟩
  have py0 := qy0 ⟨W1, Below.refl _ _⟩
  clear cx cy rn
  have HB1 := Lib.hid hb1
  clear hb1
  have hpa := pw_bd (n := aw) (by omega) aw2
  have hsg : 0 ≤ sgS aw av + pw wd := by unfold sgS; split <;> omega
  have hsh : sgS aw av ≤ 65536 := by unfold sgS; split <;> omega
  go_wp2_with (go_at_call 41; refine (Power_c _ (by omega) (by omega) _).mono ?_; rintro e w' ⟨rfl, rfl⟩)
  refine wp_region_aft (by kernel_rfl) (by kernel_rfl) ?_
  repeat (go_big_quiet_step (first | (go_at_call 41; exact Calls.qs (Power_c _ (by omega) (by omega) _)) | (go_at_call 89; exact Calls.qs (baseBit_c _ _)) | (go_at_call 90; exact Calls.qs (baseSigned_c _ _ (by omega) (by omega) (by omega) (by omega) _))))
  refine wpQuiet_nil ?_
  intro z
  go_wp2
  go_ret
  exact ⟨retI (by first | rfl | (simp [apG]; done)), Below.aft (z.below HB1.out HB1.out.size)⟩

set_option maxRecDepth 100000 in
set_option maxHeartbeats 1600000 in
theorem ap_17 (wd v av bv cv aw bw cw : Int) (w1 : 1 ≤ wd) (w2 : wd ≤ 16) (a0 : 0 ≤ av) (a1 : av ≤ 65536) (b0 : 0 ≤ bv) (b1 : bv ≤ 65536) (B : Option Addr) (al bc : Nat) (Aa : Option Addr) (ca : Nat) (Wa : Option Addr) (cwa : Nat) (V : Option Addr) (nv cv2 : Nat) (w : World) (hA : LiesI w Aa [av, bv]) (hW : LiesI w Wa [aw, bw]) :
    Calls Tryd.prog 64 #[.agg #[.int .i64 17, .int .i64 wd, .slice B al bc, .int .i64 v], .slice Aa 2 ca, .slice Wa 2 cwa, .slice V nv cv2] w fun e w' => e = .returned (.int .i64 (apG 17 wd v aw av bw bv cv)) ∧ ∃ x : Aft w, w' = x.val := by
  obtain ⟨x, rfl, lx, cx⟩ := hA (by simp)
  obtain ⟨y, rfl, ly, cy⟩ := hW (by simp)
  have hp := pw_bd (n := wd) (by omega) w2
  go_enter Tryd.func64, Tryd.ntmps64
  go_upto_region 1 with (fail)
  have hb1 := (Below.refl w.heap.size w).alloc (Nat.le_refl _) (.cells #[.int .i64 17, .int .i64 wd, .slice B al bc, .int .i64 v] 65)
  have rn : (w.alloc (.cells #[.int .i64 17, .int .i64 wd, .slice B al bc, .int .i64 v] 65)).heap[w.heap.size]? = some (.cells #[.int .i64 17, .int .i64 wd, .slice B al bc, .int .i64 v] 65) := heap_alloc_new _ _
  generalize w.alloc (.cells #[.int .i64 17, .int .i64 wd, .slice B al bc, .int .i64 v] 65) = W1 at *
  have qx0 : ∀ z : Aft W1, z.val.cell? x = some (.int .i64 av) := fun z => by
    have := ((z.below hb1 hb1.size).cell (p := x.add 0) (by rw [addB]; exact lx)).trans (cx 0 _ rfl)
    exact this
  have qx1 : ∀ z : Aft W1, z.val.cell? ⟨x.block, x.off + 1, none⟩ = some (.int .i64 bv) := fun z => by
    have := ((z.below hb1 hb1.size).cell (p := x.add 1) (by rw [addB]; exact lx)).trans (cx 1 _ rfl)
    exact this
  have qy0 : ∀ z : Aft W1, z.val.cell? y = some (.int .i64 aw) := fun z => by
    have := ((z.below hb1 hb1.size).cell (p := y.add 0) (by rw [addB]; exact ly)).trans (cy 0 _ rfl)
    exact this
  have qy1 : ∀ z : Aft W1, z.val.cell? ⟨y.block, y.off + 1, none⟩ = some (.int .i64 bw) := fun z => by
    have := ((z.below hb1 hb1.size).cell (p := y.add 1) (by rw [addB]; exact ly)).trans (cy 1 _ rfl)
    exact this
  have n0 : ∀ z : Aft W1, z.val.cell? ⟨w.heap.size, 0, none⟩ = some (.int .i64 17) := fun z => by
    have := cell_block (i := 0) (heap_aft z (lt_of_get rn) rn); simpa using this
  have n1 : ∀ z : Aft W1, z.val.cell? ⟨w.heap.size, 1, none⟩ = some (.int .i64 wd) := fun z => by
    have := cell_block (i := 1) (heap_aft z (lt_of_get rn) rn); simpa using this
  have n3 : ∀ z : Aft W1, z.val.cell? ⟨w.heap.size, 3, none⟩ = some (.int .i64 v) := fun z => by
    have := cell_block (i := 3) (heap_aft z (lt_of_get rn) rn); simpa using this
  have m0 := n0 ⟨W1, Below.refl _ _⟩
  have m1 := n1 ⟨W1, Below.refl _ _⟩
  have m3 := n3 ⟨W1, Below.refl _ _⟩
  have px0 := qx0 ⟨W1, Below.refl _ _⟩
  have px1 := qx1 ⟨W1, Below.refl _ _⟩
  have py0 := qy0 ⟨W1, Below.refl _ _⟩
  have py1 := qy1 ⟨W1, Below.refl _ _⟩
  clear cx cy rn
  have HB1 := Lib.hid hb1
  clear hb1
  go_wp2_with (go_at_call 41; refine (Power_c _ (by omega) (by omega) _).mono ?_; rintro e w' ⟨rfl, rfl⟩)
  by_cases h : wd ≤ bv
  · have hR : apG 17 wd v aw av bw bv cv = 0 := by unfold apG; simp [h]
    refine wp_region_aft (by kernel_rfl) (by kernel_rfl) ?_
    repeat (go_big_quiet_step (first | (go_at_call 41; exact Calls.qs (Power_c _ (by omega) (by omega) _))))
    refine wpQuiet_nil ?_
    intro z
    go_wp2
    go_ret
    exact ⟨retI hR.symm, Below.aft (z.below HB1.out HB1.out.size)⟩
  · have hR : apG 17 wd v aw av bw bv cv = av * pw bv % pw wd := by unfold apG; simp [h]
    have hpb := pw_bd (n := bv) b0 (by omega)
    have hml := mulS a0 a1 (by omega : 0 ≤ pw bv) (by omega)
    refine wp_region_aft (by kernel_rfl) (by kernel_rfl) ?_
    repeat (go_big_quiet_step (first | (go_at_call 41; exact Calls.qs (Power_c _ (by omega) (by omega) _))))
    refine wpQuiet_nil ?_
    intro z
    have rx0 : ∀ u : Aft z.val, u.val.cell? x = some (.int .i64 av) := fun u => qx0 ⟨u.val, u.below z.pf z.pf.size⟩
    have rx1 : ∀ u : Aft z.val, u.val.cell? ⟨x.block, x.off + 1, none⟩ = some (.int .i64 bv) := fun u => qx1 ⟨u.val, u.below z.pf z.pf.size⟩
    have hbz := z.below HB1.out HB1.out.size
    clear qx0 qx1 qy0 qy1 n0 n1 n3 m0 m1 m3 px0 px1 py0 py1
    generalize z.val = W2 at *
    go_wp2_with fail
    refine wp_region_aft (by kernel_rfl) (by kernel_rfl) ?_
    repeat (go_big_quiet_step (first | (go_at_call 41; exact Calls.qs (Power_c _ (by omega) (by omega) _))))
    refine wpQuiet_nil ?_
    intro z2
    go_wp2
    go_ret
    exact ⟨retI (by rw [hR]), Below.aft (z2.below hbz hbz.size)⟩

set_option maxRecDepth 100000 in
set_option maxHeartbeats 1600000 in
theorem ap_18 (wd v av bv cv aw bw cw : Int) (w1 : 1 ≤ wd) (w2 : wd ≤ 16) (a0 : 0 ≤ av) (a1 : av ≤ 65536) (b0 : 0 ≤ bv) (b1 : bv ≤ 65536) (B : Option Addr) (al bc : Nat) (Aa : Option Addr) (ca : Nat) (Wa : Option Addr) (cwa : Nat) (V : Option Addr) (nv cv2 : Nat) (w : World) (hA : LiesI w Aa [av, bv]) (hW : LiesI w Wa [aw, bw]) :
    Calls Tryd.prog 64 #[.agg #[.int .i64 18, .int .i64 wd, .slice B al bc, .int .i64 v], .slice Aa 2 ca, .slice Wa 2 cwa, .slice V nv cv2] w fun e w' => e = .returned (.int .i64 (apG 18 wd v aw av bw bv cv)) ∧ ∃ x : Aft w, w' = x.val := by
  obtain ⟨x, rfl, lx, cx⟩ := hA (by simp)
  obtain ⟨y, rfl, ly, cy⟩ := hW (by simp)
  have hp := pw_bd (n := wd) (by omega) w2
  go_enter Tryd.func64, Tryd.ntmps64
  go_upto_region 1 with (fail)
  have hb1 := (Below.refl w.heap.size w).alloc (Nat.le_refl _) (.cells #[.int .i64 18, .int .i64 wd, .slice B al bc, .int .i64 v] 65)
  have rn : (w.alloc (.cells #[.int .i64 18, .int .i64 wd, .slice B al bc, .int .i64 v] 65)).heap[w.heap.size]? = some (.cells #[.int .i64 18, .int .i64 wd, .slice B al bc, .int .i64 v] 65) := heap_alloc_new _ _
  generalize w.alloc (.cells #[.int .i64 18, .int .i64 wd, .slice B al bc, .int .i64 v] 65) = W1 at *
  have qx0 : ∀ z : Aft W1, z.val.cell? x = some (.int .i64 av) := fun z => by
    have := ((z.below hb1 hb1.size).cell (p := x.add 0) (by rw [addB]; exact lx)).trans (cx 0 _ rfl)
    exact this
  have qx1 : ∀ z : Aft W1, z.val.cell? ⟨x.block, x.off + 1, none⟩ = some (.int .i64 bv) := fun z => by
    have := ((z.below hb1 hb1.size).cell (p := x.add 1) (by rw [addB]; exact lx)).trans (cx 1 _ rfl)
    exact this
  have qy0 : ∀ z : Aft W1, z.val.cell? y = some (.int .i64 aw) := fun z => by
    have := ((z.below hb1 hb1.size).cell (p := y.add 0) (by rw [addB]; exact ly)).trans (cy 0 _ rfl)
    exact this
  have qy1 : ∀ z : Aft W1, z.val.cell? ⟨y.block, y.off + 1, none⟩ = some (.int .i64 bw) := fun z => by
    have := ((z.below hb1 hb1.size).cell (p := y.add 1) (by rw [addB]; exact ly)).trans (cy 1 _ rfl)
    exact this
  have n0 : ∀ z : Aft W1, z.val.cell? ⟨w.heap.size, 0, none⟩ = some (.int .i64 18) := fun z => by
    have := cell_block (i := 0) (heap_aft z (lt_of_get rn) rn); simpa using this
  have n1 : ∀ z : Aft W1, z.val.cell? ⟨w.heap.size, 1, none⟩ = some (.int .i64 wd) := fun z => by
    have := cell_block (i := 1) (heap_aft z (lt_of_get rn) rn); simpa using this
  have n3 : ∀ z : Aft W1, z.val.cell? ⟨w.heap.size, 3, none⟩ = some (.int .i64 v) := fun z => by
    have := cell_block (i := 3) (heap_aft z (lt_of_get rn) rn); simpa using this
  have m0 := n0 ⟨W1, Below.refl _ _⟩
  have m1 := n1 ⟨W1, Below.refl _ _⟩
  have m3 := n3 ⟨W1, Below.refl _ _⟩
  have px0 := qx0 ⟨W1, Below.refl _ _⟩
  have px1 := qx1 ⟨W1, Below.refl _ _⟩
  have py0 := qy0 ⟨W1, Below.refl _ _⟩
  have py1 := qy1 ⟨W1, Below.refl _ _⟩
  clear cx cy rn
  have HB1 := Lib.hid hb1
  clear hb1
  go_wp2_with (go_at_call 41; refine (Power_c _ (by omega) (by omega) _).mono ?_; rintro e w' ⟨rfl, rfl⟩)
  by_cases h : wd ≤ bv
  · have hR : apG 18 wd v aw av bw bv cv = 0 := by unfold apG; simp [h]
    refine wp_region_aft (by kernel_rfl) (by kernel_rfl) ?_
    repeat (go_big_quiet_step (first | (go_at_call 41; exact Calls.qs (Power_c _ (by omega) (by omega) _))))
    refine wpQuiet_nil ?_
    intro z
    go_wp2
    go_ret
    exact ⟨retI hR.symm, Below.aft (z.below HB1.out HB1.out.size)⟩
  · have hR : apG 18 wd v aw av bw bv cv = av / pw bv := by unfold apG; simp [h]
    have hpb := pw_bd (n := bv) b0 (by omega)
    have hml := mulS a0 a1 (by omega : 0 ≤ pw bv) (by omega)
    refine wp_region_aft (by kernel_rfl) (by kernel_rfl) ?_
    repeat (go_big_quiet_step (first | (go_at_call 41; exact Calls.qs (Power_c _ (by omega) (by omega) _))))
    refine wpQuiet_nil ?_
    intro z
    have rx0 : ∀ u : Aft z.val, u.val.cell? x = some (.int .i64 av) := fun u => qx0 ⟨u.val, u.below z.pf z.pf.size⟩
    have rx1 : ∀ u : Aft z.val, u.val.cell? ⟨x.block, x.off + 1, none⟩ = some (.int .i64 bv) := fun u => qx1 ⟨u.val, u.below z.pf z.pf.size⟩
    have hbz := z.below HB1.out HB1.out.size
    clear qx0 qx1 qy0 qy1 n0 n1 n3 m0 m1 m3 px0 px1 py0 py1
    generalize z.val = W2 at *
    go_wp2_with fail
    refine wp_region_aft (by kernel_rfl) (by kernel_rfl) ?_
    repeat (go_big_quiet_step (first | (go_at_call 41; exact Calls.qs (Power_c _ (by omega) (by omega) _))))
    refine wpQuiet_nil ?_
    intro z2
    go_wp2
    go_ret
    exact ⟨retI (by rw [hR]), Below.aft (z2.below hbz hbz.size)⟩

end Go.Proofs.YtkdonapgonegkaaDoor

set_option linter.unusedSimpArgs false
set_option linter.unusedVariables false
namespace Go.Proofs.YtkdonapgonegkaaDoor
open Go.RowKit Go.BigFrame

set_option maxRecDepth 100000 in
set_option maxHeartbeats 1600000 in
theorem ap_0 (v : Int) (wd : Int) (w1 : 1 ≤ wd) (w2 : wd ≤ 16) (B : Option Addr) (al bc : Nat) (Aa : Option Addr) (na ca : Nat) (Wa : Option Addr) (nw cwa : Nat) (V : Option Addr) (cv : Nat) (vs : List Int) (w : World) :
    Calls Tryd.prog 64 #[.agg #[.int .i64 0, .int .i64 wd, .slice B al bc, .int .i64 v], .slice Aa na ca, .slice Wa nw cwa, .slice V vs.length cv] w fun e w' => e = .returned (.int .i64 v) ∧ ∃ x : Aft w, w' = x.val := by
  have hp := pw_bd (n := wd) (by omega) w2
  go_enter Tryd.func64, Tryd.ntmps64
  go_upto_region 1 with (fail)
  have hb1 := (Below.refl w.heap.size w).alloc (Nat.le_refl _) (.cells #[.int .i64 0, .int .i64 wd, .slice B al bc, .int .i64 v] 65)
  have rn : (w.alloc (.cells #[.int .i64 0, .int .i64 wd, .slice B al bc, .int .i64 v] 65)).heap[w.heap.size]? = some (.cells #[.int .i64 0, .int .i64 wd, .slice B al bc, .int .i64 v] 65) := heap_alloc_new _ _
  generalize w.alloc (.cells #[.int .i64 0, .int .i64 wd, .slice B al bc, .int .i64 v] 65) = W1 at *
  have n0 : W1.cell? ⟨w.heap.size, 0, none⟩ = some (.int .i64 0) := by
    have := cell_block (i := 0) rn; simpa using this
  have n1 : W1.cell? ⟨w.heap.size, 1, none⟩ = some (.int .i64 wd) := by
    have := cell_block (i := 1) rn; simpa using this
  have n3 : W1.cell? ⟨w.heap.size, 3, none⟩ = some (.int .i64 v) := by
    have := cell_block (i := 3) rn; simpa using this
  clear rn
  go_wp2_with (go_at_call 41; refine (Power_c _ (by omega) (by omega) _).mono ?_; rintro e w' ⟨rfl, rfl⟩)
  go_ret
  exact ⟨rfl, Below.aft hb1⟩

set_option maxRecDepth 100000 in
set_option maxHeartbeats 1600000 in
theorem ap_1 (p : Nat) (u : Int) (wd : Int) (w1 : 1 ≤ wd) (w2 : wd ≤ 16) (B : Option Addr) (al bc : Nat) (Aa : Option Addr) (na ca : Nat) (Wa : Option Addr) (nw cwa : Nat) (V : Option Addr) (cv : Nat) (vs : List Int) (w : World) (hV : LiesI w V vs) (hu : vs[p]? = some u) :
    Calls Tryd.prog 64 #[.agg #[.int .i64 1, .int .i64 wd, .slice B al bc, .int .i64 p], .slice Aa na ca, .slice Wa nw cwa, .slice V vs.length cv] w fun e w' => e = .returned (.int .i64 u) ∧ ∃ x : Aft w, w' = x.val := by
  have hpl := (List.getElem?_eq_some_iff.1 hu).1
  have hpl2 : (p : Int) < vs.length := by omega
  obtain ⟨ad, rfl, hbl, c0⟩ := hV.cell hu
  have hp := pw_bd (n := wd) (by omega) w2
  go_enter Tryd.func64, Tryd.ntmps64
  go_upto_region 1 with (fail)
  have hb1 := (Below.refl w.heap.size w).alloc (Nat.le_refl _) (.cells #[.int .i64 1, .int .i64 wd, .slice B al bc, .int .i64 p] 65)
  have rn : (w.alloc (.cells #[.int .i64 1, .int .i64 wd, .slice B al bc, .int .i64 p] 65)).heap[w.heap.size]? = some (.cells #[.int .i64 1, .int .i64 wd, .slice B al bc, .int .i64 p] 65) := heap_alloc_new _ _
  generalize w.alloc (.cells #[.int .i64 1, .int .i64 wd, .slice B al bc, .int .i64 p] 65) = W1 at *
  have n0 : W1.cell? ⟨w.heap.size, 0, none⟩ = some (.int .i64 1) := by
    have := cell_block (i := 0) rn; simpa using this
  have n1 : W1.cell? ⟨w.heap.size, 1, none⟩ = some (.int .i64 wd) := by
    have := cell_block (i := 1) rn; simpa using this
  have n3 : W1.cell? ⟨w.heap.size, 3, none⟩ = some (.int .i64 p) := by
    have := cell_block (i := 3) rn; simpa using this
  have q1 := (hb1.cell (p := ad.add p) (by rw [addB]; exact hbl)).trans c0
  clear rn
  go_wp2_with (go_at_call 41; refine (Power_c _ (by omega) (by omega) _).mono ?_; rintro e w' ⟨rfl, rfl⟩)
  go_ret
  exact ⟨rfl, Below.aft hb1⟩

end Go.Proofs.YtkdonapgonegkaaDoor

set_option linter.unusedSimpArgs false
set_option linter.unusedVariables false
namespace Go.Proofs.YtkdonapgonegkaaDoor
open Go.RowKit Go.BigFrame

theorem len1 {l : List Int} (h : l.length = 1) : ∃ a, l = [a] := by
  match l, h with
  | [a], _ => exact ⟨a, rfl⟩
theorem len2 {l : List Int} (h : l.length = 2) : ∃ a b, l = [a, b] := by
  match l, h with
  | [a, b], _ => exact ⟨a, b, rfl⟩
theorem len3 {l : List Int} (h : l.length = 3) : ∃ a b c, l = [a, b, c] := by
  match l, h with
  | [a, b, c], _ => exact ⟨a, b, c, rfl⟩
/-- Values of arguments that fit their widths. -/
structure ArgsOK (op wd v : Int) (us ws : List Int) : Prop where
  o0 : 2 ≤ op
  o1 : op ≤ 18
  w1 : 1 ≤ wd
  w2 : wd ≤ 16
  al : (us.length : Int) = argN op
  wl : ws.length = us.length
  ft : fitW op wd v (ws.getD 0 0) (ws.getD 1 0) (ws.getD 2 0) = true
  ab : ∀ i, i < us.length → 0 ≤ us.getD i 0 ∧ us.getD i 0 < pw (ws.getD i 0)
  wb : ∀ i, i < us.length → 1 ≤ ws.getD i 0 ∧ ws.getD i 0 ≤ 16
  v0 : op = 14 → 0 ≤ v ∧ v ≤ 16

set_option maxRecDepth 100000 in
set_option maxHeartbeats 1600000 in
theorem Apply_c (op wd v : Int) (us ws : List Int) (h : ArgsOK op wd v us ws) (B : Option Addr) (al bc : Nat) (Aa : Option Addr) (ca : Nat) (Wa : Option Addr) (cwa : Nat) (V : Option Addr) (nv cv2 : Nat) (w : World) (hA : LiesI w Aa us) (hW : LiesI w Wa ws) :
    Calls Tryd.prog 64 #[.agg #[.int .i64 op, .int .i64 wd, .slice B al bc, .int .i64 v], .slice Aa us.length ca, .slice Wa ws.length cwa, .slice V nv cv2] w fun e w' => e = .returned (.int .i64 (resG op wd v (ws.getD 0 0) (us.getD 0 0) (ws.getD 1 0) (us.getD 1 0) (us.getD 2 0))) ∧ ∃ x : Aft w, w' = x.val := by
  have hcase : op = 2 ∨ op = 3 ∨ op = 4 ∨ op = 5 ∨ op = 6 ∨ op = 7 ∨ op = 8 ∨ op = 9 ∨ op = 10 ∨ op = 11 ∨ op = 12 ∨ op = 13 ∨ op = 14 ∨ op = 15 ∨ op = 16 ∨ op = 17 ∨ op = 18 := by have := h.o0; have := h.o1; omega
  rcases hcase with rfl | rfl | rfl | rfl | rfl | rfl | rfl | rfl | rfl | rfl | rfl | rfl | rfl | rfl | rfl | rfl | rfl
  · obtain ⟨av, rfl⟩ := len1 (l := us) (by have := h.al; simp [argN] at this; omega)
    obtain ⟨aw, rfl⟩ := len1 (l := ws) (by have := h.wl; simpa using this)
    have hf := h.ft
    have ha := h.ab 0 (by simp)
    have hwa := h.wb 0 (by simp)
    simp only [List.getD, List.getElem?_cons_zero, List.getElem?_cons_succ, List.getElem?_nil, Option.getD_some, Option.getD_none] at *
    have hpa := pw_bd (n := aw) (by omega) hwa.2
    have e := apG_res (op := 2) (wd := wd) (v := v) (aw := aw) (av := av) (bw := 0) (bv := 0) (cw := 0) (cv := 0) (by decide) (by decide) h.w1 h.w2 hf (by omega) hwa.2 (Int.le_refl _) (by decide) ha.1 ha.2 (Int.le_refl _) (by decide) (Int.le_refl _) (by decide)
    rw [← e]
    exact ap_2 wd v av 0 0 aw 0 0 h.w1 h.w2 ha.1 (by omega) (Int.le_refl _) (by decide) B al bc Aa ca Wa cwa V nv cv2 w hA hW
  · obtain ⟨av, bv, rfl⟩ := len2 (l := us) (by have := h.al; simp [argN] at this; omega)
    obtain ⟨aw, bw, rfl⟩ := len2 (l := ws) (by have := h.wl; simpa using this)
    have hf := h.ft
    have ha := h.ab 0 (by simp)
    have hwa := h.wb 0 (by simp)
    have hb := h.ab 1 (by simp)
    have hwb := h.wb 1 (by simp)
    simp only [List.getD, List.getElem?_cons_zero, List.getElem?_cons_succ, List.getElem?_nil, Option.getD_some, Option.getD_none] at *
    have hpa := pw_bd (n := aw) (by omega) hwa.2
    have hpb := pw_bd (n := bw) (by omega) hwb.2
    have e := apG_res (op := 3) (wd := wd) (v := v) (aw := aw) (av := av) (bw := bw) (bv := bv) (cw := 0) (cv := 0) (by decide) (by decide) h.w1 h.w2 hf (by omega) hwa.2 (by omega) hwb.2 ha.1 ha.2 hb.1 hb.2 (Int.le_refl _) (by decide)
    rw [← e]
    exact ap_3 wd v av bv 0 aw bw 0 h.w1 h.w2 ha.1 (by omega) hb.1 (by omega) B al bc Aa ca Wa cwa V nv cv2 w hA hW
  · obtain ⟨av, bv, rfl⟩ := len2 (l := us) (by have := h.al; simp [argN] at this; omega)
    obtain ⟨aw, bw, rfl⟩ := len2 (l := ws) (by have := h.wl; simpa using this)
    have hf := h.ft
    have ha := h.ab 0 (by simp)
    have hwa := h.wb 0 (by simp)
    have hb := h.ab 1 (by simp)
    have hwb := h.wb 1 (by simp)
    simp only [List.getD, List.getElem?_cons_zero, List.getElem?_cons_succ, List.getElem?_nil, Option.getD_some, Option.getD_none] at *
    have hpa := pw_bd (n := aw) (by omega) hwa.2
    have hpb := pw_bd (n := bw) (by omega) hwb.2
    have e := apG_res (op := 4) (wd := wd) (v := v) (aw := aw) (av := av) (bw := bw) (bv := bv) (cw := 0) (cv := 0) (by decide) (by decide) h.w1 h.w2 hf (by omega) hwa.2 (by omega) hwb.2 ha.1 ha.2 hb.1 hb.2 (Int.le_refl _) (by decide)
    rw [← e]
    exact ap_4 wd v av bv 0 aw bw 0 h.w1 h.w2 ha.1 (by omega) hb.1 (by omega) B al bc Aa ca Wa cwa V nv cv2 w hA hW
  · obtain ⟨av, bv, rfl⟩ := len2 (l := us) (by have := h.al; simp [argN] at this; omega)
    obtain ⟨aw, bw, rfl⟩ := len2 (l := ws) (by have := h.wl; simpa using this)
    have hf := h.ft
    have ha := h.ab 0 (by simp)
    have hwa := h.wb 0 (by simp)
    have hb := h.ab 1 (by simp)
    have hwb := h.wb 1 (by simp)
    simp only [List.getD, List.getElem?_cons_zero, List.getElem?_cons_succ, List.getElem?_nil, Option.getD_some, Option.getD_none] at *
    have hpa := pw_bd (n := aw) (by omega) hwa.2
    have hpb := pw_bd (n := bw) (by omega) hwb.2
    have e := apG_res (op := 5) (wd := wd) (v := v) (aw := aw) (av := av) (bw := bw) (bv := bv) (cw := 0) (cv := 0) (by decide) (by decide) h.w1 h.w2 hf (by omega) hwa.2 (by omega) hwb.2 ha.1 ha.2 hb.1 hb.2 (Int.le_refl _) (by decide)
    rw [← e]
    exact ap_5 wd v av bv 0 aw bw 0 h.w1 h.w2 ha.1 (by omega) hb.1 (by omega) B al bc Aa ca Wa cwa V nv cv2 w hA hW
  · obtain ⟨av, bv, rfl⟩ := len2 (l := us) (by have := h.al; simp [argN] at this; omega)
    obtain ⟨aw, bw, rfl⟩ := len2 (l := ws) (by have := h.wl; simpa using this)
    have hf := h.ft
    have ha := h.ab 0 (by simp)
    have hwa := h.wb 0 (by simp)
    have hb := h.ab 1 (by simp)
    have hwb := h.wb 1 (by simp)
    simp only [List.getD, List.getElem?_cons_zero, List.getElem?_cons_succ, List.getElem?_nil, Option.getD_some, Option.getD_none] at *
    have hpa := pw_bd (n := aw) (by omega) hwa.2
    have hpb := pw_bd (n := bw) (by omega) hwb.2
    have e := apG_res (op := 6) (wd := wd) (v := v) (aw := aw) (av := av) (bw := bw) (bv := bv) (cw := 0) (cv := 0) (by decide) (by decide) h.w1 h.w2 hf (by omega) hwa.2 (by omega) hwb.2 ha.1 ha.2 hb.1 hb.2 (Int.le_refl _) (by decide)
    rw [← e]
    exact ap_6 wd v av bv 0 aw bw 0 h.w1 h.w2 ha.1 (by omega) hb.1 (by omega) B al bc Aa ca Wa cwa V nv cv2 w hA hW
  · obtain ⟨av, bv, rfl⟩ := len2 (l := us) (by have := h.al; simp [argN] at this; omega)
    obtain ⟨aw, bw, rfl⟩ := len2 (l := ws) (by have := h.wl; simpa using this)
    have hf := h.ft
    have ha := h.ab 0 (by simp)
    have hwa := h.wb 0 (by simp)
    have hb := h.ab 1 (by simp)
    have hwb := h.wb 1 (by simp)
    simp only [List.getD, List.getElem?_cons_zero, List.getElem?_cons_succ, List.getElem?_nil, Option.getD_some, Option.getD_none] at *
    have hpa := pw_bd (n := aw) (by omega) hwa.2
    have hpb := pw_bd (n := bw) (by omega) hwb.2
    have e := apG_res (op := 7) (wd := wd) (v := v) (aw := aw) (av := av) (bw := bw) (bv := bv) (cw := 0) (cv := 0) (by decide) (by decide) h.w1 h.w2 hf (by omega) hwa.2 (by omega) hwb.2 ha.1 ha.2 hb.1 hb.2 (Int.le_refl _) (by decide)
    rw [← e]
    exact ap_7 wd v av bv 0 aw bw 0 h.w1 h.w2 ha.1 (by omega) hb.1 (by omega) B al bc Aa ca Wa cwa V nv cv2 w hA hW (by have := show (aw == wd && bw == wd) = true from hf; simp at this; rw [← this.2]; exact hb.2)
  · obtain ⟨av, bv, rfl⟩ := len2 (l := us) (by have := h.al; simp [argN] at this; omega)
    obtain ⟨aw, bw, rfl⟩ := len2 (l := ws) (by have := h.wl; simpa using this)
    have hf := h.ft
    have ha := h.ab 0 (by simp)
    have hwa := h.wb 0 (by simp)
    have hb := h.ab 1 (by simp)
    have hwb := h.wb 1 (by simp)
    simp only [List.getD, List.getElem?_cons_zero, List.getElem?_cons_succ, List.getElem?_nil, Option.getD_some, Option.getD_none] at *
    have hpa := pw_bd (n := aw) (by omega) hwa.2
    have hpb := pw_bd (n := bw) (by omega) hwb.2
    have e := apG_res (op := 8) (wd := wd) (v := v) (aw := aw) (av := av) (bw := bw) (bv := bv) (cw := 0) (cv := 0) (by decide) (by decide) h.w1 h.w2 hf (by omega) hwa.2 (by omega) hwb.2 ha.1 ha.2 hb.1 hb.2 (Int.le_refl _) (by decide)
    rw [← e]
    exact ap_8 wd v av bv 0 aw bw 0 h.w1 h.w2 ha.1 (by omega) hb.1 (by omega) B al bc Aa ca Wa cwa V nv cv2 w hA hW
  · obtain ⟨av, bv, rfl⟩ := len2 (l := us) (by have := h.al; simp [argN] at this; omega)
    obtain ⟨aw, bw, rfl⟩ := len2 (l := ws) (by have := h.wl; simpa using this)
    have hf := h.ft
    have ha := h.ab 0 (by simp)
    have hwa := h.wb 0 (by simp)
    have hb := h.ab 1 (by simp)
    have hwb := h.wb 1 (by simp)
    simp only [List.getD, List.getElem?_cons_zero, List.getElem?_cons_succ, List.getElem?_nil, Option.getD_some, Option.getD_none] at *
    have hpa := pw_bd (n := aw) (by omega) hwa.2
    have hpb := pw_bd (n := bw) (by omega) hwb.2
    have e := apG_res (op := 9) (wd := wd) (v := v) (aw := aw) (av := av) (bw := bw) (bv := bv) (cw := 0) (cv := 0) (by decide) (by decide) h.w1 h.w2 hf (by omega) hwa.2 (by omega) hwb.2 ha.1 ha.2 hb.1 hb.2 (Int.le_refl _) (by decide)
    rw [← e]
    exact ap_9 wd v av bv 0 aw bw 0 h.w1 h.w2 ha.1 (by omega) hb.1 (by omega) B al bc Aa ca Wa cwa V nv cv2 w hA hW
  · obtain ⟨av, bv, rfl⟩ := len2 (l := us) (by have := h.al; simp [argN] at this; omega)
    obtain ⟨aw, bw, rfl⟩ := len2 (l := ws) (by have := h.wl; simpa using this)
    have hf := h.ft
    have ha := h.ab 0 (by simp)
    have hwa := h.wb 0 (by simp)
    have hb := h.ab 1 (by simp)
    have hwb := h.wb 1 (by simp)
    simp only [List.getD, List.getElem?_cons_zero, List.getElem?_cons_succ, List.getElem?_nil, Option.getD_some, Option.getD_none] at *
    have hpa := pw_bd (n := aw) (by omega) hwa.2
    have hpb := pw_bd (n := bw) (by omega) hwb.2
    have e := apG_res (op := 10) (wd := wd) (v := v) (aw := aw) (av := av) (bw := bw) (bv := bv) (cw := 0) (cv := 0) (by decide) (by decide) h.w1 h.w2 hf (by omega) hwa.2 (by omega) hwb.2 ha.1 ha.2 hb.1 hb.2 (Int.le_refl _) (by decide)
    rw [← e]
    exact ap_10 wd v av bv 0 aw bw 0 h.w1 h.w2 ha.1 (by omega) hb.1 (by omega) B al bc Aa ca Wa cwa V nv cv2 w hA hW
  · obtain ⟨av, bv, rfl⟩ := len2 (l := us) (by have := h.al; simp [argN] at this; omega)
    obtain ⟨aw, bw, rfl⟩ := len2 (l := ws) (by have := h.wl; simpa using this)
    have hf := h.ft
    have ha := h.ab 0 (by simp)
    have hwa := h.wb 0 (by simp)
    have hb := h.ab 1 (by simp)
    have hwb := h.wb 1 (by simp)
    simp only [List.getD, List.getElem?_cons_zero, List.getElem?_cons_succ, List.getElem?_nil, Option.getD_some, Option.getD_none] at *
    have hpa := pw_bd (n := aw) (by omega) hwa.2
    have hpb := pw_bd (n := bw) (by omega) hwb.2
    have e := apG_res (op := 11) (wd := wd) (v := v) (aw := aw) (av := av) (bw := bw) (bv := bv) (cw := 0) (cv := 0) (by decide) (by decide) h.w1 h.w2 hf (by omega) hwa.2 (by omega) hwb.2 ha.1 ha.2 hb.1 hb.2 (Int.le_refl _) (by decide)
    rw [← e]
    exact ap_11 wd v av bv 0 aw bw 0 h.w1 h.w2 ha.1 (by omega) hb.1 (by omega) B al bc Aa ca Wa cwa V nv cv2 w hA hW hwa.1 hwa.2 hwb.1 hwb.2
  · obtain ⟨av, bv, cv, rfl⟩ := len3 (l := us) (by have := h.al; simp [argN] at this; omega)
    obtain ⟨aw, bw, cw, rfl⟩ := len3 (l := ws) (by have := h.wl; simpa using this)
    have hf := h.ft
    have ha := h.ab 0 (by simp)
    have hwa := h.wb 0 (by simp)
    have hb := h.ab 1 (by simp)
    have hwb := h.wb 1 (by simp)
    have hc := h.ab 2 (by simp)
    have hwc := h.wb 2 (by simp)
    simp only [List.getD, List.getElem?_cons_zero, List.getElem?_cons_succ, List.getElem?_nil, Option.getD_some, Option.getD_none] at *
    have hpa := pw_bd (n := aw) (by omega) hwa.2
    have hpb := pw_bd (n := bw) (by omega) hwb.2
    have e := apG_res (op := 12) (wd := wd) (v := v) (aw := aw) (av := av) (bw := bw) (bv := bv) (cw := cw) (cv := cv) (by decide) (by decide) h.w1 h.w2 hf (by omega) hwa.2 (by omega) hwb.2 ha.1 ha.2 hb.1 hb.2 hc.1 hc.2
    rw [← e]
    exact ap_12 wd v av bv cv aw bw cw h.w1 h.w2 ha.1 (by omega) hb.1 (by omega) B al bc Aa ca Wa cwa V nv cv2 w hA hW
  · obtain ⟨av, bv, rfl⟩ := len2 (l := us) (by have := h.al; simp [argN] at this; omega)
    obtain ⟨aw, bw, rfl⟩ := len2 (l := ws) (by have := h.wl; simpa using this)
    have hf := h.ft
    have ha := h.ab 0 (by simp)
    have hwa := h.wb 0 (by simp)
    have hb := h.ab 1 (by simp)
    have hwb := h.wb 1 (by simp)
    simp only [List.getD, List.getElem?_cons_zero, List.getElem?_cons_succ, List.getElem?_nil, Option.getD_some, Option.getD_none] at *
    have hpa := pw_bd (n := aw) (by omega) hwa.2
    have hpb := pw_bd (n := bw) (by omega) hwb.2
    have e := apG_res (op := 13) (wd := wd) (v := v) (aw := aw) (av := av) (bw := bw) (bv := bv) (cw := 0) (cv := 0) (by decide) (by decide) h.w1 h.w2 hf (by omega) hwa.2 (by omega) hwb.2 ha.1 ha.2 hb.1 hb.2 (Int.le_refl _) (by decide)
    rw [← e]
    exact ap_13 wd v av bv 0 aw bw 0 h.w1 h.w2 ha.1 (by omega) hb.1 (by omega) B al bc Aa ca Wa cwa V nv cv2 w hA hW (by omega) hwb.2
  · obtain ⟨av, rfl⟩ := len1 (l := us) (by have := h.al; simp [argN] at this; omega)
    obtain ⟨aw, rfl⟩ := len1 (l := ws) (by have := h.wl; simpa using this)
    have hf := h.ft
    have ha := h.ab 0 (by simp)
    have hwa := h.wb 0 (by simp)
    simp only [List.getD, List.getElem?_cons_zero, List.getElem?_cons_succ, List.getElem?_nil, Option.getD_some, Option.getD_none] at *
    have hpa := pw_bd (n := aw) (by omega) hwa.2
    have e := apG_res (op := 14) (wd := wd) (v := v) (aw := aw) (av := av) (bw := 0) (bv := 0) (cw := 0) (cv := 0) (by decide) (by decide) h.w1 h.w2 hf (by omega) hwa.2 (Int.le_refl _) (by decide) ha.1 ha.2 (Int.le_refl _) (by decide) (Int.le_refl _) (by decide)
    rw [← e]
    exact ap_14 wd v av 0 0 aw 0 0 h.w1 h.w2 ha.1 (by omega) (Int.le_refl _) (by decide) B al bc Aa ca Wa cwa V nv cv2 w hA hW (h.v0 rfl).1 (h.v0 rfl).2
  · obtain ⟨av, rfl⟩ := len1 (l := us) (by have := h.al; simp [argN] at this; omega)
    obtain ⟨aw, rfl⟩ := len1 (l := ws) (by have := h.wl; simpa using this)
    have hf := h.ft
    have ha := h.ab 0 (by simp)
    have hwa := h.wb 0 (by simp)
    simp only [List.getD, List.getElem?_cons_zero, List.getElem?_cons_succ, List.getElem?_nil, Option.getD_some, Option.getD_none] at *
    have hpa := pw_bd (n := aw) (by omega) hwa.2
    have e := apG_res (op := 15) (wd := wd) (v := v) (aw := aw) (av := av) (bw := 0) (bv := 0) (cw := 0) (cv := 0) (by decide) (by decide) h.w1 h.w2 hf (by omega) hwa.2 (Int.le_refl _) (by decide) ha.1 ha.2 (Int.le_refl _) (by decide) (Int.le_refl _) (by decide)
    rw [← e]
    exact ap_15 wd v av 0 0 aw 0 0 h.w1 h.w2 ha.1 (by omega) (Int.le_refl _) (by decide) B al bc Aa ca Wa cwa V nv cv2 w hA hW
  · obtain ⟨av, rfl⟩ := len1 (l := us) (by have := h.al; simp [argN] at this; omega)
    obtain ⟨aw, rfl⟩ := len1 (l := ws) (by have := h.wl; simpa using this)
    have hf := h.ft
    have ha := h.ab 0 (by simp)
    have hwa := h.wb 0 (by simp)
    simp only [List.getD, List.getElem?_cons_zero, List.getElem?_cons_succ, List.getElem?_nil, Option.getD_some, Option.getD_none] at *
    have hpa := pw_bd (n := aw) (by omega) hwa.2
    have e := apG_res (op := 16) (wd := wd) (v := v) (aw := aw) (av := av) (bw := 0) (bv := 0) (cw := 0) (cv := 0) (by decide) (by decide) h.w1 h.w2 hf (by omega) hwa.2 (Int.le_refl _) (by decide) ha.1 ha.2 (Int.le_refl _) (by decide) (Int.le_refl _) (by decide)
    rw [← e]
    exact ap_16 wd v av 0 0 aw 0 0 h.w1 h.w2 ha.1 (by omega) (Int.le_refl _) (by decide) B al bc Aa ca Wa cwa V nv cv2 w hA hW hwa.1 hwa.2 (pwM (by omega) (by have := show decide (aw ≤ wd) = true from hf; simpa using this))
  · obtain ⟨av, bv, rfl⟩ := len2 (l := us) (by have := h.al; simp [argN] at this; omega)
    obtain ⟨aw, bw, rfl⟩ := len2 (l := ws) (by have := h.wl; simpa using this)
    have hf := h.ft
    have ha := h.ab 0 (by simp)
    have hwa := h.wb 0 (by simp)
    have hb := h.ab 1 (by simp)
    have hwb := h.wb 1 (by simp)
    simp only [List.getD, List.getElem?_cons_zero, List.getElem?_cons_succ, List.getElem?_nil, Option.getD_some, Option.getD_none] at *
    have hpa := pw_bd (n := aw) (by omega) hwa.2
    have hpb := pw_bd (n := bw) (by omega) hwb.2
    have e := apG_res (op := 17) (wd := wd) (v := v) (aw := aw) (av := av) (bw := bw) (bv := bv) (cw := 0) (cv := 0) (by decide) (by decide) h.w1 h.w2 hf (by omega) hwa.2 (by omega) hwb.2 ha.1 ha.2 hb.1 hb.2 (Int.le_refl _) (by decide)
    rw [← e]
    exact ap_17 wd v av bv 0 aw bw 0 h.w1 h.w2 ha.1 (by omega) hb.1 (by omega) B al bc Aa ca Wa cwa V nv cv2 w hA hW
  · obtain ⟨av, bv, rfl⟩ := len2 (l := us) (by have := h.al; simp [argN] at this; omega)
    obtain ⟨aw, bw, rfl⟩ := len2 (l := ws) (by have := h.wl; simpa using this)
    have hf := h.ft
    have ha := h.ab 0 (by simp)
    have hwa := h.wb 0 (by simp)
    have hb := h.ab 1 (by simp)
    have hwb := h.wb 1 (by simp)
    simp only [List.getD, List.getElem?_cons_zero, List.getElem?_cons_succ, List.getElem?_nil, Option.getD_some, Option.getD_none] at *
    have hpa := pw_bd (n := aw) (by omega) hwa.2
    have hpb := pw_bd (n := bw) (by omega) hwb.2
    have e := apG_res (op := 18) (wd := wd) (v := v) (aw := aw) (av := av) (bw := bw) (bv := bv) (cw := 0) (cv := 0) (by decide) (by decide) h.w1 h.w2 hf (by omega) hwa.2 (by omega) hwb.2 ha.1 ha.2 hb.1 hb.2 (Int.le_refl _) (by decide)
    rw [← e]
    exact ap_18 wd v av bv 0 aw bw 0 h.w1 h.w2 ha.1 (by omega) hb.1 (by omega) B al bc Aa ca Wa cwa V nv cv2 w hA hW

end Go.Proofs.YtkdonapgonegkaaDoor

set_option linter.unusedSimpArgs false
set_option linter.unusedVariables false
namespace Go.Proofs.YtkdonapgonegkaaDoor
open Go.RowKit Go.BigFrame

theorem wAt_take {ns : List Nd} {args : List Int} {k i : Nat} (hk : k ≤ ns.length) (ha : ∀ a ∈ args, isIx a (ns.take k).length = true) : wAt (ns.take k) args i = wAt ns args i := by
  unfold wAt
  cases h : args[i]? with
  | none => rfl
  | some a =>
    have h1 := isIx_iff.1 (ha a (List.mem_of_getElem? h))
    rw [List.length_take] at h1
    simp only []
    rw [List.getElem?_take_of_lt (by omega)]
theorem chk_fit {ls : List Int} {ns : List Nd} (h : (chk ls ns).2 = 0) {k : Nat} {n : Nd} (hn : ns[k]? = some n) :
    (n.args.length : Int) = argN n.op ∧ numE ls n.op n.wd n.v = 0 ∧ fitW n.op n.wd n.v (wAt ns n.args 0) (wAt ns n.args 1) (wAt ns n.args 2) = true := by
  obtain ⟨_, _, _, hall⟩ := chk_ok h
  obtain ⟨_, _, h3, h4, h5, h6⟩ := nodeE_ok (hall k n hn)
  have hk := (List.getElem?_eq_some_iff.1 hn).1
  rw [wAt_take (by omega) h4, wAt_take (by omega) h4, wAt_take (by omega) h4] at h6
  exact ⟨h3, h5, h6⟩
theorem valE_fit {ls vs : List Int} (h : valE ls vs = 0) {i : Nat} {x y : Int} (hx : vs[i]? = some x) (hy : ls[i]? = some y) : 0 ≤ x ∧ x < pw y := by
  unfold valE at h
  by_cases h1 : vs.length = ls.length
  · rw [if_pos h1] at h
    have hi := (List.getElem?_eq_some_iff.1 hx).1
    have hz := firstAt_zero h i (by omega) (by omega)
    rw [valK_at hx hy] at hz
    have hv := eIf_zero hz (by decide)
    simp [isV] at hv
    omega
  · rw [if_neg h1] at h
    exact absurd h (by decide)
theorem numE_leaf {ls : List Int} {wd v : Int} (h : numE ls 1 wd v = 0) : ∃ p : Nat, v = (p : Int) ∧ ls[p]? = some wd := by
  unfold numE at h
  rw [if_neg (by decide), if_pos rfl] at h
  by_cases hx : isIx v ls.length = true
  · rw [if_pos hx] at h
    obtain ⟨h0, h1⟩ := isIx_iff.1 hx
    obtain ⟨p, rfl⟩ := Int.eq_ofNat_of_zero_le h0
    have hz := eIf_zero h (by decide)
    have hp : p < ls.length := by omega
    refine ⟨p, rfl, ?_⟩
    simp [List.getD, List.getElem?_eq_getElem hp] at hz
    rw [List.getElem?_eq_getElem hp, hz]
  · rw [if_neg hx] at h
    exact absurd h (by decide)
theorem numE_const {ls : List Int} {wd v : Int} (h : numE ls 0 wd v = 0) : 0 ≤ v ∧ v < pw wd := by
  unfold numE at h
  rw [if_pos rfl] at h
  have hz := eIf_zero h (by decide)
  simp [isV] at hz
  omega
theorem valN_fit {ls vs : List Int} {ns : List Nd} (h : (chk ls ns).2 = 0) (hv : valE ls vs = 0) {k : Nat} {n : Nd} (hn : ns[k]? = some n) (us : List Int) : 0 ≤ valN ns vs us n ∧ valN ns vs us n < pw n.wd := by
  unfold valN
  by_cases h1 : n.op = 1
  · rw [if_pos h1]
    obtain ⟨_, h5, _⟩ := chk_fit h hn
    rw [h1] at h5
    obtain ⟨p, hp, hl⟩ := numE_leaf h5
    have hw := (chk_ok h).2.1
    have hlen := (valE_ok hw hv).1
    have hpl := (List.getElem?_eq_some_iff.1 hl).1
    have hx := List.getElem?_eq_getElem (l := vs) (i := p) (by omega)
    have := valE_fit hv hx hl
    rw [hp]
    simp [List.getD, hx]
    exact this
  · rw [if_neg h1]
    exact resG_bd
theorem valsK_fit {ls vs : List Int} {ns : List Nd} (h : (chk ls ns).2 = 0) (hv : valE ls vs = 0) : ∀ (k : Nat), k ≤ ns.length → ∀ (j : Nat) (m : Nd) (x : Int), ns[j]? = some m → (valsK ns vs k)[j]? = some x → 0 ≤ x ∧ x < pw m.wd := by
  intro k
  induction k with
  | zero => intro _ j m x _ hx; simp [valsK] at hx
  | succ k ih =>
    intro hk j m x hm hx
    have hn := List.getElem?_eq_getElem (l := ns) (i := k) (by omega)
    rw [valsK_step hn] at hx
    have hl := valsK_len (ns := ns) (ls := vs) (k := k) (by omega)
    by_cases hj : j < k
    · rw [List.getElem?_append_left (by omega)] at hx
      exact ih (by omega) j m x hm hx
    · by_cases hjk : j = k
      · subst hjk
        rw [List.getElem?_append_right (by omega), hl] at hx
        simp at hx
        subst hx
        rw [hn] at hm
        obtain rfl := Option.some.inj hm
        exact valN_fit h hv hn _
      · rw [List.getElem?_eq_none (by simp; omega)] at hx
        cases hx
theorem pickL_at (ys xs : List Int) (i : Nat) : (pickL ys xs).getD i 0 = vAt ys xs i := by
  unfold pickL vAt
  cases h : xs[i]? with
  | none => simp [List.getD, h]
  | some a => simp [List.getD, h]
def wdL (ns : List Nd) : List Int := ns.map fun n => n.wd
theorem wdL_at {ns : List Nd} {j : Nat} {m : Nd} (h : ns[j]? = some m) : (wdL ns)[j]? = some m.wd := by simp [wdL, h]
theorem pickL_wd (ns : List Nd) (xs : List Int) (i : Nat) : (pickL (wdL ns) xs).getD i 0 = wAt ns xs i := by
  rw [pickL_at]
  unfold vAt wAt
  cases h : xs[i]? with
  | none => rfl
  | some a =>
    simp only [wdL, List.getD, List.getElem?_map]
    cases ns[a.toNat]? <;> rfl
theorem args_ok {ls vs : List Int} {ns : List Nd} (h : (chk ls ns).2 = 0) (hv : valE ls vs = 0) {k : Nat} {n : Nd} (hn : ns[k]? = some n) (h2 : 2 ≤ n.op) : ArgsOK n.op n.wd n.v (pickL (valsK ns vs k) n.args) (pickL (wdL ns) n.args) := by
  have ok := chk_nodes h k n hn
  have hk := (List.getElem?_eq_some_iff.1 hn).1
  obtain ⟨h3, _, h6⟩ := chk_fit h hn
  have hvl := valsK_len (ns := ns) (ls := vs) (k := k) (by omega)
  refine ⟨h2, ok.o1, ok.w1, ok.w2, by rw [pickL_len]; exact h3, by rw [pickL_len, pickL_len], by rw [pickL_wd, pickL_wd, pickL_wd]; exact h6, fun i hi => ?_, fun i hi => ?_, ok.sl⟩
  · rw [pickL_len] at hi
    obtain ⟨j, m, ha, hj, hm⟩ := ok.arg hk hi
    have hx := List.getElem?_eq_getElem (l := valsK ns vs k) (i := j) (by omega)
    rw [pickL_at, pickL_wd, wAt_in ha hm, vAt_in ha hx]
    exact valsK_fit h hv k (by omega) j m _ hm hx
  · rw [pickL_len] at hi
    obtain ⟨j, m, ha, hj, hm⟩ := ok.arg hk hi
    rw [pickL_wd, wAt_in ha hm]
    exact ⟨(chk_nodes h j m hm).w1, (chk_nodes h j m hm).w2⟩
theorem valN_op {vs : List Int} {ns : List Nd} {us : List Int} {n : Nd} (h1 : n.op ≠ 1) : valN ns vs us n = resG n.op n.wd n.v ((pickL (wdL ns) n.args).getD 0 0) ((pickL us n.args).getD 0 0) ((pickL (wdL ns) n.args).getD 1 0) ((pickL us n.args).getD 1 0) ((pickL us n.args).getD 2 0) := by
  unfold valN
  rw [if_neg h1, pickL_wd, pickL_wd, pickL_at, pickL_at, pickL_at]

/-- An operation on a node of a valid graph, by the references' base. -/
theorem NodeApply_c {ls vs : List Int} {ns : List Nd} (h : (chk ls ns).2 = 0) (hv : valE ls vs = 0) {k : Nat} {n : Nd} (hn : ns[k]? = some n) (B : Option Addr) (al bc : Nat) (Aa : Option Addr) (ca : Nat) (Wa : Option Addr) (cwa : Nat) (V : Option Addr) (cv : Nat) (w : World)
    (hA : LiesI w Aa (pickL (valsK ns vs k) n.args)) (hW : LiesI w Wa (pickL (wdL ns) n.args)) (hV : LiesI w V vs) :
    Calls Tryd.prog 64 #[.agg #[.int .i64 n.op, .int .i64 n.wd, .slice B al bc, .int .i64 n.v], .slice Aa n.args.length ca, .slice Wa n.args.length cwa, .slice V vs.length cv] w fun e w' => e = .returned (.int .i64 (valN ns vs (valsK ns vs k) n)) ∧ ∃ x : Aft w, w' = x.val := by
  have ok := chk_nodes h k n hn
  obtain ⟨_, h5, _⟩ := chk_fit h hn
  have hcase : n.op = 0 ∨ n.op = 1 ∨ 2 ≤ n.op := by have := ok.o0; omega
  rcases hcase with h0 | h0 | h0
  · rw [valN_op (by omega), h0]
    rw [h0] at h5
    have hb := numE_const h5
    have e : resG 0 n.wd n.v ((pickL (wdL ns) n.args).getD 0 0) ((pickL (valsK ns vs k) n.args).getD 0 0) ((pickL (wdL ns) n.args).getD 1 0) ((pickL (valsK ns vs k) n.args).getD 1 0) ((pickL (valsK ns vs k) n.args).getD 2 0) = n.v := by
      unfold resG exG
      rw [if_pos rfl]
      exact Int.emod_eq_of_lt hb.1 hb.2
    rw [e]
    exact ap_0 n.v n.wd ok.w1 ok.w2 B al bc Aa n.args.length ca Wa n.args.length cwa V cv vs w
  · unfold valN
    rw [if_pos h0, h0]
    rw [h0] at h5
    obtain ⟨p, hp, hl⟩ := numE_leaf h5
    have hlen := (valE_ok (chk_ok h).2.1 hv).1
    have hpl := (List.getElem?_eq_some_iff.1 hl).1
    have hx := List.getElem?_eq_getElem (l := vs) (i := p) (by omega)
    have e : vs.getD n.v.toNat 0 = vs[p] := by rw [hp]; simp [List.getD, hx]
    rw [e, hp]
    exact ap_1 p vs[p] n.wd ok.w1 ok.w2 B al bc Aa n.args.length ca Wa n.args.length cwa V cv vs w hV hx
  · rw [valN_op (by omega)]
    have := Apply_c n.op n.wd n.v _ _ (args_ok h hv hn h0) B al bc Aa ca Wa cwa V vs.length cv w hA hW
    rw [pickL_len, pickL_len] at this
    exact this
end Go.Proofs.YtkdonapgonegkaaDoor

set_option linter.unusedSimpArgs false
set_option linter.unusedVariables false
namespace Go.Proofs.YtkdonapgonegkaaDoor
open Go.RowKit Go.BigFrame

theorem lies_form {w : World} {B : Nat} {T : TypeId} {v : Value} {xs : List Int} (h : w.ownsRow B T 1 v xs.length (xs.map (Value.int .i64))) : ∃ A c, v = .slice A xs.length c ∧ LiesI w A xs := by
  obtain ⟨_, ⟨h1, h2⟩ | ⟨g, cap, cur, h1, _, _, _, _, _, _⟩⟩ := id h
  · exact ⟨none, 0, by rw [h1, h2], fun hp => by omega⟩
  · subst h1
    exact ⟨_, cap, rfl, LiesI.of_own h⟩

set_option maxRecDepth 100000 in
set_option maxHeartbeats 1600000 in
theorem NodeValues_c {ls vs : List Int} {ns : List Nd} (h : (chk ls ns).2 = 0) (hv : valE ls vs = 0) (N : Option Addr) (capN : Nat) (V : Option Addr) (cv : Nat) (w : World) (hN : LiesN w N ns) (hV : LiesI w V vs) :
    Calls Tryd.prog 25 #[.slice N ns.length capN, .slice V vs.length cv] w (CopiedI w (valsL ns vs)) := by
  obtain ⟨i0, hi, hz0, hz1, hz2⟩ := info_parts int_info
  have hns : ns.length ≤ 400 := (chk_ok h).2.2.1
  have HNN := Lib.hid hN
  have HVV := Lib.hid hV
  have HND := Lib.hid (fun (k : Nat) (n : Nd) => chk_nodes h k n)
  have HAP := Lib.hid (fun (k : Nat) (n : Nd) (hn : ns[k]? = some n) => NodeApply_c h hv hn)
  clear hN hV h hv
  go_enter Tryd.func25, Tryd.ntmps25
  go_wp2_with (refine wpList_make_full _ rfl _ _ 22 rfl w.heap.size 3 i0 _ 1 Tryd.underlying22 hi hz0 hz1 .i64 .i64 _ _ ns.length rfl rfl rfl rfl (by rw [hz2]; omega) (by unfold maxLen; omega) (Nat.le_refl _) ?_; intro W1 hown hgr; have hb2 := (Below.refl w.heap.size w).grown hgr (Nat.le_refl _) (fun q hq => by cases hq); have rg : W1.heap[w.heap.size]? = some (.cells (rowA (List.replicate ns.length 0)) 3) := (by have := row_block hown rfl; rwa [row_made] at this); clear hown hgr)
  have lg := lt_of_get rg
  generalize hg : w.heap.size = g at *
  have hbw : Below w.heap.size w W1 := by rw [hg]; exact hb2
  have lw : w.heap.size ≤ g := Nat.le_of_eq hg
  clear hb2
  have HRG := Lib.hid rg
  have HBW := Lib.hid hbw
  clear rg hbw lg
  go_wp2_with fail
  go_loopw [6] (fun v6 wr => ∃ k : Nat, k ≤ ns.length ∧ v6 = .int .i64 k ∧ wr.heap[g]? = some (.cells (rowA (valsK ns vs k ++ List.replicate (ns.length - k) 0)) 3) ∧ Below w.heap.size w wr) (fun v6 _ => ns.length - (intOf v6).toNat)
  case atStart => exact ⟨0, by omega, rfl, HRG.out, HBW.out⟩
  case round =>
    clear HRG HBW
    obtain ⟨k, hk, rfl, rg, hb⟩ := hrel
    have HVL := Lib.hid (valsK_len (ns := ns) (ls := vs) hk)
    by_cases hlt : k < ns.length
    · have hkk : (k : Int) < ns.length := by omega
      have HX := Lib.hid (List.getElem?_eq_getElem hlt)
      generalize ns[k] = n at *
      have HOK := Lib.hid (HND.out k n HX.out)
      have HNC := Lib.hid (fun (j : Nat) (m : Nd) (hm : ns[j]? = some m) => HNN.out.cells hm)
      obtain ⟨ad, rfl, hbl, d0, d1, d3, B, bc, d2, hB⟩ := HNN.out.cells HX.out
      have HA0 := Lib.hid (show ∀ W : World, Below w.heap.size w W → W.cell? (ad.add (k * 4)) = some (.int .i64 n.op) ∧ W.cell? ⟨(ad.add (k * 4)).block, (ad.add (k * 4)).off + 1, none⟩ = some (.int .i64 n.wd) ∧ W.cell? ⟨(ad.add (k * 4)).block, (ad.add (k * 4)).off + 2, none⟩ = some (.slice B n.args.length bc) ∧ W.cell? ⟨(ad.add (k * 4)).block, (ad.add (k * 4)).off + 3, none⟩ = some (.int .i64 n.v) from fun W hbW =>
        ⟨(hbW.cell (p := ad.add (k * 4)) (by rw [addB]; exact hbl)).trans d0, (hbW.cell (p := (ad.add (k * 4)).add 1) (by rw [addB, addB]; exact hbl)).trans d1, (hbW.cell (p := (ad.add (k * 4)).add 2) (by rw [addB, addB]; exact hbl)).trans d2, (hbW.cell (p := (ad.add (k * 4)).add 3) (by rw [addB, addB]; exact hbl)).trans d3⟩)
      have HBL := Lib.hid hB
      clear hB d0 d1 d2 d3
      have hal : n.args.length ≤ 3 := HOK.out.al
      have HRG := Lib.hid rg
      have HBW := Lib.hid hb
      have lg := lt_of_get rg
      clear rg hb
      rename World => W0
      go_wp2_with fail
      go_loopw [7, 8, 9] (fun v7 v8 v9 w4 => ∃ j : Nat, j ≤ n.args.length ∧ v9 = .int .i64 j ∧ Rows2 w4 W0.heap.size 3 v7 (pickL (valsK ns vs k) (n.args.take j)) v8 (pickL (wdL ns) (n.args.take j)) ∧ Below W0.heap.size W0 w4) (fun _ _ v9 _ => n.args.length - (intOf v9).toNat)
      case atStart => exact ⟨0, by omega, rfl, Rows2.nil _ _ _, Below.refl _ _⟩
      case round =>
        obtain ⟨j, hj, rfl, hrr, hb4⟩ := hrel
        have hbw4 := HBW.out.trans (hb4.mono HBW.out.size)
        have a2 := (HA0.out _ hbw4).2.2.1
        by_cases hlt2 : j < n.args.length
        · have hjj : (j : Int) < n.args.length := by omega
          have HXA := Lib.hid (List.getElem?_eq_getElem hlt2)
          generalize n.args[j] = a at *
          obtain ⟨g0, g1⟩ := HOK.out.ai j a HXA.out
          obtain ⟨p, rfl⟩ := Int.eq_ofNat_of_zero_le g0
          obtain ⟨ba, rfl, hbal, ca⟩ := HBL.out.cell HXA.out
          have hpk : p < k := by omega
          have hpn : (p : Int) < ns.length := by omega
          have HM := Lib.hid (List.getElem?_eq_getElem (l := ns) (i := p) (by omega))
          generalize ns[p] = m at *
          have HE := Lib.hid (List.getElem?_eq_getElem (l := valsK ns vs k) (i := p) (by rw [HVL.out]; exact hpk))
          generalize (valsK ns vs k)[p]'(by rw [HVL.out]; exact hpk) = x at *
          obtain ⟨ad2, had2, _, _, b1, _, _, _, _, _⟩ := HNC.out p m HM.out
          cases had2
          have HCE := Lib.hid (show ∀ W : World, Below W0.heap.size W0 W → W.cell? ⟨(ad.add (k * 4)).block, (ad.add (k * 4)).off + 2, none⟩ = some (.slice (some ba) n.args.length bc) ∧ W.cell? (ba.add j) = some (.int .i64 p) ∧ W.cell? ⟨g, p, none⟩ = some (.int .i64 x) ∧ W.cell? ⟨(ad.add (p * 4)).block, (ad.add (p * 4)).off + 1, none⟩ = some (.int .i64 m.wd) from fun W hbW => by
            have hw := HBW.out.trans (hbW.mono HBW.out.size)
            refine ⟨(HA0.out W hw).2.2.1, (hw.cell (p := ba.add j) (by rw [addB]; exact hbal)).trans ca, ?_, (hw.cell (p := (ad.add (p * 4)).add 1) (by rw [addB, addB]; exact hbl)).trans b1⟩
            exact (cell_block (i := p) ((hbW.block g lg).trans HRG.out)).trans (rowA_in (by rw [List.getElem?_append_left (by rw [HVL.out]; exact hpk)]; exact HE.out)))
          have HST := Lib.hid (NJ.start (x := x) (y := m.wd) hb4 hrr)
          have HP1 := Lib.hid (pickL_snoc HXA.out HE.out)
          have HP2 := Lib.hid (pickL_snoc HXA.out (wdL_at HM.out))
          clear ca b1 hrr
          go_upto_region 9 with (fail)
          clear a2
          refine wp_region_fx (fun q : Nat × Nat × Value × Value => [(29, u7), (30, .slice (some ⟨g, 0, none⟩) ns.length ns.length), (31, .slice (some ad) ns.length capN), (32, .int .i64 (k : Int)), (33, .pointer (some (ad.add (k * 4)))), (34, .pointer (some ⟨(ad.add (k * 4)).block, (ad.add (k * 4)).off + 2, none⟩)), (35, .slice (some ba) n.args.length bc), (36, .int .i64 (j : Int)), (37, .pointer (some (ba.add j))), (38, .int .i64 (p : Int)), (39, .pointer (some ⟨g, p, none⟩)), (40, .int .i64 x), (41, .slice (some ⟨q.1, 0, none⟩) 1 1), (42, q.2.2.1), (43, u8), (44, .slice (some ad) ns.length capN), (45, .slice (some ad) ns.length capN), (46, .int .i64 (k : Int)), (47, .pointer (some (ad.add (k * 4)))), (48, .pointer (some ⟨(ad.add (k * 4)).block, (ad.add (k * 4)).off + 2, none⟩)), (49, .slice (some ba) n.args.length bc), (50, .int .i64 (j : Int)), (51, .pointer (some (ba.add j))), (52, .int .i64 (p : Int)), (53, .pointer (some (ad.add (p * 4)))), (54, .pointer (some ⟨(ad.add (p * 4)).block, (ad.add (p * 4)).off + 1, none⟩)), (55, .int .i64 m.wd), (56, .slice (some ⟨q.2.1, 0, none⟩) 1 1), (57, q.2.2.2), (7, q.2.2.1), (8, q.2.2.2)]) (CJ W0 3 u7 (pickL (valsK ns vs k) (n.args.take j)) x u8 (pickL (wdL ns) (n.args.take j)) m.wd) (by kernel_rfl) (by kernel_rfl) ⟨(0, 0, u7, u8), (HST.out (0, 0, u7, u8)).drew⟩ [29, 30, 31, 32, 33, 34, 35, 36, 37, 38, 39, 40, 41, 42, 43, 44, 45, 46, 47, 48, 49, 50, 51, 52, 53, 54, 55, 56, 57, 7, 8] (fun _ => rfl) (by kernel_rfl) (by decide) ⟨70, rfl, by decide⟩ ?hs ?hq
          case hs =>
            intro i
            match i with
            | 0 =>
              intro o ho b q W A hC hb hun hall hcl hon hoff hels K hK
              simp only [List.getElem?_cons_succ, List.getElem?_cons_zero, Option.some.injEq] at ho
              subst ho
              have hb : b.length = 31 := hb
              have h29 := not_yet (j := 29) (by omega) hcl rfl ⟨0, .phase⟩ (by simp) rfl rfl hun
              have e0 : A.tmps[7]?.getD undef = u7 := ev_tmp ((hoff 29 7 _ h29 rfl).trans rfl)
              have HC := Lib.hid (hC.quiet 0 (by decide))
              clear hC
              go_simp
              exact hK 29 _ q _ HC.out rfl (fun _ _ => rfl)
            | 1 =>
              intro o ho b q W A hC hb hun hall hcl hon hoff hels K hK
              simp only [List.getElem?_cons_succ, List.getElem?_cons_zero, Option.some.injEq] at ho
              subst ho
              have hb : b.length = 31 := hb
              have e0 : A.tmps[5]?.getD undef = .slice (some ⟨g, 0, none⟩) ns.length ns.length := ev_tmp ((hels 5 (by decide)).trans rfl)
              have HC := Lib.hid (hC.quiet 1 (by decide))
              clear hC
              go_simp
              exact hK 30 _ q _ HC.out rfl (fun _ _ => rfl)
            | 2 =>
              intro o ho b q W A hC hb hun hall hcl hon hoff hels K hK
              simp only [List.getElem?_cons_succ, List.getElem?_cons_zero, Option.some.injEq] at ho
              subst ho
              have hb : b.length = 31 := hb
              have e0 : A.tmps[0]?.getD undef = .slice (some ad) ns.length capN := ev_tmp ((hels 0 (by decide)).trans rfl)
              have HC := Lib.hid (hC.quiet 2 (by decide))
              clear hC
              go_simp
              exact hK 31 _ q _ HC.out rfl (fun _ _ => rfl)
            | 3 =>
              intro o ho b q W A hC hb hun hall hcl hon hoff hels K hK
              simp only [List.getElem?_cons_succ, List.getElem?_cons_zero, Option.some.injEq] at ho
              subst ho
              have hb : b.length = 31 := hb
              have e0 : A.tmps[6]?.getD undef = .int .i64 (k : Int) := ev_tmp ((hels 6 (by decide)).trans rfl)
              have HC := Lib.hid (hC.quiet 3 (by decide))
              clear hC
              go_simp
              exact hK 32 _ q _ HC.out rfl (fun _ _ => rfl)
            | 4 =>
              intro o ho b q W A hC hb hun hall hcl hon hoff hels K hK
              simp only [List.getElem?_cons_succ, List.getElem?_cons_zero, Option.some.injEq] at ho
              subst ho
              have hb : b.length = 31 := hb
              have e0 : A.tmps[31]?.getD undef = .slice (some ad) ns.length capN := ev_tmp (hon 2 31 _ (hall ⟨2, .data⟩ (by simp) rfl) rfl)
              have e1 : A.tmps[32]?.getD undef = .int .i64 (k : Int) := ev_tmp (hon 3 32 _ (hall ⟨3, .data⟩ (by simp) rfl) rfl)
              have HC := Lib.hid (hC.quiet 4 (by decide))
              clear hC
              go_simp
              exact hK 33 _ q _ HC.out rfl (fun _ _ => rfl)
            | 5 =>
              intro o ho b q W A hC hb hun hall hcl hon hoff hels K hK
              simp only [List.getElem?_cons_succ, List.getElem?_cons_zero, Option.some.injEq] at ho
              subst ho
              have hb : b.length = 31 := hb
              have e0 : A.tmps[33]?.getD undef = .pointer (some (ad.add (k * 4))) := ev_tmp (hon 4 33 _ (hall ⟨4, .data⟩ (by simp) rfl) rfl)
              have HC := Lib.hid (hC.quiet 5 (by decide))
              clear hC
              go_simp
              exact hK 34 _ q _ HC.out rfl (fun _ _ => rfl)
            | 6 =>
              intro o ho b q W A hC hb hun hall hcl hon hoff hels K hK
              simp only [List.getElem?_cons_succ, List.getElem?_cons_zero, Option.some.injEq] at ho
              subst ho
              have hb : b.length = 31 := hb
              have e0 : A.tmps[34]?.getD undef = .pointer (some ⟨(ad.add (k * 4)).block, (ad.add (k * 4)).off + 2, none⟩) := ev_tmp (hon 5 34 _ (hall ⟨5, .data⟩ (by simp) rfl) rfl)
              have hc := HCE.out W hC.bel
              have HC := Lib.hid (hC.quiet 6 (by decide))
              clear hC
              obtain ⟨hc0, hc1, hc2, hc3⟩ := hc
              go_simp
              exact hK 35 _ q _ HC.out rfl (fun _ _ => rfl)
            | 7 =>
              intro o ho b q W A hC hb hun hall hcl hon hoff hels K hK
              simp only [List.getElem?_cons_succ, List.getElem?_cons_zero, Option.some.injEq] at ho
              subst ho
              have hb : b.length = 31 := hb
              have e0 : A.tmps[9]?.getD undef = .int .i64 (j : Int) := ev_tmp ((hels 9 (by decide)).trans rfl)
              have HC := Lib.hid (hC.quiet 7 (by decide))
              clear hC
              go_simp
              exact hK 36 _ q _ HC.out rfl (fun _ _ => rfl)
            | 8 =>
              intro o ho b q W A hC hb hun hall hcl hon hoff hels K hK
              simp only [List.getElem?_cons_succ, List.getElem?_cons_zero, Option.some.injEq] at ho
              subst ho
              have hb : b.length = 31 := hb
              have e0 : A.tmps[35]?.getD undef = .slice (some ba) n.args.length bc := ev_tmp (hon 6 35 _ (hall ⟨6, .data⟩ (by simp) rfl) rfl)
              have e1 : A.tmps[36]?.getD undef = .int .i64 (j : Int) := ev_tmp (hon 7 36 _ (hall ⟨7, .data⟩ (by simp) rfl) rfl)
              have HC := Lib.hid (hC.quiet 8 (by decide))
              clear hC
              go_simp
              exact hK 37 _ q _ HC.out rfl (fun _ _ => rfl)
            | 9 =>
              intro o ho b q W A hC hb hun hall hcl hon hoff hels K hK
              simp only [List.getElem?_cons_succ, List.getElem?_cons_zero, Option.some.injEq] at ho
              subst ho
              have hb : b.length = 31 := hb
              have e0 : A.tmps[37]?.getD undef = .pointer (some (ba.add j)) := ev_tmp (hon 8 37 _ (hall ⟨8, .data⟩ (by simp) rfl) rfl)
              have hc := HCE.out W hC.bel
              have HC := Lib.hid (hC.quiet 9 (by decide))
              clear hC
              obtain ⟨hc0, hc1, hc2, hc3⟩ := hc
              go_simp
              exact hK 38 _ q _ HC.out rfl (fun _ _ => rfl)
            | 10 =>
              intro o ho b q W A hC hb hun hall hcl hon hoff hels K hK
              simp only [List.getElem?_cons_succ, List.getElem?_cons_zero, Option.some.injEq] at ho
              subst ho
              have hb : b.length = 31 := hb
              have e0 : A.tmps[30]?.getD undef = .slice (some ⟨g, 0, none⟩) ns.length ns.length := ev_tmp (hon 1 30 _ (hall ⟨1, .data⟩ (by simp) rfl) rfl)
              have e1 : A.tmps[38]?.getD undef = .int .i64 (p : Int) := ev_tmp (hon 9 38 _ (hall ⟨9, .data⟩ (by simp) rfl) rfl)
              have HC := Lib.hid (hC.quiet 10 (by decide))
              clear hC
              go_simp
              exact hK 39 _ q _ HC.out rfl (fun _ _ => rfl)
            | 11 =>
              intro o ho b q W A hC hb hun hall hcl hon hoff hels K hK
              simp only [List.getElem?_cons_succ, List.getElem?_cons_zero, Option.some.injEq] at ho
              subst ho
              have hb : b.length = 31 := hb
              have e0 : A.tmps[39]?.getD undef = .pointer (some ⟨g, p, none⟩) := ev_tmp (hon 10 39 _ (hall ⟨10, .data⟩ (by simp) rfl) rfl)
              have hc := HCE.out W hC.bel
              have HC := Lib.hid (hC.quiet 11 (by decide))
              clear hC
              obtain ⟨hc0, hc1, hc2, hc3⟩ := hc
              go_simp
              exact hK 40 _ q _ HC.out rfl (fun _ _ => rfl)
            | 12 =>
              intro o ho b q W A hC hb hun hall hcl hon hoff hels K hK
              simp only [List.getElem?_cons_succ, List.getElem?_cons_zero, Option.some.injEq] at ho
              subst ho
              have hb : b.length = 31 := hb
              have e0 : A.tmps[40]?.getD undef = .int .i64 x := ev_tmp (hon 11 40 _ (hall ⟨11, .data⟩ (by simp) rfl) rfl)
              have hn := not_yet (j := 13) (by omega) hcl rfl ⟨12, .data⟩ (by simp) rfl rfl hun
              have HC := Lib.hid (show CJ W0 3 u7 (pickL (valsK ns vs k) (n.args.take j)) x u8 (pickL (wdL ns) (n.args.take j)) m.wd (b.set 12 true) (W.heap.size, q.2) (W.alloc (.cells #[.int .i64 x] 3)) from by
                have h := hC
                unfold CJ at h ⊢
                rw [bt_of hun, bt_of hn] at h
                rw [bt_eq hun, bt_ne (i := 12) (j := 13) (by decide), bt_ne (i := 12) (j := 27) (by decide), bt_ne (i := 12) (j := 28) (by decide), bt_of hn]
                exact h.bs1)
              clear hC
              go_simp
              refine hK 41 _ (W.heap.size, q.2) _ HC.out rfl ?_
              intro k' hk'
              match k', hk' with
              | 0, _ => rfl
              | 1, _ => rfl
              | 2, _ => rfl
              | 3, _ => rfl
              | 4, _ => rfl
              | 5, _ => rfl
              | 6, _ => rfl
              | 7, _ => rfl
              | 8, _ => rfl
              | 9, _ => rfl
              | 10, _ => rfl
              | 11, _ => rfl
              | 12, hk' => rw [hun] at hk'; cases hk'
              | 13, _ => rfl
              | 14, _ => rfl
              | 15, _ => rfl
              | 16, _ => rfl
              | 17, _ => rfl
              | 18, _ => rfl
              | 19, _ => rfl
              | 20, _ => rfl
              | 21, _ => rfl
              | 22, _ => rfl
              | 23, _ => rfl
              | 24, _ => rfl
              | 25, _ => rfl
              | 26, _ => rfl
              | 27, _ => rfl
              | 28, _ => rfl
              | 29, _ => rfl
              | 30, _ => rfl
              | t + 31, hk' => rfl
            | 13 =>
              intro o ho b q W A hC hb hun hall hcl hon hoff hels K hK
              simp only [List.getElem?_cons_succ, List.getElem?_cons_zero, Option.some.injEq] at ho
              subst ho
              have hb : b.length = 31 := hb
              have e0 : A.eval (.tmp 29) = u7 := hon 0 29 _ (hall ⟨0, .data⟩ (by simp) rfl) rfl
              have e1 : A.eval (.tmp 41) = .slice (some ⟨q.1, 0, none⟩) 1 1 := hon 12 41 _ (hall ⟨12, .data⟩ (by simp) rfl) rfl
              have hn := not_yet (j := 29) (by omega) hcl rfl ⟨13, .data⟩ (by simp) rfl rfl hun
              have hp := hall ⟨12, .data⟩ (by simp) rfl
              have hn28 := not_yet (j := 28) (by omega) hcl rfl ⟨13, .chain⟩ (by simp) rfl rfl hun
              have h : NJ W0 3 u7 (pickL (valsK ns vs k) (n.args.take j)) x u8 (pickL (wdL ns) (n.args.take j)) m.wd true false (bt b 27) false q W := by have h := hC; unfold CJ at h; rwa [bt_of hun, bt_of hp, bt_of hn28] at h
              have hr : Rows2 W W0.heap.size 3 u7 (pickL (valsK ns vs k) (n.args.take j)) u8 (pickL (wdL ns) (n.args.take j)) := by simpa using h.row
              have hcell := cell_one (h.c1 rfl rfl)
              refine step_append_at rfl (.tmp 29) (.tmp 41) 22 rfl W0.heap.size 3 i0 (.int .i64 0) 1 8 Tryd.underlying22 hi hz0 hz1 hz2 rfl (by decide) u7 _ _ e0 hr.o1 ⟨q.1, 0, none⟩ 1 1 [.int .i64 x] e1 rfl hcell (fun u hu => by simp at hu; subst hu; rfl) (by rw [pickL_len, List.length_take]; unfold maxLen; omega) (by rw [pickL_len, List.length_take]; omega) h.bel.size ?_
              intro v' w' ho hg hat
              refine hK 42 _ (q.1, q.2.1, v', q.2.2.2) _ ?_ rfl ?_
              · unfold CJ
                rw [bt_eq hun, bt_ne (i := 13) (j := 12) (by decide), bt_ne (i := 13) (j := 27) (by decide), bt_ne (i := 13) (j := 28) (by decide)]
                rw [bt_of hp, bt_of hn28]
                exact h.ap1 ho hg hat
              · intro k' hk'
                match k', hk' with
                | 0, _ => rfl
                | 1, _ => rfl
                | 2, _ => rfl
                | 3, _ => rfl
                | 4, _ => rfl
                | 5, _ => rfl
                | 6, _ => rfl
                | 7, _ => rfl
                | 8, _ => rfl
                | 9, _ => rfl
                | 10, _ => rfl
                | 11, _ => rfl
                | 12, _ => rfl
                | 13, hk' => rw [hun] at hk'; cases hk'
                | 14, _ => rfl
                | 15, _ => rfl
                | 16, _ => rfl
                | 17, _ => rfl
                | 18, _ => rfl
                | 19, _ => rfl
                | 20, _ => rfl
                | 21, _ => rfl
                | 22, _ => rfl
                | 23, _ => rfl
                | 24, _ => rfl
                | 25, _ => rfl
                | 26, _ => rfl
                | 27, _ => rfl
                | 28, _ => rfl
                | 29, hk' => rw [hn] at hk'; cases hk'
                | 30, _ => rfl
                | t + 31, hk' => rfl
            | 14 =>
              intro o ho b q W A hC hb hun hall hcl hon hoff hels K hK
              simp only [List.getElem?_cons_succ, List.getElem?_cons_zero, Option.some.injEq] at ho
              subst ho
              have hb : b.length = 31 := hb
              have h30 := not_yet (j := 30) (by omega) hcl rfl ⟨14, .phase⟩ (by simp) rfl rfl hun
              have e0 : A.tmps[8]?.getD undef = u8 := ev_tmp ((hoff 30 8 _ h30 rfl).trans rfl)
              have HC := Lib.hid (hC.quiet 14 (by decide))
              clear hC
              go_simp
              exact hK 43 _ q _ HC.out rfl (fun _ _ => rfl)
            | 15 =>
              intro o ho b q W A hC hb hun hall hcl hon hoff hels K hK
              simp only [List.getElem?_cons_succ, List.getElem?_cons_zero, Option.some.injEq] at ho
              subst ho
              have hb : b.length = 31 := hb
              have e0 : A.tmps[0]?.getD undef = .slice (some ad) ns.length capN := ev_tmp ((hels 0 (by decide)).trans rfl)
              have HC := Lib.hid (hC.quiet 15 (by decide))
              clear hC
              go_simp
              exact hK 44 _ q _ HC.out rfl (fun _ _ => rfl)
            | 16 =>
              intro o ho b q W A hC hb hun hall hcl hon hoff hels K hK
              simp only [List.getElem?_cons_succ, List.getElem?_cons_zero, Option.some.injEq] at ho
              subst ho
              have hb : b.length = 31 := hb
              have e0 : A.tmps[0]?.getD undef = .slice (some ad) ns.length capN := ev_tmp ((hels 0 (by decide)).trans rfl)
              have HC := Lib.hid (hC.quiet 16 (by decide))
              clear hC
              go_simp
              exact hK 45 _ q _ HC.out rfl (fun _ _ => rfl)
            | 17 =>
              intro o ho b q W A hC hb hun hall hcl hon hoff hels K hK
              simp only [List.getElem?_cons_succ, List.getElem?_cons_zero, Option.some.injEq] at ho
              subst ho
              have hb : b.length = 31 := hb
              have e0 : A.tmps[6]?.getD undef = .int .i64 (k : Int) := ev_tmp ((hels 6 (by decide)).trans rfl)
              have HC := Lib.hid (hC.quiet 17 (by decide))
              clear hC
              go_simp
              exact hK 46 _ q _ HC.out rfl (fun _ _ => rfl)
            | 18 =>
              intro o ho b q W A hC hb hun hall hcl hon hoff hels K hK
              simp only [List.getElem?_cons_succ, List.getElem?_cons_zero, Option.some.injEq] at ho
              subst ho
              have hb : b.length = 31 := hb
              have e0 : A.tmps[45]?.getD undef = .slice (some ad) ns.length capN := ev_tmp (hon 16 45 _ (hall ⟨16, .data⟩ (by simp) rfl) rfl)
              have e1 : A.tmps[46]?.getD undef = .int .i64 (k : Int) := ev_tmp (hon 17 46 _ (hall ⟨17, .data⟩ (by simp) rfl) rfl)
              have HC := Lib.hid (hC.quiet 18 (by decide))
              clear hC
              go_simp
              exact hK 47 _ q _ HC.out rfl (fun _ _ => rfl)
            | 19 =>
              intro o ho b q W A hC hb hun hall hcl hon hoff hels K hK
              simp only [List.getElem?_cons_succ, List.getElem?_cons_zero, Option.some.injEq] at ho
              subst ho
              have hb : b.length = 31 := hb
              have e0 : A.tmps[47]?.getD undef = .pointer (some (ad.add (k * 4))) := ev_tmp (hon 18 47 _ (hall ⟨18, .data⟩ (by simp) rfl) rfl)
              have HC := Lib.hid (hC.quiet 19 (by decide))
              clear hC
              go_simp
              exact hK 48 _ q _ HC.out rfl (fun _ _ => rfl)
            | 20 =>
              intro o ho b q W A hC hb hun hall hcl hon hoff hels K hK
              simp only [List.getElem?_cons_succ, List.getElem?_cons_zero, Option.some.injEq] at ho
              subst ho
              have hb : b.length = 31 := hb
              have e0 : A.tmps[48]?.getD undef = .pointer (some ⟨(ad.add (k * 4)).block, (ad.add (k * 4)).off + 2, none⟩) := ev_tmp (hon 19 48 _ (hall ⟨19, .data⟩ (by simp) rfl) rfl)
              have hc := HCE.out W hC.bel
              have HC := Lib.hid (hC.quiet 20 (by decide))
              clear hC
              obtain ⟨hc0, hc1, hc2, hc3⟩ := hc
              go_simp
              exact hK 49 _ q _ HC.out rfl (fun _ _ => rfl)
            | 21 =>
              intro o ho b q W A hC hb hun hall hcl hon hoff hels K hK
              simp only [List.getElem?_cons_succ, List.getElem?_cons_zero, Option.some.injEq] at ho
              subst ho
              have hb : b.length = 31 := hb
              have e0 : A.tmps[9]?.getD undef = .int .i64 (j : Int) := ev_tmp ((hels 9 (by decide)).trans rfl)
              have HC := Lib.hid (hC.quiet 21 (by decide))
              clear hC
              go_simp
              exact hK 50 _ q _ HC.out rfl (fun _ _ => rfl)
            | 22 =>
              intro o ho b q W A hC hb hun hall hcl hon hoff hels K hK
              simp only [List.getElem?_cons_succ, List.getElem?_cons_zero, Option.some.injEq] at ho
              subst ho
              have hb : b.length = 31 := hb
              have e0 : A.tmps[49]?.getD undef = .slice (some ba) n.args.length bc := ev_tmp (hon 20 49 _ (hall ⟨20, .data⟩ (by simp) rfl) rfl)
              have e1 : A.tmps[50]?.getD undef = .int .i64 (j : Int) := ev_tmp (hon 21 50 _ (hall ⟨21, .data⟩ (by simp) rfl) rfl)
              have HC := Lib.hid (hC.quiet 22 (by decide))
              clear hC
              go_simp
              exact hK 51 _ q _ HC.out rfl (fun _ _ => rfl)
            | 23 =>
              intro o ho b q W A hC hb hun hall hcl hon hoff hels K hK
              simp only [List.getElem?_cons_succ, List.getElem?_cons_zero, Option.some.injEq] at ho
              subst ho
              have hb : b.length = 31 := hb
              have e0 : A.tmps[51]?.getD undef = .pointer (some (ba.add j)) := ev_tmp (hon 22 51 _ (hall ⟨22, .data⟩ (by simp) rfl) rfl)
              have hc := HCE.out W hC.bel
              have HC := Lib.hid (hC.quiet 23 (by decide))
              clear hC
              obtain ⟨hc0, hc1, hc2, hc3⟩ := hc
              go_simp
              exact hK 52 _ q _ HC.out rfl (fun _ _ => rfl)
            | 24 =>
              intro o ho b q W A hC hb hun hall hcl hon hoff hels K hK
              simp only [List.getElem?_cons_succ, List.getElem?_cons_zero, Option.some.injEq] at ho
              subst ho
              have hb : b.length = 31 := hb
              have e0 : A.tmps[44]?.getD undef = .slice (some ad) ns.length capN := ev_tmp (hon 15 44 _ (hall ⟨15, .data⟩ (by simp) rfl) rfl)
              have e1 : A.tmps[52]?.getD undef = .int .i64 (p : Int) := ev_tmp (hon 23 52 _ (hall ⟨23, .data⟩ (by simp) rfl) rfl)
              have HC := Lib.hid (hC.quiet 24 (by decide))
              clear hC
              go_simp
              exact hK 53 _ q _ HC.out rfl (fun _ _ => rfl)
            | 25 =>
              intro o ho b q W A hC hb hun hall hcl hon hoff hels K hK
              simp only [List.getElem?_cons_succ, List.getElem?_cons_zero, Option.some.injEq] at ho
              subst ho
              have hb : b.length = 31 := hb
              have e0 : A.tmps[53]?.getD undef = .pointer (some (ad.add (p * 4))) := ev_tmp (hon 24 53 _ (hall ⟨24, .data⟩ (by simp) rfl) rfl)
              have HC := Lib.hid (hC.quiet 25 (by decide))
              clear hC
              go_simp
              exact hK 54 _ q _ HC.out rfl (fun _ _ => rfl)
            | 26 =>
              intro o ho b q W A hC hb hun hall hcl hon hoff hels K hK
              simp only [List.getElem?_cons_succ, List.getElem?_cons_zero, Option.some.injEq] at ho
              subst ho
              have hb : b.length = 31 := hb
              have e0 : A.tmps[54]?.getD undef = .pointer (some ⟨(ad.add (p * 4)).block, (ad.add (p * 4)).off + 1, none⟩) := ev_tmp (hon 25 54 _ (hall ⟨25, .data⟩ (by simp) rfl) rfl)
              have hc := HCE.out W hC.bel
              have HC := Lib.hid (hC.quiet 26 (by decide))
              clear hC
              obtain ⟨hc0, hc1, hc2, hc3⟩ := hc
              go_simp
              exact hK 55 _ q _ HC.out rfl (fun _ _ => rfl)
            | 27 =>
              intro o ho b q W A hC hb hun hall hcl hon hoff hels K hK
              simp only [List.getElem?_cons_succ, List.getElem?_cons_zero, Option.some.injEq] at ho
              subst ho
              have hb : b.length = 31 := hb
              have e0 : A.tmps[55]?.getD undef = .int .i64 m.wd := ev_tmp (hon 26 55 _ (hall ⟨26, .data⟩ (by simp) rfl) rfl)
              have hn := not_yet (j := 28) (by omega) hcl rfl ⟨27, .data⟩ (by simp) rfl rfl hun
              have HC := Lib.hid (show CJ W0 3 u7 (pickL (valsK ns vs k) (n.args.take j)) x u8 (pickL (wdL ns) (n.args.take j)) m.wd (b.set 27 true) (q.1, W.heap.size, q.2.2) (W.alloc (.cells #[.int .i64 m.wd] 3)) from by
                have h := hC
                unfold CJ at h ⊢
                rw [bt_of hun, bt_of hn] at h
                rw [bt_eq hun, bt_ne (i := 27) (j := 12) (by decide), bt_ne (i := 27) (j := 13) (by decide), bt_ne (i := 27) (j := 28) (by decide), bt_of hn]
                exact h.bs2)
              clear hC
              go_simp
              refine hK 56 _ (q.1, W.heap.size, q.2.2) _ HC.out rfl ?_
              intro k' hk'
              match k', hk' with
              | 0, _ => rfl
              | 1, _ => rfl
              | 2, _ => rfl
              | 3, _ => rfl
              | 4, _ => rfl
              | 5, _ => rfl
              | 6, _ => rfl
              | 7, _ => rfl
              | 8, _ => rfl
              | 9, _ => rfl
              | 10, _ => rfl
              | 11, _ => rfl
              | 12, _ => rfl
              | 13, _ => rfl
              | 14, _ => rfl
              | 15, _ => rfl
              | 16, _ => rfl
              | 17, _ => rfl
              | 18, _ => rfl
              | 19, _ => rfl
              | 20, _ => rfl
              | 21, _ => rfl
              | 22, _ => rfl
              | 23, _ => rfl
              | 24, _ => rfl
              | 25, _ => rfl
              | 26, _ => rfl
              | 27, hk' => rw [hun] at hk'; cases hk'
              | 28, _ => rfl
              | 29, _ => rfl
              | 30, _ => rfl
              | t + 31, hk' => rfl
            | 28 =>
              intro o ho b q W A hC hb hun hall hcl hon hoff hels K hK
              simp only [List.getElem?_cons_succ, List.getElem?_cons_zero, Option.some.injEq] at ho
              subst ho
              have hb : b.length = 31 := hb
              have e0 : A.eval (.tmp 43) = u8 := hon 14 43 _ (hall ⟨14, .data⟩ (by simp) rfl) rfl
              have e1 : A.eval (.tmp 56) = .slice (some ⟨q.2.1, 0, none⟩) 1 1 := hon 27 56 _ (hall ⟨27, .data⟩ (by simp) rfl) rfl
              have hn := not_yet (j := 30) (by omega) hcl rfl ⟨28, .data⟩ (by simp) rfl rfl hun
              have hp := hall ⟨27, .data⟩ (by simp) rfl
              have hp13 := hall ⟨13, .chain⟩ (by simp) rfl
              have hp12 := hcl 13 _ rfl hp13 ⟨12, .data⟩ (by simp) rfl
              have h : NJ W0 3 u7 (pickL (valsK ns vs k) (n.args.take j)) x u8 (pickL (wdL ns) (n.args.take j)) m.wd true true true false q W := by have h := hC; unfold CJ at h; rwa [bt_of hun, bt_of hp, bt_of hp13, bt_of hp12] at h
              have hr : Rows2 W W0.heap.size 3 q.2.2.1 ((pickL (valsK ns vs k) (n.args.take j)) ++ [x]) u8 (pickL (wdL ns) (n.args.take j)) := by simpa using h.row
              have hcell := cell_one ((h.c2 rfl rfl).1)
              refine step_append_at rfl (.tmp 43) (.tmp 56) 22 rfl W0.heap.size 3 i0 (.int .i64 0) 1 8 Tryd.underlying22 hi hz0 hz1 hz2 rfl (by decide) u8 _ _ e0 hr.o2 ⟨q.2.1, 0, none⟩ 1 1 [.int .i64 m.wd] e1 rfl hcell (fun u hu => by simp at hu; subst hu; rfl) (by rw [pickL_len, List.length_take]; unfold maxLen; omega) (by rw [pickL_len, List.length_take]; omega) h.bel.size ?_
              intro v' w' ho hg hat
              refine hK 57 _ (q.1, q.2.1, q.2.2.1, v') _ ?_ rfl ?_
              · unfold CJ
                rw [bt_eq hun, bt_ne (i := 28) (j := 12) (by decide), bt_ne (i := 28) (j := 13) (by decide), bt_ne (i := 28) (j := 27) (by decide)]
                rw [bt_of hp, bt_of hp13, bt_of hp12]
                exact h.ap2 ho hg hat
              · intro k' hk'
                match k', hk' with
                | 0, _ => rfl
                | 1, _ => rfl
                | 2, _ => rfl
                | 3, _ => rfl
                | 4, _ => rfl
                | 5, _ => rfl
                | 6, _ => rfl
                | 7, _ => rfl
                | 8, _ => rfl
                | 9, _ => rfl
                | 10, _ => rfl
                | 11, _ => rfl
                | 12, _ => rfl
                | 13, _ => rfl
                | 14, _ => rfl
                | 15, _ => rfl
                | 16, _ => rfl
                | 17, _ => rfl
                | 18, _ => rfl
                | 19, _ => rfl
                | 20, _ => rfl
                | 21, _ => rfl
                | 22, _ => rfl
                | 23, _ => rfl
                | 24, _ => rfl
                | 25, _ => rfl
                | 26, _ => rfl
                | 27, _ => rfl
                | 28, hk' => rw [hun] at hk'; cases hk'
                | 29, _ => rfl
                | 30, hk' => rw [hn] at hk'; cases hk'
                | t + 31, hk' => rfl
            | 29 =>
              intro o ho b q W A hC hb hun hall hcl hon hoff hels K hK
              simp only [List.getElem?_cons_succ, List.getElem?_cons_zero, Option.some.injEq] at ho
              subst ho
              have hb : b.length = 31 := hb
              have e0 : A.tmps[42]?.getD undef = q.2.2.1 := ev_tmp (hon 13 42 _ (hall ⟨13, .data⟩ (by simp) rfl) rfl)
              have HC := Lib.hid (hC.quiet 29 (by decide))
              clear hC
              go_simp
              exact hK 7 _ q _ HC.out rfl (fun _ _ => rfl)
            | 30 =>
              intro o ho b q W A hC hb hun hall hcl hon hoff hels K hK
              simp only [List.getElem?_cons_succ, List.getElem?_cons_zero, Option.some.injEq] at ho
              subst ho
              have hb : b.length = 31 := hb
              have e0 : A.tmps[57]?.getD undef = q.2.2.2 := ev_tmp (hon 28 57 _ (hall ⟨28, .data⟩ (by simp) rfl) rfl)
              have HC := Lib.hid (hC.quiet 30 (by decide))
              clear hC
              go_simp
              exact hK 8 _ q _ HC.out rfl (fun _ _ => rfl)
            | t + 31 =>
              intro o ho
              simp at ho
          case hq =>
            intro q W hC
            have hF : NJ W0 3 u7 (pickL (valsK ns vs k) (n.args.take j)) x u8 (pickL (wdL ns) (n.args.take j)) m.wd true true true true q W := hC
            have HR := Lib.hid hF.row
            have HB := Lib.hid hF.bel
            clear hC hF
            simp only [zp, List.length_cons, List.length_nil, List.replicate, List.zip_cons_cons, List.zip_nil_right, frm, if_true]
            have HR2 := Lib.hid (show Rows2 W W0.heap.size 3 q.2.2.1 (pickL (valsK ns vs k) (n.args.take (j + 1))) q.2.2.2 (pickL (wdL ns) (n.args.take (j + 1))) from by
              rw [HP1.out, HP2.out]; simpa using HR.out)
            clear HR HP1 HP2 HST
            obtain ⟨q0, q1, q2, q3⟩ := q
            simp only at HR2
            go_wp2
            go_roundw
            case rel => exact ⟨j + 1, by omega, by go_num, HR2.out, HB.out⟩
            case measure => simp [intOf]; omega
        · obtain rfl : j = n.args.length := by omega
          rw [List.take_length] at hrr
          obtain ⟨A1, c1', hv7, hl7⟩ := lies_form hrr.o1
          obtain ⟨A2, c2', hv8, hl8⟩ := lies_form hrr.o2
          rw [pickL_len] at hv7 hv8
          subst hv7 hv8
          have HNA := Lib.hid (HAP.out k n HX.out B n.args.length bc A1 c1' A2 c2' V cv wr hl7 hl8 (HVV.out.below hbw4))
          clear hrr hl7 hl8
          obtain ⟨a0, a1, _, a3⟩ := HA0.out _ hbw4
          have HSX := Lib.hid (valsK_step (ls := vs) HX.out)
          have HRH := Lib.hid (row_here (n := ns.length) HVL.out hlt)
          have HRN := Lib.hid (row_next (x := valN ns vs (valsK ns vs k) n) HVL.out hlt)
          generalize hu : valN ns vs (valsK ns vs k) n = u at *
          have HU := Lib.hid hu
          clear hu
          obtain ⟨nop, nwd, nargs, nv⟩ := n
          simp only at a0 a1 a2 a3 HNA hal
          go_wp2_with fail
          refine HNA.out.mono ?_
          rintro e w' ⟨rfl, z, rfl⟩
          have hbz := z.below hb4 hb4.size
          have rgz := (hbz.block g lg).trans HRG.out
          have qk := (cell_block (i := k) rgz).trans (rowA_in HRH.out)
          have fk := free_block (i := k) rgz
          have hbwz := HBW.out.trans (hbz.mono HBW.out.size)
          have HFIN := Lib.hid (show (z.val.setCell ⟨g, k, none⟩ (.int .i64 u)).heap[g]? = some (.cells (rowA (valsK ns vs (k + 1) ++ List.replicate (ns.length - (k + 1)) 0)) 3) ∧ Below w.heap.size w (z.val.setCell ⟨g, k, none⟩ (.int .i64 u)) from
            ⟨by rw [heap_set rgz, rowA_set, HRN.out, HSX.out], hbwz.setCell lw _⟩)
          generalize z.val = W4 at *
          clear rgz hbz hbwz a0 a1 a2 a3
          go_wp2
          go_roundw
          case rel => exact ⟨k + 1, by omega, by go_num, HFIN.out.1, HFIN.out.2⟩
          case measure => simp [intOf]; omega
    · obtain rfl : k = ns.length := by omega
      rw [Nat.sub_self, List.replicate_zero, List.append_nil] at rg
      have HF := Lib.hid (show CopiedI w (valsL ns vs) (.returned (.slice (some ⟨g, 0, none⟩) ns.length ns.length)) wr from ⟨_, ns.length, by rw [valsL_len], LiesI.block (ns := valsL ns vs) rg, hb⟩)
      clear rg hb
      go_wp2
      go_ret
      exact HF.out

end Go.Proofs.YtkdonapgonegkaaDoor
