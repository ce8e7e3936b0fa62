/-
  Contracts of the functions of chapter 1 (fifteenth part: Gray codes).
-/
import Derived.Test.YtlplphigjejahaaBe
import Derived.Test.YtlplphigjejahaaBt
import Derived.Test.YtlplphigjejahaaKid
set_option linter.unusedSimpArgs false
set_option linter.unusedVariables false
namespace Go.Proofs.Ytlplphigjejahaa
open Go.RowKit Go.BigFrame

set_option maxHeartbeats 400000 in
theorem GrayOf1_c (i n v : Int) (A : Nat) (w : World) (h1 : 0 ≤ i) (h2 : i ≤ 15) (h3 : 1 ≤ n) (h4 : n ≤ 16)
    (ca : w.cell? ⟨A, 0, none⟩ = some (.int .i64 n)) (cv : w.cell? ⟨A, 1, none⟩ = some (.int .i64 v)) (la : A < w.heap.size) :
    Calls Try.prog 89 #[.int .i64 i, .pointer (some ⟨A, 0, none⟩)] w fun e w' => e = .returned (.int .i64 (gB n v i)) ∧ ∃ x : Aft w, w' = x.val := by
  have hx := Lib.hid (xor01 (bitI_bd n v i).1 (bitI_bd n v i).2 (bitI_bd n v (i + 1)).1 (bitI_bd n v (i + 1)).2)
  have hi1 : IntKind.i64.wrap (i + 1) = i + 1 := IntWalk.i64_in _ (by omega)
  go_enter Try.func89, Try.ntmps89
  go_wp2_with fail
  refine wp_region_aft (by kernel_rfl) (by kernel_rfl) ?_
  repeat (go_big_quiet_step (first | (go_at_call 76; exact Calls.qa (bitAt_c _ _ _ (by omega) _))))
  refine wpQuiet_nil ?_
  intro x
  go_wp2
  go_ret
  exact ⟨retI (by first | exact hx.out | (simp; exact hx.out)), Below.aft (by (repeat' (first | (with_reducible exact Below.refl _ _) | (with_reducible assumption) | (with_reducible refine Below.alloc ?_ ?_ _) | (with_reducible refine Below.drew ?_) | (with_reducible refine Aft.below _ ?_ ?_) | (with_reducible refine Below.setCell_new ?_ ?_ _ _) | (with_reducible exact Nat.le_refl _) | (with_reducible refine Aft.le _ ?_) | (with_reducible refine le_alloc ?_) | (with_reducible refine le_drew ?_) | (with_reducible refine le_setCell ?_) | omega)))⟩


set_option maxHeartbeats 400000 in
theorem bitwise_Gray (n : Nat) (v : Int) (A : Nat) (w : World) (h1 : 1 ≤ n) (h2 : n ≤ 16) (ca : w.cell? ⟨A, 0, none⟩ = some (.int .i64 n)) (cv : w.cell? ⟨A, 1, none⟩ = some (.int .i64 v)) (la : A < w.heap.size) :
    Calls Try.prog 74 #[.int .i64 n, .func (.func 89) #[] #[.pointer (some ⟨A, 0, none⟩)]] w fun e w' => e = .returned (.agg #[.int .i64 n, .int .i64 (bw (fun i => gB n v i) n)]) ∧ ∃ x : Aft w, w' = x.val := by
  go_enter Try.func74, Try.ntmps74
  go_wp2_with fail
  go_loopw [5, 8] (fun v5 v8 wr => ∃ (k : Nat) (y : Aft (w.alloc (.cells #[.int .i64 0, .int .i64 0] 23))), wr = y.val ∧ k ≤ n ∧ v8 = .int .i64 k ∧ v5 = .int .i64 (bw (fun i => gB n v i) k)) (fun _ v8 _ => n - (intOf v8).toNat)
  case atStart => exact ⟨0, ⟨_, Below.refl _ _⟩, rfl, by omega, rfl, rfl⟩
  case round =>
    obtain ⟨k, y, rfl, hk, rfl, rfl⟩ := hrel
    by_cases hlt : k < n
    · have hj := Lib.hid (bw_join (fun i => gB n v i) k (by omega) (fun i => gB_bd _ _ _))
      go_wp2_with fail
      refine (GrayOf1_c k n v A y.val (by omega) (by omega) (by omega) (by omega) (cell_aft y (lt_alloc la) (cell_alloc la ca)) (cell_aft y (lt_alloc la) (cell_alloc la cv)) (y.lt' (lt_alloc la))).mono ?_
      skip
      rintro e w' ⟨rfl, z, rfl⟩
      go_wp2
      go_roundw
      case rel => exact ⟨k + 1, ⟨z.val, z.below y.pf y.pf.size⟩, rfl, by omega, by go_num, by rw [← hj.out]⟩
      case measure => simp [intOf]; omega
    · obtain rfl : k = n := by omega
      go_wp2
      refine bodyPost_ret (by simp [results, Try.results74, go_sem]; try rfl) rfl ?_
      exact ⟨rfl, Below.aft (by (repeat' (first | (with_reducible exact Below.refl _ _) | (with_reducible refine Below.alloc ?_ ?_ _) | (with_reducible refine Below.drew ?_) | (with_reducible refine Aft.below _ ?_ ?_) | (with_reducible refine Below.setCell_new ?_ ?_ _ _) | (with_reducible exact Nat.le_refl _) | (with_reducible refine Aft.le _ ?_) | (with_reducible refine le_alloc ?_) | (with_reducible refine le_drew ?_) | (with_reducible refine le_setCell ?_) | omega)))⟩


set_option maxHeartbeats 800000 in
theorem GrayOf_bad (wd v er : Int) (w : World) (hn : er ≠ 0) (h9 : Hid (bErr wd v = er)) :
    Calls Try.prog 49 #[.agg #[.int .i64 wd, .int .i64 v]] w fun e w' => e = .returned (.tuple #[.agg #[.int .i64 0, .int .i64 0], .int .i64 er]) ∧ ∃ x : Aft w, w' = x.val := by
  have hn' : (er == 0) = false := by simpa using hn
  have hb_ : (er != 0) = true := by simpa using hn
  clear hn
  go_enter Try.func49, Try.ntmps49
  go_wp2_with fail
  refine (CheckBits_c wd v _).mono ?_
  rw [h9.out]
  rintro e w' ⟨rfl, x1, rfl⟩
  have zx1_0 : w.heap.size < x1.val.heap.size := by have := x1.size; (try simp at this); omega
  have zx1_1 : w.heap.size + 1 < x1.val.heap.size := by have := x1.size; (try simp at this); omega
  have rr : x1.val.heap[w.heap.size + 1]? = some (.cells #[.int .i64 0, .int .i64 0] 23) := by (repeat' (first | (with_reducible assumption) | omega | (simp only [World.size_alloc, World.size_drew, World.size_setCell]; omega) | exact heap_alloc_at (by first | rfl | (simp; done)) | (with_reducible refine heap_aft _ ?_ ?_) | (with_reducible refine heap_alloc' ?_ ?_) | (with_reducible refine heap_drew ?_)))
  have q0 := cell_block (i := 0) rr
  have f0 := free_block (i := 0) rr
  have q1 := cell_block (i := 1) rr
  have f1 := free_block (i := 1) rr
  simp at q0 q1
  have hb0' : Below w.heap.size w x1.val := by (repeat' (first | (with_reducible exact Below.refl _ _) | (with_reducible refine Below.alloc ?_ ?_ _) | (with_reducible refine Below.drew ?_) | (with_reducible refine Aft.below _ ?_ ?_) | (with_reducible refine Below.setCell_new ?_ ?_ _ _) | (with_reducible exact Nat.le_refl _) | (with_reducible refine Aft.le _ ?_) | (with_reducible refine le_alloc ?_) | (with_reducible refine le_drew ?_) | (with_reducible refine le_setCell ?_) | omega))
  clear rr
  generalize x1.val = W' at *
  go_wp2
  refine bodyPost_ret (by simp [results, Try.results49, go_sem, q0, q1]; try rfl) rfl ?_
  exact ⟨rfl, Below.aft (by (repeat' (first | (with_reducible exact Below.refl _ _) | (with_reducible assumption) | (with_reducible refine Below.alloc ?_ ?_ _) | (with_reducible refine Below.drew ?_) | (with_reducible refine Aft.below _ ?_ ?_) | (with_reducible refine Below.setCell_new ?_ ?_ _ _) | (with_reducible exact Nat.le_refl _) | (with_reducible refine Aft.le _ ?_) | (with_reducible refine le_alloc ?_) | (with_reducible refine le_drew ?_) | (with_reducible refine le_setCell ?_) | omega)))⟩


set_option maxHeartbeats 800000 in
theorem FromGray_bad (wd v er : Int) (w : World) (hn : er ≠ 0) (h9 : Hid (bErr wd v = er)) :
    Calls Try.prog 50 #[.agg #[.int .i64 wd, .int .i64 v]] w fun e w' => e = .returned (.tuple #[.agg #[.int .i64 0, .int .i64 0], .int .i64 er]) ∧ ∃ x : Aft w, w' = x.val := by
  have hn' : (er == 0) = false := by simpa using hn
  have hb_ : (er != 0) = true := by simpa using hn
  clear hn
  go_enter Try.func50, Try.ntmps50
  go_wp2_with fail
  refine (CheckBits_c wd v _).mono ?_
  rw [h9.out]
  rintro e w' ⟨rfl, x1, rfl⟩
  have zx1_0 : w.heap.size < x1.val.heap.size := by have := x1.size; (try simp at this); omega
  have zx1_1 : w.heap.size + 1 < x1.val.heap.size := by have := x1.size; (try simp at this); omega
  have rr : x1.val.heap[w.heap.size + 1]? = some (.cells #[.int .i64 0, .int .i64 0] 23) := by (repeat' (first | (with_reducible assumption) | omega | (simp only [World.size_alloc, World.size_drew, World.size_setCell]; omega) | exact heap_alloc_at (by first | rfl | (simp; done)) | (with_reducible refine heap_aft _ ?_ ?_) | (with_reducible refine heap_alloc' ?_ ?_) | (with_reducible refine heap_drew ?_)))
  have q0 := cell_block (i := 0) rr
  have f0 := free_block (i := 0) rr
  have q1 := cell_block (i := 1) rr
  have f1 := free_block (i := 1) rr
  simp at q0 q1
  have hb0' : Below w.heap.size w x1.val := by (repeat' (first | (with_reducible exact Below.refl _ _) | (with_reducible refine Below.alloc ?_ ?_ _) | (with_reducible refine Below.drew ?_) | (with_reducible refine Aft.below _ ?_ ?_) | (with_reducible refine Below.setCell_new ?_ ?_ _ _) | (with_reducible exact Nat.le_refl _) | (with_reducible refine Aft.le _ ?_) | (with_reducible refine le_alloc ?_) | (with_reducible refine le_drew ?_) | (with_reducible refine le_setCell ?_) | omega))
  clear rr
  generalize x1.val = W' at *
  go_wp2
  refine bodyPost_ret (by simp [results, Try.results50, go_sem, q0, q1]; try rfl) rfl ?_
  exact ⟨rfl, Below.aft (by (repeat' (first | (with_reducible exact Below.refl _ _) | (with_reducible assumption) | (with_reducible refine Below.alloc ?_ ?_ _) | (with_reducible refine Below.drew ?_) | (with_reducible refine Aft.below _ ?_ ?_) | (with_reducible refine Below.setCell_new ?_ ?_ _ _) | (with_reducible exact Nat.le_refl _) | (with_reducible refine Aft.le _ ?_) | (with_reducible refine le_alloc ?_) | (with_reducible refine le_drew ?_) | (with_reducible refine le_setCell ?_) | omega)))⟩


set_option maxHeartbeats 800000 in
theorem GrayOf_c (n : Nat) (v : Int) (w : World) (h1 : 1 ≤ n) (h2 : n ≤ 16) (h9 : Hid (bErr n v = 0)) :
    Calls Try.prog 49 #[.agg #[.int .i64 n, .int .i64 v]] w fun e w' => e = .returned (.tuple #[.agg #[.int .i64 n, .int .i64 (bw (fun i => gB n v i) n)], .int .i64 0]) ∧ ∃ x : Aft w, w' = x.val := by
  go_enter Try.func49, Try.ntmps49
  go_wp2_with fail
  refine (CheckBits_c n v _).mono ?_
  rw [h9.out]
  rintro e w' ⟨rfl, x1, rfl⟩
  have zx1_0 : w.heap.size < x1.val.heap.size := by have := x1.size; (try simp at this); omega
  have zx1_1 : w.heap.size + 1 < x1.val.heap.size := by have := x1.size; (try simp at this); omega
  have ca : x1.val.cell? ⟨w.heap.size, 0, none⟩ = some (.int .i64 n) := by (repeat' (first | (with_reducible assumption) | omega | (simp only [World.size_alloc, World.size_drew, World.size_setCell]; omega) | (simp [go_sem]; done) | (with_reducible refine Aft.lt' _ ?_) | (with_reducible refine lt_alloc ?_) | (with_reducible refine lt_drew ?_) | (with_reducible refine lt_setCell ?_) | (with_reducible refine cell_aft _ ?_ ?_) | (with_reducible refine cell_alloc ?_ ?_) | (with_reducible refine cell_drew' ?_) | (with_reducible refine cell_setCell ?_ ?_)))
  have cv : x1.val.cell? ⟨w.heap.size, 1, none⟩ = some (.int .i64 v) := by (repeat' (first | (with_reducible assumption) | omega | (simp only [World.size_alloc, World.size_drew, World.size_setCell]; omega) | (simp [go_sem]; done) | (with_reducible refine Aft.lt' _ ?_) | (with_reducible refine lt_alloc ?_) | (with_reducible refine lt_drew ?_) | (with_reducible refine lt_setCell ?_) | (with_reducible refine cell_aft _ ?_ ?_) | (with_reducible refine cell_alloc ?_ ?_) | (with_reducible refine cell_drew' ?_) | (with_reducible refine cell_setCell ?_ ?_)))
  go_wp2_with fail
  refine (bitwise_Gray n v w.heap.size _ h1 h2 ca cv zx1_0).mono ?_
  rintro e w' ⟨rfl, x2, rfl⟩
  have zx2_0 : w.heap.size < x2.val.heap.size := by have := x2.size; (try simp at this); omega
  have zx2_1 : w.heap.size + 1 < x2.val.heap.size := by have := x2.size; (try simp at this); omega
  have rr : x2.val.heap[w.heap.size + 1]? = some (.cells #[.int .i64 0, .int .i64 0] 23) := by (repeat' (first | (with_reducible assumption) | omega | (simp only [World.size_alloc, World.size_drew, World.size_setCell]; omega) | exact heap_alloc_at (by first | rfl | (simp; done)) | (with_reducible refine heap_aft _ ?_ ?_) | (with_reducible refine heap_alloc' ?_ ?_) | (with_reducible refine heap_drew ?_)))
  have q0 := cell_block (i := 0) rr
  have f0 := free_block (i := 0) rr
  have q1 := cell_block (i := 1) rr
  have f1 := free_block (i := 1) rr
  simp at q0 q1
  have hb0' : Below w.heap.size w x2.val := by (repeat' (first | (with_reducible exact Below.refl _ _) | (with_reducible refine Below.alloc ?_ ?_ _) | (with_reducible refine Below.drew ?_) | (with_reducible refine Aft.below _ ?_ ?_) | (with_reducible refine Below.setCell_new ?_ ?_ _ _) | (with_reducible exact Nat.le_refl _) | (with_reducible refine Aft.le _ ?_) | (with_reducible refine le_alloc ?_) | (with_reducible refine le_drew ?_) | (with_reducible refine le_setCell ?_) | omega))
  clear rr
  generalize x2.val = W' at *
  go_wp2
  refine bodyPost_ret (by simp [results, Try.results49, go_sem, q0, q1]; try rfl) rfl ?_
  exact ⟨rfl, Below.aft (by (repeat' (first | (with_reducible exact Below.refl _ _) | (with_reducible assumption) | (with_reducible refine Below.alloc ?_ ?_ _) | (with_reducible refine Below.drew ?_) | (with_reducible refine Aft.below _ ?_ ?_) | (with_reducible refine Below.setCell_new ?_ ?_ _ _) | (with_reducible exact Nat.le_refl _) | (with_reducible refine Aft.le _ ?_) | (with_reducible refine le_alloc ?_) | (with_reducible refine le_drew ?_) | (with_reducible refine le_setCell ?_) | omega)))⟩


theorem ofInt_i64 (a : Nat) (ha : a < 9223372036854775808) : (BitVec.ofInt 64 (a : Int)).toNat = a := by
  rw [BitVec.ofInt_natCast, BitVec.toNat_ofNat]; exact Nat.mod_eq_of_lt (by omega)
theorem i64_xor_nat (a b : Nat) (ha : a < 65536) (hb : b < 65536) : bits .xor .i64 (a : Int) (b : Int) = ((a ^^^ b : Nat) : Int) := by
  have hx : a ^^^ b < 2 ^ 63 := Nat.xor_lt_two_pow (by omega) (by omega)
  show IntKind.i64.wrap ((BitVec.ofInt 64 (a : Int) ^^^ BitVec.ofInt 64 (b : Int)).toNat : Int) = _
  rw [BitVec.toNat_xor, ofInt_i64 a (by omega), ofInt_i64 b (by omega), IntKind.wrap_i64]
  omega
theorem pow_16 {n : Nat} (h : n ≤ 16) : 2 ^ n ≤ 65536 := Nat.pow_le_pow_right (n := 2) (by decide) h


set_option maxRecDepth 20000 in
set_option maxHeartbeats 1600000 in
theorem FromGray_c (n v : Nat) (w : World) (h1 : 1 ≤ n) (h2 : n ≤ 16) (h3 : v < 2 ^ n) (h9 : Hid (bErr n v = 0)) :
    Calls Try.prog 50 #[.agg #[.int .i64 n, .int .i64 v]] w fun e w' => e = .returned (.tuple #[.agg #[.int .i64 n, .int .i64 (ug n v : Nat)], .int .i64 0]) ∧ ∃ x : Aft w, w' = x.val := by
  have hp := pow_16 h2
  go_enter Try.func50, Try.ntmps50
  go_wp2_with fail
  refine (CheckBits_c n (v : Int) _).mono ?_
  rw [h9.out]
  rintro e w' ⟨rfl, x1, rfl⟩
  have zx1_0 : w.heap.size < x1.val.heap.size := by have := x1.size; (try simp at this); omega
  have zx1_1 : w.heap.size + 1 < x1.val.heap.size := by have := x1.size; (try simp at this); omega
  have ca : x1.val.cell? ⟨w.heap.size, 0, none⟩ = some (.int .i64 n) := by (repeat' (first | (with_reducible assumption) | omega | (simp only [World.size_alloc, World.size_drew, World.size_setCell]; omega) | (simp [go_sem]; done) | (with_reducible refine Aft.lt' _ ?_) | (with_reducible refine lt_alloc ?_) | (with_reducible refine lt_drew ?_) | (with_reducible refine lt_setCell ?_) | (with_reducible refine cell_aft _ ?_ ?_) | (with_reducible refine cell_alloc ?_ ?_) | (with_reducible refine cell_drew' ?_) | (with_reducible refine cell_setCell ?_ ?_)))
  have cv : x1.val.cell? ⟨w.heap.size, 1, none⟩ = some (.int .i64 v) := by (repeat' (first | (with_reducible assumption) | omega | (simp only [World.size_alloc, World.size_drew, World.size_setCell]; omega) | (simp [go_sem]; done) | (with_reducible refine Aft.lt' _ ?_) | (with_reducible refine lt_alloc ?_) | (with_reducible refine lt_drew ?_) | (with_reducible refine lt_setCell ?_) | (with_reducible refine cell_aft _ ?_ ?_) | (with_reducible refine cell_alloc ?_ ?_) | (with_reducible refine cell_drew' ?_) | (with_reducible refine cell_setCell ?_ ?_)))
  have rr : x1.val.heap[w.heap.size + 1]? = some (.cells #[.int .i64 0, .int .i64 0] 23) := by (repeat' (first | (with_reducible assumption) | omega | (simp only [World.size_alloc, World.size_drew, World.size_setCell]; omega) | exact heap_alloc_at (by first | rfl | (simp; done)) | (with_reducible refine heap_aft _ ?_ ?_) | (with_reducible refine heap_alloc' ?_ ?_) | (with_reducible refine heap_drew ?_)))
  have qr0 := cell_block (i := 0) rr
  have qr1 := cell_block (i := 1) rr
  have fr0 := free_block (i := 0) rr
  have fr1 := free_block (i := 1) rr
  simp at qr0 qr1
  have hb0 : Below w.heap.size w x1.val := by (repeat' (first | (with_reducible exact Below.refl _ _) | (with_reducible assumption) | (with_reducible refine Below.alloc ?_ ?_ _) | (with_reducible refine Below.drew ?_) | (with_reducible refine Aft.below _ ?_ ?_) | (with_reducible refine Below.setCell_new ?_ ?_ _ _) | (with_reducible exact Nat.le_refl _) | (with_reducible refine Aft.le _ ?_) | (with_reducible refine le_alloc ?_) | (with_reducible refine le_drew ?_) | (with_reducible refine le_setCell ?_) | omega))
  clear rr
  generalize x1.val = W1 at *
  go_wp2
  go_loop [5, 6] (fun v5 v6 => ∃ k a c : Nat, v5 = .int .i64 a ∧ v6 = .int .i64 c ∧ k ≤ n ∧ c < 2 ^ k ∧ a < 65536 ∧ a ^^^ ug k c = ug n v) (fun _ v6 => (intOf v6).toNat)
  case atStart => exact ⟨n, 0, v, rfl, rfl, Nat.le_refl _, h3, by omega, by simp⟩
  case round =>
    obtain ⟨k, a, c, rfl, rfl, hk, hc, ha, hu⟩ := hrel
    have hpk := pow_16 (n := k) (by omega)
    have HU := Lib.hid hu
    clear hu
    by_cases h0 : 0 < c
    · have hx := Lib.hid (i64_xor_nat a c ha (by omega))
      cases k with
      | zero => exfalso; simp at hc; omega
      | succ k =>
        go_wp2
        go_round
        case rel =>
          refine ⟨k, a ^^^ c, c / 2, by rw [hx.out], by first | rfl | go_num | (congr 1; omega), by omega, by rw [Nat.pow_succ] at hc; omega, Nat.xor_lt_two_pow (n := 16) ha (by omega), ?_⟩
          rw [Nat.xor_assoc]; exact HU.out
        case measure => simp [intOf]; omega
    · obtain rfl : c = 0 := by omega
      have he : a = ug n v := by have := HU.out; rwa [ug_zero, Nat.xor_zero] at this
      subst he
      go_wp2
      refine bodyPost_ret (by simp [results, Try.results50, go_sem, qr0, qr1]; try rfl) rfl ?_
      exact ⟨rfl, Below.aft (by (repeat' (first | (with_reducible exact Below.refl _ _) | (with_reducible assumption) | (with_reducible refine Below.alloc ?_ ?_ _) | (with_reducible refine Below.drew ?_) | (with_reducible refine Aft.below _ ?_ ?_) | (with_reducible refine Below.setCell_new ?_ ?_ _ _) | (with_reducible exact Nat.le_refl _) | (with_reducible refine Aft.le _ ?_) | (with_reducible refine le_alloc ?_) | (with_reducible refine le_drew ?_) | (with_reducible refine le_setCell ?_) | omega)))⟩

end Go.Proofs.Ytlplphigjejahaa
