/-
  Contracts of the reference of chapter 1: the string of a value (built for the door seat only).
-/
import Derived.Test.YtlplphigjejahaaDoorSk
set_option linter.unusedSimpArgs false
set_option linter.unusedVariables false
namespace Go.Proofs.YtlplphigjejahaaDoor
open Go.RowKit Go.BigFrame

theorem Decimal_c (N : Nat) (hN : N ≤ 9223372036854775807) (w : World) :
    Calls Tryd.prog 29 #[.int .i64 N] w fun e w' => e = .returned (.string ⟨(minD 10 N).toArray⟩) ∧ ∃ x : Aft w, w' = x.val := by
  by_cases h : 0 < N
  · exact Decimal_pos N h hN w
  · obtain rfl : N = 0 := by omega
    go_enter Tryd.func29, Tryd.ntmps29
    go_wp2
    go_ret
    exact ⟨by rw [minD_small (by decide)]; rfl, ⟨_, Below.refl _ _⟩, rfl⟩
abbrev hexS : ByteArray := ⟨#[48, 49, 50, 51, 52, 53, 54, 55, 56, 57, 97, 98, 99, 100, 101, 102]⟩
theorem hexS_at (d : Nat) (h : d < 16) : hexS.extract d (d + 1) = ⟨[dgB d].toArray⟩ := by
  have k : ∀ d : Fin 16, hexS.extract d.val (d.val + 1) = ⟨[dgB d.val].toArray⟩ := by decide
  exact k ⟨d, h⟩
theorem fix_step {b K j m v : Nat} {t : List UInt8} (hj : j < K) (h : fixD b K v = fixD b (K - j) m ++ t) : fixD b K v = fixD b (K - (j + 1)) (m / b) ++ (dgB (m % b) :: t) := by
  rw [h, show K - j = (K - (j + 1)) + 1 by omega, fixD]; simp
theorem cat3 (a d : List UInt8) (c : UInt8) : ((⟨a.toArray⟩ : ByteArray) ++ ⟨#[39, c]⟩) ++ ⟨d.toArray⟩ = ⟨(a ++ 39 :: c :: d).toArray⟩ := by
  apply ByteArray.ext; simp

set_option maxRecDepth 100000 in
set_option maxHeartbeats 1600000 in
theorem rFormat_10 (wn vn : Nat) (h1 : 1 ≤ wn) (h2 : wn ≤ 16) (h3 : vn ≤ 65535) (w : World) :
    Calls Tryd.prog 9 #[.agg #[.int .i64 wn, .int .i64 vn], .int .i64 10] w fun e w' => e = .returned (.string ⟨(fmtL wn vn 10).toArray⟩) ∧ ∃ x : Aft w, w' = x.val := by
  have hl := (wid_parse h1 h2).2.2.2
  have hD := minD_len (b := 10) (by decide) 4 vn (by omega)
  have HR := Lib.hid (show minD 10 wn ++ 39 :: 100 :: minD 10 vn = fmtL wn vn 10 by simp [fmtL, bodyL, letB])
  have HW := Lib.hid (fun w => Decimal_c wn (by omega) w)
  have HV := Lib.hid (fun w => Decimal_c vn (by omega) w)
  generalize minD 10 vn = D at *
  generalize minD 10 wn = E at *
  go_enter Tryd.func9, Tryd.ntmps9
  go_wp2_with fail
  refine wp_region_aft (by kernel_rfl) (by kernel_rfl) ?_
  repeat (go_big_quiet_step (first | (go_at_call 29; (with_reducible exact Calls.qa (HW.out _))) | (go_at_call 29; (with_reducible exact Calls.qa (HV.out _)))))
  refine wpQuiet_nil ?_
  intro x
  go_wp2
  go_ret
  exact ⟨congrArg (fun b => Ending.returned (.string b)) ((cat3 E D 100).trans (by rw [HR.out])), Below.aft (by (repeat' (first | (with_reducible exact Below.refl _ _) | (with_reducible assumption) | (with_reducible assumption) | (with_reducible exact Aft.pf _) | (with_reducible refine Below.alloc ?_ ?_ _) | (with_reducible refine Below.drew ?_) | (with_reducible refine Aft.below _ ?_ ?_) | (with_reducible refine Below.setCell_new ?_ ?_ _ _) | (with_reducible exact Nat.le_refl _) | (with_reducible refine Aft.le _ ?_) | (with_reducible refine le_alloc ?_) | (with_reducible refine le_drew ?_) | (with_reducible refine le_setCell ?_) | omega)))⟩

set_option maxRecDepth 100000 in
set_option maxHeartbeats 1600000 in
theorem rFormat_2 (wn vn : Nat) (h1 : 1 ≤ wn) (h2 : wn ≤ 16) (h3 : vn ≤ 65535) (w : World) :
    Calls Tryd.prog 9 #[.agg #[.int .i64 wn, .int .i64 vn], .int .i64 2] w fun e w' => e = .returned (.string ⟨(fmtL wn vn 2).toArray⟩) ∧ ∃ x : Aft w, w' = x.val := by
  have hl := (wid_parse h1 h2).2.2.2
  have HR := Lib.hid (show minD 10 wn ++ 39 :: 98 :: fixD 2 (wn) vn = fmtL wn vn 2 by simp [fmtL, bodyL, letB, plcN])
  have HW := Lib.hid (fun w => Decimal_c wn (by omega) w)
  generalize minD 10 wn = E at *
  have HG := Lib.hid (fun w => rdigits2_c wn w)
  obtain ⟨K, hK⟩ : ∃ K, K = wn := ⟨_, rfl⟩
  have hKi : (wn : Int) = (K : Int) := by omega
  have hG2 : ∀ w, Calls Tryd.prog 30 #[.int .i64 wn, .int .i64 2] w fun e w' => e = .returned (.int .i64 (K : Int)) ∧ w = w' := fun w => (HG.out w).mono fun e w' ⟨he, hw⟩ => ⟨he.trans (by rw [hKi]), hw⟩
  have HG' := Lib.hid hG2
  clear hG2
  have hK16 : K ≤ 16 := by omega
  have HR' := Lib.hid (show E ++ 39 :: 98 :: fixD 2 K vn = fmtL wn vn 2 by rw [hK]; exact HR.out)
  clear HG HR hK hKi
  go_enter Tryd.func9, Tryd.ntmps9
  go_wp2
  have hs1 : w.heap.size < (w.alloc (.cells #[.int .i64 wn, .int .i64 vn] 23)).heap.size := by simp
  have e0 : (w.alloc (.cells #[.int .i64 wn, .int .i64 vn] 23)).cell? ⟨w.heap.size, 0, none⟩ = some (.int .i64 wn) := by simp [go_sem]
  have hbw : Below w.heap.size w (w.alloc (.cells #[.int .i64 wn, .int .i64 vn] 23)) := (Below.refl _ _).alloc (Nat.le_refl _) _
  generalize w.alloc (.cells #[.int .i64 wn, .int .i64 vn] 23) = W1 at *
  go_loopw [5, 6, 7] (fun v5 v6 v7 wr => ∃ (j m : Nat) (t : List UInt8), j ≤ K ∧ v7 = .int .i64 j ∧ v6 = .int .i64 m ∧ v5 = .string ⟨t.toArray⟩ ∧ t.length = j ∧ m ≤ 65535 ∧ fixD 2 K vn = fixD 2 (K - j) m ++ t ∧ Below W1.heap.size W1 wr) (fun _ _ v7 _ => K - (intOf v7).toNat)
  case atStart => exact ⟨0, vn, [], by omega, rfl, rfl, rfl, rfl, h3, by simp, Below.refl _ _⟩
  case round =>
    obtain ⟨j, m, t, hj, rfl, rfl, rfl, htl, hm, hf, hb⟩ := hrel
    have HF := Lib.hid hf
    have htl' : t.length ≤ 16 := by omega
    have HTL := Lib.hid htl
    clear hf htl
    have hbs := hb.size
    have c0 : wr.cell? ⟨w.heap.size, 0, none⟩ = some (.int .i64 wn) := by rw [hb.cell (p := ⟨w.heap.size, 0, none⟩) hs1]; exact e0
    have lw : w.heap.size < wr.heap.size := by omega
    have hbW : Below w.heap.size w wr := hbw.trans (hb.mono (by omega))
    by_cases hlt : j < K
    · have hst := Lib.hid (fix_step hlt HF.out)
      have hd := hexS_at (m % 2) (by omega)
      go_wp2_with (go_at_call 30; ((with_reducible refine (HG'.out _).mono ?_); rintro e w' ⟨rfl, rfl⟩))
      have g1 : 0 ≤ (m : Int) % 2 := by omega
      have g2 : IntKind.i64.wrap ((m : Int) % 2 + 1) = (m : Int) % 2 + 1 := IntWalk.i64_in _ (by omega)
      have g3 : ((m : Int) % 2).toNat = m % 2 := by omega
      have g4 : ((m : Int) % 2 + 1).toNat = m % 2 + 1 := by omega
      have g5 : (m : Int) % 2 + 1 ≤ 16 := by omega
      have g6 : (m : Int) % 2 ≤ (m : Int) % 2 + 1 := by omega
      have g7 : 0 ≤ (m : Int) % 2 + 1 := by omega
      have g8 : IntKind.i64.wrap ((m : Int).tdiv 2) = ((m / 2 : Nat) : Int) := by
        rw [Int.tdiv_eq_ediv_of_nonneg (by omega), IntWalk.i64_in _ (by omega)]; omega
      refine wp_region_aft (by kernel_rfl) (by kernel_rfl) ?_
      repeat (go_big_quiet_step (fail))
      refine wpQuiet_nil ?_
      intro x
      go_wp2
      go_roundw
      case rel => exact ⟨j + 1, m / 2, dgB (m % 2) :: t, by omega, by go_num, by go_num, congrArg Value.string (by apply ByteArray.ext; simp), by simp [HTL.out], by omega, hst.out, x.below hb hbs⟩
      case measure => simp [intOf]; omega
    · go_wp2_with (go_at_call 30; ((with_reducible refine (HG'.out _).mono ?_); rintro e w' ⟨rfl, rfl⟩))
      refine (HW.out _).mono ?_
      rintro e w' ⟨rfl, x, rfl⟩
      go_wp2
      go_ret
      obtain rfl : j = K := by omega
      exact ⟨congrArg (fun b => Ending.returned (.string b)) ((cat3 E t 98).trans (by rw [← HR'.out, HF.out, Nat.sub_self]; rfl)), Below.aft (by first | exact x.below hbW (by omega) | (repeat' (first | (with_reducible exact Below.refl _ _) | (with_reducible assumption) | (with_reducible assumption) | (with_reducible exact Aft.pf _) | (with_reducible refine Below.alloc ?_ ?_ _) | (with_reducible refine Below.drew ?_) | (with_reducible refine Aft.below _ ?_ ?_) | (with_reducible refine Below.setCell_new ?_ ?_ _ _) | (with_reducible exact Nat.le_refl _) | (with_reducible refine Aft.le _ ?_) | (with_reducible refine le_alloc ?_) | (with_reducible refine le_drew ?_) | (with_reducible refine le_setCell ?_) | omega)))⟩

set_option maxRecDepth 100000 in
set_option maxHeartbeats 1600000 in
theorem rFormat_16 (wn vn : Nat) (h1 : 1 ≤ wn) (h2 : wn ≤ 16) (h3 : vn ≤ 65535) (w : World) :
    Calls Tryd.prog 9 #[.agg #[.int .i64 wn, .int .i64 vn], .int .i64 16] w fun e w' => e = .returned (.string ⟨(fmtL wn vn 16).toArray⟩) ∧ ∃ x : Aft w, w' = x.val := by
  have hl := (wid_parse h1 h2).2.2.2
  have HR := Lib.hid (show minD 10 wn ++ 39 :: 104 :: fixD 16 ((wn + 3) / 4) vn = fmtL wn vn 16 by simp [fmtL, bodyL, letB, plcN])
  have HW := Lib.hid (fun w => Decimal_c wn (by omega) w)
  generalize minD 10 wn = E at *
  have HG := Lib.hid (fun w => rdigits16_c wn (by omega) (by omega) w)
  obtain ⟨K, hK⟩ : ∃ K, K = (wn + 3) / 4 := ⟨_, rfl⟩
  have hKi : ((wn : Int) + 3) / 4 = (K : Int) := by omega
  have hG2 : ∀ w, Calls Tryd.prog 30 #[.int .i64 wn, .int .i64 16] w fun e w' => e = .returned (.int .i64 (K : Int)) ∧ w = w' := fun w => (HG.out w).mono fun e w' ⟨he, hw⟩ => ⟨he.trans (by rw [hKi]), hw⟩
  have HG' := Lib.hid hG2
  clear hG2
  have hK16 : K ≤ 16 := by omega
  have HR' := Lib.hid (show E ++ 39 :: 104 :: fixD 16 K vn = fmtL wn vn 16 by rw [hK]; exact HR.out)
  clear HG HR hK hKi
  go_enter Tryd.func9, Tryd.ntmps9
  go_wp2
  have hs1 : w.heap.size < (w.alloc (.cells #[.int .i64 wn, .int .i64 vn] 23)).heap.size := by simp
  have e0 : (w.alloc (.cells #[.int .i64 wn, .int .i64 vn] 23)).cell? ⟨w.heap.size, 0, none⟩ = some (.int .i64 wn) := by simp [go_sem]
  have hbw : Below w.heap.size w (w.alloc (.cells #[.int .i64 wn, .int .i64 vn] 23)) := (Below.refl _ _).alloc (Nat.le_refl _) _
  generalize w.alloc (.cells #[.int .i64 wn, .int .i64 vn] 23) = W1 at *
  go_loopw [5, 6, 7] (fun v5 v6 v7 wr => ∃ (j m : Nat) (t : List UInt8), j ≤ K ∧ v7 = .int .i64 j ∧ v6 = .int .i64 m ∧ v5 = .string ⟨t.toArray⟩ ∧ t.length = j ∧ m ≤ 65535 ∧ fixD 16 K vn = fixD 16 (K - j) m ++ t ∧ Below W1.heap.size W1 wr) (fun _ _ v7 _ => K - (intOf v7).toNat)
  case atStart => exact ⟨0, vn, [], by omega, rfl, rfl, rfl, rfl, h3, by simp, Below.refl _ _⟩
  case round =>
    obtain ⟨j, m, t, hj, rfl, rfl, rfl, htl, hm, hf, hb⟩ := hrel
    have HF := Lib.hid hf
    have htl' : t.length ≤ 16 := by omega
    have HTL := Lib.hid htl
    clear hf htl
    have hbs := hb.size
    have c0 : wr.cell? ⟨w.heap.size, 0, none⟩ = some (.int .i64 wn) := by rw [hb.cell (p := ⟨w.heap.size, 0, none⟩) hs1]; exact e0
    have lw : w.heap.size < wr.heap.size := by omega
    have hbW : Below w.heap.size w wr := hbw.trans (hb.mono (by omega))
    by_cases hlt : j < K
    · have hst := Lib.hid (fix_step hlt HF.out)
      have hd := hexS_at (m % 16) (by omega)
      go_wp2_with (go_at_call 30; ((with_reducible refine (HG'.out _).mono ?_); rintro e w' ⟨rfl, rfl⟩))
      have g1 : 0 ≤ (m : Int) % 16 := by omega
      have g2 : IntKind.i64.wrap ((m : Int) % 16 + 1) = (m : Int) % 16 + 1 := IntWalk.i64_in _ (by omega)
      have g3 : ((m : Int) % 16).toNat = m % 16 := by omega
      have g4 : ((m : Int) % 16 + 1).toNat = m % 16 + 1 := by omega
      have g5 : (m : Int) % 16 + 1 ≤ 16 := by omega
      have g6 : (m : Int) % 16 ≤ (m : Int) % 16 + 1 := by omega
      have g7 : 0 ≤ (m : Int) % 16 + 1 := by omega
      have g8 : IntKind.i64.wrap ((m : Int).tdiv 16) = ((m / 16 : Nat) : Int) := by
        rw [Int.tdiv_eq_ediv_of_nonneg (by omega), IntWalk.i64_in _ (by omega)]; omega
      refine wp_region_aft (by kernel_rfl) (by kernel_rfl) ?_
      repeat (go_big_quiet_step (fail))
      refine wpQuiet_nil ?_
      intro x
      go_wp2
      go_roundw
      case rel => exact ⟨j + 1, m / 16, dgB (m % 16) :: t, by omega, by go_num, by go_num, congrArg Value.string (by apply ByteArray.ext; simp), by simp [HTL.out], by omega, hst.out, x.below hb hbs⟩
      case measure => simp [intOf]; omega
    · go_wp2_with (go_at_call 30; ((with_reducible refine (HG'.out _).mono ?_); rintro e w' ⟨rfl, rfl⟩))
      refine (HW.out _).mono ?_
      rintro e w' ⟨rfl, x, rfl⟩
      go_wp2
      go_ret
      obtain rfl : j = K := by omega
      exact ⟨congrArg (fun b => Ending.returned (.string b)) ((cat3 E t 104).trans (by rw [← HR'.out, HF.out, Nat.sub_self]; rfl)), Below.aft (by first | exact x.below hbW (by omega) | (repeat' (first | (with_reducible exact Below.refl _ _) | (with_reducible assumption) | (with_reducible assumption) | (with_reducible exact Aft.pf _) | (with_reducible refine Below.alloc ?_ ?_ _) | (with_reducible refine Below.drew ?_) | (with_reducible refine Aft.below _ ?_ ?_) | (with_reducible refine Below.setCell_new ?_ ?_ _ _) | (with_reducible exact Nat.le_refl _) | (with_reducible refine Aft.le _ ?_) | (with_reducible refine le_alloc ?_) | (with_reducible refine le_drew ?_) | (with_reducible refine le_setCell ?_) | omega)))⟩

end Go.Proofs.YtlplphigjejahaaDoor
