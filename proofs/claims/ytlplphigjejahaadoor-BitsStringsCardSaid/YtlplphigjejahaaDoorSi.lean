/-
  Contracts of the functions of chapter 1 (strings, sixth part: digits in base 2 and 16; built for the door seat only).
-/
import Derived.Test.YtlplphigjejahaaDoorSf
import Derived.Laws.BytesArg
set_option linter.unusedSimpArgs false
set_option linter.unusedVariables false
namespace Go.Proofs.YtlplphigjejahaaDoor
open Go.RowKit Go.BigFrame

set_option maxRecDepth 100000 in
set_option maxHeartbeats 1600000 in
theorem tz64_2 (w : World) (hc : w.cell? ⟨3, 1, none⟩ = some (.int .u8 1)) :
    Calls Tryd.prog 90 #[.int .u64 2] w fun e w' => e = .returned (.int .i64 1) ∧ w = w' := by
  have h2 : bits .and .u64 2 (IntKind.u64.wrap (-2)) = 2 := by decide
  have h5 : IntKind.u64.wrap (2 * 285870213051353865) = 571740426102707730 := by decide
  have h3 : IntKind.u64.wrap 571740426102707730 = 571740426102707730 := by decide
  have h4 : (571740426102707730 : Int) / 288230376151711744 = 1 := by decide
  go_enter Tryd.func90, Tryd.ntmps90
  go_wp2
  go_ret
  exact ⟨rfl, rfl⟩
theorem tz_2 (w : World) (hc : w.cell? ⟨3, 1, none⟩ = some (.int .u8 1)) :
    Calls Tryd.prog 85 #[.int .u64 2] w fun e w' => e = .returned (.int .i64 1) ∧ w = w' := by
  have HZ := Lib.hid (tz64_2 w hc)
  go_enter Tryd.func85, Tryd.ntmps85
  go_wp2_with (go_at_call 90; refine HZ.out.mono ?_; rintro e w' ⟨rfl, rfl⟩)
  go_ret
  exact ⟨rfl, rfl⟩
theorem p2_2 (w : World) :
    Calls Tryd.prog 84 #[.int .i64 2] w fun e w' => e = .returned (.bool true) ∧ w = w' := by
  have h2 : bits .and .i64 2 (2 - 1) = 0 := by decide
  go_enter Tryd.func84, Tryd.ntmps84
  go_wp2
  go_ret
  exact ⟨rfl, rfl⟩

set_option maxRecDepth 100000 in
set_option maxHeartbeats 1600000 in
theorem tz64_16 (w : World) (hc : w.cell? ⟨3, 15, none⟩ = some (.int .u8 4)) :
    Calls Tryd.prog 90 #[.int .u64 16] w fun e w' => e = .returned (.int .i64 4) ∧ w = w' := by
  have h2 : bits .and .u64 16 (IntKind.u64.wrap (-16)) = 16 := by decide
  have h5 : IntKind.u64.wrap (16 * 285870213051353865) = 4573923408821661840 := by decide
  have h3 : IntKind.u64.wrap 4573923408821661840 = 4573923408821661840 := by decide
  have h4 : (4573923408821661840 : Int) / 288230376151711744 = 15 := by decide
  go_enter Tryd.func90, Tryd.ntmps90
  go_wp2
  go_ret
  exact ⟨rfl, rfl⟩
theorem tz_16 (w : World) (hc : w.cell? ⟨3, 15, none⟩ = some (.int .u8 4)) :
    Calls Tryd.prog 85 #[.int .u64 16] w fun e w' => e = .returned (.int .i64 4) ∧ w = w' := by
  have HZ := Lib.hid (tz64_16 w hc)
  go_enter Tryd.func85, Tryd.ntmps85
  go_wp2_with (go_at_call 90; refine HZ.out.mono ?_; rintro e w' ⟨rfl, rfl⟩)
  go_ret
  exact ⟨rfl, rfl⟩
theorem p2_16 (w : World) :
    Calls Tryd.prog 84 #[.int .i64 16] w fun e w' => e = .returned (.bool true) ∧ w = w' := by
  have h2 : bits .and .i64 16 (16 - 1) = 0 := by decide
  go_enter Tryd.func84, Tryd.ntmps84
  go_wp2
  go_ret
  exact ⟨rfl, rfl⟩

def H65 (w : World) (g : Nat) (t : List UInt8) : Prop := ∃ arr : Array Value, w.heap[g]? = some (.cells arr 114) ∧ arr.size = 65 ∧ t.length ≤ 65 ∧ ∀ j (h : j < t.length), arr[65 - t.length + j]? = some (.int .u8 (t[j].toNat : Int))
theorem H65_new (w : World) (arr : Array Value) (h : arr.size = 65) : H65 (w.alloc (.cells arr 114)) w.heap.size [] :=
  ⟨arr, heap_alloc_new _ _, h, by simp, fun j h => by simp at h⟩
theorem H65_set {w : World} {g k : Nat} {t : List UInt8} {c : UInt8} {n : Int} (h : H65 w g t) (hk : k + 1 + t.length = 65) (hn : n = (c.toNat : Int)) : H65 (w.setCell ⟨g, k, none⟩ (.int .u8 n)) g (c :: t) := by
  obtain ⟨arr, h1, h2, h3, h4⟩ := h
  have hb : (w.setCell ⟨g, k, none⟩ (.int .u8 n)).heap[g]? = some (.cells (arr.setIfInBounds k (.int .u8 n)) 114) := by
    simp [World.setCell, Array.getElem?_modify, h1]
  refine ⟨_, hb, by simpa using h2, by simp; omega, fun j hj => ?_⟩
  have e : 65 - (c :: t).length = k := by simp; omega
  rw [e]
  cases j with
  | zero => simp [Array.getElem?_setIfInBounds, h2, hn]; omega
  | succ j =>
    have hj' : j < t.length := by simpa using hj
    rw [Array.getElem?_setIfInBounds_ne (by omega), show k + (j + 1) = 65 - t.length + j by omega, h4 j hj']
    simp
theorem H65_open {w : World} {g k : Nat} {t : List UInt8} (h : H65 w g t) (hk : k + 1 + t.length = 65) : (∃ v, w.cell? ⟨g, k, none⟩ = some v) ∧ w.frozen? ⟨g, k, none⟩ = false := by
  obtain ⟨arr, h1, h2, _, _⟩ := h
  exact ⟨⟨_, (cell_block h1).trans (Array.getElem?_eq_getElem (by omega))⟩, free_block h1⟩
theorem H65_read {w : World} {g k : Nat} {t : List UInt8} (h : H65 w g t) (hk : k + t.length = 65) (i : Nat) (hi : i < t.length) : w.cell? ⟨g, k + i, none⟩ = some (.int .u8 ((t.map fun c => (c.toNat : Int)).getD i 0)) := by
  obtain ⟨arr, h1, h2, _, h4⟩ := h
  rw [cell_block h1, show k + i = 65 - t.length + i by omega, h4 i hi]
  simp [List.getD, hi]
theorem ofInt_u64 (a : Nat) (ha : a < 18446744073709551616) : (BitVec.ofInt 64 (a : Int)).toNat = a := by
  rw [BitVec.toNat_ofInt]; omega
theorem and_2 (u : Nat) (hu : u < 65536) : bits .and .u64 (u : Int) 1 = ((u % 2 : Nat) : Int) := by
  show IntKind.u64.wrap ((BitVec.ofInt 64 (u : Int) &&& BitVec.ofInt 64 ((1 : Nat) : Int)).toNat : Int) = _
  rw [BitVec.toNat_and, ofInt_u64 u (by omega), ofInt_u64 1 (by omega), show u &&& 1 = u % 2 from Nat.and_two_pow_sub_one_eq_mod u 1]
  rw [IntKind.wrap_u64]
  omega
theorem and_16 (u : Nat) (hu : u < 65536) : bits .and .u64 (u : Int) 15 = ((u % 16 : Nat) : Int) := by
  show IntKind.u64.wrap ((BitVec.ofInt 64 (u : Int) &&& BitVec.ofInt 64 ((15 : Nat) : Int)).toNat : Int) = _
  rw [BitVec.toNat_and, ofInt_u64 u (by omega), ofInt_u64 15 (by omega), show u &&& 15 = u % 16 from Nat.and_two_pow_sub_one_eq_mod u 4]
  rw [IntKind.wrap_u64]
  omega
theorem slice65 (W : World) (g k : Nat) (hk : k < 65) : (Instr.sliceAt 114 (.pointer (some ⟨g, 0, none⟩)) (some (.int .i64 (k : Int))) none none).run Tryd.prog W = .ok (.slice (some ⟨g, k, none⟩) (65 - k) (65 - k)) W := by
  have hl : Tryd.prog.arrayLen 114 = 65 := by kernel_rfl
  have hs : ∀ W, (sizeOf (Tryd.prog.elem 114)).run Tryd.prog W = .ok 1 W := fun _ => by kernel_rfl
  rw [run_sliceAt_array_l W 114 ⟨g, 0, none⟩ (by kernel_rfl) .i64 k (by omega) (by rw [hl]; omega), hl, hs]
  show Result.ok (slicedAt _ _ _ _ _) _ = _
  unfold slicedAt
  rw [if_neg (by omega), Int.toNat_natCast, Nat.mul_one]
  by_cases h0 : k = 0
  · subst h0; simp [Addr.add]
  · simp [Addr.add, h0]
abbrev digS : ByteArray := ⟨#[48, 49, 50, 51, 52, 53, 54, 55, 56, 57, 97, 98, 99, 100, 101, 102, 103, 104, 105, 106, 107, 108, 109, 110, 111, 112, 113, 114, 115, 116, 117, 118, 119, 120, 121, 122]⟩
theorem digS_at : ∀ (d : Nat) (h : d < digS.size) (h16 : d < 16), digS[d] = dgB d := by
  have k : ∀ d : Fin 16, digS[d.val]'(Nat.lt_trans d.isLt (by decide)) = dgB d.val := by decide
  intro d h h16; exact k ⟨d, h16⟩
theorem nums_back (t : List UInt8) : strOfNums (t.map fun c => (c.toNat : Int)) = ⟨t.toArray⟩ := by
  unfold strOfNums; congr 2; simp [Function.comp_def]
theorem conv65 {W : World} {g k : Nat} {t : List UInt8} (h : H65 W g t) (hk : k + t.length = 65) : (convert 86 9 (.slice (some ⟨g, k, none⟩) (65 - k) (65 - k))).run Tryd.prog W = .ok (.string ⟨t.toArray⟩) W := by
  rw [run_convert_bytes_arg _ _ 5 (by kernel_rfl) (by kernel_rfl) g k (65 - k) (65 - k) (t.map fun c => (c.toNat : Int)) (by simp; omega) (fun i hi => H65_read h hk i (by omega)) _ (by kernel_rfl), nums_back]

set_option maxRecDepth 100000 in
set_option maxHeartbeats 1600000 in
theorem fbits_2 (U : Nat) (hU : U ≤ 65535) (w : World) (hw : 3 < w.heap.size) (hc : w.cell? ⟨3, 1, none⟩ = some (.int .u8 1)) :
    Calls Tryd.prog 71 #[.slice none 0 0, .int .u64 U, .int .i64 2, .bool false, .bool false] w fun e w' => e = .returned (.tuple #[.slice none 0 0, .string ⟨(minD 2 U).toArray⟩]) ∧ ∃ x : Aft w, w' = x.val := by
  have HT := Lib.hid (fun (W : World) (hb : Below w.heap.size w W) => tz_2 W ((hb.cell (p := ⟨3, 1, none⟩) (by simp; omega)).trans hc))
  clear hc
  go_enter Tryd.func71, Tryd.ntmps71
  go_wp2_with (first | (go_at_call 84; refine (p2_2 _).mono ?_; rintro e w' ⟨rfl, rfl⟩) | (go_at_call 85; refine (HT.out _ ((Below.refl _ _).alloc (Nat.le_refl _) _)).mono ?_; rintro e w' ⟨rfl, rfl⟩))
  have hz : H65 (w.alloc (.cells Tryd.zeroCells114 114)) w.heap.size [] := H65_new _ _ (by kernel_rfl)
  have HZ := Lib.hid hz
  clear hz
  go_loopw [1, 13] (fun v1 v13 wr => ∃ (u k : Nat) (t : List UInt8), u ≤ U ∧ v1 = .int .u64 u ∧ v13 = .int .i64 k ∧ k + t.length = 65 ∧ minD 2 U = minD 2 u ++ t ∧ H65 wr w.heap.size t ∧ Below w.heap.size w wr) (fun v1 _ _ => (intOf v1).toNat)
  case atStart => exact ⟨U, 65, [], by omega, rfl, rfl, rfl, by simp, HZ.out, (Below.refl _ _).alloc (Nat.le_refl _) _⟩
  case round =>
    obtain ⟨u, k0, t, hu, rfl, rfl, hk, hm, hh, hb⟩ := hrel
    clear HZ
    have HM := Lib.hid hm
    have HH := Lib.hid hh
    have hbs := hb.size
    have hlen : t.length ≤ 40 := by
      have h1 := minD_len (b := 2) (by decide) 20 U (by omega)
      rw [hm, List.length_append] at h1; omega
    clear hm hh
    obtain ⟨k, rfl⟩ : ∃ k, k0 = k + 1 := ⟨k0 - 1, by omega⟩
    obtain ⟨⟨old, hold⟩, hfree⟩ := H65_open HH.out (k := k) (by omega)
    have hk1 : k < 65 := by omega
    have hk2 : (k : Int) < 65 := by omega
    by_cases hlt : 2 ≤ u
    · have hlti : ¬ (u : Int) < 2 := by omega
      have hs := Lib.hid (minD_big hlt (by decide))
      have hand : bits .and .u64 (u : Int) 1 = ((u % 2 : Nat) : Int) := and_2 u (by omega)
      go_wp2
      go_roundw
      case rel => exact ⟨u / 2, k, dgB (u % 2) :: t, by omega, by go_num, rfl, by simp; omega, by rw [HM.out, hs.out]; simp, H65_set HH.out (by omega) (congrArg (fun c : UInt8 => ((c.toNat : Nat) : Int)) (digS_at (u % 2) _ (by omega))), hb.setCell (Nat.le_refl _) _⟩
      case measure => simp [intOf]; omega
    · have hlti : (u : Int) < 2 := by omega
      have hs := Lib.hid (minD_small (b := 2) (n := u) (by omega))
      go_wp2
      rw [slice65 _ _ _ (by omega)]
      go_wp2
      rw [conv65 (H65_set HH.out (by omega) (congrArg (fun c : UInt8 => ((c.toNat : Nat) : Int)) (digS_at u (by show u < 36; omega) (by omega)))) (by simp; omega)]
      go_wp2
      go_ret2
      exact ⟨by rw [HM.out, hs.out]; rfl, Below.aft (hb.setCell (Nat.le_refl _) _)⟩

set_option maxRecDepth 100000 in
set_option maxHeartbeats 1600000 in
theorem fbits_16 (U : Nat) (hU : U ≤ 65535) (w : World) (hw : 3 < w.heap.size) (hc : w.cell? ⟨3, 15, none⟩ = some (.int .u8 4)) :
    Calls Tryd.prog 71 #[.slice none 0 0, .int .u64 U, .int .i64 16, .bool false, .bool false] w fun e w' => e = .returned (.tuple #[.slice none 0 0, .string ⟨(minD 16 U).toArray⟩]) ∧ ∃ x : Aft w, w' = x.val := by
  have HT := Lib.hid (fun (W : World) (hb : Below w.heap.size w W) => tz_16 W ((hb.cell (p := ⟨3, 15, none⟩) (by simp; omega)).trans hc))
  clear hc
  go_enter Tryd.func71, Tryd.ntmps71
  go_wp2_with (first | (go_at_call 84; refine (p2_16 _).mono ?_; rintro e w' ⟨rfl, rfl⟩) | (go_at_call 85; refine (HT.out _ ((Below.refl _ _).alloc (Nat.le_refl _) _)).mono ?_; rintro e w' ⟨rfl, rfl⟩))
  have hz : H65 (w.alloc (.cells Tryd.zeroCells114 114)) w.heap.size [] := H65_new _ _ (by kernel_rfl)
  have HZ := Lib.hid hz
  clear hz
  go_loopw [1, 13] (fun v1 v13 wr => ∃ (u k : Nat) (t : List UInt8), u ≤ U ∧ v1 = .int .u64 u ∧ v13 = .int .i64 k ∧ k + t.length = 65 ∧ minD 16 U = minD 16 u ++ t ∧ H65 wr w.heap.size t ∧ Below w.heap.size w wr) (fun v1 _ _ => (intOf v1).toNat)
  case atStart => exact ⟨U, 65, [], by omega, rfl, rfl, rfl, by simp, HZ.out, (Below.refl _ _).alloc (Nat.le_refl _) _⟩
  case round =>
    obtain ⟨u, k0, t, hu, rfl, rfl, hk, hm, hh, hb⟩ := hrel
    clear HZ
    have HM := Lib.hid hm
    have HH := Lib.hid hh
    have hbs := hb.size
    have hlen : t.length ≤ 40 := by
      have h1 := minD_len (b := 16) (by decide) 20 U (by omega)
      rw [hm, List.length_append] at h1; omega
    clear hm hh
    obtain ⟨k, rfl⟩ : ∃ k, k0 = k + 1 := ⟨k0 - 1, by omega⟩
    obtain ⟨⟨old, hold⟩, hfree⟩ := H65_open HH.out (k := k) (by omega)
    have hk1 : k < 65 := by omega
    have hk2 : (k : Int) < 65 := by omega
    by_cases hlt : 16 ≤ u
    · have hlti : ¬ (u : Int) < 16 := by omega
      have hs := Lib.hid (minD_big hlt (by decide))
      have hand : bits .and .u64 (u : Int) 15 = ((u % 16 : Nat) : Int) := and_16 u (by omega)
      go_wp2
      go_roundw
      case rel => exact ⟨u / 16, k, dgB (u % 16) :: t, by omega, by go_num, rfl, by simp; omega, by rw [HM.out, hs.out]; simp, H65_set HH.out (by omega) (congrArg (fun c : UInt8 => ((c.toNat : Nat) : Int)) (digS_at (u % 16) _ (by omega))), hb.setCell (Nat.le_refl _) _⟩
      case measure => simp [intOf]; omega
    · have hlti : (u : Int) < 16 := by omega
      have hs := Lib.hid (minD_small (b := 16) (n := u) (by omega))
      go_wp2
      rw [slice65 _ _ _ (by omega)]
      go_wp2
      rw [conv65 (H65_set HH.out (by omega) (congrArg (fun c : UInt8 => ((c.toNat : Nat) : Int)) (digS_at u (by show u < 36; omega) (by omega)))) (by simp; omega)]
      go_wp2
      go_ret2
      exact ⟨by rw [HM.out, hs.out]; rfl, Below.aft (hb.setCell (Nat.le_refl _) _)⟩

end Go.Proofs.YtlplphigjejahaaDoor
