/-
  Contracts of the references' cuts and decimal strings (built for the door seat only).
-/
import Derived.Test.YtlplphigjejahaaDoorSe
import Derived.Laws.BytesArg
set_option linter.unusedSimpArgs false
set_option linter.unusedVariables false
namespace Go.Proofs.YtlplphigjejahaaDoor
open Go.RowKit Go.BigFrame

theorem str_info : (Tryd.prog.info? 9).map (fun i => (i.zero, i.size, i.bytes)) = some (some (.string ⟨#[]⟩), 1, 16) := by kernel_rfl
def strVals (L : List (List UInt8)) : List Value := L.map fun b => .string ⟨b.toArray⟩
theorem extract_list (s : ByteArray) (f k : Nat) (hk : k ≤ s.size) : s.extract f k = ⟨((s.data.toList.drop f).take (k - f)).toArray⟩ := by
  apply ByteArray.ext
  rw [ByteArray.data_extract]
  apply Array.ext'
  simp [List.take_drop]
def cutAt (c : UInt8) (s : ByteArray) (k : Nat) : List (List UInt8) × List UInt8 := (s.data.toList.take k).foldl (cutStep c) ([], [])
theorem cutAt_step (c : UInt8) (s : ByteArray) (k : Nat) (h : k < s.size) : cutAt c s (k + 1) = cutStep c (cutAt c s k) s[k] := by
  have e : s.data.toList.take (k + 1) = s.data.toList.take k ++ [s[k]] := by
    rw [List.take_succ_eq_append_getElem (by simpa using h)]; rfl
  unfold cutAt; rw [e, List.foldl_append]; rfl
theorem cutAt_yes {c : UInt8} {s : ByteArray} {k f : Nat} {T} (h : k < s.size) (hc : s[k] = c) (hf : f ≤ k) (hT : cutAt c s k = T) (h2 : T.2 = (s.data.toList.drop f).take (k - f)) :
    cutAt c s (k + 1) = (T.1 ++ [T.2], []) ∧ strVals (T.1 ++ [T.2]) = strVals T.1 ++ [.string (s.extract f k)] := by
  rw [cutAt_step c s k h, hT]
  refine ⟨by simp [cutStep, hc], ?_⟩
  rw [extract_list s f k (by omega), h2]; simp [strVals]
theorem cutAt_no {c : UInt8} {s : ByteArray} {k f : Nat} {T} (h : k < s.size) (hc : ¬ s[k] = c) (hf : f ≤ k) (hT : cutAt c s k = T) (h2 : T.2 = (s.data.toList.drop f).take (k - f)) :
    cutAt c s (k + 1) = (T.1, T.2 ++ [s[k]]) ∧ T.2 ++ [s[k]] = (s.data.toList.drop f).take (k + 1 - f) := by
  rw [cutAt_step c s k h, hT]
  refine ⟨by simp [cutStep, hc], ?_⟩
  rw [h2, show k + 1 - f = (k - f) + 1 by omega, List.take_succ_eq_append_getElem (by simp; omega)]
  congr 2
  rw [List.getElem_drop]
  simp only [show f + (k - f) = k by omega]; rfl
theorem cutAt_end {c : UInt8} {s : ByteArray} {f : Nat} {T} (hf : f ≤ s.size) (hT : cutAt c s s.size = T) (h2 : T.2 = (s.data.toList.drop f).take (s.size - f)) :
    strVals ((cutF c s.data.toList).1 ++ [(cutF c s.data.toList).2]) = strVals T.1 ++ [.string (s.extract f s.size)] ∧ (cutF c s.data.toList).1.length = T.1.length := by
  have e : cutF c s.data.toList = T := by rw [← hT]; unfold cutAt cutF; rw [List.take_of_length_le (by simp)]
  rw [e, extract_list s f s.size (by omega), h2]; simp [strVals]
theorem strVals_len (L : List (List UInt8)) : (strVals L).length = L.length := by simp [strVals]
theorem cutAt_len (c : UInt8) (s : ByteArray) (k : Nat) : (cutAt c s k).1.length ≤ k := by
  unfold cutAt; rw [cut_len]; simp
  exact Nat.le_trans List.count_le_length (by simp; omega)

set_option maxRecDepth 20000 in
set_option maxHeartbeats 1600000 in
theorem Cut39_c (s : ByteArray) (hs : s.size ≤ 60000) (w : World) :
    Calls Tryd.prog 24 #[.string s, .int .u8 39] w fun e w' => ∃ v, e = .returned v ∧ w'.ownsRow w.heap.size 9 1 v ((cutF 39 s.data.toList).1.length + 1) (strVals ((cutF 39 s.data.toList).1 ++ [(cutF 39 s.data.toList).2])) ∧ Below w.heap.size w w' := by
  obtain ⟨i0, hi, hz0, hz1, hz2⟩ := info_parts str_info
  go_enter Tryd.func24, Tryd.ntmps24
  go_wp2
  go_loopw [5, 6, 7] (fun v5 v6 v7 wr => ∃ (k f : Nat) (T : List (List UInt8) × List UInt8), k ≤ s.size ∧ f ≤ k ∧ v7 = .int .i64 k ∧ v6 = .int .i64 f ∧ cutAt 39 s k = T ∧ T.2 = (s.data.toList.drop f).take (k - f) ∧ wr.ownsRow w.heap.size 9 1 v5 T.1.length (strVals T.1) ∧ Below w.heap.size w wr) (fun _ _ v7 _ => s.size - (intOf v7).toNat)
  case atStart => exact ⟨0, 0, ([], []), by omega, by omega, rfl, rfl, rfl, rfl, World.ownsRow_nil _ _ _ _, Below.refl _ _⟩
  case round =>
    obtain ⟨k, f, T, hk, hf, rfl, rfl, hT, h2, hown, hb⟩ := hrel
    have hbs := hb.size
    have hTl := cutAt_len 39 s k
    rw [hT] at hTl
    have HT := Lib.hid hT
    have H2 := Lib.hid h2
    clear hT h2
    have hfi : (f : Int) ≤ k := by omega
    have hfs : f ≤ s.size := by omega
    have hfs' : (f : Int) ≤ s.size := by omega
    by_cases hlt : k < s.size
    · by_cases hc : s[k] = 39
      · have hq : ((s[k].toNat : Int) == 39) = true := by rw [hc]; rfl
        have Hy := Lib.hid (cutAt_yes hlt hc hf HT.out H2.out)
        clear hc
        go_wp2_with (at_builtin; refine wpList_append_own _ rfl _ _ 58 rfl w.heap.size 9 i0 (.string ⟨#[]⟩) 1 16 Tryd.underlying58 hi hz0 hz1 hz2 rfl (by decide) _ _ _ rfl (hown.alloc _) ⟨_, 0, none⟩ 1 1 [.string _] rfl rfl (cell_one_new _ _ _) (fun x hx => by simp at hx; subst hx; rfl) (by unfold maxLen; omega) (by omega) (by first | omega | (simp; omega) | (simp at *; omega)) ?_; intro v' w3 hown' hgrow3 hnn)
        go_wp2
        go_roundw
        case rel => exact ⟨k + 1, k + 1, (T.1 ++ [T.2], []), by omega, by omega, by go_num, by go_num, Hy.out.1, by simp, by rw [Hy.out.2, List.length_append]; exact hown', (hb.alloc hbs _).grown hgrow3 (by simp; omega) (fun q hq => (hown.lt q hq).1)⟩
        case measure => simp [intOf]; omega
      · have hq : ((s[k].toNat : Int) == 39) = false := by
          rw [beq_eq_false_iff_ne]; intro e; exact hc (UInt8.toNat_inj.1 (show s[k].toNat = 39 by omega))
        have Hy := Lib.hid (cutAt_no hlt hc hf HT.out H2.out)
        clear hc
        go_wp2
        go_roundw
        case rel => exact ⟨k + 1, f, (T.1, T.2 ++ [s[k]]), by omega, by omega, by go_num, rfl, Hy.out.1, Hy.out.2, hown, hb⟩
        case measure => simp [intOf]; omega
    · obtain rfl : k = s.size := by omega
      have Hy := Lib.hid (cutAt_end hf HT.out H2.out)
      go_wp2_with (at_builtin; refine wpList_append_own _ rfl _ _ 58 rfl w.heap.size 9 i0 (.string ⟨#[]⟩) 1 16 Tryd.underlying58 hi hz0 hz1 hz2 rfl (by decide) _ _ _ rfl (hown.alloc _) ⟨_, 0, none⟩ 1 1 [.string _] rfl rfl (cell_one_new _ _ _) (fun x hx => by simp at hx; subst hx; rfl) (by unfold maxLen; omega) (by omega) (by first | omega | (simp; omega) | (simp at *; omega)) ?_; intro v' w3 hown' hgrow3 hnn)
      go_wp2
      go_ret
      exact ⟨_, rfl, by rw [Hy.out.1, Hy.out.2]; exact hown', (hb.alloc hbs _).grown hgrow3 (by simp; omega) (fun q hq => (hown.lt q hq).1)⟩

theorem catB (a b : List UInt8) : (⟨a.toArray⟩ : ByteArray) ++ ⟨b.toArray⟩ = ⟨(a ++ b).toArray⟩ := by
  apply ByteArray.ext; simp
theorem conv1 (W : World) (n : Int) (T : TypeId) : (convert 86 9 (.slice (some ⟨W.heap.size, 0, none⟩) 1 1)).run Tryd.prog (W.alloc (.cells #[.int .u8 n] T)) = .ok (.string ⟨#[UInt8.ofNat n.toNat]⟩) (W.alloc (.cells #[.int .u8 n] T)) := by
  have hc : ∀ i, i < 1 → (W.alloc (.cells #[.int .u8 n] T)).cell? ⟨W.heap.size, 0 + i, none⟩ = some (.int .u8 ([n].getD i 0)) := by
    intro i hi
    obtain rfl : i = 0 := by omega
    simp [go_sem]
  rw [run_convert_bytes_arg _ _ 5 (by kernel_rfl) (by kernel_rfl) W.heap.size 0 1 1 [n] rfl hc _ (by kernel_rfl)]
  rfl
def mD (m : Nat) : List UInt8 := if m = 0 then [] else minD 10 m
theorem mD_step {m : Nat} (h : 0 < m) : mD m = mD (m / 10) ++ [dgB (m % 10)] := by
  unfold mD
  rw [if_neg (by omega)]
  by_cases h9 : m < 10
  · rw [minD_small h9, if_pos (by omega), Nat.mod_eq_of_lt h9]; rfl
  · rw [minD_big (by omega) (by decide), if_neg (by omega)]

set_option maxRecDepth 20000 in
set_option maxHeartbeats 1600000 in
theorem Decimal_pos (N : Nat) (h0 : 0 < N) (hN : N ≤ 9223372036854775807) (w : World) :
    Calls Tryd.prog 29 #[.int .i64 N] w fun e w' => e = .returned (.string ⟨(minD 10 N).toArray⟩) ∧ ∃ x : Aft w, w' = x.val := by
  have hz : ((N : Int) == 0) = false := by rw [beq_eq_false_iff_ne]; omega
  have hn : ¬ (N : Int) < 0 := by omega
  go_enter Tryd.func29, Tryd.ntmps29
  go_wp2
  go_loopw [0, 3] (fun v0 v3 wr => ∃ (m : Nat) (t : List UInt8), m ≤ N ∧ v0 = .int .i64 m ∧ v3 = .string ⟨t.toArray⟩ ∧ minD 10 N = mD m ++ t ∧ Below w.heap.size w wr) (fun v0 _ _ => (intOf v0).toNat)
  case atStart => exact ⟨N, [], by omega, rfl, rfl, by unfold mD; rw [if_neg (by omega)]; simp, Below.refl _ _⟩
  case round =>
    obtain ⟨m, t, hm, rfl, rfl, ht, hb⟩ := hrel
    have HT := Lib.hid ht
    clear ht
    have hl : t.length ≤ 19 := by
      have h1 := minD_len (b := 10) (by decide) 18 N (by omega)
      rw [HT.out, List.length_append] at h1; omega
    by_cases h : 0 < m
    · have hs := Lib.hid (mD_step h)
      have hm0 : ((m : Int) != 0) = true := by simp; omega
      have hd1 : 0 ≤ (m : Int) % 10 := by omega
      have hd2 : (m : Int) % 10 ≤ 9 := by omega
      have hsz := Lib.hid (szI_nn hd1)
      go_wp2_with (go_at_call 56; refine (Size_c _ (by omega) (by omega) _).mono ?_; rw [hsz.out]; rintro e w' ⟨rfl, rfl⟩)
      rw [conv1]
      go_wp2
      go_roundw
      case rel => exact ⟨m / 10, dgB (m % 10) :: t, by omega, by go_num, (by
        rw [show (#[UInt8.ofNat (48 + m % 10)] : Array UInt8) = [UInt8.ofNat (48 + m % 10)].toArray from rfl, catB]
        have : m % 10 < 10 := Nat.mod_lt _ (by decide)
        simp [dgB, this]), by rw [HT.out, hs.out]; simp, hb.alloc hb.size _⟩
      case measure => simp [intOf]; omega
    · obtain rfl : m = 0 := by omega
      go_wp2
      go_ret
      exact ⟨by rw [HT.out]; simp [mD]; apply ByteArray.ext; simp, Below.aft hb⟩

end Go.Proofs.YtlplphigjejahaaDoor
