/-
  Contracts of the references' numbers in strings and cuts (built for the door seat only).
-/
import Derived.Test.YtlplphigjejahaaDoorSd
set_option linter.unusedSimpArgs false
set_option linter.unusedVariables false
namespace Go.Proofs.YtlplphigjejahaaDoor
open Go.RowKit Go.BigFrame

theorem nm_bad {m : Nat} {l : List UInt8} (h : nmBad m l = true) : nmV m l = 0 ∧ nmB m l = false := by
  have e : nmB m l = false := by simp [nmB, h]
  exact ⟨by simp [nmV, e], e⟩
theorem at_toList (s : ByteArray) (k : Nat) (h : k < s.size) : (s.data.toList.drop k).headD 0 = s[k] := by
  have h' : k < s.data.toList.length := by simpa using h
  rw [List.drop_eq_getElem_cons h']; rfl
theorem toList_len (s : ByteArray) : s.data.toList.length = s.size := by simp
theorem b45 {a : UInt8} (h : a.toNat = 45) : a = 45 := (u8eq (n := 45) (by decide)).2 h
theorem b48 {a : UInt8} (h : a.toNat = 48) : a = 48 := (u8eq (n := 48) (by decide)).2 h
theorem sgn_yes {s : ByteArray} (h : 0 < s.size) (h45 : (s[0]'h).toNat = 45) : sgnAt s.data.toList = 1 := by
  have := at_toList s 0 h
  rw [List.drop_zero] at this
  unfold sgnAt; rw [this, if_pos (b45 h45)]
theorem sgn_no {s : ByteArray} (h : 0 < s.size) (h45 : ¬ (s[0]'h).toNat = 45) : sgnAt s.data.toList = 0 := by
  have := at_toList s 0 h
  rw [List.drop_zero] at this
  unfold sgnAt; rw [this, if_neg (fun e => h45 (by rw [e]; rfl))]
def decAt (l : List UInt8) (a k : Nat) : Option Int := decRun ((l.drop a).take (k - a))
theorem decAt_start (l : List UInt8) (a : Nat) : decAt l a a = some 0 := by simp [decAt, decRun]
theorem decAt_step (s : ByteArray) (a k : Nat) (ha : a ≤ k) (h : k < s.size) (n : Int) (hn : decAt s.data.toList a k = some n) : decAt s.data.toList a (k + 1) = if s[k].toNat < 48 ∨ 57 < s[k].toNat then none else some (10 * n + (s[k].toNat - 48)) := by
  have e : (s.data.toList.drop a).take (k + 1 - a) = (s.data.toList.drop a).take (k - a) ++ [s[k]] := by
    rw [show k + 1 - a = (k - a) + 1 by omega, List.take_succ_eq_append_getElem (by simp; omega)]
    congr 2
    rw [List.getElem_drop]
    simp only [show a + (k - a) = k by omega]; rfl
  unfold decAt decRun at *
  rw [e, List.foldl_append, hn]
  simp [decStep]
theorem decAt_none (l : List UInt8) (a k : Nat) (h : decAt l a k = none) : decRun (l.drop a) = none := by
  have e : l.drop a = (l.drop a).take (k - a) ++ (l.drop a).drop (k - a) := (List.take_append_drop _ _).symm
  rw [e]
  unfold decAt decRun at *
  rw [List.foldl_append, h, dec_none]
theorem decAt_all (l : List UInt8) (a k : Nat) (h : l.length ≤ k) : decAt l a k = decRun (l.drop a) := by
  unfold decAt; rw [List.take_of_length_le (by simp; omega)]
theorem p10_le {k : Nat} (h : k ≤ 9) : (10 : Int) ^ k ≤ 1000000000 := by
  have : ∀ k : Nat, k ≤ 9 → (10 : Int) ^ k ≤ 1000000000 := by decide
  exact this k h
theorem nm_none {m a : Nat} {l : List UInt8} (hs : sgnAt l = a) (h : decRun (l.drop a) = none) : nmV m l = 0 ∧ nmB m l = false := by
  have e : nmB m l = false := by simp [nmB, hs, h]
  exact ⟨by simp [nmV, e], e⟩
theorem nm_some {m a : Nat} {l : List UInt8} {n : Int} (hs : sgnAt l = a) (hb : nmBad m l = false) (h : decRun (l.drop a) = some n) : nmV m l = (if a = 1 then -n else n) ∧ nmB m l = true := by
  have e : nmB m l = true := by simp [nmB, hs, h, hb]
  exact ⟨by simp [nmV, e, hs, h], e⟩

theorem nmBad0_size {s : ByteArray} (m : Nat) (hsg : sgnAt s.data.toList = 0) (h : s.size = 0) : nmBad m s.data.toList = true := by
  unfold nmBad; rw [hsg, toList_len, h]; rfl
theorem nmBad0_long {s : ByteArray} {m : Nat} (hsg : sgnAt s.data.toList = 0) (h : m < s.size - 0) : nmBad m s.data.toList = true := by
  unfold nmBad; rw [hsg, toList_len, decide_eq_true h]; simp
theorem nmBad0_zero {s : ByteArray} (m : Nat) (hsg : sgnAt s.data.toList = 0) (ha : 0 < s.size) (h : (s[0]'ha).toNat = 48) (h1 : 1 < s.size) : nmBad m s.data.toList = true := by
  unfold nmBad; rw [hsg, toList_len, at_toList s 0 ha, b48 h, decide_eq_true h1]; simp
theorem nmBad0_no {s : ByteArray} {m : Nat} (hsg : sgnAt s.data.toList = 0) (h0 : ¬ s.size = 0) (h2 : ¬ m < s.size - 0) (ha : 0 < s.size) (h : ¬ ((s[0]'ha).toNat = 48 ∧ 1 < s.size)) : nmBad m s.data.toList = false := by
  have e1 : (s.size == 0) = false := by simpa using h0
  have e3 : ((s[0]'ha == 48) && decide (1 < s.size)) = false := by
    rw [Bool.and_eq_false_iff]
    by_cases k : (s[0]'ha).toNat = 48
    · right; exact decide_eq_false (fun q => h ⟨k, q⟩)
    · left; simp only [beq_eq_false_iff_ne]; intro e; exact k (by rw [e]; rfl)
  unfold nmBad; rw [hsg, toList_len, at_toList s 0 ha, e3, e1, decide_eq_false h2]; rfl

set_option maxRecDepth 20000 in
set_option maxHeartbeats 1600000 in
theorem Number_at0 (s : ByteArray) (m : Nat) (hm : m ≤ 9) (hs : s.size ≤ 60) (w : World) (hp : 0 < s.size) (h45 : ¬ (s[0]'hp).toNat = 45) : Calls Tryd.prog 25 #[.string s, .int .i64 (m : Int)] w fun e w' => e = .returned (.tuple #[.int .i64 (nmV m s.data.toList), .bool (nmB m s.data.toList)]) ∧ w = w' := by
  have hsg := sgn_no hp h45
  have hpi : (0 : Int) < s.size := by omega
  have hq : (((s[0]'hp).toNat : Int) == 45) = false := by rw [beq_eq_false_iff_ne]; omega
  have HS := Lib.hid hsg
  by_cases h1 : s.size = 0
  · omega
  have h1i : ((s.size : Int) == 0) = false := by rw [beq_eq_false_iff_ne]; omega
  by_cases h2 : m < s.size - 0
  · have h2i : (m : Int) < (s.size : Int) := by omega
    have HV := Lib.hid (nm_bad (m := m) (l := s.data.toList) (nmBad0_long hsg h2))
    clear hsg h2 h1
    go_enter Tryd.func25, Tryd.ntmps25
    go_wp2
    go_ret2
    exact ⟨tupIB HV.out.1.symm HV.out.2.symm, rfl⟩
  have h2i : ¬ (m : Int) < (s.size : Int) := by omega
  have ha : 0 < s.size := by omega
  have hai : (0 : Int) < s.size := by omega
  by_cases h3 : (s[0]'ha).toNat = 48 ∧ 1 < s.size
  · have h3i : (((s[0]'ha).toNat : Int) == 48) = true := by simp [h3.1]
    have h4i : (1 : Int) < s.size := by omega
    have HV := Lib.hid (nm_bad (m := m) (l := s.data.toList) (nmBad0_zero m hsg ha h3.1 h3.2))
    clear hsg h2 h1 h3
    go_enter Tryd.func25, Tryd.ntmps25
    go_wp2
    go_ret2
    exact ⟨tupIB HV.out.1.symm HV.out.2.symm, rfl⟩
  have HB := Lib.hid (nmBad0_no hsg h1 h2 ha h3)
  clear h1 hsg
  by_cases h3a : (s[0]'ha).toNat = 48
  · have h4i : ¬ (1 : Int) < s.size := by omega
    have h3i : (((s[0]'ha).toNat : Int) == 48) = true := by simp [h3a]
    clear h3a h3 h2
    go_enter Tryd.func25, Tryd.ntmps25
    go_wp2
    go_loop [7, 8] (fun vn vi => ∃ (k : Nat) (n : Int), 0 ≤ k ∧ k ≤ s.size ∧ vi = .int .i64 k ∧ vn = .int .i64 n ∧ decAt s.data.toList 0 k = some n ∧ 0 ≤ n ∧ n < 10 ^ (k - 0)) (fun _ vi => s.size - (intOf vi).toNat)
    case atStart => exact ⟨0, 0, by omega, by omega, rfl, rfl, decAt_start _ _, by decide, by simp⟩
    case round =>
      obtain ⟨k, n, hka, hk, rfl, rfl, hr, b1, b2⟩ := hrel
      have Hr := Lib.hid hr
      clear hr
      by_cases hlt : k < s.size
      · have hst := decAt_step s 0 k hka hlt n Hr.out
        have b3 := p10_le (k := k - 0) (by omega)
        have Hp := Lib.hid (show (10 : Int) ^ (k + 1 - 0) = 10 * 10 ^ (k - 0) by rw [show k + 1 - 0 = (k - 0) + 1 by omega, Int.pow_succ]; omega)
        generalize (10 : Int) ^ (k - 0) = P at *
        have hc1 : s[k].toNat ≤ 255 := by have := s[k].toNat_lt; omega
        by_cases hd1 : s[k].toNat < 48
        · rw [if_pos (Or.inl hd1)] at hst
          have HV := Lib.hid (nm_none (m := m) HS.out (decAt_none _ _ _ hst))
          have hd1' : (s[k].toNat : Int) < 48 := by omega
          clear hst
          go_wp2
          go_ret2
          exact ⟨tupIB HV.out.1.symm HV.out.2.symm, rfl⟩
        · have hd1' : ¬ (s[k].toNat : Int) < 48 := by omega
          by_cases hd2 : 57 < s[k].toNat
          · rw [if_pos (Or.inr hd2)] at hst
            have HV := Lib.hid (nm_none (m := m) HS.out (decAt_none _ _ _ hst))
            have hd2' : 57 < (s[k].toNat : Int) := by omega
            clear hst
            go_wp2
            go_ret2
            exact ⟨tupIB HV.out.1.symm HV.out.2.symm, rfl⟩
          · rw [if_neg (by omega)] at hst
            have hd2' : ¬ 57 < (s[k].toNat : Int) := by omega
            have Hn := Lib.hid hst
            clear hst
            go_wp2
            go_round
            case rel => exact ⟨k + 1, 10 * n + (s[k].toNat - 48), by omega, by omega, by go_num, rfl, Hn.out, by omega, by rw [Hp.out]; omega⟩
            case measure => simp [intOf]; omega
      · obtain rfl : k = s.size := by omega
        have HV := Lib.hid (nm_some (m := m) HS.out HB.out ((decAt_all _ _ _ (by simp)).symm.trans Hr.out))
        have b3 := p10_le (k := s.size - 0) (by omega)
        generalize (10 : Int) ^ (s.size - 0) = P at *
        go_wp2
        go_ret2
        exact ⟨tupIB (by rw [HV.out.1]; rfl) HV.out.2.symm, rfl⟩
  · have h3i : (((s[0]'ha).toNat : Int) == 48) = false := by rw [beq_eq_false_iff_ne]; omega
    clear h3a h3 h2
    go_enter Tryd.func25, Tryd.ntmps25
    go_wp2
    go_loop [7, 8] (fun vn vi => ∃ (k : Nat) (n : Int), 0 ≤ k ∧ k ≤ s.size ∧ vi = .int .i64 k ∧ vn = .int .i64 n ∧ decAt s.data.toList 0 k = some n ∧ 0 ≤ n ∧ n < 10 ^ (k - 0)) (fun _ vi => s.size - (intOf vi).toNat)
    case atStart => exact ⟨0, 0, by omega, by omega, rfl, rfl, decAt_start _ _, by decide, by simp⟩
    case round =>
      obtain ⟨k, n, hka, hk, rfl, rfl, hr, b1, b2⟩ := hrel
      have Hr := Lib.hid hr
      clear hr
      by_cases hlt : k < s.size
      · have hst := decAt_step s 0 k hka hlt n Hr.out
        have b3 := p10_le (k := k - 0) (by omega)
        have Hp := Lib.hid (show (10 : Int) ^ (k + 1 - 0) = 10 * 10 ^ (k - 0) by rw [show k + 1 - 0 = (k - 0) + 1 by omega, Int.pow_succ]; omega)
        generalize (10 : Int) ^ (k - 0) = P at *
        have hc1 : s[k].toNat ≤ 255 := by have := s[k].toNat_lt; omega
        by_cases hd1 : s[k].toNat < 48
        · rw [if_pos (Or.inl hd1)] at hst
          have HV := Lib.hid (nm_none (m := m) HS.out (decAt_none _ _ _ hst))
          have hd1' : (s[k].toNat : Int) < 48 := by omega
          clear hst
          go_wp2
          go_ret2
          exact ⟨tupIB HV.out.1.symm HV.out.2.symm, rfl⟩
        · have hd1' : ¬ (s[k].toNat : Int) < 48 := by omega
          by_cases hd2 : 57 < s[k].toNat
          · rw [if_pos (Or.inr hd2)] at hst
            have HV := Lib.hid (nm_none (m := m) HS.out (decAt_none _ _ _ hst))
            have hd2' : 57 < (s[k].toNat : Int) := by omega
            clear hst
            go_wp2
            go_ret2
            exact ⟨tupIB HV.out.1.symm HV.out.2.symm, rfl⟩
          · rw [if_neg (by omega)] at hst
            have hd2' : ¬ 57 < (s[k].toNat : Int) := by omega
            have Hn := Lib.hid hst
            clear hst
            go_wp2
            go_round
            case rel => exact ⟨k + 1, 10 * n + (s[k].toNat - 48), by omega, by omega, by go_num, rfl, Hn.out, by omega, by rw [Hp.out]; omega⟩
            case measure => simp [intOf]; omega
      · obtain rfl : k = s.size := by omega
        have HV := Lib.hid (nm_some (m := m) HS.out HB.out ((decAt_all _ _ _ (by simp)).symm.trans Hr.out))
        have b3 := p10_le (k := s.size - 0) (by omega)
        generalize (10 : Int) ^ (s.size - 0) = P at *
        go_wp2
        go_ret2
        exact ⟨tupIB (by rw [HV.out.1]; rfl) HV.out.2.symm, rfl⟩

theorem nmBad1_size {s : ByteArray} (m : Nat) (hsg : sgnAt s.data.toList = 1) (h : s.size = 1) : nmBad m s.data.toList = true := by
  unfold nmBad; rw [hsg, toList_len, h]; rfl
theorem nmBad1_long {s : ByteArray} {m : Nat} (hsg : sgnAt s.data.toList = 1) (h : m < s.size - 1) : nmBad m s.data.toList = true := by
  unfold nmBad; rw [hsg, toList_len, decide_eq_true h]; simp
theorem nmBad1_zero {s : ByteArray} (m : Nat) (hsg : sgnAt s.data.toList = 1) (ha : 1 < s.size) (h : (s[1]'ha).toNat = 48) (h1 : 1 < s.size) : nmBad m s.data.toList = true := by
  unfold nmBad; rw [hsg, toList_len, at_toList s 1 ha, b48 h, decide_eq_true h1]; simp
theorem nmBad1_no {s : ByteArray} {m : Nat} (hsg : sgnAt s.data.toList = 1) (h0 : ¬ s.size = 1) (h2 : ¬ m < s.size - 1) (ha : 1 < s.size) (h : ¬ ((s[1]'ha).toNat = 48 ∧ 1 < s.size)) : nmBad m s.data.toList = false := by
  have e1 : (s.size == 1) = false := by simpa using h0
  have e3 : ((s[1]'ha == 48) && decide (1 < s.size)) = false := by
    rw [Bool.and_eq_false_iff]
    by_cases k : (s[1]'ha).toNat = 48
    · right; exact decide_eq_false (fun q => h ⟨k, q⟩)
    · left; simp only [beq_eq_false_iff_ne]; intro e; exact k (by rw [e]; rfl)
  unfold nmBad; rw [hsg, toList_len, at_toList s 1 ha, e3, e1, decide_eq_false h2]; rfl

set_option maxRecDepth 20000 in
set_option maxHeartbeats 1600000 in
theorem Number_at1 (s : ByteArray) (m : Nat) (hm : m ≤ 9) (hs : s.size ≤ 60) (w : World) (hp : 0 < s.size) (h45 : (s[0]'hp).toNat = 45) : Calls Tryd.prog 25 #[.string s, .int .i64 (m : Int)] w fun e w' => e = .returned (.tuple #[.int .i64 (nmV m s.data.toList), .bool (nmB m s.data.toList)]) ∧ w = w' := by
  have hsg := sgn_yes hp h45
  have hpi : (0 : Int) < s.size := by omega
  have hq : (((s[0]'hp).toNat : Int) == 45) = true := by rw [beq_iff_eq]; omega
  have HS := Lib.hid hsg
  by_cases h1 : s.size = 1
  · have h1i : ((s.size : Int) == 1) = true := by simp; omega
    have HV := Lib.hid (nm_bad (m := m) (l := s.data.toList) (nmBad1_size m hsg h1))
    clear h1 hsg
    go_enter Tryd.func25, Tryd.ntmps25
    go_wp2
    go_ret2
    exact ⟨tupIB HV.out.1.symm HV.out.2.symm, rfl⟩

  have h1i : ((s.size : Int) == 1) = false := by rw [beq_eq_false_iff_ne]; omega
  by_cases h2 : m < s.size - 1
  · have h2i : (m : Int) < (s.size : Int) - 1 := by omega
    have HV := Lib.hid (nm_bad (m := m) (l := s.data.toList) (nmBad1_long hsg h2))
    clear hsg h2 h1
    go_enter Tryd.func25, Tryd.ntmps25
    go_wp2
    go_ret2
    exact ⟨tupIB HV.out.1.symm HV.out.2.symm, rfl⟩
  have h2i : ¬ (m : Int) < (s.size : Int) - 1 := by omega
  have ha : 1 < s.size := by omega
  have hai : (1 : Int) < s.size := by omega
  by_cases h3 : (s[1]'ha).toNat = 48 ∧ 1 < s.size
  · have h3i : (((s[1]'ha).toNat : Int) == 48) = true := by simp [h3.1]
    have h4i : (1 : Int) < s.size := by omega
    have HV := Lib.hid (nm_bad (m := m) (l := s.data.toList) (nmBad1_zero m hsg ha h3.1 h3.2))
    clear hsg h2 h1 h3
    go_enter Tryd.func25, Tryd.ntmps25
    go_wp2
    go_ret2
    exact ⟨tupIB HV.out.1.symm HV.out.2.symm, rfl⟩
  have HB := Lib.hid (nmBad1_no hsg h1 h2 ha h3)
  clear h1 hsg
  by_cases h3a : (s[1]'ha).toNat = 48
  · exact absurd ⟨h3a, ha⟩ h3
  · have h3i : (((s[1]'ha).toNat : Int) == 48) = false := by rw [beq_eq_false_iff_ne]; omega
    clear h3a h3 h2
    go_enter Tryd.func25, Tryd.ntmps25
    go_wp2
    go_loop [7, 8] (fun vn vi => ∃ (k : Nat) (n : Int), 1 ≤ k ∧ k ≤ s.size ∧ vi = .int .i64 k ∧ vn = .int .i64 n ∧ decAt s.data.toList 1 k = some n ∧ 0 ≤ n ∧ n < 10 ^ (k - 1)) (fun _ vi => s.size - (intOf vi).toNat)
    case atStart => exact ⟨1, 0, by omega, by omega, rfl, rfl, decAt_start _ _, by decide, by simp⟩
    case round =>
      obtain ⟨k, n, hka, hk, rfl, rfl, hr, b1, b2⟩ := hrel
      have Hr := Lib.hid hr
      clear hr
      by_cases hlt : k < s.size
      · have hst := decAt_step s 1 k hka hlt n Hr.out
        have b3 := p10_le (k := k - 1) (by omega)
        have Hp := Lib.hid (show (10 : Int) ^ (k + 1 - 1) = 10 * 10 ^ (k - 1) by rw [show k + 1 - 1 = (k - 1) + 1 by omega, Int.pow_succ]; omega)
        generalize (10 : Int) ^ (k - 1) = P at *
        have hc1 : s[k].toNat ≤ 255 := by have := s[k].toNat_lt; omega
        by_cases hd1 : s[k].toNat < 48
        · rw [if_pos (Or.inl hd1)] at hst
          have HV := Lib.hid (nm_none (m := m) HS.out (decAt_none _ _ _ hst))
          have hd1' : (s[k].toNat : Int) < 48 := by omega
          clear hst
          go_wp2
          go_ret2
          exact ⟨tupIB HV.out.1.symm HV.out.2.symm, rfl⟩
        · have hd1' : ¬ (s[k].toNat : Int) < 48 := by omega
          by_cases hd2 : 57 < s[k].toNat
          · rw [if_pos (Or.inr hd2)] at hst
            have HV := Lib.hid (nm_none (m := m) HS.out (decAt_none _ _ _ hst))
            have hd2' : 57 < (s[k].toNat : Int) := by omega
            clear hst
            go_wp2
            go_ret2
            exact ⟨tupIB HV.out.1.symm HV.out.2.symm, rfl⟩
          · rw [if_neg (by omega)] at hst
            have hd2' : ¬ 57 < (s[k].toNat : Int) := by omega
            have Hn := Lib.hid hst
            clear hst
            go_wp2
            go_round
            case rel => exact ⟨k + 1, 10 * n + (s[k].toNat - 48), by omega, by omega, by go_num, rfl, Hn.out, by omega, by rw [Hp.out]; omega⟩
            case measure => simp [intOf]; omega
      · obtain rfl : k = s.size := by omega
        have HV := Lib.hid (nm_some (m := m) HS.out HB.out ((decAt_all _ _ _ (by simp)).symm.trans Hr.out))
        have b3 := p10_le (k := s.size - 1) (by omega)
        generalize (10 : Int) ^ (s.size - 1) = P at *
        go_wp2
        go_ret2
        exact ⟨tupIB (by rw [HV.out.1]; rfl) HV.out.2.symm, rfl⟩

set_option maxRecDepth 20000 in
set_option maxHeartbeats 1600000 in
theorem Number_c (s : ByteArray) (m : Nat) (hm : m ≤ 9) (hs : s.size ≤ 60) (w : World) : Calls Tryd.prog 25 #[.string s, .int .i64 (m : Int)] w fun e w' => e = .returned (.tuple #[.int .i64 (nmV m s.data.toList), .bool (nmB m s.data.toList)]) ∧ w = w' := by
  by_cases hp : 0 < s.size
  · by_cases h45 : (s[0]'hp).toNat = 45
    · exact Number_at1 s m hm hs w hp h45
    · exact Number_at0 s m hm hs w hp h45
  · have h0 : s.size = 0 := by omega
    have e : s = ⟨#[]⟩ := by
      have : s.data.size = 0 := h0
      cases s; congr; exact Array.eq_empty_of_size_eq_zero this
    subst e
    have HV := Lib.hid (nm_bad (m := m) (l := (⟨#[]⟩ : ByteArray).data.toList) rfl)
    clear hp h0
    go_enter Tryd.func25, Tryd.ntmps25
    go_wp2
    go_ret2
    exact ⟨tupIB HV.out.1.symm HV.out.2.symm, rfl⟩

end Go.Proofs.YtlplphigjejahaaDoor
