/-
  The law BitsFields, every input.
-/
import Derived.Test.YtlplphigjejahaaBB
set_option linter.unusedSimpArgs false
set_option linter.unusedVariables false
namespace Go.Proofs.Ytlplphigjejahaa
open Go.RowKit Go.BigFrame

theorem field_pair (aw av x0 x1 : Int) : ∃ FW FV : Int, (∀ w, Calls Try.prog 28 #[.agg #[.int .i64 aw, .int .i64 av], .int .i64 x0, .int .i64 x1] w fun e w' => e = .returned (.tuple #[.agg #[.int .i64 FW, .int .i64 FV], .int .i64 (fdErr aw av x0 x1)]) ∧ ∃ x : Aft w, w' = x.val) ∧ (fdErr aw av x0 x1 = 0 → Hid (∀ w, Calls Try.prog 33 #[.agg #[.int .i64 aw, .int .i64 av], .int .i64 x0, .int .i64 x1] w fun e w' => e = .returned (.agg #[.int .i64 FW, .int .i64 FV]) ∧ ∃ x : Aft w, w' = x.val)) ∧ (fdErr aw av x0 x1 ≠ 0 → FW = 0 ∧ FV = 0) := by
  by_cases h : fdErr aw av x0 x1 = 0
  · obtain ⟨h1, h2⟩ := fdErr_ok.1 h
    obtain ⟨⟨a1, a2, a3, a4⟩, a5⟩ := spE_ok.1 h2
    obtain ⟨b1, b2, b3, b4⟩ := bErr_ok.1 h1
    have hp := pw_bd (n := aw) (by omega) b2
    refine ⟨x1, md (av / pw x0) (pw x1), fun w => ?_, fun _ => Lib.hid fun w => Field_c aw av x0 x1 w b3 (by omega) a1 a2 a3 a4, fun hn => absurd h hn⟩
    have := FieldOf_c aw av x0 x1 w b3 a1 a2 a3 a4 (Lib.hid h)
    rw [h]
    exact this
  · exact ⟨0, 0, fun w => FieldOf_bad aw av x0 x1 _ w h (Lib.hid rfl), fun hn => absurd hn h, fun _ => ⟨rfl, rfl⟩⟩
theorem set_pair (aw av x0 bw bv : Int) : ∃ SW SV : Int, (∀ w, Calls Try.prog 29 #[.agg #[.int .i64 aw, .int .i64 av], .int .i64 x0, .agg #[.int .i64 bw, .int .i64 bv]] w fun e w' => e = .returned (.tuple #[.agg #[.int .i64 SW, .int .i64 SV], .int .i64 (stErr aw av x0 bw bv)]) ∧ ∃ x : Aft w, w' = x.val) ∧ (stErr aw av x0 bw bv = 0 → Hid (∀ w, Calls Try.prog 35 #[.agg #[.int .i64 aw, .int .i64 av], .int .i64 x0, .agg #[.int .i64 bw, .int .i64 bv]] w fun e w' => e = .returned (.agg #[.int .i64 SW, .int .i64 SV]) ∧ ∃ x : Aft w, w' = x.val)) ∧ (stErr aw av x0 bw bv ≠ 0 → SW = 0 ∧ SV = 0) := by
  by_cases h : stErr aw av x0 bw bv = 0
  · obtain ⟨h1, h2, h3⟩ := stErr_ok.1 h
    obtain ⟨⟨a1, a2, a3, a4⟩, a5⟩ := spE_ok.1 h3
    obtain ⟨b1, b2, b3, b4⟩ := bErr_ok.1 h1
    obtain ⟨c1, c2, c3, c4⟩ := bErr_ok.1 h2
    have hp := pw_bd (n := aw) (by omega) b2
    refine ⟨aw, av + (bv - md (av / pw x0) (pw bw)) * pw x0, fun w => ?_, fun _ => Lib.hid fun w => Set_c aw av x0 bw bv w b3 (by omega) a1 a2 a3 a4 c3 c4, fun hn => absurd h hn⟩
    have := WithField_c aw av x0 bw bv w b3 (by omega) a1 a2 a3 a4 (by omega) c3 c4 (Lib.hid h)
    rw [h]
    exact this
  · exact ⟨0, 0, fun w => WithField_bad aw av x0 bw bv _ w h (Lib.hid rfl), fun hn => absurd hn h, fun _ => ⟨rfl, rfl⟩⟩
theorem lies_two {w : World} {g : Nat} {a b c d : Int} (h : w.heap[g]? = some (.cells #[.int .i64 a, .int .i64 b, .int .i64 c, .int .i64 d] 23)) : Lies w (some ⟨g, 0, none⟩) [(a, b), (c, d)] := by
  intro _
  refine ⟨_, rfl, lt_of_get h, fun i p hi => ?_⟩
  rcases i with _ | _ | i
  · simp at hi; subst hi; exact ⟨by simp [Addr.add, World.cell?, h], by simp [Addr.add, World.cell?, h]⟩
  · simp at hi; subst hi; exact ⟨by simp [Addr.add, World.cell?, h], by simp [Addr.add, World.cell?, h]⟩
  · simp at hi
set_option maxRecDepth 20000 in
set_option maxHeartbeats 800000 in
theorem BitsFields_long (hawake : ∀ w, Calls Try.prog 11 #[] w fun e w' => e = .returned (.bool true) ∧ ∃ x : Aft w, w' = x.val) (aw av x0 x1 : Int) (A : Option Addr) (n cap : Nat) (w : World) (hn : 18 < n) :
    Calls Try.prog 7 #[.agg #[.int .i64 aw, .int .i64 av], .agg #[.int .i64 x0, .int .i64 x1], .slice A n cap] w fun e w' => e = .returned (.bool true) ∧ ∃ x : Aft w, w' = x.val := by
  have hz18 : decide (18 < (n : Int)) = true := by simp; omega
  go_enter Try.func7, Try.ntmps7
  go_wp2_with fail
  refine (hawake _).mono ?_
  rintro e w' ⟨rfl, xa, rfl⟩
  go_wp2
  go_ret
  exact ⟨rfl, Below.aft (by (repeat' (first | (with_reducible exact Below.refl _ _) | (with_reducible assumption) | (with_reducible exact Aft.pf _) | (with_reducible refine Below.alloc ?_ ?_ _) | (with_reducible refine Below.drew ?_) | (with_reducible refine Aft.below _ ?_ ?_) | (with_reducible refine Below.setCell_new ?_ ?_ _ _) | (with_reducible exact Nat.le_refl _) | (with_reducible refine Aft.le _ ?_) | (with_reducible refine le_alloc ?_) | (with_reducible refine le_drew ?_) | (with_reducible refine le_setCell ?_) | omega)))⟩
theorem BitsFields_all (hawake : ∀ w, Calls Try.prog 11 #[] w fun e w' => e = .returned (.bool true) ∧ ∃ x : Aft w, w' = x.val) (aw av x0 x1 : Int) (A : Option Addr) (cap : Nat) (ps : List (Int × Int)) (w : World) (h : Lies w A ps) (hA : ps.length = 0 → A = none ∧ cap = 0 ∨ ∃ ad, A = some ad) :
    Calls Try.prog 7 #[.agg #[.int .i64 aw, .int .i64 av], .agg #[.int .i64 x0, .int .i64 x1], .slice A ps.length cap] w fun e w' => e = .returned (.bool true) ∧ ∃ x : Aft w, w' = x.val := by
  by_cases h18 : 18 < ps.length
  · exact BitsFields_long hawake aw av x0 x1 A ps.length cap w h18
  have h18' : ps.length ≤ 18 := by omega
  obtain ⟨bw, bv, hb⟩ : ∃ bw bv : Int, ps = [] ∧ bw = 0 ∧ bv = 0 ∨ ps[0]? = some (bw, bv) := by
    cases ps with
    | nil => exact ⟨0, 0, .inl ⟨rfl, rfl, rfl⟩⟩
    | cons p r => exact ⟨p.1, p.2, .inr rfl⟩
  obtain ⟨FW, FV, kF, vF, zF⟩ := field_pair aw av x0 x1
  obtain ⟨SW, SV, kS, vS, zS⟩ := set_pair aw av x0 bw bv
  have hJ : ∃ JW JV : Int, (∀ (w : World) (A : Option Addr) (cap : Nat), Lies w A ps → Calls Try.prog 30 #[.slice A ps.length cap] w fun e w' => e = .returned (.tuple #[.agg #[.int .i64 JW, .int .i64 JV], .int .i64 (joinE ps)]) ∧ ∃ x : Aft w, w' = x.val) ∧
      (joinE ps = 0 → ∀ w : World, Lies w A ps → Calls Try.prog 37 #[.slice A ps.length cap] w fun e w' => e = .returned (.agg #[.int .i64 JW, .int .i64 JV]) ∧ ∃ x : Aft w, w' = x.val) ∧ (joinE ps ≠ 0 → JW = 0 ∧ JV = 0) := by
    by_cases hj : joinE ps = 0
    · refine ⟨sumW ps, jv ps, fun w A cap hl => ?_, fun _ w hl => Join_c A cap ps w hl hj, fun hn => absurd hj hn⟩
      have := Joined_c A cap ps w hl hj
      rw [hj]; exact this
    · exact ⟨0, 0, fun w A cap hl => Joined_bad A cap ps _ w hl h18' hj (Lib.hid rfl), fun hn => absurd hn hj, fun _ => ⟨rfl, rfl⟩⟩
  obtain ⟨JW, JV, kJ, vJ, zJ⟩ := hJ
  refine BitsFields_main hawake aw av x0 x1 bw bv FW FV SW SV JW JV _ _ _ A cap ps w (Lib.hid kF) (Lib.hid kS) (Lib.hid fun w => FieldErr_c aw av x0 x1 w) (Lib.hid fun w => SetErr_c aw av x0 bw bv w)
    (Lib.hid kJ) (Lib.hid fun w hl => JoinErr_c A cap ps w hl h18') (Lib.hid fun W hW => Copy_c A cap ps W (h.below hW) hA h18') (Lib.hid vF) (Lib.hid vS) (Lib.hid vJ) (Lib.hid zF) (Lib.hid zS) (Lib.hid zJ) hb h18' h (Lib.hid ?_)
  · intro hE hW
    obtain ⟨b1, b2, b3, b4⟩ := bErr_ok.1 hE
    have hw : 1 ≤ x0 ∧ x0 ≤ aw - 1 := by simpa [win] using hW
    have hp := pw_bd (n := aw) (by omega) b2
    have hpx : 0 < pw x0 := pw_pos x0
    have hpa : pw aw = pw (aw - x0) * pw x0 := by rw [← pw_add (by omega) (by omega)]; congr 1; omega
    have hm := md_bd av (m := pw x0) hpx
    have hd0 : 0 ≤ av / pw x0 := Int.ediv_nonneg b3 (by omega)
    have hd1 : av / pw x0 < pw (aw - x0) := Int.ediv_lt_of_lt_mul hpx (by omega)
    have hH : md (av / pw x0) (pw (aw - x0)) = av / pw x0 := Int.emod_eq_of_lt hd0 hd1
    have hL : md (av / 2 ^ (0 : Int).toNat) (pw x0) = md av (pw x0) := by
      have : av / 2 ^ (0 : Int).toNat = av := by simp
      rw [this]
    refine ⟨hw.1, hw.2, b2, md av (pw x0), av / pw x0, Lib.hid fun w => ?_, Lib.hid fun w => ?_, Lib.hid fun w g hg => ?_⟩
    · have := FieldOf_c aw av 0 x0 w b3 (by omega) (by omega) (by omega) (by omega) (Lib.hid (fdErr_ok.2 ⟨hE, spE_ok.2 ⟨⟨by omega, by omega, by omega, by omega⟩, by omega⟩⟩))
      rw [hL] at this
      exact this
    · have := FieldOf_c aw av x0 (aw - x0) w b3 (by omega) (by omega) (by omega) (by omega) (Lib.hid (fdErr_ok.2 ⟨hE, spE_ok.2 ⟨⟨by omega, by omega, by omega, by omega⟩, by omega⟩⟩))
      have e : md (av / 2 ^ x0.toNat) (pw (aw - x0)) = av / pw x0 := hH
      rw [e] at this
      exact this
    · have e1 : bErr (aw - x0) (av / pw x0) = 0 := bErr_ok.2 ⟨by omega, by omega, hd0, hd1⟩
      have e2 : bErr x0 (md av (pw x0)) = 0 := bErr_ok.2 ⟨by omega, by omega, hm.1, hm.2⟩
      have e3 : joinE [(aw - x0, av / pw x0), (x0, md av (pw x0))] = 0 := by
        have s : sumW [(aw - x0, av / pw x0), (x0, md av (pw x0))] = aw := by simp only [sumW]; omega
        have l : listE (([(aw - x0, av / pw x0), (x0, md av (pw x0))] : List (Int × Int)).length : Nat) = 0 := rfl
        have r : errs [(aw - x0, av / pw x0), (x0, md av (pw x0))] = 0 := by simp [errs, firstE, e1, e2]
        unfold joinE
        rw [if_pos l, if_pos r, s, eIf_zero (by decide)]
        simp; omega
      have hc := Joined_c (some ⟨g, 0, none⟩) 2 [(aw - x0, av / pw x0), (x0, md av (pw x0))] w (lies_two hg) e3
      have s : sumW [(aw - x0, av / pw x0), (x0, md av (pw x0))] = aw := by simp only [sumW]; omega
      have j : jv [(aw - x0, av / pw x0), (x0, md av (pw x0))] = av := by
        have e := Int.mul_ediv_add_emod av (pw x0)
        show (0 * pw (aw - x0) + av / pw x0) * pw x0 + md av (pw x0) = av
        rw [Int.zero_mul, Int.zero_add, Int.mul_comm]
        exact e
      rw [s, j] at hc
      exact hc

end Go.Proofs.Ytlplphigjejahaa
