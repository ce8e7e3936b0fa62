/-
  The law BitsCounts, every input.
-/
import Derived.Test.YtlplphigjejahaaBJ
set_option linter.unusedSimpArgs false
set_option linter.unusedVariables false
namespace Go.Proofs.Ytlplphigjejahaa
open Go.RowKit Go.BigFrame

theorem counts_pair (aw av : Int) : ∃ c0 c1 c2 c3 IV ie : Int, (∀ w, Calls Try.prog 39 #[.agg #[.int .i64 aw, .int .i64 av]] w fun e w' => e = .returned (.tuple #[.agg #[.int .i64 c0, .int .i64 c1, .int .i64 c2, .int .i64 c3], .int .i64 (bErr aw av)]) ∧ ∃ x : Aft w, w' = x.val) ∧ (∀ w, Calls Try.prog 41 #[.agg #[.int .i64 aw, .int .i64 av]] w fun e w' => e = .returned (.tuple #[.int .i64 IV, .int .i64 ie]) ∧ ∃ x : Aft w, w' = x.val) ∧ (∀ w, Calls Try.prog 46 #[.agg #[.int .i64 aw, .int .i64 av]] w fun e w' => e = .returned (.int .i64 ie) ∧ ∃ x : Aft w, w' = x.val) ∧ (bErr aw av = 0 → Hid (∀ w, Calls Try.prog 44 #[.agg #[.int .i64 aw, .int .i64 av]] w fun e w' => e = .returned (.agg #[.int .i64 c0, .int .i64 c1, .int .i64 c2, .int .i64 c3]) ∧ ∃ x : Aft w, w' = x.val)) ∧ (bErr aw av ≠ 0 → c0 = 0 ∧ c1 = 0 ∧ c2 = 0 ∧ c3 = 0) ∧ (ie = 0 → IV = c2 ∧ Hid (∀ w, Calls Try.prog 44 #[.agg #[.int .i64 aw, .int .i64 av]] w fun e w' => e = .returned (.agg #[.int .i64 c0, .int .i64 c1, .int .i64 c2, .int .i64 c3]) ∧ ∃ x : Aft w, w' = x.val)) ∧ (ie ≠ 0 → IV = 0) := by
  by_cases h : bErr aw av = 0
  · obtain ⟨b1, b2, b3, b4⟩ := bErr_ok.1 h
    obtain ⟨n, rfl⟩ := Int.eq_ofNat_of_zero_le (show 0 ≤ aw by omega)
    have hp := pw_bd (n := (n : Int)) (by omega) b2
    have hc : Hid (∀ w, Calls Try.prog 44 #[.agg #[.int .i64 n, .int .i64 av]] w fun e w' => e = .returned (.agg #[.int .i64 (cst n av n).2.2, .int .i64 ((n : Int) - 1 - (cst n av n).2.1), .int .i64 (cst n av n).1, .int .i64 ((cst n av n).2.2 % 2)]) ∧ ∃ x : Aft w, w' = x.val) :=
      Lib.hid fun w => Counts_c n av w (by omega) (by omega) b3 (by omega)
    by_cases ho : (cst n av n).2.2 = 1
    · refine ⟨_, _, _, _, (cst n av n).1, 0, fun w => ?_, fun w => ?_, fun w => ?_, fun _ => hc, fun hn => absurd h hn, fun _ => ⟨rfl, hc⟩, fun hn => absurd rfl hn⟩
      · have := CountsOf_c n av w (by omega) (by omega) (Lib.hid h)
        rw [h]; exact this
      · exact IndexOf_c n av w (by omega) (by omega) (Lib.hid h) ho
      · have := IndexErr_c n av w (by omega) (by omega) b3 (by omega) (Lib.hid h)
        rw [ho] at this
        exact this
    · refine ⟨_, _, _, _, 0, 3, fun w => ?_, fun w => ?_, fun w => ?_, fun _ => hc, fun hn => absurd h hn, fun hn => absurd hn (by decide), fun _ => rfl⟩
      · have := CountsOf_c n av w (by omega) (by omega) (Lib.hid h)
        rw [h]; exact this
      · exact IndexOf_none n av w (by omega) (by omega) (Lib.hid h) ho
      · have := IndexErr_c n av w (by omega) (by omega) b3 (by omega) (Lib.hid h)
        have e : ((cst n av n).2.2 != 1) = true := by simpa using ho
        rw [e] at this
        exact this
  · exact ⟨0, 0, 0, 0, 0, bErr aw av, fun w => CountsOf_bad aw av _ w h (Lib.hid rfl), fun w => IndexOf_bad aw av _ w h (Lib.hid rfl), fun w => IndexErr_bad aw av _ w h (Lib.hid rfl), fun hn => absurd hn h, fun _ => ⟨rfl, rfl, rfl, rfl⟩, fun hn => absurd hn h, fun _ => rfl⟩
theorem hot_pair (x0 x1 : Int) : ∃ OW OV : Int, (∀ w, Calls Try.prog 40 #[.int .i64 x0, .int .i64 x1] w fun e w' => e = .returned (.tuple #[.agg #[.int .i64 OW, .int .i64 OV], .int .i64 (hotE x0 x1)]) ∧ ∃ x : Aft w, w' = x.val) ∧ (hotE x0 x1 = 0 → 0 ≤ x0 ∧ x0 ≤ 15 ∧ Hid (∀ w, Calls Try.prog 19 #[.int .i64 x1, .int .i64 (pw x0)] w fun e w' => e = .returned (.agg #[.int .i64 OW, .int .i64 OV]) ∧ ∃ x : Aft w, w' = x.val)) ∧ (hotE x0 x1 ≠ 0 → OW = 0 ∧ OV = 0) := by
  by_cases h : hotE x0 x1 = 0
  · obtain ⟨⟨a1, a2⟩, a3, a4⟩ := hotE_ok.1 h
    refine ⟨x1, pw x0, fun w => ?_, fun _ => ⟨a3, by omega, Lib.hid fun w => of_c _ _ w⟩, fun hn => absurd h hn⟩
    have := OneHot_c x0 x1 w a1 a2 a3 a4
    rw [h]; exact this
  · exact ⟨0, 0, fun w => OneHot_bad x0 x1 _ w h (Lib.hid rfl), fun hn => absurd hn h, fun _ => ⟨rfl, rfl⟩⟩
theorem perm_pair (aw av : Int) (A : Option Addr) (cap : Nat) (ns : List Int) (h18 : ns.length ≤ 18) (hwf : ∀ x ∈ ns, (Lit.int .i64 x).wf = true) : ∃ PW PV : Int, (∀ (w : World) (A : Option Addr) (cap : Nat), LiesI w A ns → Calls Try.prog 42 #[.agg #[.int .i64 aw, .int .i64 av], .slice A ns.length cap] w fun e w' => e = .returned (.tuple #[.agg #[.int .i64 PW, .int .i64 PV], .int .i64 (permE aw av ns)]) ∧ ∃ x : Aft w, w' = x.val) ∧ (permE aw av ns = 0 → ∀ w : World, LiesI w A ns → Calls Try.prog 48 #[.agg #[.int .i64 aw, .int .i64 av], .slice A ns.length cap] w fun e w' => e = .returned (.agg #[.int .i64 PW, .int .i64 PV]) ∧ ∃ x : Aft w, w' = x.val) ∧ (permE aw av ns ≠ 0 → PW = 0 ∧ PV = 0) := by
  by_cases h : permE aw av ns = 0
  · obtain ⟨h1, h2, h3⟩ := permE_ok h
    obtain ⟨b1, b2, b3, b4⟩ := bErr_ok.1 h1
    obtain ⟨n, rfl⟩ := Int.eq_ofNat_of_zero_le (show 0 ≤ aw by omega)
    have hp := pw_bd (n := (n : Int)) (by omega) b2
    refine ⟨n, bw (fun i => bitI n av (nth ns i)) n, fun w A cap hl => ?_, fun _ w hl => Permute_c A cap ns n av w hl (by omega) h3 (by omega) (by omega) b3 (by omega), fun hn => absurd h hn⟩
    have := Permuted_c A cap ns n av w hl h18 hwf (by omega) (by omega) h
    rw [h]; exact this
  · exact ⟨0, 0, fun w A cap hl => Permuted_bad A cap ns aw av _ w hl h18 hwf h rfl, fun hn => absurd hn h, fun _ => ⟨rfl, rfl⟩⟩
set_option maxRecDepth 20000 in
set_option maxHeartbeats 800000 in
theorem BitsCounts_long (hawake : ∀ w, Calls Try.prog 11 #[] w fun e w' => e = .returned (.bool true) ∧ ∃ x : Aft w, w' = x.val) (aw av x0 x1 : Int) (A : Option Addr) (n cap : Nat) (w : World) (hn : 18 < n) :
    Calls Try.prog 8 #[.agg #[.int .i64 aw, .int .i64 av], .agg #[.int .i64 x0, .int .i64 x1], .slice A n cap] w fun e w' => e = .returned (.bool true) ∧ ∃ x : Aft w, w' = x.val := by
  have hz18 : decide (18 < (n : Int)) = true := by simp; omega
  go_enter Try.func8, Try.ntmps8
  go_wp2_with fail
  refine (hawake _).mono ?_
  rintro e w' ⟨rfl, xa, rfl⟩
  go_wp2
  go_ret
  exact ⟨rfl, Below.aft (by (repeat' (first | (with_reducible exact Below.refl _ _) | (with_reducible assumption) | (with_reducible exact Aft.pf _) | (with_reducible refine Below.alloc ?_ ?_ _) | (with_reducible refine Below.drew ?_) | (with_reducible refine Aft.below _ ?_ ?_) | (with_reducible refine Below.setCell_new ?_ ?_ _ _) | (with_reducible exact Nat.le_refl _) | (with_reducible refine Aft.le _ ?_) | (with_reducible refine le_alloc ?_) | (with_reducible refine le_drew ?_) | (with_reducible refine le_setCell ?_) | omega)))⟩
theorem BitsCounts_all (hawake : ∀ w, Calls Try.prog 11 #[] w fun e w' => e = .returned (.bool true) ∧ ∃ x : Aft w, w' = x.val) (aw av x0 x1 : Int) (A : Option Addr) (cap : Nat) (ns : List Int) (w : World) (h : LiesI w A ns) (hA : ns.length = 0 → A = none ∧ cap = 0 ∨ ∃ ad, A = some ad) (hcap : ns.length ≤ cap) (hwf : ∀ x ∈ ns, (Lit.int .i64 x).wf = true) :
    Calls Try.prog 8 #[.agg #[.int .i64 aw, .int .i64 av], .agg #[.int .i64 x0, .int .i64 x1], .slice A ns.length cap] w fun e w' => e = .returned (.bool true) ∧ ∃ x : Aft w, w' = x.val := by
  by_cases h18 : 18 < ns.length
  · exact BitsCounts_long hawake aw av x0 x1 A ns.length cap w h18
  have h18' : ns.length ≤ 18 := by omega
  obtain ⟨c0, c1, c2, c3, IV, ie, kC, kI, rI, vC, zC, vI, zI⟩ := counts_pair aw av
  obtain ⟨OW, OV, kO, vO, zO⟩ := hot_pair x0 x1
  obtain ⟨PW, PV, kP, vP, zP⟩ := perm_pair aw av A cap ns h18' hwf
  exact BitsCounts_main hawake aw av x0 x1 c0 c1 c2 c3 _ OW OV _ IV ie PW PV _ A cap ns w (Lib.hid kC) (Lib.hid kO) (Lib.hid kI) (Lib.hid fun w => BitsErr_c aw av w) (Lib.hid rI) (Lib.hid fun w => HotErr_c x0 x1 w)
    (Lib.hid fun W hW => CopyIntsI_c A cap ns W (h.below hW) hA h18') (Lib.hid kP) (Lib.hid fun w hl => OrderErr_c A cap ns aw av w hl h18' hcap) (Lib.hid vC) (Lib.hid zC) (Lib.hid vO) (Lib.hid zO) (Lib.hid vI) (Lib.hid zI) (Lib.hid vP) (Lib.hid zP) h18' h
end Go.Proofs.Ytlplphigjejahaa
