/-
  Contracts of the reference of chapter 1: the value of a string, its loop (built for the door seat only).
-/
import Derived.Test.YtlplphigjejahaaDoorSu
set_option linter.unusedSimpArgs false
set_option linter.unusedVariables false
namespace Go.Proofs.YtlplphigjejahaaDoor
open Go.RowKit Go.BigFrame


set_option maxRecDepth 100000 in
set_option maxHeartbeats 6400000 in
theorem rparse_ok1 (s : ByteArray) (hs : s.size ≤ 60) (hc : s.data.toList.count 39 = 1) (h2 : 2 ≤ (aftS s).size) (hch : (aftS s)[0].toNat = 100) (hb : (nmB 2 (befL s.data.toList) && decide (0 ≤ nmV 2 (befL s.data.toList))) = true) (w : World) : Calls Tryd.prog 7 #[.string s] w fun e w' => e = .returned (.tuple #[.agg #[.int .i64 (parW s.data.toList), .int .i64 (parV s.data.toList)], .int .i64 (parE s.data.toList)]) ∧ ∃ x : Aft w, w' = x.val := by
  have hs' : ¬ (60000 : Int) < s.size := by omega
  have HC := Lib.hid (fun w => Cut39_c s (by omega) w)
  have hhs := hs
  have hac := aft_cons s (by omega)
  have hlit := lit_yes (l := s.data.toList) (b := 10) hac (by rw [hch]; rfl) (by decide) hb
  have HL := Lib.hid hlit
  have hv := cut_vals s hc
  have hNum : ∀ w, Calls Tryd.prog 25 #[.string (befS s), .int .i64 2] w fun e w' => e = .returned (.tuple #[.int .i64 (nmV 2 (befL s.data.toList)), .bool (nmB 2 (befL s.data.toList))]) ∧ w = w' := fun w => Number_c (befS s) 2 (by decide) (by have := befS_size s; omega) w
  have HN := Lib.hid hNum
  clear hNum
  have k0 : (((aftS s)[0].toNat : Int) == 98) = false := by rw [beq_eq_false_iff_ne]; omega
  have k1 : (((aftS s)[0].toNat : Int) == 100) = true := by rw [beq_iff_eq]; omega
  clear hch hc hlit hac
  clear hs
  go_enter Tryd.func7, Tryd.ntmps7
  go_wp2_with fail
  refine (HC.out _).mono ?_
  rintro e W1 ⟨v, rfl, hown, hb⟩
  have s0 : w.heap.size < W1.heap.size := by have := hb.size; simp at this; omega
  have rr : W1.heap[w.heap.size]? = some (.cells #[.int .i64 0, .int .i64 0] 23) := by rw [hb.block _ (by simp)]; exact heap_alloc_new _ _
  have q0 := cell_block (i := 0) rr
  have q1 := cell_block (i := 1) rr
  have f0 := free_block (i := 0) rr
  have f1 := free_block (i := 1) rr
  simp at q0 q1
  have hbw : Below w.heap.size w W1 := ((Below.refl _ _).alloc (Nat.le_refl _) _).trans (hb.mono (by simp))
  rw [hv.1, hv.2] at hown
  obtain ⟨g, cap, rfl, hg1, hg2⟩ := hown.form (by omega)
  have c0 : W1.cell? ⟨g, 0, none⟩ = some (.string (befS s)) := by
    have := hown.cells (g := g) rfl 0 _ rfl
    rwa [Addr.add_lit, Nat.zero_add] at this
  have c1 : W1.cell? ⟨g, 1, none⟩ = some (.string (aftS s)) := by
    have := hown.cells (g := g) rfl 1 _ rfl
    rwa [Addr.add_lit, Nat.zero_add] at this
  have RR := Lib.hid rr
  clear hown hb rr hv
  have h2i : ¬ ((aftS s).size : Int) < 2 := by omega
  have h2j : (0 : Int) < (aftS s).size := by omega
  have h2k : (1 : Int) ≤ (aftS s).size := by omega
  rw [Bool.and_eq_true, decide_eq_true_eq] at hb
  obtain ⟨hok, hnn⟩ := hb
  rw [hok] at HN
  clear hok
  have hT1 : 1 ≤ ((aftS s).extract 1 (aftS s).size).size := by simp; omega
  have hT2 : ((aftS s).extract 1 (aftS s).size).size ≤ 60 := by have := aftS_size s; simp; omega
  have ee := ex1 (aftS s) (by omega)
  rw [aftS_list] at ee
  have HLW := Lib.hid HL.out.1
  have HLV := Lib.hid (show litV s.data.toList = numV 10 ((aftS s).extract 1 (aftS s).size).data.toList by rw [ee]; exact HL.out.2.1)
  have HLB := Lib.hid (show litB s.data.toList = numB 10 ((aftS s).extract 1 (aftS s).size).data.toList by rw [ee]; exact HL.out.2.2)
  clear ee HL
  generalize nmV 2 (befL s.data.toList) = nv at *
  go_wp2_with (go_at_call 25; ((with_reducible refine (HN.out _).mono ?_); rintro e w' ⟨rfl, rfl⟩))
  generalize (aftS s).extract 1 (aftS s).size = T at *
  go_loop [10, 11, 12] (fun vc vv vi => ∃ (k : Nat) (tn : Num) (r : Int), k ≤ T.size ∧ vi = .int .i64 k ∧ vc = .int .i64 tn.n ∧ vv = .int .i64 r ∧ numRun 10 (T.data.toList.take k) = some tn ∧ min r 65536 = tn.v ∧ 0 ≤ r ∧ r ≤ 1099511627776 ∧ 0 ≤ tn.n ∧ tn.n ≤ k ∧ (tn.a = true ∨ k < T.size) ∧ (tn.a = true → 0 < k ∧ ∀ h : k - 1 < T.size, ¬ (T[k - 1]).toNat = 95) ∧ (tn.a = false → k = 0 ∨ ∀ h : k - 1 < T.size, (T[k - 1]).toNat = 95)) (fun _ _ vi => T.size - (intOf vi).toNat)
  case atStart => exact ⟨0, ⟨0, 0, false⟩, 0, by omega, rfl, rfl, rfl, rfl, rfl, by decide, by decide, by decide, by decide, Or.inr (by omega), (fun h => by cases h), fun _ => Or.inl rfl⟩
  case round =>
    obtain ⟨k, ⟨v, n, a⟩, r, hk, rfl, rfl, rfl, hr, hv, b1, b2, b3, b4, hla, hpa, hpb⟩ := hrel
    simp only at hr hv b3 b4 hla hpa hpb
    have Hr := Lib.hid hr
    have Hv := Lib.hid hv
    clear hr hv
    clear k0 k1 HN c0 c1
    by_cases hlt : k < T.size
    · have hsn := run_snoc 10 T k hlt
      rw [Hr.out] at hsn
      have hc1 : T[k].toNat ≤ 255 := by have := T[k].toNat_lt; omega
      have HD := Lib.hid (fun w => rdigit_c (T[k].toNat : Int) (by omega) (by omega) w)
      have hd15 := digI_bd (T[k].toNat : Int)
      by_cases h95 : T[k].toNat = 95
      · have hq : ((T[k].toNat : Int) == 95) = true := by rw [beq_iff_eq]; omega
        have hdm : digI (T[k].toNat : Int) = -1 := by rw [h95]; rfl
        cases a
        case true =>
          obtain ⟨hk0, hpv⟩ := hpa rfl
          obtain ⟨p, rfl⟩ : ∃ p, k = p + 1 := ⟨k - 1, by omega⟩
          have hpl : p < T.size := by omega
          have hpv' := hpv hpl
          have hq1 : ((T[p].toNat : Int) != 95) = true := by
            simp only [Nat.add_sub_cancel] at hpv'
            rw [bne_iff_ne]; omega
          have Hs := Lib.hid (hsn.trans (run_us_yes h95 rfl))
          clear hsn hpa hpb hpv hpv' hla hk0
          by_cases hk1 : p + 1 + 1 < T.size
          · have hk1i : (p : Int) + 1 + 1 < T.size := by omega
            have Hp95 := Lib.hid h95
            clear h95 hdm HD
            go_wp2
            go_round
            case rel => exact ⟨p + 1 + 1, ⟨v, n, false⟩, r, by omega, by go_num, rfl, rfl, Hs.out, Hv.out, b1, b2, b3, by simp only; omega, Or.inr hk1, (fun h => by cases h), fun _ => Or.inr (fun _ => Hp95.out)⟩
            case measure => simp [intOf]; omega
          · have hk1i : ¬ (p : Int) + 1 + 1 < T.size := by omega
            have HB := Lib.hid (by have h := Hs.out; rw [take_all T _ (by omega)] at h; exact (numB_some h).1)
            have HWn := Lib.hid (win_no (hi := 9) (Or.inl (show digI (T[p + 1].toNat : Int) < 0 by omega)))
            generalize digI (T[p + 1].toNat : Int) = d at *
            clear h95 hdm
            have HX := Lib.hid (par_bad (by rw [HLB.out]; exact HB.out))
            go_wp2_with (first | (go_at_call 26; ((with_reducible refine (HD.out _).mono ?_); rintro e w' ⟨rfl, rfl⟩)) | (go_at_call 27; refine (Within_c _ _ _ _).mono ?_; rw [HWn.out]; rintro e w' ⟨rfl, rfl⟩))
            refine bodyPost_ret (by simp [results, Tryd.results7, go_sem, q0, q1]; try rfl) rfl ?_
            exact ⟨tupE HX.out.1.symm HX.out.2.1.symm HX.out.2.2.symm, Below.aft (by (repeat' (first | (with_reducible exact Below.refl _ _) | (with_reducible assumption) | (with_reducible assumption) | (with_reducible exact Aft.pf _) | (with_reducible refine Below.alloc ?_ ?_ _) | (with_reducible refine Below.drew ?_) | (with_reducible refine Aft.below _ ?_ ?_) | (with_reducible refine Below.setCell_new ?_ ?_ _ _) | (with_reducible exact Nat.le_refl _) | (with_reducible refine Aft.le _ ?_) | (with_reducible refine le_alloc ?_) | (with_reducible refine le_drew ?_) | (with_reducible refine le_setCell ?_) | omega)))⟩

        case false =>
          have HB := Lib.hid (numB_none (run_stop 10 T (k + 1) (hsn.trans (run_us_no h95 rfl))))
          have HWn := Lib.hid (win_no (hi := 9) (Or.inl (show digI (T[k].toNat : Int) < 0 by omega)))
          generalize digI (T[k].toNat : Int) = d at *
          clear hsn hpa h95 hdm hla
          by_cases hk0 : k = 0
          · subst hk0
            clear hpb
            have HX := Lib.hid (par_bad (by rw [HLB.out]; exact HB.out))
            go_wp2_with (first | (go_at_call 26; ((with_reducible refine (HD.out _).mono ?_); rintro e w' ⟨rfl, rfl⟩)) | (go_at_call 27; refine (Within_c _ _ _ _).mono ?_; rw [HWn.out]; rintro e w' ⟨rfl, rfl⟩))
            refine bodyPost_ret (by simp [results, Tryd.results7, go_sem, q0, q1]; try rfl) rfl ?_
            exact ⟨tupE HX.out.1.symm HX.out.2.1.symm HX.out.2.2.symm, Below.aft (by (repeat' (first | (with_reducible exact Below.refl _ _) | (with_reducible assumption) | (with_reducible assumption) | (with_reducible exact Aft.pf _) | (with_reducible refine Below.alloc ?_ ?_ _) | (with_reducible refine Below.drew ?_) | (with_reducible refine Aft.below _ ?_ ?_) | (with_reducible refine Below.setCell_new ?_ ?_ _ _) | (with_reducible exact Nat.le_refl _) | (with_reducible refine Aft.le _ ?_) | (with_reducible refine le_alloc ?_) | (with_reducible refine le_drew ?_) | (with_reducible refine le_setCell ?_) | omega)))⟩

          · have hpv := (hpb rfl).resolve_left hk0
            obtain ⟨p, rfl⟩ : ∃ p, k = p + 1 := ⟨k - 1, by omega⟩
            have hpl : p < T.size := by omega
            have hpv' := hpv hpl
            have hq1 : ((T[p].toNat : Int) != 95) = false := by
              simp only [Nat.add_sub_cancel] at hpv'
              simp [hpv']
            clear hpb hpv hpv' hk0
            by_cases hk1 : p + 1 + 1 < T.size
            · have hk1i : (p : Int) + 1 + 1 < T.size := by omega
              have HX := Lib.hid (par_bad (by rw [HLB.out]; exact HB.out))
              go_wp2_with (first | (go_at_call 26; ((with_reducible refine (HD.out _).mono ?_); rintro e w' ⟨rfl, rfl⟩)) | (go_at_call 27; refine (Within_c _ _ _ _).mono ?_; rw [HWn.out]; rintro e w' ⟨rfl, rfl⟩))
              refine bodyPost_ret (by simp [results, Tryd.results7, go_sem, q0, q1]; try rfl) rfl ?_
              exact ⟨tupE HX.out.1.symm HX.out.2.1.symm HX.out.2.2.symm, Below.aft (by (repeat' (first | (with_reducible exact Below.refl _ _) | (with_reducible assumption) | (with_reducible assumption) | (with_reducible exact Aft.pf _) | (with_reducible refine Below.alloc ?_ ?_ _) | (with_reducible refine Below.drew ?_) | (with_reducible refine Aft.below _ ?_ ?_) | (with_reducible refine Below.setCell_new ?_ ?_ _ _) | (with_reducible exact Nat.le_refl _) | (with_reducible refine Aft.le _ ?_) | (with_reducible refine le_alloc ?_) | (with_reducible refine le_drew ?_) | (with_reducible refine le_setCell ?_) | omega)))⟩

            · have hk1i : ¬ (p : Int) + 1 + 1 < T.size := by omega
              have HX := Lib.hid (par_bad (by rw [HLB.out]; exact HB.out))
              go_wp2_with (first | (go_at_call 26; ((with_reducible refine (HD.out _).mono ?_); rintro e w' ⟨rfl, rfl⟩)) | (go_at_call 27; refine (Within_c _ _ _ _).mono ?_; rw [HWn.out]; rintro e w' ⟨rfl, rfl⟩))
              refine bodyPost_ret (by simp [results, Tryd.results7, go_sem, q0, q1]; try rfl) rfl ?_
              exact ⟨tupE HX.out.1.symm HX.out.2.1.symm HX.out.2.2.symm, Below.aft (by (repeat' (first | (with_reducible exact Below.refl _ _) | (with_reducible assumption) | (with_reducible assumption) | (with_reducible exact Aft.pf _) | (with_reducible refine Below.alloc ?_ ?_ _) | (with_reducible refine Below.drew ?_) | (with_reducible refine Aft.below _ ?_ ?_) | (with_reducible refine Below.setCell_new ?_ ?_ _ _) | (with_reducible exact Nat.le_refl _) | (with_reducible refine Aft.le _ ?_) | (with_reducible refine le_alloc ?_) | (with_reducible refine le_drew ?_) | (with_reducible refine le_setCell ?_) | omega)))⟩

      · have hq : ((T[k].toNat : Int) == 95) = false := by rw [beq_eq_false_iff_ne]; omega
        by_cases hd : digI (T[k].toNat : Int) < 0 ∨ 10 ≤ digI (T[k].toNat : Int)
        · have HB := Lib.hid (numB_none (run_stop 10 T (k + 1) (hsn.trans (run_bad h95 hd))))
          have HWn := Lib.hid (win_no (d := digI (T[k].toNat : Int)) (hi := 9) (by omega))
          generalize digI (T[k].toNat : Int) = d at *
          clear hsn hpa hpb hla hd h95
          have HX := Lib.hid (par_bad (by rw [HLB.out]; exact HB.out))
          go_wp2_with (first | (go_at_call 26; ((with_reducible refine (HD.out _).mono ?_); rintro e w' ⟨rfl, rfl⟩)) | (go_at_call 27; refine (Within_c _ _ _ _).mono ?_; rw [HWn.out]; rintro e w' ⟨rfl, rfl⟩))
          refine bodyPost_ret (by simp [results, Tryd.results7, go_sem, q0, q1]; try rfl) rfl ?_
          exact ⟨tupE HX.out.1.symm HX.out.2.1.symm HX.out.2.2.symm, Below.aft (by (repeat' (first | (with_reducible exact Below.refl _ _) | (with_reducible assumption) | (with_reducible assumption) | (with_reducible exact Aft.pf _) | (with_reducible refine Below.alloc ?_ ?_ _) | (with_reducible refine Below.drew ?_) | (with_reducible refine Aft.below _ ?_ ?_) | (with_reducible refine Below.setCell_new ?_ ?_ _ _) | (with_reducible exact Nat.le_refl _) | (with_reducible refine Aft.le _ ?_) | (with_reducible refine le_alloc ?_) | (with_reducible refine le_drew ?_) | (with_reducible refine le_setCell ?_) | omega)))⟩

        · have Hs := Lib.hid (hsn.trans (run_ok h95 hd))
          have HWn := Lib.hid (win_yes (d := digI (T[k].toNat : Int)) (hi := 9) (by omega) (by omega))
          have Hp95 := Lib.hid h95
          have Hl := Lib.hid (lim_step (b := 10) (r := r) (d := digI (T[k].toNat : Int)) (v := v) (by decide) Hv.out b1 b2 (by omega) (by omega))
          generalize digI (T[k].toNat : Int) = d at *
          clear hsn hpa hpb hla h95
          have hd0 : 0 ≤ d := by omega
          have hdb : d ≤ 15 := by omega
          have hr40 : r * 10 + d ≤ 17592186044431 := by omega
          have hr0 : 0 ≤ r * 10 + d := by omega
          clear hd hd15
          go_wp2_with (first | (go_at_call 26; ((with_reducible refine (HD.out _).mono ?_); rintro e w' ⟨rfl, rfl⟩)) | (go_at_call 27; refine (Within_c _ _ _ _).mono ?_; rw [HWn.out]; rintro e w' ⟨rfl, rfl⟩))
          have hmn : min (r * 10 + d) 1099511627776 = if 1099511627776 < r * 10 + d then 1099511627776 else r * 10 + d := by rw [Int.min_def]; split <;> split <;> omega
          go_round
          case rel => exact ⟨k + 1, ⟨min (v * 10 + d) 65536, n + 1, true⟩, min (r * 10 + d) 1099511627776, by omega, by go_num, rfl, (by first | rfl | rw [hmn]), Hs.out, Hl.out.1, Hl.out.2.1, Hl.out.2.2, by simp only; omega, by simp only; omega, Or.inl rfl, (fun _ => ⟨by omega, fun _ => Hp95.out⟩), fun h => by cases h⟩
          case measure => simp [intOf]; omega
    · obtain rfl : k = T.size := by omega
      have ha : a = true := hla.resolve_right (by omega)
      subst ha
      have HB := Lib.hid (by have h := Hr.out; rw [take_all T _ (Nat.le_refl _)] at h; exact numB_some h)
      clear hla hpa hpb
      by_cases h20 : n ≤ 20
      · have h20i : ¬ 20 < n := by omega
        have HBt := Lib.hid (show litB s.data.toList = true by rw [HLB.out, HB.out.1, decide_eq_true h20]; rfl)
        have HP := Lib.hid (par_yes HLW.out (HLV.out.trans HB.out.2) HBt.out)
        have he := bErr_min (w := nv) Hv.out b1
        have Hbe := Lib.hid (BitsErr_c nv r)
        by_cases h0 : bErr nv v = 0
        · have hrv : r = v := by have := (bErr_zero (he.trans h0)); have := Hv.out; have := pw_bd (n := nv) (by omega) (by omega); omega
          have HX := Lib.hid (show parW s.data.toList = nv ∧ parV s.data.toList = r ∧ parE s.data.toList = 0 from ⟨(HP.out.2.1 h0).1, by rw [(HP.out.2.1 h0).2, hrv], by rw [HP.out.1, h0]⟩)
          have HE := Lib.hid (fun w => by have h := Hbe.out w; rw [he, h0] at h; exact h)
          clear he h0 hrv Hbe
          go_wp2_with fail
          refine (HE.out _).mono ?_
          rintro e W2 ⟨rfl, y, hW⟩
          have r1 : W2.heap[w.heap.size]? = some (.cells #[.int .i64 0, .int .i64 0] 23) := by rw [hW]; exact heap_aft y (lt_alloc s0) (heap_alloc' s0 RR.out)
          have r2 : W2.heap[W1.heap.size]? = some (.cells #[.int .i64 nv, .int .i64 r] 23) := by rw [hW]; exact heap_aft y (by simp) (heap_alloc_new _ _)
          have u0 := cell_block (i := 0) r1
          have u1 := cell_block (i := 1) r1
          have u2 := free_block (i := 0) r1
          have u3 := free_block (i := 1) r1
          have u4 := cell_block (i := 0) r2
          have u5 := cell_block (i := 1) r2
          simp at u0 u1 u4 u5
          have s2 : w.heap.size < W2.heap.size := by rw [hW]; exact y.lt' (lt_alloc s0)
          have hb2 : Below w.heap.size w W2 := by rw [hW]; (repeat' (first | (with_reducible exact Below.refl _ _) | (with_reducible assumption) | (with_reducible assumption) | (with_reducible exact Aft.pf _) | (with_reducible refine Below.alloc ?_ ?_ _) | (with_reducible refine Below.drew ?_) | (with_reducible refine Aft.below _ ?_ ?_) | (with_reducible refine Below.setCell_new ?_ ?_ _ _) | (with_reducible exact Nat.le_refl _) | (with_reducible refine Aft.le _ ?_) | (with_reducible refine le_alloc ?_) | (with_reducible refine le_drew ?_) | (with_reducible refine le_setCell ?_) | omega))
          clear hW r1 r2 q0 q1 f0 f1
          go_wp2
          refine bodyPost_ret (by simp [results, Tryd.results7, go_sem, u0, u1]; try rfl) rfl ?_
          exact ⟨tupE HX.out.1.symm HX.out.2.1.symm HX.out.2.2.symm, Below.aft (by (repeat' (first | (with_reducible exact Below.refl _ _) | (with_reducible assumption) | (with_reducible assumption) | (with_reducible exact Aft.pf _) | (with_reducible refine Below.alloc ?_ ?_ _) | (with_reducible refine Below.drew ?_) | (with_reducible refine Aft.below _ ?_ ?_) | (with_reducible refine Below.setCell_new ?_ ?_ _ _) | (with_reducible exact Nat.le_refl _) | (with_reducible refine Aft.le _ ?_) | (with_reducible refine le_alloc ?_) | (with_reducible refine le_drew ?_) | (with_reducible refine le_setCell ?_) | omega)))⟩
        · have HX := Lib.hid (show parW s.data.toList = 0 ∧ parV s.data.toList = 0 ∧ parE s.data.toList = bErr nv v from ⟨(HP.out.2.2 h0).1, (HP.out.2.2 h0).2, HP.out.1⟩)
          have HE := Lib.hid (fun w => by have h := Hbe.out w; rw [he] at h; exact h)
          clear he Hbe HP
          generalize bErr nv v = er at *
          have hn1 : (er != 0) = true := by simpa using h0
          have hn2 : (er == 0) = false := by simpa using h0
          clear h0
          go_wp2_with fail
          refine (HE.out _).mono ?_
          rintro e W2 ⟨rfl, y, hW⟩
          have r1 : W2.heap[w.heap.size]? = some (.cells #[.int .i64 0, .int .i64 0] 23) := by rw [hW]; exact heap_aft y (lt_alloc s0) (heap_alloc' s0 RR.out)
          have r2 : W2.heap[W1.heap.size]? = some (.cells #[.int .i64 nv, .int .i64 r] 23) := by rw [hW]; exact heap_aft y (by simp) (heap_alloc_new _ _)
          have u0 := cell_block (i := 0) r1
          have u1 := cell_block (i := 1) r1
          have u2 := free_block (i := 0) r1
          have u3 := free_block (i := 1) r1
          have u4 := cell_block (i := 0) r2
          have u5 := cell_block (i := 1) r2
          simp at u0 u1 u4 u5
          have s2 : w.heap.size < W2.heap.size := by rw [hW]; exact y.lt' (lt_alloc s0)
          have hb2 : Below w.heap.size w W2 := by rw [hW]; (repeat' (first | (with_reducible exact Below.refl _ _) | (with_reducible assumption) | (with_reducible assumption) | (with_reducible exact Aft.pf _) | (with_reducible refine Below.alloc ?_ ?_ _) | (with_reducible refine Below.drew ?_) | (with_reducible refine Aft.below _ ?_ ?_) | (with_reducible refine Below.setCell_new ?_ ?_ _ _) | (with_reducible exact Nat.le_refl _) | (with_reducible refine Aft.le _ ?_) | (with_reducible refine le_alloc ?_) | (with_reducible refine le_drew ?_) | (with_reducible refine le_setCell ?_) | omega))
          clear hW r1 r2 q0 q1 f0 f1
          go_wp2
          refine bodyPost_ret (by simp [results, Tryd.results7, go_sem, u0, u1]; try rfl) rfl ?_
          exact ⟨tupE HX.out.1.symm HX.out.2.1.symm HX.out.2.2.symm, Below.aft (by (repeat' (first | (with_reducible exact Below.refl _ _) | (with_reducible assumption) | (with_reducible assumption) | (with_reducible exact Aft.pf _) | (with_reducible refine Below.alloc ?_ ?_ _) | (with_reducible refine Below.drew ?_) | (with_reducible refine Aft.below _ ?_ ?_) | (with_reducible refine Below.setCell_new ?_ ?_ _ _) | (with_reducible exact Nat.le_refl _) | (with_reducible refine Aft.le _ ?_) | (with_reducible refine le_alloc ?_) | (with_reducible refine le_drew ?_) | (with_reducible refine le_setCell ?_) | omega)))⟩
      · have h20i : 20 < n := by omega
        have HX := Lib.hid (par_bad (show litB s.data.toList = false by rw [HLB.out, HB.out.1, decide_eq_false h20]; rfl))
        go_wp2
        refine bodyPost_ret (by simp [results, Tryd.results7, go_sem, q0, q1]; try rfl) rfl ?_
        exact ⟨tupE HX.out.1.symm HX.out.2.1.symm HX.out.2.2.symm, Below.aft (by (repeat' (first | (with_reducible exact Below.refl _ _) | (with_reducible assumption) | (with_reducible assumption) | (with_reducible exact Aft.pf _) | (with_reducible refine Below.alloc ?_ ?_ _) | (with_reducible refine Below.drew ?_) | (with_reducible refine Aft.below _ ?_ ?_) | (with_reducible refine Below.setCell_new ?_ ?_ _ _) | (with_reducible exact Nat.le_refl _) | (with_reducible refine Aft.le _ ?_) | (with_reducible refine le_alloc ?_) | (with_reducible refine le_drew ?_) | (with_reducible refine le_setCell ?_) | omega)))⟩

end Go.Proofs.YtlplphigjejahaaDoor
