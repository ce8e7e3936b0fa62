/-
  Contracts of chapter 2 (graph): a number cut into values of leaves.
-/
import Derived.Test.YtkdonapgonegkaaDoorGF
set_option linter.unusedSimpArgs false
set_option linter.unusedVariables false
namespace Go.Proofs.YtkdonapgonegkaaDoor
open Go.RowKit Go.BigFrame

/-- The values of leaves, from the last one that is used on, cut off a number. -/
def triD (ls us : List Int) : Nat → List Int → Int → List Int
  | 0, row, _ => row
  | m + 1, row, num => triD ls us m (row.set (us.getD m 0).toNat (num % pw (ls.getD (us.getD m 0).toNat 0))) (num / pw (ls.getD (us.getD m 0).toNat 0))
def triL (ls us : List Int) (num : Int) : List Int := triD ls us us.length (List.replicate ls.length 0) num
theorem triD_len {ls us : List Int} : ∀ (m : Nat) (row : List Int) (num : Int), (triD ls us m row num).length = row.length := by
  intro m
  induction m with
  | zero => intro row num; rfl
  | succ m ih => intro row num; rw [triD, ih, List.length_set]
theorem triL_len (ls us : List Int) (num : Int) : (triL ls us num).length = ls.length := by unfold triL; rw [triD_len, List.length_replicate]
theorem triD_bd {ls us : List Int} (hw : ∀ x ∈ ls, isW x = true) : ∀ (m : Nat) (row : List Int) (num : Int), (∀ x ∈ row, 0 ≤ x ∧ x ≤ 65536) → ∀ x ∈ triD ls us m row num, 0 ≤ x ∧ x ≤ 65536 := by
  intro m
  induction m with
  | zero => intro row num h; exact h
  | succ m ih =>
    intro row num h
    rw [triD]
    refine ih _ _ fun x hx => ?_
    rcases List.mem_or_eq_of_mem_set hx with hx | rfl
    · exact h x hx
    · have hp : 1 ≤ pw (ls.getD (us.getD m 0).toNat 0) ∧ pw (ls.getD (us.getD m 0).toNat 0) ≤ 65536 := by
        generalize (us.getD m 0).toNat = i
        by_cases hi : i < ls.length
        · simp only [List.getD, List.getElem?_eq_getElem hi, Option.getD_some]
          have := isW_iff.1 (hw _ (List.getElem_mem hi))
          exact pw_bd (by omega) this.2
        · simp only [List.getD, List.getElem?_eq_none (Nat.le_of_not_lt hi), Option.getD_none]; decide
      have h1 := Int.emod_nonneg num (Int.ne_of_gt (pw_pos (ls.getD (us.getD m 0).toNat 0)))
      have h2 := Int.emod_lt_of_pos num (pw_pos (ls.getD (us.getD m 0).toNat 0))
      omega
theorem triL_bd {ls us : List Int} {num : Int} (hw : ∀ x ∈ ls, isW x = true) : ∀ x ∈ triL ls us num, 0 ≤ x ∧ x ≤ 65536 := by
  refine triD_bd hw _ _ _ fun x hx => ?_
  have := List.eq_of_mem_replicate hx; omega
def CopiedF (w : World) (ns : List Int) (e : Ending) (w' : World) : Prop := ∃ A' cap', e = .returned (.slice A' ns.length cap') ∧ LiesI w' A' ns ∧ (∀ ad, A' = some ad → w.heap.size ≤ ad.block) ∧ Below w.heap.size w w'
theorem maskM {n wd : Int} (h1 : 0 ≤ wd) (h2 : wd ≤ 16) : bits .and .i64 n (pw wd - 1) = n % pw wd := by
  obtain ⟨k, rfl⟩ := Int.eq_ofNat_of_zero_le h1
  exact and_mask _ k (by omega)

set_option maxRecDepth 100000 in
set_option maxHeartbeats 1600000 in
theorem trialOf_c (A : Option Addr) (cap : Nat) (ls : List Int) (hls : ls.length ≤ 65536) (hw : ∀ x ∈ ls, isW x = true) (U : Option Addr) (cu : Nat) (us : List Int) (hus : us.length ≤ 65536) (hu : ∀ x ∈ us, isIx x ls.length = true) (num : Int) (hn0 : 0 ≤ num) (hn1 : num ≤ 65536) (w : World) (hA : LiesI w A ls) (hU : LiesI w U us) :
    Calls Tryd.prog 95 #[.slice A ls.length cap, .slice U us.length cu, .int .i64 num] w (CopiedF w (triL ls us num)) := by
  obtain ⟨i0, hi, hz0, hz1, hz2⟩ := info_parts int_info
  have HA := Lib.hid hA
  have HU := Lib.hid hU
  have HW := Lib.hid hw
  have HIX := Lib.hid hu
  clear hA hU hw hu
  go_enter Tryd.func95, Tryd.ntmps95
  go_wp2_with (refine wpList_make_full _ rfl _ _ 22 rfl w.heap.size 3 i0 _ 1 Tryd.underlying22 hi hz0 hz1 .i64 .i64 _ _ ls.length rfl rfl rfl rfl (by rw [hz2]; omega) (by unfold maxLen; omega) (Nat.le_refl _) ?_; intro W1 hown hgr; have hb2 := (Below.refl w.heap.size w).grown hgr (Nat.le_refl _) (fun q hq => by cases hq); have rg : W1.heap[w.heap.size]? = some (.cells (rowA (List.replicate ls.length 0)) 3) := (by have := row_block hown rfl; rwa [row_made] at this); clear hown hgr)
  generalize hg : w.heap.size = g at *
  have hb0 : Below w.heap.size w W1 := by rw [hg]; exact hb2
  clear hb2
  go_loopw [2, 8] (fun v2 v8 wr => ∃ (m : Nat) (row : List Int) (nn t : Int), m ≤ us.length ∧ t + 1 = (m : Int) ∧ v8 = .int .i64 t ∧ v2 = .int .i64 nn ∧ 0 ≤ nn ∧ nn ≤ 65536 ∧ row.length = ls.length ∧ triL ls us num = triD ls us m row nn ∧ wr.heap[g]? = some (.cells (rowA row) 3) ∧ Below w.heap.size w wr) (fun _ v8 _ => (intOf v8 + 1).toNat)
  case atStart => exact ⟨us.length, _, num, _, Nat.le_refl _, by omega, rfl, rfl, hn0, hn1, List.length_replicate, rfl, rg, hb0⟩
  case round =>
    clear rg hb0
    obtain ⟨m, row, nn, t, hm, ht, rfl, rfl, hn0, hn1, hl, hd, rg, hb⟩ := hrel
    have HL := Lib.hid hl
    have HD := Lib.hid hd
    clear hl hd
    match m, hm, ht, HD with
    | 0, _, ht, HD =>
      obtain rfl : t = -1 := by omega
      have HF := Lib.hid (show CopiedF w (triL ls us num) (.returned (.slice (some ⟨g, 0, none⟩) ls.length ls.length)) wr from by
        rw [HD.out]
        exact ⟨_, ls.length, by rw [triD, HL.out], LiesI.block rg, fun ad h => (by injection h with h; subst h; exact Nat.le_of_eq hg), hb⟩)
      clear rg
      go_wp2
      go_ret
      exact HF.out
    | k + 1, hm, ht, HD =>
      obtain rfl : t = (k : Int) := by omega
      have hk : k < us.length := hm
      have hkk : (k : Int) < us.length := by omega
      have HE := Lib.hid (List.getElem?_eq_getElem hk)
      have HI := Lib.hid (HIX.out _ (List.getElem_mem hk))
      generalize us[k] = x at *
      obtain ⟨x0, x1⟩ := isIx_iff.1 HI.out
      obtain ⟨p, rfl⟩ := Int.eq_ofNat_of_zero_le x0
      have hp : p < ls.length := by omega
      have HY := Lib.hid (List.getElem?_eq_getElem hp)
      have hiw := isW_iff.1 (HW.out _ (List.getElem_mem hp))
      have HD2 : Hid (triL ls us num = triD ls us k (row.set p (nn % pw ls[p])) (nn / pw ls[p])) := Lib.hid (by
        have e : us.getD k 0 = (p : Int) := by simp [List.getD, HE.out]
        have e2 : ls.getD ((p : Nat) : Int).toNat 0 = ls[p] := by simp [hp]
        rw [HD.out, triD, e, e2]; rfl)
      generalize ls[p] = wd at *
      obtain ⟨w1, w2⟩ := hiw
      obtain ⟨au, rfl, hau, c0⟩ := HU.out.cell HE.out
      obtain ⟨aa, rfl, haa, c1⟩ := HA.out.cell HY.out
      have d0 := (hb.cell (p := au.add k) (by rw [addB]; exact hau)).trans c0
      have d1 := (hb.cell (p := aa.add p) (by rw [addB]; exact haa)).trans c1
      have dx : ∀ z : Aft wr, z.val.cell? (au.add k) = some (.int .i64 ((p : Nat) : Int)) := fun z => ((z.below hb hb.size).cell (p := au.add k) (by rw [addB]; exact hau)).trans c0
      have HM := Lib.hid (maskM (n := nn) (wd := wd) (by omega) w2)
      have hpb := pw_bd (n := wd) (by omega) w2
      have hq0 : 0 ≤ nn / pw wd := Int.ediv_nonneg hn0 (by omega)
      have hq1 : nn / pw wd ≤ 65536 := Int.le_trans (Int.ediv_le_self _ hn0) hn1
      have hpu : ((p : Nat) : Int) < ls.length := by omega
      clear c0 c1
      go_wp2_with fail
      refine wp_region_aft_tail 10 (by kernel_rfl) (by kernel_rfl) ?_
      simp only [List.take_succ_cons, List.take_zero, List.drop_succ_cons, List.drop_zero]
      repeat (go_big_quiet_step (first | (go_at_call 91; exact Calls.qs (highest_c _ (by omega) (by omega) _))))
      refine wpQuiet_nil ?_
      intro y
      rw [HM.out]
      have rgy := heap_aft y (lt_of_get rg) rg
      have hby := y.below hb hb.size
      obtain ⟨u, hu⟩ : ∃ u, row[p]? = some u := ⟨_, List.getElem?_eq_getElem (by rw [HL.out]; exact hp)⟩
      have qk := (cell_block (i := p) rgy).trans (rowA_in hu)
      have fk := free_block (i := p) rgy
      obtain ⟨mm, hmm⟩ : ∃ mm, nn % pw wd = mm := ⟨_, rfl⟩
      rw [hmm] at HD2 ⊢
      have HFIN := Lib.hid (show (y.val.setCell ⟨g, p, none⟩ (.int .i64 mm)).heap[g]? = some (.cells (rowA (row.set p mm)) 3) ∧ Below w.heap.size w (y.val.setCell ⟨g, p, none⟩ (.int .i64 mm)) from
        ⟨by rw [heap_set rgy, rowA_set], hby.setCell (p := ⟨g, p, none⟩) (Nat.le_of_eq hg) _⟩)
      have HLS := Lib.hid (show (row.set p mm).length = ls.length by rw [List.length_set]; exact HL.out)
      clear hu rgy hby dx rg hmm
      generalize y.val = W4 at *
      go_wp2
      go_roundw
      case rel => exact ⟨k, _, nn / pw wd, _, by omega, by omega, rfl, rfl, hq0, hq1, HLS.out, HD2.out, HFIN.out.1, HFIN.out.2⟩
      case measure => simp [intOf]; try omega

end Go.Proofs.YtkdonapgonegkaaDoor
