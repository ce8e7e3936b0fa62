/-
  Contracts of the reference of chapter 1: the value of a string (built for the door seat only).
-/
import Derived.Test.YtlplphigjejahaaDoorSf
import Derived.Test.YtlplphigjejahaaDoorSh
set_option linter.unusedSimpArgs false
set_option linter.unusedVariables false
namespace Go.Proofs.YtlplphigjejahaaDoor
open Go.RowKit Go.BigFrame

theorem cut_one {l : List UInt8} (h : l.count 39 = 1) : cutF 39 l = ([befL l], aftL l) := by
  obtain ⟨k, h1, h2, h3, h4⟩ := index_some 39 l (by omega)
  have n1 : ¬ ((k : Int) = -1) := by omega
  unfold cutF
  rw [h4, cut_none 39 _ _ (by omega)]
  unfold befL aftL
  rw [h2, if_neg n1, if_neg n1, Int.toNat_natCast]
  rfl
theorem base_39 : baseN (39 : UInt8).toNat = 0 := by decide
theorem lit_run {l : List UInt8} {c : UInt8} {r : List UInt8} (h : aftL l = c :: r) (hn : numB (baseN c.toNat) r = false) : litB l = false := by
  unfold litB
  split
  · rw [h]; exact hn
  · rfl
theorem lit_short {l : List UInt8} (h : (aftL l).length < 2) : litB l = false := by
  match e : aftL l, h with
  | [], _ =>
    unfold litB litOk; rw [e]
    have : baseL [] = 0 := rfl
    rw [this]; simp
  | [c], _ => exact lit_run e rfl
theorem base_no {l : List UInt8} {c : UInt8} {r : List UInt8} (h : aftL l = c :: r) (hb : baseN c.toNat = 0) : litB l = false := by
  unfold litB litOk; rw [h]; show (if (widB (befL l) && baseN c.toNat != 0) = true then _ else _) = _; rw [hb]; simp
theorem cut_other {l : List UInt8} (h : ¬ l.count 39 = 1) : litB l = false := by
  by_cases h0 : l.count 39 = 0
  · refine lit_short ?_
    unfold aftL; rw [if_pos (index_none 39 l h0)]; simp
  · obtain ⟨k, h1, h2, h3, _⟩ := index_some 39 l (by omega)
    have n1 : ¬ ((k : Int) = -1) := by omega
    have ea : aftL l = l.drop (k + 1) := by unfold aftL; rw [h2, if_neg n1, Int.toNat_natCast]
    rw [← ea] at h3
    match e : aftL l with
    | [] => exact lit_short (by rw [e]; simp)
    | c :: r =>
      by_cases hc : c = 39
      · subst hc; exact base_no e base_39
      · refine lit_run e ?_
        rw [e, List.count_cons] at h3
        have hm : (39 : UInt8) ∈ r := by
          apply List.count_pos_iff.1
          simp [hc] at h3; omega
        simp [numB, run_quote _ hm]
theorem par_bad {l : List UInt8} (h : litB l = false) : parW l = 0 ∧ parV l = 0 ∧ parE l = 7 := by
  have e : parE l = 7 := by simp [parE, h]
  exact ⟨by simp [parW, e], by simp [parV, e], e⟩
theorem cut_vals (s : ByteArray) (h : s.data.toList.count 39 = 1) : (cutF 39 s.data.toList).1.length + 1 = 2 ∧ strVals ((cutF 39 s.data.toList).1 ++ [(cutF 39 s.data.toList).2]) = [.string (befS s), .string (aftS s)] := by
  rw [cut_one h]; exact ⟨rfl, rfl⟩
theorem cut_count (s : ByteArray) (h : ¬ s.data.toList.count 39 = 1) : ¬ (cutF 39 s.data.toList).1.length + 1 = 2 := by
  unfold cutF; rw [cut_len]; intro e; exact h (by simpa using e)
theorem aft_cons (s : ByteArray) (h : 0 < (aftS s).size) : aftL s.data.toList = (aftS s)[0] :: (aftL s.data.toList).drop 1 := by
  have h' : 0 < (aftL s.data.toList).length := by simpa [aftS, ByteArray.size] using h
  have e := List.drop_eq_getElem_cons h'
  rw [List.drop_zero] at e
  exact e
theorem wid_no {l : List UInt8} (h : (nmB 2 (befL l) && decide (0 ≤ nmV 2 (befL l))) = false) : litB l = false := by
  unfold litB litOk; rw [(num_wid _).1, h]; rfl
theorem lit_yes {l : List UInt8} {c : UInt8} {r : List UInt8} {b : Int} (h : aftL l = c :: r) (hb : baseN c.toNat = b) (h0 : b ≠ 0) (hw : (nmB 2 (befL l) && decide (0 ≤ nmV 2 (befL l))) = true) : litW l = nmV 2 (befL l) ∧ litV l = numV b r ∧ litB l = numB b r := by
  have k := num_wid (befL l)
  have hok : litOk l = true := by
    unfold litOk; rw [k.1, hw, h]; show (true && baseN c.toNat != 0) = true; rw [hb]; simpa using h0
  obtain ⟨e1, e2, e3⟩ := lit_good hok
  rw [h] at e2 e3
  exact ⟨by rw [e1, k.2 (by rw [k.1, hw])], by rw [e2]; show numV (baseN c.toNat) r = _; rw [hb], by rw [e3]; show numB (baseN c.toNat) r = _; rw [hb]⟩
theorem par_yes {l : List UInt8} {W v : Int} (h1 : litW l = W) (h2 : litV l = v) (h3 : litB l = true) : parE l = bErr W v ∧ (bErr W v = 0 → parW l = W ∧ parV l = v) ∧ (bErr W v ≠ 0 → parW l = 0 ∧ parV l = 0) := by
  have e : parE l = bErr W v := by simp [parE, h3, h1, h2]
  exact ⟨e, fun h => by simp [parW, parV, e, h, h1, h2], fun h => by simp [parW, parV, e, h]⟩
/-- The reference's greater limit of a number gives the same as the program's. -/
theorem lim_step {b r d v : Int} (hb : b = 2 ∨ b = 10 ∨ b = 16) (h : min r 65536 = v) (h0 : 0 ≤ r) (h1 : r ≤ 1099511627776) (d0 : 0 ≤ d) (d1 : d ≤ 15) :
    min (min (r * b + d) 1099511627776) 65536 = min (v * b + d) 65536 ∧ 0 ≤ min (r * b + d) 1099511627776 ∧ min (r * b + d) 1099511627776 ≤ 1099511627776 := by
  rcases hb with rfl | rfl | rfl <;> omega

end Go.Proofs.YtlplphigjejahaaDoor
