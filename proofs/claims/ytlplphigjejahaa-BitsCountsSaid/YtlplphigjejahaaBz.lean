/-
  Contracts of the functions of chapter 1 (nineteenth part: lists of values).
-/
import Derived.Test.YtlplphigjejahaaBy
import Derived.Test.YtlplphigjejahaaBr
import Derived.DataElems
import Derived.Laws.AppendOwnNone
set_option linter.unusedSimpArgs false
set_option linter.unusedVariables false
namespace Go.Proofs.Ytlplphigjejahaa
open Go.RowKit Go.BigFrame

theorem addB (a : Addr) (n : Nat) : (a.add n).block = a.block := by unfold Addr.add; split <;> rfl
@[go_sem] theorem Aft.cell_add {W : World} (x : Aft W) (a : Addr) (k : Nat) (h : (a.add k).block < W.heap.size) : x.val.cell? (a.add k) = W.cell? (a.add k) := x.pf.cell (p := a.add k) h
/-- The slice at A reads as the list ps of values. -/
def Lies (w : World) (A : Option Addr) (ps : List (Int × Int)) : Prop :=
  0 < ps.length → ∃ ad, A = some ad ∧ ad.block < w.heap.size ∧ ∀ i p, ps[i]? = some p → w.cell? (ad.add (i * 2)) = some (.int .i64 p.1) ∧ w.cell? ((ad.add (i * 2)).add 1) = some (.int .i64 p.2)


def sumW : List (Int × Int) → Int
  | [] => 0
  | p :: r => p.1 + sumW r
theorem sumW_snoc : ∀ (l : List (Int × Int)) (p : Int × Int), sumW (l ++ [p]) = sumW l + p.1
  | [], p => by simp [sumW]
  | q :: l, p => by simp only [List.cons_append, sumW, sumW_snoc l p]; omega
theorem take_snoc' {ps : List (Int × Int)} {i : Nat} {p : Int × Int} (h : ps[i]? = some p) : ps.take (i + 1) = ps.take i ++ [p] := by
  obtain ⟨hi, e⟩ := List.getElem?_eq_some_iff.1 h
  rw [List.take_succ_eq_append_getElem hi, e]
def listE (n : Int) : Int := firstE [eIf (n == 0) 10, eIf (decide (16 < n)) 8]
theorem listE_ok {n : Int} : listE n = 0 ↔ n ≠ 0 ∧ n ≤ 16 := by
  unfold listE
  by_cases h1 : n = 0
  · subst h1; simp [firstE, eIf]
  · by_cases h2 : 16 < n
    · simp [firstE, eIf, h1, h2]
    · simp [firstE, eIf, h1, h2]; omega
/-- The first error of the values of a list. -/
def errs (ps : List (Int × Int)) : Int := firstE (ps.map fun p => bErr p.1 p.2)
theorem errs_step {ps : List (Int × Int)} {i : Nat} {p : Int × Int} (h : ps[i]? = some p) : errs (ps.drop i) = if bErr p.1 p.2 = 0 then errs (ps.drop (i + 1)) else bErr p.1 p.2 := by
  obtain ⟨hi, e⟩ := List.getElem?_eq_some_iff.1 h
  unfold errs
  rw [List.drop_eq_getElem_cons hi, List.map_cons, firstE_cons, e]
def joinE (ps : List (Int × Int)) : Int := if listE ps.length = 0 then (if errs ps = 0 then eIf (decide (16 < sumW ps)) 8 else errs ps) else listE ps.length
theorem Lies.aft {w : World} {A : Option Addr} {ps : List (Int × Int)} (h : Lies w A ps) (x : Aft w) : Lies x.val A ps := fun hp => by
  obtain ⟨ad, rfl, hb, hc⟩ := h hp
  refine ⟨ad, rfl, x.lt' hb, fun i p hi => ?_⟩
  obtain ⟨h1, h2⟩ := hc i p hi
  exact ⟨(x.pf.cell (p := ad.add (i * 2)) (by rw [addB]; exact hb)).trans h1, (x.pf.cell (p := (ad.add (i * 2)).add 1) (by rw [addB, addB]; exact hb)).trans h2⟩

set_option maxRecDepth 20000 in
set_option maxHeartbeats 1600000 in
theorem errorOfList_c (A : Option Addr) (cap : Nat) (ps : List (Int × Int)) (w : World) (h : Lies w A ps) (h16 : ps.length ≤ 18) :
    Calls Try.prog 81 #[.slice A ps.length cap] w fun e w' => e = .returned (.int .i64 (joinE ps)) ∧ ∃ x : Aft w, w' = x.val := by
  by_cases hL : listE ps.length = 0
  case neg =>
    have hn1 : (firstE [eIf ((ps.length : Int) == 0) 10, eIf (decide (16 < (ps.length : Int))) 8] == 0) = false := by simpa [listE] using hL
    have hn2 : (firstE [eIf ((ps.length : Int) == 0) 10, eIf (decide (16 < (ps.length : Int))) 8] != 0) = true := by simpa [listE] using hL
    have HL := Lib.hid (show joinE ps = listE ps.length from if_neg hL)
    clear hL
    go_enter Try.func81, Try.ntmps81
    go_wp2_with (first | (go_at_call 65; refine (errorIf_c _ _ _).mono ?_; rintro e w' ⟨rfl, rfl⟩) | (go_at_call 71; refine (firstError2 _ _ _ _ _ _ (by exact heap_alloc_at (by simp [go_sem]))).mono ?_; rintro e w' ⟨rfl, rfl⟩))
    go_ret
    exact ⟨retI (by rw [HL.out]; rfl), Below.aft (by (repeat' (first | (with_reducible exact Below.refl _ _) | (with_reducible assumption) | (with_reducible exact Aft.pf _) | (with_reducible refine Below.alloc ?_ ?_ _) | (with_reducible refine Below.drew ?_) | (with_reducible refine Aft.below _ ?_ ?_) | (with_reducible refine Below.setCell_new ?_ ?_ _ _) | (with_reducible exact Nat.le_refl _) | (with_reducible refine Aft.le _ ?_) | (with_reducible refine le_alloc ?_) | (with_reducible refine le_drew ?_) | (with_reducible refine le_setCell ?_) | omega)))⟩
  case pos =>
    have hl' := listE_ok.1 hL
    have hz1 : ((ps.length : Int) == 0) = false := by simpa using hl'.1
    have hz2 : decide (16 < (ps.length : Int)) = false := by simp; omega
    have HL := Lib.hid (show joinE ps = if errs ps = 0 then eIf (decide (16 < sumW ps)) 8 else errs ps from if_pos hL)
    have HF : Hid (firstE [eIf false 10, eIf false 8] = 0) := Lib.hid rfl
    obtain ⟨ad, rfl, hb, hc⟩ := h (by omega)
    have HC := Lib.hid hc
    have hpos : 0 < ps.length := by omega
    have hlen : ps.length ≤ 16 := by omega
    clear hL hc hl'
    go_enter Try.func81, Try.ntmps81
    go_wp2_with (first | (go_at_call 65; refine (errorIf_c _ _ _).mono ?_; rintro e w' ⟨rfl, rfl⟩) | (go_at_call 71; refine (firstError2 _ _ _ _ _ _ (by exact heap_alloc_at (by simp [go_sem]))).mono ?_; rw [HF.out]; rintro e w' ⟨rfl, rfl⟩))
    go_wp2
    go_loopw [4, 23] (fun v4 v23 wr => ∃ (i : Nat) (y : Aft w), wr = y.val ∧ i ≤ ps.length ∧ v23 = .int .i64 i ∧ v4 = .int .i64 (sumW (ps.take i)) ∧ 0 ≤ sumW (ps.take i) ∧ sumW (ps.take i) ≤ 16 * i ∧ errs (ps.drop i) = errs ps) (fun _ v23 _ => ps.length - (intOf v23).toNat)
    case atStart => exact ⟨0, ⟨_, (Below.refl _ _).alloc (Nat.le_refl _) _⟩, rfl, by omega, rfl, rfl, by simp [sumW], by simp [sumW], rfl⟩
    case round =>
      obtain ⟨i, y, rfl, hi, rfl, rfl, hs0, hs1, he⟩ := hrel
      have hE := Lib.hid he
      clear he
      by_cases hlt : i < ps.length
      · obtain ⟨p, hp⟩ : ∃ p, ps[i]? = some p := ⟨_, List.getElem?_eq_getElem hlt⟩
        obtain ⟨pw_, pv⟩ := p
        have hst := Lib.hid (errs_step hp)
        have hsn := Lib.hid (show sumW (ps.take (i + 1)) = sumW (ps.take i) + pw_ by rw [take_snoc' hp, sumW_snoc])
        obtain ⟨c0, c1⟩ := HC.out i _ hp
        have c0 := (y.pf.cell (p := ad.add (i * 2)) (by rw [addB]; exact hb)).trans c0
        have c1 := (y.pf.cell (p := (ad.add (i * 2)).add 1) (by rw [addB, addB]; exact hb)).trans c1
        have c1' : y.val.cell? ⟨(ad.add (i * 2)).block, (ad.add (i * 2)).off + 1, none⟩ = some (.int .i64 pv) := c1
        have c0 : y.val.cell? (ad.add (i * 2)) = some (.int .i64 pw_) := c0
        clear c1
        have hbl := y.lt' hb
        have hii : (i : Int) < ps.length := by omega
        clear hp
        by_cases hz : bErr pw_ pv = 0
        · have hz' := Lib.hid hz
          obtain ⟨w1, w2, _, _⟩ := bErr_ok.1 hz
          clear hz
          generalize sumW (ps.take i) = S at *
          go_wp2_with fail
          refine (CheckBits_c pw_ pv _).mono ?_
          rw [hz'.out]
          rintro e w' ⟨rfl, x, rfl⟩
          have zx : y.val.heap.size < x.val.heap.size := by have := x.size; simp at this; omega
          go_wp2
          go_roundw
          case rel => exact ⟨i + 1, ⟨x.val, by (repeat' (first | (with_reducible exact Below.refl _ _) | (with_reducible assumption) | (with_reducible exact Aft.pf _) | (with_reducible refine Below.alloc ?_ ?_ _) | (with_reducible refine Below.drew ?_) | (with_reducible refine Aft.below _ ?_ ?_) | (with_reducible refine Below.setCell_new ?_ ?_ _ _) | (with_reducible exact Nat.le_refl _) | (with_reducible refine Aft.le _ ?_) | (with_reducible refine le_alloc ?_) | (with_reducible refine le_drew ?_) | (with_reducible refine le_setCell ?_) | omega))⟩, rfl, by omega, by go_num, by rw [hsn.out], by rw [hsn.out]; omega, by rw [hsn.out]; omega, by rw [← hE.out, hst.out, if_pos hz'.out]⟩
          case measure => simp [intOf]; omega
        · have hz1 : (bErr pw_ pv == 0) = false := by simpa using hz
          have hz2 : (bErr pw_ pv != 0) = true := by simpa using hz
          have HJ := Lib.hid (show joinE ps = bErr pw_ pv by
            have h1 : errs ps = bErr pw_ pv := by rw [← hE.out, hst.out, if_neg hz]
            rw [HL.out, h1, if_neg hz])
          clear hz
          go_wp2_with fail
          refine (CheckBits_c pw_ pv _).mono ?_
          rintro e w' ⟨rfl, x, rfl⟩
          go_wp2
          go_ret
          exact ⟨retI HJ.out.symm, Below.aft (by (repeat' (first | (with_reducible exact Below.refl _ _) | (with_reducible assumption) | (with_reducible exact Aft.pf _) | (with_reducible refine Below.alloc ?_ ?_ _) | (with_reducible refine Below.drew ?_) | (with_reducible refine Aft.below _ ?_ ?_) | (with_reducible refine Below.setCell_new ?_ ?_ _ _) | (with_reducible exact Nat.le_refl _) | (with_reducible refine Aft.le _ ?_) | (with_reducible refine le_alloc ?_) | (with_reducible refine le_drew ?_) | (with_reducible refine le_setCell ?_) | omega)))⟩
      · obtain rfl : i = ps.length := by omega
        have HJ := Lib.hid (show joinE ps = eIf (decide (16 < sumW ps)) 8 by
          have h1 : errs ps = 0 := by rw [← hE.out, List.drop_length]; rfl
          rw [HL.out, h1, if_pos rfl])
        rw [List.take_length] at *
        go_wp2_with (first | (go_at_call 65; refine (errorIf_c _ _ _).mono ?_; rintro e w' ⟨rfl, rfl⟩))
        go_ret
        exact ⟨retI HJ.out.symm, Below.aft (by (repeat' (first | (with_reducible exact Below.refl _ _) | (with_reducible assumption) | (with_reducible exact Aft.pf _) | (with_reducible refine Below.alloc ?_ ?_ _) | (with_reducible refine Below.drew ?_) | (with_reducible refine Aft.below _ ?_ ?_) | (with_reducible refine Below.setCell_new ?_ ?_ _ _) | (with_reducible exact Nat.le_refl _) | (with_reducible refine Aft.le _ ?_) | (with_reducible refine le_alloc ?_) | (with_reducible refine le_drew ?_) | (with_reducible refine le_setCell ?_) | omega)))⟩


/-- The bits of all values, those of the first one above the others. -/
def jv (l : List (Int × Int)) : Int := l.foldl (fun a p => a * pw p.1 + p.2) 0
theorem jv_snoc (l : List (Int × Int)) (p : Int × Int) : jv (l ++ [p]) = jv l * pw p.1 + p.2 := by unfold jv; rw [List.foldl_append]; rfl
def Good (ps : List (Int × Int)) : Prop := (∀ p ∈ ps, 1 ≤ p.1 ∧ 0 ≤ p.2 ∧ p.2 < pw p.1) ∧ sumW ps ≤ 16
theorem sumW_append : ∀ (a b : List (Int × Int)), sumW (a ++ b) = sumW a + sumW b
  | [], b => by simp [sumW]
  | p :: a, b => by simp only [List.cons_append, sumW, sumW_append a b]; omega
theorem sumW_nonneg : ∀ (l : List (Int × Int)), (∀ p ∈ l, 1 ≤ p.1) → 0 ≤ sumW l
  | [], _ => by simp [sumW]
  | p :: l, h => by
    have h1 := h p (List.mem_cons_self ..)
    have h2 := sumW_nonneg l fun q hq => h q (List.mem_cons_of_mem _ hq)
    simp only [sumW]; omega
theorem Good.take {ps : List (Int × Int)} (h : Good ps) (i : Nat) : 0 ≤ sumW (ps.take i) ∧ sumW (ps.take i) ≤ 16 := by
  have e := sumW_append (ps.take i) (ps.drop i)
  rw [List.take_append_drop] at e
  have h1 := sumW_nonneg (ps.take i) fun p hp => (h.1 p (List.mem_of_mem_take hp)).1
  have h2 := sumW_nonneg (ps.drop i) fun p hp => (h.1 p (List.mem_of_mem_drop hp)).1
  have := h.2
  omega
theorem jv_step {V w v S : Int} (hS : 0 ≤ S) (hw : 0 ≤ w) (h0 : 0 ≤ V) (h1 : V < pw S) (h2 : 0 ≤ v) (h3 : v < pw w) : 0 ≤ V * pw w + v ∧ V * pw w + v < pw (S + w) := by
  have hp : 0 < pw w := Int.pow_pos (by decide)
  have e1 : 0 ≤ V * pw w := Int.mul_nonneg h0 (by omega)
  have e2 : (V + 1) * pw w ≤ pw S * pw w := Int.mul_le_mul_of_nonneg_right (by omega) (by omega)
  rw [pw_add hS hw]
  rw [Int.add_mul, Int.one_mul] at e2
  omega
theorem Good.jv {ps : List (Int × Int)} (h : Good ps) : ∀ i, i ≤ ps.length → 0 ≤ Go.Proofs.Ytlplphigjejahaa.jv (ps.take i) ∧ Go.Proofs.Ytlplphigjejahaa.jv (ps.take i) < pw (sumW (ps.take i))
  | 0, _ => by simp [Go.Proofs.Ytlplphigjejahaa.jv, sumW, pw]
  | i + 1, hi => by
    obtain ⟨p, hp⟩ : ∃ p, ps[i]? = some p := ⟨_, List.getElem?_eq_getElem (by omega)⟩
    have ih := h.jv i (by omega)
    have hm := h.1 p (List.mem_of_getElem? hp)
    have ht := h.take i
    rw [take_snoc' hp, jv_snoc, sumW_snoc]
    exact jv_step ht.1 (by omega) ih.1 ih.2 hm.2.1 hm.2.2
theorem Good.of {ps : List (Int × Int)} (h : joinE ps = 0) : Good ps ∧ 0 < ps.length ∧ ps.length ≤ 16 := by
  unfold joinE at h
  by_cases h1 : listE ps.length = 0
  · rw [if_pos h1] at h
    have h1' := listE_ok.1 h1
    by_cases h2 : errs ps = 0
    · rw [if_pos h2, eIf_zero (by decide)] at h
      refine ⟨⟨fun p hp => ?_, by simpa using h⟩, by omega, by omega⟩
      have := (firstE_nil.1 h2) (bErr p.1 p.2) (List.mem_map_of_mem (f := fun p : Int × Int => bErr p.1 p.2) hp)
      obtain ⟨a, b, c, d⟩ := bErr_ok.1 this
      exact ⟨a, c, d⟩
    · rw [if_neg h2] at h; exact absurd h h2
  · rw [if_neg h1] at h; exact absurd h h1
theorem or_join {V v w : Int} (h0 : 0 ≤ V) (h1 : V ≤ 65535) (hw : 0 ≤ w) (hw2 : w ≤ 16) (h2 : 0 ≤ v) (h3 : v < pw w) : bits .or .i64 (wrap64 (V * 2 ^ w.toNat)) v = V * pw w + v := by
  obtain ⟨V, rfl⟩ := Int.eq_ofNat_of_zero_le h0
  obtain ⟨v, rfl⟩ := Int.eq_ofNat_of_zero_le h2
  obtain ⟨w, rfl⟩ := Int.eq_ofNat_of_zero_le hw
  have ep : ((2 : Int) ^ w) = ((2 ^ w : Nat) : Int) := by simp
  have hpw : 2 ^ w ≤ 2 ^ 16 := Nat.pow_le_pow_right (by decide) (by omega)
  unfold pw at *
  simp only [Int.toNat_natCast, ep] at *
  have hm : V * 2 ^ w ≤ 65535 * 2 ^ w := Nat.mul_le_mul_right _ (by omega)
  have e2 : ((V : Nat) : Int) * ((2 ^ w : Nat) : Int) = ((V * 2 ^ w : Nat) : Int) := by rw [Int.natCast_mul]
  rw [e2, IntWalk.wrap64_in _ ⟨by omega, by omega⟩, or_nat _ _ (by omega) (by omega), nat_join w (V * 2 ^ w) v (by simp) (by omega)]
  omega

set_option maxRecDepth 20000 in
set_option maxHeartbeats 1600000 in
theorem JoinErr_c (A : Option Addr) (cap : Nat) (ps : List (Int × Int)) (w : World) (h : Lies w A ps) (h16 : ps.length ≤ 18) :
    Calls Try.prog 36 #[.slice A ps.length cap] w fun e w' => e = .returned (.int .i64 (joinE ps)) ∧ ∃ x : Aft w, w' = x.val := by
  by_cases h0 : ps.length = 0
  · have HJ := Lib.hid (show joinE ps = 10 by unfold joinE listE; rw [h0]; rfl)
    have hz1 : ((ps.length : Int) == 0) = true := by simpa using h0
    clear h0
    go_enter Try.func36, Try.ntmps36
    go_wp2
    go_ret
    exact ⟨retI HJ.out.symm, Below.aft (Below.refl _ _)⟩
  have hz1 : ((ps.length : Int) == 0) = false := by simpa using h0
  by_cases hb16 : 16 < ps.length
  · have HJ := Lib.hid (show joinE ps = 8 by
      have h1 : listE ps.length = 8 := by unfold listE; rw [hz1, show decide (16 < (ps.length : Int)) = true by simp; omega]; rfl
      unfold joinE; rw [h1]; rfl)
    have hz2 : decide (16 < (ps.length : Int)) = true := by simp; omega
    clear h0
    go_enter Try.func36, Try.ntmps36
    go_wp2
    go_ret
    exact ⟨retI HJ.out.symm, Below.aft (Below.refl _ _)⟩
  have hz2 : decide (16 < (ps.length : Int)) = false := by simp; omega
  have hL : listE ps.length = 0 := listE_ok.2 ⟨by omega, by omega⟩
  have HL := Lib.hid (show joinE ps = if errs ps = 0 then eIf (decide (16 < sumW ps)) 8 else errs ps from if_pos hL)
  obtain ⟨ad, rfl, hb, hc⟩ := h (by omega)
  have HC := Lib.hid hc
  have hpos : 0 < ps.length := by omega
  have hlen : ps.length ≤ 16 := by omega
  clear hL hc h0 hb16
  go_enter Try.func36, Try.ntmps36
  go_wp2
  go_loopw [3, 4] (fun v3 v4 wr => ∃ (i : Nat) (y : Aft w), wr = y.val ∧ i ≤ ps.length ∧ v4 = .int .i64 i ∧ v3 = .int .i64 (sumW (ps.take i)) ∧ 0 ≤ sumW (ps.take i) ∧ sumW (ps.take i) ≤ 16 * i ∧ errs (ps.drop i) = errs ps) (fun _ v4 _ => ps.length - (intOf v4).toNat)
  case atStart => exact ⟨0, ⟨_, Below.refl _ _⟩, rfl, by omega, rfl, rfl, by simp [sumW], by simp [sumW], rfl⟩
  case round =>
    obtain ⟨i, y, rfl, hi, rfl, rfl, hs0, hs1, he⟩ := hrel
    have hE := Lib.hid he
    clear he
    by_cases hlt : i < ps.length
    · obtain ⟨p, hp⟩ : ∃ p, ps[i]? = some p := ⟨_, List.getElem?_eq_getElem hlt⟩
      obtain ⟨pw_, pv⟩ := p
      have hst := Lib.hid (errs_step hp)
      have hsn := Lib.hid (show sumW (ps.take (i + 1)) = sumW (ps.take i) + pw_ by rw [take_snoc' hp, sumW_snoc])
      obtain ⟨c0, c1⟩ := HC.out i _ hp
      have d0 : w.cell? (ad.add (i * 2)) = some (.int .i64 pw_) := c0
      have d1 : w.cell? ⟨(ad.add (i * 2)).block, (ad.add (i * 2)).off + 1, none⟩ = some (.int .i64 pv) := c1
      have hb2 : (ad.add (i * 2)).block < w.heap.size := by rw [addB]; exact hb
      have e0 := (y.pf.cell (p := ad.add (i * 2)) hb2).trans d0
      have e1 := (y.pf.cell (p := ⟨(ad.add (i * 2)).block, (ad.add (i * 2)).off + 1, none⟩) hb2).trans d1
      have hii : (i : Int) < ps.length := by omega
      clear hp c0 c1
      by_cases hz : bErr pw_ pv = 0
      · have hz' := Lib.hid hz
        obtain ⟨w1, w2, _, _⟩ := bErr_ok.1 hz
        clear hz
        generalize sumW (ps.take i) = S at *
        go_wp2_with fail
        refine (BitsErr_c pw_ pv _).mono ?_
        rw [hz'.out]
        rintro e w' ⟨rfl, x, rfl⟩
        have f0 := (x.pf.cell (p := ad.add (i * 2)) (y.lt' hb2)).trans e0
        clear d0 d1 e0 e1
        go_wp2
        go_roundw
        case rel => exact ⟨i + 1, ⟨x.val, by (repeat' (first | (with_reducible exact Below.refl _ _) | (with_reducible assumption) | (with_reducible exact Aft.pf _) | (with_reducible refine Below.alloc ?_ ?_ _) | (with_reducible refine Below.drew ?_) | (with_reducible refine Aft.below _ ?_ ?_) | (with_reducible refine Below.setCell_new ?_ ?_ _ _) | (with_reducible exact Nat.le_refl _) | (with_reducible refine Aft.le _ ?_) | (with_reducible refine le_alloc ?_) | (with_reducible refine le_drew ?_) | (with_reducible refine le_setCell ?_) | omega))⟩, rfl, by omega, by go_num, by rw [hsn.out], by rw [hsn.out]; omega, by rw [hsn.out]; omega, by rw [← hE.out, hst.out, if_pos hz'.out]⟩
        case measure => simp [intOf]; omega
      · have hz1 : (bErr pw_ pv == 0) = false := by simpa using hz
        have hz2 : (bErr pw_ pv != 0) = true := by simpa using hz
        have HJ := Lib.hid (show joinE ps = bErr pw_ pv by
          have h1 : errs ps = bErr pw_ pv := by rw [← hE.out, hst.out, if_neg hz]
          rw [HL.out, h1, if_neg hz])
        clear hz
        go_wp2_with fail
        refine (BitsErr_c pw_ pv _).mono ?_
        rintro e w' ⟨rfl, x, rfl⟩
        go_wp2
        go_ret
        exact ⟨retI HJ.out.symm, Below.aft (by (repeat' (first | (with_reducible exact Below.refl _ _) | (with_reducible assumption) | (with_reducible exact Aft.pf _) | (with_reducible refine Below.alloc ?_ ?_ _) | (with_reducible refine Below.drew ?_) | (with_reducible refine Aft.below _ ?_ ?_) | (with_reducible refine Below.setCell_new ?_ ?_ _ _) | (with_reducible exact Nat.le_refl _) | (with_reducible refine Aft.le _ ?_) | (with_reducible refine le_alloc ?_) | (with_reducible refine le_drew ?_) | (with_reducible refine le_setCell ?_) | omega)))⟩
    · obtain rfl : i = ps.length := by omega
      have HJ := Lib.hid (show joinE ps = eIf (decide (16 < sumW ps)) 8 by
        have h1 : errs ps = 0 := by rw [← hE.out, List.drop_length]; rfl
        rw [HL.out, h1, if_pos rfl])
      rw [List.take_length] at *
      by_cases hq : 16 < sumW ps
      · have hq' : decide (16 < sumW ps) = true := by simpa using hq
        have HJ2 := Lib.hid (show joinE ps = 8 by rw [HJ.out, hq']; rfl)
        go_wp2
        go_ret
        exact ⟨retI HJ2.out.symm, Below.aft (by (repeat' (first | (with_reducible exact Below.refl _ _) | (with_reducible assumption) | (with_reducible exact Aft.pf _) | (with_reducible refine Below.alloc ?_ ?_ _) | (with_reducible refine Below.drew ?_) | (with_reducible refine Aft.below _ ?_ ?_) | (with_reducible refine Below.setCell_new ?_ ?_ _ _) | (with_reducible exact Nat.le_refl _) | (with_reducible refine Aft.le _ ?_) | (with_reducible refine le_alloc ?_) | (with_reducible refine le_drew ?_) | (with_reducible refine le_setCell ?_) | omega)))⟩
      · have hq' : decide (16 < sumW ps) = false := by simpa using hq
        have HJ2 := Lib.hid (show joinE ps = 0 by rw [HJ.out, hq']; rfl)
        go_wp2
        go_ret
        exact ⟨retI HJ2.out.symm, Below.aft (by (repeat' (first | (with_reducible exact Below.refl _ _) | (with_reducible assumption) | (with_reducible exact Aft.pf _) | (with_reducible refine Below.alloc ?_ ?_ _) | (with_reducible refine Below.drew ?_) | (with_reducible refine Aft.below _ ?_ ?_) | (with_reducible refine Below.setCell_new ?_ ?_ _ _) | (with_reducible exact Nat.le_refl _) | (with_reducible refine Aft.le _ ?_) | (with_reducible refine le_alloc ?_) | (with_reducible refine le_drew ?_) | (with_reducible refine le_setCell ?_) | omega)))⟩

set_option maxRecDepth 20000 in
set_option maxHeartbeats 1600000 in
theorem Joined_bad (A : Option Addr) (cap : Nat) (ps : List (Int × Int)) (er : Int) (w : World) (h : Lies w A ps) (h16 : ps.length ≤ 18) (hn : er ≠ 0) (h9 : Hid (joinE ps = er)) :
    Calls Try.prog 30 #[.slice A ps.length cap] w fun e w' => e = .returned (.tuple #[.agg #[.int .i64 0, .int .i64 0], .int .i64 er]) ∧ ∃ x : Aft w, w' = x.val := by
  have hn' : (er == 0) = false := by simpa using hn
  have hb_ : (er != 0) = true := by simpa using hn
  have LA : Hid (∀ o : Obj, Lies (w.alloc o) A ps) := Lib.hid fun o => h.aft ⟨_, (Below.refl _ _).alloc (Nat.le_refl _) o⟩
  clear hn h
  go_enter Try.func30, Try.ntmps30
  go_wp2_with fail
  refine (errorOfList_c A cap ps _ (LA.out _) h16).mono ?_
  rw [h9.out]
  rintro e w' ⟨rfl, x1, rfl⟩
  have zx1_0 : w.heap.size < x1.val.heap.size := by have := x1.size; (try simp at this); omega
  have rr : x1.val.heap[w.heap.size]? = some (.cells #[.int .i64 0, .int .i64 0] 23) := by (repeat' (first | (with_reducible assumption) | omega | (simp only [World.size_alloc, World.size_drew, World.size_setCell]; omega) | exact heap_alloc_at (by first | rfl | (simp; done)) | (with_reducible refine heap_aft _ ?_ ?_) | (with_reducible refine heap_alloc' ?_ ?_) | (with_reducible refine heap_drew ?_)))
  have q0 := cell_block (i := 0) rr
  have f0 := free_block (i := 0) rr
  have q1 := cell_block (i := 1) rr
  have f1 := free_block (i := 1) rr
  simp at q0 q1
  have hb0' : Below w.heap.size w x1.val := by (repeat' (first | (with_reducible exact Below.refl _ _) | (with_reducible refine Below.alloc ?_ ?_ _) | (with_reducible refine Below.drew ?_) | (with_reducible refine Aft.below _ ?_ ?_) | (with_reducible refine Below.setCell_new ?_ ?_ _ _) | (with_reducible exact Nat.le_refl _) | (with_reducible refine Aft.le _ ?_) | (with_reducible refine le_alloc ?_) | (with_reducible refine le_drew ?_) | (with_reducible refine le_setCell ?_) | omega))
  clear rr
  generalize x1.val = W' at *
  go_wp2
  refine bodyPost_ret (by simp [results, Try.results30, go_sem, q0, q1]; try rfl) rfl ?_
  exact ⟨rfl, Below.aft (by (repeat' (first | (with_reducible exact Below.refl _ _) | (with_reducible assumption) | (with_reducible refine Below.alloc ?_ ?_ _) | (with_reducible refine Below.drew ?_) | (with_reducible refine Aft.below _ ?_ ?_) | (with_reducible refine Below.setCell_new ?_ ?_ _ _) | (with_reducible exact Nat.le_refl _) | (with_reducible refine Aft.le _ ?_) | (with_reducible refine le_alloc ?_) | (with_reducible refine le_drew ?_) | (with_reducible refine le_setCell ?_) | omega)))⟩


theorem two_set {w : World} {G : Nat} {a b c d : Value} {T : TypeId} (h : w.heap[G]? = some (.cells #[a, b] T)) : ((w.setCell ⟨G, 0, none⟩ c).setCell ⟨G, 1, none⟩ d).heap[G]? = some (.cells #[c, d] T) :=
  (((Setted.start h).step 0 c).step 1 d).here

set_option maxRecDepth 20000 in
set_option maxHeartbeats 3200000 in
theorem Joined_c (A : Option Addr) (cap : Nat) (ps : List (Int × Int)) (w : World) (h : Lies w A ps) (h9 : joinE ps = 0) :
    Calls Try.prog 30 #[.slice A ps.length cap] w fun e w' => e = .returned (.tuple #[.agg #[.int .i64 (sumW ps), .int .i64 (jv ps)], .int .i64 0]) ∧ ∃ x : Aft w, w' = x.val := by
  obtain ⟨hG, hpos, hlen⟩ := Good.of h9
  have H9 := Lib.hid h9
  have h16 : ps.length ≤ 18 := by omega
  have LA : Hid (∀ o : Obj, Lies (w.alloc o) A ps) := Lib.hid fun o => h.aft ⟨_, (Below.refl _ _).alloc (Nat.le_refl _) o⟩
  obtain ⟨ad, rfl, hb, hc⟩ := h hpos
  have HC := Lib.hid hc
  have HG := Lib.hid hG
  clear hc h9 h
  go_enter Try.func30, Try.ntmps30
  go_wp2_with fail
  refine (errorOfList_c (some ad) cap ps _ (LA.out _) h16).mono ?_
  rw [H9.out]
  rintro e w' ⟨rfl, x1, rfl⟩
  have zr : w.heap.size < x1.val.heap.size := by have := x1.size; simp at this; omega
  have r0 : x1.val.heap[w.heap.size]? = some (.cells #[.int .i64 0, .int .i64 0] 23) := by (repeat' (first | (with_reducible assumption) | omega | (simp only [World.size_alloc, World.size_drew, World.size_setCell]; omega) | exact heap_alloc_at (by first | rfl | (simp; done)) | (with_reducible refine heap_aft _ ?_ ?_) | (with_reducible refine heap_alloc' ?_ ?_) | (with_reducible refine heap_drew ?_)))
  have hb1 : Below w.heap.size w x1.val := by (repeat' (first | (with_reducible exact Below.refl _ _) | (with_reducible assumption) | (with_reducible exact Aft.pf _) | (with_reducible refine Below.alloc ?_ ?_ _) | (with_reducible refine Below.drew ?_) | (with_reducible refine Aft.below _ ?_ ?_) | (with_reducible refine Below.setCell_new ?_ ?_ _ _) | (with_reducible exact Nat.le_refl _) | (with_reducible refine Aft.le _ ?_) | (with_reducible refine le_alloc ?_) | (with_reducible refine le_drew ?_) | (with_reducible refine le_setCell ?_) | omega))
  clear LA
  generalize x1.val = W1 at *
  go_wp2
  go_loopw [17] (fun v17 wr => ∃ i : Nat, i ≤ ps.length ∧ v17 = .int .i64 i ∧ Below W1.heap.size W1 wr ∧ wr.heap[W1.heap.size]? = some (.cells #[.int .i64 (sumW (ps.take i)), .int .i64 (jv (ps.take i))] 23)) (fun v17 _ => ps.length - (intOf v17).toNat)
  case atStart =>
    refine ⟨0, by omega, rfl, ?_, ?_⟩
    · exact (by (repeat' (first | (with_reducible exact Below.refl _ _) | (with_reducible assumption) | (with_reducible exact Aft.pf _) | (with_reducible refine Below.alloc ?_ ?_ _) | (with_reducible refine Below.drew ?_) | (with_reducible refine Aft.below _ ?_ ?_) | (with_reducible refine Below.setCell_new ?_ ?_ _ _) | (with_reducible exact Nat.le_refl _) | (with_reducible refine Aft.le _ ?_) | (with_reducible refine le_alloc ?_) | (with_reducible refine le_drew ?_) | (with_reducible refine le_setCell ?_) | omega)))
    · first | exact heap_alloc_at (by simp) | (simp [sumW, jv]; exact heap_alloc_new _ _)
  case round =>
    obtain ⟨i, hi, rfl, hbr, hr⟩ := hrel
    have hbw : Below w.heap.size w wr := hb1.trans (hbr.mono (by omega))
    have hwz := hbr.size
    have lG := lt_of_get hr
    have q0 := cell_block (i := 0) hr
    have q1 := cell_block (i := 1) hr
    have g0 := free_block (i := 0) hr
    have g1 := free_block (i := 1) hr
    simp at q0 q1
    by_cases hlt : i < ps.length
    · obtain ⟨p, hp⟩ : ∃ p, ps[i]? = some p := ⟨_, List.getElem?_eq_getElem hlt⟩
      have hv := HG.out.1 p (List.mem_of_getElem? hp)
      have ht := HG.out.take i
      have ht2 := HG.out.take (i + 1)
      have hj := HG.out.jv i (by omega)
      have hsn : sumW (ps.take (i + 1)) = sumW (ps.take i) + p.1 := by rw [take_snoc' hp, sumW_snoc]
      have hjn : jv (ps.take (i + 1)) = jv (ps.take i) * pw p.1 + p.2 := by rw [take_snoc' hp, jv_snoc]
      obtain ⟨c0, c1⟩ := HC.out i _ hp
      obtain ⟨pw_, pv⟩ := p
      simp only at hv hsn hjn
      rw [hsn] at ht2
      have HS := Lib.hid hsn
      have HJ := Lib.hid hjn
      clear hp hsn hjn
      have hr' := Lib.hid hr
      clear hr
      have d0 : w.cell? (ad.add (i * 2)) = some (.int .i64 pw_) := c0
      have d1 : w.cell? ⟨(ad.add (i * 2)).block, (ad.add (i * 2)).off + 1, none⟩ = some (.int .i64 pv) := c1
      have hb2 : (ad.add (i * 2)).block < w.heap.size := by rw [addB]; exact hb
      have e0 := (hbw.cell (p := ad.add (i * 2)) hb2).trans d0
      have e1 := (hbw.cell (p := ⟨(ad.add (i * 2)).block, (ad.add (i * 2)).off + 1, none⟩) hb2).trans d1
      have hii : (i : Int) < ps.length := by omega
      have hbl : (ad.add (i * 2)).block < wr.heap.size := by have := hbw.size; omega
      clear c0 c1 d0 d1
      have hpS := pw_bd ht.1 ht.2
      generalize sumW (ps.take i) = S at *
      generalize jv (ps.take i) = V at *
      have hor : bits .or .i64 (wrap64 (V * 2 ^ pw_.toNat)) pv = V * pw pw_ + pv := or_join hj.1 (by omega) (by omega) (by omega) hv.2.1 hv.2.2
      obtain ⟨v1, v2, v3⟩ := hv
      obtain ⟨t1, t2⟩ := ht
      obtain ⟨u1, u2⟩ := ht2
      have hw0 : 0 ≤ pw_ := by omega
      have hwS : IntKind.i64.wrap (S + pw_) = S + pw_ := IntWalk.i64_in _ (by omega)
      go_wp2_with fail
      refine wp_region_aft_tail 14 (by kernel_rfl) (by kernel_rfl) ?_
      simp only [List.take_succ_cons, List.take_zero, List.drop_succ_cons, List.drop_zero]
      repeat (go_big_quiet_step (fail))
      refine wpQuiet_nil ?_
      intro x
      have hrx : x.val.heap[W1.heap.size]? = some (.cells #[.int .i64 S, .int .i64 V] 23) := by
        have e : x.val.heap[W1.heap.size]? = wr.heap[W1.heap.size]? := by
          rw [x.pf.block _ (by simp; omega), Below.heap_alloc _ _ _ lG]
        rw [e]; exact hr'.out
      have px0 := cell_block (i := 0) hrx
      have px1 := cell_block (i := 1) hrx
      have gx0 := free_block (i := 0) hrx
      have gx1 := free_block (i := 1) hrx
      simp at px0 px1
      have hbx : Below W1.heap.size W1 x.val := (hbr.alloc hwz _).trans (x.pf.mono (by simp; omega))
      have HX := Lib.hid hrx
      clear hrx q0 q1 g0 g1
      generalize x.val = W3 at *
      go_wp2
      go_roundw
      case rel => exact ⟨i + 1, by omega, by go_num, (hbx.setCell (Nat.le_refl _) _).setCell (Nat.le_refl _) _, by rw [HS.out, HJ.out]; exact two_set HX.out⟩
      case measure => simp [intOf]; omega
    · obtain rfl : i = ps.length := by omega
      rw [List.take_length] at *
      have r1 : wr.heap[w.heap.size]? = some (.cells #[.int .i64 0, .int .i64 0] 23) := by rw [hbr.block _ zr]; exact r0
      have p0 := cell_block (i := 0) r1
      have p1 := cell_block (i := 1) r1
      have f0 := free_block (i := 0) r1
      have f1 := free_block (i := 1) r1
      simp at p0 p1
      have lz : w.heap.size < wr.heap.size := by omega
      clear r1 r0 hr
      go_wp2
      refine bodyPost_ret (by simp [results, Try.results30, go_sem, p0, p1]; try rfl) rfl ?_
      exact ⟨rfl, Below.aft (by (repeat' (first | (with_reducible exact Below.refl _ _) | (with_reducible assumption) | (with_reducible exact Aft.pf _) | (with_reducible refine Below.alloc ?_ ?_ _) | (with_reducible refine Below.drew ?_) | (with_reducible refine Aft.below _ ?_ ?_) | (with_reducible refine Below.setCell_new ?_ ?_ _ _) | (with_reducible exact Nat.le_refl _) | (with_reducible refine Aft.le _ ?_) | (with_reducible refine le_alloc ?_) | (with_reducible refine le_drew ?_) | (with_reducible refine le_setCell ?_) | omega)))⟩

set_option maxRecDepth 20000 in
set_option maxHeartbeats 3200000 in
theorem Join_c (A : Option Addr) (cap : Nat) (ps : List (Int × Int)) (w : World) (h : Lies w A ps) (h9 : joinE ps = 0) :
    Calls Try.prog 37 #[.slice A ps.length cap] w fun e w' => e = .returned (.agg #[.int .i64 (sumW ps), .int .i64 (jv ps)]) ∧ ∃ x : Aft w, w' = x.val := by
  obtain ⟨hG, hpos, hlen⟩ := Good.of h9
  obtain ⟨ad, rfl, hb, hc⟩ := h hpos
  have HC := Lib.hid hc
  have HG := Lib.hid hG
  clear hc h9 h
  go_enter Try.func37, Try.ntmps37
  go_wp2
  go_loopw [4] (fun v4 wr => ∃ i : Nat, i ≤ ps.length ∧ v4 = .int .i64 i ∧ Below w.heap.size w wr ∧ wr.heap[w.heap.size]? = some (.cells #[.int .i64 0, .int .i64 0] 23) ∧ wr.heap[w.heap.size + 1]? = some (.cells #[.int .i64 (sumW (ps.take i)), .int .i64 (jv (ps.take i))] 23)) (fun v4 _ => ps.length - (intOf v4).toNat)
  case atStart =>
    refine ⟨0, by omega, rfl, ?_, ?_, ?_⟩
    · exact (by (repeat' (first | (with_reducible exact Below.refl _ _) | (with_reducible assumption) | (with_reducible exact Aft.pf _) | (with_reducible refine Below.alloc ?_ ?_ _) | (with_reducible refine Below.drew ?_) | (with_reducible refine Aft.below _ ?_ ?_) | (with_reducible refine Below.setCell_new ?_ ?_ _ _) | (with_reducible exact Nat.le_refl _) | (with_reducible refine Aft.le _ ?_) | (with_reducible refine le_alloc ?_) | (with_reducible refine le_drew ?_) | (with_reducible refine le_setCell ?_) | omega)))
    · (repeat' (first | (with_reducible assumption) | omega | (simp only [World.size_alloc, World.size_drew, World.size_setCell]; omega) | (refine heap_alloc_at ?_; (first | rfl | (simp; done))) | (with_reducible refine heap_aft _ ?_ ?_) | (with_reducible refine heap_alloc' ?_ ?_) | (with_reducible refine heap_drew ?_)))
    · first | exact heap_alloc_at (by simp) | (simp [sumW, jv]; exact heap_alloc_at (by simp))
  case round =>
    obtain ⟨i, hi, rfl, hbw, hz, hr⟩ := hrel
    have lG := lt_of_get hr
    have q0 := cell_block (i := 0) hr
    have q1 := cell_block (i := 1) hr
    have g0 := free_block (i := 0) hr
    have g1 := free_block (i := 1) hr
    simp at q0 q1
    by_cases hlt : i < ps.length
    · obtain ⟨p, hp⟩ : ∃ p, ps[i]? = some p := ⟨_, List.getElem?_eq_getElem hlt⟩
      have hv := HG.out.1 p (List.mem_of_getElem? hp)
      have ht := HG.out.take i
      have ht2 := HG.out.take (i + 1)
      have hj := HG.out.jv i (by omega)
      have hsn : sumW (ps.take (i + 1)) = sumW (ps.take i) + p.1 := by rw [take_snoc' hp, sumW_snoc]
      have hjn : jv (ps.take (i + 1)) = jv (ps.take i) * pw p.1 + p.2 := by rw [take_snoc' hp, jv_snoc]
      obtain ⟨c0, c1⟩ := HC.out i _ hp
      obtain ⟨pw_, pv⟩ := p
      simp only at hv hsn hjn
      rw [hsn] at ht2
      have HS := Lib.hid hsn
      have HJ := Lib.hid hjn
      clear hp hsn hjn
      have hr' := Lib.hid hr
      have hz' := Lib.hid hz
      clear hr hz
      have d0 : w.cell? (ad.add (i * 2)) = some (.int .i64 pw_) := c0
      have d1 : w.cell? ⟨(ad.add (i * 2)).block, (ad.add (i * 2)).off + 1, none⟩ = some (.int .i64 pv) := c1
      have hb2 : (ad.add (i * 2)).block < w.heap.size := by rw [addB]; exact hb
      have e0 := (hbw.cell (p := ad.add (i * 2)) hb2).trans d0
      have e1 := (hbw.cell (p := ⟨(ad.add (i * 2)).block, (ad.add (i * 2)).off + 1, none⟩) hb2).trans d1
      have hii : (i : Int) < ps.length := by omega
      have hbl : (ad.add (i * 2)).block < wr.heap.size := by have := hbw.size; omega
      clear c0 c1 d0 d1
      have hpS := pw_bd ht.1 ht.2
      generalize sumW (ps.take i) = S at *
      generalize jv (ps.take i) = V at *
      obtain ⟨v1, v2, v3⟩ := hv
      obtain ⟨t1, t2⟩ := ht
      obtain ⟨u1, u2⟩ := ht2
      have hpu := pw_bd u1 u2
      have hst := jv_step t1 (show 0 ≤ pw_ by omega) hj.1 hj.2 v2 v3
      have hw0 : 0 ≤ pw_ := by omega
      have hvp : 0 ≤ V * pw pw_ := Int.mul_nonneg hj.1 (Int.le_of_lt (pw_pos pw_))
      have hwS : IntKind.i64.wrap (S + pw_) = S + pw_ := IntWalk.i64_in _ (by omega)
      have hwM : IntKind.i64.wrap (V * pw pw_) = V * pw pw_ := IntWalk.i64_in _ (by omega)
      have hwA : IntKind.i64.wrap (V * pw pw_ + pv) = V * pw pw_ + pv := IntWalk.i64_in _ (by omega)
      go_wp2_with fail
      refine wp_region_aft_tail 24 (by kernel_rfl) (by kernel_rfl) ?_
      simp only [List.take_succ_cons, List.take_zero, List.drop_succ_cons, List.drop_zero]
      repeat (go_big_quiet_step ((go_at_call 20; exact Calls.qs (Power_c _ (by omega) (by omega) _))))
      refine wpQuiet_nil ?_
      intro x
      have hrx : x.val.heap[w.heap.size + 1]? = some (.cells #[.int .i64 S, .int .i64 V] 23) := by rw [x.pf.block _ lG]; exact hr'.out
      have hzx : x.val.heap[w.heap.size]? = some (.cells #[.int .i64 0, .int .i64 0] 23) := by rw [x.pf.block _ (by omega)]; exact hz'.out
      have px0 := cell_block (i := 0) hrx
      have px1 := cell_block (i := 1) hrx
      have gx0 := free_block (i := 0) hrx
      have gx1 := free_block (i := 1) hrx
      simp at px0 px1
      have hbx : Below w.heap.size w x.val := hbw.trans (x.pf.mono hbw.size)
      have HX := Lib.hid hrx
      have HZ := Lib.hid hzx
      clear hrx hzx q0 q1 g0 g1
      generalize x.val = W3 at *
      go_wp2
      go_roundw
      case rel => exact ⟨i + 1, by omega, by go_num, (hbx.setCell (by simp) _).setCell (by simp) _, by rw [heap_setCell_ne (by omega), heap_setCell_ne (by omega)]; exact HZ.out, by rw [HS.out, HJ.out]; exact two_set HX.out⟩
      case measure => simp [intOf]; omega
    · obtain rfl : i = ps.length := by omega
      rw [List.take_length] at *
      have p0 := cell_block (i := 0) hz
      have p1 := cell_block (i := 1) hz
      have f0 := free_block (i := 0) hz
      have f1 := free_block (i := 1) hz
      simp at p0 p1
      have lz := lt_of_get hz
      clear hr hz
      go_wp2
      refine bodyPost_ret (by simp [results, Try.results37, go_sem, p0, p1]; try rfl) rfl ?_
      exact ⟨rfl, Below.aft (by (repeat' (first | (with_reducible exact Below.refl _ _) | (with_reducible assumption) | (with_reducible exact Aft.pf _) | (with_reducible refine Below.alloc ?_ ?_ _) | (with_reducible refine Below.drew ?_) | (with_reducible refine Aft.below _ ?_ ?_) | (with_reducible refine Below.setCell_new ?_ ?_ _ _) | (with_reducible exact Nat.le_refl _) | (with_reducible refine Aft.le _ ?_) | (with_reducible refine le_alloc ?_) | (with_reducible refine le_drew ?_) | (with_reducible refine le_setCell ?_) | omega)))⟩


def csOf : List (Int × Int) → List Value
  | [] => []
  | p :: r => .int .i64 p.1 :: .int .i64 p.2 :: csOf r
theorem csOf_length : ∀ (ps : List (Int × Int)), (csOf ps).length = ps.length * 2
  | [] => rfl
  | p :: r => by simp only [csOf, List.length_cons, csOf_length r]; omega
theorem csOf_one : ∀ (ps : List (Int × Int)), ∀ u ∈ csOf ps, u.oneCell' = true
  | [], u, h => by simp [csOf] at h
  | p :: r, u, h => by
    simp only [csOf, List.mem_cons] at h
    rcases h with rfl | rfl | h
    · rfl
    · rfl
    · exact csOf_one r u h
theorem csOf_at : ∀ (ps : List (Int × Int)) (i : Nat) (p : Int × Int), ps[i]? = some p → (csOf ps)[i * 2]? = some (.int .i64 p.1) ∧ (csOf ps)[i * 2 + 1]? = some (.int .i64 p.2)
  | [], i, p, h => by simp at h
  | q :: r, 0, p, h => by simp at h; subst h; simp [csOf]
  | q :: r, i + 1, p, h => by
    have ih := csOf_at r i p (by simpa using h)
    rw [show (i + 1) * 2 = i * 2 + 1 + 1 by omega]
    simpa [csOf] using ih
theorem csOf_inv : ∀ (ps : List (Int × Int)) (j : Nat) (u : Value), (csOf ps)[j]? = some u → ∃ i p, ps[i]? = some p ∧ (j = i * 2 ∧ u = .int .i64 p.1 ∨ j = i * 2 + 1 ∧ u = .int .i64 p.2)
  | [], j, u, h => by simp [csOf] at h
  | q :: r, 0, u, h => by simp [csOf] at h; exact ⟨0, q, by simp, .inl ⟨rfl, h.symm⟩⟩
  | q :: r, 1, u, h => by simp [csOf] at h; exact ⟨0, q, by simp, .inr ⟨rfl, h.symm⟩⟩
  | q :: r, j + 2, u, h => by
    obtain ⟨i, p, hp, hh⟩ := csOf_inv r j u (by simpa [csOf] using h)
    refine ⟨i + 1, p, by simpa using hp, ?_⟩
    rcases hh with ⟨e, hu⟩ | ⟨e, hu⟩
    · exact .inl ⟨by omega, hu⟩
    · exact .inr ⟨by omega, hu⟩
theorem Lies.of_own {w : World} {base g cap : Nat} {e : TypeId} {ps : List (Int × Int)} (h : w.ownsRow base e 2 (.slice (some ⟨g, 0, none⟩) ps.length cap) ps.length (csOf ps)) : Lies w (some ⟨g, 0, none⟩) ps := by
  intro hp
  refine ⟨_, rfl, (h.lt g rfl).2, fun i p hi => ?_⟩
  obtain ⟨h1, h2⟩ := csOf_at ps i p hi
  have e1 := h.cells (g := g) rfl _ _ h1
  have e2 := h.cells (g := g) rfl _ _ h2
  rw [Addr.add_add]
  exact ⟨e1, e2⟩
def Copied (w : World) (ps : List (Int × Int)) (e : Ending) (w' : World) : Prop := ∃ A' cap', e = .returned (.slice A' ps.length cap') ∧ Lies w' A' ps ∧ Below w.heap.size w w'
theorem bits_info : (Try.prog.info? 23).map (fun i => (i.zero, i.size, i.bytes)) = some (some (.agg #[.int .i64 0, .int .i64 0]), 2, 16) := by kernel_rfl
set_option maxRecDepth 20000 in
set_option maxHeartbeats 1600000 in
theorem Copy_c (A : Option Addr) (cap : Nat) (ps : List (Int × Int)) (w : World) (h : Lies w A ps) (hA : ps.length = 0 → A = none ∧ cap = 0 ∨ ∃ ad, A = some ad) (h16 : ps.length ≤ 18) :
    Calls Try.prog 31 #[.slice A ps.length cap] w (Copied w ps) := by
  obtain ⟨i0, hi, hz0, hz1, hz2⟩ := info_parts bits_info
  have hown0 := World.ownsRow_lit (base := w.heap.size) (e := 23) (size := 2) w #[] 0 (Nat.le_refl _) (by unfold maxLen; omega) rfl
  have fin : ∀ (v' : Value) (w3 : World), w3.ownsRow w.heap.size 23 2 v' (0 + ps.length) ([] ++ csOf ps) → ∃ A' cap', Ending.returned v' = .returned (.slice A' ps.length cap') ∧ Lies w3 A' ps := by
    intro v' w3 ho
    rw [Nat.zero_add, List.nil_append] at ho
    rcases ho.2 with ⟨rfl, h0⟩ | ⟨g, cap', cur, rfl, _⟩
    · exact ⟨none, 0, by rw [h0], fun hp => by omega⟩
    · exact ⟨_, cap', rfl, Lies.of_own ho⟩
  have HF := Lib.hid fin
  have HO := Lib.hid (csOf_one ps)
  have hm1 : 0 + ps.length ≤ maxLen := by unfold maxLen; omega
  have hm2 : (0 + ps.length) * 16 ≤ 140737488355328 := by omega
  have hcl : (csOf ps).length = ps.length * 2 := csOf_length ps
  have HL := Lib.hid hcl
  clear fin hcl
  have way : ∀ ad : Addr, A = some ad → (0 < ps.length → ad.block < w.heap.size) → (∀ i p, ps[i]? = some p → w.cell? (ad.add (i * 2)) = some (.int .i64 p.1) ∧ w.cell? ((ad.add (i * 2)).add 1) = some (.int .i64 p.2)) →
      Calls Try.prog 31 #[.slice A ps.length cap] w (Copied w ps) := by
    rintro ad rfl hb hc
    have hcells : ∀ j u, (csOf ps)[j]? = some u → (w.alloc (.cells #[] 23)).cell? (ad.add j) = some u := by
      intro j u hj
      obtain ⟨i, p, hp, hh⟩ := csOf_inv ps j u hj
      have hb' := hb (by have := (List.getElem?_eq_some_iff.1 hp).1; omega)
      rw [World.cell?_alloc_lt _ _ _ (by rw [addB]; exact hb')]
      obtain ⟨c0, c1⟩ := hc i p hp
      rcases hh with ⟨rfl, rfl⟩ | ⟨rfl, rfl⟩
      · exact c0
      · rw [← Addr.add_add]; exact c1
    have HC := Lib.hid hcells
    clear hcells hc h hA
    go_enter Try.func31, Try.ntmps31
    go_wp2_with (at_builtin; refine wpList_append_own _ rfl _ _ 48 rfl w.heap.size 23 i0 (.agg #[.int .i64 0, .int .i64 0]) 2 16 Try.underlying48 hi hz0 hz1 hz2 rfl (by decide) _ _ _ rfl hown0 ad ps.length cap (csOf ps) rfl HL.out HC.out HO.out hm1 hm2 (by simp) ?_; intro v' w3 hown' hgrow3 hnn)
    go_wp2
    go_ret
    obtain ⟨A', cap', h1, h2⟩ := HF.out v' w3 hown'
    refine ⟨A', cap', h1, h2, ((Below.refl _ _).alloc (Nat.le_refl _) _).grown hgrow3 (by simp) (fun q hq => ?_)⟩
    have hq' : some w.heap.size = some q := hq
    injection hq' with hq'
    omega
  by_cases h0 : 0 < ps.length
  · obtain ⟨ad, e, hb, hc⟩ := h h0
    exact way ad e (fun _ => hb) hc
  · rcases hA (by omega) with ⟨rfl, rfl⟩ | ⟨ad, e⟩
    · obtain rfl : ps = [] := List.eq_nil_of_length_eq_zero (by omega)
      have hown1 := hown0
      clear way hown0 HF HO HL h hA
      go_enter Try.func31, Try.ntmps31
      go_wp2_with (at_builtin; refine wpList_append_own_none rfl _ _ 48 rfl w.heap.size 23 i0 2 Try.underlying48 hi _ _ _ rfl hown1 rfl ?_)
      go_wp2
      go_ret
      exact ⟨some ⟨w.heap.size, 0, none⟩, 0, rfl, fun hp => by simp at hp, (Below.refl _ _).alloc (Nat.le_refl _) _⟩
    · exact way ad e (fun h => absurd h h0) fun i p hp => by rw [List.getElem?_eq_none (by omega)] at hp; cases hp

end Go.Proofs.Ytlplphigjejahaa
