/-
  Contracts of chapter 2 (graph): the leaves below some nodes, and their bits.
-/
import Derived.Test.YtkdonapgonegkaaDoorGC
set_option linter.unusedSimpArgs false
set_option linter.unusedVariables false
namespace Go.Proofs.YtkdonapgonegkaaDoor
open Go.RowKit Go.BigFrame

/-- The leaves of marked leaf nodes, among the first nodes. -/
def useK (ns : List Nd) (bs : List Bool) (L : Nat) : Nat → List Bool
  | 0 => List.replicate L false
  | k + 1 => match ns[k]? with
    | none => useK ns bs L k
    | some n => if bs.getD k false = true ∧ n.op = 1 then (useK ns bs L k).set n.v.toNat true else useK ns bs L k
theorem useK_len {ns : List Nd} {bs : List Bool} {L : Nat} : ∀ k : Nat, (useK ns bs L k).length = L := by
  intro k
  induction k with
  | zero => simp [useK]
  | succ k ih =>
    simp only [useK]
    split
    · exact ih
    · split
      · rw [List.length_set]; exact ih
      · exact ih
theorem useK_no {ns : List Nd} {bs : List Bool} {L k : Nat} {n : Nd} {b : Bool} (hn : ns[k]? = some n) (hb : bs[k]? = some b) (h : ¬ (b = true ∧ n.op = 1)) : useK ns bs L (k + 1) = useK ns bs L k := by
  have e : bs.getD k false = b := by simp [List.getD, hb]
  simp only [useK, hn, e]; rw [if_neg h]
theorem useK_yes {ns : List Nd} {bs : List Bool} {L k : Nat} {n : Nd} (hn : ns[k]? = some n) (hb : bs[k]? = some true) (h : n.op = 1) : useK ns bs L (k + 1) = (useK ns bs L k).set n.v.toNat true := by
  have e : bs.getD k false = true := by simp [List.getD, hb]
  simp only [useK, hn, e]; simp [h]
def lbL (ns : List Nd) (fr : List Int) (L : Nat) : List Int := choL (useK ns (belL ns fr) L ns.length)
theorem lbL_mem {ns : List Nd} {fr : List Int} {L : Nat} {x : Int} (h : x ∈ lbL ns fr L) : 0 ≤ x ∧ x < L := by
  have := choL_mem h
  rwa [useK_len] at this
theorem lbL_len {ns : List Nd} {fr : List Int} {L : Nat} : (lbL ns fr L).length ≤ L := by
  have := choK_len (bs := useK ns (belL ns fr) L ns.length) (useK ns (belL ns fr) L ns.length).length
  rw [useK_len] at this
  unfold lbL choL; rw [useK_len]; exact this
/-- The sum of the widths of some leaves. -/
def sumK (ls xs : List Int) : Nat → Int
  | 0 => 0
  | k + 1 => sumK ls xs k + ls.getD (xs.getD k 0).toNat 0
def bitsL (ls : List Int) (ns : List Nd) (fr : List Int) : Int := sumK ls (lbL ns fr ls.length) (lbL ns fr ls.length).length
theorem sumK_bd {ls xs : List Int} (hl : ∀ x ∈ ls, isW x = true) : ∀ k : Nat, 0 ≤ sumK ls xs k ∧ sumK ls xs k ≤ 16 * k := by
  intro k
  induction k with
  | zero => exact ⟨Int.le_refl _, Int.le_refl _⟩
  | succ k ih =>
    simp only [sumK]
    generalize (xs.getD k 0).toNat = i
    have : 0 ≤ ls.getD i 0 ∧ ls.getD i 0 ≤ 16 := by
      by_cases h : i < ls.length
      · simp only [List.getD, List.getElem?_eq_getElem h, Option.getD_some]
        have := isW_iff.1 (hl _ (List.getElem_mem h)); omega
      · simp only [List.getD, List.getElem?_eq_none (Nat.le_of_not_lt h), Option.getD_none]; omega
    omega

set_option maxRecDepth 100000 in
set_option maxHeartbeats 1600000 in
theorem leavesBelow_c (A : Option Addr) (cap L : Nat) (hL : L ≤ 65536) (N : Option Addr) (capN : Nat) (ns : List Nd) (hns : ns.length ≤ 65536) (hall : ∀ k n, ns[k]? = some n → NodeOK ns L k n) (F : Option Addr) (cf : Nat) (fr : List Int) (hfr : fr.length ≤ 65536) (hf : ∀ x ∈ fr, isIx x ns.length = true) (w : World) (hN : LiesN w N ns) (hF : LiesI w F fr) :
    Calls Tryd.prog 60 #[.slice A L cap, .slice N ns.length capN, .slice F fr.length cf] w (CopiedI w (lbL ns fr L)) := by
  obtain ⟨i0, hi, hz0, hz1, hz2⟩ := info_parts bool_info
  have HNN := Lib.hid hN
  have HALL := Lib.hid hall
  have HBE := Lib.hid (fun (W : World) (hb : Below w.heap.size w W) => below_c N capN ns hns L hall F cf fr hfr hf W (hN.below hb) (hF.below hb))
  clear hN hF hall hf
  go_enter Tryd.func60, Tryd.ntmps60
  go_wp2_with (refine wpList_make_full _ rfl _ _ 88 rfl w.heap.size 4 i0 _ 1 Tryd.underlying88 hi hz0 hz1 .i64 .i64 _ _ L rfl rfl rfl rfl (by rw [hz2]; omega) (by unfold maxLen; omega) (Nat.le_refl _) ?_; intro W1 hown hgr; have hb2 := (Below.refl w.heap.size w).grown hgr (Nat.le_refl _) (fun q hq => by cases hq); have rg : W1.heap[w.heap.size]? = some (.cells (rowB (List.replicate L false)) 4) := (by have := row_block hown rfl; rwa [rowB_made] at this); clear hown hgr)
  have lg := lt_of_get rg
  refine (HBE.out _ hb2).mono ?_
  rintro e W2 ⟨M, cm, rfl, hM, hfr2, hb3⟩
  have rg := (hb3.block _ lg).trans rg
  have hb4 := hb2.trans (hb3.mono hb2.size)
  have HFR := Lib.hid (fun ad h => Nat.lt_of_lt_of_le lg (hfr2 ad h))
  clear hfr2
  generalize hg : w.heap.size = g at *
  have hb0 : Below w.heap.size w W2 := by rw [hg]; exact hb4
  have HM := Lib.hid hM
  clear hb2 hb3 hb4 lg HBE hM
  have HBLn := Lib.hid (belL_len ns fr)
  rw [HBLn.out]
  go_wp2_with fail
  generalize hbs : belL ns fr = bs at *
  go_loopw [17] (fun v17 wr => ∃ k : Nat, k ≤ ns.length ∧ v17 = .int .i64 k ∧ wr.heap[g]? = some (.cells (rowB (useK ns bs L k)) 4) ∧ Below w.heap.size w wr ∧ But g W2 wr) (fun v17 _ => ns.length - (intOf v17).toNat)
  case atStart => exact ⟨0, by omega, rfl, rg, hb0, But.refl _ _⟩
  case round =>
    clear rg hb0
    obtain ⟨k, hk, rfl, rg, hb, hbm⟩ := hrel
    by_cases hlt : k < ns.length
    · have hkk : (k : Int) < ns.length := by omega
      have HX := Lib.hid (List.getElem?_eq_getElem hlt)
      generalize ns[k] = x at *
      obtain ⟨b, hbk'⟩ : ∃ b, bs[k]? = some b := ⟨_, List.getElem?_eq_getElem (by rw [HBLn.out]; exact hlt)⟩
      obtain ⟨am, rfl, ham, cm0⟩ := HM.out.cell hbk'
      have cm1 := (hbm.cell (p := am.add k) (by rw [addB]; exact ham) (by rw [addB]; exact Nat.ne_of_gt (HFR.out am rfl))).trans cm0
      have HOK := Lib.hid (HALL.out k x HX.out)
      obtain ⟨ad, rfl, hbl, c0, c1, c3, B, bc, c2, hB⟩ := HNN.out.cells HX.out
      have hbk : ∀ p : Addr, p.block = ad.block → wr.cell? p = w.cell? p := fun p hp => hb.cell (p := p) (by rw [hp]; exact hbl)
      have a0 := (hbk (ad.add (k * 4)) (by rw [addB])).trans c0
      have a1 : wr.cell? ⟨(ad.add (k * 4)).block, (ad.add (k * 4)).off + 1, none⟩ = some (.int .i64 x.wd) := (hbk ((ad.add (k * 4)).add 1) (by rw [addB, addB])).trans c1
      have a2 : wr.cell? ⟨(ad.add (k * 4)).block, (ad.add (k * 4)).off + 2, none⟩ = some (.slice B x.args.length bc) := (hbk ((ad.add (k * 4)).add 2) (by rw [addB, addB])).trans c2
      have a3 : wr.cell? ⟨(ad.add (k * 4)).block, (ad.add (k * 4)).off + 3, none⟩ = some (.int .i64 x.v) := (hbk ((ad.add (k * 4)).add 3) (by rw [addB, addB])).trans c3
      clear c0 c1 c2 c3 hbk
      have HBL := Lib.hid hB
      clear hB
      have HBK := Lib.hid hbk'
      clear cm0 hbk' a1 a2 HBL
      obtain ⟨op, wd, args, v⟩ := x
      simp only at a0 a3
      by_cases hop : op = 1
      · subst hop
        cases b with
        | true =>
          have HS := Lib.hid (useK_yes (L := L) HX.out HBK.out rfl)
          obtain ⟨v0, v1⟩ := HOK.out.lf rfl
          simp only at v0 v1 HS
          obtain ⟨p, rfl⟩ := Int.eq_ofNat_of_zero_le v0
          obtain ⟨u, hu⟩ : ∃ u, (useK ns bs L k)[p]? = some u := ⟨_, List.getElem?_eq_getElem (by rw [useK_len]; omega)⟩
          have qp := (cell_block (i := p) rg).trans (rowB_in hu)
          have fp := free_block (i := p) rg
          have HF2 := Lib.hid (show (wr.setCell ⟨g, p, none⟩ (.bool true)).heap[g]? = some (.cells (rowB (useK ns bs L (k + 1))) 4) ∧ Below w.heap.size w (wr.setCell ⟨g, p, none⟩ (.bool true)) ∧ But g W2 (wr.setCell ⟨g, p, none⟩ (.bool true)) from
            ⟨by rw [heap_set rg, rowB_set, HS.out]; rfl, hb.setCell (p := ⟨g, p, none⟩) (Nat.le_of_eq hg) _, hbm.setCell⟩)
          clear rg hb hbm hu HS
          go_wp2
          go_roundw
          case rel => exact ⟨k + 1, by omega, by go_num, HF2.out.1, HF2.out.2.1, HF2.out.2.2⟩
          case measure => simp [intOf]; omega
        | false =>
          have HS := Lib.hid (useK_no (L := L) HX.out HBK.out (fun h => by cases h.1))
          go_wp2
          go_roundw
          case rel => exact ⟨k + 1, by omega, by go_num, by rw [HS.out]; exact rg, hb, hbm⟩
          case measure => simp [intOf]; omega
      · have ho1 : (op == 1) = false := by simpa using hop
        have HS := Lib.hid (useK_no (L := L) HX.out HBK.out (fun h => hop h.2))
        clear hop
        cases b with
        | true =>
          go_wp2
          go_roundw
          case rel => exact ⟨k + 1, by omega, by go_num, by rw [HS.out]; exact rg, hb, hbm⟩
          case measure => simp [intOf]; omega
        | false =>
          go_wp2
          go_roundw
          case rel => exact ⟨k + 1, by omega, by go_num, by rw [HS.out]; exact rg, hb, hbm⟩
          case measure => simp [intOf]; omega
    · obtain rfl : k = ns.length := by omega
      have HUL := Lib.hid (useK_len (ns := ns) (bs := bs) (L := L) ns.length)
      have HLB := Lib.hid (show lbL ns fr L = choL (useK ns bs L ns.length) by unfold lbL; rw [hbs])
      generalize useK ns bs L ns.length = us at *
      have HCH := Lib.hid (chosen_c (some ⟨g, 0, none⟩) L us (by rw [HUL.out]; exact hL) wr (LiesB.block rg))
      rw [HUL.out] at HCH
      clear rg
      go_wp2_with fail
      refine HCH.out.mono ?_
      rintro e W5 ⟨A', cap', rfl, hl5, hb5⟩
      have HF := Lib.hid (show CopiedI w (lbL ns fr L) (.returned (.slice A' (choL us).length cap')) W5 from ⟨A', cap', by rw [HLB.out], by rw [HLB.out]; exact hl5, hb.trans (hb5.mono hb.size)⟩)
      clear hl5 hb5
      go_wp2
      go_ret
      exact HF.out

end Go.Proofs.YtkdonapgonegkaaDoor
