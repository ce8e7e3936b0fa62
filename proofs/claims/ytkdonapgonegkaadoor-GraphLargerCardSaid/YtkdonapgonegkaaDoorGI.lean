/-
  Contracts of chapter 2 (graph): the cone of some nodes.
-/
import Derived.Test.YtkdonapgonegkaaDoorGH
set_option linter.unusedSimpArgs false
set_option linter.unusedVariables false
namespace Go.Proofs.YtkdonapgonegkaaDoor
open Go.RowKit Go.BigFrame

theorem But.grown {g : Nat} {W w w' : World} {row : Option Nat} (h : But g W w) (hg : w.grownBy w' row) (hr : ∀ q, row = some q → W.heap.size ≤ q) : But g W w' :=
  ⟨Nat.le_trans h.size hg.size, fun n hn hne => (hg.block n (Nat.lt_of_lt_of_le hn h.size) (fun e => by have := hr n e.symm; omega)).trans (h.block n hn hne)⟩
theorem But.alloc {g : Nat} {W w : World} (h : But g W w) (o : Obj) : But g W (w.alloc o) := h.below ((Below.refl _ _).alloc (Nat.le_refl _) _)
/-- The nodes of a cone, and the places of all nodes in it, behind so many nodes. -/
def conK (ns : List Nd) (bs : List Bool) : Nat → List Nd × List Int
  | 0 => ([], List.replicate ns.length 0)
  | k + 1 => match ns[k]? with
    | none => conK ns bs k
    | some n => if bs.getD k false = true then ((conK ns bs k).1 ++ [⟨n.op, n.wd, n.args.map (fun a => ((conK ns bs k).2.set k (conK ns bs k).1.length).getD a.toNat 0), n.v⟩], (conK ns bs k).2.set k (conK ns bs k).1.length) else conK ns bs k
def coneN (ns : List Nd) (fr : List Int) : List Nd := (conK ns (belL ns fr) ns.length).1
def coneP (ns : List Nd) (fr : List Int) : List Int := pickL (conK ns (belL ns fr) ns.length).2 fr
theorem conK_no {ns : List Nd} {bs : List Bool} {k : Nat} {n : Nd} (hn : ns[k]? = some n) (hb : bs[k]? = some false) : conK ns bs (k + 1) = conK ns bs k := by
  simp [conK, hn, List.getD, hb]
theorem conK_yes {ns : List Nd} {bs : List Bool} {k : Nat} {n : Nd} (hn : ns[k]? = some n) (hb : bs[k]? = some true) : conK ns bs (k + 1) = ((conK ns bs k).1 ++ [⟨n.op, n.wd, n.args.map (fun a => ((conK ns bs k).2.set k (conK ns bs k).1.length).getD a.toNat 0), n.v⟩], (conK ns bs k).2.set k (conK ns bs k).1.length) := by
  have e : bs.getD k false = true := by simp [List.getD, hb]
  simp only [conK, hn, e, if_true]
theorem conK_len {ns : List Nd} {bs : List Bool} : ∀ k : Nat, (conK ns bs k).2.length = ns.length ∧ (conK ns bs k).1.length ≤ k := by
  intro k
  induction k with
  | zero => exact ⟨by simp [conK], Nat.le_refl _⟩
  | succ k ih =>
    simp only [conK]
    split
    · exact ⟨ih.1, by omega⟩
    · split
      · refine ⟨by rw [List.length_set]; exact ih.1, ?_⟩
        rw [List.length_append]; simp; omega
      · exact ⟨ih.1, by omega⟩
/-- Nodes and numbers, as results. -/
def ConeR (w : World) (cs : List Nd) (ps : List Int) (e : Ending) (w' : World) : Prop := ∃ A c B c2, e = .returned (.tuple #[.slice A cs.length c, .slice B ps.length c2]) ∧ cs.length ≤ c ∧ LiesN w' A cs ∧ LiesI w' B ps ∧ Below w.heap.size w w'

set_option maxRecDepth 100000 in
set_option maxHeartbeats 1600000 in
theorem coneOf_c (N : Option Addr) (capN : Nat) (ns : List Nd) (hns : ns.length ≤ 65536) (L : Nat) (hall : ∀ k n, ns[k]? = some n → NodeOK ns L k n) (F : Option Addr) (cf : Nat) (fr : List Int) (hfr : fr.length ≤ 65536) (hf : ∀ x ∈ fr, isIx x ns.length = true) (w : World) (hN : LiesN w N ns) (hF : LiesI w F fr) :
    Calls Tryd.prog 93 #[.slice N ns.length capN, .slice F fr.length cf] w (ConeR w (coneN ns fr) (coneP ns fr)) := by
  obtain ⟨i0, hi, hz0, hz1, hz2⟩ := info_parts int_info
  obtain ⟨ni0, nhi, nhz0, nhz1, nhz2⟩ := info_parts node_info
  have HNN := Lib.hid hN
  have HFF := Lib.hid hF
  have HALL := Lib.hid hall
  have HFX := Lib.hid hf
  have HBE := Lib.hid (fun (W : World) (hb : Below w.heap.size w W) => below_c N capN ns hns L hall F cf fr hfr hf W (hN.below hb) (hF.below hb))
  clear hN hF hall hf
  go_enter Tryd.func93, Tryd.ntmps93
  go_wp2_with (refine wpList_make_full _ rfl _ _ 22 rfl w.heap.size 3 i0 _ 1 Tryd.underlying22 hi hz0 hz1 .i64 .i64 _ _ ns.length rfl rfl rfl rfl (by rw [hz2]; omega) (by unfold maxLen; omega) (Nat.le_refl _) ?_; intro W1 hown hgr; have hb2 := (Below.refl w.heap.size w).grown hgr (Nat.le_refl _) (fun q hq => by cases hq); have rg : W1.heap[w.heap.size]? = some (.cells (rowA (List.replicate ns.length 0)) 3) := (by have := row_block hown rfl; rwa [row_made] at this); clear hown hgr)
  have lg := lt_of_get rg
  have rP : (W1.alloc (.cells #[.slice (some ⟨w.heap.size, 0, none⟩) ns.length ns.length] 22)).heap[W1.heap.size]? = some (.cells #[.slice (some ⟨w.heap.size, 0, none⟩) ns.length ns.length] 22) := heap_alloc_new _ _
  have rg1 := heap_alloc' (o := .cells #[.slice (some ⟨w.heap.size, 0, none⟩) ns.length ns.length] 22) lg rg
  have hb3 := hb2.alloc hb2.size (.cells #[.slice (some ⟨w.heap.size, 0, none⟩) ns.length ns.length] 22)
  have hPg : w.heap.size < W1.heap.size := lg
  generalize W1.alloc (.cells #[.slice (some ⟨w.heap.size, 0, none⟩) ns.length ns.length] 22) = W2 at *
  clear rg hb2 lg
  generalize W1.heap.size = P at *
  refine (HBE.out _ hb3).mono ?_
  rintro e W3 ⟨M, cm, rfl, hM, hfr2, hb4⟩
  have rg := (hb4.block _ (lt_of_get rg1)).trans rg1
  have rP3 := (hb4.block _ (lt_of_get rP)).trans rP
  have hb5 := hb3.trans (hb4.mono hb3.size)
  have HFR := Lib.hid (fun ad h => Nat.lt_of_lt_of_le (lt_of_get rg1) (hfr2 ad h))
  have HM := Lib.hid hM
  have HBLn := Lib.hid (belL_len ns fr)
  rw [HBLn.out]
  clear hM hfr2 hb4 hb3 rg1 rP HBE
  generalize hg : w.heap.size = g at *
  have hb0 : Below w.heap.size w W3 := by rw [hg]; exact hb5
  clear hb5
  have lP3 := lt_of_get rP3
  go_wp2_with fail
  have HCN := Lib.hid (show coneN ns fr = (conK ns (belL ns fr) ns.length).1 from rfl)
  have HCP := Lib.hid (show coneP ns fr = pickL (conK ns (belL ns fr) ns.length).2 fr from rfl)
  generalize hbs : belL ns fr = bs at *
  go_loopw [6, 17] (fun v6 v17 wr => ∃ (k : Nat) (xs : List Value), k ≤ ns.length ∧ v17 = .int .i64 k ∧ NodesRow wr W3.heap.size g v6 (conK ns bs k).1 xs ∧ wr.heap[g]? = some (.cells (rowA (conK ns bs k).2) 3) ∧ Below w.heap.size w wr ∧ But g W3 wr) (fun _ v17 _ => ns.length - (intOf v17).toNat)
  case atStart => exact ⟨0, [], by omega, rfl, NodesRow.nil _ _ _, rg, hb0, But.refl _ _⟩
  case round =>
    clear rg hb0
    obtain ⟨k, xs, hk, rfl, hrow, rg, hb, hbut⟩ := hrel
    obtain ⟨A0, c0', hv6, hc0, hlN, _⟩ := hrow.lies
    subst hv6
    have HKL := Lib.hid (conK_len (ns := ns) (bs := bs) k)
    by_cases hlt : k < ns.length
    · have hkk : (k : Int) < ns.length := by omega
      have HX := Lib.hid (List.getElem?_eq_getElem hlt)
      generalize ns[k] = x at *
      obtain ⟨b, hbk'⟩ : ∃ b, bs[k]? = some b := ⟨_, List.getElem?_eq_getElem (by rw [HBLn.out]; exact hlt)⟩
      obtain ⟨am, rfl, ham, cm0⟩ := HM.out.cell hbk'
      have cm1 := (hbut.cell (p := am.add k) (by rw [addB]; exact ham) (by rw [addB]; exact Nat.ne_of_gt (HFR.out am rfl))).trans cm0
      have HBK := Lib.hid hbk'
      clear cm0 hbk' hlN
      cases b with
      | false =>
        have HS := Lib.hid (conK_no HX.out HBK.out)
        have HR := Lib.hid hrow
        clear hrow
        go_wp2
        go_roundw
        case rel => exact ⟨k + 1, xs, by omega, by go_num, by rw [HS.out]; exact HR.out, by rw [HS.out]; exact rg, hb, hbut⟩
        case measure => simp [intOf]; omega
      | true =>
        have HS := Lib.hid (conK_yes HX.out HBK.out)
        have HOK := Lib.hid (HALL.out k x HX.out)
        have qP := cell_block (i := 0) ((hbut.block P lP3 (by omega)).trans rP3)
        simp at qP
        obtain ⟨u, hu⟩ : ∃ u, (conK ns bs k).2[k]? = some u := ⟨_, List.getElem?_eq_getElem (by rw [HKL.out.1]; exact hlt)⟩
        have qk := (cell_block (i := k) rg).trans (rowA_in hu)
        have fk := free_block (i := k) rg
        have HML := Lib.hid HKL.out.2
        have HPL := Lib.hid HKL.out.1
        have hml := HML.out
        have hc0k : (conK ns bs k).1.length ≤ 65536 := by omega
        clear hu
        generalize conK ns bs k = CK at *
        obtain ⟨cs, ps⟩ := CK
        simp only at *
        have HROW := Lib.hid hrow
        clear hrow
        go_upto_region 8 with (fail)
        have rgS : (wr.setCell ⟨g, k, none⟩ (.int .i64 (cs.length : Int))).heap[g]? = some (.cells (rowA (ps.set k cs.length)) 3) := by rw [heap_set rg, rowA_set]
        have hbS : Below w.heap.size w (wr.setCell ⟨g, k, none⟩ (.int .i64 (cs.length : Int))) := hb.setCell (p := ⟨g, k, none⟩) (Nat.le_of_eq hg) _
        have hbutS : But g W3 (wr.setCell ⟨g, k, none⟩ (.int .i64 (cs.length : Int))) := hbut.setCell
        have HROWS := Lib.hid (HROW.out.setCell (m := g) (j := k) (u := .int .i64 (cs.length : Int)) (by omega) (Nat.le_refl _))
        clear rg hb hbut HROW qk fk qP
        generalize wr.setCell ⟨g, k, none⟩ (.int .i64 (cs.length : Int)) = S1 at *
        have qP := cell_block (i := 0) ((hbutS.block P lP3 (by omega)).trans rP3)
        simp at qP
        obtain ⟨ad, rfl, hbl, c0, c1, c3, B, bc, c2, hB⟩ := HNN.out.cells HX.out
        have hbk : ∀ p : Addr, p.block = ad.block → S1.cell? p = w.cell? p := fun p hp => hbS.cell (p := p) (by rw [hp]; exact hbl)
        have a0 := (hbk (ad.add (k * 4)) (by rw [addB])).trans c0
        have a1 : S1.cell? ⟨(ad.add (k * 4)).block, (ad.add (k * 4)).off + 1, none⟩ = some (.int .i64 x.wd) := (hbk ((ad.add (k * 4)).add 1) (by rw [addB, addB])).trans c1
        have a2 : S1.cell? ⟨(ad.add (k * 4)).block, (ad.add (k * 4)).off + 2, none⟩ = some (.slice B x.args.length bc) := (hbk ((ad.add (k * 4)).add 2) (by rw [addB, addB])).trans c2
        have a3 : S1.cell? ⟨(ad.add (k * 4)).block, (ad.add (k * 4)).off + 3, none⟩ = some (.int .i64 x.v) := (hbk ((ad.add (k * 4)).add 3) (by rw [addB, addB])).trans c3
        clear c0 c1 c2 c3 hbk
        have HBL := Lib.hid hB
        clear hB
        have HAL := Lib.hid HOK.out.al
        obtain ⟨op, wd, args, v⟩ := x
        simp only at a0 a1 a2 a3 HBL HAL HS
        have hal : args.length ≤ 65536 := by have := HAL.out; omega
        have HAI : Hid (∀ a ∈ args, 0 ≤ a ∧ a < k) := Lib.hid (fun a ha => by
          obtain ⟨i, hi, rfl⟩ := List.mem_iff_getElem.1 ha
          exact HOK.out.ai i _ (List.getElem?_eq_getElem hi))
        have HWA := Lib.hid (withArgs_cone P (fun a => (ps.set k cs.length).getD a.toNat 0) op wd v B bc args hal S1 (HBL.out.below hbS) (fun a ha W hbW => by
          obtain ⟨h0, h1⟩ := HAI.out a ha
          obtain ⟨j, rfl⟩ := Int.eq_ofNat_of_zero_le h0
          have hj : j < (ps.set k cs.length).length := by rw [List.length_set, HPL.out]; omega
          refine coneOf1_c j ns.length ns.length _ P ⟨g, 0, none⟩ (by omega) hns W ?_ ?_
          · rw [hbW.cell (p := ⟨P, 0, none⟩) (Nat.lt_of_lt_of_le lP3 hbutS.size)]; exact qP
          · rw [Addr.add_lit, Nat.zero_add]
            refine (cell_block ((hbW.block g (lt_of_get rgS)).trans rgS)).trans (rowA_in ?_)
            simp [List.getD, List.getElem?_eq_getElem hj]))
        have lW3 : W3.heap.size ≤ S1.heap.size := hbutS.size
        go_wp2_with fail
        refine HWA.out.mono ?_
        rintro e W4 ⟨A2, cap2, rfl, hc2, hl2, hf2, hb4⟩
        rw [List.length_map]
        have hrow4 := HROWS.out.below hb4
        have lW4 := Nat.le_trans lW3 hb4.size
        have HL2 := Lib.hid hl2
        have HF2 : Hid (∀ ad, A2 = some ad → g < ad.block ∧ ad.block < W4.heap.size ∧ ∀ cur fz, W4.heap[ad.block]? ≠ some (.cells cur 65 fz)) := Lib.hid (fun ad h => by
          obtain ⟨h1, cur, h2⟩ := hf2 ad h
          refine ⟨by omega, lt_of_get h2, fun c z h3 => ?_⟩
          rw [h2] at h3
          simp at h3)
        clear hc2 hl2 hf2 a0 a1 a2 a3 qP
        go_wp2_with (at_builtin; refine wpList_append_own _ rfl _ _ 23 rfl W3.heap.size 65 ni0 (.agg #[.int .i64 0, .int .i64 0, .slice none 0 0, .int .i64 0]) 4 48 Tryd.underlying23 nhi nhz0 nhz1 nhz2 rfl (by decide) _ _ _ rfl (hrow4.1.alloc _) ⟨_, 0, none⟩ 1 1 [.int .i64 op, .int .i64 wd, .slice A2 args.length cap2, .int .i64 v] rfl rfl four_new (fun x hx => by simp at hx; rcases hx with rfl | rfl | rfl | rfl <;> rfl) (by unfold maxLen; omega) (by omega) (by first | omega | (simp; omega) | (simp at *; omega)) ?_; intro v' w3 hown' hgrow3 hnn)
        have HR5 := Lib.hid (NodesRow.snoc (n := ⟨op, wd, args.map (fun a => (ps.set k cs.length).getD a.toNat 0), v⟩) (cap := cap2) hrow4 ((Below.refl _ _).alloc (Nat.le_refl _) _) (by simpa using hown') hgrow3 HL2.out HF2.out)
        have hsg : g < S1.heap.size := lt_of_get rgS
        have HG5 := Lib.hid ((hgrow3.block g (by simp; have := hb4.size; omega) (fun e => by have := (hrow4.1.lt g e.symm).1; omega)).trans ((heap_alloc' (by have := hb4.size; omega) ((hb4.block g hsg).trans rgS))))
        have hb45 := hbS.trans (hb4.mono hbS.size)
        have HB5 := Lib.hid ((hb45.alloc hb45.size (.cells #[.int .i64 op, .int .i64 wd, .slice A2 args.length cap2, .int .i64 v] 65)).grown hgrow3 (by simp; have := hb45.size; omega) (fun q hq => by have := (hrow4.1.lt q hq).1; omega))
        have HT5 := Lib.hid (((hbutS.below hb4).alloc (.cells #[.int .i64 op, .int .i64 wd, .slice A2 args.length cap2, .int .i64 v] 65)).grown hgrow3 (fun q hq => (hrow4.1.lt q hq).1))
        clear hown' hgrow3 hrow4 hb45 hb4 rgS hbS hbutS
        go_wp2
        go_roundw
        case rel => exact ⟨k + 1, _, by omega, by go_num, by rw [HS.out]; exact HR5.out, by rw [HS.out]; exact HG5.out, HB5.out, HT5.out⟩
        case measure => simp [intOf]; omega
    · obtain rfl : k = ns.length := by omega
      have HPK := Lib.hid (picked_c (some ⟨g, 0, none⟩) ns.length (conK ns bs ns.length).2 (by rw [HKL.out.1]; exact hns) F cf fr hfr (by rw [HKL.out.1]; exact HFX.out) wr (LiesI.block rg) (HFF.out.below hb))
      rw [HKL.out.1] at HPK
      have qP := cell_block (i := 0) ((hbut.block P lP3 (by omega)).trans rP3)
      simp at qP
      have HLN := Lib.hid hlN
      clear hrow rg hbut
      go_wp2_with fail
      refine HPK.out.mono ?_
      rintro e W5 ⟨A', cap', rfl, hl5, _, hb5⟩
      have HF := Lib.hid (show ConeR w (coneN ns fr) (coneP ns fr) (.returned (.tuple #[.slice A0 (conK ns bs ns.length).1.length c0', .slice A' fr.length cap'])) W5 from
        ⟨A0, c0', A', cap', by rw [HCN.out, HCP.out, pickL_len], by rw [HCN.out]; exact hc0, by rw [HCN.out]; exact HLN.out.below hb5, by rw [HCP.out]; exact hl5, hb.trans (hb5.mono hb.size)⟩)
      clear hl5 hb5
      go_wp2
      go_ret2
      exact HF.out

end Go.Proofs.YtkdonapgonegkaaDoor
