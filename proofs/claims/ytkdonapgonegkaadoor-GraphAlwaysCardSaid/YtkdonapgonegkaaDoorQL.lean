/-
  Contracts of chapter 2 (graph): trials whose memory is their own, so that what is written beside them leaves them alone.
-/
import Derived.Test.YtkdonapgonegkaaDoorQJ
import Derived.Test.YtkdonapgonegkaaDoorQG
set_option linter.unusedSimpArgs false
set_option linter.unusedVariables false
namespace Go.Proofs.YtkdonapgonegkaaDoor
open Go.RowKit Go.BigFrame

/-- Nodes in memory, in blocks from q on. -/
def LiesNQ (w : World) (q : Nat) (A : Option Addr) (ns : List Nd) : Prop :=
  (∀ ad, A = some ad → q ≤ ad.block) ∧ (0 < ns.length → ∃ ad, A = some ad ∧ ad.block < w.heap.size ∧ ∀ i n, ns[i]? = some n →
    w.cell? (ad.add (i * 4)) = some (.int .i64 n.op) ∧ w.cell? ((ad.add (i * 4)).add 1) = some (.int .i64 n.wd) ∧ w.cell? ((ad.add (i * 4)).add 3) = some (.int .i64 n.v) ∧
    ∃ B cap, w.cell? ((ad.add (i * 4)).add 2) = some (.slice B n.args.length cap) ∧ LiesI w B n.args ∧ ∀ ab, B = some ab → q ≤ ab.block)
theorem LiesNQ.n {w : World} {q : Nat} {A : Option Addr} {ns : List Nd} (h : LiesNQ w q A ns) : LiesN w A ns := fun hp => by
  obtain ⟨ad, h1, h2, h3⟩ := h.2 hp
  exact ⟨ad, h1, h2, fun i n hi => by obtain ⟨c0, c1, c3, B, cap, c2, hl, _⟩ := h3 i n hi; exact ⟨c0, c1, c3, B, cap, c2, hl⟩⟩
theorem LiesNQ.mono {w : World} {q q' : Nat} {A : Option Addr} {ns : List Nd} (h : LiesNQ w q A ns) (hq : q' ≤ q) : LiesNQ w q' A ns :=
  ⟨fun ad e => Nat.le_trans hq (h.1 ad e), fun hp => by
    obtain ⟨ad, h1, h2, h3⟩ := h.2 hp
    exact ⟨ad, h1, h2, fun i n hi => by obtain ⟨c0, c1, c3, B, cap, c2, hl, hB⟩ := h3 i n hi; exact ⟨c0, c1, c3, B, cap, c2, hl, fun ab e => Nat.le_trans hq (hB ab e)⟩⟩⟩
theorem LiesNQ.below {w W : World} {q : Nat} {A : Option Addr} {ns : List Nd} (h : LiesNQ w q A ns) (hb : Below w.heap.size w W) : LiesNQ W q A ns :=
  ⟨h.1, fun hp => by
    obtain ⟨ad, rfl, h2, h3⟩ := h.2 hp
    have k : ∀ p : Addr, p.block = ad.block → W.cell? p = w.cell? p := fun p hp => hb.cell (p := p) (by rw [hp]; exact h2)
    refine ⟨ad, rfl, Nat.lt_of_lt_of_le h2 hb.size, fun i n hi => ?_⟩
    obtain ⟨c0, c1, c3, B, cap, c2, hl, hB⟩ := h3 i n hi
    exact ⟨(k _ (by rw [addB])).trans c0, (k _ (by rw [addB, addB])).trans c1, (k _ (by rw [addB, addB])).trans c3, B, cap, (k _ (by rw [addB, addB])).trans c2, hl.below hb, hB⟩⟩
theorem cell_set_ne {w : World} {g j : Nat} {u : Value} {p : Addr} (h : p.block ≠ g) : (w.setCell ⟨g, j, none⟩ u).cell? p = w.cell? p := by
  unfold World.cell?
  rw [heap_setCell_other w ⟨g, j, none⟩ p.block u h]
theorem LiesI.setX {w : World} {A : Option Addr} {ns : List Int} {g j : Nat} {u : Value} (h : LiesI w A ns) (hne : 0 < ns.length → ∀ ad, A = some ad → ad.block ≠ g) : LiesI (w.setCell ⟨g, j, none⟩ u) A ns := fun hp => by
  obtain ⟨ad, rfl, hb, hc⟩ := h hp
  have := hne hp ad rfl
  exact ⟨ad, rfl, by simpa using hb, fun i x hi => (cell_set_ne (by rw [addB]; exact this)).trans (hc i x hi)⟩
theorem LiesNQ.set {w : World} {q : Nat} {A : Option Addr} {ns : List Nd} {g j : Nat} {u : Value} (h : LiesNQ w q A ns) (hg : g < q) : LiesNQ (w.setCell ⟨g, j, none⟩ u) q A ns :=
  ⟨h.1, fun hp => by
    obtain ⟨ad, rfl, h2, h3⟩ := h.2 hp
    have h1 := h.1 ad rfl
    have k : ∀ p : Addr, p.block = ad.block → (w.setCell ⟨g, j, none⟩ u).cell? p = w.cell? p := fun p hp => cell_set_ne (by rw [hp]; omega)
    refine ⟨ad, rfl, by simpa using h2, fun i n hi => ?_⟩
    obtain ⟨c0, c1, c3, B, cap, c2, hl, hB⟩ := h3 i n hi
    exact ⟨(k _ (by rw [addB])).trans c0, (k _ (by rw [addB, addB])).trans c1, (k _ (by rw [addB, addB])).trans c3, B, cap, (k _ (by rw [addB, addB])).trans c2, hl.setX (fun _ ab e => by have := hB ab e; omega), hB⟩⟩
theorem NodesRow.liesQ {w : World} {base g q : Nat} {v : Value} {ns : List Nd} {xs : List Value} (h : NodesRow w base g v ns xs) (h1 : q ≤ base) (h2 : q ≤ g + 1) : ∃ A' cap', v = .slice A' ns.length cap' ∧ ns.length ≤ cap' ∧ LiesNQ w q A' ns := by
  rcases h.1.2 with ⟨rfl, h0⟩ | ⟨p, cap', cur, rfl, hb, _, hc, _⟩
  · exact ⟨none, 0, by rw [h0], by omega, (fun ad e => by cases e), fun hp => by omega⟩
  · refine ⟨_, cap', rfl, hc, fun ad e => by injection e with e; subst e; exact Nat.le_trans h1 hb, fun hp => ⟨_, rfl, (h.1.lt p rfl).2, fun i n hi => ?_⟩⟩
    obtain ⟨f0, f1, f3, B, bc, f2, hl, hB⟩ := h.2 i n hi
    exact ⟨h.1.cells (g := p) rfl _ _ f0, (by rw [add_add]; exact h.1.cells (g := p) rfl _ _ f1), (by rw [add_add]; exact h.1.cells (g := p) rfl _ _ f3), B, bc, (by rw [add_add]; exact h.1.cells (g := p) rfl _ _ f2), hl, fun ab e => by have := (hB ab e).1; omega⟩
def ConeQ (w : World) (cs : List Nd) (ps : List Int) (e : Ending) (w' : World) : Prop := ∃ A c B c2, e = .returned (.tuple #[.slice A cs.length c, .slice B ps.length c2]) ∧ cs.length ≤ c ∧ LiesNQ w' w.heap.size A cs ∧ LiesI w' B ps ∧ (∀ ad, B = some ad → w.heap.size ≤ ad.block) ∧ Below w.heap.size w w'
theorem own_copiedJ {w w' : World} {base : Nat} {e : TypeId} {v : Value} {xs : List Int} (h : w'.ownsRow base e 1 v xs.length (xs.map (.int .i64))) (hq : w.heap.size ≤ base) (hb : Below w.heap.size w w') : CopiedJ w xs (.returned v) w' := by
  rcases h.2 with ⟨rfl, h0⟩ | ⟨g, cap', cur, rfl, h1, _⟩
  · exact ⟨none, 0, by rw [h0], (fun hp => by omega), (fun ad e => by cases e), hb⟩
  · exact ⟨_, cap', rfl, LiesI.of_own h, fun ad e => by injection e with e; subst e; exact Nat.le_trans hq h1, hb⟩

set_option maxRecDepth 100000 in
set_option maxHeartbeats 1600000 in
theorem chosen_cJ (M : Option Addr) (cm : Nat) (bs : List Bool) (hbs : bs.length ≤ 65536) (w : World) (hM : LiesB w M bs) :
    Calls Tryd.prog 58 #[.slice M bs.length cm] w (CopiedJ w (choL bs)) := by
  obtain ⟨i0, hi, hz0, hz1, hz2⟩ := info_parts int_info
  have HM := Lib.hid hM
  clear hM
  go_enter Tryd.func58, Tryd.ntmps58
  go_wp2_with fail
  go_loopw [3, 8] (fun v3 v8 wr => ∃ k : Nat, k ≤ bs.length ∧ v8 = .int .i64 k ∧ wr.ownsRow w.heap.size 3 1 v3 (choK bs k).length ((choK bs k).map (Value.int .i64)) ∧ Below w.heap.size w wr) (fun _ v8 _ => bs.length - (intOf v8).toNat)
  case atStart => exact ⟨0, by omega, rfl, World.ownsRow_nil _ _ _ _, Below.refl _ _⟩
  case round =>
    obtain ⟨k, hk, rfl, hown, hb⟩ := hrel
    have hbs' := hb.size
    have hcl := choK_len (bs := bs) k
    by_cases hlt : k < bs.length
    · have hkk : (k : Int) < bs.length := by omega
      have HX := Lib.hid (List.getElem?_eq_getElem hlt)
      generalize bs[k] = b at *
      obtain ⟨ad, rfl, hbl, c0⟩ := HM.out.cell HX.out
      have c1 := (hb.cell (p := ad.add k) (by rw [addB]; exact hbl)).trans c0
      clear c0
      cases b with
      | false =>
        have HS := Lib.hid (choK_no HX.out)
        have HO := Lib.hid hown
        clear hown
        go_wp2
        go_roundw
        case rel => exact ⟨k + 1, by omega, by go_num, by rw [HS.out]; exact HO.out, hb⟩
        case measure => simp [intOf]; omega
      | true =>
        have HS := Lib.hid (choK_yes HX.out)
        generalize hm : (choK bs k).length = m at *
        go_wp2_with (at_builtin; refine wpList_append_own _ rfl _ _ 22 rfl w.heap.size 3 i0 (.int .i64 0) 1 8 Tryd.underlying22 hi hz0 hz1 hz2 rfl (by decide) _ _ _ rfl (hown.alloc _) ⟨_, 0, none⟩ 1 1 [.int .i64 _] rfl rfl (cell_one_new _ _ _) (fun x hx => by simp at hx; subst hx; rfl) (by unfold maxLen; omega) (by omega) (by first | omega | (simp; omega) | (simp at *; omega)) ?_; intro v' w3 hown' hgrow3 hnn)
        have HF := Lib.hid (own_snoc hown' hm.symm HS.out)
        have HB := Lib.hid ((hb.alloc hbs' (.cells #[.int .i64 k] 3)).grown hgrow3 (by simp; omega) (fun q hq => (hown.lt q hq).1))
        clear hown' hgrow3 hown
        go_wp2
        go_roundw
        case rel => exact ⟨k + 1, by omega, by go_num, HF.out, HB.out⟩
        case measure => simp [intOf]; omega
    · obtain rfl : k = bs.length := by omega
      have HF := Lib.hid (show CopiedJ w (choL bs) (.returned u3) wr from own_copiedJ hown (Nat.le_refl _) hb)
      clear hown
      go_wp2
      go_ret
      exact HF.out


set_option maxRecDepth 100000 in
set_option maxHeartbeats 1600000 in
theorem leavesBelow_cJ (A : Option Addr) (cap L : Nat) (hL : L ≤ 65536) (N : Option Addr) (capN : Nat) (ns : List Nd) (hns : ns.length ≤ 65536) (hall : ∀ k n, ns[k]? = some n → NodeOK ns L k n) (F : Option Addr) (cf : Nat) (fr : List Int) (hfr : fr.length ≤ 65536) (hf : ∀ x ∈ fr, isIx x ns.length = true) (w : World) (hN : LiesN w N ns) (hF : LiesI w F fr) :
    Calls Tryd.prog 60 #[.slice A L cap, .slice N ns.length capN, .slice F fr.length cf] w (CopiedJ w (lbL ns fr L)) := by
  obtain ⟨i0, hi, hz0, hz1, hz2⟩ := info_parts bool_info
  have HNN := Lib.hid hN
  have HALL := Lib.hid hall
  have HBE := Lib.hid (fun (W : World) (hb : Below w.heap.size w W) => below_c N capN ns hns L hall F cf fr hfr hf W (hN.below hb) (hF.below hb))
  clear hN hF hall hf
  go_enter Tryd.func60, Tryd.ntmps60
  go_wp2_with (refine wpList_make_full _ rfl _ _ 88 rfl w.heap.size 4 i0 _ 1 Tryd.underlying88 hi hz0 hz1 .i64 .i64 _ _ L rfl rfl rfl rfl (by rw [hz2]; omega) (by unfold maxLen; omega) (Nat.le_refl _) ?_; intro W1 hown hgr; have hb2 := (Below.refl w.heap.size w).grown hgr (Nat.le_refl _) (fun q hq => by cases hq); have rg : W1.heap[w.heap.size]? = some (.cells (rowB (List.replicate L false)) 4) := (by have := row_block hown rfl; rwa [rowB_made] at this); clear hown hgr)
  have lg := lt_of_get rg
  refine (HBE.out _ hb2).mono ?_
  rintro e W2 ⟨M, cm, rfl, hM, hfr2, hb3⟩
  have rg := (hb3.block _ lg).trans rg
  have hb4 := hb2.trans (hb3.mono hb2.size)
  have HFR := Lib.hid (fun ad h => Nat.lt_of_lt_of_le lg (hfr2 ad h))
  clear hfr2
  generalize hg : w.heap.size = g at *
  have hb0 : Below w.heap.size w W2 := by rw [hg]; exact hb4
  have HM := Lib.hid hM
  clear hb2 hb3 hb4 lg HBE hM
  have HBLn := Lib.hid (belL_len ns fr)
  rw [HBLn.out]
  go_wp2_with fail
  generalize hbs : belL ns fr = bs at *
  go_loopw [17] (fun v17 wr => ∃ k : Nat, k ≤ ns.length ∧ v17 = .int .i64 k ∧ wr.heap[g]? = some (.cells (rowB (useK ns bs L k)) 4) ∧ Below w.heap.size w wr ∧ But g W2 wr) (fun v17 _ => ns.length - (intOf v17).toNat)
  case atStart => exact ⟨0, by omega, rfl, rg, hb0, But.refl _ _⟩
  case round =>
    clear rg hb0
    obtain ⟨k, hk, rfl, rg, hb, hbm⟩ := hrel
    by_cases hlt : k < ns.length
    · have hkk : (k : Int) < ns.length := by omega
      have HX := Lib.hid (List.getElem?_eq_getElem hlt)
      generalize ns[k] = x at *
      obtain ⟨b, hbk'⟩ : ∃ b, bs[k]? = some b := ⟨_, List.getElem?_eq_getElem (by rw [HBLn.out]; exact hlt)⟩
      obtain ⟨am, rfl, ham, cm0⟩ := HM.out.cell hbk'
      have cm1 := (hbm.cell (p := am.add k) (by rw [addB]; exact ham) (by rw [addB]; exact Nat.ne_of_gt (HFR.out am rfl))).trans cm0
      have HOK := Lib.hid (HALL.out k x HX.out)
      obtain ⟨ad, rfl, hbl, c0, c1, c3, B, bc, c2, hB⟩ := HNN.out.cells HX.out
      have hbk : ∀ p : Addr, p.block = ad.block → wr.cell? p = w.cell? p := fun p hp => hb.cell (p := p) (by rw [hp]; exact hbl)
      have a0 := (hbk (ad.add (k * 4)) (by rw [addB])).trans c0
      have a1 : wr.cell? ⟨(ad.add (k * 4)).block, (ad.add (k * 4)).off + 1, none⟩ = some (.int .i64 x.wd) := (hbk ((ad.add (k * 4)).add 1) (by rw [addB, addB])).trans c1
      have a2 : wr.cell? ⟨(ad.add (k * 4)).block, (ad.add (k * 4)).off + 2, none⟩ = some (.slice B x.args.length bc) := (hbk ((ad.add (k * 4)).add 2) (by rw [addB, addB])).trans c2
      have a3 : wr.cell? ⟨(ad.add (k * 4)).block, (ad.add (k * 4)).off + 3, none⟩ = some (.int .i64 x.v) := (hbk ((ad.add (k * 4)).add 3) (by rw [addB, addB])).trans c3
      clear c0 c1 c2 c3 hbk
      have HBL := Lib.hid hB
      clear hB
      have HBK := Lib.hid hbk'
      clear cm0 hbk' a1 a2 HBL
      obtain ⟨op, wd, args, v⟩ := x
      simp only at a0 a3
      by_cases hop : op = 1
      · subst hop
        cases b with
        | true =>
          have HS := Lib.hid (useK_yes (L := L) HX.out HBK.out rfl)
          obtain ⟨v0, v1⟩ := HOK.out.lf rfl
          simp only at v0 v1 HS
          obtain ⟨p, rfl⟩ := Int.eq_ofNat_of_zero_le v0
          obtain ⟨u, hu⟩ : ∃ u, (useK ns bs L k)[p]? = some u := ⟨_, List.getElem?_eq_getElem (by rw [useK_len]; omega)⟩
          have qp := (cell_block (i := p) rg).trans (rowB_in hu)
          have fp := free_block (i := p) rg
          have HF2 := Lib.hid (show (wr.setCell ⟨g, p, none⟩ (.bool true)).heap[g]? = some (.cells (rowB (useK ns bs L (k + 1))) 4) ∧ Below w.heap.size w (wr.setCell ⟨g, p, none⟩ (.bool true)) ∧ But g W2 (wr.setCell ⟨g, p, none⟩ (.bool true)) from
            ⟨by rw [heap_set rg, rowB_set, HS.out]; rfl, hb.setCell (p := ⟨g, p, none⟩) (Nat.le_of_eq hg) _, hbm.setCell⟩)
          clear rg hb hbm hu HS
          go_wp2
          go_roundw
          case rel => exact ⟨k + 1, by omega, by go_num, HF2.out.1, HF2.out.2.1, HF2.out.2.2⟩
          case measure => simp [intOf]; omega
        | false =>
          have HS := Lib.hid (useK_no (L := L) HX.out HBK.out (fun h => by cases h.1))
          go_wp2
          go_roundw
          case rel => exact ⟨k + 1, by omega, by go_num, by rw [HS.out]; exact rg, hb, hbm⟩
          case measure => simp [intOf]; omega
      · have ho1 : (op == 1) = false := by simpa using hop
        have HS := Lib.hid (useK_no (L := L) HX.out HBK.out (fun h => hop h.2))
        clear hop
        cases b with
        | true =>
          go_wp2
          go_roundw
          case rel => exact ⟨k + 1, by omega, by go_num, by rw [HS.out]; exact rg, hb, hbm⟩
          case measure => simp [intOf]; omega
        | false =>
          go_wp2
          go_roundw
          case rel => exact ⟨k + 1, by omega, by go_num, by rw [HS.out]; exact rg, hb, hbm⟩
          case measure => simp [intOf]; omega
    · obtain rfl : k = ns.length := by omega
      have HUL := Lib.hid (useK_len (ns := ns) (bs := bs) (L := L) ns.length)
      have HLB := Lib.hid (show lbL ns fr L = choL (useK ns bs L ns.length) by unfold lbL; rw [hbs])
      generalize useK ns bs L ns.length = us at *
      have HCH := Lib.hid (chosen_cJ (some ⟨g, 0, none⟩) L us (by rw [HUL.out]; exact hL) wr (LiesB.block rg))
      rw [HUL.out] at HCH
      clear rg
      go_wp2_with fail
      refine HCH.out.mono ?_
      rintro e W5 ⟨A', cap', rfl, hl5, hq5, hb5⟩
      have HF := Lib.hid (show CopiedJ w (lbL ns fr L) (.returned (.slice A' (choL us).length cap')) W5 from ⟨A', cap', by rw [HLB.out], by rw [HLB.out]; exact hl5, fun ad h => Nat.le_trans hb.size (hq5 ad h), hb.trans (hb5.mono hb.size)⟩)
      clear hl5 hq5 hb5
      go_wp2
      go_ret
      exact HF.out


set_option maxRecDepth 100000 in
set_option maxHeartbeats 1600000 in
theorem coneOf_cQ (N : Option Addr) (capN : Nat) (ns : List Nd) (hns : ns.length ≤ 65536) (L : Nat) (hall : ∀ k n, ns[k]? = some n → NodeOK ns L k n) (F : Option Addr) (cf : Nat) (fr : List Int) (hfr : fr.length ≤ 65536) (hf : ∀ x ∈ fr, isIx x ns.length = true) (w : World) (hN : LiesN w N ns) (hF : LiesI w F fr) :
    Calls Tryd.prog 93 #[.slice N ns.length capN, .slice F fr.length cf] w (ConeQ w (coneN ns fr) (coneP ns fr)) := by
  obtain ⟨i0, hi, hz0, hz1, hz2⟩ := info_parts int_info
  obtain ⟨ni0, nhi, nhz0, nhz1, nhz2⟩ := info_parts node_info
  have HNN := Lib.hid hN
  have HFF := Lib.hid hF
  have HALL := Lib.hid hall
  have HFX := Lib.hid hf
  have HBE := Lib.hid (fun (W : World) (hb : Below w.heap.size w W) => below_c N capN ns hns L hall F cf fr hfr hf W (hN.below hb) (hF.below hb))
  clear hN hF hall hf
  go_enter Tryd.func93, Tryd.ntmps93
  go_wp2_with (refine wpList_make_full _ rfl _ _ 22 rfl w.heap.size 3 i0 _ 1 Tryd.underlying22 hi hz0 hz1 .i64 .i64 _ _ ns.length rfl rfl rfl rfl (by rw [hz2]; omega) (by unfold maxLen; omega) (Nat.le_refl _) ?_; intro W1 hown hgr; have hb2 := (Below.refl w.heap.size w).grown hgr (Nat.le_refl _) (fun q hq => by cases hq); have rg : W1.heap[w.heap.size]? = some (.cells (rowA (List.replicate ns.length 0)) 3) := (by have := row_block hown rfl; rwa [row_made] at this); clear hown hgr)
  have lg := lt_of_get rg
  have rP : (W1.alloc (.cells #[.slice (some ⟨w.heap.size, 0, none⟩) ns.length ns.length] 22)).heap[W1.heap.size]? = some (.cells #[.slice (some ⟨w.heap.size, 0, none⟩) ns.length ns.length] 22) := heap_alloc_new _ _
  have rg1 := heap_alloc' (o := .cells #[.slice (some ⟨w.heap.size, 0, none⟩) ns.length ns.length] 22) lg rg
  have hb3 := hb2.alloc hb2.size (.cells #[.slice (some ⟨w.heap.size, 0, none⟩) ns.length ns.length] 22)
  have hPg : w.heap.size < W1.heap.size := lg
  generalize W1.alloc (.cells #[.slice (some ⟨w.heap.size, 0, none⟩) ns.length ns.length] 22) = W2 at *
  clear rg hb2 lg
  generalize W1.heap.size = P at *
  refine (HBE.out _ hb3).mono ?_
  rintro e W3 ⟨M, cm, rfl, hM, hfr2, hb4⟩
  have rg := (hb4.block _ (lt_of_get rg1)).trans rg1
  have rP3 := (hb4.block _ (lt_of_get rP)).trans rP
  have hb5 := hb3.trans (hb4.mono hb3.size)
  have HFR := Lib.hid (fun ad h => Nat.lt_of_lt_of_le (lt_of_get rg1) (hfr2 ad h))
  have HM := Lib.hid hM
  have HBLn := Lib.hid (belL_len ns fr)
  rw [HBLn.out]
  clear hM hfr2 hb4 hb3 rg1 rP HBE
  generalize hg : w.heap.size = g at *
  have hb0 : Below w.heap.size w W3 := by rw [hg]; exact hb5
  have HSZ := Lib.hid hb0.size
  clear hb5
  have lP3 := lt_of_get rP3
  go_wp2_with fail
  have HCN := Lib.hid (show coneN ns fr = (conK ns (belL ns fr) ns.length).1 from rfl)
  have HCP := Lib.hid (show coneP ns fr = pickL (conK ns (belL ns fr) ns.length).2 fr from rfl)
  generalize hbs : belL ns fr = bs at *
  go_loopw [6, 17] (fun v6 v17 wr => ∃ (k : Nat) (xs : List Value), k ≤ ns.length ∧ v17 = .int .i64 k ∧ NodesRow wr W3.heap.size g v6 (conK ns bs k).1 xs ∧ wr.heap[g]? = some (.cells (rowA (conK ns bs k).2) 3) ∧ Below w.heap.size w wr ∧ But g W3 wr) (fun _ v17 _ => ns.length - (intOf v17).toNat)
  case atStart => exact ⟨0, [], by omega, rfl, NodesRow.nil _ _ _, rg, hb0, But.refl _ _⟩
  case round =>
    clear rg hb0
    obtain ⟨k, xs, hk, rfl, hrow, rg, hb, hbut⟩ := hrel
    obtain ⟨A0, c0', hv6, hc0, hlN⟩ := hrow.liesQ (q := w.heap.size) HSZ.out (by omega)
    subst hv6
    have HKL := Lib.hid (conK_len (ns := ns) (bs := bs) k)
    by_cases hlt : k < ns.length
    · have hkk : (k : Int) < ns.length := by omega
      have HX := Lib.hid (List.getElem?_eq_getElem hlt)
      generalize ns[k] = x at *
      obtain ⟨b, hbk'⟩ : ∃ b, bs[k]? = some b := ⟨_, List.getElem?_eq_getElem (by rw [HBLn.out]; exact hlt)⟩
      obtain ⟨am, rfl, ham, cm0⟩ := HM.out.cell hbk'
      have cm1 := (hbut.cell (p := am.add k) (by rw [addB]; exact ham) (by rw [addB]; exact Nat.ne_of_gt (HFR.out am rfl))).trans cm0
      have HBK := Lib.hid hbk'
      clear cm0 hbk' hlN
      cases b with
      | false =>
        have HS := Lib.hid (conK_no HX.out HBK.out)
        have HR := Lib.hid hrow
        clear hrow
        go_wp2
        go_roundw
        case rel => exact ⟨k + 1, xs, by omega, by go_num, by rw [HS.out]; exact HR.out, by rw [HS.out]; exact rg, hb, hbut⟩
        case measure => simp [intOf]; omega
      | true =>
        have HS := Lib.hid (conK_yes HX.out HBK.out)
        have HOK := Lib.hid (HALL.out k x HX.out)
        have qP := cell_block (i := 0) ((hbut.block P lP3 (by omega)).trans rP3)
        simp at qP
        obtain ⟨u, hu⟩ : ∃ u, (conK ns bs k).2[k]? = some u := ⟨_, List.getElem?_eq_getElem (by rw [HKL.out.1]; exact hlt)⟩
        have qk := (cell_block (i := k) rg).trans (rowA_in hu)
        have fk := free_block (i := k) rg
        have HML := Lib.hid HKL.out.2
        have HPL := Lib.hid HKL.out.1
        have hml := HML.out
        have hc0k : (conK ns bs k).1.length ≤ 65536 := by omega
        clear hu
        generalize conK ns bs k = CK at *
        obtain ⟨cs, ps⟩ := CK
        simp only at *
        have HROW := Lib.hid hrow
        clear hrow
        go_upto_region 8 with (fail)
        have rgS : (wr.setCell ⟨g, k, none⟩ (.int .i64 (cs.length : Int))).heap[g]? = some (.cells (rowA (ps.set k cs.length)) 3) := by rw [heap_set rg, rowA_set]
        have hbS : Below w.heap.size w (wr.setCell ⟨g, k, none⟩ (.int .i64 (cs.length : Int))) := hb.setCell (p := ⟨g, k, none⟩) (Nat.le_of_eq hg) _
        have hbutS : But g W3 (wr.setCell ⟨g, k, none⟩ (.int .i64 (cs.length : Int))) := hbut.setCell
        have HROWS := Lib.hid (HROW.out.setCell (m := g) (j := k) (u := .int .i64 (cs.length : Int)) (by omega) (Nat.le_refl _))
        clear rg hb hbut HROW qk fk qP
        generalize wr.setCell ⟨g, k, none⟩ (.int .i64 (cs.length : Int)) = S1 at *
        have qP := cell_block (i := 0) ((hbutS.block P lP3 (by omega)).trans rP3)
        simp at qP
        obtain ⟨ad, rfl, hbl, c0, c1, c3, B, bc, c2, hB⟩ := HNN.out.cells HX.out
        have hbk : ∀ p : Addr, p.block = ad.block → S1.cell? p = w.cell? p := fun p hp => hbS.cell (p := p) (by rw [hp]; exact hbl)
        have a0 := (hbk (ad.add (k * 4)) (by rw [addB])).trans c0
        have a1 : S1.cell? ⟨(ad.add (k * 4)).block, (ad.add (k * 4)).off + 1, none⟩ = some (.int .i64 x.wd) := (hbk ((ad.add (k * 4)).add 1) (by rw [addB, addB])).trans c1
        have a2 : S1.cell? ⟨(ad.add (k * 4)).block, (ad.add (k * 4)).off + 2, none⟩ = some (.slice B x.args.length bc) := (hbk ((ad.add (k * 4)).add 2) (by rw [addB, addB])).trans c2
        have a3 : S1.cell? ⟨(ad.add (k * 4)).block, (ad.add (k * 4)).off + 3, none⟩ = some (.int .i64 x.v) := (hbk ((ad.add (k * 4)).add 3) (by rw [addB, addB])).trans c3
        clear c0 c1 c2 c3 hbk
        have HBL := Lib.hid hB
        clear hB
        have HAL := Lib.hid HOK.out.al
        obtain ⟨op, wd, args, v⟩ := x
        simp only at a0 a1 a2 a3 HBL HAL HS
        have hal : args.length ≤ 65536 := by have := HAL.out; omega
        have HAI : Hid (∀ a ∈ args, 0 ≤ a ∧ a < k) := Lib.hid (fun a ha => by
          obtain ⟨i, hi, rfl⟩ := List.mem_iff_getElem.1 ha
          exact HOK.out.ai i _ (List.getElem?_eq_getElem hi))
        have HWA := Lib.hid (withArgs_cone P (fun a => (ps.set k cs.length).getD a.toNat 0) op wd v B bc args hal S1 (HBL.out.below hbS) (fun a ha W hbW => by
          obtain ⟨h0, h1⟩ := HAI.out a ha
          obtain ⟨j, rfl⟩ := Int.eq_ofNat_of_zero_le h0
          have hj : j < (ps.set k cs.length).length := by rw [List.length_set, HPL.out]; omega
          refine coneOf1_c j ns.length ns.length _ P ⟨g, 0, none⟩ (by omega) hns W ?_ ?_
          · rw [hbW.cell (p := ⟨P, 0, none⟩) (Nat.lt_of_lt_of_le lP3 hbutS.size)]; exact qP
          · rw [Addr.add_lit, Nat.zero_add]
            refine (cell_block ((hbW.block g (lt_of_get rgS)).trans rgS)).trans (rowA_in ?_)
            simp [List.getD, List.getElem?_eq_getElem hj]))
        have lW3 : W3.heap.size ≤ S1.heap.size := hbutS.size
        go_wp2_with fail
        refine HWA.out.mono ?_
        rintro e W4 ⟨A2, cap2, rfl, hc2, hl2, hf2, hb4⟩
        rw [List.length_map]
        have hrow4 := HROWS.out.below hb4
        have lW4 := Nat.le_trans lW3 hb4.size
        have HL2 := Lib.hid hl2
        have HF2 : Hid (∀ ad, A2 = some ad → g < ad.block ∧ ad.block < W4.heap.size ∧ ∀ cur fz, W4.heap[ad.block]? ≠ some (.cells cur 65 fz)) := Lib.hid (fun ad h => by
          obtain ⟨h1, cur, h2⟩ := hf2 ad h
          refine ⟨by omega, lt_of_get h2, fun c z h3 => ?_⟩
          rw [h2] at h3
          simp at h3)
        clear hc2 hl2 hf2 a0 a1 a2 a3 qP
        go_wp2_with (at_builtin; refine wpList_append_own _ rfl _ _ 23 rfl W3.heap.size 65 ni0 (.agg #[.int .i64 0, .int .i64 0, .slice none 0 0, .int .i64 0]) 4 48 Tryd.underlying23 nhi nhz0 nhz1 nhz2 rfl (by decide) _ _ _ rfl (hrow4.1.alloc _) ⟨_, 0, none⟩ 1 1 [.int .i64 op, .int .i64 wd, .slice A2 args.length cap2, .int .i64 v] rfl rfl four_new (fun x hx => by simp at hx; rcases hx with rfl | rfl | rfl | rfl <;> rfl) (by unfold maxLen; omega) (by omega) (by first | omega | (simp; omega) | (simp at *; omega)) ?_; intro v' w3 hown' hgrow3 hnn)
        have HR5 := Lib.hid (NodesRow.snoc (n := ⟨op, wd, args.map (fun a => (ps.set k cs.length).getD a.toNat 0), v⟩) (cap := cap2) hrow4 ((Below.refl _ _).alloc (Nat.le_refl _) _) (by simpa using hown') hgrow3 HL2.out HF2.out)
        have hsg : g < S1.heap.size := lt_of_get rgS
        have HG5 := Lib.hid ((hgrow3.block g (by simp; have := hb4.size; omega) (fun e => by have := (hrow4.1.lt g e.symm).1; omega)).trans ((heap_alloc' (by have := hb4.size; omega) ((hb4.block g hsg).trans rgS))))
        have hb45 := hbS.trans (hb4.mono hbS.size)
        have HB5 := Lib.hid ((hb45.alloc hb45.size (.cells #[.int .i64 op, .int .i64 wd, .slice A2 args.length cap2, .int .i64 v] 65)).grown hgrow3 (by simp; have := hb45.size; omega) (fun q hq => by have := (hrow4.1.lt q hq).1; omega))
        have HT5 := Lib.hid (((hbutS.below hb4).alloc (.cells #[.int .i64 op, .int .i64 wd, .slice A2 args.length cap2, .int .i64 v] 65)).grown hgrow3 (fun q hq => (hrow4.1.lt q hq).1))
        clear hown' hgrow3 hrow4 hb45 hb4 rgS hbS hbutS
        go_wp2
        go_roundw
        case rel => exact ⟨k + 1, _, by omega, by go_num, by rw [HS.out]; exact HR5.out, by rw [HS.out]; exact HG5.out, HB5.out, HT5.out⟩
        case measure => simp [intOf]; omega
    · obtain rfl : k = ns.length := by omega
      have HPK := Lib.hid (picked_c (some ⟨g, 0, none⟩) ns.length (conK ns bs ns.length).2 (by rw [HKL.out.1]; exact hns) F cf fr hfr (by rw [HKL.out.1]; exact HFX.out) wr (LiesI.block rg) (HFF.out.below hb))
      rw [HKL.out.1] at HPK
      have qP := cell_block (i := 0) ((hbut.block P lP3 (by omega)).trans rP3)
      simp at qP
      have HLN := Lib.hid hlN
      clear hrow rg hbut
      go_wp2_with fail
      refine HPK.out.mono ?_
      rintro e W5 ⟨A', cap', rfl, hl5, hq5, hb5⟩
      have HF := Lib.hid (show ConeQ w (coneN ns fr) (coneP ns fr) (.returned (.tuple #[.slice A0 (conK ns bs ns.length).1.length c0', .slice A' fr.length cap'])) W5 from
        ⟨A0, c0', A', cap', by rw [HCN.out, HCP.out, pickL_len], by rw [HCN.out]; exact hc0, by rw [HCN.out]; exact HLN.out.below hb5, by rw [HCP.out]; exact hl5, fun ad h => Nat.le_trans hb.size (hq5 ad h), hb.trans (hb5.mono hb.size)⟩)
      clear hl5 hq5 hb5
      go_wp2
      go_ret2
      exact HF.out


/-- What trials hold, in memory of their own (but for the leaves). -/
structure CaughtQ (w : World) (q : Nat) (A : Option Addr) (b3 b9 b7 b8 : Nat) (ls : List Int) (ns : List Nd) (fr : List Int) : Prop where
  m3 : q ≤ b3
  m9 : q ≤ b9
  m7 : q ≤ b7
  m8 : q ≤ b8
  leaves : ∃ cap, w.heap[b3]? = some (.cells #[.slice A ls.length cap] 22) ∧ LiesI w A ls
  used : ∃ U cu, w.heap[b9]? = some (.cells #[.slice U (lbL ns fr ls.length).length cu] 22) ∧ LiesI w U (lbL ns fr ls.length) ∧ ∀ ad, U = some ad → q ≤ ad.block
  cone : ∃ C cc, w.heap[b7]? = some (.cells #[.slice C (coneN ns fr).length cc] 23) ∧ LiesNQ w q C (coneN ns fr)
  places : ∃ D cd, w.heap[b8]? = some (.cells #[.slice D (coneP ns fr).length cd] 22) ∧ LiesI w D (coneP ns fr) ∧ ∀ ad, D = some ad → q ≤ ad.block
section
variable {w W : World} {q : Nat} {A : Option Addr} {b3 b9 b7 b8 : Nat} {ls : List Int} {ns : List Nd} {fr : List Int}
theorem CaughtQ.below (h : CaughtQ w q A b3 b9 b7 b8 ls ns fr) (hb : Below w.heap.size w W) : CaughtQ W q A b3 b9 b7 b8 ls ns fr := by
  obtain ⟨m3, m9, m7, m8, ⟨c1, h1, l1⟩, ⟨U, c4, h4, l4, q4⟩, ⟨C, c5, h5, l5⟩, ⟨D, c6, h6, l6, q6⟩⟩ := h
  exact ⟨m3, m9, m7, m8, ⟨c1, (hb.block _ (lt_of_get h1)).trans h1, l1.below hb⟩, ⟨U, c4, (hb.block _ (lt_of_get h4)).trans h4, l4.below hb, q4⟩, ⟨C, c5, (hb.block _ (lt_of_get h5)).trans h5, l5.below hb⟩, ⟨D, c6, (hb.block _ (lt_of_get h6)).trans h6, l6.below hb, q6⟩⟩
theorem CaughtQ.set {g j : Nat} {u : Value} (h : CaughtQ w q A b3 b9 b7 b8 ls ns fr) (hg : g < q) (hA : 0 < ls.length → ∀ ad, A = some ad → ad.block ≠ g) : CaughtQ (w.setCell ⟨g, j, none⟩ u) q A b3 b9 b7 b8 ls ns fr := by
  obtain ⟨m3, m9, m7, m8, ⟨c1, h1, l1⟩, ⟨U, c4, h4, l4, q4⟩, ⟨C, c5, h5, l5⟩, ⟨D, c6, h6, l6, q6⟩⟩ := h
  exact ⟨m3, m9, m7, m8, ⟨c1, heap_set_other h1 (by omega), l1.setX hA⟩, ⟨U, c4, heap_set_other h4 (by omega), l4.setX (fun _ ad e => by have := q4 ad e; omega), q4⟩, ⟨C, c5, heap_set_other h5 (by omega), l5.set hg⟩, ⟨D, c6, heap_set_other h6 (by omega), l6.setX (fun _ ad e => by have := q6 ad e; omega), q6⟩⟩
end
def TrialsQ (w : World) (A : Option Addr) (ls : List Int) (ns : List Nd) (fr : List Int) (e : Ending) (w' : World) : Prop :=
  ∃ b3 b4 b5 b9 b7 b8, e = .returned (.func (.func 94) #[] #[.pointer (some ⟨b3, 0, none⟩), .pointer (some ⟨b4, 0, none⟩), .pointer (some ⟨b5, 0, none⟩), .pointer (some ⟨b9, 0, none⟩), .pointer (some ⟨b7, 0, none⟩), .pointer (some ⟨b8, 0, none⟩)]) ∧ Caught w' b3 b4 b5 b9 b7 b8 ls ns fr ∧ CaughtQ w' w.heap.size A b3 b9 b7 b8 ls ns fr ∧ Below w.heap.size w w'

set_option maxRecDepth 100000 in
set_option maxHeartbeats 1600000 in
theorem trials_cQ (A : Option Addr) (cap : Nat) (ls : List Int) (hls : ls.length ≤ 65536) (N : Option Addr) (capN : Nat) (ns : List Nd) (hns : ns.length ≤ 65536) (hall : ∀ k n, ns[k]? = some n → NodeOK ns ls.length k n) (F : Option Addr) (cf : Nat) (fr : List Int) (hfr : fr.length ≤ 65536) (hf : ∀ x ∈ fr, isIx x ns.length = true) (w : World) (hA : LiesI w A ls) (hN : LiesN w N ns) (hF : LiesI w F fr) :
    Calls Tryd.prog 74 #[.slice A ls.length cap, .slice N ns.length capN, .slice F fr.length cf] w (TrialsQ w A ls ns fr) := by
  have HA := Lib.hid hA
  have HN := Lib.hid hN
  have HF := Lib.hid hF
  have HCO := Lib.hid (fun (W : World) (hb : Below w.heap.size w W) => coneOf_cQ N capN ns hns ls.length hall F cf fr hfr hf W (hN.below hb) (hF.below hb))
  have HLB := Lib.hid (fun (W : World) (hb : Below w.heap.size w W) => leavesBelow_cJ A cap ls.length hls N capN ns hns hall F cf fr hfr hf W (hN.below hb) (hF.below hb))
  clear hA hN hF hall hf
  go_enter Tryd.func74, Tryd.ntmps74
  go_wp2_with fail
  have r3 : (((w.alloc (.cells #[.slice A ls.length cap] 22)).alloc (.cells #[.slice N ns.length capN] 23)).alloc (.cells #[.slice F fr.length cf] 22)).heap[w.heap.size]? = some (.cells #[.slice A ls.length cap] 22) := heap_alloc' (by simp; omega) (heap_alloc' (by simp) (heap_alloc_new _ _))
  have r4 : (((w.alloc (.cells #[.slice A ls.length cap] 22)).alloc (.cells #[.slice N ns.length capN] 23)).alloc (.cells #[.slice F fr.length cf] 22)).heap[w.heap.size + 1]? = some (.cells #[.slice N ns.length capN] 23) := heap_alloc' (by simp) (heap_alloc_at (by simp))
  have r5 : (((w.alloc (.cells #[.slice A ls.length cap] 22)).alloc (.cells #[.slice N ns.length capN] 23)).alloc (.cells #[.slice F fr.length cf] 22)).heap[w.heap.size + 2]? = some (.cells #[.slice F fr.length cf] 22) := heap_alloc_at (by simp)
  have hb0 : Below w.heap.size w (((w.alloc (.cells #[.slice A ls.length cap] 22)).alloc (.cells #[.slice N ns.length capN] 23)).alloc (.cells #[.slice F fr.length cf] 22)) := (((Below.refl _ _).alloc (Nat.le_refl _) _).alloc (by simp) _).alloc (by simp; omega) _
  generalize (((w.alloc (.cells #[.slice A ls.length cap] 22)).alloc (.cells #[.slice N ns.length capN] 23)).alloc (.cells #[.slice F fr.length cf] 22)) = W0 at *
  refine (HCO.out _ hb0).mono ?_
  rintro e W1 ⟨C, cc, D, cd, rfl, _, hC, hD, hDq, hb1⟩
  have hC := hC.mono hb0.size
  have HDQ := Lib.hid (fun ad h => Nat.le_trans hb0.size (hDq ad h))
  clear hDq
  have s3 := (hb1.block _ (lt_of_get r3)).trans r3
  have s4 := (hb1.block _ (lt_of_get r4)).trans r4
  have s5 := (hb1.block _ (lt_of_get r5)).trans r5
  have hb01 := hb0.trans (hb1.mono hb0.size)
  have HC := Lib.hid hC
  have HD := Lib.hid hD
  clear r3 r4 r5 hb0 hb1 hC hD
  have t3 := cell_block (i := 0) s3
  have t4 := cell_block (i := 0) s4
  have t5 := cell_block (i := 0) s5
  simp at t3 t4 t5
  have k3 := lt_of_get s3
  have k4 := lt_of_get s4
  have k5 := lt_of_get s5
  go_wp2_with fail
  have u3 := heap_alloc' (o := .cells #[.slice D (coneP ns fr).length cd] 22) (by simp; omega) (heap_alloc' (o := .cells #[.slice C (coneN ns fr).length cc] 23) k3 s3)
  have u4 := heap_alloc' (o := .cells #[.slice D (coneP ns fr).length cd] 22) (by simp; omega) (heap_alloc' (o := .cells #[.slice C (coneN ns fr).length cc] 23) k4 s4)
  have u5 := heap_alloc' (o := .cells #[.slice D (coneP ns fr).length cd] 22) (by simp; omega) (heap_alloc' (o := .cells #[.slice C (coneN ns fr).length cc] 23) k5 s5)
  have u7 : ((W1.alloc (.cells #[.slice C (coneN ns fr).length cc] 23)).alloc (.cells #[.slice D (coneP ns fr).length cd] 22)).heap[W1.heap.size]? = some (.cells #[.slice C (coneN ns fr).length cc] 23) := heap_alloc' (by simp) (heap_alloc_new _ _)
  have u8 : ((W1.alloc (.cells #[.slice C (coneN ns fr).length cc] 23)).alloc (.cells #[.slice D (coneP ns fr).length cd] 22)).heap[W1.heap.size + 1]? = some (.cells #[.slice D (coneP ns fr).length cd] 22) := heap_alloc_at (by simp)
  have hb2 : Below W1.heap.size W1 ((W1.alloc (.cells #[.slice C (coneN ns fr).length cc] 23)).alloc (.cells #[.slice D (coneP ns fr).length cd] 22)) := ((Below.refl _ _).alloc (Nat.le_refl _) _).alloc (by simp) _
  generalize ((W1.alloc (.cells #[.slice C (coneN ns fr).length cc] 23)).alloc (.cells #[.slice D (coneP ns fr).length cd] 22)) = W2 at *
  have HB2 := Lib.hid (hb01.trans (hb2.mono hb01.size))
  have HQ1 := Lib.hid hb01.size
  have HC2 := Lib.hid (HC.out.below hb2)
  have HD2 := Lib.hid (HD.out.below hb2)
  clear s3 s4 s5 t3 t4 t5 k3 k4 k5 hb01 hb2 HC HD
  generalize W1.heap.size = q at *
  refine (HLB.out _ HB2.out).mono ?_
  rintro e W3 ⟨U, cu, rfl, hU, hUq, hb3⟩
  have HUQ := Lib.hid (fun ad h => Nat.le_trans HB2.out.size (hUq ad h))
  have HW3 := Lib.hid (Nat.le_trans HB2.out.size hb3.size)
  clear hUq
  have HFIN := Lib.hid (show Caught (W3.alloc (.cells #[.slice U (lbL ns fr ls.length).length cu] 22)) w.heap.size (w.heap.size + 1) (w.heap.size + 2) W3.heap.size q (q + 1) ls ns fr ∧ CaughtQ (W3.alloc (.cells #[.slice U (lbL ns fr ls.length).length cu] 22)) w.heap.size A w.heap.size W3.heap.size q (q + 1) ls ns fr ∧ Below w.heap.size w (W3.alloc (.cells #[.slice U (lbL ns fr ls.length).length cu] 22)) from by
    have hb4 : Below W3.heap.size W3 (W3.alloc (.cells #[.slice U (lbL ns fr ls.length).length cu] 22)) := (Below.refl _ _).alloc (Nat.le_refl _) _
    have hb5 := HB2.out.trans (hb3.mono HB2.out.size)
    have hb6 := hb5.trans (hb4.mono hb5.size)
    have hbq := hb3.trans (hb4.mono hb3.size)
    exact ⟨⟨⟨A, cap, (hbq.block _ (lt_of_get u3)).trans u3, HA.out.below hb6⟩, ⟨N, capN, (hbq.block _ (lt_of_get u4)).trans u4, HN.out.below hb6⟩, ⟨F, cf, (hbq.block _ (lt_of_get u5)).trans u5, HF.out.below hb6⟩,
      ⟨U, cu, heap_alloc_new _ _, hU.below hb4⟩, ⟨C, cc, (hbq.block _ (lt_of_get u7)).trans u7, (HC2.out.below hbq).n⟩, ⟨D, cd, (hbq.block _ (lt_of_get u8)).trans u8, HD2.out.below hbq⟩⟩,
      ⟨Nat.le_refl _, HW3.out, HQ1.out, Nat.le_succ_of_le HQ1.out, ⟨cap, (hbq.block _ (lt_of_get u3)).trans u3, HA.out.below hb6⟩, ⟨U, cu, heap_alloc_new _ _, hU.below hb4, HUQ.out⟩, ⟨C, cc, (hbq.block _ (lt_of_get u7)).trans u7, HC2.out.below hbq⟩, ⟨D, cd, (hbq.block _ (lt_of_get u8)).trans u8, HD2.out.below hbq, HDQ.out⟩⟩, hb6⟩)
  clear u3 u4 u5 u7 u8 hU hb3
  go_wp2
  go_ret
  exact ⟨_, _, _, _, _, _, rfl, HFIN.out.1, HFIN.out.2.1, HFIN.out.2.2⟩


set_option maxRecDepth 100000 in
set_option maxHeartbeats 1600000 in
theorem trials2_in (n b3 b4 b5 b9 b7 b8 : Nat) (ls : List Int) (ns : List Nd) (fr : List Int) (ok : TriOK ls ns fr) (A0 : Option Addr) (q w0s : Nat) (l : Nat) (J Jx : Nat → World → Prop)
    (hJb : ∀ k W W', J k W → Below W.heap.size W W' → J k W') (hJ0 : ∀ k W, J k W → CaughtQ W q A0 b3 b9 b7 b8 ls ns fr ∧ w0s ≤ W.heap.size)
    (hY : ∀ (k : Nat) W A1 c1 A2 c2, J k W → (k : Int) < pw (bitsL ls ns fr) → LiesI W A1 (triV ls ns fr k) → (∀ ad, A1 = some ad → w0s ≤ ad.block) → LiesI W A2 (triN ls ns fr k) → YieldAt Fence.wide (n - 1) Tryd.prog l #[.slice A1 ls.length c1, .slice A2 fr.length c2] W fun e W' => ∃ b : Bool, e = .returned (.bool b) ∧ (b = true → J (k + 1) W') ∧ (b = false → Jx k W'))
    (W : World) (h0 : J 0 W) (hc : Caught W b3 b4 b5 b9 b7 b8 ls ns fr) :
    CallsIn Fence.wide n Tryd.prog 94 #[.func (.yield l) #[] #[], .pointer (some ⟨b3, 0, none⟩), .pointer (some ⟨b4, 0, none⟩), .pointer (some ⟨b5, 0, none⟩), .pointer (some ⟨b9, 0, none⟩), .pointer (some ⟨b7, 0, none⟩), .pointer (some ⟨b8, 0, none⟩)] W fun e W' => (∃ v, e = .returned v) ∧ ((∃ k : Nat, (k : Int) = pw (bitsL ls ns fr) ∧ J k W') ∨ ∃ k : Nat, (k : Int) < pw (bitsL ls ns fr) ∧ Jx k W') := by
  have HOK := Lib.hid ok
  have HCT := Lib.hid (fun k W (h : J k W) => (hJ0 k W h).1)
  have HJ0 := Lib.hid hJ0
  have hbd := sumK_bd (xs := lbL ns fr ls.length) ok.lw (lbL ns fr ls.length).length
  have hb0 : 0 ≤ bitsL ls ns fr := hbd.1
  have hb1 : bitsL ls ns fr ≤ 16 := ok.bit
  have hpb := pw_bd hb0 hb1
  clear hbd ok
  obtain ⟨⟨A, ca, r3, l3⟩, ⟨N, cn, r4, l4⟩, ⟨F, cf, r5, l5⟩, _, _, _⟩ := hc
  have q3 := cell_block (i := 0) r3
  have q4 := cell_block (i := 0) r4
  have q5 := cell_block (i := 0) r5
  simp at q3 q4 q5
  have HBI := Lib.hid (bitsBelow_c A ca ls HOK.out.l1 HOK.out.lw N cn ns HOK.out.n1 HOK.out.all F cf fr HOK.out.f1 HOK.out.fx W l3 l4 l5)
  have HJ1 := Lib.hid (fun W' (hb : Below W.heap.size W W') => hJb 0 W W' h0 hb)
  clear r3 r4 r5 l3 l4 l5
  refine callsIn_of_wp Tryd.func94 rfl trivial ?_
  simp only [Tryd.ntmps94, List.size_toArray, List.length_cons, List.length_nil, Nat.reduceAdd, Nat.reduceSub, Array.replicate_succ, Array.replicate_zero, List.push_toArray, List.append_toArray, List.nil_append, List.cons_append]
  gi_wp2_with (refine ⟨trivial, (fun h => (by cases h)), ?_⟩; gi_at_call 73; refine (callsIn_wide.2 HBI.out).mono ?_; rintro e w' ⟨rfl, x, rfl⟩)
  have hT : wrap64 (2 ^ (bitsL ls ns fr).toNat) = pw (bitsL ls ns fr) := IntWalk.wrap64_in _ (by show -9223372036854775808 ≤ pw (bitsL ls ns fr) ∧ pw (bitsL ls ns fr) ≤ 9223372036854775807; omega)
  rw [hT]
  have HJS := Lib.hid (HJ1.out _ x.pf)
  clear q3 q4 q5 hT HJ1 HBI
  obtain ⟨T, hT⟩ := Int.eq_ofNat_of_zero_le (show 0 ≤ pw (bitsL ls ns fr) by omega)
  rw [hT] at hpb hY ⊢
  have HTT := Lib.hid hT
  have hT1 : T ≤ 65536 := by omega
  have HY := Lib.hid hY
  have HJB := Lib.hid hJb
  clear hY hJb hpb hb0 hb1 hT hJ0 h0
  generalize x.val = W0 at *
  gi_loopw [15] (fun v15 wr => ∃ k : Nat, k ≤ T ∧ v15 = .int .i64 k ∧ J k wr) (fun v15 _ => T - (intOf v15).toNat)
  case atStart => exact ⟨0, by omega, rfl, HJS.out⟩
  case round =>
    clear HJS
    obtain ⟨k, hk, rfl, hj⟩ := hrel
    by_cases hlt : k < T
    · have hkk : (k : Int) < T := by omega
      obtain ⟨_, _, _, _, ⟨ca, r3, l3⟩, ⟨U, cu, r9, l9, _⟩, ⟨C, cc, r7, l7'⟩, ⟨D, cd, r8, l8, _⟩⟩ := HCT.out k wr hj
      have l7 := l7'.n
      clear l7'
      have HJ := Lib.hid hj
      have HTR := Lib.hid (trialOf_c A0 ca ls HOK.out.l1 HOK.out.lw U cu (lbL ns fr ls.length) (Nat.le_trans lbL_len HOK.out.l1) (fun x hx => isIx_iff.2 (lbL_mem hx)) k (by omega) (by omega) wr l3 l9)
      have HTR : Hid (Calls Tryd.prog 95 #[.slice A0 ls.length ca, .slice U (lbL ns fr ls.length).length cu, .int .i64 k] wr (CopiedF wr (triV ls ns fr k))) := HTR
      have q3 := cell_block (i := 0) r3
      have q9 := cell_block (i := 0) r9
      simp at q3 q9
      clear hj r3 l3 r9 l9
      gi_wp2_with (refine ⟨trivial, (fun h => (by cases h)), ?_⟩; gi_at_call 95; refine (callsIn_wide.2 HTR.out).mono ?_; rintro e W1 ⟨A1, c1, rfl, hl1, hf1, hb1⟩; rw [triV_len])
      have s7 := (hb1.block _ (lt_of_get r7)).trans r7
      have s8 := (hb1.block _ (lt_of_get r8)).trans r8
      have q7 := cell_block (i := 0) s7
      have q8 := cell_block (i := 0) s8
      simp at q7 q8
      rw [coneP_len] at q8
      have HJ1 := Lib.hid (HJB.out k wr W1 HJ.out hb1)
      have HFF := Lib.hid (fun ad h => Nat.le_trans (HJ0.out k wr HJ.out).2 (hf1 ad h))
      clear hf1
      have HL1 := Lib.hid hl1
      have HVO : Hid (Calls Tryd.prog 56 #[.slice C (coneN ns fr).length cc, .slice A1 ls.length c1] W1.drew (CopiedI W1.drew (valsL (coneN ns fr) (triV ls ns fr k)))) := Lib.hid (by
        have hbd : Below W1.heap.size W1 W1.drew := (Below.refl _ _).drew
        have h := valuesOf_c C cc (coneN ns fr) HOK.out.c1 A1 c1 (triV ls ns fr k) (by rw [triV_len]; exact HOK.out.l1) (triL_bd HOK.out.lw) (by rw [triV_len]; exact HOK.out.call) W1.drew ((l7.below hb1).below hbd) (hl1.below hbd)
        rw [triV_len] at h; exact h)
      have HPI : Hid (∀ (W2 : World) V cv, Below W1.heap.size W1 W2 → LiesI W2 V (valsL (coneN ns fr) (triV ls ns fr k)) → Calls Tryd.prog 96 #[.slice V (coneN ns fr).length cv, .slice D fr.length cd] W2 fun e w' => ∃ A' cap', e = .returned (.slice A' fr.length cap') ∧ LiesI w' A' (triN ls ns fr k) ∧ Below W2.heap.size W2 w') := Lib.hid (fun W2 V cv hb hV => by
        have h := picked_c V cv (valsL (coneN ns fr) (triV ls ns fr k)) (by rw [valsL_len]; exact HOK.out.c1) D cd (coneP ns fr) (by rw [coneP_len]; exact HOK.out.f1) (by rw [valsL_len]; exact HOK.out.px) W2 hV ((l8.below hb1).below hb)
        rw [valsL_len, coneP_len] at h
        exact h.mono fun e w' ⟨A', cap', h1, h2, _, h4⟩ => ⟨A', cap', h1, h2, h4⟩)
      have hs8 : b8 < W1.heap.size := lt_of_get s8
      clear r7 l7 r8 l8 hl1 hb1 s7 s8 q3 q9
      have hmx : Tryd.prog.follows .mixedOrders = true := by kernel_rfl
      gi_region_with_o (first
        | (refine ⟨trivial, (fun h => (by cases h)), ?_⟩; gi_at_call 56; refine (callsIn_wide.2 HVO.out).mono ?_; rintro e W2 ⟨V, cv, rfl, hlV, hbV⟩; rw [valsL_len]; have hb2 : Below W1.heap.size W1 W2 := ((Below.refl W1.heap.size W1).drew).trans hbV; have q8' := (hb2.cell (p := ⟨b8, 0, none⟩) hs8).trans q8; clear q8)
        | (refine ⟨trivial, (fun h => (by cases h)), ?_⟩; gi_at_call 96; refine (callsIn_wide.2 (HPI.out _ _ _ hb2 hlV)).mono ?_; rintro e W3 ⟨A2, c2, rfl, hl2, hb3⟩; have hb23 := hb2.trans (hb3.mono hb2.size); obtain ⟨fn, tm, asn, bo, hy, hR⟩ := HY.out k W3 A1 c1 A2 c2 (HJB.out k W1 W3 HJ1.out hb23) hkk (HL1.out.below hb23) HFF.out hl2)
        | (refine ⟨(fun h => (by cases h)), ?_⟩; refine hR.mono ?_; rintro e W4 ⟨b, rfl, hbt, hbf⟩))
      all_goals
        have HT := Lib.hid hbt
        have HF := Lib.hid hbf
        clear hbt hbf hb23 hb2 hb3 hlV hl2 q7 q8' hy hR hbV
        cases b
        · gi_wp2
          refine bodyPost_ret (results_none rfl _ _ _) rfl ?_
          exact ⟨⟨_, rfl⟩, .inr ⟨k, by rw [HTT.out]; exact hkk, HF.out (by simp)⟩⟩
        · gi_wp2
          go_roundw
          case rel => exact ⟨k + 1, by omega, by go_num, HT.out (by simp)⟩
          case measure => simp [intOf]; omega
    · obtain rfl : k = T := by omega
      gi_wp2
      go_end0
      exact ⟨⟨_, rfl⟩, .inl ⟨k, HTT.out.symm, hj⟩⟩


end Go.Proofs.YtkdonapgonegkaaDoor

set_option linter.unusedSimpArgs false
set_option linter.unusedVariables false
namespace Go.Proofs.YtkdonapgonegkaaDoor
open Go.RowKit Go.BigFrame
attribute [local go_sem] Oper.semAt_some

theorem LiesNQ.put {W : World} {l q : Nat} {o : Obj} {r : Loop} {A : Option Addr} {ns : List Nd} (h : LiesNQ W q A ns) (hl : W.heap[l]? = some (.loop r)) : LiesNQ (W.putObj l o) q A ns :=
  ⟨h.1, fun hp => by
    obtain ⟨ad, rfl, h2, h3⟩ := h.2 hp
    have hne : ad.block ≠ l := by
      intro e
      have hn := List.getElem?_eq_getElem hp
      have h0 := (h3 0 _ hn).1
      unfold World.cell? at h0
      rw [addB, e, hl] at h0
      cases h0
    refine ⟨ad, rfl, by simpa [World.putObj] using h2, fun i n hi => ?_⟩
    obtain ⟨c0, c1, c3, B, cap, c2, hl', hB⟩ := h3 i n hi
    exact ⟨cell_put_ne c0 (by rw [addB]; exact hne), cell_put_ne c1 (by rw [addB, addB]; exact hne), cell_put_ne c3 (by rw [addB, addB]; exact hne), B, cap, cell_put_ne c2 (by rw [addB, addB]; exact hne), hl'.put hl, hB⟩⟩
theorem cells_ne_loop {W : World} {b l : Nat} {cs : Array Value} {T : TypeId} {r : Loop} (h : W.heap[b]? = some (.cells cs T)) (hl : W.heap[l]? = some (.loop r)) : ¬ b = l := by
  intro e; subst e; rw [h] at hl; cases hl
theorem CaughtQ.put {W : World} {l q : Nat} {o : Obj} {r : Loop} {A : Option Addr} {b3 b9 b7 b8 : Nat} {ls : List Int} {ns : List Nd} {fr : List Int} (h : CaughtQ W q A b3 b9 b7 b8 ls ns fr) (hl : W.heap[l]? = some (.loop r)) : CaughtQ (W.putObj l o) q A b3 b9 b7 b8 ls ns fr := by
  obtain ⟨m3, m9, m7, m8, ⟨c1, h1, l1⟩, ⟨U, c4, h4, l4, q4⟩, ⟨C, c5, h5, l5⟩, ⟨D, c6, h6, l6, q6⟩⟩ := h
  exact ⟨m3, m9, m7, m8, ⟨c1, heap_put_ne h1 (cells_ne_loop h1 hl), l1.put hl⟩, ⟨U, c4, heap_put_ne h4 (cells_ne_loop h4 hl), l4.put hl, q4⟩, ⟨C, c5, heap_put_ne h5 (cells_ne_loop h5 hl), l5.put hl⟩, ⟨D, c6, heap_put_ne h6 (cells_ne_loop h6 hl), l6.put hl, q6⟩⟩
/-- The value of the one named node in a trial. -/
def cN (ls : List Int) (ns : List Nd) (fr : List Int) (k : Nat) : Int := (triN ls ns fr k).getD 0 0
def ConstR (w : World) (ls : List Int) (ns : List Nd) (fr : List Int) (e : Ending) (w' : World) : Prop :=
  (((∀ k : Nat, (k : Int) < pw (bitsL ls ns fr) → cN ls ns fr k = cN ls ns fr 0) ∧ e = .returned (.tuple #[.int .i64 (cN ls ns fr 0), .int .i64 0])) ∨
    ((∃ k : Nat, (k : Int) < pw (bitsL ls ns fr) ∧ cN ls ns fr k ≠ cN ls ns fr 0) ∧ e = .returned (.tuple #[.int .i64 0, .int .i64 12]))) ∧ Below w.heap.size w w'
theorem LiesI.one {W : World} {A : Option Addr} {x : List Int} (h : LiesI W A x) (hx : x.length = 1) : ∃ ad, A = some ad ∧ ad.block < W.heap.size ∧ W.cell? ad = some (.int .i64 (x.getD 0 0)) := by
  match x, hx with
  | [a], _ =>
    obtain ⟨ad, rfl, hb, hc⟩ := h (by simp)
    exact ⟨ad, rfl, hb, hc 0 a rfl⟩
/-- What holds ahead of each trial. -/
structure JC (w : World) (q : Nat) (A : Option Addr) (b3 b9 b7 b8 : Nat) (ls : List Int) (ns : List Nd) (fr : List Int) (s : Nat) (r : Loop) (lp dp bo bk : Nat) (k : Nat) (W : World) : Prop where
  c : CaughtQ W q A b3 b9 b7 b8 ls ns fr
  s : s ≤ W.heap.size
  l : W.heap[lp]? = some (.loop r)
  d : W.heap[dp]? = some (.deferred (some []))
  r1 : W.heap[w.heap.size]? = some (.cells #[.int .i64 0] 3)
  r2 : W.heap[w.heap.size + 1]? = some (.cells #[.int .i64 0] 26)
  o : ∃ v, W.heap[bo]? = some (.cells #[.int .i64 v] 3) ∧ (k ≠ 0 → v = cN ls ns fr 0)
  kn : W.heap[bk]? = some (.cells #[.bool (decide (k ≠ 0))] 4)
  all : ∀ m : Nat, m < k → cN ls ns fr m = cN ls ns fr 0
  b : Below w.heap.size w W
theorem JC.below {w : World} {q : Nat} {A : Option Addr} {b3 b9 b7 b8 : Nat} {ls : List Int} {ns : List Nd} {fr : List Int} {s : Nat} {r : Loop} {lp dp bo bk k : Nat} {W W' : World} (h : JC w q A b3 b9 b7 b8 ls ns fr s r lp dp bo bk k W) (hb : Below W.heap.size W W') : JC w q A b3 b9 b7 b8 ls ns fr s r lp dp bo bk k W' := by
  obtain ⟨v, ho, hv⟩ := h.o
  exact ⟨h.c.below hb, Nat.le_trans h.s hb.size, (hb.block _ (lt_of_get h.l)).trans h.l, (hb.block _ (lt_of_get h.d)).trans h.d, (hb.block _ (lt_of_get h.r1)).trans h.r1, (hb.block _ (lt_of_get h.r2)).trans h.r2, ⟨v, (hb.block _ (lt_of_get ho)).trans ho, hv⟩, (hb.block _ (lt_of_get h.kn)).trans h.kn, h.all, h.b.trans (hb.mono h.b.size)⟩

set_option maxRecDepth 100000 in
set_option maxHeartbeats 1600000 in
theorem ConstantAt_err (A : Option Addr) (cap : Nat) (ls : List Int) (hls : ls.length ≤ 65536) (N : Option Addr) (capN : Nat) (ns : List Nd) (hns : ns.length ≤ 65536) (hcap : ns.length ≤ capN) (hla : ∀ n ∈ ns, n.args.length ≤ 65536) (i er : Int) (he : fromE ls ns [i] = er) (hne : er ≠ 0) (w : World) (hA : LiesI w A ls) (hN : LiesN w N ns) (ht : TabOps w) :
    Calls Tryd.prog 36 #[.slice A ls.length cap, .slice N ns.length capN, .int .i64 i] w fun e w' => e = .returned (.tuple #[.int .i64 0, .int .i64 er]) ∧ Below w.heap.size w w' := by
  have HFE := Lib.hid he
  have HEF := Lib.hid (fun (W : World) (hb : Below w.heap.size w W) F cf (hF : LiesI W F [(i : Int)]) => errorOfFrom_c A cap ls hls N capN ns hns hcap hla F cf [(i : Int)] (by simp) W (hA.below hb) (hN.below hb) hF (ht.below hb))
  have c1 : (er == 0) = false := by simpa using hne
  have c2 : (er != 0) = true := by simpa using hne
  clear hA hN ht hla hcap he hne
  go_enter Tryd.func36, Tryd.ntmps36
  go_wp2_with fail
  have r1 : (((w.alloc (.cells #[.int .i64 0] 3)).alloc (.cells #[.int .i64 0] 26)).alloc (.cells #[.int .i64 i] 3)).heap[w.heap.size]? = some (.cells #[.int .i64 0] 3) := heap_alloc' (by simp; omega) (heap_alloc' (by simp) (heap_alloc_new _ _))
  have r2 : (((w.alloc (.cells #[.int .i64 0] 3)).alloc (.cells #[.int .i64 0] 26)).alloc (.cells #[.int .i64 i] 3)).heap[w.heap.size + 1]? = some (.cells #[.int .i64 0] 26) := heap_alloc' (by simp) (heap_alloc_at (by simp))
  have r3 : (((w.alloc (.cells #[.int .i64 0] 3)).alloc (.cells #[.int .i64 0] 26)).alloc (.cells #[.int .i64 i] 3)).heap[w.heap.size + 2]? = some (.cells #[.int .i64 i] 3) := heap_alloc_at (by simp)
  have hb0 : Below w.heap.size w (((w.alloc (.cells #[.int .i64 0] 3)).alloc (.cells #[.int .i64 0] 26)).alloc (.cells #[.int .i64 i] 3)) := (((Below.refl _ _).alloc (Nat.le_refl _) _).alloc (by simp) _).alloc (by simp; omega) _
  generalize (((w.alloc (.cells #[.int .i64 0] 3)).alloc (.cells #[.int .i64 0] 26)).alloc (.cells #[.int .i64 i] 3)) = W0 at *
  have hF0 : LiesI W0 (some ⟨w.heap.size + 2, 0, none⟩) [i] := LiesI.block r3
  refine (HEF.out W0 hb0 (some ⟨w.heap.size + 2, 0, none⟩) 1 hF0).mono ?_
  rw [HFE.out]
  rintro e w' ⟨rfl, x1, rfl⟩
  have r1 := heap_aft x1 (lt_of_get r1) r1
  have r2 := heap_aft x1 (lt_of_get r2) r2
  have hF1 := hF0.aft x1
  have hb1 := x1.below hb0 hb0.size
  clear r3 hb0 hF0 HEF
  generalize x1.val = W1 at *
  clear hF1
  have lz1 := lt_of_get r1
  have lz2 := lt_of_get r2
  have q1 := cell_block (i := 0) r1
  have f1 := free_block (i := 0) r1
  have q2 := cell_block (i := 0) r2
  have f2 := free_block (i := 0) r2
  simp at q1 q2
  go_wp2
  refine bodyPost_ret (v := .tuple #[.int .i64 0, .int .i64 er]) (by simp [results, Tryd.results36, go_sem, q1, q2, f1, f2]; try rfl) rfl ?_
  exact ⟨rfl, (hb1.setCell (Nat.le_refl _) _).setCell (Nat.le_succ _) _⟩

set_option maxRecDepth 100000 in
set_option maxHeartbeats 1600000 in
theorem ConstantAt_large (A : Option Addr) (cap : Nat) (ls : List Int) (hls : ls.length ≤ 65536) (N : Option Addr) (capN : Nat) (ns : List Nd) (hns : ns.length ≤ 65536) (hcap : ns.length ≤ capN) (hla : ∀ n ∈ ns, n.args.length ≤ 65536) (i : Nat) (hi : i < ns.length) (hbit : 12 < bitsL ls ns [(i : Int)]) (hc : (chk ls ns).2 = 0) (w : World) (hA : LiesI w A ls) (hN : LiesN w N ns) (ht : TabOps w) :
    Calls Tryd.prog 36 #[.slice A ls.length cap, .slice N ns.length capN, .int .i64 i] w fun e w' => e = .returned (.tuple #[.int .i64 0, .int .i64 8]) ∧ Below w.heap.size w w' := by
  have HFE := Lib.hid (show fromE ls ns [(i : Int)] = 0 by unfold fromE; rw [hc]; exact (if_pos rfl).trans (argsE_good (by intro x hx; simp at hx; subst hx; exact isIx_true (by omega) (by omega))))
  have HEF := Lib.hid (fun (W : World) (hb : Below w.heap.size w W) F cf (hF : LiesI W F [(i : Int)]) => errorOfFrom_c A cap ls hls N capN ns hns hcap hla F cf [(i : Int)] (by simp) W (hA.below hb) (hN.below hb) hF (ht.below hb))
  have HBB := Lib.hid (fun (W : World) (hb : Below w.heap.size w W) F cf (hF : LiesI W F [(i : Int)]) => bitsBelow_c A cap ls hls (chk_ok hc).2.1 N capN ns hns (chk_nodes hc) F cf [(i : Int)] (by simp) (by intro x hx; simp at hx; subst hx; exact isIx_true (by omega) (by omega)) W (hA.below hb) (hN.below hb) hF)
  clear hA hN ht hla hcap hc
  generalize hbb : bitsL ls ns [(i : Int)] = bb at *
  clear hbb
  go_enter Tryd.func36, Tryd.ntmps36
  go_wp2_with fail
  have r1 : (((w.alloc (.cells #[.int .i64 0] 3)).alloc (.cells #[.int .i64 0] 26)).alloc (.cells #[.int .i64 i] 3)).heap[w.heap.size]? = some (.cells #[.int .i64 0] 3) := heap_alloc' (by simp; omega) (heap_alloc' (by simp) (heap_alloc_new _ _))
  have r2 : (((w.alloc (.cells #[.int .i64 0] 3)).alloc (.cells #[.int .i64 0] 26)).alloc (.cells #[.int .i64 i] 3)).heap[w.heap.size + 1]? = some (.cells #[.int .i64 0] 26) := heap_alloc' (by simp) (heap_alloc_at (by simp))
  have r3 : (((w.alloc (.cells #[.int .i64 0] 3)).alloc (.cells #[.int .i64 0] 26)).alloc (.cells #[.int .i64 i] 3)).heap[w.heap.size + 2]? = some (.cells #[.int .i64 i] 3) := heap_alloc_at (by simp)
  have hb0 : Below w.heap.size w (((w.alloc (.cells #[.int .i64 0] 3)).alloc (.cells #[.int .i64 0] 26)).alloc (.cells #[.int .i64 i] 3)) := (((Below.refl _ _).alloc (Nat.le_refl _) _).alloc (by simp) _).alloc (by simp; omega) _
  generalize (((w.alloc (.cells #[.int .i64 0] 3)).alloc (.cells #[.int .i64 0] 26)).alloc (.cells #[.int .i64 i] 3)) = W0 at *
  have hF0 : LiesI W0 (some ⟨w.heap.size + 2, 0, none⟩) [i] := LiesI.block r3
  refine (HEF.out W0 hb0 (some ⟨w.heap.size + 2, 0, none⟩) 1 hF0).mono ?_
  rw [HFE.out]
  rintro e w' ⟨rfl, x1, rfl⟩
  have r1 := heap_aft x1 (lt_of_get r1) r1
  have r2 := heap_aft x1 (lt_of_get r2) r2
  have hF1 := hF0.aft x1
  have hb1 := x1.below hb0 hb0.size
  clear r3 hb0 hF0 HEF
  generalize x1.val = W1 at *
  go_wp2_with fail
  refine (HBB.out W1 hb1 _ 1 hF1).mono ?_
  rintro e w' ⟨rfl, x3, rfl⟩
  have r1 := heap_aft x3 (lt_of_get r1) r1
  have r2 := heap_aft x3 (lt_of_get r2) r2
  have hb3 := x3.below hb1 hb1.size
  clear hF1 hb1
  generalize x3.val = W3 at *
  have lz1 := lt_of_get r1
  have lz2 := lt_of_get r2
  have q1 := cell_block (i := 0) r1
  have f1 := free_block (i := 0) r1
  have q2 := cell_block (i := 0) r2
  have f2 := free_block (i := 0) r2
  simp at q1 q2
  go_wp2
  refine bodyPost_ret (v := .tuple #[.int .i64 0, .int .i64 8]) (by simp [results, Tryd.results36, go_sem, q1, q2, f1, f2]; try rfl) rfl ?_
  exact ⟨rfl, (hb3.setCell (Nat.le_refl _) _).setCell (Nat.le_succ _) _⟩

set_option maxRecDepth 100000 in
set_option maxHeartbeats 3200000 in
theorem ConstantAt_ok (A : Option Addr) (cap : Nat) (ls : List Int) (hls : ls.length ≤ 65536) (N : Option Addr) (capN : Nat) (ns : List Nd) (hns : ns.length ≤ 65536) (hcap : ns.length ≤ capN) (hla : ∀ n ∈ ns, n.args.length ≤ 65536) (i : Nat) (hi : i < ns.length) (hbit : bitsL ls ns [(i : Int)] ≤ 12) (hc : (chk ls ns).2 = 0) (w : World) (hA : LiesI w A ls) (hN : LiesN w N ns) (ht : TabOps w) :
    Calls Tryd.prog 36 #[.slice A ls.length cap, .slice N ns.length capN, .int .i64 i] w (ConstR w ls ns [(i : Int)]) := by
  have hix : ∀ x ∈ [(i : Int)], isIx x ns.length = true := by intro x hx; simp at hx; subst hx; exact isIx_true (by omega) (by omega)
  have HFE := Lib.hid (show fromE ls ns [(i : Int)] = 0 by unfold fromE; rw [hc]; exact (if_pos rfl).trans (argsE_good hix))
  have HOK := Lib.hid (TriOK.of hc hix (by simp) (by omega))
  have HEF := Lib.hid (fun (W : World) (hb : Below w.heap.size w W) F cf (hF : LiesI W F [(i : Int)]) => errorOfFrom_c A cap ls hls N capN ns hns hcap hla F cf [(i : Int)] (by simp) W (hA.below hb) (hN.below hb) hF (ht.below hb))
  have HBB := Lib.hid (fun (W : World) (hb : Below w.heap.size w W) F cf (hF : LiesI W F [(i : Int)]) => bitsBelow_c A cap ls hls HOK.out.lw N capN ns hns HOK.out.all F cf [(i : Int)] (by simp) HOK.out.fx W (hA.below hb) (hN.below hb) hF)
  have HTR := Lib.hid (fun (W : World) (hb : Below w.heap.size w W) F cf (hF : LiesI W F [(i : Int)]) => trials_cQ A cap ls hls N capN ns hns HOK.out.all F cf [(i : Int)] (by simp) HOK.out.fx W (hA.below hb) (hN.below hb) hF)
  have HAB : Hid (0 < ls.length → ∀ ad, A = some ad → ad.block < w.heap.size) := Lib.hid (fun hp ad e => by
    obtain ⟨ad', e', hb', _⟩ := hA hp
    rw [e] at e'
    obtain rfl := Option.some.inj e'
    exact hb')
  clear hA hN ht hla hcap hc hix
  refine (callsIn_wide (n := 9)).1 ?_
  refine callsIn_of_wp_marks Tryd.func36 rfl trivial ?_
  simp only [Tryd.ntmps36, List.size_toArray, List.length_cons, List.length_nil, Nat.reduceAdd, Nat.reduceSub, Array.replicate_succ, Array.replicate_zero, List.push_toArray, List.append_toArray, List.nil_append, List.cons_append]
  gi_wp2_with fail
  have r1 : (((w.alloc (.cells #[.int .i64 0] 3)).alloc (.cells #[.int .i64 0] 26)).alloc (.cells #[.int .i64 i] 3)).heap[w.heap.size]? = some (.cells #[.int .i64 0] 3) := heap_alloc' (by simp; omega) (heap_alloc' (by simp) (heap_alloc_new _ _))
  have r2 : (((w.alloc (.cells #[.int .i64 0] 3)).alloc (.cells #[.int .i64 0] 26)).alloc (.cells #[.int .i64 i] 3)).heap[w.heap.size + 1]? = some (.cells #[.int .i64 0] 26) := heap_alloc' (by simp) (heap_alloc_at (by simp))
  have r3 : (((w.alloc (.cells #[.int .i64 0] 3)).alloc (.cells #[.int .i64 0] 26)).alloc (.cells #[.int .i64 i] 3)).heap[w.heap.size + 2]? = some (.cells #[.int .i64 i] 3) := heap_alloc_at (by simp)
  have hb0 : Below w.heap.size w (((w.alloc (.cells #[.int .i64 0] 3)).alloc (.cells #[.int .i64 0] 26)).alloc (.cells #[.int .i64 i] 3)) := (((Below.refl _ _).alloc (Nat.le_refl _) _).alloc (by simp) _).alloc (by simp; omega) _
  generalize (((w.alloc (.cells #[.int .i64 0] 3)).alloc (.cells #[.int .i64 0] 26)).alloc (.cells #[.int .i64 i] 3)) = W0 at *
  have hF0 : LiesI W0 (some ⟨w.heap.size + 2, 0, none⟩) [i] := LiesI.block r3
  refine ⟨trivial, ?_⟩
  refine (callsIn_wide.2 (HEF.out W0 hb0 (some ⟨w.heap.size + 2, 0, none⟩) 1 hF0)).mono ?_
  rw [HFE.out]
  rintro e w' ⟨rfl, x1, rfl⟩
  have r1 := heap_aft x1 (lt_of_get r1) r1
  have r2 := heap_aft x1 (lt_of_get r2) r2
  have hF1 := hF0.aft x1
  have hb1 := x1.below hb0 hb0.size
  clear r3 hb0 hF0 HEF
  generalize x1.val = W1 at *
  have hbt := sumK_bd (xs := lbL ns [(i : Int)] ls.length) HOK.out.lw (lbL ns [(i : Int)] ls.length).length
  have hb0' : 0 ≤ bitsL ls ns [(i : Int)] := hbt.1
  have hng : ¬ (12 : Int) < bitsL ls ns [(i : Int)] := by omega
  clear hbt hbit
  gi_wp2_with fail
  refine ⟨trivial, ?_⟩
  refine (callsIn_wide.2 (HBB.out W1 hb1 _ 1 hF1)).mono ?_
  rintro e w' ⟨rfl, x3, rfl⟩
  have r1 := heap_aft x3 (lt_of_get r1) r1
  have r2 := heap_aft x3 (lt_of_get r2) r2
  have hF3 := hF1.aft x3
  have hb3 := x3.below hb1 hb1.size
  clear hF1 hb1
  generalize x3.val = W3 at *
  gi_wp2_with fail
  have hb4 : Below W3.heap.size W3 ((W3.alloc (.cells #[.int .i64 0] 3)).alloc (.cells #[.bool false] 4)) := ((Below.refl _ _).alloc (Nat.le_refl _) _).alloc (by simp) _
  have s3 : ((W3.alloc (.cells #[.int .i64 0] 3)).alloc (.cells #[.bool false] 4)).heap[W3.heap.size]? = some (.cells #[.int .i64 0] 3) := heap_alloc' (by simp) (heap_alloc_new _ _)
  have s4 : ((W3.alloc (.cells #[.int .i64 0] 3)).alloc (.cells #[.bool false] 4)).heap[W3.heap.size + 1]? = some (.cells #[.bool false] 4) := heap_alloc_at (by simp)
  generalize ((W3.alloc (.cells #[.int .i64 0] 3)).alloc (.cells #[.bool false] 4)) = W4 at *
  have lo1 : w.heap.size + 1 < W3.heap.size := lt_of_get r2
  have r1 := (hb4.block _ (lt_of_get r1)).trans r1
  have r2 := (hb4.block _ (lt_of_get r2)).trans r2
  have hF4 := hF3.below hb4
  have hbq4 := hb3.trans (hb4.mono hb3.size)
  have lo2 : W3.heap.size + 1 < W4.heap.size := lt_of_get s4
  clear hb3 hF3 hb4
  generalize hbo : W3.heap.size = bo at *
  clear hbo
  refine ⟨trivial, ?_⟩
  refine (callsIn_wide.2 (HTR.out W4 hbq4 _ 1 hF4)).mono ?_
  rintro e W5 ⟨b3, b4, b5, b9, b7, b8, rfl, hct, hcq, hs5⟩
  have r1 := (hs5.block _ (lt_of_get r1)).trans r1
  have r2 := (hs5.block _ (lt_of_get r2)).trans r2
  have s3 := (hs5.block _ (lt_of_get s3)).trans s3
  have s4 := (hs5.block _ (lt_of_get s4)).trans s4
  have hb5 := hbq4.trans (hs5.mono hbq4.size)
  have lo3 : W4.heap.size ≤ W5.heap.size := hs5.size
  clear hbq4 hs5 hF4 HBB HTR
  generalize hq : W4.heap.size = q at *
  clear hq
  generalize hbk : bo + 1 = bk at *
  gi_wp2_with fail
  generalize hfr : [(i : Int)] = fr at *
  have HF1 : Hid (fr.length = 1) := Lib.hid (by rw [← hfr]; rfl)
  refine range_wide (gf := 94) (lb := #[.pointer (some ⟨b3, 0, none⟩), .pointer (some ⟨b4, 0, none⟩), .pointer (some ⟨b5, 0, none⟩), .pointer (some ⟨b9, 0, none⟩), .pointer (some ⟨b7, 0, none⟩), .pointer (some ⟨b8, 0, none⟩)]) rfl (enters_of Tryd.func94 (by kernel_rfl) rfl) (fun fn r W6 hr hL6 hD6 hb56 => ?_)
  obtain ⟨J, hJ⟩ : ∃ J : Nat → World → Prop, J = JC w q A b3 b9 b7 b8 ls ns fr W6.heap.size r (W5.heap.size + 1) W5.heap.size bo bk := ⟨_, rfl⟩
  obtain ⟨Jx, hJx⟩ : ∃ Jx : Nat → World → Prop, Jx = fun k W => W.heap[W5.heap.size + 1]? = some (.loop { r with state := .done, pending := some .ret }) ∧ W.heap[W5.heap.size]? = some (.deferred (some [])) ∧ cN ls ns fr k ≠ cN ls ns fr 0 ∧ Below w.heap.size w W ∧
    W.heap[w.heap.size]? = some (.cells #[.int .i64 0] 3) ∧ W.heap[w.heap.size + 1]? = some (.cells #[.int .i64 12] 26) := ⟨_, rfl⟩
  refine (trials2_in 8 b3 b4 b5 b9 b7 b8 ls ns fr HOK.out A q W6.heap.size (W5.heap.size + 1) J Jx ?jb ?j0 ?hy W6 ?start (hct.below hb56)).mono ?fin
  case jb => intro k W W' h hb; rw [hJ] at h ⊢; exact h.below hb
  case j0 => intro k W h; rw [hJ] at h; exact ⟨h.c, h.s⟩
  case start =>
    rw [hJ]
    exact ⟨hcq.below hb56, Nat.le_refl _, hL6, hD6, (hb56.block _ (lt_of_get r1)).trans r1, (hb56.block _ (lt_of_get r2)).trans r2, ⟨0, (hb56.block _ (lt_of_get s3)).trans s3, fun h => absurd rfl h⟩, (hb56.block _ (lt_of_get s4)).trans s4, fun m hm => by omega, hb5.trans (hb56.mono hb5.size)⟩
  case hy =>
    intro k W A1 c1 A2 c2 hj hk hl1 hf1 hl2
    rw [hJ] at hj
    obtain ⟨jc, js, hL, hD, j1, j2, ⟨ov, j3, hov⟩, j4, hjd, hbW⟩ := hj
    have HJD := Lib.hid hjd
    have HJE := Lib.hid hJ
    have HJX := Lib.hid hJx
    have HRR := Lib.hid hr
    have HOV := Lib.hid hov
    have lo5 : bk < W5.heap.size := lt_of_get s4
    clear hjd hJ hJx hct hcq hL6 hD6 hl1 hf1 r1 r2 s3 s4 hov
    have hsz : (#[Value.slice A1 ls.length c1, Value.slice A2 fr.length c2] : Array Value).size = r.params.size := by rw [hr]; rfl
    have ea := congrArg Loop.assign hr
    have eb := congrArg Loop.body hr
    have ep := congrArg Loop.params hr
    have et := congrArg Loop.tmps hr
    simp only at ea eb ep et
    have est : r.state = .ready := by rw [hr]
    have epd : r.pending = none := by rw [hr]
    clear hr
    refine yield_wide hL hsz est ?_
    rw [ea, eb, ep, et]
    have EST := Lib.hid est
    have EPD := Lib.hid epd
    clear ea eb ep et hsz est epd
    gi_wp2
    rintro rb Wb hrb hWb
    have hrb := hrb.out
    have hWb := hWb.out
    have lLW : W5.heap.size + 1 < W.heap.size := lt_of_get hL
    have hLb : Wb.heap[W5.heap.size + 1]? = some (.loop rb) := by rw [hWb]; exact World.putObj_heap_same lLW
    have hDb : Wb.heap[W5.heap.size]? = some (.deferred (some [])) := by rw [hWb]; exact heap_put_ne hD (by omega)
    have t1 : Wb.heap[w.heap.size]? = some (.cells #[.int .i64 0] 3) := by rw [hWb]; exact heap_put_ne j1 (by omega)
    have t2 : Wb.heap[w.heap.size + 1]? = some (.cells #[.int .i64 0] 26) := by rw [hWb]; exact heap_put_ne j2 (by omega)
    have t3 : Wb.heap[bo]? = some (.cells #[.int .i64 ov] 3) := by rw [hWb]; exact heap_put_ne j3 (by omega)
    have t4 : Wb.heap[bk]? = some (.cells #[.bool (decide (k ≠ 0))] 4) := by rw [hWb]; exact heap_put_ne j4 (by omega)
    have hl2b : LiesI Wb A2 (triN ls ns fr k) := by rw [hWb]; exact hl2.put hL
    have HCb := Lib.hid (show CaughtQ Wb q A b3 b9 b7 b8 ls ns fr from by rw [hWb]; exact jc.put hL)
    have HSB := Lib.hid (show W6.heap.size ≤ Wb.heap.size from by rw [hWb, World.putObj_size]; exact js)
    have HRB := Lib.hid hrb
    obtain ⟨a2, rfl, hab, q0⟩ := hl2b.one (by rw [triN_len]; exact HF1.out)
    rw [HF1.out]
    have HBV : Hid (Below w.heap.size w Wb) := Lib.hid (by rw [hWb]; exact Below.putObj hbW hbW.size (by omega))
    have HT1 := Lib.hid t1
    have HT2 := Lib.hid t2
    have HT3 := Lib.hid t3
    have HDb := Lib.hid hDb
    have HCE : Hid ((triN ls ns fr k).getD 0 0 = cN ls ns fr k) := Lib.hid rfl
    rw [HCE.out] at q0
    obtain ⟨x0, hx0⟩ : ∃ x0, cN ls ns fr k = x0 := ⟨_, rfl⟩
    rw [hx0] at q0
    have HX0 := Lib.hid hx0
    have u3 := cell_block (i := 0) t3
    have f3 := free_block (i := 0) t3
    simp at u3
    have lt1 := lt_of_get t1
    have lt2 := lt_of_get t2
    have lt3 := lt_of_get t3
    have lt4 := lt_of_get t4
    clear hL hD j1 j2 j3 j4 hbW jc js hl2 hl2b hrb hWb hb56 hx0 t3
    have hmx : Tryd.prog.follows .mixedOrders = true := by kernel_rfl
    by_cases hk0 : k = 0
    · have t4 : Wb.heap[bk]? = some (.cells #[.bool false] 4) := by rw [t4]; simp [hk0]
      have HT4 := Lib.hid t4
      have u4 := cell_block (i := 0) t4
      have f4 := free_block (i := 0) t4
      simp at u4
      have HVAL : Hid (x0 = cN ls ns fr 0) := Lib.hid (by rw [← HX0.out, hk0])
      clear hk0 t1 t2 t4
      gi_wp2
      gi_region_with_o (fail)
      all_goals gi_wp2
      all_goals
        have hback : ({ rb with state := if (none : Option Code).isNone then LoopState.ready else LoopState.done, pending := none } : Loop) = r := by
          have h1 := EST.out
          have h2 := EPD.out
          rw [HRB.out]
          unfold busyL
          cases r
          simp only at h1 h2 ⊢
          subst h1
          subst h2
          rfl
        have hSL : ((Wb.drew.setCell ⟨bo, 0, none⟩ (.int .i64 x0)).setCell ⟨bk, 0, none⟩ (.bool true)).heap[W5.heap.size + 1]? = some (.loop rb) := heap_set_other (heap_set_other (W := Wb.drew) hLb (by omega)) (by omega)
        refine ⟨_, _, run_endRound none hSL, .inr ⟨rfl, ?_⟩⟩
        rw [hback, HJE.out]
        have hSL' : ((Wb.setCell ⟨bo, 0, none⟩ (.int .i64 x0)).setCell ⟨bk, 0, none⟩ (.bool true)).heap[W5.heap.size + 1]? = some (.loop rb) := heap_set_other (heap_set_other hLb (by omega)) (by omega)
        have u1 : ((Wb.setCell ⟨bo, 0, none⟩ (.int .i64 x0)).setCell ⟨bk, 0, none⟩ (.bool true)).heap[w.heap.size]? = some (.cells #[.int .i64 0] 3) := heap_set_other (heap_set_other HT1.out (by omega)) (by omega)
        have u2 : ((Wb.setCell ⟨bo, 0, none⟩ (.int .i64 x0)).setCell ⟨bk, 0, none⟩ (.bool true)).heap[w.heap.size + 1]? = some (.cells #[.int .i64 0] 26) := heap_set_other (heap_set_other HT2.out (by omega)) (by omega)
        have u3 : ((Wb.setCell ⟨bo, 0, none⟩ (.int .i64 x0)).setCell ⟨bk, 0, none⟩ (.bool true)).heap[bo]? = some (.cells #[.int .i64 x0] 3) := heap_set_other ((heap_set HT3.out).trans (by simp)) (by omega)
        have u4 : ((Wb.setCell ⟨bo, 0, none⟩ (.int .i64 x0)).setCell ⟨bk, 0, none⟩ (.bool true)).heap[bk]? = some (.cells #[.bool true] 4) := (heap_set (heap_set_other HT4.out (by omega))).trans (by simp)
        have uD : ((Wb.setCell ⟨bo, 0, none⟩ (.int .i64 x0)).setCell ⟨bk, 0, none⟩ (.bool true)).heap[W5.heap.size]? = some (.deferred (some [])) := heap_set_other (heap_set_other HDb.out (by omega)) (by omega)
        have uC := (HCb.out.set (j := 0) (u := .int .i64 x0) (show bo < q by omega) (fun hp ad e => by have := HAB.out hp ad e; omega)).set (j := 0) (u := .bool true) (show bk < q by omega) (fun hp ad e => by have := HAB.out hp ad e; omega)
        have uB : Below w.heap.size w ((Wb.setCell ⟨bo, 0, none⟩ (.int .i64 x0)).setCell ⟨bk, 0, none⟩ (.bool true)) := ((HBV.out).setCell (p := ⟨bo, 0, none⟩) (show w.heap.size ≤ bo by omega) _).setCell (p := ⟨bk, 0, none⟩) (show w.heap.size ≤ bk by omega) _
        have uS : W6.heap.size ≤ ((Wb.setCell ⟨bo, 0, none⟩ (.int .i64 x0)).setCell ⟨bk, 0, none⟩ (.bool true)).heap.size := by have := HSB.out; simpa using this
        clear hSL
        generalize (Wb.setCell ⟨bo, 0, none⟩ (.int .i64 x0)).setCell ⟨bk, 0, none⟩ (.bool true) = S at *
        have hSd : Below S.heap.size S S.drew := (Below.refl _ _).drew
        have hSL : S.drew.heap[W5.heap.size + 1]? = some (.loop rb) := hSL'
        have uD : S.drew.heap[W5.heap.size]? = some (.deferred (some [])) := uD
        have u1 : S.drew.heap[w.heap.size]? = some (.cells #[.int .i64 0] 3) := u1
        have u2 : S.drew.heap[w.heap.size + 1]? = some (.cells #[.int .i64 0] 26) := u2
        have u3 : S.drew.heap[bo]? = some (.cells #[.int .i64 x0] 3) := u3
        have u4 : S.drew.heap[bk]? = some (.cells #[.bool true] 4) := u4
        have uB := uB.drew
        have uC := uC.below hSd
        have uS : W6.heap.size ≤ S.drew.heap.size := uS
        exact ⟨uC.put hSL, by rw [World.putObj_size]; exact uS, World.putObj_heap_same (lt_of_get hSL), heap_put_ne uD (by omega), heap_put_ne u1 (by omega), heap_put_ne u2 (by omega), ⟨x0, heap_put_ne u3 (by omega), fun _ => HVAL.out⟩, heap_put_ne (by simpa using u4) (by omega), fun m hm => by
          by_cases hmk : m = k
          · subst hmk; rw [HX0.out]; exact HVAL.out
          · exact HJD.out m (by omega), Below.putObj uB uB.size (by omega)⟩
    · have t4 : Wb.heap[bk]? = some (.cells #[.bool true] 4) := by rw [t4]; simp [hk0]
      have HT4 := Lib.hid t4
      have u4 := cell_block (i := 0) t4
      have f4 := free_block (i := 0) t4
      simp at u4
      have HOO := Lib.hid (HOV.out hk0)
      clear hk0 t4
      by_cases hxx : x0 = ov
      · have hn1 : (x0 != ov) = false := by simpa using hxx
        have HVAL : Hid (x0 = cN ls ns fr 0) := Lib.hid (by rw [hxx]; exact HOO.out)
        clear hxx t1 t2
        gi_wp2
        gi_region_with_o (fail)
        all_goals gi_wp2
        all_goals
          have hback : ({ rb with state := if (none : Option Code).isNone then LoopState.ready else LoopState.done, pending := none } : Loop) = r := by
            have h1 := EST.out
            have h2 := EPD.out
            rw [HRB.out]
            unfold busyL
            cases r
            simp only at h1 h2 ⊢
            subst h1
            subst h2
            rfl
          have hSL : ((Wb.drew.setCell ⟨bo, 0, none⟩ (.int .i64 x0)).setCell ⟨bk, 0, none⟩ (.bool true)).heap[W5.heap.size + 1]? = some (.loop rb) := heap_set_other (heap_set_other (W := Wb.drew) hLb (by omega)) (by omega)
          refine ⟨_, _, run_endRound none hSL, .inr ⟨rfl, ?_⟩⟩
          rw [hback, HJE.out]
          have hSL' : ((Wb.setCell ⟨bo, 0, none⟩ (.int .i64 x0)).setCell ⟨bk, 0, none⟩ (.bool true)).heap[W5.heap.size + 1]? = some (.loop rb) := heap_set_other (heap_set_other hLb (by omega)) (by omega)
          have u1 : ((Wb.setCell ⟨bo, 0, none⟩ (.int .i64 x0)).setCell ⟨bk, 0, none⟩ (.bool true)).heap[w.heap.size]? = some (.cells #[.int .i64 0] 3) := heap_set_other (heap_set_other HT1.out (by omega)) (by omega)
          have u2 : ((Wb.setCell ⟨bo, 0, none⟩ (.int .i64 x0)).setCell ⟨bk, 0, none⟩ (.bool true)).heap[w.heap.size + 1]? = some (.cells #[.int .i64 0] 26) := heap_set_other (heap_set_other HT2.out (by omega)) (by omega)
          have u3 : ((Wb.setCell ⟨bo, 0, none⟩ (.int .i64 x0)).setCell ⟨bk, 0, none⟩ (.bool true)).heap[bo]? = some (.cells #[.int .i64 x0] 3) := heap_set_other ((heap_set HT3.out).trans (by simp)) (by omega)
          have u4 : ((Wb.setCell ⟨bo, 0, none⟩ (.int .i64 x0)).setCell ⟨bk, 0, none⟩ (.bool true)).heap[bk]? = some (.cells #[.bool true] 4) := (heap_set (heap_set_other HT4.out (by omega))).trans (by simp)
          have uD : ((Wb.setCell ⟨bo, 0, none⟩ (.int .i64 x0)).setCell ⟨bk, 0, none⟩ (.bool true)).heap[W5.heap.size]? = some (.deferred (some [])) := heap_set_other (heap_set_other HDb.out (by omega)) (by omega)
          have uC := (HCb.out.set (j := 0) (u := .int .i64 x0) (show bo < q by omega) (fun hp ad e => by have := HAB.out hp ad e; omega)).set (j := 0) (u := .bool true) (show bk < q by omega) (fun hp ad e => by have := HAB.out hp ad e; omega)
          have uB : Below w.heap.size w ((Wb.setCell ⟨bo, 0, none⟩ (.int .i64 x0)).setCell ⟨bk, 0, none⟩ (.bool true)) := ((HBV.out).setCell (p := ⟨bo, 0, none⟩) (show w.heap.size ≤ bo by omega) _).setCell (p := ⟨bk, 0, none⟩) (show w.heap.size ≤ bk by omega) _
          have uS : W6.heap.size ≤ ((Wb.setCell ⟨bo, 0, none⟩ (.int .i64 x0)).setCell ⟨bk, 0, none⟩ (.bool true)).heap.size := by have := HSB.out; simpa using this
          clear hSL
          generalize (Wb.setCell ⟨bo, 0, none⟩ (.int .i64 x0)).setCell ⟨bk, 0, none⟩ (.bool true) = S at *
          have hSd : Below S.heap.size S S.drew := (Below.refl _ _).drew
          have hSL : S.drew.heap[W5.heap.size + 1]? = some (.loop rb) := hSL'
          have uD : S.drew.heap[W5.heap.size]? = some (.deferred (some [])) := uD
          have u1 : S.drew.heap[w.heap.size]? = some (.cells #[.int .i64 0] 3) := u1
          have u2 : S.drew.heap[w.heap.size + 1]? = some (.cells #[.int .i64 0] 26) := u2
          have u3 : S.drew.heap[bo]? = some (.cells #[.int .i64 x0] 3) := u3
          have u4 : S.drew.heap[bk]? = some (.cells #[.bool true] 4) := u4
          have uB := uB.drew
          have uC := uC.below hSd
          have uS : W6.heap.size ≤ S.drew.heap.size := uS
          exact ⟨uC.put hSL, by rw [World.putObj_size]; exact uS, World.putObj_heap_same (lt_of_get hSL), heap_put_ne uD (by omega), heap_put_ne u1 (by omega), heap_put_ne u2 (by omega), ⟨x0, heap_put_ne u3 (by omega), fun _ => HVAL.out⟩, heap_put_ne (by simpa using u4) (by omega), fun m hm => by
            by_cases hmk : m = k
            · subst hmk; rw [HX0.out]; exact HVAL.out
            · exact HJD.out m (by omega), Below.putObj uB uB.size (by omega)⟩
      · have hn1 : (x0 != ov) = true := by simpa using hxx
        have HVN : Hid (cN ls ns fr k ≠ cN ls ns fr 0) := Lib.hid (by rw [HX0.out, ← HOO.out]; exact hxx)
        clear hxx
        have u1 := cell_block (i := 0) t1
        have u2 := cell_block (i := 0) t2
        have f1 := free_block (i := 0) t1
        have f2 := free_block (i := 0) t2
        simp at u1 u2
        clear t1 t2
        gi_wp2
        gi_region_with_o (fail)
        all_goals gi_wp2
        all_goals
          have hSL : ((Wb.drew.setCell ⟨w.heap.size, 0, none⟩ (.int .i64 0)).setCell ⟨w.heap.size + 1, 0, none⟩ (.int .i64 12)).heap[W5.heap.size + 1]? = some (.loop rb) := heap_set_other (heap_set_other (W := Wb.drew) hLb (by omega)) (by omega)
          refine ⟨_, _, run_endRound (some .ret) hSL, .inl ⟨rfl, ?_⟩⟩
          have hrec : ({ rb with state := if (some Code.ret).isNone then LoopState.ready else LoopState.done, pending := some .ret } : Loop) = { r with state := .done, pending := some .ret } := by rw [HRB.out]; rfl
          rw [hrec]
          have z1 : ((Wb.setCell ⟨w.heap.size, 0, none⟩ (.int .i64 0)).setCell ⟨w.heap.size + 1, 0, none⟩ (.int .i64 12)).heap[w.heap.size]? = some (.cells #[.int .i64 0] 3) := heap_set_other ((heap_set HT1.out).trans (by simp)) (by omega)
          have z2 : ((Wb.setCell ⟨w.heap.size, 0, none⟩ (.int .i64 0)).setCell ⟨w.heap.size + 1, 0, none⟩ (.int .i64 12)).heap[w.heap.size + 1]? = some (.cells #[.int .i64 12] 26) := (heap_set (heap_set_other HT2.out (by omega))).trans (by simp)
          have zD : ((Wb.setCell ⟨w.heap.size, 0, none⟩ (.int .i64 0)).setCell ⟨w.heap.size + 1, 0, none⟩ (.int .i64 12)).heap[W5.heap.size]? = some (.deferred (some [])) := heap_set_other (heap_set_other HDb.out (by omega)) (by omega)
          have zB : Below w.heap.size w ((Wb.setCell ⟨w.heap.size, 0, none⟩ (.int .i64 0)).setCell ⟨w.heap.size + 1, 0, none⟩ (.int .i64 12)) := ((HBV.out).setCell (p := ⟨w.heap.size, 0, none⟩) (Nat.le_refl _) _).setCell (p := ⟨w.heap.size + 1, 0, none⟩) (Nat.le_succ _) _
          have hSL' : ((Wb.setCell ⟨w.heap.size, 0, none⟩ (.int .i64 0)).setCell ⟨w.heap.size + 1, 0, none⟩ (.int .i64 12)).heap[W5.heap.size + 1]? = some (.loop rb) := heap_set_other (heap_set_other hLb (by omega)) (by omega)
          clear hSL
          generalize (Wb.setCell ⟨w.heap.size, 0, none⟩ (.int .i64 0)).setCell ⟨w.heap.size + 1, 0, none⟩ (.int .i64 12) = S at *
          have hSL : S.drew.heap[W5.heap.size + 1]? = some (.loop rb) := hSL'
          have zD : S.drew.heap[W5.heap.size]? = some (.deferred (some [])) := zD
          have z1 : S.drew.heap[w.heap.size]? = some (.cells #[.int .i64 0] 3) := z1
          have z2 : S.drew.heap[w.heap.size + 1]? = some (.cells #[.int .i64 12] 26) := z2
          have zB := zB.drew
          rw [HJX.out]
          exact ⟨World.putObj_heap_same (lt_of_get hSL), heap_put_ne zD (by omega), HVN.out, Below.putObj zB zB.size (by omega), heap_put_ne z1 (by omega), heap_put_ne z2 (by omega)⟩
  case fin =>
    rintro e W7 ⟨⟨v, rfl⟩, hres⟩
    rcases hres with ⟨T, hT, hj⟩ | ⟨k, hk, hx⟩
    · rw [hJ] at hj
      obtain ⟨_, _, hL, hD, j1, j2, ⟨ov, j3, hov⟩, _, hjd, hbW⟩ := hj
      have hend := run_endLoop (P := Tryd.prog) hL (by rw [hr]; simp)
      rw [show r.pending = none by rw [hr]] at hend
      refine ⟨none, _, hend, ?_⟩
      have lo5 : bo < W5.heap.size := lt_of_get s3
      have t1 := heap_put_ne (l := W5.heap.size + 1) (o := .loop { r with state := .exhausted, pending := none }) j1 (by have := lt_of_get r1; omega)
      have t2 := heap_put_ne (l := W5.heap.size + 1) (o := .loop { r with state := .exhausted, pending := none }) j2 (by have := lt_of_get r2; omega)
      have t3 := heap_put_ne (l := W5.heap.size + 1) (o := .loop { r with state := .exhausted, pending := none }) j3 (by omega)
      have tD := heap_put_ne (l := W5.heap.size + 1) (o := .loop { r with state := .exhausted, pending := none }) hD (by omega)
      have hb7 := Below.putObj (l := W5.heap.size + 1) (o := .loop { r with state := .exhausted, pending := none }) hbW hbW.size (by have := hb5.size; omega)
      have hpb := pw_bd hb0' (by omega)
      have hvo := hov (by omega)
      subst hvo
      have HALL := Lib.hid (show ∀ m : Nat, (m : Int) < pw (bitsL ls ns fr) → cN ls ns fr m = cN ls ns fr 0 from fun m hm => hjd m (by omega))
      generalize W7.putObj (W5.heap.size + 1) (.loop { r with state := .exhausted, pending := none }) = W8 at *
      dsimp only
      have lb1 := lt_of_get r1
      have lb2 := lt_of_get r2
      have HR : Hid (W5.heap.size ≠ w.heap.size ∧ W5.heap.size ≠ w.heap.size + 1 ∧ W5.heap.size ≠ bo) := Lib.hid (by omega)
      have HW5 := Lib.hid hb5.size
      clear hjd hL hD j1 j2 j3 hbW hr hJ hJx hL6 hD6 hb56 hct hcq s3 s4 r1 r2 hpb hend hov hT
      have u1 := cell_block (i := 0) t1
      have u2 := cell_block (i := 0) t2
      have u3 := cell_block (i := 0) t3
      have f1 := free_block (i := 0) t1
      have f2 := free_block (i := 0) t2
      simp at u1 u2 u3
      obtain ⟨c0, hc0⟩ : ∃ c0, cN ls ns fr 0 = c0 := ⟨_, rfl⟩
      rw [hc0] at t3 u3
      have HC0 := Lib.hid hc0
      clear hc0
      gi_wp2
      have x1 := (heap_set t1 (k := 0) (v := .int .i64 c0)).trans (show _ = some (.cells #[.int .i64 c0] 3) by simp)
      have z1 : ((W8.setCell ⟨w.heap.size, 0, none⟩ (.int .i64 c0)).setCell ⟨w.heap.size + 1, 0, none⟩ (.int .i64 0)).heap[w.heap.size]? = some (.cells #[.int .i64 c0] 3) := heap_set_other x1 (by omega)
      have z2 : ((W8.setCell ⟨w.heap.size, 0, none⟩ (.int .i64 c0)).setCell ⟨w.heap.size + 1, 0, none⟩ (.int .i64 0)).heap[w.heap.size + 1]? = some (.cells #[.int .i64 0] 26) := (heap_set (heap_set_other t2 (by omega))).trans (by simp)
      have zD : ((W8.setCell ⟨w.heap.size, 0, none⟩ (.int .i64 c0)).setCell ⟨w.heap.size + 1, 0, none⟩ (.int .i64 0)).heap[W5.heap.size]? = some (.deferred (some [])) := heap_set_other (heap_set_other tD (by have := HR.out; omega)) (by have := HR.out; omega)
      have zB : Below w.heap.size w ((W8.setCell ⟨w.heap.size, 0, none⟩ (.int .i64 c0)).setCell ⟨w.heap.size + 1, 0, none⟩ (.int .i64 0)) := (hb7.setCell (p := ⟨w.heap.size, 0, none⟩) (Nat.le_refl _) _).setCell (p := ⟨w.heap.size + 1, 0, none⟩) (Nat.le_succ _) _
      generalize (W8.setCell ⟨w.heap.size, 0, none⟩ (.int .i64 c0)).setCell ⟨w.heap.size + 1, 0, none⟩ (.int .i64 0) = W9 at *
      refine ⟨by simp, .inl ⟨_, _, rfl, run_takeDeferred zD, ?_⟩⟩
      have v1 := heap_put_ne (l := W5.heap.size) (o := .deferred none) z1 (by have := HR.out; omega)
      have v2 := heap_put_ne (l := W5.heap.size) (o := .deferred none) z2 (by have := HR.out; omega)
      have hb8 := Below.putObj (l := W5.heap.size) (o := .deferred none) zB zB.size HW5.out
      have w1 := cell_block (i := 0) v1
      have w2 := cell_block (i := 0) v2
      simp at w1 w2
      refine ⟨_, (by simp [results, Tryd.results36, go_sem, w1, w2]; try rfl), ?_⟩
      exact ⟨.inl ⟨HALL.out, by rw [HC0.out]⟩, hb8⟩
    · rw [hJx] at hx
      obtain ⟨hL7, hD7, hne, hb7, q1, q2⟩ := hx
      have hend := run_endLoop (P := Tryd.prog) hL7 (by simp)
      refine ⟨some .ret, _, hend, ?_⟩
      have t1 := heap_put_ne (l := W5.heap.size + 1) (o := .loop { r with state := .exhausted, pending := some .ret }) q1 (by have := lt_of_get r1; omega)
      have t2 := heap_put_ne (l := W5.heap.size + 1) (o := .loop { r with state := .exhausted, pending := some .ret }) q2 (by have := lt_of_get r2; omega)
      have tD := heap_put_ne (l := W5.heap.size + 1) (o := .loop { r with state := .exhausted, pending := some .ret }) hD7 (by omega)
      have hb8 := Below.putObj (l := W5.heap.size + 1) (o := .loop { r with state := .exhausted, pending := some .ret }) hb7 hb7.size (by have := hb5.size; omega)
      have HR : Hid (W5.heap.size ≠ w.heap.size ∧ W5.heap.size ≠ w.heap.size + 1) := Lib.hid (by have := lt_of_get r1; have := lt_of_get r2; omega)
      have HW5 := Lib.hid hb5.size
      generalize W7.putObj (W5.heap.size + 1) (.loop { r with state := .exhausted, pending := some .ret }) = W8 at *
      dsimp only
      clear hL7 hD7 hb7 q1 q2 hr hJ hJx hL6 hD6 hb56 hct hcq s3 s4 r1 r2 hend
      have u1 := cell_block (i := 0) t1
      have u2 := cell_block (i := 0) t2
      have f1 := free_block (i := 0) t1
      have f2 := free_block (i := 0) t2
      simp at u1 u2
      gi_wp2
      refine ⟨by simp, .inl ⟨_, _, rfl, run_takeDeferred tD, ?_⟩⟩
      have v1 := heap_put_ne (l := W5.heap.size) (o := .deferred none) t1 (by have := HR.out; omega)
      have v2 := heap_put_ne (l := W5.heap.size) (o := .deferred none) t2 (by have := HR.out; omega)
      have hb9 := Below.putObj (l := W5.heap.size) (o := .deferred none) hb8 hb8.size HW5.out
      have w1 := cell_block (i := 0) v1
      have w2 := cell_block (i := 0) v2
      simp at w1 w2
      refine ⟨_, (by simp [results, Tryd.results36, go_sem, w1, w2]; try rfl), ?_⟩
      exact ⟨.inr ⟨⟨k, hk, hne⟩, rfl⟩, hb9⟩

end Go.Proofs.YtkdonapgonegkaaDoor

set_option linter.unusedSimpArgs false
set_option linter.unusedVariables false
namespace Go.Proofs.YtkdonapgonegkaaDoor
open Go.RowKit Go.BigFrame

theorem cN_val {ls : List Int} {ns : List Nd} (hc : (chk ls ns).2 = 0) {i : Nat} (hi : i < ns.length) (k : Nat) : (valsL ns (triV ls ns [(i : Int)] k))[i]? = some (cN ls ns [(i : Int)] k) := by
  have hall : AllOK ns ls.length := chk_nodes hc
  have hix : ∀ x ∈ [(i : Int)], isIx x ns.length = true := by intro x hx; simp at hx; subst hx; exact isIx_true (by omega) (by omega)
  unfold cN
  rw [triN_val hall hix]
  have li := List.getElem?_eq_getElem (l := valsL ns (triV ls ns [(i : Int)] k)) (i := i) (by rw [valsL_len]; exact hi)
  rw [li]
  simp only [pickL, List.map_cons, List.map_nil, Int.toNat_natCast, List.getD_cons_zero, List.getD_eq_getElem?_getD (l := valsL ns (triV ls ns [(i : Int)] k)), li, Option.getD_some]
theorem dif_val {ls : List Int} {ns : List Nd} (hc : (chk ls ns).2 = 0) {i j : Nat} (hi : i < ns.length) (hj : j < ns.length) (k : Nat) :
    ∃ x y, (valsL ns (triV ls ns [(i : Int), (j : Int)] k))[i]? = some x ∧ (valsL ns (triV ls ns [(i : Int), (j : Int)] k))[j]? = some y ∧ (dif ls ns [(i : Int), (j : Int)] k ↔ ¬ x = y) := by
  have hall : AllOK ns ls.length := chk_nodes hc
  have hix : ∀ x ∈ [(i : Int), (j : Int)], isIx x ns.length = true := by intro x hx; simp at hx; rcases hx with rfl | rfl <;> exact isIx_true (by omega) (by omega)
  unfold dif
  rw [triN_val hall hix]
  have li := List.getElem?_eq_getElem (l := valsL ns (triV ls ns [(i : Int), (j : Int)] k)) (i := i) (by rw [valsL_len]; exact hi)
  have lj := List.getElem?_eq_getElem (l := valsL ns (triV ls ns [(i : Int), (j : Int)] k)) (i := j) (by rw [valsL_len]; exact hj)
  refine ⟨_, _, li, lj, ?_⟩
  simp only [pickL, List.map_cons, List.map_nil, Int.toNat_natCast, List.getD_cons_zero, List.getD_cons_succ, List.getD_eq_getElem?_getD (l := valsL ns (triV ls ns [(i : Int), (j : Int)] k)), li, lj, Option.getD_some]
def ConW (ls : List Int) (ns : List Nd) (fr : List Int) (e : Ending) : Prop :=
  ((∀ k : Nat, (k : Int) < pw (bitsL ls ns fr) → cN ls ns fr k = cN ls ns fr 0) ∧ e = .returned (.tuple #[.int .i64 (cN ls ns fr 0), .bool true])) ∨
    ((∃ k : Nat, (k : Int) < pw (bitsL ls ns fr) ∧ cN ls ns fr k ≠ cN ls ns fr 0) ∧ e = .returned (.tuple #[.int .i64 0, .bool false]))
def DifW (ls : List Int) (ns : List Nd) (fr : List Int) (e : Ending) (w' : World) : Prop :=
  (∃ (k : Nat) (A' : Option Addr) (c : Nat), (k : Int) < pw (bitsL ls ns fr) ∧ dif ls ns fr k ∧ (∀ j : Nat, j < k → ¬ dif ls ns fr j) ∧ e = .returned (.tuple #[.slice A' ls.length c, .bool true]) ∧ LiesI w' A' (triV ls ns fr k)) ∨
    ((∀ j : Nat, (j : Int) < pw (bitsL ls ns fr) → ¬ dif ls ns fr j) ∧ e = .returned (.tuple #[.slice none 0 0, .bool false]))
/-- What is known of all trials in memory. -/
theorem tries_use {ls : List Int} {ns : List Nd} {fr : List Int} {W1 : World} {base : Nat} {v : Value} {n0 : Nat} {xs : List Value} (h : RowsX W1 base v (tabR ls (lbL ns fr ls.length) (lbL ns fr ls.length).length n0) xs) (h0 : 0 < n0) :
    ∃ g cap, v = .slice (some ⟨g, 0, none⟩) n0 cap ∧ ∀ (k : Nat) (W : World), k < n0 → Below W1.heap.size W1 W → ∃ B c, W.cell? ⟨g, k, none⟩ = some (.slice B ls.length c) ∧ LiesI W B (triV ls ns fr k) := by
  obtain ⟨g, cap, rfl, hg⟩ := row_form h.own (by rw [tabR_len]; exact h0)
  refine ⟨g, cap, by rw [tabR_len], fun k W hk hbW => ?_⟩
  obtain ⟨B, c, h1, h2, _⟩ := h.lie k _ (tabR_at hk)
  rw [rowT_len] at h1
  refine ⟨B, c, ?_, h2.below hbW⟩
  have hlt := (h.own.lt g rfl).2
  have h3 := h.own.cellAt k (by rw [tabR_len]; omega)
  rw [h1] at h3
  exact (hbW.cell (p := ⟨g, k, none⟩) hlt).trans h3

set_option maxRecDepth 100000 in
set_option maxHeartbeats 1600000 in
theorem Constant_c (A : Option Addr) (cap : Nat) (ls : List Int) (hls : ls.length ≤ 65536) (N : Option Addr) (capN : Nat) (ns : List Nd) (hns : ns.length ≤ 65536) (i : Nat) (hi : i < ns.length) (hbit : bitsL ls ns [(i : Int)] ≤ 12) (hc : (chk ls ns).2 = 0) (w : World) (hA : LiesI w A ls) (hN : LiesN w N ns) :
    Calls Tryd.prog 38 #[.slice A ls.length cap, .slice N ns.length capN, .int .i64 i] w fun e w' => ConW ls ns [(i : Int)] e ∧ Below w.heap.size w w' := by
  have hix : ∀ x ∈ [(i : Int)], isIx x ns.length = true := by intro x hx; simp at hx; subst hx; exact isIx_true (by omega) (by omega)
  have hbd := sumK_bd (xs := lbL ns [(i : Int)] ls.length) (chk_ok hc).2.1 (lbL ns [(i : Int)] ls.length).length
  have hb0 : 0 ≤ bitsL ls ns [(i : Int)] := hbd.1
  have hpw := pw_bd hb0 (by omega)
  obtain ⟨n0, hn0⟩ := Int.eq_ofNat_of_zero_le (show 0 ≤ pw (bitsL ls ns [(i : Int)]) by omega)
  have hn1 : 0 < n0 := by omega
  have hn2 : n0 ≤ 65536 := by omega
  have HTR := Lib.hid (fun (W : World) (hb : Below w.heap.size w W) F cf (hF : LiesI W F [(i : Int)]) => Tries_c A cap ls hls (chk_ok hc).2.1 N capN ns hns (chk_nodes hc) F cf [(i : Int)] (by simp) hix W (hA.below hb) (hN.below hb) hF n0 (by omega) hn0.symm)
  have HNV := Lib.hid (fun (k : Nat) (V : Option Addr) (cv : Nat) (W : World) (hb : Below w.heap.size w W) (hV : LiesI W V (triV ls ns [(i : Int)] k)) => show Calls Tryd.prog 25 #[.slice N ns.length capN, .slice V ls.length cv] W (CopiedI W (valsL ns (triV ls ns [(i : Int)] k))) from by
    have h := NodeValues_c hc (triV_fit ls ns [(i : Int)] k).val N capN V cv W (hN.below hb) hV
    rw [triV_len] at h
    exact h)
  have HN0 := Lib.hid hn0
  have HCV := Lib.hid (fun k => cN_val hc hi k)
  have hii : (i : Int) < ns.length := by omega
  clear hA hN hc hix hbd hpw hn0 hb0 hbit
  go_enter Tryd.func38, Tryd.ntmps38
  go_wp2_with fail
  have r3 : (w.alloc (.cells #[.int .i64 (i : Int)] 3)).heap[w.heap.size]? = some (.cells #[.int .i64 (i : Int)] 3) := heap_alloc_new _ _
  have hb0 : Below w.heap.size w (w.alloc (.cells #[.int .i64 (i : Int)] 3)) := (Below.refl _ _).alloc (Nat.le_refl _) _
  have hF0 : LiesI (w.alloc (.cells #[.int .i64 (i : Int)] 3)) (some ⟨w.heap.size, 0, none⟩) [(i : Int)] := LiesI.block r3
  generalize w.alloc (.cells #[.int .i64 (i : Int)] 3) = W0 at *
  refine (HTR.out W0 hb0 (some ⟨w.heap.size, 0, none⟩) 1 hF0).mono ?_
  rintro e W1 ⟨v8, xs, rfl, hR, _, hs1⟩
  have hb1 := hb0.trans (hs1.mono hb0.size)
  obtain ⟨g, c8, rfl, huse⟩ := tries_use hR hn1
  have HU := Lib.hid huse
  clear huse hR r3 hF0 hs1 hb0 HTR
  obtain ⟨B0, d0, q0, hB0⟩ := HU.out 0 W1 hn1 (Below.refl _ _)
  have hn1' : (0 : Int) < n0 := by omega
  have HX0 := Lib.hid (HNV.out 0 B0 d0 W1 hb1 hB0)
  clear hB0
  go_wp2_with fail
  refine HX0.out.mono ?_
  rintro e W2 ⟨V2, c2, rfl, hV2, hs2⟩
  rw [valsL_len]
  have hb2 := hb1.trans (hs2.mono hb1.size)
  obtain ⟨a2, rfl, _, h2c⟩ := hV2 (by rw [valsL_len]; omega)
  have e2 := h2c i _ (HCV.out 0)
  have HS2 := Lib.hid hs2
  obtain ⟨z0, hz0⟩ : ∃ z0, cN ls ns [(i : Int)] 0 = z0 := ⟨_, rfl⟩
  rw [hz0] at e2
  have HZ0 := Lib.hid hz0
  clear hV2 h2c hs2 hb2 q0 hz0
  go_wp2_with fail
  go_loopw [10] (fun v10 wr => ∃ k : Nat, k ≤ n0 ∧ v10 = .int .i64 k ∧ (∀ m : Nat, m < k → cN ls ns [(i : Int)] m = cN ls ns [(i : Int)] 0) ∧ Below W1.heap.size W1 wr) (fun v10 _ => n0 - (intOf v10).toNat)
  case atStart => exact ⟨0, by omega, rfl, fun m hm => by omega, HS2.out⟩
  case round =>
    obtain ⟨k, hk, rfl, hall, hb⟩ := hrel
    have HALL := Lib.hid hall
    clear hall e2
    by_cases hlt : k < n0
    · have hkk : (k : Int) < n0 := by omega
      have hbw := hb1.trans (hb.mono hb1.size)
      obtain ⟨B, d, q, hB⟩ := HU.out k wr hlt hb
      have HX := Lib.hid (HNV.out k B d wr hbw hB)
      clear hB hbw
      go_wp2_with fail
      refine HX.out.mono ?_
      rintro e W3 ⟨V3, c3, rfl, hV3, hs3⟩
      rw [valsL_len]
      obtain ⟨a3, rfl, _, h3c⟩ := hV3 (by rw [valsL_len]; omega)
      have e3 := h3c i _ (HCV.out k)
      have HB3 := Lib.hid (hb.trans (hs3.mono hb.size))
      obtain ⟨z, hz⟩ : ∃ z, cN ls ns [(i : Int)] k = z := ⟨_, rfl⟩
      rw [hz] at e3
      have HZ := Lib.hid hz
      clear hV3 h3c hs3 hb q hz
      by_cases hzz : z = z0
      · have n1 : (z != z0) = false := by simpa using hzz
        have HE := Lib.hid (show cN ls ns [(i : Int)] k = cN ls ns [(i : Int)] 0 by rw [HZ.out, HZ0.out]; exact hzz)
        clear hzz
        go_wp2
        go_roundw
        case rel => exact ⟨k + 1, by omega, by go_num, fun m hm => by
          by_cases hmk : m = k
          · subst hmk; exact HE.out
          · exact HALL.out m (by omega), HB3.out⟩
        case measure => simp [intOf]; omega
      · have n1 : (z != z0) = true := by simpa using hzz
        have HE := Lib.hid (show cN ls ns [(i : Int)] k ≠ cN ls ns [(i : Int)] 0 by rw [HZ.out, HZ0.out]; exact hzz)
        have HF := Lib.hid (show ConW ls ns [(i : Int)] (.returned (.tuple #[.int .i64 0, .bool false])) from .inr ⟨⟨k, by rw [HN0.out]; exact hkk, HE.out⟩, rfl⟩)
        clear hzz
        go_wp2
        go_ret2
        exact ⟨HF.out, hb1.trans (HB3.out.mono hb1.size)⟩
    · obtain rfl : k = n0 := by omega
      have HF := Lib.hid (show ConW ls ns [(i : Int)] (.returned (.tuple #[.int .i64 z0, .bool true])) from .inl ⟨fun m hm => HALL.out m (by rw [HN0.out] at hm; omega), by rw [HZ0.out]⟩)
      have HB3 := Lib.hid (hb1.trans (hb.mono hb1.size))
      clear hb
      go_wp2
      go_ret2
      exact ⟨HF.out, HB3.out⟩

set_option maxRecDepth 100000 in
set_option maxHeartbeats 1600000 in
theorem Difference_c (A : Option Addr) (cap : Nat) (ls : List Int) (hls : ls.length ≤ 65536) (N : Option Addr) (capN : Nat) (ns : List Nd) (hns : ns.length ≤ 65536) (i j : Nat) (hi : i < ns.length) (hj : j < ns.length) (hbit : bitsL ls ns [(i : Int), (j : Int)] ≤ 12) (hc : (chk ls ns).2 = 0) (w : World) (hA : LiesI w A ls) (hN : LiesN w N ns) :
    Calls Tryd.prog 39 #[.slice A ls.length cap, .slice N ns.length capN, .int .i64 i, .int .i64 j] w fun e w' => DifW ls ns [(i : Int), (j : Int)] e w' ∧ Below w.heap.size w w' := by
  have hix : ∀ x ∈ [(i : Int), (j : Int)], isIx x ns.length = true := by intro x hx; simp at hx; rcases hx with rfl | rfl <;> exact isIx_true (by omega) (by omega)
  have hbd := sumK_bd (xs := lbL ns [(i : Int), (j : Int)] ls.length) (chk_ok hc).2.1 (lbL ns [(i : Int), (j : Int)] ls.length).length
  have hb0 : 0 ≤ bitsL ls ns [(i : Int), (j : Int)] := hbd.1
  have hpw := pw_bd hb0 (by omega)
  obtain ⟨n0, hn0⟩ := Int.eq_ofNat_of_zero_le (show 0 ≤ pw (bitsL ls ns [(i : Int), (j : Int)]) by omega)
  have hn1 : 0 < n0 := by omega
  have hn2 : n0 ≤ 65536 := by omega
  have HTR := Lib.hid (fun (W : World) (hb : Below w.heap.size w W) F cf (hF : LiesI W F [(i : Int), (j : Int)]) => Tries_c A cap ls hls (chk_ok hc).2.1 N capN ns hns (chk_nodes hc) F cf [(i : Int), (j : Int)] (by simp) hix W (hA.below hb) (hN.below hb) hF n0 (by omega) hn0.symm)
  have HNV := Lib.hid (fun (k : Nat) (V : Option Addr) (cv : Nat) (W : World) (hb : Below w.heap.size w W) (hV : LiesI W V (triV ls ns [(i : Int), (j : Int)] k)) => show Calls Tryd.prog 25 #[.slice N ns.length capN, .slice V ls.length cv] W (CopiedI W (valsL ns (triV ls ns [(i : Int), (j : Int)] k))) from by
    have h := NodeValues_c hc (triV_fit ls ns [(i : Int), (j : Int)] k).val N capN V cv W (hN.below hb) hV
    rw [triV_len] at h
    exact h)
  have HN0 := Lib.hid hn0
  have HCV := Lib.hid (fun k => dif_val hc hi hj k)
  have hii : (i : Int) < ns.length := by omega
  have hjj : (j : Int) < ns.length := by omega
  clear hA hN hc hix hbd hpw hn0 hb0 hbit
  go_enter Tryd.func39, Tryd.ntmps39
  go_wp2_with fail
  have r3 : (w.alloc (.cells #[.int .i64 (i : Int), .int .i64 (j : Int)] 3)).heap[w.heap.size]? = some (.cells #[.int .i64 (i : Int), .int .i64 (j : Int)] 3) := heap_alloc_new _ _
  have hb0 : Below w.heap.size w (w.alloc (.cells #[.int .i64 (i : Int), .int .i64 (j : Int)] 3)) := (Below.refl _ _).alloc (Nat.le_refl _) _
  have hF0 : LiesI (w.alloc (.cells #[.int .i64 (i : Int), .int .i64 (j : Int)] 3)) (some ⟨w.heap.size, 0, none⟩) [(i : Int), (j : Int)] := LiesI.block r3
  generalize w.alloc (.cells #[.int .i64 (i : Int), .int .i64 (j : Int)] 3) = W0 at *
  refine (HTR.out W0 hb0 (some ⟨w.heap.size, 0, none⟩) 2 hF0).mono ?_
  rintro e W1 ⟨v8, xs, rfl, hR, _, hs1⟩
  have hb1 := hb0.trans (hs1.mono hb0.size)
  obtain ⟨g, c8, rfl, huse⟩ := tries_use hR hn1
  have HU := Lib.hid huse
  clear huse hR r3 hF0 hs1 hb0 HTR
  go_wp2_with fail
  go_loopw [11] (fun v11 wr => ∃ k : Nat, k ≤ n0 ∧ v11 = .int .i64 k ∧ (∀ m : Nat, m < k → ¬ dif ls ns [(i : Int), (j : Int)] m) ∧ Below W1.heap.size W1 wr) (fun v11 _ => n0 - (intOf v11).toNat)
  case atStart => exact ⟨0, by omega, rfl, fun m hm => by omega, Below.refl _ _⟩
  case round =>
    obtain ⟨k, hk, rfl, hall, hb⟩ := hrel
    have HALL := Lib.hid hall
    clear hall
    by_cases hlt : k < n0
    · have hkk : (k : Int) < n0 := by omega
      have hbw := hb1.trans (hb.mono hb1.size)
      obtain ⟨B, d, q, hB⟩ := HU.out k wr hlt hb
      have HX := Lib.hid (HNV.out k B d wr hbw hB)
      clear hB hbw
      go_wp2_with fail
      refine HX.out.mono ?_
      rintro e W3 ⟨V3, c3, rfl, hV3, hs3⟩
      rw [valsL_len]
      obtain ⟨a3, rfl, h3l, h3c⟩ := hV3 (by rw [valsL_len]; omega)
      obtain ⟨x, y, hx, hy, hd⟩ := HCV.out k
      have ex := h3c i _ hx
      have ey := h3c j _ hy
      have k1 : ∀ z : Aft W3, z.val.cell? (a3.add i) = some (.int .i64 x) := fun z => (z.pf.cell (p := a3.add i) (by rw [addB]; exact h3l)).trans ex
      have k2 : ∀ z : Aft W3, z.val.cell? (a3.add j) = some (.int .i64 y) := fun z => (z.pf.cell (p := a3.add j) (by rw [addB]; exact h3l)).trans ey
      have hb3 := hb.trans (hs3.mono hb.size)
      have HD := Lib.hid hd
      clear hV3 h3c hs3 hb q hx hy hd ex ey
      by_cases hzz : x = y
      · have n1 : (x != y) = false := by simpa using hzz
        have HE := Lib.hid (fun h => HD.out.1 h hzz)
        clear hzz
        go_upto_region 6 with (fail)
        refine wp_region_aft (by kernel_rfl) (by kernel_rfl) ?_
        repeat (go_big_quiet_step (fail))
        refine wpQuiet_nil ?_
        intro z4
        have HB4 := Lib.hid (z4.below hb3 hb3.size)
        clear k1 k2 hb3
        go_wp2
        go_roundw
        case rel => exact ⟨k + 1, by omega, by go_num, fun m hm => by
          by_cases hmk : m = k
          · subst hmk; exact HE.out
          · exact HALL.out m (by omega), HB4.out⟩
        case measure => simp [intOf]; omega
      · have n1 : (x != y) = true := by simpa using hzz
        have HE := Lib.hid (HD.out.2 hzz)
        clear hzz
        go_upto_region 6 with (fail)
        refine wp_region_aft (by kernel_rfl) (by kernel_rfl) ?_
        repeat (go_big_quiet_step (fail))
        refine wpQuiet_nil ?_
        intro z4
        have hb4 := z4.below hb3 hb3.size
        clear k1 k2 hb3
        generalize z4.val = W4 at *
        obtain ⟨B5, d5, q5, hB5⟩ := HU.out k W4 hlt hb4
        have HF := Lib.hid (show DifW ls ns [(i : Int), (j : Int)] (.returned (.tuple #[.slice B5 ls.length d5, .bool true])) W4 from .inl ⟨k, B5, d5, by rw [HN0.out]; exact hkk, HE.out, HALL.out, rfl, hB5⟩)
        have HB5 := Lib.hid (hb1.trans (hb4.mono hb1.size))
        clear hB5 hb4
        go_wp2
        go_ret2
        exact ⟨HF.out, HB5.out⟩
    · obtain rfl : k = n0 := by omega
      have HF := Lib.hid (show DifW ls ns [(i : Int), (j : Int)] (.returned (.tuple #[.slice none 0 0, .bool false])) wr from .inr ⟨fun m hm => HALL.out m (by rw [HN0.out] at hm; omega), rfl⟩)
      have HB3 := Lib.hid (hb1.trans (hb.mono hb1.size))
      clear hb
      go_wp2
      go_ret2
      exact ⟨HF.out, HB3.out⟩

end Go.Proofs.YtkdonapgonegkaaDoor

set_option linter.unusedSimpArgs false
set_option linter.unusedVariables false
namespace Go.Proofs.YtkdonapgonegkaaDoor
open Go.RowKit Go.BigFrame

def DSp (ls : List Int) (ns : List Nd) (x0 x1 : Int) (v : Value) (er : Int) (W : World) : Prop :=
  (fromE ls ns [x0, x1] ≠ 0 → v = .slice none 0 0 ∧ er = fromE ls ns [x0, x1]) ∧
    ∀ i j : Nat, x0 = i → x1 = j → ∀ ni nj : Nd, ns[i]? = some ni → ns[j]? = some nj → (chk ls ns).2 = 0 →
      (ni.wd ≠ nj.wd → v = .slice none 0 0 ∧ er = 25) ∧ (ni.wd = nj.wd → 12 < bitsL ls ns [x0, x1] → v = .slice none 0 0 ∧ er = 8) ∧
      (ni.wd = nj.wd → bitsL ls ns [x0, x1] ≤ 12 →
        (∃ (k : Nat) (A' : Option Addr) (c : Nat), (k : Int) < pw (bitsL ls ns [x0, x1]) ∧ dif ls ns [x0, x1] k ∧ (∀ m : Nat, m < k → ¬ dif ls ns [x0, x1] m) ∧ v = .slice A' ls.length c ∧ er = 0 ∧ LiesI W A' (triV ls ns [x0, x1] k)) ∨
          ((∀ m : Nat, (m : Int) < pw (bitsL ls ns [x0, x1]) → ¬ dif ls ns [x0, x1] m) ∧ v = .slice none 0 0 ∧ er = 12))
def CSp (ls : List Int) (ns : List Nd) (x0 v er : Int) : Prop :=
  (fromE ls ns [x0] ≠ 0 → v = 0 ∧ er = fromE ls ns [x0]) ∧
    ∀ i : Nat, x0 = i → i < ns.length → (chk ls ns).2 = 0 →
      (12 < bitsL ls ns [x0] → v = 0 ∧ er = 8) ∧
      (bitsL ls ns [x0] ≤ 12 →
        ((∀ k : Nat, (k : Int) < pw (bitsL ls ns [x0]) → cN ls ns [x0] k = cN ls ns [x0] 0) ∧ v = cN ls ns [x0] 0 ∧ er = 0) ∨
          ((∃ k : Nat, (k : Int) < pw (bitsL ls ns [x0]) ∧ cN ls ns [x0] k ≠ cN ls ns [x0] 0) ∧ v = 0 ∧ er = 12))
theorem DSp.below {ls : List Int} {ns : List Nd} {x0 x1 : Int} {v : Value} {er : Int} {W W' : World} (h : DSp ls ns x0 x1 v er W) (hb : Below W.heap.size W W') : DSp ls ns x0 x1 v er W' := by
  refine ⟨h.1, fun i j e0 e1 ni nj hi hj hc => ?_⟩
  obtain ⟨h1, h2, h3⟩ := h.2 i j e0 e1 ni nj hi hj hc
  refine ⟨h1, h2, fun a b => ?_⟩
  rcases h3 a b with ⟨k, A', c, g1, g2, g3, g4, g5, g6⟩ | h4
  · exact .inl ⟨k, A', c, g1, g2, g3, g4, g5, g6.below hb⟩
  · exact .inr h4
theorem fromE_zero {ls : List Int} {ns : List Nd} {fr : List Int} (hc : (chk ls ns).2 = 0) (h : ∀ x ∈ fr, isIx x ns.length = true) : fromE ls ns fr = 0 := by
  unfold fromE; rw [hc]; exact (if_pos rfl).trans (argsE_good h)
theorem ix_two {ns : List Nd} {i j : Nat} (hi : i < ns.length) (hj : j < ns.length) : ∀ x ∈ [(i : Int), (j : Int)], isIx x ns.length = true := by
  intro x hx; simp at hx; rcases hx with rfl | rfl <;> exact isIx_true (by omega) (by omega)
theorem ix_one {ns : List Nd} {i : Nat} (hi : i < ns.length) : ∀ x ∈ [(i : Int)], isIx x ns.length = true := by
  intro x hx; simp at hx; subst hx; exact isIx_true (by omega) (by omega)
theorem DSp.bad {ls : List Int} {ns : List Nd} {x0 x1 : Int} {W : World} (h : fromE ls ns [x0, x1] ≠ 0) : DSp ls ns x0 x1 (.slice none 0 0) (fromE ls ns [x0, x1]) W := by
  refine ⟨fun _ => ⟨rfl, rfl⟩, fun i j e0 e1 ni nj hi hj hc => ?_⟩
  subst e0 e1
  exact absurd (fromE_zero hc (ix_two (List.getElem?_eq_some_iff.1 hi).1 (List.getElem?_eq_some_iff.1 hj).1)) h
theorem DSp.good {ls : List Int} {ns : List Nd} {i j : Nat} {ni nj : Nd} (hi : ns[i]? = some ni) (hj : ns[j]? = some nj) (hc : (chk ls ns).2 = 0) {v : Value} {er : Int} {W : World}
    (h : (ni.wd ≠ nj.wd → v = .slice none 0 0 ∧ er = 25) ∧ (ni.wd = nj.wd → 12 < bitsL ls ns [(i : Int), (j : Int)] → v = .slice none 0 0 ∧ er = 8) ∧
      (ni.wd = nj.wd → bitsL ls ns [(i : Int), (j : Int)] ≤ 12 →
        (∃ (k : Nat) (A' : Option Addr) (c : Nat), (k : Int) < pw (bitsL ls ns [(i : Int), (j : Int)]) ∧ dif ls ns [(i : Int), (j : Int)] k ∧ (∀ m : Nat, m < k → ¬ dif ls ns [(i : Int), (j : Int)] m) ∧ v = .slice A' ls.length c ∧ er = 0 ∧ LiesI W A' (triV ls ns [(i : Int), (j : Int)] k)) ∨
          ((∀ m : Nat, (m : Int) < pw (bitsL ls ns [(i : Int), (j : Int)]) → ¬ dif ls ns [(i : Int), (j : Int)] m) ∧ v = .slice none 0 0 ∧ er = 12))) : DSp ls ns i j v er W := by
  refine ⟨fun h0 => absurd (fromE_zero hc (ix_two (List.getElem?_eq_some_iff.1 hi).1 (List.getElem?_eq_some_iff.1 hj).1)) h0, fun i' j' e0 e1 ni' nj' hi' hj' _ => ?_⟩
  obtain rfl : i = i' := by omega
  obtain rfl : j = j' := by omega
  rw [hi] at hi'; rw [hj] at hj'
  cases hi'; cases hj'
  exact h
theorem CSp.bad {ls : List Int} {ns : List Nd} {x0 : Int} (h : fromE ls ns [x0] ≠ 0) : CSp ls ns x0 0 (fromE ls ns [x0]) := by
  refine ⟨fun _ => ⟨rfl, rfl⟩, fun i e0 hi hc => ?_⟩
  subst e0
  exact absurd (fromE_zero hc (ix_one hi)) h
theorem DifferenceOf_all (A : Option Addr) (cap : Nat) (ls : List Int) (hls : ls.length ≤ 65536) (N : Option Addr) (capN : Nat) (ns : List Nd) (hns : ns.length ≤ 65536) (hcap : ns.length ≤ capN) (hla : ∀ n ∈ ns, n.args.length ≤ 65536) (x0 x1 : Int) (w : World) (hA : LiesI w A ls) (hN : LiesN w N ns) (ht : TabOps w) :
    Calls Tryd.prog 35 #[.slice A ls.length cap, .slice N ns.length capN, .int .i64 x0, .int .i64 x1] w fun e w' => ∃ v er, e = .returned (.tuple #[v, .int .i64 er]) ∧ DSp ls ns x0 x1 v er w' ∧ Below w.heap.size w w' := by
  by_cases he : fromE ls ns [x0, x1] = 0
  case neg => exact (DifferenceOf_err A cap ls hls N capN ns hns hcap hla x0 x1 _ rfl he w hA hN ht).mono fun _ _ h => ⟨_, _, h.1, DSp.bad he, h.2⟩
  obtain ⟨hc, hix⟩ := fromE_ok he
  obtain ⟨i0, i1⟩ := isIx_iff.1 (hix x0 (by simp))
  obtain ⟨j0, j1⟩ := isIx_iff.1 (hix x1 (by simp))
  obtain ⟨i, rfl⟩ := Int.eq_ofNat_of_zero_le i0
  obtain ⟨j, rfl⟩ := Int.eq_ofNat_of_zero_le j0
  have hin : i < ns.length := by omega
  have hjn : j < ns.length := by omega
  have hi := List.getElem?_eq_getElem hin
  have hj := List.getElem?_eq_getElem hjn
  by_cases hwd : (ns[i]).wd = (ns[j]).wd
  case neg => exact (DifferenceOf_width A cap ls hls N capN ns hns hcap hla i j _ _ hi hj hwd hc w hA hN ht).mono fun _ _ h => ⟨_, _, h.1, DSp.good hi hj hc ⟨fun _ => ⟨rfl, rfl⟩, fun a => absurd a hwd, fun a => absurd a hwd⟩, h.2⟩
  by_cases hbt : 12 < bitsL ls ns [(i : Int), (j : Int)]
  case pos => exact (DifferenceOf_large A cap ls hls N capN ns hns hcap hla i j _ _ hi hj hwd hbt hc w hA hN ht).mono fun _ _ h => ⟨_, _, h.1, DSp.good hi hj hc ⟨fun a => absurd hwd a, fun _ _ => ⟨rfl, rfl⟩, fun _ a => absurd hbt (by omega)⟩, h.2⟩
  refine (DifferenceOf_ok A cap ls hls N capN ns hns hcap hla i j _ _ hi hj hwd (by omega) hc (TriOK.of hc hix (by simp) (by omega)) w hA hN ht).mono fun _ _ h => ?_
  obtain ⟨⟨k, A', c, h1, h2, h3, h4, h5⟩ | ⟨h1, h4⟩, hb⟩ := h
  · exact ⟨_, _, h4, DSp.good hi hj hc ⟨fun a => absurd hwd a, fun _ a => absurd a hbt, fun _ _ => .inl ⟨k, A', c, h1, h2, h3, rfl, rfl, h5⟩⟩, hb⟩
  · exact ⟨_, _, h4, DSp.good hi hj hc ⟨fun a => absurd hwd a, fun _ a => absurd a hbt, fun _ _ => .inr ⟨h1, rfl, rfl⟩⟩, hb⟩
theorem CSp.good {ls : List Int} {ns : List Nd} {i : Nat} (hi : i < ns.length) (hc : (chk ls ns).2 = 0) {v er : Int}
    (h : (12 < bitsL ls ns [(i : Int)] → v = 0 ∧ er = 8) ∧ (bitsL ls ns [(i : Int)] ≤ 12 →
        ((∀ k : Nat, (k : Int) < pw (bitsL ls ns [(i : Int)]) → cN ls ns [(i : Int)] k = cN ls ns [(i : Int)] 0) ∧ v = cN ls ns [(i : Int)] 0 ∧ er = 0) ∨
          ((∃ k : Nat, (k : Int) < pw (bitsL ls ns [(i : Int)]) ∧ cN ls ns [(i : Int)] k ≠ cN ls ns [(i : Int)] 0) ∧ v = 0 ∧ er = 12))) : CSp ls ns i v er := by
  refine ⟨fun h0 => absurd (fromE_zero hc (ix_one hi)) h0, fun i' e0 _ _ => ?_⟩
  obtain rfl : i = i' := by omega
  exact h
theorem ConstantAt_all (A : Option Addr) (cap : Nat) (ls : List Int) (hls : ls.length ≤ 65536) (N : Option Addr) (capN : Nat) (ns : List Nd) (hns : ns.length ≤ 65536) (hcap : ns.length ≤ capN) (hla : ∀ n ∈ ns, n.args.length ≤ 65536) (x0 : Int) (w : World) (hA : LiesI w A ls) (hN : LiesN w N ns) (ht : TabOps w) :
    Calls Tryd.prog 36 #[.slice A ls.length cap, .slice N ns.length capN, .int .i64 x0] w fun e w' => ∃ v er, e = .returned (.tuple #[.int .i64 v, .int .i64 er]) ∧ CSp ls ns x0 v er ∧ Below w.heap.size w w' := by
  by_cases he : fromE ls ns [x0] = 0
  case neg => exact (ConstantAt_err A cap ls hls N capN ns hns hcap hla x0 _ rfl he w hA hN ht).mono fun _ _ h => ⟨_, _, h.1, CSp.bad he, h.2⟩
  obtain ⟨hc, hix⟩ := fromE_ok he
  obtain ⟨i0, i1⟩ := isIx_iff.1 (hix x0 (by simp))
  obtain ⟨i, rfl⟩ := Int.eq_ofNat_of_zero_le i0
  have hin : i < ns.length := by omega
  by_cases hbt : 12 < bitsL ls ns [(i : Int)]
  case pos => exact (ConstantAt_large A cap ls hls N capN ns hns hcap hla i hin hbt hc w hA hN ht).mono fun _ _ h => ⟨_, _, h.1, CSp.good hin hc ⟨fun _ => ⟨rfl, rfl⟩, fun a => absurd hbt (by omega)⟩, h.2⟩
  refine (ConstantAt_ok A cap ls hls N capN ns hns hcap hla i hin (by omega) hc w hA hN ht).mono fun _ _ h => ?_
  obtain ⟨⟨h1, h4⟩ | ⟨h1, h4⟩, hb⟩ := h
  · exact ⟨_, _, h4, CSp.good hin hc ⟨fun a => absurd a hbt, fun _ => .inl ⟨h1, rfl, rfl⟩⟩, hb⟩
  · exact ⟨_, _, h4, CSp.good hin hc ⟨fun a => absurd a hbt, fun _ => .inr ⟨h1, rfl, rfl⟩⟩, hb⟩
/-- The code's only value is the reference's. -/
theorem con_meet {ls : List Int} {ns : List Nd} {i : Nat} {v er : Int} {e : Ending} (h : CSp ls ns i v er) (hi : i < ns.length) (hc : (chk ls ns).2 = 0) (hb : bitsL ls ns [(i : Int)] ≤ 12) (hr : ConW ls ns [(i : Int)] e) :
    (er = 0 ∧ e = .returned (.tuple #[.int .i64 v, .bool true])) ∨ (v = 0 ∧ er = 12 ∧ e = .returned (.tuple #[.int .i64 0, .bool false])) := by
  rcases (h.2 i rfl hi hc).2 hb with ⟨h1, rfl, rfl⟩ | ⟨⟨k, hk, hn⟩, rfl, rfl⟩
  · rcases hr with ⟨_, rfl⟩ | ⟨⟨k, hk, hn⟩, _⟩
    · exact .inl ⟨rfl, rfl⟩
    · exact absurd (h1 k hk) hn
  · rcases hr with ⟨h2, _⟩ | ⟨_, rfl⟩
    · exact absurd (h2 k hk) hn
    · exact .inr ⟨rfl, rfl, rfl⟩
/-- The code's first difference is the reference's. -/
theorem dif_meet {ls : List Int} {ns : List Nd} {i j : Nat} {ni nj : Nd} {v : Value} {er : Int} {e : Ending} {W w' : World} (h : DSp ls ns i j v er W) (hi : ns[i]? = some ni) (hj : ns[j]? = some nj) (hc : (chk ls ns).2 = 0) (hwd : ni.wd = nj.wd) (hb : bitsL ls ns [(i : Int), (j : Int)] ≤ 12) (hr : DifW ls ns [(i : Int), (j : Int)] e w') :
    (∃ (k : Nat) (A1 : Option Addr) (c1 : Nat) (A2 : Option Addr) (c2 : Nat), v = .slice A1 ls.length c1 ∧ er = 0 ∧ LiesI W A1 (triV ls ns [(i : Int), (j : Int)] k) ∧ e = .returned (.tuple #[.slice A2 ls.length c2, .bool true]) ∧ LiesI w' A2 (triV ls ns [(i : Int), (j : Int)] k)) ∨
      (v = .slice none 0 0 ∧ er = 12 ∧ e = .returned (.tuple #[.slice none 0 0, .bool false])) := by
  rcases (h.2 i j rfl rfl ni nj hi hj hc).2.2 hwd hb with ⟨k, A1, c1, g1, g2, g3, rfl, rfl, g6⟩ | ⟨g1, rfl, rfl⟩
  · rcases hr with ⟨k2, A2, c2, q1, q2, q3, rfl, q6⟩ | ⟨q1, _⟩
    · obtain rfl : k = k2 := by
        rcases Nat.lt_trichotomy k k2 with hlt | h | hlt
        · exact absurd g2 (q3 k hlt)
        · exact h
        · exact absurd q2 (g3 k2 hlt)
      exact .inl ⟨k, A1, c1, A2, c2, rfl, rfl, g6, rfl, q6⟩
    · exact absurd g2 (q1 k g1)
  · rcases hr with ⟨k2, A2, c2, q1, q2, q3, rfl, q6⟩ | ⟨_, rfl⟩
    · exact absurd q2 (g1 k2 q1)
    · exact .inr ⟨rfl, rfl, rfl⟩
theorem argsE_six {fr : List Int} {n : Int} (h : argsE fr n 6 ≠ 0) : argsE fr n 6 = 6 := by
  unfold argsE at *
  by_cases ha : (fr.all fun i => isIx i n) = true
  · rw [if_pos ha] at h; exact absurd rfl h
  · rw [if_neg ha]
theorem argsE_ok2 {fr : List Int} {n : Int} (h : argsE fr n 6 = 0) : ∀ x ∈ fr, isIx x n = true := by
  intro x hx
  unfold argsE at h
  by_cases ha : (fr.all fun i => isIx i n) = true
  · exact List.all_eq_true.1 ha x hx
  · rw [if_neg ha] at h; exact absurd h (by decide)
theorem eqL_self (a : List Int) : eqL a a = true := by unfold eqL; exact decide_eq_true rfl
/-- A region of two copies and a call. -/
structure C4 {α : Type} (W2 : World) (ls : List Int) (ns : List Nd) (Rr : α → World → Prop) (b1 b3 b8 : Bool) (q : (Option Addr × Nat) × (Option Addr × Nat) × α) (W : World) : Prop where
  bel : Below W2.heap.size W2 W
  l1 : b1 = true → LiesI W q.1.1 ls
  l3 : b3 = true → LiesN W q.2.1.1 ns ∧ ns.length ≤ q.2.1.2
  l8 : b8 = true → Rr q.2.2 W
section
variable {α : Type} {W2 W W' : World} {ls : List Int} {ns : List Nd} {Rr : α → World → Prop} {b1 b3 b8 : Bool} {q : (Option Addr × Nat) × (Option Addr × Nat) × α}
theorem C4.s1 (h : C4 W2 ls ns Rr b1 b3 b8 q W) (hR : ∀ v W W', Rr v W → Below W.heap.size W W' → Rr v W') {A' : Option Addr} {c' : Nat} (hl : LiesI W' A' ls) (hb : Below W.heap.size W W') : C4 W2 ls ns Rr true b3 b8 ((A', c'), q.2) W' :=
  ⟨h.bel.trans (hb.mono h.bel.size), fun _ => hl, fun h1 => ⟨(h.l3 h1).1.below hb, (h.l3 h1).2⟩, fun h1 => hR _ _ _ (h.l8 h1) hb⟩
theorem C4.s3 (h : C4 W2 ls ns Rr b1 b3 b8 q W) (hR : ∀ v W W', Rr v W → Below W.heap.size W W' → Rr v W') {A' : Option Addr} {c' : Nat} (hl : LiesN W' A' ns) (hc : ns.length ≤ c') (hb : Below W.heap.size W W') : C4 W2 ls ns Rr b1 true b8 (q.1, (A', c'), q.2.2) W' :=
  ⟨h.bel.trans (hb.mono h.bel.size), fun h1 => (h.l1 h1).below hb, fun _ => ⟨hl, hc⟩, fun h1 => hR _ _ _ (h.l8 h1) hb⟩
theorem C4.s8 (h : C4 W2 ls ns Rr b1 b3 b8 q W) {v : α} (hv : Rr v W') (hb : Below W.heap.size W W') : C4 W2 ls ns Rr b1 b3 true (q.1, q.2.1, v) W' :=
  ⟨h.bel.trans (hb.mono h.bel.size), fun h1 => (h.l1 h1).below hb, fun h1 => ⟨(h.l3 h1).1.below hb, (h.l3 h1).2⟩, fun _ => hv⟩
end

set_option maxRecDepth 100000 in
set_option maxHeartbeats 1600000 in
theorem bothA_c (a b : Int) (w : World) : Calls Tryd.prog 28 #[.int .i64 a, .int .i64 b] w fun e w' => e = .returned (.int .i64 (thenE a b)) ∧ w = w' := by
  by_cases h : a = 0
  · subst h
    rw [show thenE 0 b = b from if_pos rfl]
    go_enter Tryd.func28, Tryd.ntmps28
    go_wp2
    go_ret
    exact ⟨rfl, rfl⟩
  · have n1 : (a == 0) = false := by simpa using h
    have n2 : (a != 0) = true := by simpa using h
    rw [show thenE a b = a from if_neg h]
    clear h
    go_enter Tryd.func28, Tryd.ntmps28
    go_wp2
    go_ret
    exact ⟨rfl, rfl⟩

end Go.Proofs.YtkdonapgonegkaaDoor
