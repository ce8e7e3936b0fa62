/-
  Contracts of chapter 2 (graph): the depths of all nodes, or the error.
-/
import Derived.Test.YtkdonapgonegkaaDoorGz
set_option linter.unusedSimpArgs false
set_option linter.unusedVariables false
namespace Go.Proofs.YtkdonapgonegkaaDoor
open Go.RowKit Go.BigFrame

/-- The depth of a node with these arguments, by those of the nodes before it. -/
def depF (ds : List Int) (args : List Int) : Int := args.foldl (fun m a => max m (ds.getD a.toNat 0 + 1)) 0
def depK (ns : List Nd) : Nat → List Int
  | 0 => []
  | k + 1 => depK ns k ++ (match ns[k]? with | none => [] | some n => [depF (depK ns k) n.args])
def depL (ns : List Nd) : List Int := depK ns ns.length
theorem depK_step {ns : List Nd} {k : Nat} {n : Nd} (h : ns[k]? = some n) : depK ns (k + 1) = depK ns k ++ [depF (depK ns k) n.args] := by simp only [depK, h]
theorem depK_len {ns : List Nd} : ∀ {k : Nat}, k ≤ ns.length → (depK ns k).length = k := by
  intro k
  induction k with
  | zero => intro _; rfl
  | succ k ih =>
    intro h
    rw [depK_step (List.getElem?_eq_getElem (by omega)), List.length_append, ih (by omega)]; rfl
theorem depL_len (ns : List Nd) : (depL ns).length = ns.length := depK_len (Nat.le_refl _)
theorem depF_step {ds args : List Int} {j : Nat} {a : Int} (h : args[j]? = some a) : depF ds (args.take (j + 1)) = max (depF ds (args.take j)) (ds.getD a.toNat 0 + 1) := by
  obtain ⟨hj, rfl⟩ := List.getElem?_eq_some_iff.1 h
  unfold depF
  rw [List.take_succ_eq_append_getElem hj, List.foldl_append]; rfl
theorem depF_bd {ds : List Int} {b : Int} (hd : ∀ x ∈ ds, 0 ≤ x ∧ x ≤ b) (hb : 0 ≤ b) : ∀ (args : List Int), 0 ≤ depF ds args ∧ depF ds args ≤ b + 1 := by
  have key : ∀ (args : List Int) (m : Int), 0 ≤ m → m ≤ b + 1 → 0 ≤ args.foldl (fun m a => max m (ds.getD a.toNat 0 + 1)) m ∧ args.foldl (fun m a => max m (ds.getD a.toNat 0 + 1)) m ≤ b + 1 := by
    intro args
    induction args with
    | nil => intro m h0 h1; exact ⟨h0, h1⟩
    | cons a args ih =>
      intro m h0 h1
      rw [List.foldl_cons]
      have hx : 0 ≤ ds.getD a.toNat 0 ∧ ds.getD a.toNat 0 ≤ b := by
        by_cases ha : a.toNat < ds.length
        · simp only [List.getD, List.getElem?_eq_getElem ha, Option.getD_some]; exact hd _ (List.getElem_mem ha)
        · simp only [List.getD, List.getElem?_eq_none (Nat.le_of_not_lt ha), Option.getD_none]; omega
      exact ih _ (by omega) (by omega)
  intro args
  exact key args 0 (Int.le_refl _) (by omega)
theorem depK_bd {ns : List Nd} : ∀ (k : Nat) x, x ∈ depK ns k → 0 ≤ x ∧ x ≤ k := by
  intro k
  induction k with
  | zero => intro x hx; simp [depK] at hx
  | succ k ih =>
    intro x hx
    simp only [depK, List.mem_append] at hx
    rcases hx with hx | hx
    · have := ih x hx; omega
    · cases hn : ns[k]? with
      | none => rw [hn] at hx; simp at hx
      | some n =>
        rw [hn] at hx
        have hx := List.mem_singleton.1 hx
        subst hx
        have := depF_bd (ds := depK ns k) (b := k) ih (by omega) n.args
        omega
/-- The row of depths: those of the first nodes, that of the next one so far, zeros. -/
def depR (ds : List Int) (m : Int) (z : Nat) : List Int := ds ++ m :: List.replicate z 0
theorem depR_start {ds : List Int} {n k : Nat} (hk : k < n) : ds ++ List.replicate (n - k) 0 = depR ds (depF ds (([] : List Int).take 0)) (n - (k + 1)) := by
  rw [show n - k = (n - (k + 1)) + 1 by omega, List.replicate_succ]; rfl
theorem depR_set {ds : List Int} {m x : Int} {z k : Nat} (h : ds.length = k) : (depR ds m z).set k x = depR ds x z := by
  unfold depR
  rw [List.set_append_right _ _ (by omega), h, Nat.sub_self, List.set_cons_zero]
theorem depR_mid {ds : List Int} {m : Int} {z k : Nat} (h : ds.length = k) : (depR ds m z)[k]? = some m := by
  unfold depR; rw [List.getElem?_append_right (by omega), h, Nat.sub_self]; rfl
theorem depR_at {ds : List Int} {m : Int} {z a : Nat} (h : a < ds.length) : (depR ds m z)[a]? = some (ds.getD a 0) := by
  unfold depR; rw [List.getElem?_append_left h, List.getD]; simp [List.getElem?_eq_getElem h]
theorem depR_end {ds : List Int} {m : Int} {z : Nat} : depR ds m z = (ds ++ [m]) ++ List.replicate z 0 := by
  unfold depR; rw [List.append_assoc]; rfl

set_option maxRecDepth 100000 in
set_option maxHeartbeats 1600000 in
theorem DepthsOf_c (A : Option Addr) (cap : Nat) (ls : List Int) (hls : ls.length ≤ 65536) (N : Option Addr) (capN : Nat) (ns : List Nd) (hns : ns.length ≤ 65536) (hcap : ns.length ≤ capN) (hla : ∀ n ∈ ns, n.args.length ≤ 65536) (w : World) (hA : LiesI w A ls) (hN : LiesN w N ns) (ht : TabOps w) :
    Calls Tryd.prog 17 #[.slice A ls.length cap, .slice N ns.length capN] w (RowE w (chk ls ns).2 (depL ns)) := by
  have HC := errorOfGraph_c A cap ls hls N capN ns hns hcap hla w hA hN ht
  by_cases h0 : (chk ls ns).2 = 0
  case neg =>
    generalize (chk ls ns).2 = er at *
    have HC := Lib.hid HC
    have HE := Lib.hid h0
    have n1 : (er == 0) = false := by simpa using h0
    have n2 : (er != 0) = true := by simpa using h0
    clear h0 hA hN ht hla hcap
    go_enter Tryd.func17, Tryd.ntmps17
    go_wp2_with fail
    refine HC.out.mono ?_
    rintro e w' ⟨rfl, y, rfl⟩
    go_wp2
    go_ret2
    exact RowE.bad HE.out y.pf
  obtain ⟨i0, hi, hz0, hz1, hz2⟩ := info_parts int_info
  rw [h0] at HC ⊢
  have HC := Lib.hid HC
  have HND := Lib.hid (chk_nodes h0)
  have HNN := Lib.hid hN
  clear h0 hA ht hcap hN
  have HLA := Lib.hid hla
  clear hla
  go_enter Tryd.func17, Tryd.ntmps17
  go_wp2_with fail
  refine HC.out.mono ?_
  rintro e w' ⟨rfl, y, rfl⟩
  have HB := Lib.hid y.pf
  generalize y.val = W at *
  go_wp2_with (refine wpList_make_full _ rfl _ _ 22 rfl W.heap.size 3 i0 _ 1 Tryd.underlying22 hi hz0 hz1 .i64 .i64 _ _ ns.length rfl rfl rfl rfl (by rw [hz2]; omega) (by unfold maxLen; omega) (Nat.le_refl _) ?_; intro W1 hown hgr; have hb2 := (Below.refl W.heap.size W).grown hgr (Nat.le_refl _) (fun q hq => by cases hq); have rg : W1.heap[W.heap.size]? = some (.cells (rowA (List.replicate ns.length 0)) 3) := (by have := row_block hown rfl; rwa [row_made] at this); clear hown hgr)
  have lg := lt_of_get rg
  have hbw := HB.out.trans (hb2.mono HB.out.size)
  have lw := HB.out.size
  clear hb2
  generalize W.heap.size = g at *
  go_loopw [23] (fun v23 wr => ∃ k : Nat, k ≤ ns.length ∧ v23 = .int .i64 k ∧ wr.heap[g]? = some (.cells (rowA (depK ns k ++ List.replicate (ns.length - k) 0)) 3) ∧ Below w.heap.size w wr) (fun v23 _ => ns.length - (intOf v23).toNat)
  case atStart => exact ⟨0, by omega, rfl, rg, hbw⟩
  case round =>
    clear rg hbw lg
    obtain ⟨k, hk, rfl, rg, hb⟩ := hrel
    have HVL := Lib.hid (depK_len hk)
    have HBD := Lib.hid (depK_bd (ns := ns) k)
    by_cases hlt : k < ns.length
    · have hkk : (k : Int) < ns.length := by omega
      have HX := Lib.hid (List.getElem?_eq_getElem hlt)
      have HL := Lib.hid (HLA.out _ (List.getElem_mem hlt))
      generalize ns[k] = x at *
      have HS := Lib.hid (depK_step HX.out)
      have HOK := Lib.hid (HND.out k x HX.out)
      obtain ⟨ad, rfl, hbl, c0, c1, c3, B, bc, c2, hB⟩ := HNN.out.cells HX.out
      have hbk : ∀ p : Addr, p.block = ad.block → wr.cell? p = w.cell? p := fun p hp => hb.cell (p := p) (by rw [hp]; exact hbl)
      have a0 := (hbk (ad.add (k * 4)) (by rw [addB])).trans c0
      have a1 : wr.cell? ⟨(ad.add (k * 4)).block, (ad.add (k * 4)).off + 1, none⟩ = some (.int .i64 x.wd) := (hbk ((ad.add (k * 4)).add 1) (by rw [addB, addB])).trans c1
      have a2 : wr.cell? ⟨(ad.add (k * 4)).block, (ad.add (k * 4)).off + 2, none⟩ = some (.slice B x.args.length bc) := (hbk ((ad.add (k * 4)).add 2) (by rw [addB, addB])).trans c2
      have a3 : wr.cell? ⟨(ad.add (k * 4)).block, (ad.add (k * 4)).off + 3, none⟩ = some (.int .i64 x.v) := (hbk ((ad.add (k * 4)).add 3) (by rw [addB, addB])).trans c3
      clear c0 c1 c2 c3 hbk
      have HBL := Lib.hid hB
      clear hB
      obtain ⟨op, wd, args, v⟩ := x
      simp only at a0 a1 a2 a3 HBL HL HS
      have hal : args.length ≤ 65536 := HL.out
      have rg1 := heap_alloc' (o := .cells #[.int .i64 op, .int .i64 wd, .slice B args.length bc, .int .i64 v] 65) (lt_of_get rg) rg
      have hb1 := hb.alloc hb.size (.cells #[.int .i64 op, .int .i64 wd, .slice B args.length bc, .int .i64 v] 65)
      have HST := Lib.hid (depR_start (ds := depK ns k) hlt)
      go_wp2
      clear a0 a1 a2 a3 rg hb
      generalize wr.alloc (.cells #[.int .i64 op, .int .i64 wd, .slice B args.length bc, .int .i64 v] 65) = W3 at *
      generalize wr.heap.size = nn at *
      go_loopw [31] (fun v31 w4 => ∃ j : Nat, j ≤ args.length ∧ v31 = .int .i64 j ∧ w4.heap[g]? = some (.cells (rowA (depR (depK ns k) (depF (depK ns k) (args.take j)) (ns.length - (k + 1)))) 3) ∧ Below w.heap.size w w4) (fun v31 _ => args.length - (intOf v31).toNat)
      case atStart => exact ⟨0, by omega, rfl, by have h := HST.out; rw [h] at rg1; exact rg1, hb1⟩
      case round =>
        clear rg1 hb1
        obtain ⟨j, hj, rfl, rg4, hb4⟩ := hrel
        by_cases hlt2 : j < args.length
        · have hjj : (j : Int) < args.length := by omega
          have HXA := Lib.hid (List.getElem?_eq_getElem hlt2)
          generalize args[j] = a at *
          obtain ⟨g0, g1⟩ := HOK.out.ai j a HXA.out
          obtain ⟨p, rfl⟩ := Int.eq_ofNat_of_zero_le g0
          have HFS := Lib.hid (depF_step (ds := depK ns k) HXA.out)
          obtain ⟨ba, rfl, hbal, ca⟩ := HBL.out.cell HXA.out
          have ca1 := (hb4.cell (p := ba.add j) (by rw [addB]; exact hbal)).trans ca
          have qk := (cell_block (i := k) rg4).trans (rowA_in (depR_mid HVL.out))
          have qp := (cell_block (i := p) rg4).trans (rowA_in (depR_at (by rw [HVL.out]; omega)))
          have lg4 := lt_of_get rg4
          have hm := depF_bd HBD.out (by omega) (args.take j)
          have hpk : p < k := by omega
          have hpn : (p : Int) < ns.length := by omega
          have he : 0 ≤ (depK ns k).getD p 0 ∧ (depK ns k).getD p 0 ≤ k := by
            have hpl : p < (depK ns k).length := by rw [HVL.out]; omega
            simp only [List.getD, List.getElem?_eq_getElem hpl, Option.getD_some]; exact HBD.out _ (List.getElem_mem hpl)
          have HFS : Hid (depF (depK ns k) (args.take (j + 1)) = max (depF (depK ns k) (args.take j)) ((depK ns k).getD p 0 + 1)) := Lib.hid HFS.out
          clear ca
          generalize (depK ns k).getD p 0 = e at *
          generalize depF (depK ns k) (args.take j) = m at *
          obtain ⟨he0, he1⟩ := he
          obtain ⟨hm0, hm1⟩ := hm
          go_wp2_with fail
          refine wp_region_aft_tail 13 (by kernel_rfl) (by kernel_rfl) ?_
          simp only [List.take_succ_cons, List.take_zero, List.drop_succ_cons, List.drop_zero]
          repeat (go_big_quiet_step (fail))
          refine wpQuiet_nil ?_
          intro y
          obtain ⟨mx, hmx⟩ : ∃ mx, (if m < e + 1 then e + 1 else m) = mx := ⟨_, rfl⟩
          rw [hmx]
          have HM := Lib.hid (show max m (e + 1) = mx by rw [← hmx]; split <;> omega)
          clear hmx
          have rgy := heap_aft y lg4 rg4
          have hby := y.below hb4 hb4.size
          have qk := (cell_block (i := k) rgy).trans (rowA_in (depR_mid HVL.out))
          have fk := free_block (i := k) rgy
          have HFIN := Lib.hid (show (y.val.setCell ⟨g, k, none⟩ (.int .i64 mx)).heap[g]? = some (.cells (rowA (depR (depK ns k) (depF (depK ns k) (args.take (j + 1))) (ns.length - (k + 1)))) 3) ∧ Below w.heap.size w (y.val.setCell ⟨g, k, none⟩ (.int .i64 mx)) from
            ⟨by rw [heap_set rgy, rowA_set, depR_set HVL.out, HFS.out, HM.out], hby.setCell lw _⟩)
          generalize y.val = W4 at *
          clear rgy hby
          go_wp2
          go_roundw
          case rel => exact ⟨j + 1, by omega, by go_num, HFIN.out.1, HFIN.out.2⟩
          case measure => simp [intOf]; omega
        · obtain rfl : j = args.length := by omega
          have HFIN := Lib.hid (show wr.heap[g]? = some (.cells (rowA (depK ns (k + 1) ++ List.replicate (ns.length - (k + 1)) 0)) 3) from by
            rw [List.take_length] at rg4; rw [rg4, depR_end, HS.out])
          clear rg4
          go_wp2
          go_roundw
          case rel => exact ⟨k + 1, by omega, by go_num, HFIN.out, hb4⟩
          case measure => simp [intOf]; omega
    · obtain rfl : k = ns.length := by omega
      rw [Nat.sub_self, List.replicate_zero, List.append_nil] at rg
      have HF := Lib.hid (show RowE w 0 (depL ns) (.returned (.tuple #[.slice (some ⟨g, 0, none⟩) ns.length ns.length, .int .i64 0])) wr from by
        have := RowE.good (cap' := ns.length) (LiesI.block (ns := depL ns) rg) hb
        rwa [depL_len] at this)
      go_wp2
      go_ret2
      exact HF.out

end Go.Proofs.YtkdonapgonegkaaDoor
