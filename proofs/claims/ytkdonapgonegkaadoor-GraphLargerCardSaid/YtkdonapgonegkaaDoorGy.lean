/-
  Contracts of chapter 2 (graph): the values of all nodes.
-/
import Derived.Test.YtkdonapgonegkaaDoorGx
import Derived.Test.YtkdonapgonegkaaDoorGp
set_option linter.unusedSimpArgs false
set_option linter.unusedVariables false
namespace Go.Proofs.YtkdonapgonegkaaDoor
open Go.RowKit Go.BigFrame

theorem row_next {vs : List Int} {n k : Nat} {x : Int} (hv : vs.length = k) (hk : k < n) : (vs ++ List.replicate (n - k) 0).set k x = (vs ++ [x]) ++ List.replicate (n - (k + 1)) 0 := by
  rw [List.set_append_right _ _ (by omega), hv, Nat.sub_self, show n - k = (n - (k + 1)) + 1 by omega, List.replicate_succ, List.set_cons_zero, List.append_assoc]
  rfl
theorem row_here {vs : List Int} {n k : Nat} (hv : vs.length = k) (hk : k < n) : (vs ++ List.replicate (n - k) (0 : Int))[k]? = some 0 := by
  rw [List.getElem?_append_right (by omega), hv, Nat.sub_self, show n - k = (n - (k + 1)) + 1 by omega, List.replicate_succ]
  rfl
theorem row_before {vs : List Int} {m k : Nat} (h : k < vs.length) : ∃ x, vs[k]? = some x ∧ (vs ++ List.replicate m (0 : Int))[k]? = some x :=
  ⟨vs[k], List.getElem?_eq_getElem h, by rw [List.getElem?_append_left h]; exact List.getElem?_eq_getElem h⟩
theorem CopiedI.mk' {w w' : World} {g : Nat} {T : TypeId} {n : Nat} {xs : List Int} (hn : xs.length = n) (h : w'.heap[g]? = some (.cells (rowA xs) T)) (hb : Below w.heap.size w w') : CopiedI w xs (.returned (.slice (some ⟨g, 0, none⟩) n n)) w' :=
  ⟨_, n, by rw [hn], LiesI.block h, hb⟩

set_option maxRecDepth 100000 in
set_option maxHeartbeats 1600000 in
theorem valuesOf_c (N : Option Addr) (capN : Nat) (ns : List Nd) (hns : ns.length ≤ 65536) (A : Option Addr) (cap : Nat) (ls : List Int) (hls : ls.length ≤ 65536) (hlv : ∀ x ∈ ls, 0 ≤ x ∧ x ≤ 65536)
    (hall : ∀ k n, ns[k]? = some n → NodeOK ns ls.length k n) (w : World) (hN : LiesN w N ns) (hA : LiesI w A ls) :
    Calls Tryd.prog 56 #[.slice N ns.length capN, .slice A ls.length cap] w (CopiedI w (valsL ns ls)) := by
  obtain ⟨i0, hi, hz0, hz1, hz2⟩ := info_parts int_info
  have HN := Lib.hid hN
  have HA := Lib.hid hA
  have HALL := Lib.hid hall
  have HLV := Lib.hid hlv
  clear hN hA hall hlv
  go_enter Tryd.func56, Tryd.ntmps56
  go_wp2_with (refine wpList_make_full _ rfl _ _ 22 rfl w.heap.size 3 i0 _ 1 Tryd.underlying22 hi hz0 hz1 .i64 .i64 _ _ ns.length rfl rfl rfl rfl (by rw [hz2]; omega) (by unfold maxLen; omega) (by simp) ?_; intro W1 hown hgr; have hb2 := (Below.refl (w.alloc (.cells #[.slice N ns.length capN] 23)).heap.size (w.alloc (.cells #[.slice N ns.length capN] 23))).grown hgr (Nat.le_refl _) (fun q hq => by cases hq); have rP := (hb2.block w.heap.size (by simp)).trans (heap_alloc_new w (.cells #[.slice N ns.length capN] 23)); have qP := cell_block (i := 0) rP; simp at qP; have rg : W1.heap[w.heap.size + 1]? = some (.cells (rowA (List.replicate ns.length 0)) 3) := (by have := row_block hown rfl; rw [row_made] at this; simpa using this); have lg := lt_of_get rg; have lP := lt_of_get rP; have hb1 : Below w.heap.size w W1 := ((Below.refl _ _).alloc (Nat.le_refl _) _).trans (hb2.mono (by simp)); clear hown hgr hb2)
  have rQ2 : (W1.alloc (.cells #[.slice (some ⟨w.heap.size + 1, 0, none⟩) ns.length ns.length] 22)).heap[W1.heap.size]? = some (.cells #[.slice (some ⟨w.heap.size + 1, 0, none⟩) ns.length ns.length] 22) := heap_alloc_new _ _
  have rP2 := heap_alloc' (o := .cells #[.slice (some ⟨w.heap.size + 1, 0, none⟩) ns.length ns.length] 22) lP rP
  have rg2 := heap_alloc' (o := .cells #[.slice (some ⟨w.heap.size + 1, 0, none⟩) ns.length ns.length] 22) lg rg
  have hb2 := hb1.alloc (by omega) (.cells #[.slice (some ⟨w.heap.size + 1, 0, none⟩) ns.length ns.length] 22)
  generalize W1.alloc (.cells #[.slice (some ⟨w.heap.size + 1, 0, none⟩) ns.length ns.length] 22) = W2 at *
  clear rP qP rg hb1
  generalize W1.heap.size = q at *
  go_loopw [13] (fun v13 wr => ∃ k : Nat, k ≤ ns.length ∧ v13 = .int .i64 k ∧ wr.heap[w.heap.size]? = some (.cells #[.slice N ns.length capN] 23) ∧ wr.heap[w.heap.size + 1]? = some (.cells (rowA (valsK ns ls k ++ List.replicate (ns.length - k) 0)) 3) ∧ wr.heap[q]? = some (.cells #[.slice (some ⟨w.heap.size + 1, 0, none⟩) ns.length ns.length] 22) ∧ Below w.heap.size w wr) (fun v13 _ => ns.length - (intOf v13).toNat)
  case atStart => exact ⟨0, by omega, rfl, rP2, rg2, rQ2, hb2⟩
  case round =>
    clear rP2 rg2 rQ2 hb2
    obtain ⟨k, hk, rfl, rP, rg, rQ, hb⟩ := hrel
    have qP := cell_block (i := 0) rP
    have qQ := cell_block (i := 0) rQ
    simp at qP qQ
    have lP1 := lt_of_get rP
    have lg1 := lt_of_get rg
    have lQ1 := lt_of_get rQ
    have HVL := Lib.hid (valsK_len (ns := ns) (ls := ls) hk)
    by_cases hlt : k < ns.length
    · have hkk : (k : Int) < ns.length := by omega
      have HX := Lib.hid (List.getElem?_eq_getElem hlt)
      generalize ns[k] = x at *
      have HS := Lib.hid (valsK_step (ls := ls) HX.out)
      obtain ⟨ad, rfl, hbl, c0, c1, c3, B, bc, c2, hB⟩ := HN.out.cells HX.out
      have hbk : ∀ p : Addr, p.block = ad.block → wr.cell? p = w.cell? p := fun p hp => hb.cell (p := p) (by rw [hp]; exact hbl)
      have a0 := (hbk (ad.add (k * 4)) (by rw [addB])).trans c0
      have a1 : wr.cell? ⟨(ad.add (k * 4)).block, (ad.add (k * 4)).off + 1, none⟩ = some (.int .i64 x.wd) := (hbk ((ad.add (k * 4)).add 1) (by rw [addB, addB])).trans c1
      have a2 : wr.cell? ⟨(ad.add (k * 4)).block, (ad.add (k * 4)).off + 2, none⟩ = some (.slice B x.args.length bc) := (hbk ((ad.add (k * 4)).add 2) (by rw [addB, addB])).trans c2
      have a3 : wr.cell? ⟨(ad.add (k * 4)).block, (ad.add (k * 4)).off + 3, none⟩ = some (.int .i64 x.v) := (hbk ((ad.add (k * 4)).add 3) (by rw [addB, addB])).trans c3
      have HBL := Lib.hid hB
      clear c0 c1 c2 c3 hbk hB
      have HOK := Lib.hid (HALL.out k x HX.out)
      obtain ⟨op, wd, args, v⟩ := x
      simp only at a0 a1 a2 a3 HBL
      by_cases ho : op = 1
      · subst ho
        have HV := Lib.hid (show valN ns ls (valsK ns ls k) ⟨1, wd, args, v⟩ = ls.getD v.toNat 0 from if_pos rfl)
        obtain ⟨v0, v1⟩ := HOK.out.lf rfl
        simp only at v0 v1
        obtain ⟨j, rfl⟩ := Int.eq_ofNat_of_zero_le v0
        have hj : j < ls.length := by omega
        have HY := Lib.hid (List.getElem?_eq_getElem hj)
        have HG := Lib.hid (show ls.getD ((j : Nat) : Int).toNat 0 = ls[j] by simp [hj])
        generalize ls[j] = u at *
        obtain ⟨aa, rfl, hal, e0⟩ := HA.out.cell HY.out
        go_wp2_with fail
        have rn3 : (wr.alloc (.cells #[.int .i64 1, .int .i64 wd, .slice B args.length bc, .int .i64 ((j : Nat) : Int)] 65)).heap[wr.heap.size]? = some (.cells #[.int .i64 1, .int .i64 wd, .slice B args.length bc, .int .i64 ((j : Nat) : Int)] 65) := heap_alloc_new _ _
        have rP3 := heap_alloc' (o := .cells #[.int .i64 1, .int .i64 wd, .slice B args.length bc, .int .i64 ((j : Nat) : Int)] 65) lP1 rP
        have rg3 := heap_alloc' (o := .cells #[.int .i64 1, .int .i64 wd, .slice B args.length bc, .int .i64 ((j : Nat) : Int)] 65) lg1 rg
        have rQ3 := heap_alloc' (o := .cells #[.int .i64 1, .int .i64 wd, .slice B args.length bc, .int .i64 ((j : Nat) : Int)] 65) lQ1 rQ
        have hb3 := hb.alloc hb.size (.cells #[.int .i64 1, .int .i64 wd, .slice B args.length bc, .int .i64 ((j : Nat) : Int)] 65)
        generalize wr.alloc (.cells #[.int .i64 1, .int .i64 wd, .slice B args.length bc, .int .i64 ((j : Nat) : Int)] 65) = W3 at *
        have s0 := cell_block (i := 0) rn3
        have s1 := cell_block (i := 1) rn3
        have s2 := cell_block (i := 2) rn3
        have s3 := cell_block (i := 3) rn3
        have qQ3 := cell_block (i := 0) rQ3
        simp at s0 s1 s2 s3 qQ3
        have ln3 := lt_of_get rn3
        have lQ3 := lt_of_get rQ3
        clear a0 a1 a2 a3 qP qQ rP rg rQ hb
        generalize wr.heap.size = nn at *
        have ex : ∀ z : Aft W3, z.val.cell? (aa.add j) = some (.int .i64 u) := fun z => ((z.below hb3 hb3.size).cell (p := aa.add j) (by rw [addB]; exact hal)).trans e0
        clear e0
        refine wp_region_aft_tail 8 (by kernel_rfl) (by kernel_rfl) ?_
        simp only [List.take_succ_cons, List.take_zero, List.drop_succ_cons, List.drop_zero]
        repeat (go_big_quiet_step (fail))
        refine wpQuiet_nil ?_
        intro y
        have rgy := heap_aft y (lt_of_get rg3) rg3
        have rPy := heap_aft y (lt_of_get rP3) rP3
        have rQy := heap_aft y (lt_of_get rQ3) rQ3
        have hby := y.below hb3 hb3.size
        have qk := (cell_block (i := k) rgy).trans (rowA_in (row_here HVL.out hlt))
        have fk := free_block (i := k) rgy
        have HFIN := Lib.hid (show (y.val.setCell ⟨w.heap.size + 1, k, none⟩ (.int .i64 u)).heap[w.heap.size]? = some (.cells #[.slice (some ad) ns.length capN] 23) ∧ (y.val.setCell ⟨w.heap.size + 1, k, none⟩ (.int .i64 u)).heap[w.heap.size + 1]? = some (.cells (rowA (valsK ns ls (k + 1) ++ List.replicate (ns.length - (k + 1)) 0)) 3) ∧ (y.val.setCell ⟨w.heap.size + 1, k, none⟩ (.int .i64 u)).heap[q]? = some (.cells #[.slice (some ⟨w.heap.size + 1, 0, none⟩) ns.length ns.length] 22) ∧ Below w.heap.size w (y.val.setCell ⟨w.heap.size + 1, k, none⟩ (.int .i64 u)) from
          ⟨heap_set_ne rPy (by omega), by rw [heap_set rgy, rowA_set, row_next HVL.out hlt, HS.out, HV.out, HG.out], heap_set_ne rQy (by omega), hby.setCell (by simp) _⟩)
        generalize y.val = W4 at *
        clear rgy rPy rQy hby rn3 rP3 rg3 rQ3 hb3 s0 s1 s2 s3 qQ3
        go_wp2
        go_roundw
        case rel => exact ⟨k + 1, by omega, by go_num, HFIN.out.1, HFIN.out.2.1, HFIN.out.2.2.1, HFIN.out.2.2.2⟩
        case measure => simp [intOf]; omega
      · have HV := Lib.hid (show valN ns ls (valsK ns ls k) ⟨op, wd, args, v⟩ = resG op wd v (wAt ns args 0) (vAt (valsK ns ls k) args 0) (wAt ns args 1) (vAt (valsK ns ls k) args 1) (vAt (valsK ns ls k) args 2) from if_neg ho)
        have ho1 : (op == 1) = false := by simpa using ho
        go_wp2_with fail
        have rn3 : (wr.alloc (.cells #[.int .i64 op, .int .i64 wd, .slice B args.length bc, .int .i64 v] 65)).heap[wr.heap.size]? = some (.cells #[.int .i64 op, .int .i64 wd, .slice B args.length bc, .int .i64 v] 65) := heap_alloc_new _ _
        have rP3 := heap_alloc' (o := .cells #[.int .i64 op, .int .i64 wd, .slice B args.length bc, .int .i64 v] 65) lP1 rP
        have rg3 := heap_alloc' (o := .cells #[.int .i64 op, .int .i64 wd, .slice B args.length bc, .int .i64 v] 65) lg1 rg
        have rQ3 := heap_alloc' (o := .cells #[.int .i64 op, .int .i64 wd, .slice B args.length bc, .int .i64 v] 65) lQ1 rQ
        have hb3 := hb.alloc hb.size (.cells #[.int .i64 op, .int .i64 wd, .slice B args.length bc, .int .i64 v] 65)
        generalize wr.alloc (.cells #[.int .i64 op, .int .i64 wd, .slice B args.length bc, .int .i64 v] 65) = W3 at *
        have s0 := cell_block (i := 0) rn3
        have s1 := cell_block (i := 1) rn3
        have s2 := cell_block (i := 2) rn3
        have s3 := cell_block (i := 3) rn3
        have qQ3 := cell_block (i := 0) rQ3
        simp at s0 s1 s2 s3 qQ3
        have ln3 := lt_of_get rn3
        have lQ3 := lt_of_get rQ3
        clear a0 a1 a2 a3 qP qQ rP rg rQ hb
        generalize wr.heap.size = nn at *
        have HBA : Hid (∀ z : Aft W3, Calls Tryd.prog 87 #[.agg #[.int .i64 op, .int .i64 wd, .slice B args.length bc, .int .i64 v], .func (.func 88) #[] #[.pointer (some ⟨w.heap.size, 0, none⟩), .pointer (some ⟨q, 0, none⟩)]] z.val fun e w' => e = .returned (.agg #[.int .i64 (wAt ns args 0), .int .i64 (vAt (valsK ns ls k) args 0), .int .i64 (wAt ns args 1), .int .i64 (vAt (valsK ns ls k) args 1), .int .i64 (wAt ns args 2), .int .i64 (vAt (valsK ns ls k) args 2)]) ∧ ∃ x : Aft z.val, w' = x.val) :=
          Lib.hid (fun z => bargs_c ⟨op, wd, args, v⟩ k ls.length B bc w.heap.size q (w.heap.size + 1) ns.length ns.length (some ad) capN ns (valsK ns ls k) hns hns z.val (z.lt' (lt_of_get rP3)) (z.lt' (lt_of_get rQ3)) (z.lt' (lt_of_get rg3)) HALL.out HX.out hk (fun j hj => by
            obtain ⟨u, h1, h2⟩ := row_before (m := ns.length - k) (vs := valsK ns ls k) (k := j) (by rw [HVL.out]; exact hj)
            exact ⟨u, h1, (cell_block (heap_aft z (lt_of_get rg3) rg3)).trans (rowA_in h2)⟩)
            (by have := cell_block (i := 0) (heap_aft z (lt_of_get rP3) rP3); simpa using this) (by have := cell_block (i := 0) (heap_aft z (lt_of_get rQ3) rQ3); simpa using this) (HN.out.below (z.below hb3 hb3.size)) (HBL.out.below (z.below hb3 hb3.size)))
        have HF := Lib.hid (fit3 HALL.out HX.out (valsK_bd HLV.out (fun n hn => by obtain ⟨i, hi, rfl⟩ := List.mem_iff_getElem.1 hn; exact ⟨(HALL.out i _ (List.getElem?_eq_getElem hi)).w1, (HALL.out i _ (List.getElem?_eq_getElem hi)).w2⟩) k))
        simp only at HF
        generalize wAt ns args 0 = aw at *
        generalize wAt ns args 1 = bw at *
        generalize wAt ns args 2 = cw at *
        generalize vAt (valsK ns ls k) args 0 = av at *
        generalize vAt (valsK ns ls k) args 1 = bv at *
        generalize vAt (valsK ns ls k) args 2 = cv at *
        refine wp_region_aft_tail 8 (by kernel_rfl) (by kernel_rfl) ?_
        simp only [List.take_succ_cons, List.take_zero, List.drop_succ_cons, List.drop_zero]
        repeat (go_big_quiet_step (first | (go_at_call 87; exact Calls.qa (HBA.out _)) | (go_at_call 86; exact Calls.qa (resultOf_c op wd v aw av bw bv cw cv HF.out B _ bc _))))
        refine wpQuiet_nil ?_
        intro y
        have rgy := heap_aft y (lt_of_get rg3) rg3
        have rPy := heap_aft y (lt_of_get rP3) rP3
        have rQy := heap_aft y (lt_of_get rQ3) rQ3
        have hby := y.below hb3 hb3.size
        have qk := (cell_block (i := k) rgy).trans (rowA_in (row_here HVL.out hlt))
        have fk := free_block (i := k) rgy
        have HFIN := Lib.hid (show (y.val.setCell ⟨w.heap.size + 1, k, none⟩ (.int .i64 (resG op wd v aw av bw bv cv))).heap[w.heap.size]? = some (.cells #[.slice (some ad) ns.length capN] 23) ∧ (y.val.setCell ⟨w.heap.size + 1, k, none⟩ (.int .i64 (resG op wd v aw av bw bv cv))).heap[w.heap.size + 1]? = some (.cells (rowA (valsK ns ls (k + 1) ++ List.replicate (ns.length - (k + 1)) 0)) 3) ∧ (y.val.setCell ⟨w.heap.size + 1, k, none⟩ (.int .i64 (resG op wd v aw av bw bv cv))).heap[q]? = some (.cells #[.slice (some ⟨w.heap.size + 1, 0, none⟩) ns.length ns.length] 22) ∧ Below w.heap.size w (y.val.setCell ⟨w.heap.size + 1, k, none⟩ (.int .i64 (resG op wd v aw av bw bv cv))) from
          ⟨heap_set_ne rPy (by omega), by rw [heap_set rgy, rowA_set, row_next HVL.out hlt, HS.out, HV.out], heap_set_ne rQy (by omega), hby.setCell (by simp) _⟩)
        generalize y.val = W4 at *
        clear rgy rPy rQy hby rn3 rP3 rg3 rQ3 hb3 s0 s1 s2 s3 qQ3
        go_wp2
        go_roundw
        case rel => exact ⟨k + 1, by omega, by go_num, HFIN.out.1, HFIN.out.2.1, HFIN.out.2.2.1, HFIN.out.2.2.2⟩
        case measure => simp [intOf]; omega
    · obtain rfl : k = ns.length := by omega
      have HF := Lib.hid (show CopiedI w (valsL ns ls) (.returned (.slice (some ⟨w.heap.size + 1, 0, none⟩) ns.length ns.length)) wr from CopiedI.mk' (valsL_len ns ls) (by rw [Nat.sub_self, List.replicate_zero, List.append_nil] at rg; exact rg) hb)
      go_wp2
      go_ret
      exact HF.out

end Go.Proofs.YtkdonapgonegkaaDoor
