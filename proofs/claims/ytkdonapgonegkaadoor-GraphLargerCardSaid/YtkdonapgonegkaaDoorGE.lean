/-
  Contracts of chapter 2 (graph): the bits below some nodes; nodes with other arguments; items picked by index.
-/
import Derived.Test.YtkdonapgonegkaaDoorGD
set_option linter.unusedSimpArgs false
set_option linter.unusedVariables false
namespace Go.Proofs.YtkdonapgonegkaaDoor
open Go.RowKit Go.BigFrame

set_option maxRecDepth 100000 in
set_option maxHeartbeats 1600000 in
theorem bitsBelow_c (A : Option Addr) (cap : Nat) (ls : List Int) (hls : ls.length ≤ 65536) (hw : ∀ x ∈ ls, isW x = true) (N : Option Addr) (capN : Nat) (ns : List Nd) (hns : ns.length ≤ 65536) (hall : ∀ k n, ns[k]? = some n → NodeOK ns ls.length k n) (F : Option Addr) (cf : Nat) (fr : List Int) (hfr : fr.length ≤ 65536) (hf : ∀ x ∈ fr, isIx x ns.length = true) (w : World) (hA : LiesI w A ls) (hN : LiesN w N ns) (hF : LiesI w F fr) :
    Calls Tryd.prog 73 #[.slice A ls.length cap, .slice N ns.length capN, .slice F fr.length cf] w fun e w' => e = .returned (.int .i64 (bitsL ls ns fr)) ∧ ∃ x : Aft w, w' = x.val := by
  have HLB := Lib.hid (leavesBelow_c A cap ls.length hls N capN ns hns hall F cf fr hfr hf w hN hF)
  have HA := Lib.hid hA
  have HW := Lib.hid hw
  clear hA hN hF hall hf hw
  go_enter Tryd.func73, Tryd.ntmps73
  go_wp2_with fail
  refine HLB.out.mono ?_
  rintro e W2 ⟨M, cm, rfl, hM, hb2⟩
  have HM := Lib.hid hM
  have HB := Lib.hid hb2
  have HR := Lib.hid (show bitsL ls ns fr = sumK ls (lbL ns fr ls.length) (lbL ns fr ls.length).length from rfl)
  have HMEM := Lib.hid (fun x (h : x ∈ lbL ns fr ls.length) => lbL_mem h)
  have hxl : (lbL ns fr ls.length).length ≤ 65536 := Nat.le_trans lbL_len hls
  clear hM hb2
  generalize lbL ns fr ls.length = xs at *
  go_wp2_with fail
  go_loop [7, 15] (fun v7 v15 => ∃ k : Nat, k ≤ xs.length ∧ v15 = .int .i64 k ∧ v7 = .int .i64 (sumK ls xs k)) (fun _ v15 => xs.length - (intOf v15).toNat)
  case atStart => exact ⟨0, by omega, rfl, rfl⟩
  case round =>
    obtain ⟨k, hk, rfl, rfl⟩ := hrel
    by_cases hlt : k < xs.length
    · have hkk : (k : Int) < xs.length := by omega
      have HX := Lib.hid (List.getElem?_eq_getElem hlt)
      have HI := Lib.hid (HMEM.out _ (List.getElem_mem hlt))
      generalize xs[k] = x at *
      obtain ⟨x0, x1⟩ := HI.out
      obtain ⟨p, rfl⟩ := Int.eq_ofNat_of_zero_le x0
      obtain ⟨am, rfl, ham, c0⟩ := HM.out.cell HX.out
      have hp : p < ls.length := by omega
      have HY := Lib.hid (List.getElem?_eq_getElem hp)
      have hiw := isW_iff.1 (HW.out _ (List.getElem_mem hp))
      have HS : Hid (sumK ls xs (k + 1) = sumK ls xs k + ls[p]) := Lib.hid (by
        have e : xs.getD k 0 = (p : Int) := by simp [List.getD, HX.out]
        have e2 : ls.getD ((p : Nat) : Int).toNat 0 = ls[p] := by simp [hp]
        simp only [sumK, e, e2])
      generalize ls[p] = u at *
      obtain ⟨aa, rfl, hal, c1⟩ := HA.out.cell HY.out
      have c2 := (HB.out.cell (p := aa.add p) (by rw [addB]; exact hal)).trans c1
      have hsb := sumK_bd (xs := xs) HW.out k
      obtain ⟨u1, u2⟩ := hiw
      obtain ⟨s1, s2⟩ := hsb
      clear c1
      generalize sumK ls xs k = s at *
      go_wp2
      go_round
      case rel => exact ⟨k + 1, by omega, by go_num, by rw [HS.out]⟩
      case measure => simp [intOf]; omega
    · obtain rfl : k = xs.length := by omega
      go_wp2
      go_ret
      exact ⟨retI HR.out.symm, Below.aft HB.out⟩

/-- A node with other arguments, gs a result. -/
def WithA (w : World) (op wd v : Int) (gs : List Int) (e : Ending) (w' : World) : Prop := ∃ A' cap', e = .returned (.agg #[.int .i64 op, .int .i64 wd, .slice A' gs.length cap', .int .i64 v]) ∧ gs.length ≤ cap' ∧ LiesI w' A' gs ∧ (∀ ad, A' = some ad → w.heap.size ≤ ad.block ∧ ∃ cur, w'.heap[ad.block]? = some (.cells cur 3 (0, 0))) ∧ Below w.heap.size w w'
theorem own_lies {w' : World} {base : Nat} {e : TypeId} {v : Value} {xs : List Int} (h : w'.ownsRow base e 1 v xs.length (xs.map (.int .i64))) : ∃ A' cap', v = .slice A' xs.length cap' ∧ xs.length ≤ cap' ∧ LiesI w' A' xs ∧ (∀ ad, A' = some ad → base ≤ ad.block ∧ ∃ cur, w'.heap[ad.block]? = some (.cells cur e (0, 0))) := by
  rcases h.2 with ⟨rfl, h0⟩ | ⟨g, cap', cur, rfl, hb, h3, hc, _⟩
  · exact ⟨none, 0, by rw [h0], by omega, fun hp => by omega, fun ad h => by cases h⟩
  · exact ⟨_, cap', rfl, hc, LiesI.of_own h, fun ad h => by injection h with h; subst h; exact ⟨hb, cur, h3⟩⟩
theorem map_snoc {g : Int → Int} {xs : List Int} {k : Nat} {a : Int} (h : xs[k]? = some a) : (xs.take (k + 1)).map g = (xs.take k).map g ++ [g a] := by
  obtain ⟨hj, rfl⟩ := List.getElem?_eq_some_iff.1 h
  rw [List.take_succ_eq_append_getElem hj, List.map_append]; rfl

set_option maxRecDepth 100000 in
set_option maxHeartbeats 1600000 in
theorem withArgs_id (g : Int → Int) (op wd v : Int) (B : Option Addr) (bc : Nat) (gs : List Int) (hal : gs.length ≤ 65536) (w : World) (hB : LiesI w B gs)
    (hK : ∀ a ∈ gs, ∀ W : World, Below w.heap.size w W → Calls Tryd.prog 92 #[.int .i64 a] W fun e w' => e = .returned (.int .i64 (g a)) ∧ W = w') :
    Calls Tryd.prog 70 #[.agg #[.int .i64 op, .int .i64 wd, .slice B gs.length bc, .int .i64 v], .func (.func 92) #[] #[]] w (WithA w op wd v (gs.map g)) := by
  obtain ⟨i0, hi, hz0, hz1, hz2⟩ := info_parts int_info
  have HB := Lib.hid hB
  have HK := Lib.hid hK
  clear hB hK
  go_enter Tryd.func70, Tryd.ntmps70
  go_wp2_with fail
  have rP : ((w.alloc (.cells #[.int .i64 op, .int .i64 wd, .slice B gs.length bc, .int .i64 v] 65)).alloc (.cells #[.int .i64 0, .int .i64 0, .slice none 0 0, .int .i64 0] 65)).heap[w.heap.size]? = some (.cells #[.int .i64 op, .int .i64 wd, .slice B gs.length bc, .int .i64 v] 65) := heap_alloc' (by simp) (heap_alloc_new _ _)
  have rR : ((w.alloc (.cells #[.int .i64 op, .int .i64 wd, .slice B gs.length bc, .int .i64 v] 65)).alloc (.cells #[.int .i64 0, .int .i64 0, .slice none 0 0, .int .i64 0] 65)).heap[w.heap.size + 1]? = some (.cells #[.int .i64 0, .int .i64 0, .slice none 0 0, .int .i64 0] 65) := heap_alloc_at (by simp)
  have hb0 : Below w.heap.size w ((w.alloc (.cells #[.int .i64 op, .int .i64 wd, .slice B gs.length bc, .int .i64 v] 65)).alloc (.cells #[.int .i64 0, .int .i64 0, .slice none 0 0, .int .i64 0] 65)) := ((Below.refl _ _).alloc (Nat.le_refl _) _).alloc (by simp) _
  have hs0 : w.heap.size + 2 ≤ ((w.alloc (.cells #[.int .i64 op, .int .i64 wd, .slice B gs.length bc, .int .i64 v] 65)).alloc (.cells #[.int .i64 0, .int .i64 0, .slice none 0 0, .int .i64 0] 65)).heap.size := by simp
  generalize ((w.alloc (.cells #[.int .i64 op, .int .i64 wd, .slice B gs.length bc, .int .i64 v] 65)).alloc (.cells #[.int .i64 0, .int .i64 0, .slice none 0 0, .int .i64 0] 65)) = W0 at *
  go_loopw [5, 11] (fun v5 v11 wr => ∃ k : Nat, k ≤ gs.length ∧ v11 = .int .i64 k ∧ wr.ownsRow (w.heap.size + 2) 3 1 v5 ((gs.take k).map g).length (((gs.take k).map g).map (Value.int .i64)) ∧ wr.heap[w.heap.size]? = some (.cells #[.int .i64 op, .int .i64 wd, .slice B gs.length bc, .int .i64 v] 65) ∧ wr.heap[w.heap.size + 1]? = some (.cells #[.int .i64 0, .int .i64 0, .slice none 0 0, .int .i64 0] 65) ∧ Below w.heap.size w wr ∧ w.heap.size + 2 ≤ wr.heap.size) (fun _ v11 _ => gs.length - (intOf v11).toNat)
  case atStart => exact ⟨0, by omega, rfl, World.ownsRow_nil _ _ _ _, rP, rR, hb0, hs0⟩
  case round =>
    clear rP rR hb0 hs0
    obtain ⟨k, hk, rfl, hown, rP, rR, hb, hs⟩ := hrel
    by_cases hlt : k < gs.length
    · have hkk : (k : Int) < gs.length := by omega
      have HX := Lib.hid (List.getElem?_eq_getElem hlt)
      have HM := Lib.hid (List.getElem_mem hlt)
      generalize gs[k] = a at *
      obtain ⟨ad, rfl, hbl, c0⟩ := HB.out.cell HX.out
      have c1 := (hb.cell (p := ad.add k) (by rw [addB]; exact hbl)).trans c0
      have HS := Lib.hid (map_snoc (g := g) HX.out)
      have hml : ((gs.take k).map g).length ≤ 65536 := by simp; omega
      generalize hm : ((gs.take k).map g).length = m at *
      clear c0
      go_wp2_with (first | (go_at_call 92; refine (HK.out a HM.out _ hb).mono ?_; rintro e w' ⟨rfl, rfl⟩) | (at_builtin; refine wpList_append_own _ rfl _ _ 22 rfl (w.heap.size + 2) 3 i0 (.int .i64 0) 1 8 Tryd.underlying22 hi hz0 hz1 hz2 rfl (by decide) _ _ _ rfl (hown.alloc _) ⟨_, 0, none⟩ 1 1 [.int .i64 _] rfl rfl (cell_one_new _ _ _) (fun x hx => by simp at hx; subst hx; rfl) (by unfold maxLen; omega) (by omega) (by first | omega | (simp; omega) | (simp at *; omega)) ?_; intro v' w3 hown' hgrow3 hnn))
      have HF := Lib.hid (own_snoc hown' hm.symm HS.out)
      have hal2 := hb.alloc hb.size (.cells #[.int .i64 (g a)] 3)
      have HB2 := Lib.hid (hal2.grown hgrow3 hal2.size (fun q hq => Nat.le_trans (by omega) (hown.lt q hq).1))
      have hbp := ((Below.refl (w.heap.size + 2) wr).alloc hs (.cells #[.int .i64 (g a)] 3)).grown hgrow3 (by simp; omega) (fun q hq => (hown.lt q hq).1)
      have HP := Lib.hid ((hbp.block _ (by omega)).trans rP)
      have HR := Lib.hid ((hbp.block _ (by omega)).trans rR)
      have hs3 := Nat.le_trans hs hbp.size
      clear hown' hgrow3 hown hal2 hbp rP rR
      go_wp2
      go_roundw
      case rel => exact ⟨k + 1, by omega, by go_num, HF.out, HP.out, HR.out, HB2.out, hs3⟩
      case measure => simp [intOf]; omega
    · obtain rfl : k = gs.length := by omega
      rw [List.take_length] at hown
      obtain ⟨A', cap', rfl, hc, hl, hfr⟩ := own_lies hown
      have HF := Lib.hid (show WithA w op wd v (gs.map g) (.returned (.agg #[.int .i64 op, .int .i64 wd, .slice A' gs.length cap', .int .i64 v])) (((((wr.setCell ⟨w.heap.size, 2, none⟩ (.slice A' gs.length cap')).setCell ⟨w.heap.size + 1, 0, none⟩ (.int .i64 op)).setCell ⟨w.heap.size + 1, 1, none⟩ (.int .i64 wd)).setCell ⟨w.heap.size + 1, 2, none⟩ (.slice A' gs.length cap')).setCell ⟨w.heap.size + 1, 3, none⟩ (.int .i64 v)) from
        ⟨A', cap', by rw [List.length_map], hc, ((((hl.set (fun ad h => by have := (hfr ad h).1; omega)).set (fun ad h => by have := (hfr ad h).1; omega)).set (fun ad h => by have := (hfr ad h).1; omega)).set (fun ad h => by have := (hfr ad h).1; omega)).set (fun ad h => by have := (hfr ad h).1; omega), fun ad h => (by obtain ⟨h1, cur, h2⟩ := hfr ad h; exact ⟨by omega, cur, by rw [heap_setCell_ne (by omega), heap_setCell_ne (by omega), heap_setCell_ne (by omega), heap_setCell_ne (by omega), heap_setCell_ne (by omega)]; exact h2⟩),
          ((((hb.setCell (Nat.le_refl _) _).setCell (Nat.le_succ _) _).setCell (Nat.le_succ _) _).setCell (Nat.le_succ _) _).setCell (Nat.le_succ _) _⟩)
      clear hown hl hc hfr hb
      have p0 := cell_block (i := 0) rP
      have f0 := free_block (i := 0) rP
      have r0 := cell_block (i := 0) rR
      have e0 := free_block (i := 0) rR
      have p1 := cell_block (i := 1) rP
      have f1 := free_block (i := 1) rP
      have r1 := cell_block (i := 1) rR
      have e1 := free_block (i := 1) rR
      have p2 := cell_block (i := 2) rP
      have f2 := free_block (i := 2) rP
      have r2 := cell_block (i := 2) rR
      have e2 := free_block (i := 2) rR
      have p3 := cell_block (i := 3) rP
      have f3 := free_block (i := 3) rP
      have r3 := cell_block (i := 3) rR
      have e3 := free_block (i := 3) rR
      simp at p0 p1 p2 p3 r0 r1 r2 r3
      go_wp2
      refine bodyPost_ret (by simp [results, Tryd.results70, go_sem, r0, r1, r2, r3]; try rfl) rfl ?_
      exact HF.out

set_option maxRecDepth 100000 in
set_option maxHeartbeats 1600000 in
theorem withArgs_cone (P : Nat) (g : Int → Int) (op wd v : Int) (B : Option Addr) (bc : Nat) (gs : List Int) (hal : gs.length ≤ 65536) (w : World) (hB : LiesI w B gs)
    (hK : ∀ a ∈ gs, ∀ W : World, Below w.heap.size w W → Calls Tryd.prog 105 #[.int .i64 a, .pointer (some ⟨P, 0, none⟩)] W fun e w' => e = .returned (.int .i64 (g a)) ∧ W = w') :
    Calls Tryd.prog 70 #[.agg #[.int .i64 op, .int .i64 wd, .slice B gs.length bc, .int .i64 v], .func (.func 105) #[] #[.pointer (some ⟨P, 0, none⟩)]] w (WithA w op wd v (gs.map g)) := by
  obtain ⟨i0, hi, hz0, hz1, hz2⟩ := info_parts int_info
  have HB := Lib.hid hB
  have HK := Lib.hid hK
  clear hB hK
  go_enter Tryd.func70, Tryd.ntmps70
  go_wp2_with fail
  have rP : ((w.alloc (.cells #[.int .i64 op, .int .i64 wd, .slice B gs.length bc, .int .i64 v] 65)).alloc (.cells #[.int .i64 0, .int .i64 0, .slice none 0 0, .int .i64 0] 65)).heap[w.heap.size]? = some (.cells #[.int .i64 op, .int .i64 wd, .slice B gs.length bc, .int .i64 v] 65) := heap_alloc' (by simp) (heap_alloc_new _ _)
  have rR : ((w.alloc (.cells #[.int .i64 op, .int .i64 wd, .slice B gs.length bc, .int .i64 v] 65)).alloc (.cells #[.int .i64 0, .int .i64 0, .slice none 0 0, .int .i64 0] 65)).heap[w.heap.size + 1]? = some (.cells #[.int .i64 0, .int .i64 0, .slice none 0 0, .int .i64 0] 65) := heap_alloc_at (by simp)
  have hb0 : Below w.heap.size w ((w.alloc (.cells #[.int .i64 op, .int .i64 wd, .slice B gs.length bc, .int .i64 v] 65)).alloc (.cells #[.int .i64 0, .int .i64 0, .slice none 0 0, .int .i64 0] 65)) := ((Below.refl _ _).alloc (Nat.le_refl _) _).alloc (by simp) _
  have hs0 : w.heap.size + 2 ≤ ((w.alloc (.cells #[.int .i64 op, .int .i64 wd, .slice B gs.length bc, .int .i64 v] 65)).alloc (.cells #[.int .i64 0, .int .i64 0, .slice none 0 0, .int .i64 0] 65)).heap.size := by simp
  generalize ((w.alloc (.cells #[.int .i64 op, .int .i64 wd, .slice B gs.length bc, .int .i64 v] 65)).alloc (.cells #[.int .i64 0, .int .i64 0, .slice none 0 0, .int .i64 0] 65)) = W0 at *
  go_loopw [5, 11] (fun v5 v11 wr => ∃ k : Nat, k ≤ gs.length ∧ v11 = .int .i64 k ∧ wr.ownsRow (w.heap.size + 2) 3 1 v5 ((gs.take k).map g).length (((gs.take k).map g).map (Value.int .i64)) ∧ wr.heap[w.heap.size]? = some (.cells #[.int .i64 op, .int .i64 wd, .slice B gs.length bc, .int .i64 v] 65) ∧ wr.heap[w.heap.size + 1]? = some (.cells #[.int .i64 0, .int .i64 0, .slice none 0 0, .int .i64 0] 65) ∧ Below w.heap.size w wr ∧ w.heap.size + 2 ≤ wr.heap.size) (fun _ v11 _ => gs.length - (intOf v11).toNat)
  case atStart => exact ⟨0, by omega, rfl, World.ownsRow_nil _ _ _ _, rP, rR, hb0, hs0⟩
  case round =>
    clear rP rR hb0 hs0
    obtain ⟨k, hk, rfl, hown, rP, rR, hb, hs⟩ := hrel
    by_cases hlt : k < gs.length
    · have hkk : (k : Int) < gs.length := by omega
      have HX := Lib.hid (List.getElem?_eq_getElem hlt)
      have HM := Lib.hid (List.getElem_mem hlt)
      generalize gs[k] = a at *
      obtain ⟨ad, rfl, hbl, c0⟩ := HB.out.cell HX.out
      have c1 := (hb.cell (p := ad.add k) (by rw [addB]; exact hbl)).trans c0
      have HS := Lib.hid (map_snoc (g := g) HX.out)
      have hml : ((gs.take k).map g).length ≤ 65536 := by simp; omega
      generalize hm : ((gs.take k).map g).length = m at *
      clear c0
      go_wp2_with (first | (go_at_call 105; refine (HK.out a HM.out _ hb).mono ?_; rintro e w' ⟨rfl, rfl⟩) | (at_builtin; refine wpList_append_own _ rfl _ _ 22 rfl (w.heap.size + 2) 3 i0 (.int .i64 0) 1 8 Tryd.underlying22 hi hz0 hz1 hz2 rfl (by decide) _ _ _ rfl (hown.alloc _) ⟨_, 0, none⟩ 1 1 [.int .i64 _] rfl rfl (cell_one_new _ _ _) (fun x hx => by simp at hx; subst hx; rfl) (by unfold maxLen; omega) (by omega) (by first | omega | (simp; omega) | (simp at *; omega)) ?_; intro v' w3 hown' hgrow3 hnn))
      have HF := Lib.hid (own_snoc hown' hm.symm HS.out)
      have hal2 := hb.alloc hb.size (.cells #[.int .i64 (g a)] 3)
      have HB2 := Lib.hid (hal2.grown hgrow3 hal2.size (fun q hq => Nat.le_trans (by omega) (hown.lt q hq).1))
      have hbp := ((Below.refl (w.heap.size + 2) wr).alloc hs (.cells #[.int .i64 (g a)] 3)).grown hgrow3 (by simp; omega) (fun q hq => (hown.lt q hq).1)
      have HP := Lib.hid ((hbp.block _ (by omega)).trans rP)
      have HR := Lib.hid ((hbp.block _ (by omega)).trans rR)
      have hs3 := Nat.le_trans hs hbp.size
      clear hown' hgrow3 hown hal2 hbp rP rR
      go_wp2
      go_roundw
      case rel => exact ⟨k + 1, by omega, by go_num, HF.out, HP.out, HR.out, HB2.out, hs3⟩
      case measure => simp [intOf]; omega
    · obtain rfl : k = gs.length := by omega
      rw [List.take_length] at hown
      obtain ⟨A', cap', rfl, hc, hl, hfr⟩ := own_lies hown
      have HF := Lib.hid (show WithA w op wd v (gs.map g) (.returned (.agg #[.int .i64 op, .int .i64 wd, .slice A' gs.length cap', .int .i64 v])) (((((wr.setCell ⟨w.heap.size, 2, none⟩ (.slice A' gs.length cap')).setCell ⟨w.heap.size + 1, 0, none⟩ (.int .i64 op)).setCell ⟨w.heap.size + 1, 1, none⟩ (.int .i64 wd)).setCell ⟨w.heap.size + 1, 2, none⟩ (.slice A' gs.length cap')).setCell ⟨w.heap.size + 1, 3, none⟩ (.int .i64 v)) from
        ⟨A', cap', by rw [List.length_map], hc, ((((hl.set (fun ad h => by have := (hfr ad h).1; omega)).set (fun ad h => by have := (hfr ad h).1; omega)).set (fun ad h => by have := (hfr ad h).1; omega)).set (fun ad h => by have := (hfr ad h).1; omega)).set (fun ad h => by have := (hfr ad h).1; omega), fun ad h => (by obtain ⟨h1, cur, h2⟩ := hfr ad h; exact ⟨by omega, cur, by rw [heap_setCell_ne (by omega), heap_setCell_ne (by omega), heap_setCell_ne (by omega), heap_setCell_ne (by omega), heap_setCell_ne (by omega)]; exact h2⟩),
          ((((hb.setCell (Nat.le_refl _) _).setCell (Nat.le_succ _) _).setCell (Nat.le_succ _) _).setCell (Nat.le_succ _) _).setCell (Nat.le_succ _) _⟩)
      clear hown hl hc hfr hb
      have p0 := cell_block (i := 0) rP
      have f0 := free_block (i := 0) rP
      have r0 := cell_block (i := 0) rR
      have e0 := free_block (i := 0) rR
      have p1 := cell_block (i := 1) rP
      have f1 := free_block (i := 1) rP
      have r1 := cell_block (i := 1) rR
      have e1 := free_block (i := 1) rR
      have p2 := cell_block (i := 2) rP
      have f2 := free_block (i := 2) rP
      have r2 := cell_block (i := 2) rR
      have e2 := free_block (i := 2) rR
      have p3 := cell_block (i := 3) rP
      have f3 := free_block (i := 3) rP
      have r3 := cell_block (i := 3) rR
      have e3 := free_block (i := 3) rR
      simp at p0 p1 p2 p3 r0 r1 r2 r3
      go_wp2
      refine bodyPost_ret (by simp [results, Tryd.results70, go_sem, r0, r1, r2, r3]; try rfl) rfl ?_
      exact HF.out

set_option maxRecDepth 100000 in
set_option maxHeartbeats 1600000 in
theorem withArgs_app (P : Nat) (g : Int → Int) (op wd v : Int) (B : Option Addr) (bc : Nat) (gs : List Int) (hal : gs.length ≤ 65536) (w : World) (hB : LiesI w B gs)
    (hK : ∀ a ∈ gs, ∀ W : World, Below w.heap.size w W → Calls Tryd.prog 71 #[.int .i64 a, .pointer (some ⟨P, 0, none⟩)] W fun e w' => e = .returned (.int .i64 (g a)) ∧ W = w') :
    Calls Tryd.prog 70 #[.agg #[.int .i64 op, .int .i64 wd, .slice B gs.length bc, .int .i64 v], .func (.func 71) #[] #[.pointer (some ⟨P, 0, none⟩)]] w (WithA w op wd v (gs.map g)) := by
  obtain ⟨i0, hi, hz0, hz1, hz2⟩ := info_parts int_info
  have HB := Lib.hid hB
  have HK := Lib.hid hK
  clear hB hK
  go_enter Tryd.func70, Tryd.ntmps70
  go_wp2_with fail
  have rP : ((w.alloc (.cells #[.int .i64 op, .int .i64 wd, .slice B gs.length bc, .int .i64 v] 65)).alloc (.cells #[.int .i64 0, .int .i64 0, .slice none 0 0, .int .i64 0] 65)).heap[w.heap.size]? = some (.cells #[.int .i64 op, .int .i64 wd, .slice B gs.length bc, .int .i64 v] 65) := heap_alloc' (by simp) (heap_alloc_new _ _)
  have rR : ((w.alloc (.cells #[.int .i64 op, .int .i64 wd, .slice B gs.length bc, .int .i64 v] 65)).alloc (.cells #[.int .i64 0, .int .i64 0, .slice none 0 0, .int .i64 0] 65)).heap[w.heap.size + 1]? = some (.cells #[.int .i64 0, .int .i64 0, .slice none 0 0, .int .i64 0] 65) := heap_alloc_at (by simp)
  have hb0 : Below w.heap.size w ((w.alloc (.cells #[.int .i64 op, .int .i64 wd, .slice B gs.length bc, .int .i64 v] 65)).alloc (.cells #[.int .i64 0, .int .i64 0, .slice none 0 0, .int .i64 0] 65)) := ((Below.refl _ _).alloc (Nat.le_refl _) _).alloc (by simp) _
  have hs0 : w.heap.size + 2 ≤ ((w.alloc (.cells #[.int .i64 op, .int .i64 wd, .slice B gs.length bc, .int .i64 v] 65)).alloc (.cells #[.int .i64 0, .int .i64 0, .slice none 0 0, .int .i64 0] 65)).heap.size := by simp
  generalize ((w.alloc (.cells #[.int .i64 op, .int .i64 wd, .slice B gs.length bc, .int .i64 v] 65)).alloc (.cells #[.int .i64 0, .int .i64 0, .slice none 0 0, .int .i64 0] 65)) = W0 at *
  go_loopw [5, 11] (fun v5 v11 wr => ∃ k : Nat, k ≤ gs.length ∧ v11 = .int .i64 k ∧ wr.ownsRow (w.heap.size + 2) 3 1 v5 ((gs.take k).map g).length (((gs.take k).map g).map (Value.int .i64)) ∧ wr.heap[w.heap.size]? = some (.cells #[.int .i64 op, .int .i64 wd, .slice B gs.length bc, .int .i64 v] 65) ∧ wr.heap[w.heap.size + 1]? = some (.cells #[.int .i64 0, .int .i64 0, .slice none 0 0, .int .i64 0] 65) ∧ Below w.heap.size w wr ∧ w.heap.size + 2 ≤ wr.heap.size) (fun _ v11 _ => gs.length - (intOf v11).toNat)
  case atStart => exact ⟨0, by omega, rfl, World.ownsRow_nil _ _ _ _, rP, rR, hb0, hs0⟩
  case round =>
    clear rP rR hb0 hs0
    obtain ⟨k, hk, rfl, hown, rP, rR, hb, hs⟩ := hrel
    by_cases hlt : k < gs.length
    · have hkk : (k : Int) < gs.length := by omega
      have HX := Lib.hid (List.getElem?_eq_getElem hlt)
      have HM := Lib.hid (List.getElem_mem hlt)
      generalize gs[k] = a at *
      obtain ⟨ad, rfl, hbl, c0⟩ := HB.out.cell HX.out
      have c1 := (hb.cell (p := ad.add k) (by rw [addB]; exact hbl)).trans c0
      have HS := Lib.hid (map_snoc (g := g) HX.out)
      have hml : ((gs.take k).map g).length ≤ 65536 := by simp; omega
      generalize hm : ((gs.take k).map g).length = m at *
      clear c0
      go_wp2_with (first | (go_at_call 71; refine (HK.out a HM.out _ hb).mono ?_; rintro e w' ⟨rfl, rfl⟩) | (at_builtin; refine wpList_append_own _ rfl _ _ 22 rfl (w.heap.size + 2) 3 i0 (.int .i64 0) 1 8 Tryd.underlying22 hi hz0 hz1 hz2 rfl (by decide) _ _ _ rfl (hown.alloc _) ⟨_, 0, none⟩ 1 1 [.int .i64 _] rfl rfl (cell_one_new _ _ _) (fun x hx => by simp at hx; subst hx; rfl) (by unfold maxLen; omega) (by omega) (by first | omega | (simp; omega) | (simp at *; omega)) ?_; intro v' w3 hown' hgrow3 hnn))
      have HF := Lib.hid (own_snoc hown' hm.symm HS.out)
      have hal2 := hb.alloc hb.size (.cells #[.int .i64 (g a)] 3)
      have HB2 := Lib.hid (hal2.grown hgrow3 hal2.size (fun q hq => Nat.le_trans (by omega) (hown.lt q hq).1))
      have hbp := ((Below.refl (w.heap.size + 2) wr).alloc hs (.cells #[.int .i64 (g a)] 3)).grown hgrow3 (by simp; omega) (fun q hq => (hown.lt q hq).1)
      have HP := Lib.hid ((hbp.block _ (by omega)).trans rP)
      have HR := Lib.hid ((hbp.block _ (by omega)).trans rR)
      have hs3 := Nat.le_trans hs hbp.size
      clear hown' hgrow3 hown hal2 hbp rP rR
      go_wp2
      go_roundw
      case rel => exact ⟨k + 1, by omega, by go_num, HF.out, HP.out, HR.out, HB2.out, hs3⟩
      case measure => simp [intOf]; omega
    · obtain rfl : k = gs.length := by omega
      rw [List.take_length] at hown
      obtain ⟨A', cap', rfl, hc, hl, hfr⟩ := own_lies hown
      have HF := Lib.hid (show WithA w op wd v (gs.map g) (.returned (.agg #[.int .i64 op, .int .i64 wd, .slice A' gs.length cap', .int .i64 v])) (((((wr.setCell ⟨w.heap.size, 2, none⟩ (.slice A' gs.length cap')).setCell ⟨w.heap.size + 1, 0, none⟩ (.int .i64 op)).setCell ⟨w.heap.size + 1, 1, none⟩ (.int .i64 wd)).setCell ⟨w.heap.size + 1, 2, none⟩ (.slice A' gs.length cap')).setCell ⟨w.heap.size + 1, 3, none⟩ (.int .i64 v)) from
        ⟨A', cap', by rw [List.length_map], hc, ((((hl.set (fun ad h => by have := (hfr ad h).1; omega)).set (fun ad h => by have := (hfr ad h).1; omega)).set (fun ad h => by have := (hfr ad h).1; omega)).set (fun ad h => by have := (hfr ad h).1; omega)).set (fun ad h => by have := (hfr ad h).1; omega), fun ad h => (by obtain ⟨h1, cur, h2⟩ := hfr ad h; exact ⟨by omega, cur, by rw [heap_setCell_ne (by omega), heap_setCell_ne (by omega), heap_setCell_ne (by omega), heap_setCell_ne (by omega), heap_setCell_ne (by omega)]; exact h2⟩),
          ((((hb.setCell (Nat.le_refl _) _).setCell (Nat.le_succ _) _).setCell (Nat.le_succ _) _).setCell (Nat.le_succ _) _).setCell (Nat.le_succ _) _⟩)
      clear hown hl hc hfr hb
      have p0 := cell_block (i := 0) rP
      have f0 := free_block (i := 0) rP
      have r0 := cell_block (i := 0) rR
      have e0 := free_block (i := 0) rR
      have p1 := cell_block (i := 1) rP
      have f1 := free_block (i := 1) rP
      have r1 := cell_block (i := 1) rR
      have e1 := free_block (i := 1) rR
      have p2 := cell_block (i := 2) rP
      have f2 := free_block (i := 2) rP
      have r2 := cell_block (i := 2) rR
      have e2 := free_block (i := 2) rR
      have p3 := cell_block (i := 3) rP
      have f3 := free_block (i := 3) rP
      have r3 := cell_block (i := 3) rR
      have e3 := free_block (i := 3) rR
      simp at p0 p1 p2 p3 r0 r1 r2 r3
      go_wp2
      refine bodyPost_ret (by simp [results, Tryd.results70, go_sem, r0, r1, r2, r3]; try rfl) rfl ?_
      exact HF.out

end Go.Proofs.YtkdonapgonegkaaDoor
