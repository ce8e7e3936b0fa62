/-
  Contracts of chapter 2 (graph): a node copied; items picked by index; a trial.
-/
import Derived.Test.YtkdonapgonegkaaDoorGE
set_option linter.unusedSimpArgs false
set_option linter.unusedVariables false
namespace Go.Proofs.YtkdonapgonegkaaDoor
open Go.RowKit Go.BigFrame

theorem copied1_c (a : Int) (w : World) : Calls Tryd.prog 92 #[.int .i64 a] w fun e w' => e = .returned (.int .i64 a) ∧ w = w' := by
  go_enter Tryd.func92, Tryd.ntmps92
  go_wp2
  go_ret
  exact ⟨rfl, rfl⟩

theorem coneOf1_c (k n m : Nat) (x : Int) (P : Nat) (ad : Addr) (hk : k < n) (hn : n ≤ 65536) (w : World) (c0 : w.cell? ⟨P, 0, none⟩ = some (.slice (some ad) n m)) (c1 : w.cell? (ad.add k) = some (.int .i64 x)) :
    Calls Tryd.prog 105 #[.int .i64 k, .pointer (some ⟨P, 0, none⟩)] w fun e w' => e = .returned (.int .i64 x) ∧ w = w' := by
  have hkk : (k : Int) < n := by omega
  go_enter Tryd.func105, Tryd.ntmps105
  go_wp2
  go_ret
  exact ⟨rfl, rfl⟩

theorem Appended1_c (k n m : Nat) (x : Int) (P : Nat) (ad : Addr) (hk : k < n) (hn : n ≤ 65536) (w : World) (c0 : w.cell? ⟨P, 0, none⟩ = some (.slice (some ad) n m)) (c1 : w.cell? (ad.add k) = some (.int .i64 x)) :
    Calls Tryd.prog 71 #[.int .i64 k, .pointer (some ⟨P, 0, none⟩)] w fun e w' => e = .returned (.int .i64 x) ∧ w = w' := by
  have hkk : (k : Int) < n := by omega
  go_enter Tryd.func71, Tryd.ntmps71
  go_wp2
  go_ret
  exact ⟨rfl, rfl⟩

set_option maxRecDepth 100000 in
set_option maxHeartbeats 1600000 in
theorem copied_c (op wd v : Int) (B : Option Addr) (bc : Nat) (gs : List Int) (hal : gs.length ≤ 65536) (w : World) (hB : LiesI w B gs) :
    Calls Tryd.prog 69 #[.agg #[.int .i64 op, .int .i64 wd, .slice B gs.length bc, .int .i64 v]] w (WithA w op wd v gs) := by
  have HB := Lib.hid hB
  clear hB
  go_enter Tryd.func69, Tryd.ntmps69
  go_wp2_with fail
  have hb0 : Below w.heap.size w ((w.alloc (.cells #[.int .i64 op, .int .i64 wd, .slice B gs.length bc, .int .i64 v] 65)).alloc (.cells #[.int .i64 0, .int .i64 0, .slice none 0 0, .int .i64 0] 65)) := ((Below.refl _ _).alloc (Nat.le_refl _) _).alloc (by simp) _
  have rR : ((w.alloc (.cells #[.int .i64 op, .int .i64 wd, .slice B gs.length bc, .int .i64 v] 65)).alloc (.cells #[.int .i64 0, .int .i64 0, .slice none 0 0, .int .i64 0] 65)).heap[w.heap.size + 1]? = some (.cells #[.int .i64 0, .int .i64 0, .slice none 0 0, .int .i64 0] 65) := heap_alloc_at (by simp)
  have hs0 : ((w.alloc (.cells #[.int .i64 op, .int .i64 wd, .slice B gs.length bc, .int .i64 v] 65)).alloc (.cells #[.int .i64 0, .int .i64 0, .slice none 0 0, .int .i64 0] 65)).heap.size = w.heap.size + 2 := by simp
  generalize ((w.alloc (.cells #[.int .i64 op, .int .i64 wd, .slice B gs.length bc, .int .i64 v] 65)).alloc (.cells #[.int .i64 0, .int .i64 0, .slice none 0 0, .int .i64 0] 65)) = W0 at *
  refine (withArgs_id (fun a => a) op wd v B bc gs hal W0 (HB.out.below hb0) (fun a _ W _ => copied1_c a W)).mono ?_
  rintro e W2 ⟨A', cap', rfl, hc, hl, hfr, hb2⟩
  rw [List.map_id'] at hl hc
  rw [List.length_map]
  have rR2 := (hb2.block _ (lt_of_get rR)).trans rR
  have hbw := hb0.trans (hb2.mono hb0.size)
  have hfr2 : ∀ ad, A' = some ad → w.heap.size + 1 < ad.block := fun ad h => by have := (hfr ad h).1; omega
  have HF := Lib.hid (show WithA w op wd v gs (.returned (.agg #[.int .i64 op, .int .i64 wd, .slice A' gs.length cap', .int .i64 v])) ((((W2.setCell ⟨w.heap.size + 1, 0, none⟩ (.int .i64 op)).setCell ⟨w.heap.size + 1, 1, none⟩ (.int .i64 wd)).setCell ⟨w.heap.size + 1, 2, none⟩ (.slice A' gs.length cap')).setCell ⟨w.heap.size + 1, 3, none⟩ (.int .i64 v)) from
    ⟨A', cap', rfl, hc, (((hl.set hfr2).set hfr2).set hfr2).set hfr2, fun ad h => (by obtain ⟨h1, cur, h2⟩ := hfr ad h; exact ⟨by omega, cur, by rw [heap_setCell_ne (by omega), heap_setCell_ne (by omega), heap_setCell_ne (by omega), heap_setCell_ne (by omega)]; exact h2⟩), (((hbw.setCell (Nat.le_succ _) _).setCell (Nat.le_succ _) _).setCell (Nat.le_succ _) _).setCell (Nat.le_succ _) _⟩)
  clear hl hc hfr hfr2 hbw hb2 hb0 hs0 rR
  have r0 := cell_block (i := 0) rR2
  have e0 := free_block (i := 0) rR2
  have r1 := cell_block (i := 1) rR2
  have e1 := free_block (i := 1) rR2
  have r2 := cell_block (i := 2) rR2
  have e2 := free_block (i := 2) rR2
  have r3 := cell_block (i := 3) rR2
  have e3 := free_block (i := 3) rR2
  simp at r0 r1 r2 r3
  go_wp2
  refine bodyPost_ret (by simp [results, Tryd.results69, go_sem, r0, r1, r2, r3]; try rfl) rfl ?_
  exact HF.out

/-- The items with some indexes. -/
def pickL (ys xs : List Int) : List Int := xs.map fun i => ys.getD i.toNat 0
theorem pickL_len (ys xs : List Int) : (pickL ys xs).length = xs.length := by simp [pickL]
theorem pickL_snoc {ys xs : List Int} {k p : Nat} {u : Int} (h : xs[k]? = some (p : Int)) (hu : ys[p]? = some u) : pickL ys (xs.take (k + 1)) = pickL ys (xs.take k) ++ [u] := by
  have := map_snoc (g := fun i : Int => ys.getD i.toNat 0) h
  unfold pickL; rw [this]; simp [List.getD, hu]

set_option maxRecDepth 100000 in
set_option maxHeartbeats 1600000 in
theorem picked_c (Y : Option Addr) (cy : Nat) (ys : List Int) (hys : ys.length ≤ 65536) (X : Option Addr) (cx : Nat) (xs : List Int) (hxs : xs.length ≤ 65536) (hx : ∀ x ∈ xs, isIx x ys.length = true) (w : World) (hY : LiesI w Y ys) (hX : LiesI w X xs) :
    Calls Tryd.prog 96 #[.slice Y ys.length cy, .slice X xs.length cx] w fun e w' => ∃ A' cap', e = .returned (.slice A' xs.length cap') ∧ LiesI w' A' (pickL ys xs) ∧ (∀ ad, A' = some ad → w.heap.size ≤ ad.block) ∧ Below w.heap.size w w' := by
  obtain ⟨i0, hi, hz0, hz1, hz2⟩ := info_parts int_info
  have HY := Lib.hid hY
  have HX := Lib.hid hX
  have HIX := Lib.hid hx
  clear hY hX hx
  go_enter Tryd.func96, Tryd.ntmps96
  go_wp2_with (refine wpList_make_full _ rfl _ _ 22 rfl w.heap.size 3 i0 _ 1 Tryd.underlying22 hi hz0 hz1 .i64 .i64 _ _ xs.length rfl rfl rfl rfl (by rw [hz2]; omega) (by unfold maxLen; omega) (Nat.le_refl _) ?_; intro W1 hown hgr; have hb2 := (Below.refl w.heap.size w).grown hgr (Nat.le_refl _) (fun q hq => by cases hq); have rg : W1.heap[w.heap.size]? = some (.cells (rowA (List.replicate xs.length 0)) 3) := (by have := row_block hown rfl; rwa [row_made] at this); clear hown hgr)
  generalize hg : w.heap.size = g at *
  have hb0 : Below w.heap.size w W1 := by rw [hg]; exact hb2
  clear hb2
  go_loopw [13] (fun v13 wr => ∃ k : Nat, k ≤ xs.length ∧ v13 = .int .i64 k ∧ wr.heap[g]? = some (.cells (rowA (pickL ys (xs.take k) ++ List.replicate (xs.length - k) 0)) 3) ∧ Below w.heap.size w wr) (fun v13 _ => xs.length - (intOf v13).toNat)
  case atStart => exact ⟨0, by omega, rfl, rg, hb0⟩
  case round =>
    clear rg hb0
    obtain ⟨k, hk, rfl, rg, hb⟩ := hrel
    have HL := Lib.hid (show (pickL ys (xs.take k)).length = k by rw [pickL_len, List.length_take_of_le hk])
    by_cases hlt : k < xs.length
    · have hkk : (k : Int) < xs.length := by omega
      have HE := Lib.hid (List.getElem?_eq_getElem hlt)
      have HI := Lib.hid (HIX.out _ (List.getElem_mem hlt))
      generalize xs[k] = x at *
      obtain ⟨x0, x1⟩ := isIx_iff.1 HI.out
      obtain ⟨p, rfl⟩ := Int.eq_ofNat_of_zero_le x0
      have hp : p < ys.length := by omega
      have HU := Lib.hid (List.getElem?_eq_getElem hp)
      generalize ys[p] = u at *
      obtain ⟨ax, rfl, hax, c0⟩ := HX.out.cell HE.out
      obtain ⟨ay, rfl, hay, c1⟩ := HY.out.cell HU.out
      have d0 := (hb.cell (p := ax.add k) (by rw [addB]; exact hax)).trans c0
      have d1 := (hb.cell (p := ay.add p) (by rw [addB]; exact hay)).trans c1
      have HS := Lib.hid (pickL_snoc HE.out HU.out)
      have qk := (cell_block (i := k) rg).trans (rowA_in (row_here HL.out hlt))
      have fk := free_block (i := k) rg
      have HFIN := Lib.hid (show (wr.setCell ⟨g, k, none⟩ (.int .i64 u)).heap[g]? = some (.cells (rowA (pickL ys (xs.take (k + 1)) ++ List.replicate (xs.length - (k + 1)) 0)) 3) ∧ Below w.heap.size w (wr.setCell ⟨g, k, none⟩ (.int .i64 u)) from
        ⟨by rw [heap_set rg, rowA_set, row_next HL.out hlt, HS.out], hb.setCell (p := ⟨g, k, none⟩) (Nat.le_of_eq hg) _⟩)
      clear c0 c1 rg hb
      go_wp2
      go_roundw
      case rel => exact ⟨k + 1, by omega, by go_num, HFIN.out.1, HFIN.out.2⟩
      case measure => simp [intOf]; omega
    · obtain rfl : k = xs.length := by omega
      rw [List.take_length, Nat.sub_self, List.replicate_zero, List.append_nil] at rg
      have HF := Lib.hid (show LiesI wr (some ⟨g, 0, none⟩) (pickL ys xs) from LiesI.block rg)
      clear rg
      go_wp2
      go_ret
      exact ⟨_, xs.length, rfl, HF.out, fun ad h => (by injection h with h; subst h; exact Nat.le_of_eq hg), hb⟩

end Go.Proofs.YtkdonapgonegkaaDoor
