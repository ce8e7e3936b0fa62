/-
  The walk of the law BitsFields.
-/
import Derived.Test.YtlplphigjejahaaBz
import Derived.Test.YtlplphigjejahaaBd
import Derived.Deep.DeepCutAuto
set_option linter.unusedSimpArgs false
set_option linter.unusedVariables false
namespace Go.Proofs.Ytlplphigjejahaa
open Go.RowKit Go.BigFrame

theorem Lies.below {w w' : World} {A : Option Addr} {ps : List (Int × Int)} (h : Lies w A ps) (hb : Below w.heap.size w w') : Lies w' A ps := h.aft ⟨w', hb⟩
theorem Calls.withB {P : Program} {f : FuncId} {args : Array Value} {w : World} {Q : Ending → World → Prop} (h : Calls P f args w Q) : Calls P f args w Q := h


structure Mem1 (w wx : World) (aw av x0 x1 bw bv : Int) (gb : Nat) : Prop where
  below : Below w.heap.size w wx
  ma : wx.heap[w.heap.size]? = some (.cells #[.int .i64 aw, .int .i64 av] 23)
  mx : wx.heap[w.heap.size + 1]? = some (.cells #[.int .i64 x0, .int .i64 x1] 47)
  mb : wx.heap[gb]? = some (.cells #[.int .i64 bw, .int .i64 bv] 23)
structure Mem2 (w wx : World) (aw av x0 x1 bw bv FW FV SW SV JW JV : Int) (gb gf gs gj : Nat) : Prop where
  m1 : Mem1 w wx aw av x0 x1 bw bv gb
  mf : wx.heap[gf]? = some (.cells #[.int .i64 FW, .int .i64 FV] 23)
  ms : wx.heap[gs]? = some (.cells #[.int .i64 SW, .int .i64 SV] 23)
  mj : wx.heap[gj]? = some (.cells #[.int .i64 JW, .int .i64 JV] 23)
theorem Mem1.aft {w wx : World} {aw av x0 x1 bw bv : Int} {gb : Nat} (h : Mem1 w wx aw av x0 x1 bw bv gb) (x : Aft wx) : Mem1 w x.val aw av x0 x1 bw bv gb :=
  ⟨h.below.trans (x.pf.mono h.below.size), heap_aft x (lt_of_get h.ma) h.ma, heap_aft x (lt_of_get h.mx) h.mx, heap_aft x (lt_of_get h.mb) h.mb⟩
theorem Mem2.aft {w wx : World} {aw av x0 x1 bw bv FW FV SW SV JW JV : Int} {gb gf gs gj : Nat} (h : Mem2 w wx aw av x0 x1 bw bv FW FV SW SV JW JV gb gf gs gj) (x : Aft wx) : Mem2 w x.val aw av x0 x1 bw bv FW FV SW SV JW JV gb gf gs gj :=
  ⟨h.m1.aft x, heap_aft x (lt_of_get h.mf) h.mf, heap_aft x (lt_of_get h.ms) h.ms, heap_aft x (lt_of_get h.mj) h.mj⟩

set_option maxRecDepth 20000 in
set_option maxHeartbeats 16000000 in
theorem BitsFields_main (hawake : ∀ w, Calls Try.prog 11 #[] w fun e w' => e = .returned (.bool true) ∧ ∃ x : Aft w, w' = x.val) (aw av x0 x1 bw bv FW FV SW SV JW JV fe se je : Int) (A : Option Addr) (cap : Nat) (ps : List (Int × Int)) (w : World) (kF : Hid (∀ w, Calls Try.prog 28 #[.agg #[.int .i64 aw, .int .i64 av], .int .i64 x0, .int .i64 x1] w fun e w' => e = .returned (.tuple #[.agg #[.int .i64 FW, .int .i64 FV], .int .i64 fe]) ∧ ∃ x : Aft w, w' = x.val)) (kS : Hid (∀ w, Calls Try.prog 29 #[.agg #[.int .i64 aw, .int .i64 av], .int .i64 x0, .agg #[.int .i64 bw, .int .i64 bv]] w fun e w' => e = .returned (.tuple #[.agg #[.int .i64 SW, .int .i64 SV], .int .i64 se]) ∧ ∃ x : Aft w, w' = x.val)) (rF : Hid (∀ w, Calls Try.prog 32 #[.agg #[.int .i64 aw, .int .i64 av], .int .i64 x0, .int .i64 x1] w fun e w' => e = .returned (.int .i64 fe) ∧ ∃ x : Aft w, w' = x.val)) (rS : Hid (∀ w, Calls Try.prog 34 #[.agg #[.int .i64 aw, .int .i64 av], .int .i64 x0, .agg #[.int .i64 bw, .int .i64 bv]] w fun e w' => e = .returned (.int .i64 se) ∧ ∃ x : Aft w, w' = x.val)) (kJ : Hid (∀ (w : World) (A : Option Addr) (cap : Nat), Lies w A ps → Calls Try.prog 30 #[.slice A ps.length cap] w fun e w' => e = .returned (.tuple #[.agg #[.int .i64 JW, .int .i64 JV], .int .i64 je]) ∧ ∃ x : Aft w, w' = x.val)) (rJ : Hid (∀ (w : World), Lies w A ps → Calls Try.prog 36 #[.slice A ps.length cap] w fun e w' => e = .returned (.int .i64 je) ∧ ∃ x : Aft w, w' = x.val)) (hC : Hid (∀ (W : World), Below w.heap.size w W → Calls Try.prog 31 #[.slice A ps.length cap] W (Copied W ps))) (vF : Hid (fe = 0 → Hid (∀ w, Calls Try.prog 33 #[.agg #[.int .i64 aw, .int .i64 av], .int .i64 x0, .int .i64 x1] w fun e w' => e = .returned (.agg #[.int .i64 FW, .int .i64 FV]) ∧ ∃ x : Aft w, w' = x.val))) (vS : Hid (se = 0 → Hid (∀ w, Calls Try.prog 35 #[.agg #[.int .i64 aw, .int .i64 av], .int .i64 x0, .agg #[.int .i64 bw, .int .i64 bv]] w fun e w' => e = .returned (.agg #[.int .i64 SW, .int .i64 SV]) ∧ ∃ x : Aft w, w' = x.val))) (vJ : Hid (je = 0 → ∀ w : World, Lies w A ps → Calls Try.prog 37 #[.slice A ps.length cap] w fun e w' => e = .returned (.agg #[.int .i64 JW, .int .i64 JV]) ∧ ∃ x : Aft w, w' = x.val)) (zF : Hid (fe ≠ 0 → FW = 0 ∧ FV = 0)) (zS : Hid (se ≠ 0 → SW = 0 ∧ SV = 0)) (zJ : Hid (je ≠ 0 → JW = 0 ∧ JV = 0)) (hb : ps = [] ∧ bw = 0 ∧ bv = 0 ∨ ps[0]? = some (bw, bv)) (h18 : ps.length ≤ 18) (h : Lies w A ps) (hFin : Hid (bErr aw av = 0 → win x0 1 (aw - 1) = true → 1 ≤ x0 ∧ x0 ≤ aw - 1 ∧ aw ≤ 16 ∧ ∃ LV HV : Int, Hid (∀ w, Calls Try.prog 28 #[.agg #[.int .i64 aw, .int .i64 av], .int .i64 0, .int .i64 x0] w fun e w' => e = .returned (.tuple #[.agg #[.int .i64 x0, .int .i64 LV], .int .i64 0]) ∧ ∃ x : Aft w, w' = x.val) ∧ Hid (∀ w, Calls Try.prog 28 #[.agg #[.int .i64 aw, .int .i64 av], .int .i64 x0, .int .i64 (aw - x0)] w fun e w' => e = .returned (.tuple #[.agg #[.int .i64 (aw - x0), .int .i64 HV], .int .i64 0]) ∧ ∃ x : Aft w, w' = x.val) ∧ Hid (∀ (w : World) (g : Nat), w.heap[g]? = some (.cells #[.int .i64 (aw - x0), .int .i64 HV, .int .i64 x0, .int .i64 LV] 23) → Calls Try.prog 30 #[.slice (some ⟨g, 0, none⟩) 2 2] w fun e w' => e = .returned (.tuple #[.agg #[.int .i64 aw, .int .i64 av], .int .i64 0]) ∧ ∃ x : Aft w, w' = x.val))) :
    Calls Try.prog 7 #[.agg #[.int .i64 aw, .int .i64 av], .agg #[.int .i64 x0, .int .i64 x1], .slice A ps.length cap] w fun e w' => e = .returned (.bool true) ∧ ∃ x : Aft w, w' = x.val := by
  have HLI := Lib.hid h
  clear h
  have HB := Lib.hid hb
  clear hb
  have hz18 : decide (18 < (ps.length : Int)) = false := by simp; omega
  go_enter Try.func7, Try.ntmps7
  go_wp2_with fail
  refine (hawake _).mono ?_
  rintro e w' ⟨rfl, xa, rfl⟩
  have ma : xa.val.heap[w.heap.size]? = some (.cells #[.int .i64 aw, .int .i64 av] 23) := by (repeat' (first | (with_reducible assumption) | omega | (simp only [World.size_alloc, World.size_drew, World.size_setCell]; omega) | (refine heap_alloc_at ?_; (first | rfl | (simp; done))) | (with_reducible refine heap_aft _ ?_ ?_) | (with_reducible refine heap_alloc' ?_ ?_) | (with_reducible refine heap_drew ?_)))
  have mx : xa.val.heap[w.heap.size + 1]? = some (.cells #[.int .i64 x0, .int .i64 x1] 47) := by (repeat' (first | (with_reducible assumption) | omega | (simp only [World.size_alloc, World.size_drew, World.size_setCell]; omega) | (refine heap_alloc_at ?_; (first | rfl | (simp; done))) | (with_reducible refine heap_aft _ ?_ ?_) | (with_reducible refine heap_alloc' ?_ ?_) | (with_reducible refine heap_drew ?_)))
  have hbl : Below w.heap.size w xa.val := by (repeat' (first | (with_reducible exact Below.refl _ _) | (with_reducible assumption) | (with_reducible exact Aft.pf _) | (with_reducible refine Below.alloc ?_ ?_ _) | (with_reducible refine Below.drew ?_) | (with_reducible refine Aft.below _ ?_ ?_) | (with_reducible refine Below.setCell_new ?_ ?_ _ _) | (with_reducible exact Nat.le_refl _) | (with_reducible refine Aft.le _ ?_) | (with_reducible refine le_alloc ?_) | (with_reducible refine le_drew ?_) | (with_reducible refine le_setCell ?_) | omega))
  generalize xa.val = V1 at *
  have la := lt_of_get ma
  have qa0 := cell_block (i := 0) ma
  have fa0 := free_block (i := 0) ma
  have qa1 := cell_block (i := 1) ma
  have fa1 := free_block (i := 1) ma
  have lx := lt_of_get mx
  have qx0 := cell_block (i := 0) mx
  have fx0 := free_block (i := 0) mx
  have qx1 := cell_block (i := 1) mx
  have fx1 := free_block (i := 1) mx
  simp at qa0 qa1 qx0 qx1
  have Ma := Lib.hid ma
  clear ma
  have Mx := Lib.hid mx
  clear mx
  go_upto_if 31 with (fail)
  go_cut [] (fun wx => Mem1 w wx aw av x0 x1 bw bv V1.heap.size)
  case first =>
    rcases HB.out with ⟨rfl, rfl, rfl⟩ | hp
    · go_wp2
      all_goals go_meet
      exact ⟨hbl.alloc hbl.size _, heap_alloc' la Ma.out, heap_alloc' lx Mx.out, heap_alloc_new _ _⟩
    · have hpl : 0 < ps.length := (List.getElem?_eq_some_iff.1 hp).1
      obtain ⟨ad, rfl, had, hc⟩ := HLI.out hpl
      obtain ⟨c0, c1⟩ := hc 0 _ hp
      have d0 : w.cell? ad = some (.int .i64 bw) := by simpa [go_sem] using c0
      have d1 : w.cell? ⟨ad.block, ad.off + 1, none⟩ = some (.int .i64 bv) := by
        have : w.cell? (ad.add 1) = some (.int .i64 bv) := by simpa [go_sem] using c1
        exact this
      have e0 : (V1.alloc (.cells #[.int .i64 0, .int .i64 0] 23)).cell? ad = some (.int .i64 bw) := by
        rw [World.cell?_alloc_lt _ _ _ (Nat.lt_of_lt_of_le had hbl.size)]; exact (hbl.cell (p := ad) had).trans d0
      have e1 : (V1.alloc (.cells #[.int .i64 0, .int .i64 0] 23)).cell? ⟨ad.block, ad.off + 1, none⟩ = some (.int .i64 bv) := by
        rw [World.cell?_alloc_lt _ _ ⟨ad.block, ad.off + 1, none⟩ (Nat.lt_of_lt_of_le had hbl.size)]; exact (hbl.cell (p := ⟨ad.block, ad.off + 1, none⟩) had).trans d1
      have hpi : (0 : Int) < ps.length := by omega
      clear c0 c1 d0 d1 hc hp
      go_wp2
      all_goals go_meet
      exact ⟨hbl.alloc hbl.size _, heap_alloc' la Ma.out, heap_alloc' lx Mx.out, heap_alloc_new _ _⟩
  case rest =>
    clear la lx qa0 fa0 qa1 fa1 qx0 fx0 qx1 fx1 Ma Mx hbl
    obtain ⟨hbl, ma, mx, mb⟩ := hcut
    generalize V1.heap.size = gb at *
    have la := lt_of_get ma
    have qa0 := cell_block (i := 0) ma
    have fa0 := free_block (i := 0) ma
    have qa1 := cell_block (i := 1) ma
    have fa1 := free_block (i := 1) ma
    have lx := lt_of_get mx
    have qx0 := cell_block (i := 0) mx
    have fx0 := free_block (i := 0) mx
    have qx1 := cell_block (i := 1) mx
    have fx1 := free_block (i := 1) mx
    have lb := lt_of_get mb
    have qb0 := cell_block (i := 0) mb
    have fb0 := free_block (i := 0) mb
    have qb1 := cell_block (i := 1) mb
    have fb1 := free_block (i := 1) mb
    simp at qa0 qa1 qx0 qx1 qb0 qb1
    have Ma := Lib.hid ma
    clear ma
    have Mx := Lib.hid mx
    clear mx
    have Mb := Lib.hid mb
    clear mb
    go_wp2_with fail
    refine (kF.out _).mono ?_
    rintro e w' ⟨rfl, x2, rfl⟩
    have ma : x2.val.heap[w.heap.size]? = some (.cells #[.int .i64 aw, .int .i64 av] 23) := by (have mh := Ma.out; (repeat' (first | (with_reducible assumption) | omega | (simp only [World.size_alloc, World.size_drew, World.size_setCell]; omega) | (refine heap_alloc_at ?_; (first | rfl | (simp; done))) | (with_reducible refine heap_aft _ ?_ ?_) | (with_reducible refine heap_alloc' ?_ ?_) | (with_reducible refine heap_drew ?_))))
    have mx : x2.val.heap[w.heap.size + 1]? = some (.cells #[.int .i64 x0, .int .i64 x1] 47) := by (have mh := Mx.out; (repeat' (first | (with_reducible assumption) | omega | (simp only [World.size_alloc, World.size_drew, World.size_setCell]; omega) | (refine heap_alloc_at ?_; (first | rfl | (simp; done))) | (with_reducible refine heap_aft _ ?_ ?_) | (with_reducible refine heap_alloc' ?_ ?_) | (with_reducible refine heap_drew ?_))))
    have mb : x2.val.heap[gb]? = some (.cells #[.int .i64 bw, .int .i64 bv] 23) := by (have mh := Mb.out; (repeat' (first | (with_reducible assumption) | omega | (simp only [World.size_alloc, World.size_drew, World.size_setCell]; omega) | (refine heap_alloc_at ?_; (first | rfl | (simp; done))) | (with_reducible refine heap_aft _ ?_ ?_) | (with_reducible refine heap_alloc' ?_ ?_) | (with_reducible refine heap_drew ?_))))
    have hbl2 : Below w.heap.size w x2.val := by (repeat' (first | (with_reducible exact Below.refl _ _) | (with_reducible assumption) | (with_reducible exact Aft.pf _) | (with_reducible refine Below.alloc ?_ ?_ _) | (with_reducible refine Below.drew ?_) | (with_reducible refine Aft.below _ ?_ ?_) | (with_reducible refine Below.setCell_new ?_ ?_ _ _) | (with_reducible exact Nat.le_refl _) | (with_reducible refine Aft.le _ ?_) | (with_reducible refine le_alloc ?_) | (with_reducible refine le_drew ?_) | (with_reducible refine le_setCell ?_) | omega))
    clear Ma Mx Mb la lx lb qa0 fa0 qa1 fa1 qx0 fx0 qx1 fx1 qb0 fb0 qb1 fb1
    clear hbl
    have hbl := hbl2
    clear hbl2
    generalize x2.val = V2 at *
    have la := lt_of_get ma
    have qa0 := cell_block (i := 0) ma
    have fa0 := free_block (i := 0) ma
    have qa1 := cell_block (i := 1) ma
    have fa1 := free_block (i := 1) ma
    have lx := lt_of_get mx
    have qx0 := cell_block (i := 0) mx
    have fx0 := free_block (i := 0) mx
    have qx1 := cell_block (i := 1) mx
    have fx1 := free_block (i := 1) mx
    have lb := lt_of_get mb
    have qb0 := cell_block (i := 0) mb
    have fb0 := free_block (i := 0) mb
    have qb1 := cell_block (i := 1) mb
    have fb1 := free_block (i := 1) mb
    simp at qa0 qa1 qx0 qx1 qb0 qb1
    have Ma := Lib.hid ma
    clear ma
    have Mx := Lib.hid mx
    clear mx
    have Mb := Lib.hid mb
    clear mb
    go_wp2_with fail
    refine (kS.out _).mono ?_
    rintro e w' ⟨rfl, x3, rfl⟩
    have ma : x3.val.heap[w.heap.size]? = some (.cells #[.int .i64 aw, .int .i64 av] 23) := by (have mh := Ma.out; (repeat' (first | (with_reducible assumption) | omega | (simp only [World.size_alloc, World.size_drew, World.size_setCell]; omega) | (refine heap_alloc_at ?_; (first | rfl | (simp; done))) | (with_reducible refine heap_aft _ ?_ ?_) | (with_reducible refine heap_alloc' ?_ ?_) | (with_reducible refine heap_drew ?_))))
    have mx : x3.val.heap[w.heap.size + 1]? = some (.cells #[.int .i64 x0, .int .i64 x1] 47) := by (have mh := Mx.out; (repeat' (first | (with_reducible assumption) | omega | (simp only [World.size_alloc, World.size_drew, World.size_setCell]; omega) | (refine heap_alloc_at ?_; (first | rfl | (simp; done))) | (with_reducible refine heap_aft _ ?_ ?_) | (with_reducible refine heap_alloc' ?_ ?_) | (with_reducible refine heap_drew ?_))))
    have mb : x3.val.heap[gb]? = some (.cells #[.int .i64 bw, .int .i64 bv] 23) := by (have mh := Mb.out; (repeat' (first | (with_reducible assumption) | omega | (simp only [World.size_alloc, World.size_drew, World.size_setCell]; omega) | (refine heap_alloc_at ?_; (first | rfl | (simp; done))) | (with_reducible refine heap_aft _ ?_ ?_) | (with_reducible refine heap_alloc' ?_ ?_) | (with_reducible refine heap_drew ?_))))
    have mf : x3.val.heap[V2.heap.size]? = some (.cells #[.int .i64 FW, .int .i64 FV] 23) := by (repeat' (first | (with_reducible assumption) | omega | (simp only [World.size_alloc, World.size_drew, World.size_setCell]; omega) | (refine heap_alloc_at ?_; (first | rfl | (simp; done))) | (with_reducible refine heap_aft _ ?_ ?_) | (with_reducible refine heap_alloc' ?_ ?_) | (with_reducible refine heap_drew ?_)))
    have hbl2 : Below w.heap.size w x3.val := by (repeat' (first | (with_reducible exact Below.refl _ _) | (with_reducible assumption) | (with_reducible exact Aft.pf _) | (with_reducible refine Below.alloc ?_ ?_ _) | (with_reducible refine Below.drew ?_) | (with_reducible refine Aft.below _ ?_ ?_) | (with_reducible refine Below.setCell_new ?_ ?_ _ _) | (with_reducible exact Nat.le_refl _) | (with_reducible refine Aft.le _ ?_) | (with_reducible refine le_alloc ?_) | (with_reducible refine le_drew ?_) | (with_reducible refine le_setCell ?_) | omega))
    clear Ma Mx Mb la lx lb qa0 fa0 qa1 fa1 qx0 fx0 qx1 fx1 qb0 fb0 qb1 fb1
    clear hbl
    have hbl := hbl2
    clear hbl2
    generalize x3.val = V3 at *
    have la := lt_of_get ma
    have qa0 := cell_block (i := 0) ma
    have fa0 := free_block (i := 0) ma
    have qa1 := cell_block (i := 1) ma
    have fa1 := free_block (i := 1) ma
    have lx := lt_of_get mx
    have qx0 := cell_block (i := 0) mx
    have fx0 := free_block (i := 0) mx
    have qx1 := cell_block (i := 1) mx
    have fx1 := free_block (i := 1) mx
    have lb := lt_of_get mb
    have qb0 := cell_block (i := 0) mb
    have fb0 := free_block (i := 0) mb
    have qb1 := cell_block (i := 1) mb
    have fb1 := free_block (i := 1) mb
    have lf := lt_of_get mf
    have qf0 := cell_block (i := 0) mf
    have ff0 := free_block (i := 0) mf
    have qf1 := cell_block (i := 1) mf
    have ff1 := free_block (i := 1) mf
    simp at qa0 qa1 qx0 qx1 qb0 qb1 qf0 qf1
    have Ma := Lib.hid ma
    clear ma
    have Mx := Lib.hid mx
    clear mx
    have Mb := Lib.hid mb
    clear mb
    have Mf := Lib.hid mf
    clear mf
    go_wp2_with fail
    refine (hC.out _ (by (repeat' (first | (with_reducible exact Below.refl _ _) | (with_reducible assumption) | (with_reducible exact Aft.pf _) | (with_reducible refine Below.alloc ?_ ?_ _) | (with_reducible refine Below.drew ?_) | (with_reducible refine Aft.below _ ?_ ?_) | (with_reducible refine Below.setCell_new ?_ ?_ _ _) | (with_reducible exact Nat.le_refl _) | (with_reducible refine Aft.le _ ?_) | (with_reducible refine le_alloc ?_) | (with_reducible refine le_drew ?_) | (with_reducible refine le_setCell ?_) | omega)))).mono ?_
    rintro e w' ⟨A', cap', rfl, hl', hb'⟩
    obtain ⟨x4, rfl⟩ := Below.aft hb'
    clear hb'
    have ma : x4.val.heap[w.heap.size]? = some (.cells #[.int .i64 aw, .int .i64 av] 23) := by (have mh := Ma.out; (repeat' (first | (with_reducible assumption) | omega | (simp only [World.size_alloc, World.size_drew, World.size_setCell]; omega) | (refine heap_alloc_at ?_; (first | rfl | (simp; done))) | (with_reducible refine heap_aft _ ?_ ?_) | (with_reducible refine heap_alloc' ?_ ?_) | (with_reducible refine heap_drew ?_))))
    have mx : x4.val.heap[w.heap.size + 1]? = some (.cells #[.int .i64 x0, .int .i64 x1] 47) := by (have mh := Mx.out; (repeat' (first | (with_reducible assumption) | omega | (simp only [World.size_alloc, World.size_drew, World.size_setCell]; omega) | (refine heap_alloc_at ?_; (first | rfl | (simp; done))) | (with_reducible refine heap_aft _ ?_ ?_) | (with_reducible refine heap_alloc' ?_ ?_) | (with_reducible refine heap_drew ?_))))
    have mb : x4.val.heap[gb]? = some (.cells #[.int .i64 bw, .int .i64 bv] 23) := by (have mh := Mb.out; (repeat' (first | (with_reducible assumption) | omega | (simp only [World.size_alloc, World.size_drew, World.size_setCell]; omega) | (refine heap_alloc_at ?_; (first | rfl | (simp; done))) | (with_reducible refine heap_aft _ ?_ ?_) | (with_reducible refine heap_alloc' ?_ ?_) | (with_reducible refine heap_drew ?_))))
    have mf : x4.val.heap[V2.heap.size]? = some (.cells #[.int .i64 FW, .int .i64 FV] 23) := by (have mh := Mf.out; (repeat' (first | (with_reducible assumption) | omega | (simp only [World.size_alloc, World.size_drew, World.size_setCell]; omega) | (refine heap_alloc_at ?_; (first | rfl | (simp; done))) | (with_reducible refine heap_aft _ ?_ ?_) | (with_reducible refine heap_alloc' ?_ ?_) | (with_reducible refine heap_drew ?_))))
    have ms : x4.val.heap[V3.heap.size]? = some (.cells #[.int .i64 SW, .int .i64 SV] 23) := by (repeat' (first | (with_reducible assumption) | omega | (simp only [World.size_alloc, World.size_drew, World.size_setCell]; omega) | (refine heap_alloc_at ?_; (first | rfl | (simp; done))) | (with_reducible refine heap_aft _ ?_ ?_) | (with_reducible refine heap_alloc' ?_ ?_) | (with_reducible refine heap_drew ?_)))
    have hbl2 : Below w.heap.size w x4.val := by (repeat' (first | (with_reducible exact Below.refl _ _) | (with_reducible assumption) | (with_reducible exact Aft.pf _) | (with_reducible refine Below.alloc ?_ ?_ _) | (with_reducible refine Below.drew ?_) | (with_reducible refine Aft.below _ ?_ ?_) | (with_reducible refine Below.setCell_new ?_ ?_ _ _) | (with_reducible exact Nat.le_refl _) | (with_reducible refine Aft.le _ ?_) | (with_reducible refine le_alloc ?_) | (with_reducible refine le_drew ?_) | (with_reducible refine le_setCell ?_) | omega))
    clear Ma Mx Mb Mf la lx lb lf qa0 fa0 qa1 fa1 qx0 fx0 qx1 fx1 qb0 fb0 qb1 fb1 qf0 ff0 qf1 ff1
    clear hbl
    have hbl := hbl2
    clear hbl2
    generalize x4.val = V4 at *
    have la := lt_of_get ma
    have qa0 := cell_block (i := 0) ma
    have fa0 := free_block (i := 0) ma
    have qa1 := cell_block (i := 1) ma
    have fa1 := free_block (i := 1) ma
    have lx := lt_of_get mx
    have qx0 := cell_block (i := 0) mx
    have fx0 := free_block (i := 0) mx
    have qx1 := cell_block (i := 1) mx
    have fx1 := free_block (i := 1) mx
    have lb := lt_of_get mb
    have qb0 := cell_block (i := 0) mb
    have fb0 := free_block (i := 0) mb
    have qb1 := cell_block (i := 1) mb
    have fb1 := free_block (i := 1) mb
    have lf := lt_of_get mf
    have qf0 := cell_block (i := 0) mf
    have ff0 := free_block (i := 0) mf
    have qf1 := cell_block (i := 1) mf
    have ff1 := free_block (i := 1) mf
    have ls := lt_of_get ms
    have qs0 := cell_block (i := 0) ms
    have fs0 := free_block (i := 0) ms
    have qs1 := cell_block (i := 1) ms
    have fs1 := free_block (i := 1) ms
    simp at qa0 qa1 qx0 qx1 qb0 qb1 qf0 qf1 qs0 qs1
    have Ma := Lib.hid ma
    clear ma
    have Mx := Lib.hid mx
    clear mx
    have Mb := Lib.hid mb
    clear mb
    have Mf := Lib.hid mf
    clear mf
    have Ms := Lib.hid ms
    clear ms
    go_wp2_with fail
    refine (kJ.out _ A' cap' hl').mono ?_
    rintro e w' ⟨rfl, x5, rfl⟩
    have ma : x5.val.heap[w.heap.size]? = some (.cells #[.int .i64 aw, .int .i64 av] 23) := by (have mh := Ma.out; (repeat' (first | (with_reducible assumption) | omega | (simp only [World.size_alloc, World.size_drew, World.size_setCell]; omega) | (refine heap_alloc_at ?_; (first | rfl | (simp; done))) | (with_reducible refine heap_aft _ ?_ ?_) | (with_reducible refine heap_alloc' ?_ ?_) | (with_reducible refine heap_drew ?_))))
    have mx : x5.val.heap[w.heap.size + 1]? = some (.cells #[.int .i64 x0, .int .i64 x1] 47) := by (have mh := Mx.out; (repeat' (first | (with_reducible assumption) | omega | (simp only [World.size_alloc, World.size_drew, World.size_setCell]; omega) | (refine heap_alloc_at ?_; (first | rfl | (simp; done))) | (with_reducible refine heap_aft _ ?_ ?_) | (with_reducible refine heap_alloc' ?_ ?_) | (with_reducible refine heap_drew ?_))))
    have mb : x5.val.heap[gb]? = some (.cells #[.int .i64 bw, .int .i64 bv] 23) := by (have mh := Mb.out; (repeat' (first | (with_reducible assumption) | omega | (simp only [World.size_alloc, World.size_drew, World.size_setCell]; omega) | (refine heap_alloc_at ?_; (first | rfl | (simp; done))) | (with_reducible refine heap_aft _ ?_ ?_) | (with_reducible refine heap_alloc' ?_ ?_) | (with_reducible refine heap_drew ?_))))
    have mf : x5.val.heap[V2.heap.size]? = some (.cells #[.int .i64 FW, .int .i64 FV] 23) := by (have mh := Mf.out; (repeat' (first | (with_reducible assumption) | omega | (simp only [World.size_alloc, World.size_drew, World.size_setCell]; omega) | (refine heap_alloc_at ?_; (first | rfl | (simp; done))) | (with_reducible refine heap_aft _ ?_ ?_) | (with_reducible refine heap_alloc' ?_ ?_) | (with_reducible refine heap_drew ?_))))
    have ms : x5.val.heap[V3.heap.size]? = some (.cells #[.int .i64 SW, .int .i64 SV] 23) := by (have mh := Ms.out; (repeat' (first | (with_reducible assumption) | omega | (simp only [World.size_alloc, World.size_drew, World.size_setCell]; omega) | (refine heap_alloc_at ?_; (first | rfl | (simp; done))) | (with_reducible refine heap_aft _ ?_ ?_) | (with_reducible refine heap_alloc' ?_ ?_) | (with_reducible refine heap_drew ?_))))
    have hbl2 : Below w.heap.size w x5.val := by (repeat' (first | (with_reducible exact Below.refl _ _) | (with_reducible assumption) | (with_reducible exact Aft.pf _) | (with_reducible refine Below.alloc ?_ ?_ _) | (with_reducible refine Below.drew ?_) | (with_reducible refine Aft.below _ ?_ ?_) | (with_reducible refine Below.setCell_new ?_ ?_ _ _) | (with_reducible exact Nat.le_refl _) | (with_reducible refine Aft.le _ ?_) | (with_reducible refine le_alloc ?_) | (with_reducible refine le_drew ?_) | (with_reducible refine le_setCell ?_) | omega))
    clear Ma Mx Mb Mf Ms la lx lb lf ls qa0 fa0 qa1 fa1 qx0 fx0 qx1 fx1 qb0 fb0 qb1 fb1 qf0 ff0 qf1 ff1 qs0 fs0 qs1 fs1
    clear hbl
    have hbl := hbl2
    clear hbl2
    generalize x5.val = V5 at *
    have la := lt_of_get ma
    have qa0 := cell_block (i := 0) ma
    have fa0 := free_block (i := 0) ma
    have qa1 := cell_block (i := 1) ma
    have fa1 := free_block (i := 1) ma
    have lx := lt_of_get mx
    have qx0 := cell_block (i := 0) mx
    have fx0 := free_block (i := 0) mx
    have qx1 := cell_block (i := 1) mx
    have fx1 := free_block (i := 1) mx
    have lb := lt_of_get mb
    have qb0 := cell_block (i := 0) mb
    have fb0 := free_block (i := 0) mb
    have qb1 := cell_block (i := 1) mb
    have fb1 := free_block (i := 1) mb
    have lf := lt_of_get mf
    have qf0 := cell_block (i := 0) mf
    have ff0 := free_block (i := 0) mf
    have qf1 := cell_block (i := 1) mf
    have ff1 := free_block (i := 1) mf
    have ls := lt_of_get ms
    have qs0 := cell_block (i := 0) ms
    have fs0 := free_block (i := 0) ms
    have qs1 := cell_block (i := 1) ms
    have fs1 := free_block (i := 1) ms
    simp at qa0 qa1 qx0 qx1 qb0 qb1 qf0 qf1 qs0 qs1
    have Ma := Lib.hid ma
    clear ma
    have Mx := Lib.hid mx
    clear mx
    have Mb := Lib.hid mb
    clear mb
    have Mf := Lib.hid mf
    clear mf
    have Ms := Lib.hid ms
    clear ms
    clear hl'
    go_wp2_with fail
    refine (rF.out _).mono ?_
    rintro e w' ⟨rfl, x6, rfl⟩
    have ma : x6.val.heap[w.heap.size]? = some (.cells #[.int .i64 aw, .int .i64 av] 23) := by (have mh := Ma.out; (repeat' (first | (with_reducible assumption) | omega | (simp only [World.size_alloc, World.size_drew, World.size_setCell]; omega) | (refine heap_alloc_at ?_; (first | rfl | (simp; done))) | (with_reducible refine heap_aft _ ?_ ?_) | (with_reducible refine heap_alloc' ?_ ?_) | (with_reducible refine heap_drew ?_))))
    have mx : x6.val.heap[w.heap.size + 1]? = some (.cells #[.int .i64 x0, .int .i64 x1] 47) := by (have mh := Mx.out; (repeat' (first | (with_reducible assumption) | omega | (simp only [World.size_alloc, World.size_drew, World.size_setCell]; omega) | (refine heap_alloc_at ?_; (first | rfl | (simp; done))) | (with_reducible refine heap_aft _ ?_ ?_) | (with_reducible refine heap_alloc' ?_ ?_) | (with_reducible refine heap_drew ?_))))
    have mb : x6.val.heap[gb]? = some (.cells #[.int .i64 bw, .int .i64 bv] 23) := by (have mh := Mb.out; (repeat' (first | (with_reducible assumption) | omega | (simp only [World.size_alloc, World.size_drew, World.size_setCell]; omega) | (refine heap_alloc_at ?_; (first | rfl | (simp; done))) | (with_reducible refine heap_aft _ ?_ ?_) | (with_reducible refine heap_alloc' ?_ ?_) | (with_reducible refine heap_drew ?_))))
    have mf : x6.val.heap[V2.heap.size]? = some (.cells #[.int .i64 FW, .int .i64 FV] 23) := by (have mh := Mf.out; (repeat' (first | (with_reducible assumption) | omega | (simp only [World.size_alloc, World.size_drew, World.size_setCell]; omega) | (refine heap_alloc_at ?_; (first | rfl | (simp; done))) | (with_reducible refine heap_aft _ ?_ ?_) | (with_reducible refine heap_alloc' ?_ ?_) | (with_reducible refine heap_drew ?_))))
    have ms : x6.val.heap[V3.heap.size]? = some (.cells #[.int .i64 SW, .int .i64 SV] 23) := by (have mh := Ms.out; (repeat' (first | (with_reducible assumption) | omega | (simp only [World.size_alloc, World.size_drew, World.size_setCell]; omega) | (refine heap_alloc_at ?_; (first | rfl | (simp; done))) | (with_reducible refine heap_aft _ ?_ ?_) | (with_reducible refine heap_alloc' ?_ ?_) | (with_reducible refine heap_drew ?_))))
    have mj : x6.val.heap[V5.heap.size]? = some (.cells #[.int .i64 JW, .int .i64 JV] 23) := by (repeat' (first | (with_reducible assumption) | omega | (simp only [World.size_alloc, World.size_drew, World.size_setCell]; omega) | (refine heap_alloc_at ?_; (first | rfl | (simp; done))) | (with_reducible refine heap_aft _ ?_ ?_) | (with_reducible refine heap_alloc' ?_ ?_) | (with_reducible refine heap_drew ?_)))
    have hbl2 : Below w.heap.size w x6.val := by (repeat' (first | (with_reducible exact Below.refl _ _) | (with_reducible assumption) | (with_reducible exact Aft.pf _) | (with_reducible refine Below.alloc ?_ ?_ _) | (with_reducible refine Below.drew ?_) | (with_reducible refine Aft.below _ ?_ ?_) | (with_reducible refine Below.setCell_new ?_ ?_ _ _) | (with_reducible exact Nat.le_refl _) | (with_reducible refine Aft.le _ ?_) | (with_reducible refine le_alloc ?_) | (with_reducible refine le_drew ?_) | (with_reducible refine le_setCell ?_) | omega))
    clear Ma Mx Mb Mf Ms la lx lb lf ls qa0 fa0 qa1 fa1 qx0 fx0 qx1 fx1 qb0 fb0 qb1 fb1 qf0 ff0 qf1 ff1 qs0 fs0 qs1 fs1
    clear hbl
    have hbl := hbl2
    clear hbl2
    generalize x6.val = V6 at *
    have la := lt_of_get ma
    have qa0 := cell_block (i := 0) ma
    have fa0 := free_block (i := 0) ma
    have qa1 := cell_block (i := 1) ma
    have fa1 := free_block (i := 1) ma
    have lx := lt_of_get mx
    have qx0 := cell_block (i := 0) mx
    have fx0 := free_block (i := 0) mx
    have qx1 := cell_block (i := 1) mx
    have fx1 := free_block (i := 1) mx
    have lb := lt_of_get mb
    have qb0 := cell_block (i := 0) mb
    have fb0 := free_block (i := 0) mb
    have qb1 := cell_block (i := 1) mb
    have fb1 := free_block (i := 1) mb
    have lf := lt_of_get mf
    have qf0 := cell_block (i := 0) mf
    have ff0 := free_block (i := 0) mf
    have qf1 := cell_block (i := 1) mf
    have ff1 := free_block (i := 1) mf
    have ls := lt_of_get ms
    have qs0 := cell_block (i := 0) ms
    have fs0 := free_block (i := 0) ms
    have qs1 := cell_block (i := 1) ms
    have fs1 := free_block (i := 1) ms
    have lj := lt_of_get mj
    have qj0 := cell_block (i := 0) mj
    have fj0 := free_block (i := 0) mj
    have qj1 := cell_block (i := 1) mj
    have fj1 := free_block (i := 1) mj
    simp at qa0 qa1 qx0 qx1 qb0 qb1 qf0 qf1 qs0 qs1 qj0 qj1
    have Ma := Lib.hid ma
    clear ma
    have Mx := Lib.hid mx
    clear mx
    have Mb := Lib.hid mb
    clear mb
    have Mf := Lib.hid mf
    clear mf
    have Ms := Lib.hid ms
    clear ms
    have Mj := Lib.hid mj
    clear mj
    go_upto_region 12 with (fail)
    go_cut [93] (fun s wx => s = .bool false ∧ ∃ x : Aft V6, wx = x.val)
    case first =>
      by_cases he : fe = 0
      · have hv := vF.out he
        obtain rfl : fe = 0 := he
        refine wp_region_aft (by kernel_rfl) (by kernel_rfl) ?_
        repeat (go_big_quiet_step (first | (go_at_call 33; exact Calls.qa (hv.out _))))
        refine wpQuiet_nil ?_
        intro x
        go_wp2
        go_meet
        exact ⟨rfl, x, rfl⟩
      · have hz1 : (fe == 0) = false := by simpa using he
        have hz2 : (fe != 0) = true := by simpa using he
        obtain ⟨rfl, rfl⟩ := zF.out he
        clear he
        refine wp_region_aft (by kernel_rfl) (by kernel_rfl) ?_
        repeat (go_big_quiet_step (fail))
        refine wpQuiet_nil ?_
        intro x
        go_wp2
        go_meet
        exact ⟨rfl, x, rfl⟩
    case rest =>
      obtain ⟨rfl, x, rfl⟩ := hcut
      have ma : x.val.heap[w.heap.size]? = some (.cells #[.int .i64 aw, .int .i64 av] 23) := by (have mh := Ma.out; (repeat' (first | (with_reducible assumption) | omega | (simp only [World.size_alloc, World.size_drew, World.size_setCell]; omega) | (refine heap_alloc_at ?_; (first | rfl | (simp; done))) | (with_reducible refine heap_aft _ ?_ ?_) | (with_reducible refine heap_alloc' ?_ ?_) | (with_reducible refine heap_drew ?_))))
      have mx : x.val.heap[w.heap.size + 1]? = some (.cells #[.int .i64 x0, .int .i64 x1] 47) := by (have mh := Mx.out; (repeat' (first | (with_reducible assumption) | omega | (simp only [World.size_alloc, World.size_drew, World.size_setCell]; omega) | (refine heap_alloc_at ?_; (first | rfl | (simp; done))) | (with_reducible refine heap_aft _ ?_ ?_) | (with_reducible refine heap_alloc' ?_ ?_) | (with_reducible refine heap_drew ?_))))
      have mb : x.val.heap[gb]? = some (.cells #[.int .i64 bw, .int .i64 bv] 23) := by (have mh := Mb.out; (repeat' (first | (with_reducible assumption) | omega | (simp only [World.size_alloc, World.size_drew, World.size_setCell]; omega) | (refine heap_alloc_at ?_; (first | rfl | (simp; done))) | (with_reducible refine heap_aft _ ?_ ?_) | (with_reducible refine heap_alloc' ?_ ?_) | (with_reducible refine heap_drew ?_))))
      have mf : x.val.heap[V2.heap.size]? = some (.cells #[.int .i64 FW, .int .i64 FV] 23) := by (have mh := Mf.out; (repeat' (first | (with_reducible assumption) | omega | (simp only [World.size_alloc, World.size_drew, World.size_setCell]; omega) | (refine heap_alloc_at ?_; (first | rfl | (simp; done))) | (with_reducible refine heap_aft _ ?_ ?_) | (with_reducible refine heap_alloc' ?_ ?_) | (with_reducible refine heap_drew ?_))))
      have ms : x.val.heap[V3.heap.size]? = some (.cells #[.int .i64 SW, .int .i64 SV] 23) := by (have mh := Ms.out; (repeat' (first | (with_reducible assumption) | omega | (simp only [World.size_alloc, World.size_drew, World.size_setCell]; omega) | (refine heap_alloc_at ?_; (first | rfl | (simp; done))) | (with_reducible refine heap_aft _ ?_ ?_) | (with_reducible refine heap_alloc' ?_ ?_) | (with_reducible refine heap_drew ?_))))
      have mj : x.val.heap[V5.heap.size]? = some (.cells #[.int .i64 JW, .int .i64 JV] 23) := by (have mh := Mj.out; (repeat' (first | (with_reducible assumption) | omega | (simp only [World.size_alloc, World.size_drew, World.size_setCell]; omega) | (refine heap_alloc_at ?_; (first | rfl | (simp; done))) | (with_reducible refine heap_aft _ ?_ ?_) | (with_reducible refine heap_alloc' ?_ ?_) | (with_reducible refine heap_drew ?_))))
      have hbl2 : Below w.heap.size w x.val := by (repeat' (first | (with_reducible exact Below.refl _ _) | (with_reducible assumption) | (with_reducible exact Aft.pf _) | (with_reducible refine Below.alloc ?_ ?_ _) | (with_reducible refine Below.drew ?_) | (with_reducible refine Aft.below _ ?_ ?_) | (with_reducible refine Below.setCell_new ?_ ?_ _ _) | (with_reducible exact Nat.le_refl _) | (with_reducible refine Aft.le _ ?_) | (with_reducible refine le_alloc ?_) | (with_reducible refine le_drew ?_) | (with_reducible refine le_setCell ?_) | omega))
      clear Ma Mx Mb Mf Ms Mj la lx lb lf ls lj qa0 fa0 qa1 fa1 qx0 fx0 qx1 fx1 qb0 fb0 qb1 fb1 qf0 ff0 qf1 ff1 qs0 fs0 qs1 fs1 qj0 fj0 qj1 fj1
      clear hbl
      have hbl := hbl2
      clear hbl2
      generalize x.val = V7 at *
      have la := lt_of_get ma
      have qa0 := cell_block (i := 0) ma
      have fa0 := free_block (i := 0) ma
      have qa1 := cell_block (i := 1) ma
      have fa1 := free_block (i := 1) ma
      have lx := lt_of_get mx
      have qx0 := cell_block (i := 0) mx
      have fx0 := free_block (i := 0) mx
      have qx1 := cell_block (i := 1) mx
      have fx1 := free_block (i := 1) mx
      have lb := lt_of_get mb
      have qb0 := cell_block (i := 0) mb
      have fb0 := free_block (i := 0) mb
      have qb1 := cell_block (i := 1) mb
      have fb1 := free_block (i := 1) mb
      have lf := lt_of_get mf
      have qf0 := cell_block (i := 0) mf
      have ff0 := free_block (i := 0) mf
      have qf1 := cell_block (i := 1) mf
      have ff1 := free_block (i := 1) mf
      have ls := lt_of_get ms
      have qs0 := cell_block (i := 0) ms
      have fs0 := free_block (i := 0) ms
      have qs1 := cell_block (i := 1) ms
      have fs1 := free_block (i := 1) ms
      have lj := lt_of_get mj
      have qj0 := cell_block (i := 0) mj
      have fj0 := free_block (i := 0) mj
      have qj1 := cell_block (i := 1) mj
      have fj1 := free_block (i := 1) mj
      simp at qa0 qa1 qx0 qx1 qb0 qb1 qf0 qf1 qs0 qs1 qj0 qj1
      have Ma := Lib.hid ma
      clear ma
      have Mx := Lib.hid mx
      clear mx
      have Mb := Lib.hid mb
      clear mb
      have Mf := Lib.hid mf
      clear mf
      have Ms := Lib.hid ms
      clear ms
      have Mj := Lib.hid mj
      clear mj
      go_wp2_with fail
      refine (rS.out _).mono ?_
      rintro e w' ⟨rfl, x8, rfl⟩
      have ma : x8.val.heap[w.heap.size]? = some (.cells #[.int .i64 aw, .int .i64 av] 23) := by (have mh := Ma.out; (repeat' (first | (with_reducible assumption) | omega | (simp only [World.size_alloc, World.size_drew, World.size_setCell]; omega) | (refine heap_alloc_at ?_; (first | rfl | (simp; done))) | (with_reducible refine heap_aft _ ?_ ?_) | (with_reducible refine heap_alloc' ?_ ?_) | (with_reducible refine heap_drew ?_))))
      have mx : x8.val.heap[w.heap.size + 1]? = some (.cells #[.int .i64 x0, .int .i64 x1] 47) := by (have mh := Mx.out; (repeat' (first | (with_reducible assumption) | omega | (simp only [World.size_alloc, World.size_drew, World.size_setCell]; omega) | (refine heap_alloc_at ?_; (first | rfl | (simp; done))) | (with_reducible refine heap_aft _ ?_ ?_) | (with_reducible refine heap_alloc' ?_ ?_) | (with_reducible refine heap_drew ?_))))
      have mb : x8.val.heap[gb]? = some (.cells #[.int .i64 bw, .int .i64 bv] 23) := by (have mh := Mb.out; (repeat' (first | (with_reducible assumption) | omega | (simp only [World.size_alloc, World.size_drew, World.size_setCell]; omega) | (refine heap_alloc_at ?_; (first | rfl | (simp; done))) | (with_reducible refine heap_aft _ ?_ ?_) | (with_reducible refine heap_alloc' ?_ ?_) | (with_reducible refine heap_drew ?_))))
      have mf : x8.val.heap[V2.heap.size]? = some (.cells #[.int .i64 FW, .int .i64 FV] 23) := by (have mh := Mf.out; (repeat' (first | (with_reducible assumption) | omega | (simp only [World.size_alloc, World.size_drew, World.size_setCell]; omega) | (refine heap_alloc_at ?_; (first | rfl | (simp; done))) | (with_reducible refine heap_aft _ ?_ ?_) | (with_reducible refine heap_alloc' ?_ ?_) | (with_reducible refine heap_drew ?_))))
      have ms : x8.val.heap[V3.heap.size]? = some (.cells #[.int .i64 SW, .int .i64 SV] 23) := by (have mh := Ms.out; (repeat' (first | (with_reducible assumption) | omega | (simp only [World.size_alloc, World.size_drew, World.size_setCell]; omega) | (refine heap_alloc_at ?_; (first | rfl | (simp; done))) | (with_reducible refine heap_aft _ ?_ ?_) | (with_reducible refine heap_alloc' ?_ ?_) | (with_reducible refine heap_drew ?_))))
      have mj : x8.val.heap[V5.heap.size]? = some (.cells #[.int .i64 JW, .int .i64 JV] 23) := by (have mh := Mj.out; (repeat' (first | (with_reducible assumption) | omega | (simp only [World.size_alloc, World.size_drew, World.size_setCell]; omega) | (refine heap_alloc_at ?_; (first | rfl | (simp; done))) | (with_reducible refine heap_aft _ ?_ ?_) | (with_reducible refine heap_alloc' ?_ ?_) | (with_reducible refine heap_drew ?_))))
      have hbl2 : Below w.heap.size w x8.val := by (repeat' (first | (with_reducible exact Below.refl _ _) | (with_reducible assumption) | (with_reducible exact Aft.pf _) | (with_reducible refine Below.alloc ?_ ?_ _) | (with_reducible refine Below.drew ?_) | (with_reducible refine Aft.below _ ?_ ?_) | (with_reducible refine Below.setCell_new ?_ ?_ _ _) | (with_reducible exact Nat.le_refl _) | (with_reducible refine Aft.le _ ?_) | (with_reducible refine le_alloc ?_) | (with_reducible refine le_drew ?_) | (with_reducible refine le_setCell ?_) | omega))
      clear Ma Mx Mb Mf Ms Mj la lx lb lf ls lj qa0 fa0 qa1 fa1 qx0 fx0 qx1 fx1 qb0 fb0 qb1 fb1 qf0 ff0 qf1 ff1 qs0 fs0 qs1 fs1 qj0 fj0 qj1 fj1
      clear hbl
      have hbl := hbl2
      clear hbl2
      generalize x8.val = V8 at *
      have la := lt_of_get ma
      have qa0 := cell_block (i := 0) ma
      have fa0 := free_block (i := 0) ma
      have qa1 := cell_block (i := 1) ma
      have fa1 := free_block (i := 1) ma
      have lx := lt_of_get mx
      have qx0 := cell_block (i := 0) mx
      have fx0 := free_block (i := 0) mx
      have qx1 := cell_block (i := 1) mx
      have fx1 := free_block (i := 1) mx
      have lb := lt_of_get mb
      have qb0 := cell_block (i := 0) mb
      have fb0 := free_block (i := 0) mb
      have qb1 := cell_block (i := 1) mb
      have fb1 := free_block (i := 1) mb
      have lf := lt_of_get mf
      have qf0 := cell_block (i := 0) mf
      have ff0 := free_block (i := 0) mf
      have qf1 := cell_block (i := 1) mf
      have ff1 := free_block (i := 1) mf
      have ls := lt_of_get ms
      have qs0 := cell_block (i := 0) ms
      have fs0 := free_block (i := 0) ms
      have qs1 := cell_block (i := 1) ms
      have fs1 := free_block (i := 1) ms
      have lj := lt_of_get mj
      have qj0 := cell_block (i := 0) mj
      have fj0 := free_block (i := 0) mj
      have qj1 := cell_block (i := 1) mj
      have fj1 := free_block (i := 1) mj
      simp at qa0 qa1 qx0 qx1 qb0 qb1 qf0 qf1 qs0 qs1 qj0 qj1
      have Ma := Lib.hid ma
      clear ma
      have Mx := Lib.hid mx
      clear mx
      have Mb := Lib.hid mb
      clear mb
      have Mf := Lib.hid mf
      clear mf
      have Ms := Lib.hid ms
      clear ms
      have Mj := Lib.hid mj
      clear mj
      go_upto_region 15 with (fail)
      go_cut [127] (fun s wx => s = .bool false ∧ ∃ x : Aft V8, wx = x.val)
      case first =>
        by_cases he : se = 0
        · have hv := vS.out he
          obtain rfl : se = 0 := he
          refine wp_region_aft (by kernel_rfl) (by kernel_rfl) ?_
          repeat (go_big_quiet_step (first | (go_at_call 35; exact Calls.qa (hv.out _))))
          refine wpQuiet_nil ?_
          intro x
          go_wp2
          go_meet
          exact ⟨rfl, x, rfl⟩
        · have hz1 : (se == 0) = false := by simpa using he
          have hz2 : (se != 0) = true := by simpa using he
          obtain ⟨rfl, rfl⟩ := zS.out he
          clear he
          refine wp_region_aft (by kernel_rfl) (by kernel_rfl) ?_
          repeat (go_big_quiet_step (fail))
          refine wpQuiet_nil ?_
          intro x
          go_wp2
          go_meet
          exact ⟨rfl, x, rfl⟩
      case rest =>
        obtain ⟨rfl, x, rfl⟩ := hcut
        have ma : x.val.heap[w.heap.size]? = some (.cells #[.int .i64 aw, .int .i64 av] 23) := by (have mh := Ma.out; (repeat' (first | (with_reducible assumption) | omega | (simp only [World.size_alloc, World.size_drew, World.size_setCell]; omega) | (refine heap_alloc_at ?_; (first | rfl | (simp; done))) | (with_reducible refine heap_aft _ ?_ ?_) | (with_reducible refine heap_alloc' ?_ ?_) | (with_reducible refine heap_drew ?_))))
        have mx : x.val.heap[w.heap.size + 1]? = some (.cells #[.int .i64 x0, .int .i64 x1] 47) := by (have mh := Mx.out; (repeat' (first | (with_reducible assumption) | omega | (simp only [World.size_alloc, World.size_drew, World.size_setCell]; omega) | (refine heap_alloc_at ?_; (first | rfl | (simp; done))) | (with_reducible refine heap_aft _ ?_ ?_) | (with_reducible refine heap_alloc' ?_ ?_) | (with_reducible refine heap_drew ?_))))
        have mb : x.val.heap[gb]? = some (.cells #[.int .i64 bw, .int .i64 bv] 23) := by (have mh := Mb.out; (repeat' (first | (with_reducible assumption) | omega | (simp only [World.size_alloc, World.size_drew, World.size_setCell]; omega) | (refine heap_alloc_at ?_; (first | rfl | (simp; done))) | (with_reducible refine heap_aft _ ?_ ?_) | (with_reducible refine heap_alloc' ?_ ?_) | (with_reducible refine heap_drew ?_))))
        have mf : x.val.heap[V2.heap.size]? = some (.cells #[.int .i64 FW, .int .i64 FV] 23) := by (have mh := Mf.out; (repeat' (first | (with_reducible assumption) | omega | (simp only [World.size_alloc, World.size_drew, World.size_setCell]; omega) | (refine heap_alloc_at ?_; (first | rfl | (simp; done))) | (with_reducible refine heap_aft _ ?_ ?_) | (with_reducible refine heap_alloc' ?_ ?_) | (with_reducible refine heap_drew ?_))))
        have ms : x.val.heap[V3.heap.size]? = some (.cells #[.int .i64 SW, .int .i64 SV] 23) := by (have mh := Ms.out; (repeat' (first | (with_reducible assumption) | omega | (simp only [World.size_alloc, World.size_drew, World.size_setCell]; omega) | (refine heap_alloc_at ?_; (first | rfl | (simp; done))) | (with_reducible refine heap_aft _ ?_ ?_) | (with_reducible refine heap_alloc' ?_ ?_) | (with_reducible refine heap_drew ?_))))
        have mj : x.val.heap[V5.heap.size]? = some (.cells #[.int .i64 JW, .int .i64 JV] 23) := by (have mh := Mj.out; (repeat' (first | (with_reducible assumption) | omega | (simp only [World.size_alloc, World.size_drew, World.size_setCell]; omega) | (refine heap_alloc_at ?_; (first | rfl | (simp; done))) | (with_reducible refine heap_aft _ ?_ ?_) | (with_reducible refine heap_alloc' ?_ ?_) | (with_reducible refine heap_drew ?_))))
        have hbl2 : Below w.heap.size w x.val := by (repeat' (first | (with_reducible exact Below.refl _ _) | (with_reducible assumption) | (with_reducible exact Aft.pf _) | (with_reducible refine Below.alloc ?_ ?_ _) | (with_reducible refine Below.drew ?_) | (with_reducible refine Aft.below _ ?_ ?_) | (with_reducible refine Below.setCell_new ?_ ?_ _ _) | (with_reducible exact Nat.le_refl _) | (with_reducible refine Aft.le _ ?_) | (with_reducible refine le_alloc ?_) | (with_reducible refine le_drew ?_) | (with_reducible refine le_setCell ?_) | omega))
        clear Ma Mx Mb Mf Ms Mj la lx lb lf ls lj qa0 fa0 qa1 fa1 qx0 fx0 qx1 fx1 qb0 fb0 qb1 fb1 qf0 ff0 qf1 ff1 qs0 fs0 qs1 fs1 qj0 fj0 qj1 fj1
        clear hbl
        have hbl := hbl2
        clear hbl2
        generalize x.val = V9 at *
        have la := lt_of_get ma
        have qa0 := cell_block (i := 0) ma
        have fa0 := free_block (i := 0) ma
        have qa1 := cell_block (i := 1) ma
        have fa1 := free_block (i := 1) ma
        have lx := lt_of_get mx
        have qx0 := cell_block (i := 0) mx
        have fx0 := free_block (i := 0) mx
        have qx1 := cell_block (i := 1) mx
        have fx1 := free_block (i := 1) mx
        have lb := lt_of_get mb
        have qb0 := cell_block (i := 0) mb
        have fb0 := free_block (i := 0) mb
        have qb1 := cell_block (i := 1) mb
        have fb1 := free_block (i := 1) mb
        have lf := lt_of_get mf
        have qf0 := cell_block (i := 0) mf
        have ff0 := free_block (i := 0) mf
        have qf1 := cell_block (i := 1) mf
        have ff1 := free_block (i := 1) mf
        have ls := lt_of_get ms
        have qs0 := cell_block (i := 0) ms
        have fs0 := free_block (i := 0) ms
        have qs1 := cell_block (i := 1) ms
        have fs1 := free_block (i := 1) ms
        have lj := lt_of_get mj
        have qj0 := cell_block (i := 0) mj
        have fj0 := free_block (i := 0) mj
        have qj1 := cell_block (i := 1) mj
        have fj1 := free_block (i := 1) mj
        simp at qa0 qa1 qx0 qx1 qb0 qb1 qf0 qf1 qs0 qs1 qj0 qj1
        have Ma := Lib.hid ma
        clear ma
        have Mx := Lib.hid mx
        clear mx
        have Mb := Lib.hid mb
        clear mb
        have Mf := Lib.hid mf
        clear mf
        have Ms := Lib.hid ms
        clear ms
        have Mj := Lib.hid mj
        clear mj
        go_wp2_with fail
        refine (rJ.out _ (HLI.out.below (by (repeat' (first | (with_reducible exact Below.refl _ _) | (with_reducible assumption) | (with_reducible exact Aft.pf _) | (with_reducible refine Below.alloc ?_ ?_ _) | (with_reducible refine Below.drew ?_) | (with_reducible refine Aft.below _ ?_ ?_) | (with_reducible refine Below.setCell_new ?_ ?_ _ _) | (with_reducible exact Nat.le_refl _) | (with_reducible refine Aft.le _ ?_) | (with_reducible refine le_alloc ?_) | (with_reducible refine le_drew ?_) | (with_reducible refine le_setCell ?_) | omega))))).mono ?_
        rintro e w' ⟨rfl, x10, rfl⟩
        have ma : x10.val.heap[w.heap.size]? = some (.cells #[.int .i64 aw, .int .i64 av] 23) := by (have mh := Ma.out; (repeat' (first | (with_reducible assumption) | omega | (simp only [World.size_alloc, World.size_drew, World.size_setCell]; omega) | (refine heap_alloc_at ?_; (first | rfl | (simp; done))) | (with_reducible refine heap_aft _ ?_ ?_) | (with_reducible refine heap_alloc' ?_ ?_) | (with_reducible refine heap_drew ?_))))
        have mx : x10.val.heap[w.heap.size + 1]? = some (.cells #[.int .i64 x0, .int .i64 x1] 47) := by (have mh := Mx.out; (repeat' (first | (with_reducible assumption) | omega | (simp only [World.size_alloc, World.size_drew, World.size_setCell]; omega) | (refine heap_alloc_at ?_; (first | rfl | (simp; done))) | (with_reducible refine heap_aft _ ?_ ?_) | (with_reducible refine heap_alloc' ?_ ?_) | (with_reducible refine heap_drew ?_))))
        have mb : x10.val.heap[gb]? = some (.cells #[.int .i64 bw, .int .i64 bv] 23) := by (have mh := Mb.out; (repeat' (first | (with_reducible assumption) | omega | (simp only [World.size_alloc, World.size_drew, World.size_setCell]; omega) | (refine heap_alloc_at ?_; (first | rfl | (simp; done))) | (with_reducible refine heap_aft _ ?_ ?_) | (with_reducible refine heap_alloc' ?_ ?_) | (with_reducible refine heap_drew ?_))))
        have mf : x10.val.heap[V2.heap.size]? = some (.cells #[.int .i64 FW, .int .i64 FV] 23) := by (have mh := Mf.out; (repeat' (first | (with_reducible assumption) | omega | (simp only [World.size_alloc, World.size_drew, World.size_setCell]; omega) | (refine heap_alloc_at ?_; (first | rfl | (simp; done))) | (with_reducible refine heap_aft _ ?_ ?_) | (with_reducible refine heap_alloc' ?_ ?_) | (with_reducible refine heap_drew ?_))))
        have ms : x10.val.heap[V3.heap.size]? = some (.cells #[.int .i64 SW, .int .i64 SV] 23) := by (have mh := Ms.out; (repeat' (first | (with_reducible assumption) | omega | (simp only [World.size_alloc, World.size_drew, World.size_setCell]; omega) | (refine heap_alloc_at ?_; (first | rfl | (simp; done))) | (with_reducible refine heap_aft _ ?_ ?_) | (with_reducible refine heap_alloc' ?_ ?_) | (with_reducible refine heap_drew ?_))))
        have mj : x10.val.heap[V5.heap.size]? = some (.cells #[.int .i64 JW, .int .i64 JV] 23) := by (have mh := Mj.out; (repeat' (first | (with_reducible assumption) | omega | (simp only [World.size_alloc, World.size_drew, World.size_setCell]; omega) | (refine heap_alloc_at ?_; (first | rfl | (simp; done))) | (with_reducible refine heap_aft _ ?_ ?_) | (with_reducible refine heap_alloc' ?_ ?_) | (with_reducible refine heap_drew ?_))))
        have hbl2 : Below w.heap.size w x10.val := by (repeat' (first | (with_reducible exact Below.refl _ _) | (with_reducible assumption) | (with_reducible exact Aft.pf _) | (with_reducible refine Below.alloc ?_ ?_ _) | (with_reducible refine Below.drew ?_) | (with_reducible refine Aft.below _ ?_ ?_) | (with_reducible refine Below.setCell_new ?_ ?_ _ _) | (with_reducible exact Nat.le_refl _) | (with_reducible refine Aft.le _ ?_) | (with_reducible refine le_alloc ?_) | (with_reducible refine le_drew ?_) | (with_reducible refine le_setCell ?_) | omega))
        clear Ma Mx Mb Mf Ms Mj la lx lb lf ls lj qa0 fa0 qa1 fa1 qx0 fx0 qx1 fx1 qb0 fb0 qb1 fb1 qf0 ff0 qf1 ff1 qs0 fs0 qs1 fs1 qj0 fj0 qj1 fj1
        clear hbl
        have hbl := hbl2
        clear hbl2
        generalize x10.val = V10 at *
        have la := lt_of_get ma
        have qa0 := cell_block (i := 0) ma
        have fa0 := free_block (i := 0) ma
        have qa1 := cell_block (i := 1) ma
        have fa1 := free_block (i := 1) ma
        have lx := lt_of_get mx
        have qx0 := cell_block (i := 0) mx
        have fx0 := free_block (i := 0) mx
        have qx1 := cell_block (i := 1) mx
        have fx1 := free_block (i := 1) mx
        have lb := lt_of_get mb
        have qb0 := cell_block (i := 0) mb
        have fb0 := free_block (i := 0) mb
        have qb1 := cell_block (i := 1) mb
        have fb1 := free_block (i := 1) mb
        have lf := lt_of_get mf
        have qf0 := cell_block (i := 0) mf
        have ff0 := free_block (i := 0) mf
        have qf1 := cell_block (i := 1) mf
        have ff1 := free_block (i := 1) mf
        have ls := lt_of_get ms
        have qs0 := cell_block (i := 0) ms
        have fs0 := free_block (i := 0) ms
        have qs1 := cell_block (i := 1) ms
        have fs1 := free_block (i := 1) ms
        have lj := lt_of_get mj
        have qj0 := cell_block (i := 0) mj
        have fj0 := free_block (i := 0) mj
        have qj1 := cell_block (i := 1) mj
        have fj1 := free_block (i := 1) mj
        simp at qa0 qa1 qx0 qx1 qb0 qb1 qf0 qf1 qs0 qs1 qj0 qj1
        have Ma := Lib.hid ma
        clear ma
        have Mx := Lib.hid mx
        clear mx
        have Mb := Lib.hid mb
        clear mb
        have Mf := Lib.hid mf
        clear mf
        have Ms := Lib.hid ms
        clear ms
        have Mj := Lib.hid mj
        clear mj
        go_upto_region 18 with (fail)
        go_cut [155] (fun s wx => s = .bool false ∧ ∃ x : Aft V10, wx = x.val)
        case first =>
          by_cases he : je = 0
          · have hv := vJ.out he
            obtain rfl : je = 0 := he
            have hlz := Lib.hid (fun (y : Aft V10) => hv y.val (HLI.out.below (y.below hbl hbl.size)))
            clear hv
            refine wp_region_aft (by kernel_rfl) (by kernel_rfl) ?_
            repeat (go_big_quiet_step (first | (go_at_call 37; exact Calls.qa (hlz.out _))))
            refine wpQuiet_nil ?_
            intro x
            go_wp2
            go_meet
            exact ⟨rfl, x, rfl⟩
          · have hz1 : (je == 0) = false := by simpa using he
            have hz2 : (je != 0) = true := by simpa using he
            obtain ⟨rfl, rfl⟩ := zJ.out he
            clear he
            refine wp_region_aft (by kernel_rfl) (by kernel_rfl) ?_
            repeat (go_big_quiet_step (fail))
            refine wpQuiet_nil ?_
            intro x
            go_wp2
            go_meet
            exact ⟨rfl, x, rfl⟩
        case rest =>
          obtain ⟨rfl, x, rfl⟩ := hcut
          have ma : x.val.heap[w.heap.size]? = some (.cells #[.int .i64 aw, .int .i64 av] 23) := by (have mh := Ma.out; (repeat' (first | (with_reducible assumption) | omega | (simp only [World.size_alloc, World.size_drew, World.size_setCell]; omega) | (refine heap_alloc_at ?_; (first | rfl | (simp; done))) | (with_reducible refine heap_aft _ ?_ ?_) | (with_reducible refine heap_alloc' ?_ ?_) | (with_reducible refine heap_drew ?_))))
          have mx : x.val.heap[w.heap.size + 1]? = some (.cells #[.int .i64 x0, .int .i64 x1] 47) := by (have mh := Mx.out; (repeat' (first | (with_reducible assumption) | omega | (simp only [World.size_alloc, World.size_drew, World.size_setCell]; omega) | (refine heap_alloc_at ?_; (first | rfl | (simp; done))) | (with_reducible refine heap_aft _ ?_ ?_) | (with_reducible refine heap_alloc' ?_ ?_) | (with_reducible refine heap_drew ?_))))
          have mb : x.val.heap[gb]? = some (.cells #[.int .i64 bw, .int .i64 bv] 23) := by (have mh := Mb.out; (repeat' (first | (with_reducible assumption) | omega | (simp only [World.size_alloc, World.size_drew, World.size_setCell]; omega) | (refine heap_alloc_at ?_; (first | rfl | (simp; done))) | (with_reducible refine heap_aft _ ?_ ?_) | (with_reducible refine heap_alloc' ?_ ?_) | (with_reducible refine heap_drew ?_))))
          have mf : x.val.heap[V2.heap.size]? = some (.cells #[.int .i64 FW, .int .i64 FV] 23) := by (have mh := Mf.out; (repeat' (first | (with_reducible assumption) | omega | (simp only [World.size_alloc, World.size_drew, World.size_setCell]; omega) | (refine heap_alloc_at ?_; (first | rfl | (simp; done))) | (with_reducible refine heap_aft _ ?_ ?_) | (with_reducible refine heap_alloc' ?_ ?_) | (with_reducible refine heap_drew ?_))))
          have ms : x.val.heap[V3.heap.size]? = some (.cells #[.int .i64 SW, .int .i64 SV] 23) := by (have mh := Ms.out; (repeat' (first | (with_reducible assumption) | omega | (simp only [World.size_alloc, World.size_drew, World.size_setCell]; omega) | (refine heap_alloc_at ?_; (first | rfl | (simp; done))) | (with_reducible refine heap_aft _ ?_ ?_) | (with_reducible refine heap_alloc' ?_ ?_) | (with_reducible refine heap_drew ?_))))
          have mj : x.val.heap[V5.heap.size]? = some (.cells #[.int .i64 JW, .int .i64 JV] 23) := by (have mh := Mj.out; (repeat' (first | (with_reducible assumption) | omega | (simp only [World.size_alloc, World.size_drew, World.size_setCell]; omega) | (refine heap_alloc_at ?_; (first | rfl | (simp; done))) | (with_reducible refine heap_aft _ ?_ ?_) | (with_reducible refine heap_alloc' ?_ ?_) | (with_reducible refine heap_drew ?_))))
          have hbl2 : Below w.heap.size w x.val := by (repeat' (first | (with_reducible exact Below.refl _ _) | (with_reducible assumption) | (with_reducible exact Aft.pf _) | (with_reducible refine Below.alloc ?_ ?_ _) | (with_reducible refine Below.drew ?_) | (with_reducible refine Aft.below _ ?_ ?_) | (with_reducible refine Below.setCell_new ?_ ?_ _ _) | (with_reducible exact Nat.le_refl _) | (with_reducible refine Aft.le _ ?_) | (with_reducible refine le_alloc ?_) | (with_reducible refine le_drew ?_) | (with_reducible refine le_setCell ?_) | omega))
          clear Ma Mx Mb Mf Ms Mj la lx lb lf ls lj qa0 fa0 qa1 fa1 qx0 fx0 qx1 fx1 qb0 fb0 qb1 fb1 qf0 ff0 qf1 ff1 qs0 fs0 qs1 fs1 qj0 fj0 qj1 fj1
          clear hbl
          have hbl := hbl2
          clear hbl2
          generalize x.val = V11 at *
          have la := lt_of_get ma
          have qa0 := cell_block (i := 0) ma
          have fa0 := free_block (i := 0) ma
          have qa1 := cell_block (i := 1) ma
          have fa1 := free_block (i := 1) ma
          have lx := lt_of_get mx
          have qx0 := cell_block (i := 0) mx
          have fx0 := free_block (i := 0) mx
          have qx1 := cell_block (i := 1) mx
          have fx1 := free_block (i := 1) mx
          have lb := lt_of_get mb
          have qb0 := cell_block (i := 0) mb
          have fb0 := free_block (i := 0) mb
          have qb1 := cell_block (i := 1) mb
          have fb1 := free_block (i := 1) mb
          have lf := lt_of_get mf
          have qf0 := cell_block (i := 0) mf
          have ff0 := free_block (i := 0) mf
          have qf1 := cell_block (i := 1) mf
          have ff1 := free_block (i := 1) mf
          have ls := lt_of_get ms
          have qs0 := cell_block (i := 0) ms
          have fs0 := free_block (i := 0) ms
          have qs1 := cell_block (i := 1) ms
          have fs1 := free_block (i := 1) ms
          have lj := lt_of_get mj
          have qj0 := cell_block (i := 0) mj
          have fj0 := free_block (i := 0) mj
          have qj1 := cell_block (i := 1) mj
          have fj1 := free_block (i := 1) mj
          simp at qa0 qa1 qx0 qx1 qb0 qb1 qf0 qf1 qs0 qs1 qj0 qj1
          have Ma := Lib.hid ma
          clear ma
          have Mx := Lib.hid mx
          clear mx
          have Mb := Lib.hid mb
          clear mb
          have Mf := Lib.hid mf
          clear mf
          have Ms := Lib.hid ms
          clear ms
          have Mj := Lib.hid mj
          clear mj
          by_cases hE : bErr aw av = 0
          case neg =>
            have hz1 : (bErr aw av == 0) = false := by simpa using hE
            have hz2 : (bErr aw av != 0) = true := by simpa using hE
            clear hE
            go_wp2_with fail
            refine (BitsErr_c aw av _).mono ?_
            rintro e w' ⟨rfl, y, rfl⟩
            go_wp2
            go_ret
            exact ⟨rfl, Below.aft (by (repeat' (first | (with_reducible exact Below.refl _ _) | (with_reducible assumption) | (with_reducible exact Aft.pf _) | (with_reducible refine Below.alloc ?_ ?_ _) | (with_reducible refine Below.drew ?_) | (with_reducible refine Aft.below _ ?_ ?_) | (with_reducible refine Below.setCell_new ?_ ?_ _ _) | (with_reducible exact Nat.le_refl _) | (with_reducible refine Aft.le _ ?_) | (with_reducible refine le_alloc ?_) | (with_reducible refine le_drew ?_) | (with_reducible refine le_setCell ?_) | omega)))⟩
          case pos =>
            have HE := Lib.hid hE
            obtain ⟨b1, b2, b3, b4⟩ := bErr_ok.1 hE
            by_cases hW : win x0 1 (aw - 1) = true
            case neg =>
              have hW' : win x0 1 (aw - 1) = false := by simpa using hW
              clear hW hE
              go_wp2_with fail
              refine (BitsErr_c aw av _).mono ?_
              rw [HE.out]
              rintro e w' ⟨rfl, y, rfl⟩
              have za := y.lt' la
              have zx := y.lt' lx
              go_wp2_with (go_at_call 38; refine (Within_c _ _ _ _).mono ?_; rintro e w' ⟨rfl, rfl⟩)
              go_ret
              exact ⟨rfl, Below.aft (by (repeat' (first | (with_reducible exact Below.refl _ _) | (with_reducible assumption) | (with_reducible exact Aft.pf _) | (with_reducible refine Below.alloc ?_ ?_ _) | (with_reducible refine Below.drew ?_) | (with_reducible refine Aft.below _ ?_ ?_) | (with_reducible refine Below.setCell_new ?_ ?_ _ _) | (with_reducible exact Nat.le_refl _) | (with_reducible refine Aft.le _ ?_) | (with_reducible refine le_alloc ?_) | (with_reducible refine le_drew ?_) | (with_reducible refine le_setCell ?_) | omega)))⟩
            case pos =>
              obtain ⟨p1, p2, p3, LV, HV, kL, kH, kA⟩ := hFin.out hE hW
              have HW := Lib.hid hW
              clear hE hW
              go_wp2_with fail
              refine (BitsErr_c aw av _).mono ?_
              rw [HE.out]
              rintro e w' ⟨rfl, x12, rfl⟩
              have ma : x12.val.heap[w.heap.size]? = some (.cells #[.int .i64 aw, .int .i64 av] 23) := by (have mh := Ma.out; (repeat' (first | (with_reducible assumption) | omega | (simp only [World.size_alloc, World.size_drew, World.size_setCell]; omega) | (refine heap_alloc_at ?_; (first | rfl | (simp; done))) | (with_reducible refine heap_aft _ ?_ ?_) | (with_reducible refine heap_alloc' ?_ ?_) | (with_reducible refine heap_drew ?_))))
              have mx : x12.val.heap[w.heap.size + 1]? = some (.cells #[.int .i64 x0, .int .i64 x1] 47) := by (have mh := Mx.out; (repeat' (first | (with_reducible assumption) | omega | (simp only [World.size_alloc, World.size_drew, World.size_setCell]; omega) | (refine heap_alloc_at ?_; (first | rfl | (simp; done))) | (with_reducible refine heap_aft _ ?_ ?_) | (with_reducible refine heap_alloc' ?_ ?_) | (with_reducible refine heap_drew ?_))))
              have mb : x12.val.heap[gb]? = some (.cells #[.int .i64 bw, .int .i64 bv] 23) := by (have mh := Mb.out; (repeat' (first | (with_reducible assumption) | omega | (simp only [World.size_alloc, World.size_drew, World.size_setCell]; omega) | (refine heap_alloc_at ?_; (first | rfl | (simp; done))) | (with_reducible refine heap_aft _ ?_ ?_) | (with_reducible refine heap_alloc' ?_ ?_) | (with_reducible refine heap_drew ?_))))
              have mf : x12.val.heap[V2.heap.size]? = some (.cells #[.int .i64 FW, .int .i64 FV] 23) := by (have mh := Mf.out; (repeat' (first | (with_reducible assumption) | omega | (simp only [World.size_alloc, World.size_drew, World.size_setCell]; omega) | (refine heap_alloc_at ?_; (first | rfl | (simp; done))) | (with_reducible refine heap_aft _ ?_ ?_) | (with_reducible refine heap_alloc' ?_ ?_) | (with_reducible refine heap_drew ?_))))
              have ms : x12.val.heap[V3.heap.size]? = some (.cells #[.int .i64 SW, .int .i64 SV] 23) := by (have mh := Ms.out; (repeat' (first | (with_reducible assumption) | omega | (simp only [World.size_alloc, World.size_drew, World.size_setCell]; omega) | (refine heap_alloc_at ?_; (first | rfl | (simp; done))) | (with_reducible refine heap_aft _ ?_ ?_) | (with_reducible refine heap_alloc' ?_ ?_) | (with_reducible refine heap_drew ?_))))
              have mj : x12.val.heap[V5.heap.size]? = some (.cells #[.int .i64 JW, .int .i64 JV] 23) := by (have mh := Mj.out; (repeat' (first | (with_reducible assumption) | omega | (simp only [World.size_alloc, World.size_drew, World.size_setCell]; omega) | (refine heap_alloc_at ?_; (first | rfl | (simp; done))) | (with_reducible refine heap_aft _ ?_ ?_) | (with_reducible refine heap_alloc' ?_ ?_) | (with_reducible refine heap_drew ?_))))
              have hbl2 : Below w.heap.size w x12.val := by (repeat' (first | (with_reducible exact Below.refl _ _) | (with_reducible assumption) | (with_reducible exact Aft.pf _) | (with_reducible refine Below.alloc ?_ ?_ _) | (with_reducible refine Below.drew ?_) | (with_reducible refine Aft.below _ ?_ ?_) | (with_reducible refine Below.setCell_new ?_ ?_ _ _) | (with_reducible exact Nat.le_refl _) | (with_reducible refine Aft.le _ ?_) | (with_reducible refine le_alloc ?_) | (with_reducible refine le_drew ?_) | (with_reducible refine le_setCell ?_) | omega))
              clear Ma Mx Mb Mf Ms Mj la lx lb lf ls lj qa0 fa0 qa1 fa1 qx0 fx0 qx1 fx1 qb0 fb0 qb1 fb1 qf0 ff0 qf1 ff1 qs0 fs0 qs1 fs1 qj0 fj0 qj1 fj1
              clear hbl
              have hbl := hbl2
              clear hbl2
              generalize x12.val = V12 at *
              have la := lt_of_get ma
              have qa0 := cell_block (i := 0) ma
              have fa0 := free_block (i := 0) ma
              have qa1 := cell_block (i := 1) ma
              have fa1 := free_block (i := 1) ma
              have lx := lt_of_get mx
              have qx0 := cell_block (i := 0) mx
              have fx0 := free_block (i := 0) mx
              have qx1 := cell_block (i := 1) mx
              have fx1 := free_block (i := 1) mx
              have lb := lt_of_get mb
              have qb0 := cell_block (i := 0) mb
              have fb0 := free_block (i := 0) mb
              have qb1 := cell_block (i := 1) mb
              have fb1 := free_block (i := 1) mb
              have lf := lt_of_get mf
              have qf0 := cell_block (i := 0) mf
              have ff0 := free_block (i := 0) mf
              have qf1 := cell_block (i := 1) mf
              have ff1 := free_block (i := 1) mf
              have ls := lt_of_get ms
              have qs0 := cell_block (i := 0) ms
              have fs0 := free_block (i := 0) ms
              have qs1 := cell_block (i := 1) ms
              have fs1 := free_block (i := 1) ms
              have lj := lt_of_get mj
              have qj0 := cell_block (i := 0) mj
              have fj0 := free_block (i := 0) mj
              have qj1 := cell_block (i := 1) mj
              have fj1 := free_block (i := 1) mj
              simp at qa0 qa1 qx0 qx1 qb0 qb1 qf0 qf1 qs0 qs1 qj0 qj1
              have Ma := Lib.hid ma
              clear ma
              have Mx := Lib.hid mx
              clear mx
              have Mb := Lib.hid mb
              clear mb
              have Mf := Lib.hid mf
              clear mf
              have Ms := Lib.hid ms
              clear ms
              have Mj := Lib.hid mj
              clear mj
              go_wp2_with fail
              refine (Within_c _ _ _ _).mono ?_
              rw [HW.out]
              rintro e w' ⟨rfl, rfl⟩
              go_wp2_with fail
              refine (kL.out _).mono ?_
              rintro e w' ⟨rfl, x13, rfl⟩
              have ma : x13.val.heap[w.heap.size]? = some (.cells #[.int .i64 aw, .int .i64 av] 23) := by (have mh := Ma.out; (repeat' (first | (with_reducible assumption) | omega | (simp only [World.size_alloc, World.size_drew, World.size_setCell]; omega) | (refine heap_alloc_at ?_; (first | rfl | (simp; done))) | (with_reducible refine heap_aft _ ?_ ?_) | (with_reducible refine heap_alloc' ?_ ?_) | (with_reducible refine heap_drew ?_))))
              have mx : x13.val.heap[w.heap.size + 1]? = some (.cells #[.int .i64 x0, .int .i64 x1] 47) := by (have mh := Mx.out; (repeat' (first | (with_reducible assumption) | omega | (simp only [World.size_alloc, World.size_drew, World.size_setCell]; omega) | (refine heap_alloc_at ?_; (first | rfl | (simp; done))) | (with_reducible refine heap_aft _ ?_ ?_) | (with_reducible refine heap_alloc' ?_ ?_) | (with_reducible refine heap_drew ?_))))
              have mb : x13.val.heap[gb]? = some (.cells #[.int .i64 bw, .int .i64 bv] 23) := by (have mh := Mb.out; (repeat' (first | (with_reducible assumption) | omega | (simp only [World.size_alloc, World.size_drew, World.size_setCell]; omega) | (refine heap_alloc_at ?_; (first | rfl | (simp; done))) | (with_reducible refine heap_aft _ ?_ ?_) | (with_reducible refine heap_alloc' ?_ ?_) | (with_reducible refine heap_drew ?_))))
              have mf : x13.val.heap[V2.heap.size]? = some (.cells #[.int .i64 FW, .int .i64 FV] 23) := by (have mh := Mf.out; (repeat' (first | (with_reducible assumption) | omega | (simp only [World.size_alloc, World.size_drew, World.size_setCell]; omega) | (refine heap_alloc_at ?_; (first | rfl | (simp; done))) | (with_reducible refine heap_aft _ ?_ ?_) | (with_reducible refine heap_alloc' ?_ ?_) | (with_reducible refine heap_drew ?_))))
              have ms : x13.val.heap[V3.heap.size]? = some (.cells #[.int .i64 SW, .int .i64 SV] 23) := by (have mh := Ms.out; (repeat' (first | (with_reducible assumption) | omega | (simp only [World.size_alloc, World.size_drew, World.size_setCell]; omega) | (refine heap_alloc_at ?_; (first | rfl | (simp; done))) | (with_reducible refine heap_aft _ ?_ ?_) | (with_reducible refine heap_alloc' ?_ ?_) | (with_reducible refine heap_drew ?_))))
              have mj : x13.val.heap[V5.heap.size]? = some (.cells #[.int .i64 JW, .int .i64 JV] 23) := by (have mh := Mj.out; (repeat' (first | (with_reducible assumption) | omega | (simp only [World.size_alloc, World.size_drew, World.size_setCell]; omega) | (refine heap_alloc_at ?_; (first | rfl | (simp; done))) | (with_reducible refine heap_aft _ ?_ ?_) | (with_reducible refine heap_alloc' ?_ ?_) | (with_reducible refine heap_drew ?_))))
              have hbl2 : Below w.heap.size w x13.val := by (repeat' (first | (with_reducible exact Below.refl _ _) | (with_reducible assumption) | (with_reducible exact Aft.pf _) | (with_reducible refine Below.alloc ?_ ?_ _) | (with_reducible refine Below.drew ?_) | (with_reducible refine Aft.below _ ?_ ?_) | (with_reducible refine Below.setCell_new ?_ ?_ _ _) | (with_reducible exact Nat.le_refl _) | (with_reducible refine Aft.le _ ?_) | (with_reducible refine le_alloc ?_) | (with_reducible refine le_drew ?_) | (with_reducible refine le_setCell ?_) | omega))
              clear Ma Mx Mb Mf Ms Mj la lx lb lf ls lj qa0 fa0 qa1 fa1 qx0 fx0 qx1 fx1 qb0 fb0 qb1 fb1 qf0 ff0 qf1 ff1 qs0 fs0 qs1 fs1 qj0 fj0 qj1 fj1
              clear hbl
              have hbl := hbl2
              clear hbl2
              generalize x13.val = V13 at *
              have la := lt_of_get ma
              have qa0 := cell_block (i := 0) ma
              have fa0 := free_block (i := 0) ma
              have qa1 := cell_block (i := 1) ma
              have fa1 := free_block (i := 1) ma
              have lx := lt_of_get mx
              have qx0 := cell_block (i := 0) mx
              have fx0 := free_block (i := 0) mx
              have qx1 := cell_block (i := 1) mx
              have fx1 := free_block (i := 1) mx
              have lb := lt_of_get mb
              have qb0 := cell_block (i := 0) mb
              have fb0 := free_block (i := 0) mb
              have qb1 := cell_block (i := 1) mb
              have fb1 := free_block (i := 1) mb
              have lf := lt_of_get mf
              have qf0 := cell_block (i := 0) mf
              have ff0 := free_block (i := 0) mf
              have qf1 := cell_block (i := 1) mf
              have ff1 := free_block (i := 1) mf
              have ls := lt_of_get ms
              have qs0 := cell_block (i := 0) ms
              have fs0 := free_block (i := 0) ms
              have qs1 := cell_block (i := 1) ms
              have fs1 := free_block (i := 1) ms
              have lj := lt_of_get mj
              have qj0 := cell_block (i := 0) mj
              have fj0 := free_block (i := 0) mj
              have qj1 := cell_block (i := 1) mj
              have fj1 := free_block (i := 1) mj
              simp at qa0 qa1 qx0 qx1 qb0 qb1 qf0 qf1 qs0 qs1 qj0 qj1
              have Ma := Lib.hid ma
              clear ma
              have Mx := Lib.hid mx
              clear mx
              have Mb := Lib.hid mb
              clear mb
              have Mf := Lib.hid mf
              clear mf
              have Ms := Lib.hid ms
              clear ms
              have Mj := Lib.hid mj
              clear mj
              go_wp2_with fail
              refine (kH.out _).mono ?_
              rintro e w' ⟨rfl, x14, rfl⟩
              have ma : x14.val.heap[w.heap.size]? = some (.cells #[.int .i64 aw, .int .i64 av] 23) := by (have mh := Ma.out; (repeat' (first | (with_reducible assumption) | omega | (simp only [World.size_alloc, World.size_drew, World.size_setCell]; omega) | (refine heap_alloc_at ?_; (first | rfl | (simp; done))) | (with_reducible refine heap_aft _ ?_ ?_) | (with_reducible refine heap_alloc' ?_ ?_) | (with_reducible refine heap_drew ?_))))
              have mx : x14.val.heap[w.heap.size + 1]? = some (.cells #[.int .i64 x0, .int .i64 x1] 47) := by (have mh := Mx.out; (repeat' (first | (with_reducible assumption) | omega | (simp only [World.size_alloc, World.size_drew, World.size_setCell]; omega) | (refine heap_alloc_at ?_; (first | rfl | (simp; done))) | (with_reducible refine heap_aft _ ?_ ?_) | (with_reducible refine heap_alloc' ?_ ?_) | (with_reducible refine heap_drew ?_))))
              have mb : x14.val.heap[gb]? = some (.cells #[.int .i64 bw, .int .i64 bv] 23) := by (have mh := Mb.out; (repeat' (first | (with_reducible assumption) | omega | (simp only [World.size_alloc, World.size_drew, World.size_setCell]; omega) | (refine heap_alloc_at ?_; (first | rfl | (simp; done))) | (with_reducible refine heap_aft _ ?_ ?_) | (with_reducible refine heap_alloc' ?_ ?_) | (with_reducible refine heap_drew ?_))))
              have mf : x14.val.heap[V2.heap.size]? = some (.cells #[.int .i64 FW, .int .i64 FV] 23) := by (have mh := Mf.out; (repeat' (first | (with_reducible assumption) | omega | (simp only [World.size_alloc, World.size_drew, World.size_setCell]; omega) | (refine heap_alloc_at ?_; (first | rfl | (simp; done))) | (with_reducible refine heap_aft _ ?_ ?_) | (with_reducible refine heap_alloc' ?_ ?_) | (with_reducible refine heap_drew ?_))))
              have ms : x14.val.heap[V3.heap.size]? = some (.cells #[.int .i64 SW, .int .i64 SV] 23) := by (have mh := Ms.out; (repeat' (first | (with_reducible assumption) | omega | (simp only [World.size_alloc, World.size_drew, World.size_setCell]; omega) | (refine heap_alloc_at ?_; (first | rfl | (simp; done))) | (with_reducible refine heap_aft _ ?_ ?_) | (with_reducible refine heap_alloc' ?_ ?_) | (with_reducible refine heap_drew ?_))))
              have mj : x14.val.heap[V5.heap.size]? = some (.cells #[.int .i64 JW, .int .i64 JV] 23) := by (have mh := Mj.out; (repeat' (first | (with_reducible assumption) | omega | (simp only [World.size_alloc, World.size_drew, World.size_setCell]; omega) | (refine heap_alloc_at ?_; (first | rfl | (simp; done))) | (with_reducible refine heap_aft _ ?_ ?_) | (with_reducible refine heap_alloc' ?_ ?_) | (with_reducible refine heap_drew ?_))))
              have ml : x14.val.heap[V13.heap.size]? = some (.cells #[.int .i64 x0, .int .i64 LV] 23) := by (repeat' (first | (with_reducible assumption) | omega | (simp only [World.size_alloc, World.size_drew, World.size_setCell]; omega) | (refine heap_alloc_at ?_; (first | rfl | (simp; done))) | (with_reducible refine heap_aft _ ?_ ?_) | (with_reducible refine heap_alloc' ?_ ?_) | (with_reducible refine heap_drew ?_)))
              have hbl2 : Below w.heap.size w x14.val := by (repeat' (first | (with_reducible exact Below.refl _ _) | (with_reducible assumption) | (with_reducible exact Aft.pf _) | (with_reducible refine Below.alloc ?_ ?_ _) | (with_reducible refine Below.drew ?_) | (with_reducible refine Aft.below _ ?_ ?_) | (with_reducible refine Below.setCell_new ?_ ?_ _ _) | (with_reducible exact Nat.le_refl _) | (with_reducible refine Aft.le _ ?_) | (with_reducible refine le_alloc ?_) | (with_reducible refine le_drew ?_) | (with_reducible refine le_setCell ?_) | omega))
              clear Ma Mx Mb Mf Ms Mj la lx lb lf ls lj qa0 fa0 qa1 fa1 qx0 fx0 qx1 fx1 qb0 fb0 qb1 fb1 qf0 ff0 qf1 ff1 qs0 fs0 qs1 fs1 qj0 fj0 qj1 fj1
              clear hbl
              have hbl := hbl2
              clear hbl2
              generalize x14.val = V14 at *
              have la := lt_of_get ma
              have qa0 := cell_block (i := 0) ma
              have fa0 := free_block (i := 0) ma
              have qa1 := cell_block (i := 1) ma
              have fa1 := free_block (i := 1) ma
              have lx := lt_of_get mx
              have qx0 := cell_block (i := 0) mx
              have fx0 := free_block (i := 0) mx
              have qx1 := cell_block (i := 1) mx
              have fx1 := free_block (i := 1) mx
              have lb := lt_of_get mb
              have qb0 := cell_block (i := 0) mb
              have fb0 := free_block (i := 0) mb
              have qb1 := cell_block (i := 1) mb
              have fb1 := free_block (i := 1) mb
              have lf := lt_of_get mf
              have qf0 := cell_block (i := 0) mf
              have ff0 := free_block (i := 0) mf
              have qf1 := cell_block (i := 1) mf
              have ff1 := free_block (i := 1) mf
              have ls := lt_of_get ms
              have qs0 := cell_block (i := 0) ms
              have fs0 := free_block (i := 0) ms
              have qs1 := cell_block (i := 1) ms
              have fs1 := free_block (i := 1) ms
              have lj := lt_of_get mj
              have qj0 := cell_block (i := 0) mj
              have fj0 := free_block (i := 0) mj
              have qj1 := cell_block (i := 1) mj
              have fj1 := free_block (i := 1) mj
              have ll := lt_of_get ml
              have ql0 := cell_block (i := 0) ml
              have fl0 := free_block (i := 0) ml
              have ql1 := cell_block (i := 1) ml
              have fl1 := free_block (i := 1) ml
              simp at qa0 qa1 qx0 qx1 qb0 qb1 qf0 qf1 qs0 qs1 qj0 qj1 ql0 ql1
              have Ma := Lib.hid ma
              clear ma
              have Mx := Lib.hid mx
              clear mx
              have Mb := Lib.hid mb
              clear mb
              have Mf := Lib.hid mf
              clear mf
              have Ms := Lib.hid ms
              clear ms
              have Mj := Lib.hid mj
              clear mj
              have Ml := Lib.hid ml
              clear ml
              go_wp2_with fail
              refine (kA.out _ _ (by exact heap_alloc_at (by simp [go_sem]))).mono ?_
              rintro e w' ⟨rfl, x15, rfl⟩
              have ma : x15.val.heap[w.heap.size]? = some (.cells #[.int .i64 aw, .int .i64 av] 23) := by (have mh := Ma.out; (repeat' (first | (with_reducible assumption) | omega | (simp only [World.size_alloc, World.size_drew, World.size_setCell]; omega) | (refine heap_alloc_at ?_; (first | rfl | (simp; done))) | (with_reducible refine heap_aft _ ?_ ?_) | (with_reducible refine heap_alloc' ?_ ?_) | (with_reducible refine heap_drew ?_))))
              have mx : x15.val.heap[w.heap.size + 1]? = some (.cells #[.int .i64 x0, .int .i64 x1] 47) := by (have mh := Mx.out; (repeat' (first | (with_reducible assumption) | omega | (simp only [World.size_alloc, World.size_drew, World.size_setCell]; omega) | (refine heap_alloc_at ?_; (first | rfl | (simp; done))) | (with_reducible refine heap_aft _ ?_ ?_) | (with_reducible refine heap_alloc' ?_ ?_) | (with_reducible refine heap_drew ?_))))
              have mb : x15.val.heap[gb]? = some (.cells #[.int .i64 bw, .int .i64 bv] 23) := by (have mh := Mb.out; (repeat' (first | (with_reducible assumption) | omega | (simp only [World.size_alloc, World.size_drew, World.size_setCell]; omega) | (refine heap_alloc_at ?_; (first | rfl | (simp; done))) | (with_reducible refine heap_aft _ ?_ ?_) | (with_reducible refine heap_alloc' ?_ ?_) | (with_reducible refine heap_drew ?_))))
              have mf : x15.val.heap[V2.heap.size]? = some (.cells #[.int .i64 FW, .int .i64 FV] 23) := by (have mh := Mf.out; (repeat' (first | (with_reducible assumption) | omega | (simp only [World.size_alloc, World.size_drew, World.size_setCell]; omega) | (refine heap_alloc_at ?_; (first | rfl | (simp; done))) | (with_reducible refine heap_aft _ ?_ ?_) | (with_reducible refine heap_alloc' ?_ ?_) | (with_reducible refine heap_drew ?_))))
              have ms : x15.val.heap[V3.heap.size]? = some (.cells #[.int .i64 SW, .int .i64 SV] 23) := by (have mh := Ms.out; (repeat' (first | (with_reducible assumption) | omega | (simp only [World.size_alloc, World.size_drew, World.size_setCell]; omega) | (refine heap_alloc_at ?_; (first | rfl | (simp; done))) | (with_reducible refine heap_aft _ ?_ ?_) | (with_reducible refine heap_alloc' ?_ ?_) | (with_reducible refine heap_drew ?_))))
              have mj : x15.val.heap[V5.heap.size]? = some (.cells #[.int .i64 JW, .int .i64 JV] 23) := by (have mh := Mj.out; (repeat' (first | (with_reducible assumption) | omega | (simp only [World.size_alloc, World.size_drew, World.size_setCell]; omega) | (refine heap_alloc_at ?_; (first | rfl | (simp; done))) | (with_reducible refine heap_aft _ ?_ ?_) | (with_reducible refine heap_alloc' ?_ ?_) | (with_reducible refine heap_drew ?_))))
              have ml : x15.val.heap[V13.heap.size]? = some (.cells #[.int .i64 x0, .int .i64 LV] 23) := by (have mh := Ml.out; (repeat' (first | (with_reducible assumption) | omega | (simp only [World.size_alloc, World.size_drew, World.size_setCell]; omega) | (refine heap_alloc_at ?_; (first | rfl | (simp; done))) | (with_reducible refine heap_aft _ ?_ ?_) | (with_reducible refine heap_alloc' ?_ ?_) | (with_reducible refine heap_drew ?_))))
              have mh : x15.val.heap[V14.heap.size]? = some (.cells #[.int .i64 (aw - x0), .int .i64 HV] 23) := by (repeat' (first | (with_reducible assumption) | omega | (simp only [World.size_alloc, World.size_drew, World.size_setCell]; omega) | (refine heap_alloc_at ?_; (first | rfl | (simp; done))) | (with_reducible refine heap_aft _ ?_ ?_) | (with_reducible refine heap_alloc' ?_ ?_) | (with_reducible refine heap_drew ?_)))
              have hbl2 : Below w.heap.size w x15.val := by (repeat' (first | (with_reducible exact Below.refl _ _) | (with_reducible assumption) | (with_reducible exact Aft.pf _) | (with_reducible refine Below.alloc ?_ ?_ _) | (with_reducible refine Below.drew ?_) | (with_reducible refine Aft.below _ ?_ ?_) | (with_reducible refine Below.setCell_new ?_ ?_ _ _) | (with_reducible exact Nat.le_refl _) | (with_reducible refine Aft.le _ ?_) | (with_reducible refine le_alloc ?_) | (with_reducible refine le_drew ?_) | (with_reducible refine le_setCell ?_) | omega))
              clear Ma Mx Mb Mf Ms Mj Ml la lx lb lf ls lj ll qa0 fa0 qa1 fa1 qx0 fx0 qx1 fx1 qb0 fb0 qb1 fb1 qf0 ff0 qf1 ff1 qs0 fs0 qs1 fs1 qj0 fj0 qj1 fj1 ql0 fl0 ql1 fl1
              clear hbl
              have hbl := hbl2
              clear hbl2
              generalize x15.val = V15 at *
              have la := lt_of_get ma
              have qa0 := cell_block (i := 0) ma
              have fa0 := free_block (i := 0) ma
              have qa1 := cell_block (i := 1) ma
              have fa1 := free_block (i := 1) ma
              have lx := lt_of_get mx
              have qx0 := cell_block (i := 0) mx
              have fx0 := free_block (i := 0) mx
              have qx1 := cell_block (i := 1) mx
              have fx1 := free_block (i := 1) mx
              have lb := lt_of_get mb
              have qb0 := cell_block (i := 0) mb
              have fb0 := free_block (i := 0) mb
              have qb1 := cell_block (i := 1) mb
              have fb1 := free_block (i := 1) mb
              have lf := lt_of_get mf
              have qf0 := cell_block (i := 0) mf
              have ff0 := free_block (i := 0) mf
              have qf1 := cell_block (i := 1) mf
              have ff1 := free_block (i := 1) mf
              have ls := lt_of_get ms
              have qs0 := cell_block (i := 0) ms
              have fs0 := free_block (i := 0) ms
              have qs1 := cell_block (i := 1) ms
              have fs1 := free_block (i := 1) ms
              have lj := lt_of_get mj
              have qj0 := cell_block (i := 0) mj
              have fj0 := free_block (i := 0) mj
              have qj1 := cell_block (i := 1) mj
              have fj1 := free_block (i := 1) mj
              have ll := lt_of_get ml
              have ql0 := cell_block (i := 0) ml
              have fl0 := free_block (i := 0) ml
              have ql1 := cell_block (i := 1) ml
              have fl1 := free_block (i := 1) ml
              have lh := lt_of_get mh
              have qh0 := cell_block (i := 0) mh
              have fh0 := free_block (i := 0) mh
              have qh1 := cell_block (i := 1) mh
              have fh1 := free_block (i := 1) mh
              simp at qa0 qa1 qx0 qx1 qb0 qb1 qf0 qf1 qs0 qs1 qj0 qj1 ql0 ql1 qh0 qh1
              have Ma := Lib.hid ma
              clear ma
              have Mx := Lib.hid mx
              clear mx
              have Mb := Lib.hid mb
              clear mb
              have Mf := Lib.hid mf
              clear mf
              have Ms := Lib.hid ms
              clear ms
              have Mj := Lib.hid mj
              clear mj
              have Ml := Lib.hid ml
              clear ml
              have Mh := Lib.hid mh
              clear mh
              go_wp2
              go_ret
              exact ⟨rfl, Below.aft (by (repeat' (first | (with_reducible exact Below.refl _ _) | (with_reducible assumption) | (with_reducible exact Aft.pf _) | (with_reducible refine Below.alloc ?_ ?_ _) | (with_reducible refine Below.drew ?_) | (with_reducible refine Aft.below _ ?_ ?_) | (with_reducible refine Below.setCell_new ?_ ?_ _ _) | (with_reducible exact Nat.le_refl _) | (with_reducible refine Aft.le _ ?_) | (with_reducible refine le_alloc ?_) | (with_reducible refine le_drew ?_) | (with_reducible refine le_setCell ?_) | omega)))⟩

end Go.Proofs.Ytlplphigjejahaa
