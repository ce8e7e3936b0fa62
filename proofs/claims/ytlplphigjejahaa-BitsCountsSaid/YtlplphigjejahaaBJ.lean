/-
  The walk of the law BitsCounts.
-/
import Derived.Test.YtlplphigjejahaaBI
import Derived.Test.YtlplphigjejahaaBF
import Derived.Test.YtlplphigjejahaaBD
import Derived.Test.YtlplphigjejahaaBB
import Derived.Deep.DeepCutAuto
set_option linter.unusedSimpArgs false
set_option linter.unusedVariables false
namespace Go.Proofs.Ytlplphigjejahaa
open Go.RowKit Go.BigFrame

theorem LiesI.below {w w' : World} {A : Option Addr} {ns : List Int} (h : LiesI w A ns) (hb : Below w.heap.size w w') : LiesI w' A ns := h.aft ⟨w', hb⟩
structure MemC (w wx : World) (aw av x0 x1 c0 c1 c2 c3 OW OV PW PV : Int) (gc go gp : Nat) : Prop where
  below : Below w.heap.size w wx
  ma : wx.heap[w.heap.size]? = some (.cells #[.int .i64 aw, .int .i64 av] 23)
  mx : wx.heap[w.heap.size + 1]? = some (.cells #[.int .i64 x0, .int .i64 x1] 47)
  mc : wx.heap[gc]? = some (.cells #[.int .i64 c0, .int .i64 c1, .int .i64 c2, .int .i64 c3] 60)
  mo : wx.heap[go]? = some (.cells #[.int .i64 OW, .int .i64 OV] 23)
  mp : wx.heap[gp]? = some (.cells #[.int .i64 PW, .int .i64 PV] 23)

theorem MemC.of {w V wx : World} {aw av x0 x1 c0 c1 c2 c3 OW OV PW PV : Int} {gc go gp : Nat} (hw : Below w.heap.size w V) (hB : Below V.heap.size V wx)
    (ma : V.heap[w.heap.size]? = some (.cells #[.int .i64 aw, .int .i64 av] 23)) (mx : V.heap[w.heap.size + 1]? = some (.cells #[.int .i64 x0, .int .i64 x1] 47))
    (mc : V.heap[gc]? = some (.cells #[.int .i64 c0, .int .i64 c1, .int .i64 c2, .int .i64 c3] 60)) (mo : V.heap[go]? = some (.cells #[.int .i64 OW, .int .i64 OV] 23)) (mp : wx.heap[gp]? = some (.cells #[.int .i64 PW, .int .i64 PV] 23)) :
    MemC w wx aw av x0 x1 c0 c1 c2 c3 OW OV PW PV gc go gp :=
  ⟨hw.trans (hB.mono hw.size), (hB.block _ (lt_of_get ma)).trans ma, (hB.block _ (lt_of_get mx)).trans mx, (hB.block _ (lt_of_get mc)).trans mc, (hB.block _ (lt_of_get mo)).trans mo, mp⟩

set_option maxRecDepth 20000 in
set_option maxHeartbeats 16000000 in
theorem BitsCounts_main (hawake : ∀ w, Calls Try.prog 11 #[] w fun e w' => e = .returned (.bool true) ∧ ∃ x : Aft w, w' = x.val) (aw av x0 x1 c0 c1 c2 c3 ce OW OV oe IV ie PW PV pe : Int) (A : Option Addr) (cap : Nat) (ns : List Int) (w : World) (kC : Hid (∀ w, Calls Try.prog 39 #[.agg #[.int .i64 aw, .int .i64 av]] w fun e w' => e = .returned (.tuple #[.agg #[.int .i64 c0, .int .i64 c1, .int .i64 c2, .int .i64 c3], .int .i64 ce]) ∧ ∃ x : Aft w, w' = x.val)) (kO : Hid (∀ w, Calls Try.prog 40 #[.int .i64 x0, .int .i64 x1] w fun e w' => e = .returned (.tuple #[.agg #[.int .i64 OW, .int .i64 OV], .int .i64 oe]) ∧ ∃ x : Aft w, w' = x.val)) (kI : Hid (∀ w, Calls Try.prog 41 #[.agg #[.int .i64 aw, .int .i64 av]] w fun e w' => e = .returned (.tuple #[.int .i64 IV, .int .i64 ie]) ∧ ∃ x : Aft w, w' = x.val)) (rB : Hid (∀ w, Calls Try.prog 15 #[.agg #[.int .i64 aw, .int .i64 av]] w fun e w' => e = .returned (.int .i64 ce) ∧ ∃ x : Aft w, w' = x.val)) (rI : Hid (∀ w, Calls Try.prog 46 #[.agg #[.int .i64 aw, .int .i64 av]] w fun e w' => e = .returned (.int .i64 ie) ∧ ∃ x : Aft w, w' = x.val)) (rH : Hid (∀ w, Calls Try.prog 45 #[.int .i64 x0, .int .i64 x1] w fun e w' => e = .returned (.int .i64 oe) ∧ w = w')) (hC : Hid (∀ (W : World), Below w.heap.size w W → Calls Try.prog 43 #[.slice A ns.length cap] W (CopiedI W ns))) (kP : Hid (∀ (w : World) (A : Option Addr) (cap : Nat), LiesI w A ns → Calls Try.prog 42 #[.agg #[.int .i64 aw, .int .i64 av], .slice A ns.length cap] w fun e w' => e = .returned (.tuple #[.agg #[.int .i64 PW, .int .i64 PV], .int .i64 pe]) ∧ ∃ x : Aft w, w' = x.val)) (rP : Hid (∀ (w : World), LiesI w A ns → Calls Try.prog 47 #[.agg #[.int .i64 aw, .int .i64 av], .slice A ns.length cap] w fun e w' => e = .returned (.int .i64 pe) ∧ ∃ x : Aft w, w' = x.val)) (vC : Hid (ce = 0 → Hid (∀ w, Calls Try.prog 44 #[.agg #[.int .i64 aw, .int .i64 av]] w fun e w' => e = .returned (.agg #[.int .i64 c0, .int .i64 c1, .int .i64 c2, .int .i64 c3]) ∧ ∃ x : Aft w, w' = x.val))) (zC : Hid (ce ≠ 0 → c0 = 0 ∧ c1 = 0 ∧ c2 = 0 ∧ c3 = 0)) (vO : Hid (oe = 0 → 0 ≤ x0 ∧ x0 ≤ 15 ∧ Hid (∀ w, Calls Try.prog 19 #[.int .i64 x1, .int .i64 (pw x0)] w fun e w' => e = .returned (.agg #[.int .i64 OW, .int .i64 OV]) ∧ ∃ x : Aft w, w' = x.val))) (zO : Hid (oe ≠ 0 → OW = 0 ∧ OV = 0)) (vI : Hid (ie = 0 → IV = c2 ∧ Hid (∀ w, Calls Try.prog 44 #[.agg #[.int .i64 aw, .int .i64 av]] w fun e w' => e = .returned (.agg #[.int .i64 c0, .int .i64 c1, .int .i64 c2, .int .i64 c3]) ∧ ∃ x : Aft w, w' = x.val))) (zI : Hid (ie ≠ 0 → IV = 0)) (vP : Hid (pe = 0 → ∀ w : World, LiesI w A ns → Calls Try.prog 48 #[.agg #[.int .i64 aw, .int .i64 av], .slice A ns.length cap] w fun e w' => e = .returned (.agg #[.int .i64 PW, .int .i64 PV]) ∧ ∃ x : Aft w, w' = x.val)) (zP : Hid (pe ≠ 0 → PW = 0 ∧ PV = 0)) (h18 : ns.length ≤ 18) (h : LiesI w A ns) :
    Calls Try.prog 8 #[.agg #[.int .i64 aw, .int .i64 av], .agg #[.int .i64 x0, .int .i64 x1], .slice A ns.length cap] w fun e w' => e = .returned (.bool true) ∧ ∃ x : Aft w, w' = x.val := by
  have HLI := Lib.hid h
  clear h
  have hz18 : decide (18 < (ns.length : Int)) = false := by simp; omega
  go_enter Try.func8, Try.ntmps8
  go_wp2_with fail
  refine (hawake _).mono ?_
  rintro e w' ⟨rfl, xa, rfl⟩
  have ma : xa.val.heap[w.heap.size]? = some (.cells #[.int .i64 aw, .int .i64 av] 23) := by (repeat' (first | (with_reducible assumption) | omega | (simp only [World.size_alloc, World.size_drew, World.size_setCell]; omega) | (refine heap_alloc_at ?_; (first | rfl | (simp; done))) | (with_reducible refine heap_aft _ ?_ ?_) | (with_reducible refine heap_alloc' ?_ ?_) | (with_reducible refine heap_drew ?_)))
  have mx : xa.val.heap[w.heap.size + 1]? = some (.cells #[.int .i64 x0, .int .i64 x1] 47) := by (repeat' (first | (with_reducible assumption) | omega | (simp only [World.size_alloc, World.size_drew, World.size_setCell]; omega) | (refine heap_alloc_at ?_; (first | rfl | (simp; done))) | (with_reducible refine heap_aft _ ?_ ?_) | (with_reducible refine heap_alloc' ?_ ?_) | (with_reducible refine heap_drew ?_)))
  have hbl : Below w.heap.size w xa.val := by (repeat' (first | (with_reducible exact Below.refl _ _) | (with_reducible assumption) | (with_reducible exact Aft.pf _) | (with_reducible refine Below.alloc ?_ ?_ _) | (with_reducible refine Below.drew ?_) | (with_reducible refine Aft.below _ ?_ ?_) | (with_reducible refine Below.setCell_new ?_ ?_ _ _) | (with_reducible exact Nat.le_refl _) | (with_reducible refine Aft.le _ ?_) | (with_reducible refine le_alloc ?_) | (with_reducible refine le_drew ?_) | (with_reducible refine le_setCell ?_) | omega))
  generalize xa.val = V1 at *
  have la := lt_of_get ma
  have qa0 := cell_block (i := 0) ma
  have fa0 := free_block (i := 0) ma
  have qa1 := cell_block (i := 1) ma
  have fa1 := free_block (i := 1) ma
  have lx := lt_of_get mx
  have qx0 := cell_block (i := 0) mx
  have fx0 := free_block (i := 0) mx
  have qx1 := cell_block (i := 1) mx
  have fx1 := free_block (i := 1) mx
  simp at qa0 qa1 qx0 qx1
  have Ma := Lib.hid ma
  clear ma
  have Mx := Lib.hid mx
  clear mx
  go_wp2_with fail
  refine (kC.out _).mono ?_
  rintro e w' ⟨rfl, x2, rfl⟩
  have ma : x2.val.heap[w.heap.size]? = some (.cells #[.int .i64 aw, .int .i64 av] 23) := by (have mh := Ma.out; (repeat' (first | (with_reducible assumption) | omega | (simp only [World.size_alloc, World.size_drew, World.size_setCell]; omega) | (refine heap_alloc_at ?_; (first | rfl | (simp; done))) | (with_reducible refine heap_aft _ ?_ ?_) | (with_reducible refine heap_alloc' ?_ ?_) | (with_reducible refine heap_drew ?_))))
  have mx : x2.val.heap[w.heap.size + 1]? = some (.cells #[.int .i64 x0, .int .i64 x1] 47) := by (have mh := Mx.out; (repeat' (first | (with_reducible assumption) | omega | (simp only [World.size_alloc, World.size_drew, World.size_setCell]; omega) | (refine heap_alloc_at ?_; (first | rfl | (simp; done))) | (with_reducible refine heap_aft _ ?_ ?_) | (with_reducible refine heap_alloc' ?_ ?_) | (with_reducible refine heap_drew ?_))))
  have hbl2 : Below w.heap.size w x2.val := by (repeat' (first | (with_reducible exact Below.refl _ _) | (with_reducible assumption) | (with_reducible exact Aft.pf _) | (with_reducible refine Below.alloc ?_ ?_ _) | (with_reducible refine Below.drew ?_) | (with_reducible refine Aft.below _ ?_ ?_) | (with_reducible refine Below.setCell_new ?_ ?_ _ _) | (with_reducible exact Nat.le_refl _) | (with_reducible refine Aft.le _ ?_) | (with_reducible refine le_alloc ?_) | (with_reducible refine le_drew ?_) | (with_reducible refine le_setCell ?_) | omega))
  clear Ma Mx la lx qa0 fa0 qa1 fa1 qx0 fx0 qx1 fx1
  clear hbl
  have hbl := hbl2
  clear hbl2
  generalize x2.val = V2 at *
  have la := lt_of_get ma
  have qa0 := cell_block (i := 0) ma
  have fa0 := free_block (i := 0) ma
  have qa1 := cell_block (i := 1) ma
  have fa1 := free_block (i := 1) ma
  have lx := lt_of_get mx
  have qx0 := cell_block (i := 0) mx
  have fx0 := free_block (i := 0) mx
  have qx1 := cell_block (i := 1) mx
  have fx1 := free_block (i := 1) mx
  simp at qa0 qa1 qx0 qx1
  have Ma := Lib.hid ma
  clear ma
  have Mx := Lib.hid mx
  clear mx
  go_wp2_with fail
  refine (kO.out _).mono ?_
  rintro e w' ⟨rfl, x3, rfl⟩
  have ma : x3.val.heap[w.heap.size]? = some (.cells #[.int .i64 aw, .int .i64 av] 23) := by (have mh := Ma.out; (repeat' (first | (with_reducible assumption) | omega | (simp only [World.size_alloc, World.size_drew, World.size_setCell]; omega) | (refine heap_alloc_at ?_; (first | rfl | (simp; done))) | (with_reducible refine heap_aft _ ?_ ?_) | (with_reducible refine heap_alloc' ?_ ?_) | (with_reducible refine heap_drew ?_))))
  have mx : x3.val.heap[w.heap.size + 1]? = some (.cells #[.int .i64 x0, .int .i64 x1] 47) := by (have mh := Mx.out; (repeat' (first | (with_reducible assumption) | omega | (simp only [World.size_alloc, World.size_drew, World.size_setCell]; omega) | (refine heap_alloc_at ?_; (first | rfl | (simp; done))) | (with_reducible refine heap_aft _ ?_ ?_) | (with_reducible refine heap_alloc' ?_ ?_) | (with_reducible refine heap_drew ?_))))
  have mc : x3.val.heap[V2.heap.size]? = some (.cells #[.int .i64 c0, .int .i64 c1, .int .i64 c2, .int .i64 c3] 60) := by (repeat' (first | (with_reducible assumption) | omega | (simp only [World.size_alloc, World.size_drew, World.size_setCell]; omega) | (refine heap_alloc_at ?_; (first | rfl | (simp; done))) | (with_reducible refine heap_aft _ ?_ ?_) | (with_reducible refine heap_alloc' ?_ ?_) | (with_reducible refine heap_drew ?_)))
  have hbl2 : Below w.heap.size w x3.val := by (repeat' (first | (with_reducible exact Below.refl _ _) | (with_reducible assumption) | (with_reducible exact Aft.pf _) | (with_reducible refine Below.alloc ?_ ?_ _) | (with_reducible refine Below.drew ?_) | (with_reducible refine Aft.below _ ?_ ?_) | (with_reducible refine Below.setCell_new ?_ ?_ _ _) | (with_reducible exact Nat.le_refl _) | (with_reducible refine Aft.le _ ?_) | (with_reducible refine le_alloc ?_) | (with_reducible refine le_drew ?_) | (with_reducible refine le_setCell ?_) | omega))
  clear Ma Mx la lx qa0 fa0 qa1 fa1 qx0 fx0 qx1 fx1
  clear hbl
  have hbl := hbl2
  clear hbl2
  generalize x3.val = V3 at *
  have la := lt_of_get ma
  have qa0 := cell_block (i := 0) ma
  have fa0 := free_block (i := 0) ma
  have qa1 := cell_block (i := 1) ma
  have fa1 := free_block (i := 1) ma
  have lx := lt_of_get mx
  have qx0 := cell_block (i := 0) mx
  have fx0 := free_block (i := 0) mx
  have qx1 := cell_block (i := 1) mx
  have fx1 := free_block (i := 1) mx
  have lc := lt_of_get mc
  have qc0 := cell_block (i := 0) mc
  have fc0 := free_block (i := 0) mc
  have qc1 := cell_block (i := 1) mc
  have fc1 := free_block (i := 1) mc
  have qc2 := cell_block (i := 2) mc
  have fc2 := free_block (i := 2) mc
  have qc3 := cell_block (i := 3) mc
  have fc3 := free_block (i := 3) mc
  simp at qa0 qa1 qx0 qx1 qc0 qc1 qc2 qc3
  have Ma := Lib.hid ma
  clear ma
  have Mx := Lib.hid mx
  clear mx
  have Mc := Lib.hid mc
  clear mc
  go_wp2_with fail
  refine (kI.out _).mono ?_
  rintro e w' ⟨rfl, x4, rfl⟩
  have ma : x4.val.heap[w.heap.size]? = some (.cells #[.int .i64 aw, .int .i64 av] 23) := by (have mh := Ma.out; (repeat' (first | (with_reducible assumption) | omega | (simp only [World.size_alloc, World.size_drew, World.size_setCell]; omega) | (refine heap_alloc_at ?_; (first | rfl | (simp; done))) | (with_reducible refine heap_aft _ ?_ ?_) | (with_reducible refine heap_alloc' ?_ ?_) | (with_reducible refine heap_drew ?_))))
  have mx : x4.val.heap[w.heap.size + 1]? = some (.cells #[.int .i64 x0, .int .i64 x1] 47) := by (have mh := Mx.out; (repeat' (first | (with_reducible assumption) | omega | (simp only [World.size_alloc, World.size_drew, World.size_setCell]; omega) | (refine heap_alloc_at ?_; (first | rfl | (simp; done))) | (with_reducible refine heap_aft _ ?_ ?_) | (with_reducible refine heap_alloc' ?_ ?_) | (with_reducible refine heap_drew ?_))))
  have mc : x4.val.heap[V2.heap.size]? = some (.cells #[.int .i64 c0, .int .i64 c1, .int .i64 c2, .int .i64 c3] 60) := by (have mh := Mc.out; (repeat' (first | (with_reducible assumption) | omega | (simp only [World.size_alloc, World.size_drew, World.size_setCell]; omega) | (refine heap_alloc_at ?_; (first | rfl | (simp; done))) | (with_reducible refine heap_aft _ ?_ ?_) | (with_reducible refine heap_alloc' ?_ ?_) | (with_reducible refine heap_drew ?_))))
  have mo : x4.val.heap[V3.heap.size]? = some (.cells #[.int .i64 OW, .int .i64 OV] 23) := by (repeat' (first | (with_reducible assumption) | omega | (simp only [World.size_alloc, World.size_drew, World.size_setCell]; omega) | (refine heap_alloc_at ?_; (first | rfl | (simp; done))) | (with_reducible refine heap_aft _ ?_ ?_) | (with_reducible refine heap_alloc' ?_ ?_) | (with_reducible refine heap_drew ?_)))
  have hbl2 : Below w.heap.size w x4.val := by (repeat' (first | (with_reducible exact Below.refl _ _) | (with_reducible assumption) | (with_reducible exact Aft.pf _) | (with_reducible refine Below.alloc ?_ ?_ _) | (with_reducible refine Below.drew ?_) | (with_reducible refine Aft.below _ ?_ ?_) | (with_reducible refine Below.setCell_new ?_ ?_ _ _) | (with_reducible exact Nat.le_refl _) | (with_reducible refine Aft.le _ ?_) | (with_reducible refine le_alloc ?_) | (with_reducible refine le_drew ?_) | (with_reducible refine le_setCell ?_) | omega))
  clear Ma Mx Mc la lx lc qa0 fa0 qa1 fa1 qx0 fx0 qx1 fx1 qc0 fc0 qc1 fc1 qc2 fc2 qc3 fc3
  clear hbl
  have hbl := hbl2
  clear hbl2
  generalize x4.val = V4 at *
  have la := lt_of_get ma
  have qa0 := cell_block (i := 0) ma
  have fa0 := free_block (i := 0) ma
  have qa1 := cell_block (i := 1) ma
  have fa1 := free_block (i := 1) ma
  have lx := lt_of_get mx
  have qx0 := cell_block (i := 0) mx
  have fx0 := free_block (i := 0) mx
  have qx1 := cell_block (i := 1) mx
  have fx1 := free_block (i := 1) mx
  have lc := lt_of_get mc
  have qc0 := cell_block (i := 0) mc
  have fc0 := free_block (i := 0) mc
  have qc1 := cell_block (i := 1) mc
  have fc1 := free_block (i := 1) mc
  have qc2 := cell_block (i := 2) mc
  have fc2 := free_block (i := 2) mc
  have qc3 := cell_block (i := 3) mc
  have fc3 := free_block (i := 3) mc
  have lo := lt_of_get mo
  have qo0 := cell_block (i := 0) mo
  have fo0 := free_block (i := 0) mo
  have qo1 := cell_block (i := 1) mo
  have fo1 := free_block (i := 1) mo
  simp at qa0 qa1 qx0 qx1 qc0 qc1 qc2 qc3 qo0 qo1
  have Ma := Lib.hid ma
  clear ma
  have Mx := Lib.hid mx
  clear mx
  have Mc := Lib.hid mc
  clear mc
  have Mo := Lib.hid mo
  clear mo
  go_upto_region 8 with (fail)
  go_cut [13, 14] (fun g e wx => ∃ gp, g = .pointer (some ⟨gp, 0, none⟩) ∧ e = .int .i64 pe ∧ MemC w wx aw av x0 x1 c0 c1 c2 c3 OW OV PW PV (V2.heap.size) (V3.heap.size) gp)
  case first =>
    go_region_with (first | (go_at_call 43; refine (hC.out _ (by (repeat' (first | (with_reducible exact Below.refl _ _) | (with_reducible assumption) | (with_reducible exact Aft.pf _) | (with_reducible refine Below.alloc ?_ ?_ _) | (with_reducible refine Below.drew ?_) | (with_reducible refine Aft.below _ ?_ ?_) | (with_reducible refine Below.setCell_new ?_ ?_ _ _) | (with_reducible exact Nat.le_refl _) | (with_reducible refine Aft.le _ ?_) | (with_reducible refine le_alloc ?_) | (with_reducible refine le_drew ?_) | (with_reducible refine le_setCell ?_) | omega)))).mono ?_; rintro e w' ⟨A', cap', rfl, hl', hb'⟩; obtain ⟨xc, rfl⟩ := Below.aft hb'; clear hb') | (go_at_call 42; refine (kP.out _ _ _ (by first | assumption | exact LiesI.below hl' (by (repeat' (first | (with_reducible exact Below.refl _ _) | (with_reducible assumption) | (with_reducible exact Aft.pf _) | (with_reducible refine Below.alloc ?_ ?_ _) | (with_reducible refine Below.drew ?_) | (with_reducible refine Aft.below _ ?_ ?_) | (with_reducible refine Below.setCell_new ?_ ?_ _ _) | (with_reducible exact Nat.le_refl _) | (with_reducible refine Aft.le _ ?_) | (with_reducible refine le_alloc ?_) | (with_reducible refine le_drew ?_) | (with_reducible refine le_setCell ?_) | omega))))).mono ?_; rintro e w' ⟨rfl, xp, rfl⟩))
    all_goals go_wp2
    all_goals go_meet
    all_goals refine ⟨_, rfl, rfl, ?_⟩
    all_goals exact MemC.of hbl (by (repeat' (first | (with_reducible exact Below.refl _ _) | (with_reducible assumption) | (with_reducible exact Aft.pf _) | (with_reducible refine Below.alloc ?_ ?_ _) | (with_reducible refine Below.drew ?_) | (with_reducible refine Aft.below _ ?_ ?_) | (with_reducible refine Below.setCell_new ?_ ?_ _ _) | (with_reducible exact Nat.le_refl _) | (with_reducible refine Aft.le _ ?_) | (with_reducible refine le_alloc ?_) | (with_reducible refine le_drew ?_) | (with_reducible refine le_setCell ?_) | omega))) Ma.out Mx.out Mc.out Mo.out (by first | exact heap_alloc_new _ _ | exact two_set (heap_aft xp (by simp) (heap_alloc_new _ _)) | exact two_set (heap_aft xp (xc.lt' (by simp)) (heap_aft xc (by simp) (heap_alloc_new _ _))))
  case rest =>
    clear la lx lc lo qa0 fa0 qa1 fa1 qx0 fx0 qx1 fx1 qc0 fc0 qc1 fc1 qc2 fc2 qc3 fc3 qo0 fo0 qo1 fo1 Ma Mx Mc Mo hbl
    obtain ⟨gp, rfl, rfl, hM⟩ := hcut
    obtain ⟨hbl, ma, mx, mc, mo, mp⟩ := hM
    generalize V2.heap.size = gc at *
    generalize V3.heap.size = go at *
    have la := lt_of_get ma
    have qa0 := cell_block (i := 0) ma
    have fa0 := free_block (i := 0) ma
    have qa1 := cell_block (i := 1) ma
    have fa1 := free_block (i := 1) ma
    have lx := lt_of_get mx
    have qx0 := cell_block (i := 0) mx
    have fx0 := free_block (i := 0) mx
    have qx1 := cell_block (i := 1) mx
    have fx1 := free_block (i := 1) mx
    have lc := lt_of_get mc
    have qc0 := cell_block (i := 0) mc
    have fc0 := free_block (i := 0) mc
    have qc1 := cell_block (i := 1) mc
    have fc1 := free_block (i := 1) mc
    have qc2 := cell_block (i := 2) mc
    have fc2 := free_block (i := 2) mc
    have qc3 := cell_block (i := 3) mc
    have fc3 := free_block (i := 3) mc
    have lo := lt_of_get mo
    have qo0 := cell_block (i := 0) mo
    have fo0 := free_block (i := 0) mo
    have qo1 := cell_block (i := 1) mo
    have fo1 := free_block (i := 1) mo
    have lp := lt_of_get mp
    have qp0 := cell_block (i := 0) mp
    have fp0 := free_block (i := 0) mp
    have qp1 := cell_block (i := 1) mp
    have fp1 := free_block (i := 1) mp
    simp at qa0 qa1 qx0 qx1 qc0 qc1 qc2 qc3 qo0 qo1 qp0 qp1
    have Ma := Lib.hid ma
    clear ma
    have Mx := Lib.hid mx
    clear mx
    have Mc := Lib.hid mc
    clear mc
    have Mo := Lib.hid mo
    clear mo
    have Mp := Lib.hid mp
    clear mp
    go_wp2_with fail
    refine (rB.out _).mono ?_
    rintro e w' ⟨rfl, x5, rfl⟩
    have ma : x5.val.heap[w.heap.size]? = some (.cells #[.int .i64 aw, .int .i64 av] 23) := by (have mh := Ma.out; (repeat' (first | (with_reducible assumption) | omega | (simp only [World.size_alloc, World.size_drew, World.size_setCell]; omega) | (refine heap_alloc_at ?_; (first | rfl | (simp; done))) | (with_reducible refine heap_aft _ ?_ ?_) | (with_reducible refine heap_alloc' ?_ ?_) | (with_reducible refine heap_drew ?_))))
    have mx : x5.val.heap[w.heap.size + 1]? = some (.cells #[.int .i64 x0, .int .i64 x1] 47) := by (have mh := Mx.out; (repeat' (first | (with_reducible assumption) | omega | (simp only [World.size_alloc, World.size_drew, World.size_setCell]; omega) | (refine heap_alloc_at ?_; (first | rfl | (simp; done))) | (with_reducible refine heap_aft _ ?_ ?_) | (with_reducible refine heap_alloc' ?_ ?_) | (with_reducible refine heap_drew ?_))))
    have mc : x5.val.heap[gc]? = some (.cells #[.int .i64 c0, .int .i64 c1, .int .i64 c2, .int .i64 c3] 60) := by (have mh := Mc.out; (repeat' (first | (with_reducible assumption) | omega | (simp only [World.size_alloc, World.size_drew, World.size_setCell]; omega) | (refine heap_alloc_at ?_; (first | rfl | (simp; done))) | (with_reducible refine heap_aft _ ?_ ?_) | (with_reducible refine heap_alloc' ?_ ?_) | (with_reducible refine heap_drew ?_))))
    have mo : x5.val.heap[go]? = some (.cells #[.int .i64 OW, .int .i64 OV] 23) := by (have mh := Mo.out; (repeat' (first | (with_reducible assumption) | omega | (simp only [World.size_alloc, World.size_drew, World.size_setCell]; omega) | (refine heap_alloc_at ?_; (first | rfl | (simp; done))) | (with_reducible refine heap_aft _ ?_ ?_) | (with_reducible refine heap_alloc' ?_ ?_) | (with_reducible refine heap_drew ?_))))
    have mp : x5.val.heap[gp]? = some (.cells #[.int .i64 PW, .int .i64 PV] 23) := by (have mh := Mp.out; (repeat' (first | (with_reducible assumption) | omega | (simp only [World.size_alloc, World.size_drew, World.size_setCell]; omega) | (refine heap_alloc_at ?_; (first | rfl | (simp; done))) | (with_reducible refine heap_aft _ ?_ ?_) | (with_reducible refine heap_alloc' ?_ ?_) | (with_reducible refine heap_drew ?_))))
    have hbl2 : Below w.heap.size w x5.val := by (repeat' (first | (with_reducible exact Below.refl _ _) | (with_reducible assumption) | (with_reducible exact Aft.pf _) | (with_reducible refine Below.alloc ?_ ?_ _) | (with_reducible refine Below.drew ?_) | (with_reducible refine Aft.below _ ?_ ?_) | (with_reducible refine Below.setCell_new ?_ ?_ _ _) | (with_reducible exact Nat.le_refl _) | (with_reducible refine Aft.le _ ?_) | (with_reducible refine le_alloc ?_) | (with_reducible refine le_drew ?_) | (with_reducible refine le_setCell ?_) | omega))
    clear Ma Mx Mc Mo Mp la lx lc lo lp qa0 fa0 qa1 fa1 qx0 fx0 qx1 fx1 qc0 fc0 qc1 fc1 qc2 fc2 qc3 fc3 qo0 fo0 qo1 fo1 qp0 fp0 qp1 fp1
    clear hbl
    have hbl := hbl2
    clear hbl2
    generalize x5.val = V5 at *
    have la := lt_of_get ma
    have qa0 := cell_block (i := 0) ma
    have fa0 := free_block (i := 0) ma
    have qa1 := cell_block (i := 1) ma
    have fa1 := free_block (i := 1) ma
    have lx := lt_of_get mx
    have qx0 := cell_block (i := 0) mx
    have fx0 := free_block (i := 0) mx
    have qx1 := cell_block (i := 1) mx
    have fx1 := free_block (i := 1) mx
    have lc := lt_of_get mc
    have qc0 := cell_block (i := 0) mc
    have fc0 := free_block (i := 0) mc
    have qc1 := cell_block (i := 1) mc
    have fc1 := free_block (i := 1) mc
    have qc2 := cell_block (i := 2) mc
    have fc2 := free_block (i := 2) mc
    have qc3 := cell_block (i := 3) mc
    have fc3 := free_block (i := 3) mc
    have lo := lt_of_get mo
    have qo0 := cell_block (i := 0) mo
    have fo0 := free_block (i := 0) mo
    have qo1 := cell_block (i := 1) mo
    have fo1 := free_block (i := 1) mo
    have lp := lt_of_get mp
    have qp0 := cell_block (i := 0) mp
    have fp0 := free_block (i := 0) mp
    have qp1 := cell_block (i := 1) mp
    have fp1 := free_block (i := 1) mp
    simp at qa0 qa1 qx0 qx1 qc0 qc1 qc2 qc3 qo0 qo1 qp0 qp1
    have Ma := Lib.hid ma
    clear ma
    have Mx := Lib.hid mx
    clear mx
    have Mc := Lib.hid mc
    clear mc
    have Mo := Lib.hid mo
    clear mo
    have Mp := Lib.hid mp
    clear mp
    go_upto_region 10 with (fail)
    go_cut [76] (fun s wx => s = .bool false ∧ ∃ x : Aft V5, wx = x.val)
    case first =>
      by_cases he : ce = 0
      · have hv := vC.out he
        obtain rfl : ce = 0 := he
        refine wp_region_aft (by kernel_rfl) (by kernel_rfl) ?_
        repeat (go_big_quiet_step (((go_at_call 44; exact Calls.qa (hv.out _)))))
        refine wpQuiet_nil ?_
        intro x
        go_wp2
        go_meet
        exact ⟨rfl, x, rfl⟩
      · have hz1 : (ce == 0) = false := by simpa using he
        have hz2 : (ce != 0) = true := by simpa using he
        obtain ⟨rfl, rfl, rfl, rfl⟩ := zC.out he
        clear he
        refine wp_region_aft (by kernel_rfl) (by kernel_rfl) ?_
        repeat (go_big_quiet_step (fail))
        refine wpQuiet_nil ?_
        intro x
        go_wp2
        go_meet
        exact ⟨rfl, x, rfl⟩
    case rest =>
      obtain ⟨rfl, x, rfl⟩ := hcut
      have ma : x.val.heap[w.heap.size]? = some (.cells #[.int .i64 aw, .int .i64 av] 23) := by (have mh := Ma.out; (repeat' (first | (with_reducible assumption) | omega | (simp only [World.size_alloc, World.size_drew, World.size_setCell]; omega) | (refine heap_alloc_at ?_; (first | rfl | (simp; done))) | (with_reducible refine heap_aft _ ?_ ?_) | (with_reducible refine heap_alloc' ?_ ?_) | (with_reducible refine heap_drew ?_))))
      have mx : x.val.heap[w.heap.size + 1]? = some (.cells #[.int .i64 x0, .int .i64 x1] 47) := by (have mh := Mx.out; (repeat' (first | (with_reducible assumption) | omega | (simp only [World.size_alloc, World.size_drew, World.size_setCell]; omega) | (refine heap_alloc_at ?_; (first | rfl | (simp; done))) | (with_reducible refine heap_aft _ ?_ ?_) | (with_reducible refine heap_alloc' ?_ ?_) | (with_reducible refine heap_drew ?_))))
      have mc : x.val.heap[gc]? = some (.cells #[.int .i64 c0, .int .i64 c1, .int .i64 c2, .int .i64 c3] 60) := by (have mh := Mc.out; (repeat' (first | (with_reducible assumption) | omega | (simp only [World.size_alloc, World.size_drew, World.size_setCell]; omega) | (refine heap_alloc_at ?_; (first | rfl | (simp; done))) | (with_reducible refine heap_aft _ ?_ ?_) | (with_reducible refine heap_alloc' ?_ ?_) | (with_reducible refine heap_drew ?_))))
      have mo : x.val.heap[go]? = some (.cells #[.int .i64 OW, .int .i64 OV] 23) := by (have mh := Mo.out; (repeat' (first | (with_reducible assumption) | omega | (simp only [World.size_alloc, World.size_drew, World.size_setCell]; omega) | (refine heap_alloc_at ?_; (first | rfl | (simp; done))) | (with_reducible refine heap_aft _ ?_ ?_) | (with_reducible refine heap_alloc' ?_ ?_) | (with_reducible refine heap_drew ?_))))
      have mp : x.val.heap[gp]? = some (.cells #[.int .i64 PW, .int .i64 PV] 23) := by (have mh := Mp.out; (repeat' (first | (with_reducible assumption) | omega | (simp only [World.size_alloc, World.size_drew, World.size_setCell]; omega) | (refine heap_alloc_at ?_; (first | rfl | (simp; done))) | (with_reducible refine heap_aft _ ?_ ?_) | (with_reducible refine heap_alloc' ?_ ?_) | (with_reducible refine heap_drew ?_))))
      have hbl2 : Below w.heap.size w x.val := by (repeat' (first | (with_reducible exact Below.refl _ _) | (with_reducible assumption) | (with_reducible exact Aft.pf _) | (with_reducible refine Below.alloc ?_ ?_ _) | (with_reducible refine Below.drew ?_) | (with_reducible refine Aft.below _ ?_ ?_) | (with_reducible refine Below.setCell_new ?_ ?_ _ _) | (with_reducible exact Nat.le_refl _) | (with_reducible refine Aft.le _ ?_) | (with_reducible refine le_alloc ?_) | (with_reducible refine le_drew ?_) | (with_reducible refine le_setCell ?_) | omega))
      clear Ma Mx Mc Mo Mp la lx lc lo lp qa0 fa0 qa1 fa1 qx0 fx0 qx1 fx1 qc0 fc0 qc1 fc1 qc2 fc2 qc3 fc3 qo0 fo0 qo1 fo1 qp0 fp0 qp1 fp1
      clear hbl
      have hbl := hbl2
      clear hbl2
      generalize x.val = V6 at *
      have la := lt_of_get ma
      have qa0 := cell_block (i := 0) ma
      have fa0 := free_block (i := 0) ma
      have qa1 := cell_block (i := 1) ma
      have fa1 := free_block (i := 1) ma
      have lx := lt_of_get mx
      have qx0 := cell_block (i := 0) mx
      have fx0 := free_block (i := 0) mx
      have qx1 := cell_block (i := 1) mx
      have fx1 := free_block (i := 1) mx
      have lc := lt_of_get mc
      have qc0 := cell_block (i := 0) mc
      have fc0 := free_block (i := 0) mc
      have qc1 := cell_block (i := 1) mc
      have fc1 := free_block (i := 1) mc
      have qc2 := cell_block (i := 2) mc
      have fc2 := free_block (i := 2) mc
      have qc3 := cell_block (i := 3) mc
      have fc3 := free_block (i := 3) mc
      have lo := lt_of_get mo
      have qo0 := cell_block (i := 0) mo
      have fo0 := free_block (i := 0) mo
      have qo1 := cell_block (i := 1) mo
      have fo1 := free_block (i := 1) mo
      have lp := lt_of_get mp
      have qp0 := cell_block (i := 0) mp
      have fp0 := free_block (i := 0) mp
      have qp1 := cell_block (i := 1) mp
      have fp1 := free_block (i := 1) mp
      simp at qa0 qa1 qx0 qx1 qc0 qc1 qc2 qc3 qo0 qo1 qp0 qp1
      have Ma := Lib.hid ma
      clear ma
      have Mx := Lib.hid mx
      clear mx
      have Mc := Lib.hid mc
      clear mc
      have Mo := Lib.hid mo
      clear mo
      have Mp := Lib.hid mp
      clear mp
      go_wp2_with fail
      refine (rH.out _).mono ?_
      rintro e w' ⟨rfl, rfl⟩
      go_upto_region 13 with (fail)
      go_cut [111] (fun s wx => s = .bool false ∧ ∃ x : Aft V6, wx = x.val)
      case first =>
        by_cases he : oe = 0
        · obtain ⟨o1, o2, hv⟩ := vO.out he
          obtain rfl : oe = 0 := he
          refine wp_region_aft (by kernel_rfl) (by kernel_rfl) ?_
          repeat (go_big_quiet_step (first | (go_at_call 20; exact Calls.qs (Power_c _ o1 (by omega) _)) | (go_at_call 19; exact Calls.qa (hv.out _))))
          refine wpQuiet_nil ?_
          intro x
          go_wp2
          go_meet
          exact ⟨rfl, x, rfl⟩
        · have hz1 : (oe == 0) = false := by simpa using he
          have hz2 : (oe != 0) = true := by simpa using he
          obtain ⟨rfl, rfl⟩ := zO.out he
          clear he
          refine wp_region_aft (by kernel_rfl) (by kernel_rfl) ?_
          repeat (go_big_quiet_step (fail))
          refine wpQuiet_nil ?_
          intro x
          go_wp2
          go_meet
          exact ⟨rfl, x, rfl⟩
      case rest =>
        obtain ⟨rfl, x, rfl⟩ := hcut
        have ma : x.val.heap[w.heap.size]? = some (.cells #[.int .i64 aw, .int .i64 av] 23) := by (have mh := Ma.out; (repeat' (first | (with_reducible assumption) | omega | (simp only [World.size_alloc, World.size_drew, World.size_setCell]; omega) | (refine heap_alloc_at ?_; (first | rfl | (simp; done))) | (with_reducible refine heap_aft _ ?_ ?_) | (with_reducible refine heap_alloc' ?_ ?_) | (with_reducible refine heap_drew ?_))))
        have mx : x.val.heap[w.heap.size + 1]? = some (.cells #[.int .i64 x0, .int .i64 x1] 47) := by (have mh := Mx.out; (repeat' (first | (with_reducible assumption) | omega | (simp only [World.size_alloc, World.size_drew, World.size_setCell]; omega) | (refine heap_alloc_at ?_; (first | rfl | (simp; done))) | (with_reducible refine heap_aft _ ?_ ?_) | (with_reducible refine heap_alloc' ?_ ?_) | (with_reducible refine heap_drew ?_))))
        have mc : x.val.heap[gc]? = some (.cells #[.int .i64 c0, .int .i64 c1, .int .i64 c2, .int .i64 c3] 60) := by (have mh := Mc.out; (repeat' (first | (with_reducible assumption) | omega | (simp only [World.size_alloc, World.size_drew, World.size_setCell]; omega) | (refine heap_alloc_at ?_; (first | rfl | (simp; done))) | (with_reducible refine heap_aft _ ?_ ?_) | (with_reducible refine heap_alloc' ?_ ?_) | (with_reducible refine heap_drew ?_))))
        have mo : x.val.heap[go]? = some (.cells #[.int .i64 OW, .int .i64 OV] 23) := by (have mh := Mo.out; (repeat' (first | (with_reducible assumption) | omega | (simp only [World.size_alloc, World.size_drew, World.size_setCell]; omega) | (refine heap_alloc_at ?_; (first | rfl | (simp; done))) | (with_reducible refine heap_aft _ ?_ ?_) | (with_reducible refine heap_alloc' ?_ ?_) | (with_reducible refine heap_drew ?_))))
        have mp : x.val.heap[gp]? = some (.cells #[.int .i64 PW, .int .i64 PV] 23) := by (have mh := Mp.out; (repeat' (first | (with_reducible assumption) | omega | (simp only [World.size_alloc, World.size_drew, World.size_setCell]; omega) | (refine heap_alloc_at ?_; (first | rfl | (simp; done))) | (with_reducible refine heap_aft _ ?_ ?_) | (with_reducible refine heap_alloc' ?_ ?_) | (with_reducible refine heap_drew ?_))))
        have hbl2 : Below w.heap.size w x.val := by (repeat' (first | (with_reducible exact Below.refl _ _) | (with_reducible assumption) | (with_reducible exact Aft.pf _) | (with_reducible refine Below.alloc ?_ ?_ _) | (with_reducible refine Below.drew ?_) | (with_reducible refine Aft.below _ ?_ ?_) | (with_reducible refine Below.setCell_new ?_ ?_ _ _) | (with_reducible exact Nat.le_refl _) | (with_reducible refine Aft.le _ ?_) | (with_reducible refine le_alloc ?_) | (with_reducible refine le_drew ?_) | (with_reducible refine le_setCell ?_) | omega))
        clear Ma Mx Mc Mo Mp la lx lc lo lp qa0 fa0 qa1 fa1 qx0 fx0 qx1 fx1 qc0 fc0 qc1 fc1 qc2 fc2 qc3 fc3 qo0 fo0 qo1 fo1 qp0 fp0 qp1 fp1
        clear hbl
        have hbl := hbl2
        clear hbl2
        generalize x.val = V7 at *
        have la := lt_of_get ma
        have qa0 := cell_block (i := 0) ma
        have fa0 := free_block (i := 0) ma
        have qa1 := cell_block (i := 1) ma
        have fa1 := free_block (i := 1) ma
        have lx := lt_of_get mx
        have qx0 := cell_block (i := 0) mx
        have fx0 := free_block (i := 0) mx
        have qx1 := cell_block (i := 1) mx
        have fx1 := free_block (i := 1) mx
        have lc := lt_of_get mc
        have qc0 := cell_block (i := 0) mc
        have fc0 := free_block (i := 0) mc
        have qc1 := cell_block (i := 1) mc
        have fc1 := free_block (i := 1) mc
        have qc2 := cell_block (i := 2) mc
        have fc2 := free_block (i := 2) mc
        have qc3 := cell_block (i := 3) mc
        have fc3 := free_block (i := 3) mc
        have lo := lt_of_get mo
        have qo0 := cell_block (i := 0) mo
        have fo0 := free_block (i := 0) mo
        have qo1 := cell_block (i := 1) mo
        have fo1 := free_block (i := 1) mo
        have lp := lt_of_get mp
        have qp0 := cell_block (i := 0) mp
        have fp0 := free_block (i := 0) mp
        have qp1 := cell_block (i := 1) mp
        have fp1 := free_block (i := 1) mp
        simp at qa0 qa1 qx0 qx1 qc0 qc1 qc2 qc3 qo0 qo1 qp0 qp1
        have Ma := Lib.hid ma
        clear ma
        have Mx := Lib.hid mx
        clear mx
        have Mc := Lib.hid mc
        clear mc
        have Mo := Lib.hid mo
        clear mo
        have Mp := Lib.hid mp
        clear mp
        go_wp2_with fail
        refine (rI.out _).mono ?_
        rintro e w' ⟨rfl, x8, rfl⟩
        have ma : x8.val.heap[w.heap.size]? = some (.cells #[.int .i64 aw, .int .i64 av] 23) := by (have mh := Ma.out; (repeat' (first | (with_reducible assumption) | omega | (simp only [World.size_alloc, World.size_drew, World.size_setCell]; omega) | (refine heap_alloc_at ?_; (first | rfl | (simp; done))) | (with_reducible refine heap_aft _ ?_ ?_) | (with_reducible refine heap_alloc' ?_ ?_) | (with_reducible refine heap_drew ?_))))
        have mx : x8.val.heap[w.heap.size + 1]? = some (.cells #[.int .i64 x0, .int .i64 x1] 47) := by (have mh := Mx.out; (repeat' (first | (with_reducible assumption) | omega | (simp only [World.size_alloc, World.size_drew, World.size_setCell]; omega) | (refine heap_alloc_at ?_; (first | rfl | (simp; done))) | (with_reducible refine heap_aft _ ?_ ?_) | (with_reducible refine heap_alloc' ?_ ?_) | (with_reducible refine heap_drew ?_))))
        have mc : x8.val.heap[gc]? = some (.cells #[.int .i64 c0, .int .i64 c1, .int .i64 c2, .int .i64 c3] 60) := by (have mh := Mc.out; (repeat' (first | (with_reducible assumption) | omega | (simp only [World.size_alloc, World.size_drew, World.size_setCell]; omega) | (refine heap_alloc_at ?_; (first | rfl | (simp; done))) | (with_reducible refine heap_aft _ ?_ ?_) | (with_reducible refine heap_alloc' ?_ ?_) | (with_reducible refine heap_drew ?_))))
        have mo : x8.val.heap[go]? = some (.cells #[.int .i64 OW, .int .i64 OV] 23) := by (have mh := Mo.out; (repeat' (first | (with_reducible assumption) | omega | (simp only [World.size_alloc, World.size_drew, World.size_setCell]; omega) | (refine heap_alloc_at ?_; (first | rfl | (simp; done))) | (with_reducible refine heap_aft _ ?_ ?_) | (with_reducible refine heap_alloc' ?_ ?_) | (with_reducible refine heap_drew ?_))))
        have mp : x8.val.heap[gp]? = some (.cells #[.int .i64 PW, .int .i64 PV] 23) := by (have mh := Mp.out; (repeat' (first | (with_reducible assumption) | omega | (simp only [World.size_alloc, World.size_drew, World.size_setCell]; omega) | (refine heap_alloc_at ?_; (first | rfl | (simp; done))) | (with_reducible refine heap_aft _ ?_ ?_) | (with_reducible refine heap_alloc' ?_ ?_) | (with_reducible refine heap_drew ?_))))
        have hbl2 : Below w.heap.size w x8.val := by (repeat' (first | (with_reducible exact Below.refl _ _) | (with_reducible assumption) | (with_reducible exact Aft.pf _) | (with_reducible refine Below.alloc ?_ ?_ _) | (with_reducible refine Below.drew ?_) | (with_reducible refine Aft.below _ ?_ ?_) | (with_reducible refine Below.setCell_new ?_ ?_ _ _) | (with_reducible exact Nat.le_refl _) | (with_reducible refine Aft.le _ ?_) | (with_reducible refine le_alloc ?_) | (with_reducible refine le_drew ?_) | (with_reducible refine le_setCell ?_) | omega))
        clear Ma Mx Mc Mo Mp la lx lc lo lp qa0 fa0 qa1 fa1 qx0 fx0 qx1 fx1 qc0 fc0 qc1 fc1 qc2 fc2 qc3 fc3 qo0 fo0 qo1 fo1 qp0 fp0 qp1 fp1
        clear hbl
        have hbl := hbl2
        clear hbl2
        generalize x8.val = V8 at *
        have la := lt_of_get ma
        have qa0 := cell_block (i := 0) ma
        have fa0 := free_block (i := 0) ma
        have qa1 := cell_block (i := 1) ma
        have fa1 := free_block (i := 1) ma
        have lx := lt_of_get mx
        have qx0 := cell_block (i := 0) mx
        have fx0 := free_block (i := 0) mx
        have qx1 := cell_block (i := 1) mx
        have fx1 := free_block (i := 1) mx
        have lc := lt_of_get mc
        have qc0 := cell_block (i := 0) mc
        have fc0 := free_block (i := 0) mc
        have qc1 := cell_block (i := 1) mc
        have fc1 := free_block (i := 1) mc
        have qc2 := cell_block (i := 2) mc
        have fc2 := free_block (i := 2) mc
        have qc3 := cell_block (i := 3) mc
        have fc3 := free_block (i := 3) mc
        have lo := lt_of_get mo
        have qo0 := cell_block (i := 0) mo
        have fo0 := free_block (i := 0) mo
        have qo1 := cell_block (i := 1) mo
        have fo1 := free_block (i := 1) mo
        have lp := lt_of_get mp
        have qp0 := cell_block (i := 0) mp
        have fp0 := free_block (i := 0) mp
        have qp1 := cell_block (i := 1) mp
        have fp1 := free_block (i := 1) mp
        simp at qa0 qa1 qx0 qx1 qc0 qc1 qc2 qc3 qo0 qo1 qp0 qp1
        have Ma := Lib.hid ma
        clear ma
        have Mx := Lib.hid mx
        clear mx
        have Mc := Lib.hid mc
        clear mc
        have Mo := Lib.hid mo
        clear mo
        have Mp := Lib.hid mp
        clear mp
        go_upto_region 16 with (fail)
        go_cut [139] (fun s wx => s = .bool false ∧ ∃ x : Aft V8, wx = x.val)
        case first =>
          by_cases he : ie = 0
          · obtain ⟨hiv, hv⟩ := vI.out he
            subst hiv
            have fx : ∀ w, (Instr.field 60 (.agg #[.int .i64 c0, .int .i64 c1, .int .i64 IV, .int .i64 c3]) 2).run Try.prog w = .ok (.int .i64 IV) w := fun _ => by kernel_rfl
            obtain rfl : ie = 0 := he
            go_wp2_with fail
            refine (hv.out _).mono ?_
            rintro e w' ⟨rfl, x, rfl⟩
            go_wp2
            go_meet
            exact ⟨rfl, x, rfl⟩
          · have hz1 : (ie == 0) = false := by simpa using he
            have hz2 : (ie != 0) = true := by simpa using he
            obtain rfl := zI.out he
            clear he
            go_wp2
            go_meet
            exact ⟨rfl, ⟨_, Below.refl _ _⟩, rfl⟩
        case rest =>
          obtain ⟨rfl, x, rfl⟩ := hcut
          have ma : x.val.heap[w.heap.size]? = some (.cells #[.int .i64 aw, .int .i64 av] 23) := by (have mh := Ma.out; (repeat' (first | (with_reducible assumption) | omega | (simp only [World.size_alloc, World.size_drew, World.size_setCell]; omega) | (refine heap_alloc_at ?_; (first | rfl | (simp; done))) | (with_reducible refine heap_aft _ ?_ ?_) | (with_reducible refine heap_alloc' ?_ ?_) | (with_reducible refine heap_drew ?_))))
          have mx : x.val.heap[w.heap.size + 1]? = some (.cells #[.int .i64 x0, .int .i64 x1] 47) := by (have mh := Mx.out; (repeat' (first | (with_reducible assumption) | omega | (simp only [World.size_alloc, World.size_drew, World.size_setCell]; omega) | (refine heap_alloc_at ?_; (first | rfl | (simp; done))) | (with_reducible refine heap_aft _ ?_ ?_) | (with_reducible refine heap_alloc' ?_ ?_) | (with_reducible refine heap_drew ?_))))
          have mc : x.val.heap[gc]? = some (.cells #[.int .i64 c0, .int .i64 c1, .int .i64 c2, .int .i64 c3] 60) := by (have mh := Mc.out; (repeat' (first | (with_reducible assumption) | omega | (simp only [World.size_alloc, World.size_drew, World.size_setCell]; omega) | (refine heap_alloc_at ?_; (first | rfl | (simp; done))) | (with_reducible refine heap_aft _ ?_ ?_) | (with_reducible refine heap_alloc' ?_ ?_) | (with_reducible refine heap_drew ?_))))
          have mo : x.val.heap[go]? = some (.cells #[.int .i64 OW, .int .i64 OV] 23) := by (have mh := Mo.out; (repeat' (first | (with_reducible assumption) | omega | (simp only [World.size_alloc, World.size_drew, World.size_setCell]; omega) | (refine heap_alloc_at ?_; (first | rfl | (simp; done))) | (with_reducible refine heap_aft _ ?_ ?_) | (with_reducible refine heap_alloc' ?_ ?_) | (with_reducible refine heap_drew ?_))))
          have mp : x.val.heap[gp]? = some (.cells #[.int .i64 PW, .int .i64 PV] 23) := by (have mh := Mp.out; (repeat' (first | (with_reducible assumption) | omega | (simp only [World.size_alloc, World.size_drew, World.size_setCell]; omega) | (refine heap_alloc_at ?_; (first | rfl | (simp; done))) | (with_reducible refine heap_aft _ ?_ ?_) | (with_reducible refine heap_alloc' ?_ ?_) | (with_reducible refine heap_drew ?_))))
          have hbl2 : Below w.heap.size w x.val := by (repeat' (first | (with_reducible exact Below.refl _ _) | (with_reducible assumption) | (with_reducible exact Aft.pf _) | (with_reducible refine Below.alloc ?_ ?_ _) | (with_reducible refine Below.drew ?_) | (with_reducible refine Aft.below _ ?_ ?_) | (with_reducible refine Below.setCell_new ?_ ?_ _ _) | (with_reducible exact Nat.le_refl _) | (with_reducible refine Aft.le _ ?_) | (with_reducible refine le_alloc ?_) | (with_reducible refine le_drew ?_) | (with_reducible refine le_setCell ?_) | omega))
          clear Ma Mx Mc Mo Mp la lx lc lo lp qa0 fa0 qa1 fa1 qx0 fx0 qx1 fx1 qc0 fc0 qc1 fc1 qc2 fc2 qc3 fc3 qo0 fo0 qo1 fo1 qp0 fp0 qp1 fp1
          clear hbl
          have hbl := hbl2
          clear hbl2
          generalize x.val = V9 at *
          have la := lt_of_get ma
          have qa0 := cell_block (i := 0) ma
          have fa0 := free_block (i := 0) ma
          have qa1 := cell_block (i := 1) ma
          have fa1 := free_block (i := 1) ma
          have lx := lt_of_get mx
          have qx0 := cell_block (i := 0) mx
          have fx0 := free_block (i := 0) mx
          have qx1 := cell_block (i := 1) mx
          have fx1 := free_block (i := 1) mx
          have lc := lt_of_get mc
          have qc0 := cell_block (i := 0) mc
          have fc0 := free_block (i := 0) mc
          have qc1 := cell_block (i := 1) mc
          have fc1 := free_block (i := 1) mc
          have qc2 := cell_block (i := 2) mc
          have fc2 := free_block (i := 2) mc
          have qc3 := cell_block (i := 3) mc
          have fc3 := free_block (i := 3) mc
          have lo := lt_of_get mo
          have qo0 := cell_block (i := 0) mo
          have fo0 := free_block (i := 0) mo
          have qo1 := cell_block (i := 1) mo
          have fo1 := free_block (i := 1) mo
          have lp := lt_of_get mp
          have qp0 := cell_block (i := 0) mp
          have fp0 := free_block (i := 0) mp
          have qp1 := cell_block (i := 1) mp
          have fp1 := free_block (i := 1) mp
          simp at qa0 qa1 qx0 qx1 qc0 qc1 qc2 qc3 qo0 qo1 qp0 qp1
          have Ma := Lib.hid ma
          clear ma
          have Mx := Lib.hid mx
          clear mx
          have Mc := Lib.hid mc
          clear mc
          have Mo := Lib.hid mo
          clear mo
          have Mp := Lib.hid mp
          clear mp
          go_wp2_with fail
          refine (rP.out _ (HLI.out.below (by (repeat' (first | (with_reducible exact Below.refl _ _) | (with_reducible assumption) | (with_reducible exact Aft.pf _) | (with_reducible refine Below.alloc ?_ ?_ _) | (with_reducible refine Below.drew ?_) | (with_reducible refine Aft.below _ ?_ ?_) | (with_reducible refine Below.setCell_new ?_ ?_ _ _) | (with_reducible exact Nat.le_refl _) | (with_reducible refine Aft.le _ ?_) | (with_reducible refine le_alloc ?_) | (with_reducible refine le_drew ?_) | (with_reducible refine le_setCell ?_) | omega))))).mono ?_
          rintro e w' ⟨rfl, x10, rfl⟩
          have ma : x10.val.heap[w.heap.size]? = some (.cells #[.int .i64 aw, .int .i64 av] 23) := by (have mh := Ma.out; (repeat' (first | (with_reducible assumption) | omega | (simp only [World.size_alloc, World.size_drew, World.size_setCell]; omega) | (refine heap_alloc_at ?_; (first | rfl | (simp; done))) | (with_reducible refine heap_aft _ ?_ ?_) | (with_reducible refine heap_alloc' ?_ ?_) | (with_reducible refine heap_drew ?_))))
          have mx : x10.val.heap[w.heap.size + 1]? = some (.cells #[.int .i64 x0, .int .i64 x1] 47) := by (have mh := Mx.out; (repeat' (first | (with_reducible assumption) | omega | (simp only [World.size_alloc, World.size_drew, World.size_setCell]; omega) | (refine heap_alloc_at ?_; (first | rfl | (simp; done))) | (with_reducible refine heap_aft _ ?_ ?_) | (with_reducible refine heap_alloc' ?_ ?_) | (with_reducible refine heap_drew ?_))))
          have mc : x10.val.heap[gc]? = some (.cells #[.int .i64 c0, .int .i64 c1, .int .i64 c2, .int .i64 c3] 60) := by (have mh := Mc.out; (repeat' (first | (with_reducible assumption) | omega | (simp only [World.size_alloc, World.size_drew, World.size_setCell]; omega) | (refine heap_alloc_at ?_; (first | rfl | (simp; done))) | (with_reducible refine heap_aft _ ?_ ?_) | (with_reducible refine heap_alloc' ?_ ?_) | (with_reducible refine heap_drew ?_))))
          have mo : x10.val.heap[go]? = some (.cells #[.int .i64 OW, .int .i64 OV] 23) := by (have mh := Mo.out; (repeat' (first | (with_reducible assumption) | omega | (simp only [World.size_alloc, World.size_drew, World.size_setCell]; omega) | (refine heap_alloc_at ?_; (first | rfl | (simp; done))) | (with_reducible refine heap_aft _ ?_ ?_) | (with_reducible refine heap_alloc' ?_ ?_) | (with_reducible refine heap_drew ?_))))
          have mp : x10.val.heap[gp]? = some (.cells #[.int .i64 PW, .int .i64 PV] 23) := by (have mh := Mp.out; (repeat' (first | (with_reducible assumption) | omega | (simp only [World.size_alloc, World.size_drew, World.size_setCell]; omega) | (refine heap_alloc_at ?_; (first | rfl | (simp; done))) | (with_reducible refine heap_aft _ ?_ ?_) | (with_reducible refine heap_alloc' ?_ ?_) | (with_reducible refine heap_drew ?_))))
          have hbl2 : Below w.heap.size w x10.val := by (repeat' (first | (with_reducible exact Below.refl _ _) | (with_reducible assumption) | (with_reducible exact Aft.pf _) | (with_reducible refine Below.alloc ?_ ?_ _) | (with_reducible refine Below.drew ?_) | (with_reducible refine Aft.below _ ?_ ?_) | (with_reducible refine Below.setCell_new ?_ ?_ _ _) | (with_reducible exact Nat.le_refl _) | (with_reducible refine Aft.le _ ?_) | (with_reducible refine le_alloc ?_) | (with_reducible refine le_drew ?_) | (with_reducible refine le_setCell ?_) | omega))
          clear Ma Mx Mc Mo Mp la lx lc lo lp qa0 fa0 qa1 fa1 qx0 fx0 qx1 fx1 qc0 fc0 qc1 fc1 qc2 fc2 qc3 fc3 qo0 fo0 qo1 fo1 qp0 fp0 qp1 fp1
          clear hbl
          have hbl := hbl2
          clear hbl2
          generalize x10.val = V10 at *
          have la := lt_of_get ma
          have qa0 := cell_block (i := 0) ma
          have fa0 := free_block (i := 0) ma
          have qa1 := cell_block (i := 1) ma
          have fa1 := free_block (i := 1) ma
          have lx := lt_of_get mx
          have qx0 := cell_block (i := 0) mx
          have fx0 := free_block (i := 0) mx
          have qx1 := cell_block (i := 1) mx
          have fx1 := free_block (i := 1) mx
          have lc := lt_of_get mc
          have qc0 := cell_block (i := 0) mc
          have fc0 := free_block (i := 0) mc
          have qc1 := cell_block (i := 1) mc
          have fc1 := free_block (i := 1) mc
          have qc2 := cell_block (i := 2) mc
          have fc2 := free_block (i := 2) mc
          have qc3 := cell_block (i := 3) mc
          have fc3 := free_block (i := 3) mc
          have lo := lt_of_get mo
          have qo0 := cell_block (i := 0) mo
          have fo0 := free_block (i := 0) mo
          have qo1 := cell_block (i := 1) mo
          have fo1 := free_block (i := 1) mo
          have lp := lt_of_get mp
          have qp0 := cell_block (i := 0) mp
          have fp0 := free_block (i := 0) mp
          have qp1 := cell_block (i := 1) mp
          have fp1 := free_block (i := 1) mp
          simp at qa0 qa1 qx0 qx1 qc0 qc1 qc2 qc3 qo0 qo1 qp0 qp1
          have Ma := Lib.hid ma
          clear ma
          have Mx := Lib.hid mx
          clear mx
          have Mc := Lib.hid mc
          clear mc
          have Mo := Lib.hid mo
          clear mo
          have Mp := Lib.hid mp
          clear mp
          by_cases he : pe = 0
          case neg =>
            have hz1 : (pe == 0) = false := by simpa using he
            have hz2 : (pe != 0) = true := by simpa using he
            obtain ⟨rfl, rfl⟩ := zP.out he
            clear he
            go_wp2
            go_ret
            exact ⟨rfl, Below.aft (by (repeat' (first | (with_reducible exact Below.refl _ _) | (with_reducible assumption) | (with_reducible exact Aft.pf _) | (with_reducible refine Below.alloc ?_ ?_ _) | (with_reducible refine Below.drew ?_) | (with_reducible refine Aft.below _ ?_ ?_) | (with_reducible refine Below.setCell_new ?_ ?_ _ _) | (with_reducible exact Nat.le_refl _) | (with_reducible refine Aft.le _ ?_) | (with_reducible refine le_alloc ?_) | (with_reducible refine le_drew ?_) | (with_reducible refine le_setCell ?_) | omega)))⟩
          case pos =>
            have hv := vP.out he
            obtain rfl : pe = 0 := he
            have hlz := Lib.hid (fun (y : Aft V10) => hv y.val (HLI.out.below (y.below hbl hbl.size)))
            clear hv
            go_wp2_with fail
            refine wp_region_aft (by kernel_rfl) (by kernel_rfl) ?_
            repeat (go_big_quiet_step ((go_at_call 48; exact Calls.qa (hlz.out _))))
            refine wpQuiet_nil ?_
            intro x
            go_wp2
            go_ret
            exact ⟨rfl, Below.aft (by (repeat' (first | (with_reducible exact Below.refl _ _) | (with_reducible assumption) | (with_reducible exact Aft.pf _) | (with_reducible refine Below.alloc ?_ ?_ _) | (with_reducible refine Below.drew ?_) | (with_reducible refine Aft.below _ ?_ ?_) | (with_reducible refine Below.setCell_new ?_ ?_ _ _) | (with_reducible exact Nat.le_refl _) | (with_reducible refine Aft.le _ ?_) | (with_reducible refine le_alloc ?_) | (with_reducible refine le_drew ?_) | (with_reducible refine le_setCell ?_) | omega)))⟩

end Go.Proofs.Ytlplphigjejahaa
