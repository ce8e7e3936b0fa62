/-
  Contracts of chapter 2 (graph): the arguments of a node as values with widths.
-/
import Derived.Test.YtkdonapgonegkaaDoorQD
import Derived.Test.YtkdonapgonegkaaDoorQC
import Derived.Laws.OwnMore
set_option linter.unusedSimpArgs false
set_option linter.unusedVariables false
namespace Go.Proofs.YtkdonapgonegkaaDoor
open Go.RowKit Go.BigFrame

set_option maxRecDepth 100000 in
set_option maxHeartbeats 1600000 in
theorem valuesOf1_c (k : Nat) (x : Int) (P Q g vl vc : Nat) (A : Option Addr) (cap : Nat) (ns : List Nd) (n : Nd) (hn : ns[k]? = some n) (hl : ns.length ≤ 65536) (hk : k < vl) (hvl : vl ≤ 65536) (w : World) (lP : P < w.heap.size) (lQ : Q < w.heap.size) (lg : g < w.heap.size)
    (c0 : w.cell? ⟨P, 0, none⟩ = some (.slice A ns.length cap)) (c1 : w.cell? ⟨Q, 0, none⟩ = some (.slice (some ⟨g, 0, none⟩) vl vc)) (c2 : w.cell? ⟨g, k, none⟩ = some (.int .i64 x)) (h : LiesN w A ns) :
    Calls Tryd.prog 88 #[.int .i64 k, .pointer (some ⟨P, 0, none⟩), .pointer (some ⟨Q, 0, none⟩)] w fun e w' => e = .returned (.agg #[.int .i64 n.wd, .int .i64 x]) ∧ ∃ y : Aft w, w' = y.val := by
  obtain ⟨ad, rfl, hb, h0, h1, _⟩ := h.cells hn
  have hk := (List.getElem?_eq_some_iff.1 hn).1
  have hkk : (k : Int) < ns.length := by omega
  have h1' : w.cell? ⟨(ad.add (k * 4)).block, (ad.add (k * 4)).off + 1, none⟩ = some (.int .i64 n.wd) := h1
  have hbk : (ad.add (k * 4)).block < w.heap.size := by rw [addB]; exact hb
  clear hn h h0 h1
  go_enter Tryd.func88, Tryd.ntmps88
  go_wp2_with fail
  have hb0 : Below w.heap.size w (w.alloc (.cells #[.int .i64 0, .int .i64 0] 123)) := (Below.refl _ _).alloc (Nat.le_refl _) _
  have d0 := (hb0.cell (p := ⟨P, 0, none⟩) lP).trans c0
  have d1 := (hb0.cell (p := ⟨Q, 0, none⟩) lQ).trans c1
  have d2 := (hb0.cell (p := ⟨g, k, none⟩) lg).trans c2
  have d3 := (hb0.cell (p := ⟨(ad.add (k * 4)).block, (ad.add (k * 4)).off + 1, none⟩) hbk).trans h1'
  have rr : (w.alloc (.cells #[.int .i64 0, .int .i64 0] 123)).heap[w.heap.size]? = some (.cells #[.int .i64 0, .int .i64 0] 123) := heap_alloc_new _ _
  have lr := lt_of_get rr
  clear c0 c1 c2 h1'
  have lP' : P < (w.alloc (.cells #[.int .i64 0, .int .i64 0] 123)).heap.size := by simp; omega
  have lQ' : Q < (w.alloc (.cells #[.int .i64 0, .int .i64 0] 123)).heap.size := by simp; omega
  have lg' : g < (w.alloc (.cells #[.int .i64 0, .int .i64 0] 123)).heap.size := by simp; omega
  have lb' : (ad.add (k * 4)).block < (w.alloc (.cells #[.int .i64 0, .int .i64 0] 123)).heap.size := by simp; omega
  generalize w.alloc (.cells #[.int .i64 0, .int .i64 0] 123) = W1 at *
  have hx : ∀ z : Aft W1, z.val.cell? ⟨(ad.add (k * 4)).block, (ad.add (k * 4)).off + 1, none⟩ = some (.int .i64 n.wd) := fun z => (z.cell _ _ lb').trans d3
  refine wp_region_aft_tail 10 (by kernel_rfl) (by kernel_rfl) ?_
  simp only [List.take_succ_cons, List.take_zero, List.drop_succ_cons, List.drop_zero]
  repeat (go_big_quiet_step (fail))
  refine wpQuiet_nil ?_
  intro y
  have r2 := heap_aft y lr rr
  have q0 := cell_block (i := 0) r2
  have q1 := cell_block (i := 1) r2
  have f0 := free_block (i := 0) r2
  have f1 := free_block (i := 1) r2
  simp at q0 q1
  have hby := y.below hb0 hb0.size
  clear rr r2 hx d0 d1 d2 d3
  generalize y.val = W2 at *
  go_wp2
  refine bodyPost_ret (by simp [results, Tryd.results88, go_sem, q0, q1]; try rfl) rfl ?_
  exact ⟨rfl, Below.aft (by (repeat' (first | (with_reducible exact Below.refl _ _) | (with_reducible assumption) | (with_reducible refine Below.alloc ?_ ?_ _) | (with_reducible refine Below.drew ?_) | (with_reducible refine Aft.below _ ?_ ?_) | (with_reducible refine Below.setCell_new ?_ ?_ _ _) | (with_reducible exact Nat.le_refl _) | (with_reducible refine Aft.le _ ?_) | (with_reducible refine le_alloc ?_) | (with_reducible refine le_drew ?_) | (with_reducible refine le_setCell ?_) | omega)))⟩

set_option maxRecDepth 100000 in
set_option maxHeartbeats 1600000 in
theorem bargs0 (op wd v : Int) (B : Option Addr) (bc : Nat) (P Q gv vl vc : Nat) (A : Option Addr) (cap : Nat) (ns : List Nd) (hl : ns.length ≤ 65536) (hvl : vl ≤ 65536) (w : World) (lP : P < w.heap.size) (lQ : Q < w.heap.size) (lg : gv < w.heap.size) 
    (c0 : w.cell? ⟨P, 0, none⟩ = some (.slice A ns.length cap)) (c1 : w.cell? ⟨Q, 0, none⟩ = some (.slice (some ⟨gv, 0, none⟩) vl vc)) (h : LiesN w A ns) (hB : LiesI w B []) :
    Calls Tryd.prog 87 #[.agg #[.int .i64 op, .int .i64 wd, .slice B 0 bc, .int .i64 v], .func (.func 88) #[] #[.pointer (some ⟨P, 0, none⟩), .pointer (some ⟨Q, 0, none⟩)]] w fun e w' => e = .returned (.agg #[.int .i64 0, .int .i64 0, .int .i64 0, .int .i64 0, .int .i64 0, .int .i64 0]) ∧ ∃ x : Aft w, w' = x.val := by
  clear h hB c0 c1 
  go_enter Tryd.func87, Tryd.ntmps87
  go_wp2_with fail
  have rL : (((w.alloc (.cells #[.int .i64 op, .int .i64 wd, .slice B 0 bc, .int .i64 v] 65)).alloc (.cells #[.int .i64 0, .int .i64 0, .int .i64 0, .int .i64 0, .int .i64 0, .int .i64 0] 124)).alloc (.cells #[.int .i64 0, .int .i64 0, .int .i64 0, .int .i64 0, .int .i64 0, .int .i64 0] 124)).heap[w.heap.size + 2]? = some (.cells #[.int .i64 0, .int .i64 0, .int .i64 0, .int .i64 0, .int .i64 0, .int .i64 0] 124) := by
    exact heap_alloc_at (by simp)
  have rR : (((w.alloc (.cells #[.int .i64 op, .int .i64 wd, .slice B 0 bc, .int .i64 v] 65)).alloc (.cells #[.int .i64 0, .int .i64 0, .int .i64 0, .int .i64 0, .int .i64 0, .int .i64 0] 124)).alloc (.cells #[.int .i64 0, .int .i64 0, .int .i64 0, .int .i64 0, .int .i64 0, .int .i64 0] 124)).heap[w.heap.size + 1]? = some (.cells #[.int .i64 0, .int .i64 0, .int .i64 0, .int .i64 0, .int .i64 0, .int .i64 0] 124) := by
    exact heap_alloc' (by simp) (heap_alloc_at (by simp))
  have rN : (((w.alloc (.cells #[.int .i64 op, .int .i64 wd, .slice B 0 bc, .int .i64 v] 65)).alloc (.cells #[.int .i64 0, .int .i64 0, .int .i64 0, .int .i64 0, .int .i64 0, .int .i64 0] 124)).alloc (.cells #[.int .i64 0, .int .i64 0, .int .i64 0, .int .i64 0, .int .i64 0, .int .i64 0] 124)).heap[w.heap.size]? = some (.cells #[.int .i64 op, .int .i64 wd, .slice B 0 bc, .int .i64 v] 65) := heap_alloc' (by simp; omega) (heap_alloc' (by simp) (heap_alloc_new _ _))
  have hb0 : Below w.heap.size w (((w.alloc (.cells #[.int .i64 op, .int .i64 wd, .slice B 0 bc, .int .i64 v] 65)).alloc (.cells #[.int .i64 0, .int .i64 0, .int .i64 0, .int .i64 0, .int .i64 0, .int .i64 0] 124)).alloc (.cells #[.int .i64 0, .int .i64 0, .int .i64 0, .int .i64 0, .int .i64 0, .int .i64 0] 124)) := (((Below.refl _ _).alloc (Nat.le_refl _) _).alloc (by simp) _).alloc (by simp; omega) _
  have qN := cell_block (i := 2) rN
  simp at qN
  clear rN
  generalize (((w.alloc (.cells #[.int .i64 op, .int .i64 wd, .slice B 0 bc, .int .i64 v] 65)).alloc (.cells #[.int .i64 0, .int .i64 0, .int .i64 0, .int .i64 0, .int .i64 0, .int .i64 0] 124)).alloc (.cells #[.int .i64 0, .int .i64 0, .int .i64 0, .int .i64 0, .int .i64 0, .int .i64 0] 124)) = W0 at *
  refine wp_loop_rounds 1 ?_
  rw [rounds_succ]
  have u0 := cell_block (i := 0) rL
  have p0 := cell_block (i := 0) rR
  have f0 := free_block (i := 0) rR
  have u1 := cell_block (i := 1) rL
  have p1 := cell_block (i := 1) rR
  have f1 := free_block (i := 1) rR
  have u2 := cell_block (i := 2) rL
  have p2 := cell_block (i := 2) rR
  have f2 := free_block (i := 2) rR
  have u3 := cell_block (i := 3) rL
  have p3 := cell_block (i := 3) rR
  have f3 := free_block (i := 3) rR
  have u4 := cell_block (i := 4) rL
  have p4 := cell_block (i := 4) rR
  have f4 := free_block (i := 4) rR
  have u5 := cell_block (i := 5) rL
  have p5 := cell_block (i := 5) rR
  have f5 := free_block (i := 5) rR
  simp at u0 u1 u2 u3 u4 u5 p0 p1 p2 p3 p4 p5
  go_wp2
  refine bodyPost_ret (by simp [results, Tryd.results87, go_sem, p0, p1, p2, p3, p4, p5]; try rfl) rfl ?_
  exact ⟨rfl, Below.aft (by (repeat' (first | (with_reducible exact Below.refl _ _) | (with_reducible assumption) | (with_reducible refine Below.alloc ?_ ?_ _) | (with_reducible refine Below.drew ?_) | (with_reducible refine Aft.below _ ?_ ?_) | (with_reducible refine Below.setCell_new ?_ ?_ _ _) | (with_reducible exact Nat.le_refl _) | (with_reducible refine Aft.le _ ?_) | (with_reducible refine le_alloc ?_) | (with_reducible refine le_drew ?_) | (with_reducible refine le_setCell ?_) | omega)))⟩

set_option maxRecDepth 100000 in
set_option maxHeartbeats 1600000 in
theorem bargs1 (op wd v : Int) (B : Option Addr) (bc : Nat) (P Q gv vl vc : Nat) (A : Option Addr) (cap : Nat) (ns : List Nd) (hl : ns.length ≤ 65536) (hvl : vl ≤ 65536) (w : World) (lP : P < w.heap.size) (lQ : Q < w.heap.size) (lg : gv < w.heap.size) (k0 : Nat) (n0 : Nd) (x0 : Int) (g0 : ns[k0]? = some n0) (lk0 : k0 < vl) (e0 : w.cell? ⟨gv, k0, none⟩ = some (.int .i64 x0))
    (c0 : w.cell? ⟨P, 0, none⟩ = some (.slice A ns.length cap)) (c1 : w.cell? ⟨Q, 0, none⟩ = some (.slice (some ⟨gv, 0, none⟩) vl vc)) (h : LiesN w A ns) (hB : LiesI w B [(k0 : Int)]) :
    Calls Tryd.prog 87 #[.agg #[.int .i64 op, .int .i64 wd, .slice B 1 bc, .int .i64 v], .func (.func 88) #[] #[.pointer (some ⟨P, 0, none⟩), .pointer (some ⟨Q, 0, none⟩)]] w fun e w' => e = .returned (.agg #[.int .i64 n0.wd, .int .i64 x0, .int .i64 0, .int .i64 0, .int .i64 0, .int .i64 0]) ∧ ∃ x : Aft w, w' = x.val := by
  have HC0 := Lib.hid (fun (W : World) (hb : Below w.heap.size w W) => valuesOf1_c k0 x0 P Q gv vl vc A cap ns n0 g0 hl lk0 hvl W (Nat.lt_of_lt_of_le lP hb.size) (Nat.lt_of_lt_of_le lQ hb.size) (Nat.lt_of_lt_of_le lg hb.size) ((hb.cell (p := ⟨P, 0, none⟩) lP).trans c0) ((hb.cell (p := ⟨Q, 0, none⟩) lQ).trans c1) ((hb.cell (p := ⟨gv, k0, none⟩) lg).trans e0) (h.below hb))
  obtain ⟨ad, rfl, hbk, hcell⟩ := hB (by simp)
  have hx0 := hcell 0 k0 (by rfl)
  have HX := Lib.hid (fun (W : World) (hb : Below w.heap.size w W) (i : Nat) => (hb.cell (p := ad.add i) (by rw [addB]; exact hbk)))
  clear h hB c0 c1 hcell e0
  go_enter Tryd.func87, Tryd.ntmps87
  go_wp2_with fail
  have rL : (((w.alloc (.cells #[.int .i64 op, .int .i64 wd, .slice (some ad) 1 bc, .int .i64 v] 65)).alloc (.cells #[.int .i64 0, .int .i64 0, .int .i64 0, .int .i64 0, .int .i64 0, .int .i64 0] 124)).alloc (.cells #[.int .i64 0, .int .i64 0, .int .i64 0, .int .i64 0, .int .i64 0, .int .i64 0] 124)).heap[w.heap.size + 2]? = some (.cells #[.int .i64 0, .int .i64 0, .int .i64 0, .int .i64 0, .int .i64 0, .int .i64 0] 124) := by
    exact heap_alloc_at (by simp)
  have rR : (((w.alloc (.cells #[.int .i64 op, .int .i64 wd, .slice (some ad) 1 bc, .int .i64 v] 65)).alloc (.cells #[.int .i64 0, .int .i64 0, .int .i64 0, .int .i64 0, .int .i64 0, .int .i64 0] 124)).alloc (.cells #[.int .i64 0, .int .i64 0, .int .i64 0, .int .i64 0, .int .i64 0, .int .i64 0] 124)).heap[w.heap.size + 1]? = some (.cells #[.int .i64 0, .int .i64 0, .int .i64 0, .int .i64 0, .int .i64 0, .int .i64 0] 124) := by
    exact heap_alloc' (by simp) (heap_alloc_at (by simp))
  have rN : (((w.alloc (.cells #[.int .i64 op, .int .i64 wd, .slice (some ad) 1 bc, .int .i64 v] 65)).alloc (.cells #[.int .i64 0, .int .i64 0, .int .i64 0, .int .i64 0, .int .i64 0, .int .i64 0] 124)).alloc (.cells #[.int .i64 0, .int .i64 0, .int .i64 0, .int .i64 0, .int .i64 0, .int .i64 0] 124)).heap[w.heap.size]? = some (.cells #[.int .i64 op, .int .i64 wd, .slice (some ad) 1 bc, .int .i64 v] 65) := heap_alloc' (by simp; omega) (heap_alloc' (by simp) (heap_alloc_new _ _))
  have hb0 : Below w.heap.size w (((w.alloc (.cells #[.int .i64 op, .int .i64 wd, .slice (some ad) 1 bc, .int .i64 v] 65)).alloc (.cells #[.int .i64 0, .int .i64 0, .int .i64 0, .int .i64 0, .int .i64 0, .int .i64 0] 124)).alloc (.cells #[.int .i64 0, .int .i64 0, .int .i64 0, .int .i64 0, .int .i64 0, .int .i64 0] 124)) := (((Below.refl _ _).alloc (Nat.le_refl _) _).alloc (by simp) _).alloc (by simp; omega) _
  have qN := cell_block (i := 2) rN
  simp at qN
  clear rN
  generalize (((w.alloc (.cells #[.int .i64 op, .int .i64 wd, .slice (some ad) 1 bc, .int .i64 v] 65)).alloc (.cells #[.int .i64 0, .int .i64 0, .int .i64 0, .int .i64 0, .int .i64 0, .int .i64 0] 124)).alloc (.cells #[.int .i64 0, .int .i64 0, .int .i64 0, .int .i64 0, .int .i64 0, .int .i64 0] 124)) = W0 at *
  have cc0 : W0.cell? ad = some (.int .i64 k0) := (HX.out _ hb0 0).trans hx0
  refine wp_loop_rounds 2 ?_
  rw [rounds_succ]
  go_wp2_with fail
  refine (HC0.out _ hb0).mono ?_
  rintro e w' ⟨rfl, y0, rfl⟩
  have rLy := heap_aft y0 (lt_of_get rL) rL
  have rRy := heap_aft y0 (lt_of_get rR) rR
  have hby := y0.below hb0 hb0.size
  have qL0 := cell_block (i := 0) rLy
  have qL1 := cell_block (i := 1) rLy
  have fL0 := free_block (i := 0) rLy
  have fL1 := free_block (i := 1) rLy
  simp at qL0 qL1
  have rL1 : ((y0.val.setCell ⟨w.heap.size + 2, 0, none⟩ (.int .i64 n0.wd)).setCell ⟨w.heap.size + 2, 1, none⟩ (.int .i64 x0)).heap[w.heap.size + 2]? = some (.cells #[.int .i64 n0.wd, .int .i64 x0, .int .i64 0, .int .i64 0, .int .i64 0, .int .i64 0] 124) := heap_set (heap_set rLy)
  have rR1 : ((y0.val.setCell ⟨w.heap.size + 2, 0, none⟩ (.int .i64 n0.wd)).setCell ⟨w.heap.size + 2, 1, none⟩ (.int .i64 x0)).heap[w.heap.size + 1]? = some (.cells #[.int .i64 0, .int .i64 0, .int .i64 0, .int .i64 0, .int .i64 0, .int .i64 0] 124) := heap_set_ne (heap_set_ne rRy (by omega)) (by omega)
  have hb1 : Below w.heap.size w ((y0.val.setCell ⟨w.heap.size + 2, 0, none⟩ (.int .i64 n0.wd)).setCell ⟨w.heap.size + 2, 1, none⟩ (.int .i64 x0)) := (hby.setCell (by first | omega | (simp; done) | (simp; omega)) _).setCell (by first | omega | (simp; done) | (simp; omega)) _
  clear cc0
  go_wp2_with fail
  clear rL rR rLy rRy qL0 qL1 fL0 fL1 hby
  have rL := rL1
  have rR := rR1
  clear rL1 rR1
  generalize ((y0.val.setCell ⟨w.heap.size + 2, 0, none⟩ (.int .i64 n0.wd)).setCell ⟨w.heap.size + 2, 1, none⟩ (.int .i64 x0)) = W1 at *
  rw [rounds_succ]
  have u0 := cell_block (i := 0) rL
  have p0 := cell_block (i := 0) rR
  have f0 := free_block (i := 0) rR
  have u1 := cell_block (i := 1) rL
  have p1 := cell_block (i := 1) rR
  have f1 := free_block (i := 1) rR
  have u2 := cell_block (i := 2) rL
  have p2 := cell_block (i := 2) rR
  have f2 := free_block (i := 2) rR
  have u3 := cell_block (i := 3) rL
  have p3 := cell_block (i := 3) rR
  have f3 := free_block (i := 3) rR
  have u4 := cell_block (i := 4) rL
  have p4 := cell_block (i := 4) rR
  have f4 := free_block (i := 4) rR
  have u5 := cell_block (i := 5) rL
  have p5 := cell_block (i := 5) rR
  have f5 := free_block (i := 5) rR
  simp at u0 u1 u2 u3 u4 u5 p0 p1 p2 p3 p4 p5
  go_wp2
  refine bodyPost_ret (by simp [results, Tryd.results87, go_sem, p0, p1, p2, p3, p4, p5]; try rfl) rfl ?_
  exact ⟨rfl, Below.aft (by (repeat' (first | (with_reducible exact Below.refl _ _) | (with_reducible assumption) | (with_reducible refine Below.alloc ?_ ?_ _) | (with_reducible refine Below.drew ?_) | (with_reducible refine Aft.below _ ?_ ?_) | (with_reducible refine Below.setCell_new ?_ ?_ _ _) | (with_reducible exact Nat.le_refl _) | (with_reducible refine Aft.le _ ?_) | (with_reducible refine le_alloc ?_) | (with_reducible refine le_drew ?_) | (with_reducible refine le_setCell ?_) | omega)))⟩

set_option maxRecDepth 100000 in
set_option maxHeartbeats 1600000 in
theorem bargs2 (op wd v : Int) (B : Option Addr) (bc : Nat) (P Q gv vl vc : Nat) (A : Option Addr) (cap : Nat) (ns : List Nd) (hl : ns.length ≤ 65536) (hvl : vl ≤ 65536) (w : World) (lP : P < w.heap.size) (lQ : Q < w.heap.size) (lg : gv < w.heap.size) (k0 : Nat) (n0 : Nd) (x0 : Int) (g0 : ns[k0]? = some n0) (lk0 : k0 < vl) (e0 : w.cell? ⟨gv, k0, none⟩ = some (.int .i64 x0)) (k1 : Nat) (n1 : Nd) (x1 : Int) (g1 : ns[k1]? = some n1) (lk1 : k1 < vl) (e1 : w.cell? ⟨gv, k1, none⟩ = some (.int .i64 x1))
    (c0 : w.cell? ⟨P, 0, none⟩ = some (.slice A ns.length cap)) (c1 : w.cell? ⟨Q, 0, none⟩ = some (.slice (some ⟨gv, 0, none⟩) vl vc)) (h : LiesN w A ns) (hB : LiesI w B [(k0 : Int), (k1 : Int)]) :
    Calls Tryd.prog 87 #[.agg #[.int .i64 op, .int .i64 wd, .slice B 2 bc, .int .i64 v], .func (.func 88) #[] #[.pointer (some ⟨P, 0, none⟩), .pointer (some ⟨Q, 0, none⟩)]] w fun e w' => e = .returned (.agg #[.int .i64 n0.wd, .int .i64 x0, .int .i64 n1.wd, .int .i64 x1, .int .i64 0, .int .i64 0]) ∧ ∃ x : Aft w, w' = x.val := by
  have HC0 := Lib.hid (fun (W : World) (hb : Below w.heap.size w W) => valuesOf1_c k0 x0 P Q gv vl vc A cap ns n0 g0 hl lk0 hvl W (Nat.lt_of_lt_of_le lP hb.size) (Nat.lt_of_lt_of_le lQ hb.size) (Nat.lt_of_lt_of_le lg hb.size) ((hb.cell (p := ⟨P, 0, none⟩) lP).trans c0) ((hb.cell (p := ⟨Q, 0, none⟩) lQ).trans c1) ((hb.cell (p := ⟨gv, k0, none⟩) lg).trans e0) (h.below hb))
  have HC1 := Lib.hid (fun (W : World) (hb : Below w.heap.size w W) => valuesOf1_c k1 x1 P Q gv vl vc A cap ns n1 g1 hl lk1 hvl W (Nat.lt_of_lt_of_le lP hb.size) (Nat.lt_of_lt_of_le lQ hb.size) (Nat.lt_of_lt_of_le lg hb.size) ((hb.cell (p := ⟨P, 0, none⟩) lP).trans c0) ((hb.cell (p := ⟨Q, 0, none⟩) lQ).trans c1) ((hb.cell (p := ⟨gv, k1, none⟩) lg).trans e1) (h.below hb))
  obtain ⟨ad, rfl, hbk, hcell⟩ := hB (by simp)
  have hx0 := hcell 0 k0 (by rfl)
  have hx1 := hcell 1 k1 (by rfl)
  have HX := Lib.hid (fun (W : World) (hb : Below w.heap.size w W) (i : Nat) => (hb.cell (p := ad.add i) (by rw [addB]; exact hbk)))
  clear h hB c0 c1 hcell e0 e1
  go_enter Tryd.func87, Tryd.ntmps87
  go_wp2_with fail
  have rL : (((w.alloc (.cells #[.int .i64 op, .int .i64 wd, .slice (some ad) 2 bc, .int .i64 v] 65)).alloc (.cells #[.int .i64 0, .int .i64 0, .int .i64 0, .int .i64 0, .int .i64 0, .int .i64 0] 124)).alloc (.cells #[.int .i64 0, .int .i64 0, .int .i64 0, .int .i64 0, .int .i64 0, .int .i64 0] 124)).heap[w.heap.size + 2]? = some (.cells #[.int .i64 0, .int .i64 0, .int .i64 0, .int .i64 0, .int .i64 0, .int .i64 0] 124) := by
    exact heap_alloc_at (by simp)
  have rR : (((w.alloc (.cells #[.int .i64 op, .int .i64 wd, .slice (some ad) 2 bc, .int .i64 v] 65)).alloc (.cells #[.int .i64 0, .int .i64 0, .int .i64 0, .int .i64 0, .int .i64 0, .int .i64 0] 124)).alloc (.cells #[.int .i64 0, .int .i64 0, .int .i64 0, .int .i64 0, .int .i64 0, .int .i64 0] 124)).heap[w.heap.size + 1]? = some (.cells #[.int .i64 0, .int .i64 0, .int .i64 0, .int .i64 0, .int .i64 0, .int .i64 0] 124) := by
    exact heap_alloc' (by simp) (heap_alloc_at (by simp))
  have rN : (((w.alloc (.cells #[.int .i64 op, .int .i64 wd, .slice (some ad) 2 bc, .int .i64 v] 65)).alloc (.cells #[.int .i64 0, .int .i64 0, .int .i64 0, .int .i64 0, .int .i64 0, .int .i64 0] 124)).alloc (.cells #[.int .i64 0, .int .i64 0, .int .i64 0, .int .i64 0, .int .i64 0, .int .i64 0] 124)).heap[w.heap.size]? = some (.cells #[.int .i64 op, .int .i64 wd, .slice (some ad) 2 bc, .int .i64 v] 65) := heap_alloc' (by simp; omega) (heap_alloc' (by simp) (heap_alloc_new _ _))
  have hb0 : Below w.heap.size w (((w.alloc (.cells #[.int .i64 op, .int .i64 wd, .slice (some ad) 2 bc, .int .i64 v] 65)).alloc (.cells #[.int .i64 0, .int .i64 0, .int .i64 0, .int .i64 0, .int .i64 0, .int .i64 0] 124)).alloc (.cells #[.int .i64 0, .int .i64 0, .int .i64 0, .int .i64 0, .int .i64 0, .int .i64 0] 124)) := (((Below.refl _ _).alloc (Nat.le_refl _) _).alloc (by simp) _).alloc (by simp; omega) _
  have qN := cell_block (i := 2) rN
  simp at qN
  clear rN
  generalize (((w.alloc (.cells #[.int .i64 op, .int .i64 wd, .slice (some ad) 2 bc, .int .i64 v] 65)).alloc (.cells #[.int .i64 0, .int .i64 0, .int .i64 0, .int .i64 0, .int .i64 0, .int .i64 0] 124)).alloc (.cells #[.int .i64 0, .int .i64 0, .int .i64 0, .int .i64 0, .int .i64 0, .int .i64 0] 124)) = W0 at *
  have cc0 : W0.cell? ad = some (.int .i64 k0) := (HX.out _ hb0 0).trans hx0
  refine wp_loop_rounds 3 ?_
  rw [rounds_succ]
  go_wp2_with fail
  refine (HC0.out _ hb0).mono ?_
  rintro e w' ⟨rfl, y0, rfl⟩
  have rLy := heap_aft y0 (lt_of_get rL) rL
  have rRy := heap_aft y0 (lt_of_get rR) rR
  have hby := y0.below hb0 hb0.size
  have qL0 := cell_block (i := 0) rLy
  have qL1 := cell_block (i := 1) rLy
  have fL0 := free_block (i := 0) rLy
  have fL1 := free_block (i := 1) rLy
  simp at qL0 qL1
  have rL1 : ((y0.val.setCell ⟨w.heap.size + 2, 0, none⟩ (.int .i64 n0.wd)).setCell ⟨w.heap.size + 2, 1, none⟩ (.int .i64 x0)).heap[w.heap.size + 2]? = some (.cells #[.int .i64 n0.wd, .int .i64 x0, .int .i64 0, .int .i64 0, .int .i64 0, .int .i64 0] 124) := heap_set (heap_set rLy)
  have rR1 : ((y0.val.setCell ⟨w.heap.size + 2, 0, none⟩ (.int .i64 n0.wd)).setCell ⟨w.heap.size + 2, 1, none⟩ (.int .i64 x0)).heap[w.heap.size + 1]? = some (.cells #[.int .i64 0, .int .i64 0, .int .i64 0, .int .i64 0, .int .i64 0, .int .i64 0] 124) := heap_set_ne (heap_set_ne rRy (by omega)) (by omega)
  have hb1 : Below w.heap.size w ((y0.val.setCell ⟨w.heap.size + 2, 0, none⟩ (.int .i64 n0.wd)).setCell ⟨w.heap.size + 2, 1, none⟩ (.int .i64 x0)) := (hby.setCell (by first | omega | (simp; done) | (simp; omega)) _).setCell (by first | omega | (simp; done) | (simp; omega)) _
  clear cc0
  go_wp2_with fail
  clear rL rR rLy rRy qL0 qL1 fL0 fL1 hby
  have rL := rL1
  have rR := rR1
  clear rL1 rR1
  generalize ((y0.val.setCell ⟨w.heap.size + 2, 0, none⟩ (.int .i64 n0.wd)).setCell ⟨w.heap.size + 2, 1, none⟩ (.int .i64 x0)) = W1 at *
  have cc1 : W1.cell? ⟨ad.block, ad.off + 1, none⟩ = some (.int .i64 k1) := (HX.out _ hb1 1).trans hx1
  rw [rounds_succ]
  go_wp2_with fail
  refine (HC1.out _ hb1).mono ?_
  rintro e w' ⟨rfl, y1, rfl⟩
  have rLy := heap_aft y1 (lt_of_get rL) rL
  have rRy := heap_aft y1 (lt_of_get rR) rR
  have hby := y1.below hb1 hb1.size
  have qL0 := cell_block (i := 2) rLy
  have qL1 := cell_block (i := 3) rLy
  have fL0 := free_block (i := 2) rLy
  have fL1 := free_block (i := 3) rLy
  simp at qL0 qL1
  have rL1 : ((y1.val.setCell ⟨w.heap.size + 2, 2, none⟩ (.int .i64 n1.wd)).setCell ⟨w.heap.size + 2, 3, none⟩ (.int .i64 x1)).heap[w.heap.size + 2]? = some (.cells #[.int .i64 n0.wd, .int .i64 x0, .int .i64 n1.wd, .int .i64 x1, .int .i64 0, .int .i64 0] 124) := heap_set (heap_set rLy)
  have rR1 : ((y1.val.setCell ⟨w.heap.size + 2, 2, none⟩ (.int .i64 n1.wd)).setCell ⟨w.heap.size + 2, 3, none⟩ (.int .i64 x1)).heap[w.heap.size + 1]? = some (.cells #[.int .i64 0, .int .i64 0, .int .i64 0, .int .i64 0, .int .i64 0, .int .i64 0] 124) := heap_set_ne (heap_set_ne rRy (by omega)) (by omega)
  have hb2 : Below w.heap.size w ((y1.val.setCell ⟨w.heap.size + 2, 2, none⟩ (.int .i64 n1.wd)).setCell ⟨w.heap.size + 2, 3, none⟩ (.int .i64 x1)) := (hby.setCell (by first | omega | (simp; done) | (simp; omega)) _).setCell (by first | omega | (simp; done) | (simp; omega)) _
  clear cc1
  go_wp2_with fail
  clear rL rR rLy rRy qL0 qL1 fL0 fL1 hby
  have rL := rL1
  have rR := rR1
  clear rL1 rR1
  generalize ((y1.val.setCell ⟨w.heap.size + 2, 2, none⟩ (.int .i64 n1.wd)).setCell ⟨w.heap.size + 2, 3, none⟩ (.int .i64 x1)) = W2 at *
  rw [rounds_succ]
  have u0 := cell_block (i := 0) rL
  have p0 := cell_block (i := 0) rR
  have f0 := free_block (i := 0) rR
  have u1 := cell_block (i := 1) rL
  have p1 := cell_block (i := 1) rR
  have f1 := free_block (i := 1) rR
  have u2 := cell_block (i := 2) rL
  have p2 := cell_block (i := 2) rR
  have f2 := free_block (i := 2) rR
  have u3 := cell_block (i := 3) rL
  have p3 := cell_block (i := 3) rR
  have f3 := free_block (i := 3) rR
  have u4 := cell_block (i := 4) rL
  have p4 := cell_block (i := 4) rR
  have f4 := free_block (i := 4) rR
  have u5 := cell_block (i := 5) rL
  have p5 := cell_block (i := 5) rR
  have f5 := free_block (i := 5) rR
  simp at u0 u1 u2 u3 u4 u5 p0 p1 p2 p3 p4 p5
  go_wp2
  refine bodyPost_ret (by simp [results, Tryd.results87, go_sem, p0, p1, p2, p3, p4, p5]; try rfl) rfl ?_
  exact ⟨rfl, Below.aft (by (repeat' (first | (with_reducible exact Below.refl _ _) | (with_reducible assumption) | (with_reducible refine Below.alloc ?_ ?_ _) | (with_reducible refine Below.drew ?_) | (with_reducible refine Aft.below _ ?_ ?_) | (with_reducible refine Below.setCell_new ?_ ?_ _ _) | (with_reducible exact Nat.le_refl _) | (with_reducible refine Aft.le _ ?_) | (with_reducible refine le_alloc ?_) | (with_reducible refine le_drew ?_) | (with_reducible refine le_setCell ?_) | omega)))⟩

set_option maxRecDepth 100000 in
set_option maxHeartbeats 1600000 in
theorem bargs3 (op wd v : Int) (B : Option Addr) (bc : Nat) (P Q gv vl vc : Nat) (A : Option Addr) (cap : Nat) (ns : List Nd) (hl : ns.length ≤ 65536) (hvl : vl ≤ 65536) (w : World) (lP : P < w.heap.size) (lQ : Q < w.heap.size) (lg : gv < w.heap.size) (k0 : Nat) (n0 : Nd) (x0 : Int) (g0 : ns[k0]? = some n0) (lk0 : k0 < vl) (e0 : w.cell? ⟨gv, k0, none⟩ = some (.int .i64 x0)) (k1 : Nat) (n1 : Nd) (x1 : Int) (g1 : ns[k1]? = some n1) (lk1 : k1 < vl) (e1 : w.cell? ⟨gv, k1, none⟩ = some (.int .i64 x1)) (k2 : Nat) (n2 : Nd) (x2 : Int) (g2 : ns[k2]? = some n2) (lk2 : k2 < vl) (e2 : w.cell? ⟨gv, k2, none⟩ = some (.int .i64 x2))
    (c0 : w.cell? ⟨P, 0, none⟩ = some (.slice A ns.length cap)) (c1 : w.cell? ⟨Q, 0, none⟩ = some (.slice (some ⟨gv, 0, none⟩) vl vc)) (h : LiesN w A ns) (hB : LiesI w B [(k0 : Int), (k1 : Int), (k2 : Int)]) :
    Calls Tryd.prog 87 #[.agg #[.int .i64 op, .int .i64 wd, .slice B 3 bc, .int .i64 v], .func (.func 88) #[] #[.pointer (some ⟨P, 0, none⟩), .pointer (some ⟨Q, 0, none⟩)]] w fun e w' => e = .returned (.agg #[.int .i64 n0.wd, .int .i64 x0, .int .i64 n1.wd, .int .i64 x1, .int .i64 n2.wd, .int .i64 x2]) ∧ ∃ x : Aft w, w' = x.val := by
  have HC0 := Lib.hid (fun (W : World) (hb : Below w.heap.size w W) => valuesOf1_c k0 x0 P Q gv vl vc A cap ns n0 g0 hl lk0 hvl W (Nat.lt_of_lt_of_le lP hb.size) (Nat.lt_of_lt_of_le lQ hb.size) (Nat.lt_of_lt_of_le lg hb.size) ((hb.cell (p := ⟨P, 0, none⟩) lP).trans c0) ((hb.cell (p := ⟨Q, 0, none⟩) lQ).trans c1) ((hb.cell (p := ⟨gv, k0, none⟩) lg).trans e0) (h.below hb))
  have HC1 := Lib.hid (fun (W : World) (hb : Below w.heap.size w W) => valuesOf1_c k1 x1 P Q gv vl vc A cap ns n1 g1 hl lk1 hvl W (Nat.lt_of_lt_of_le lP hb.size) (Nat.lt_of_lt_of_le lQ hb.size) (Nat.lt_of_lt_of_le lg hb.size) ((hb.cell (p := ⟨P, 0, none⟩) lP).trans c0) ((hb.cell (p := ⟨Q, 0, none⟩) lQ).trans c1) ((hb.cell (p := ⟨gv, k1, none⟩) lg).trans e1) (h.below hb))
  have HC2 := Lib.hid (fun (W : World) (hb : Below w.heap.size w W) => valuesOf1_c k2 x2 P Q gv vl vc A cap ns n2 g2 hl lk2 hvl W (Nat.lt_of_lt_of_le lP hb.size) (Nat.lt_of_lt_of_le lQ hb.size) (Nat.lt_of_lt_of_le lg hb.size) ((hb.cell (p := ⟨P, 0, none⟩) lP).trans c0) ((hb.cell (p := ⟨Q, 0, none⟩) lQ).trans c1) ((hb.cell (p := ⟨gv, k2, none⟩) lg).trans e2) (h.below hb))
  obtain ⟨ad, rfl, hbk, hcell⟩ := hB (by simp)
  have hx0 := hcell 0 k0 (by rfl)
  have hx1 := hcell 1 k1 (by rfl)
  have hx2 := hcell 2 k2 (by rfl)
  have HX := Lib.hid (fun (W : World) (hb : Below w.heap.size w W) (i : Nat) => (hb.cell (p := ad.add i) (by rw [addB]; exact hbk)))
  clear h hB c0 c1 hcell e0 e1 e2
  go_enter Tryd.func87, Tryd.ntmps87
  go_wp2_with fail
  have rL : (((w.alloc (.cells #[.int .i64 op, .int .i64 wd, .slice (some ad) 3 bc, .int .i64 v] 65)).alloc (.cells #[.int .i64 0, .int .i64 0, .int .i64 0, .int .i64 0, .int .i64 0, .int .i64 0] 124)).alloc (.cells #[.int .i64 0, .int .i64 0, .int .i64 0, .int .i64 0, .int .i64 0, .int .i64 0] 124)).heap[w.heap.size + 2]? = some (.cells #[.int .i64 0, .int .i64 0, .int .i64 0, .int .i64 0, .int .i64 0, .int .i64 0] 124) := by
    exact heap_alloc_at (by simp)
  have rR : (((w.alloc (.cells #[.int .i64 op, .int .i64 wd, .slice (some ad) 3 bc, .int .i64 v] 65)).alloc (.cells #[.int .i64 0, .int .i64 0, .int .i64 0, .int .i64 0, .int .i64 0, .int .i64 0] 124)).alloc (.cells #[.int .i64 0, .int .i64 0, .int .i64 0, .int .i64 0, .int .i64 0, .int .i64 0] 124)).heap[w.heap.size + 1]? = some (.cells #[.int .i64 0, .int .i64 0, .int .i64 0, .int .i64 0, .int .i64 0, .int .i64 0] 124) := by
    exact heap_alloc' (by simp) (heap_alloc_at (by simp))
  have rN : (((w.alloc (.cells #[.int .i64 op, .int .i64 wd, .slice (some ad) 3 bc, .int .i64 v] 65)).alloc (.cells #[.int .i64 0, .int .i64 0, .int .i64 0, .int .i64 0, .int .i64 0, .int .i64 0] 124)).alloc (.cells #[.int .i64 0, .int .i64 0, .int .i64 0, .int .i64 0, .int .i64 0, .int .i64 0] 124)).heap[w.heap.size]? = some (.cells #[.int .i64 op, .int .i64 wd, .slice (some ad) 3 bc, .int .i64 v] 65) := heap_alloc' (by simp; omega) (heap_alloc' (by simp) (heap_alloc_new _ _))
  have hb0 : Below w.heap.size w (((w.alloc (.cells #[.int .i64 op, .int .i64 wd, .slice (some ad) 3 bc, .int .i64 v] 65)).alloc (.cells #[.int .i64 0, .int .i64 0, .int .i64 0, .int .i64 0, .int .i64 0, .int .i64 0] 124)).alloc (.cells #[.int .i64 0, .int .i64 0, .int .i64 0, .int .i64 0, .int .i64 0, .int .i64 0] 124)) := (((Below.refl _ _).alloc (Nat.le_refl _) _).alloc (by simp) _).alloc (by simp; omega) _
  have qN := cell_block (i := 2) rN
  simp at qN
  clear rN
  generalize (((w.alloc (.cells #[.int .i64 op, .int .i64 wd, .slice (some ad) 3 bc, .int .i64 v] 65)).alloc (.cells #[.int .i64 0, .int .i64 0, .int .i64 0, .int .i64 0, .int .i64 0, .int .i64 0] 124)).alloc (.cells #[.int .i64 0, .int .i64 0, .int .i64 0, .int .i64 0, .int .i64 0, .int .i64 0] 124)) = W0 at *
  have cc0 : W0.cell? ad = some (.int .i64 k0) := (HX.out _ hb0 0).trans hx0
  refine wp_loop_rounds 4 ?_
  rw [rounds_succ]
  go_wp2_with fail
  refine (HC0.out _ hb0).mono ?_
  rintro e w' ⟨rfl, y0, rfl⟩
  have rLy := heap_aft y0 (lt_of_get rL) rL
  have rRy := heap_aft y0 (lt_of_get rR) rR
  have hby := y0.below hb0 hb0.size
  have qL0 := cell_block (i := 0) rLy
  have qL1 := cell_block (i := 1) rLy
  have fL0 := free_block (i := 0) rLy
  have fL1 := free_block (i := 1) rLy
  simp at qL0 qL1
  have rL1 : ((y0.val.setCell ⟨w.heap.size + 2, 0, none⟩ (.int .i64 n0.wd)).setCell ⟨w.heap.size + 2, 1, none⟩ (.int .i64 x0)).heap[w.heap.size + 2]? = some (.cells #[.int .i64 n0.wd, .int .i64 x0, .int .i64 0, .int .i64 0, .int .i64 0, .int .i64 0] 124) := heap_set (heap_set rLy)
  have rR1 : ((y0.val.setCell ⟨w.heap.size + 2, 0, none⟩ (.int .i64 n0.wd)).setCell ⟨w.heap.size + 2, 1, none⟩ (.int .i64 x0)).heap[w.heap.size + 1]? = some (.cells #[.int .i64 0, .int .i64 0, .int .i64 0, .int .i64 0, .int .i64 0, .int .i64 0] 124) := heap_set_ne (heap_set_ne rRy (by omega)) (by omega)
  have hb1 : Below w.heap.size w ((y0.val.setCell ⟨w.heap.size + 2, 0, none⟩ (.int .i64 n0.wd)).setCell ⟨w.heap.size + 2, 1, none⟩ (.int .i64 x0)) := (hby.setCell (by first | omega | (simp; done) | (simp; omega)) _).setCell (by first | omega | (simp; done) | (simp; omega)) _
  clear cc0
  go_wp2_with fail
  clear rL rR rLy rRy qL0 qL1 fL0 fL1 hby
  have rL := rL1
  have rR := rR1
  clear rL1 rR1
  generalize ((y0.val.setCell ⟨w.heap.size + 2, 0, none⟩ (.int .i64 n0.wd)).setCell ⟨w.heap.size + 2, 1, none⟩ (.int .i64 x0)) = W1 at *
  have cc1 : W1.cell? ⟨ad.block, ad.off + 1, none⟩ = some (.int .i64 k1) := (HX.out _ hb1 1).trans hx1
  rw [rounds_succ]
  go_wp2_with fail
  refine (HC1.out _ hb1).mono ?_
  rintro e w' ⟨rfl, y1, rfl⟩
  have rLy := heap_aft y1 (lt_of_get rL) rL
  have rRy := heap_aft y1 (lt_of_get rR) rR
  have hby := y1.below hb1 hb1.size
  have qL0 := cell_block (i := 2) rLy
  have qL1 := cell_block (i := 3) rLy
  have fL0 := free_block (i := 2) rLy
  have fL1 := free_block (i := 3) rLy
  simp at qL0 qL1
  have rL1 : ((y1.val.setCell ⟨w.heap.size + 2, 2, none⟩ (.int .i64 n1.wd)).setCell ⟨w.heap.size + 2, 3, none⟩ (.int .i64 x1)).heap[w.heap.size + 2]? = some (.cells #[.int .i64 n0.wd, .int .i64 x0, .int .i64 n1.wd, .int .i64 x1, .int .i64 0, .int .i64 0] 124) := heap_set (heap_set rLy)
  have rR1 : ((y1.val.setCell ⟨w.heap.size + 2, 2, none⟩ (.int .i64 n1.wd)).setCell ⟨w.heap.size + 2, 3, none⟩ (.int .i64 x1)).heap[w.heap.size + 1]? = some (.cells #[.int .i64 0, .int .i64 0, .int .i64 0, .int .i64 0, .int .i64 0, .int .i64 0] 124) := heap_set_ne (heap_set_ne rRy (by omega)) (by omega)
  have hb2 : Below w.heap.size w ((y1.val.setCell ⟨w.heap.size + 2, 2, none⟩ (.int .i64 n1.wd)).setCell ⟨w.heap.size + 2, 3, none⟩ (.int .i64 x1)) := (hby.setCell (by first | omega | (simp; done) | (simp; omega)) _).setCell (by first | omega | (simp; done) | (simp; omega)) _
  clear cc1
  go_wp2_with fail
  clear rL rR rLy rRy qL0 qL1 fL0 fL1 hby
  have rL := rL1
  have rR := rR1
  clear rL1 rR1
  generalize ((y1.val.setCell ⟨w.heap.size + 2, 2, none⟩ (.int .i64 n1.wd)).setCell ⟨w.heap.size + 2, 3, none⟩ (.int .i64 x1)) = W2 at *
  have cc2 : W2.cell? ⟨ad.block, ad.off + 2, none⟩ = some (.int .i64 k2) := (HX.out _ hb2 2).trans hx2
  rw [rounds_succ]
  go_wp2_with fail
  refine (HC2.out _ hb2).mono ?_
  rintro e w' ⟨rfl, y2, rfl⟩
  have rLy := heap_aft y2 (lt_of_get rL) rL
  have rRy := heap_aft y2 (lt_of_get rR) rR
  have hby := y2.below hb2 hb2.size
  have qL0 := cell_block (i := 4) rLy
  have qL1 := cell_block (i := 5) rLy
  have fL0 := free_block (i := 4) rLy
  have fL1 := free_block (i := 5) rLy
  simp at qL0 qL1
  have rL1 : ((y2.val.setCell ⟨w.heap.size + 2, 4, none⟩ (.int .i64 n2.wd)).setCell ⟨w.heap.size + 2, 5, none⟩ (.int .i64 x2)).heap[w.heap.size + 2]? = some (.cells #[.int .i64 n0.wd, .int .i64 x0, .int .i64 n1.wd, .int .i64 x1, .int .i64 n2.wd, .int .i64 x2] 124) := heap_set (heap_set rLy)
  have rR1 : ((y2.val.setCell ⟨w.heap.size + 2, 4, none⟩ (.int .i64 n2.wd)).setCell ⟨w.heap.size + 2, 5, none⟩ (.int .i64 x2)).heap[w.heap.size + 1]? = some (.cells #[.int .i64 0, .int .i64 0, .int .i64 0, .int .i64 0, .int .i64 0, .int .i64 0] 124) := heap_set_ne (heap_set_ne rRy (by omega)) (by omega)
  have hb3 : Below w.heap.size w ((y2.val.setCell ⟨w.heap.size + 2, 4, none⟩ (.int .i64 n2.wd)).setCell ⟨w.heap.size + 2, 5, none⟩ (.int .i64 x2)) := (hby.setCell (by first | omega | (simp; done) | (simp; omega)) _).setCell (by first | omega | (simp; done) | (simp; omega)) _
  clear cc2
  go_wp2_with fail
  clear rL rR rLy rRy qL0 qL1 fL0 fL1 hby
  have rL := rL1
  have rR := rR1
  clear rL1 rR1
  generalize ((y2.val.setCell ⟨w.heap.size + 2, 4, none⟩ (.int .i64 n2.wd)).setCell ⟨w.heap.size + 2, 5, none⟩ (.int .i64 x2)) = W3 at *
  rw [rounds_succ]
  have u0 := cell_block (i := 0) rL
  have p0 := cell_block (i := 0) rR
  have f0 := free_block (i := 0) rR
  have u1 := cell_block (i := 1) rL
  have p1 := cell_block (i := 1) rR
  have f1 := free_block (i := 1) rR
  have u2 := cell_block (i := 2) rL
  have p2 := cell_block (i := 2) rR
  have f2 := free_block (i := 2) rR
  have u3 := cell_block (i := 3) rL
  have p3 := cell_block (i := 3) rR
  have f3 := free_block (i := 3) rR
  have u4 := cell_block (i := 4) rL
  have p4 := cell_block (i := 4) rR
  have f4 := free_block (i := 4) rR
  have u5 := cell_block (i := 5) rL
  have p5 := cell_block (i := 5) rR
  have f5 := free_block (i := 5) rR
  simp at u0 u1 u2 u3 u4 u5 p0 p1 p2 p3 p4 p5
  go_wp2
  refine bodyPost_ret (by simp [results, Tryd.results87, go_sem, p0, p1, p2, p3, p4, p5]; try rfl) rfl ?_
  exact ⟨rfl, Below.aft (by (repeat' (first | (with_reducible exact Below.refl _ _) | (with_reducible assumption) | (with_reducible refine Below.alloc ?_ ?_ _) | (with_reducible refine Below.drew ?_) | (with_reducible refine Aft.below _ ?_ ?_) | (with_reducible refine Below.setCell_new ?_ ?_ _ _) | (with_reducible exact Nat.le_refl _) | (with_reducible refine Aft.le _ ?_) | (with_reducible refine le_alloc ?_) | (with_reducible refine le_drew ?_) | (with_reducible refine le_setCell ?_) | omega)))⟩

end Go.Proofs.YtkdonapgonegkaaDoor

set_option linter.unusedSimpArgs false
set_option linter.unusedVariables false
namespace Go.Proofs.YtkdonapgonegkaaDoor
open Go.RowKit Go.BigFrame

/-- A row of numbers. -/
def rowA (xs : List Int) : Array Value := (xs.map (Value.int .i64)).toArray
theorem rowA_at (xs : List Int) (k : Nat) : (rowA xs)[k]? = (xs[k]?).map (Value.int .i64) := by simp [rowA]
theorem rowA_in {xs : List Int} {k : Nat} {x : Int} (h : xs[k]? = some x) : (rowA xs)[k]? = some (.int .i64 x) := by rw [rowA_at, h]; rfl
theorem rowA_set (xs : List Int) (k : Nat) (x : Int) : (rowA xs).setIfInBounds k (.int .i64 x) = rowA (xs.set k x) := by
  simp [rowA, List.setIfInBounds_toArray, List.map_set]
theorem row_block {w : World} {base g n m : Nat} {e : TypeId} {xs : List Value} (h : w.ownsRow base e 1 (.slice (some ⟨g, 0, none⟩) n m) n xs) (hm : m = n) : w.heap[g]? = some (.cells xs.toArray e) := by
  obtain ⟨h1, h2⟩ := h
  rcases h2 with ⟨h2, _⟩ | ⟨g', cap, cur, h2, _, h4, _, _, h7, h8⟩
  · cases h2
  · simp only [Value.slice.injEq, Option.some.injEq, Addr.mk.injEq] at h2
    obtain ⟨⟨rfl, -⟩, -, rfl⟩ := h2
    rw [h4]
    have : cur.toList = xs := by rw [← h8, List.take_of_length_le (by simp; omega)]
    rw [← this]
theorem row_made (n : Nat) : ((madeCells (Value.int .i64 0).cells (n * 1)).toList).toArray = rowA (List.replicate n 0) := by
  rw [show (Value.int .i64 0).cells = #[Value.int .i64 0] from rfl, Nat.mul_one, toList_madeCells_one]
  simp [rowA]

/-- The value of an argument. -/
def vAt (vs args : List Int) (i : Nat) : Int := match args[i]? with | none => 0 | some a => vs.getD a.toNat 0
theorem vAt_in {vs args : List Int} {k i : Nat} {x : Int} (ha : args[i]? = some (k : Int)) (hx : vs[k]? = some x) : vAt vs args i = x := by
  unfold vAt; rw [ha]; simp [List.getD, hx]
theorem vAt_out {vs args : List Int} {i : Nat} (ha : args.length ≤ i) : vAt vs args i = 0 := by
  unfold vAt; rw [List.getElem?_eq_none ha]
/-- The value of a node, by those of the nodes before it. -/
def valN (ns : List Nd) (ls vs : List Int) (n : Nd) : Int :=
  if n.op = 1 then ls.getD n.v.toNat 0 else resG n.op n.wd n.v (wAt ns n.args 0) (vAt vs n.args 0) (wAt ns n.args 1) (vAt vs n.args 1) (vAt vs n.args 2)
/-- The values of the first nodes. -/
def valsK (ns : List Nd) (ls : List Int) : Nat → List Int
  | 0 => []
  | k + 1 => valsK ns ls k ++ (match ns[k]? with | none => [] | some n => [valN ns ls (valsK ns ls k) n])
def valsL (ns : List Nd) (ls : List Int) : List Int := valsK ns ls ns.length
theorem valsK_step {ns : List Nd} {ls : List Int} {k : Nat} {n : Nd} (h : ns[k]? = some n) : valsK ns ls (k + 1) = valsK ns ls k ++ [valN ns ls (valsK ns ls k) n] := by
  simp only [valsK, h]
theorem valsK_len {ns : List Nd} {ls : List Int} : ∀ {k : Nat}, k ≤ ns.length → (valsK ns ls k).length = k := by
  intro k
  induction k with
  | zero => intro _; rfl
  | succ k ih =>
    intro h
    rw [valsK_step (List.getElem?_eq_getElem (by omega)), List.length_append, ih (by omega)]; rfl
theorem valsL_len (ns : List Nd) (ls : List Int) : (valsL ns ls).length = ns.length := valsK_len (Nat.le_refl _)
/-- What is known of a node without an error. -/
structure NodeOK (ns : List Nd) (L : Nat) (k : Nat) (n : Nd) : Prop where
  o0 : 0 ≤ n.op
  o1 : n.op ≤ 18
  w1 : 1 ≤ n.wd
  w2 : n.wd ≤ 16
  al : n.args.length ≤ 3
  ai : ∀ (i : Nat) (a : Int), n.args[i]? = some a → 0 ≤ a ∧ a < k
  a11 : n.op = 11 → n.args.length = 2
  a16 : n.op = 16 → n.args.length = 1
  lf : n.op = 1 → 0 ≤ n.v ∧ n.v < L
  sl : n.op = 14 → 0 ≤ n.v ∧ n.v ≤ 16
theorem NodeOK.arg {ns : List Nd} {L k : Nat} {n : Nd} (h : NodeOK ns L k n) (hk : k < ns.length) {i : Nat} (hi : i < n.args.length) : ∃ (j : Nat) (m : Nd), n.args[i]? = some (j : Int) ∧ j < k ∧ ns[j]? = some m := by
  have h1 := List.getElem?_eq_getElem hi
  obtain ⟨a0, a1⟩ := h.ai i _ h1
  obtain ⟨j, hj⟩ := Int.eq_ofNat_of_zero_le a0
  rw [hj] at h1 a1
  exact ⟨j, _, h1, by omega, List.getElem?_eq_getElem (by omega)⟩
theorem wAt_ok {ns : List Nd} {L k : Nat} {n : Nd} (hall : ∀ k n, ns[k]? = some n → NodeOK ns L k n) (hn : ns[k]? = some n) (i : Nat) : 0 ≤ wAt ns n.args i ∧ wAt ns n.args i ≤ 16 ∧ (i < n.args.length → 1 ≤ wAt ns n.args i) := by
  by_cases hi : i < n.args.length
  · obtain ⟨j, m, h1, _, h3⟩ := (hall k n hn).arg (List.getElem?_eq_some_iff.1 hn).1 hi
    rw [wAt_in h1 h3]
    have := (hall j m h3).w1; have := (hall j m h3).w2
    omega
  · rw [wAt_out (by omega)]; omega
theorem valsK_bd {ns : List Nd} {ls : List Int} (hls : ∀ x ∈ ls, 0 ≤ x ∧ x ≤ 65536) (hw : ∀ n ∈ ns, 1 ≤ n.wd ∧ n.wd ≤ 16) : ∀ (k : Nat) x, x ∈ valsK ns ls k → 0 ≤ x ∧ x ≤ 65536 := by
  intro k
  induction k with
  | zero => intro x hx; simp [valsK] at hx
  | succ k ih =>
    intro x hx
    simp only [valsK, List.mem_append] at hx
    rcases hx with hx | hx
    · exact ih x hx
    · cases hn : ns[k]? with
      | none => rw [hn] at hx; simp at hx
      | some n =>
        rw [hn] at hx
        have hx := List.mem_singleton.1 hx
        subst hx
        have hwn := hw n (List.mem_of_getElem? hn)
        unfold valN
        split
        · by_cases hv : n.v.toNat < ls.length
          · simp only [List.getD, List.getElem?_eq_getElem hv, Option.getD_some]
            exact hls _ (List.getElem_mem hv)
          · simp only [List.getD, List.getElem?_eq_none (Nat.le_of_not_lt (by assumption)), Option.getD_none]; omega
        · have hp := pw_bd (n := n.wd) (by omega) hwn.2
          have := resG_bd (op := n.op) (wd := n.wd) (v := n.v) (aw := wAt ns n.args 0) (av := vAt (valsK ns ls k) n.args 0) (bw := wAt ns n.args 1) (bv := vAt (valsK ns ls k) n.args 1) (cv := vAt (valsK ns ls k) n.args 2)
          omega
theorem vAt_bd {vs args : List Int} (hv : ∀ x ∈ vs, 0 ≤ x ∧ x ≤ 65536) (i : Nat) : 0 ≤ vAt vs args i ∧ vAt vs args i ≤ 65536 := by
  unfold vAt
  split
  · omega
  · rename_i a h
    by_cases ha : a.toNat < vs.length
    · simp only [List.getD, List.getElem?_eq_getElem ha, Option.getD_some]; exact hv _ (List.getElem_mem ha)
    · simp only [List.getD, List.getElem?_eq_none (Nat.le_of_not_lt (by assumption)), Option.getD_none]; omega
theorem fit3 {ns : List Nd} {L k : Nat} {n : Nd} {vs : List Int} (hall : ∀ k n, ns[k]? = some n → NodeOK ns L k n) (hn : ns[k]? = some n) (hv : ∀ x ∈ vs, 0 ≤ x ∧ x ≤ 65536) :
    Fit3 n.op n.wd n.v (wAt ns n.args 0) (vAt vs n.args 0) (wAt ns n.args 1) (vAt vs n.args 1) := by
  have h := hall k n hn
  have w0 := wAt_ok hall hn 0
  have w1 := wAt_ok hall hn 1
  refine ⟨h.o0, h.o1, h.w1, h.w2, (vAt_bd hv 0).1, (vAt_bd hv 0).2, (vAt_bd hv 1).1, (vAt_bd hv 1).2, ?_, w0.2.1, w1.1, ?_, w1.2.1, h.sl⟩
  · rintro (e | e)
    · exact w0.2.2 (by rw [h.a11 e]; decide)
    · exact w0.2.2 (by rw [h.a16 e]; decide)
  · intro e
    exact w1.2.2 (by rw [h.a11 e]; decide)

theorem bargs_c (n : Nd) (k L : Nat) (B : Option Addr) (bc : Nat) (P Q gv vl vc : Nat) (A : Option Addr) (cap : Nat) (ns : List Nd) (vs : List Int) (hl : ns.length ≤ 65536) (hvl : vl ≤ 65536) (w : World) (lP : P < w.heap.size) (lQ : Q < w.heap.size) (lg : gv < w.heap.size)
    (hall : ∀ k n, ns[k]? = some n → NodeOK ns L k n) (hn : ns[k]? = some n) (hk : k ≤ vl) (hvs : ∀ j, j < k → ∃ x, vs[j]? = some x ∧ w.cell? ⟨gv, j, none⟩ = some (.int .i64 x))
    (c0 : w.cell? ⟨P, 0, none⟩ = some (.slice A ns.length cap)) (c1 : w.cell? ⟨Q, 0, none⟩ = some (.slice (some ⟨gv, 0, none⟩) vl vc)) (h : LiesN w A ns) (hB : LiesI w B n.args) :
    Calls Tryd.prog 87 #[.agg #[.int .i64 n.op, .int .i64 n.wd, .slice B n.args.length bc, .int .i64 n.v], .func (.func 88) #[] #[.pointer (some ⟨P, 0, none⟩), .pointer (some ⟨Q, 0, none⟩)]] w fun e w' => e = .returned (.agg #[.int .i64 (wAt ns n.args 0), .int .i64 (vAt vs n.args 0), .int .i64 (wAt ns n.args 1), .int .i64 (vAt vs n.args 1), .int .i64 (wAt ns n.args 2), .int .i64 (vAt vs n.args 2)]) ∧ ∃ x : Aft w, w' = x.val := by
  have ok := hall k n hn
  have hkn := (List.getElem?_eq_some_iff.1 hn).1
  have al := ok.al
  have harg : ∀ i, i < n.args.length → ∃ (j : Nat) (m : Nd) (x : Int), n.args[i]? = some (j : Int) ∧ ns[j]? = some m ∧ j < vl ∧ vs[j]? = some x ∧ w.cell? ⟨gv, j, none⟩ = some (.int .i64 x) := by
    intro i hi
    obtain ⟨j, m, h1, h2, h3⟩ := ok.arg hkn hi
    obtain ⟨x, h4, h5⟩ := hvs j h2
    exact ⟨j, m, x, h1, h3, by omega, h4, h5⟩
  clear hvs ok
  obtain ⟨op, wd, args, v⟩ := n
  simp only at *
  match args, al with
  | [], _ =>
    rw [wAt_out (i := 0) (by simp), wAt_out (i := 1) (by simp), wAt_out (i := 2) (by simp), vAt_out (i := 0) (by simp), vAt_out (i := 1) (by simp), vAt_out (i := 2) (by simp)]
    exact bargs0 op wd v B bc P Q gv vl vc A cap ns hl hvl w lP lQ lg c0 c1 h hB
  | [a0], _ =>
    obtain ⟨j0, m0, x0, p0, q0, r0, s0, t0⟩ := harg 0 (by simp)
    rw [wAt_in p0 q0, vAt_in p0 s0]
    obtain rfl : a0 = (j0 : Int) := by simpa using p0
    rw [wAt_out (i := 1) (by simp), vAt_out (i := 1) (by simp), wAt_out (i := 2) (by simp), vAt_out (i := 2) (by simp)]
    exact bargs1 op wd v B bc P Q gv vl vc A cap ns hl hvl w lP lQ lg j0 m0 x0 q0 r0 t0 c0 c1 h hB
  | [a0, a1], _ =>
    obtain ⟨j0, m0, x0, p0, q0, r0, s0, t0⟩ := harg 0 (by simp)
    rw [wAt_in p0 q0, vAt_in p0 s0]
    obtain rfl : a0 = (j0 : Int) := by simpa using p0
    obtain ⟨j1, m1, x1, p1, q1, r1, s1, t1⟩ := harg 1 (by simp)
    rw [wAt_in p1 q1, vAt_in p1 s1]
    obtain rfl : a1 = (j1 : Int) := by simpa using p1
    rw [wAt_out (i := 2) (by simp), vAt_out (i := 2) (by simp)]
    exact bargs2 op wd v B bc P Q gv vl vc A cap ns hl hvl w lP lQ lg j0 m0 x0 q0 r0 t0 j1 m1 x1 q1 r1 t1 c0 c1 h hB
  | [a0, a1, a2], _ =>
    obtain ⟨j0, m0, x0, p0, q0, r0, s0, t0⟩ := harg 0 (by simp)
    rw [wAt_in p0 q0, vAt_in p0 s0]
    obtain rfl : a0 = (j0 : Int) := by simpa using p0
    obtain ⟨j1, m1, x1, p1, q1, r1, s1, t1⟩ := harg 1 (by simp)
    rw [wAt_in p1 q1, vAt_in p1 s1]
    obtain rfl : a1 = (j1 : Int) := by simpa using p1
    obtain ⟨j2, m2, x2, p2, q2, r2, s2, t2⟩ := harg 2 (by simp)
    rw [wAt_in p2 q2, vAt_in p2 s2]
    obtain rfl : a2 = (j2 : Int) := by simpa using p2
    exact bargs3 op wd v B bc P Q gv vl vc A cap ns hl hvl w lP lQ lg j0 m0 x0 q0 r0 t0 j1 m1 x1 q1 r1 t1 j2 m2 x2 q2 r2 t2 c0 c1 h hB

end Go.Proofs.YtkdonapgonegkaaDoor

set_option linter.unusedSimpArgs false
set_option linter.unusedVariables false
namespace Go.Proofs.YtkdonapgonegkaaDoor
open Go.RowKit Go.BigFrame

theorem row_next {vs : List Int} {n k : Nat} {x : Int} (hv : vs.length = k) (hk : k < n) : (vs ++ List.replicate (n - k) 0).set k x = (vs ++ [x]) ++ List.replicate (n - (k + 1)) 0 := by
  rw [List.set_append_right _ _ (by omega), hv, Nat.sub_self, show n - k = (n - (k + 1)) + 1 by omega, List.replicate_succ, List.set_cons_zero, List.append_assoc]
  rfl
theorem row_here {vs : List Int} {n k : Nat} (hv : vs.length = k) (hk : k < n) : (vs ++ List.replicate (n - k) (0 : Int))[k]? = some 0 := by
  rw [List.getElem?_append_right (by omega), hv, Nat.sub_self, show n - k = (n - (k + 1)) + 1 by omega, List.replicate_succ]
  rfl
theorem row_before {vs : List Int} {m k : Nat} (h : k < vs.length) : ∃ x, vs[k]? = some x ∧ (vs ++ List.replicate m (0 : Int))[k]? = some x :=
  ⟨vs[k], List.getElem?_eq_getElem h, by rw [List.getElem?_append_left h]; exact List.getElem?_eq_getElem h⟩
theorem CopiedI.mk' {w w' : World} {g : Nat} {T : TypeId} {n : Nat} {xs : List Int} (hn : xs.length = n) (h : w'.heap[g]? = some (.cells (rowA xs) T)) (hb : Below w.heap.size w w') : CopiedI w xs (.returned (.slice (some ⟨g, 0, none⟩) n n)) w' :=
  ⟨_, n, by rw [hn], LiesI.block h, hb⟩

set_option maxRecDepth 100000 in
set_option maxHeartbeats 1600000 in
theorem valuesOf_c (N : Option Addr) (capN : Nat) (ns : List Nd) (hns : ns.length ≤ 65536) (A : Option Addr) (cap : Nat) (ls : List Int) (hls : ls.length ≤ 65536) (hlv : ∀ x ∈ ls, 0 ≤ x ∧ x ≤ 65536)
    (hall : ∀ k n, ns[k]? = some n → NodeOK ns ls.length k n) (w : World) (hN : LiesN w N ns) (hA : LiesI w A ls) :
    Calls Tryd.prog 56 #[.slice N ns.length capN, .slice A ls.length cap] w (CopiedI w (valsL ns ls)) := by
  obtain ⟨i0, hi, hz0, hz1, hz2⟩ := info_parts int_info
  have HN := Lib.hid hN
  have HA := Lib.hid hA
  have HALL := Lib.hid hall
  have HLV := Lib.hid hlv
  clear hN hA hall hlv
  go_enter Tryd.func56, Tryd.ntmps56
  go_wp2_with (refine wpList_make_full _ rfl _ _ 22 rfl w.heap.size 3 i0 _ 1 Tryd.underlying22 hi hz0 hz1 .i64 .i64 _ _ ns.length rfl rfl rfl rfl (by rw [hz2]; omega) (by unfold maxLen; omega) (by simp) ?_; intro W1 hown hgr; have hb2 := (Below.refl (w.alloc (.cells #[.slice N ns.length capN] 23)).heap.size (w.alloc (.cells #[.slice N ns.length capN] 23))).grown hgr (Nat.le_refl _) (fun q hq => by cases hq); have rP := (hb2.block w.heap.size (by simp)).trans (heap_alloc_new w (.cells #[.slice N ns.length capN] 23)); have qP := cell_block (i := 0) rP; simp at qP; have rg : W1.heap[w.heap.size + 1]? = some (.cells (rowA (List.replicate ns.length 0)) 3) := (by have := row_block hown rfl; rw [row_made] at this; simpa using this); have lg := lt_of_get rg; have lP := lt_of_get rP; have hb1 : Below w.heap.size w W1 := ((Below.refl _ _).alloc (Nat.le_refl _) _).trans (hb2.mono (by simp)); clear hown hgr hb2)
  have rQ2 : (W1.alloc (.cells #[.slice (some ⟨w.heap.size + 1, 0, none⟩) ns.length ns.length] 22)).heap[W1.heap.size]? = some (.cells #[.slice (some ⟨w.heap.size + 1, 0, none⟩) ns.length ns.length] 22) := heap_alloc_new _ _
  have rP2 := heap_alloc' (o := .cells #[.slice (some ⟨w.heap.size + 1, 0, none⟩) ns.length ns.length] 22) lP rP
  have rg2 := heap_alloc' (o := .cells #[.slice (some ⟨w.heap.size + 1, 0, none⟩) ns.length ns.length] 22) lg rg
  have hb2 := hb1.alloc (by omega) (.cells #[.slice (some ⟨w.heap.size + 1, 0, none⟩) ns.length ns.length] 22)
  generalize W1.alloc (.cells #[.slice (some ⟨w.heap.size + 1, 0, none⟩) ns.length ns.length] 22) = W2 at *
  clear rP qP rg hb1
  generalize W1.heap.size = q at *
  go_loopw [13] (fun v13 wr => ∃ k : Nat, k ≤ ns.length ∧ v13 = .int .i64 k ∧ wr.heap[w.heap.size]? = some (.cells #[.slice N ns.length capN] 23) ∧ wr.heap[w.heap.size + 1]? = some (.cells (rowA (valsK ns ls k ++ List.replicate (ns.length - k) 0)) 3) ∧ wr.heap[q]? = some (.cells #[.slice (some ⟨w.heap.size + 1, 0, none⟩) ns.length ns.length] 22) ∧ Below w.heap.size w wr) (fun v13 _ => ns.length - (intOf v13).toNat)
  case atStart => exact ⟨0, by omega, rfl, rP2, rg2, rQ2, hb2⟩
  case round =>
    clear rP2 rg2 rQ2 hb2
    obtain ⟨k, hk, rfl, rP, rg, rQ, hb⟩ := hrel
    have qP := cell_block (i := 0) rP
    have qQ := cell_block (i := 0) rQ
    simp at qP qQ
    have lP1 := lt_of_get rP
    have lg1 := lt_of_get rg
    have lQ1 := lt_of_get rQ
    have HVL := Lib.hid (valsK_len (ns := ns) (ls := ls) hk)
    by_cases hlt : k < ns.length
    · have hkk : (k : Int) < ns.length := by omega
      have HX := Lib.hid (List.getElem?_eq_getElem hlt)
      generalize ns[k] = x at *
      have HS := Lib.hid (valsK_step (ls := ls) HX.out)
      obtain ⟨ad, rfl, hbl, c0, c1, c3, B, bc, c2, hB⟩ := HN.out.cells HX.out
      have hbk : ∀ p : Addr, p.block = ad.block → wr.cell? p = w.cell? p := fun p hp => hb.cell (p := p) (by rw [hp]; exact hbl)
      have a0 := (hbk (ad.add (k * 4)) (by rw [addB])).trans c0
      have a1 : wr.cell? ⟨(ad.add (k * 4)).block, (ad.add (k * 4)).off + 1, none⟩ = some (.int .i64 x.wd) := (hbk ((ad.add (k * 4)).add 1) (by rw [addB, addB])).trans c1
      have a2 : wr.cell? ⟨(ad.add (k * 4)).block, (ad.add (k * 4)).off + 2, none⟩ = some (.slice B x.args.length bc) := (hbk ((ad.add (k * 4)).add 2) (by rw [addB, addB])).trans c2
      have a3 : wr.cell? ⟨(ad.add (k * 4)).block, (ad.add (k * 4)).off + 3, none⟩ = some (.int .i64 x.v) := (hbk ((ad.add (k * 4)).add 3) (by rw [addB, addB])).trans c3
      have HBL := Lib.hid hB
      clear c0 c1 c2 c3 hbk hB
      have HOK := Lib.hid (HALL.out k x HX.out)
      obtain ⟨op, wd, args, v⟩ := x
      simp only at a0 a1 a2 a3 HBL
      by_cases ho : op = 1
      · subst ho
        have HV := Lib.hid (show valN ns ls (valsK ns ls k) ⟨1, wd, args, v⟩ = ls.getD v.toNat 0 from if_pos rfl)
        obtain ⟨v0, v1⟩ := HOK.out.lf rfl
        simp only at v0 v1
        obtain ⟨j, rfl⟩ := Int.eq_ofNat_of_zero_le v0
        have hj : j < ls.length := by omega
        have HY := Lib.hid (List.getElem?_eq_getElem hj)
        have HG := Lib.hid (show ls.getD ((j : Nat) : Int).toNat 0 = ls[j] by simp [hj])
        generalize ls[j] = u at *
        obtain ⟨aa, rfl, hal, e0⟩ := HA.out.cell HY.out
        go_wp2_with fail
        have rn3 : (wr.alloc (.cells #[.int .i64 1, .int .i64 wd, .slice B args.length bc, .int .i64 ((j : Nat) : Int)] 65)).heap[wr.heap.size]? = some (.cells #[.int .i64 1, .int .i64 wd, .slice B args.length bc, .int .i64 ((j : Nat) : Int)] 65) := heap_alloc_new _ _
        have rP3 := heap_alloc' (o := .cells #[.int .i64 1, .int .i64 wd, .slice B args.length bc, .int .i64 ((j : Nat) : Int)] 65) lP1 rP
        have rg3 := heap_alloc' (o := .cells #[.int .i64 1, .int .i64 wd, .slice B args.length bc, .int .i64 ((j : Nat) : Int)] 65) lg1 rg
        have rQ3 := heap_alloc' (o := .cells #[.int .i64 1, .int .i64 wd, .slice B args.length bc, .int .i64 ((j : Nat) : Int)] 65) lQ1 rQ
        have hb3 := hb.alloc hb.size (.cells #[.int .i64 1, .int .i64 wd, .slice B args.length bc, .int .i64 ((j : Nat) : Int)] 65)
        generalize wr.alloc (.cells #[.int .i64 1, .int .i64 wd, .slice B args.length bc, .int .i64 ((j : Nat) : Int)] 65) = W3 at *
        have s0 := cell_block (i := 0) rn3
        have s1 := cell_block (i := 1) rn3
        have s2 := cell_block (i := 2) rn3
        have s3 := cell_block (i := 3) rn3
        have qQ3 := cell_block (i := 0) rQ3
        simp at s0 s1 s2 s3 qQ3
        have ln3 := lt_of_get rn3
        have lQ3 := lt_of_get rQ3
        clear a0 a1 a2 a3 qP qQ rP rg rQ hb
        generalize wr.heap.size = nn at *
        have ex : ∀ z : Aft W3, z.val.cell? (aa.add j) = some (.int .i64 u) := fun z => ((z.below hb3 hb3.size).cell (p := aa.add j) (by rw [addB]; exact hal)).trans e0
        clear e0
        refine wp_region_aft_tail 8 (by kernel_rfl) (by kernel_rfl) ?_
        simp only [List.take_succ_cons, List.take_zero, List.drop_succ_cons, List.drop_zero]
        repeat (go_big_quiet_step (fail))
        refine wpQuiet_nil ?_
        intro y
        have rgy := heap_aft y (lt_of_get rg3) rg3
        have rPy := heap_aft y (lt_of_get rP3) rP3
        have rQy := heap_aft y (lt_of_get rQ3) rQ3
        have hby := y.below hb3 hb3.size
        have qk := (cell_block (i := k) rgy).trans (rowA_in (row_here HVL.out hlt))
        have fk := free_block (i := k) rgy
        have HFIN := Lib.hid (show (y.val.setCell ⟨w.heap.size + 1, k, none⟩ (.int .i64 u)).heap[w.heap.size]? = some (.cells #[.slice (some ad) ns.length capN] 23) ∧ (y.val.setCell ⟨w.heap.size + 1, k, none⟩ (.int .i64 u)).heap[w.heap.size + 1]? = some (.cells (rowA (valsK ns ls (k + 1) ++ List.replicate (ns.length - (k + 1)) 0)) 3) ∧ (y.val.setCell ⟨w.heap.size + 1, k, none⟩ (.int .i64 u)).heap[q]? = some (.cells #[.slice (some ⟨w.heap.size + 1, 0, none⟩) ns.length ns.length] 22) ∧ Below w.heap.size w (y.val.setCell ⟨w.heap.size + 1, k, none⟩ (.int .i64 u)) from
          ⟨heap_set_ne rPy (by omega), by rw [heap_set rgy, rowA_set, row_next HVL.out hlt, HS.out, HV.out, HG.out], heap_set_ne rQy (by omega), hby.setCell (by simp) _⟩)
        generalize y.val = W4 at *
        clear rgy rPy rQy hby rn3 rP3 rg3 rQ3 hb3 s0 s1 s2 s3 qQ3
        go_wp2
        go_roundw
        case rel => exact ⟨k + 1, by omega, by go_num, HFIN.out.1, HFIN.out.2.1, HFIN.out.2.2.1, HFIN.out.2.2.2⟩
        case measure => simp [intOf]; omega
      · have HV := Lib.hid (show valN ns ls (valsK ns ls k) ⟨op, wd, args, v⟩ = resG op wd v (wAt ns args 0) (vAt (valsK ns ls k) args 0) (wAt ns args 1) (vAt (valsK ns ls k) args 1) (vAt (valsK ns ls k) args 2) from if_neg ho)
        have ho1 : (op == 1) = false := by simpa using ho
        go_wp2_with fail
        have rn3 : (wr.alloc (.cells #[.int .i64 op, .int .i64 wd, .slice B args.length bc, .int .i64 v] 65)).heap[wr.heap.size]? = some (.cells #[.int .i64 op, .int .i64 wd, .slice B args.length bc, .int .i64 v] 65) := heap_alloc_new _ _
        have rP3 := heap_alloc' (o := .cells #[.int .i64 op, .int .i64 wd, .slice B args.length bc, .int .i64 v] 65) lP1 rP
        have rg3 := heap_alloc' (o := .cells #[.int .i64 op, .int .i64 wd, .slice B args.length bc, .int .i64 v] 65) lg1 rg
        have rQ3 := heap_alloc' (o := .cells #[.int .i64 op, .int .i64 wd, .slice B args.length bc, .int .i64 v] 65) lQ1 rQ
        have hb3 := hb.alloc hb.size (.cells #[.int .i64 op, .int .i64 wd, .slice B args.length bc, .int .i64 v] 65)
        generalize wr.alloc (.cells #[.int .i64 op, .int .i64 wd, .slice B args.length bc, .int .i64 v] 65) = W3 at *
        have s0 := cell_block (i := 0) rn3
        have s1 := cell_block (i := 1) rn3
        have s2 := cell_block (i := 2) rn3
        have s3 := cell_block (i := 3) rn3
        have qQ3 := cell_block (i := 0) rQ3
        simp at s0 s1 s2 s3 qQ3
        have ln3 := lt_of_get rn3
        have lQ3 := lt_of_get rQ3
        clear a0 a1 a2 a3 qP qQ rP rg rQ hb
        generalize wr.heap.size = nn at *
        have HBA : Hid (∀ z : Aft W3, Calls Tryd.prog 87 #[.agg #[.int .i64 op, .int .i64 wd, .slice B args.length bc, .int .i64 v], .func (.func 88) #[] #[.pointer (some ⟨w.heap.size, 0, none⟩), .pointer (some ⟨q, 0, none⟩)]] z.val fun e w' => e = .returned (.agg #[.int .i64 (wAt ns args 0), .int .i64 (vAt (valsK ns ls k) args 0), .int .i64 (wAt ns args 1), .int .i64 (vAt (valsK ns ls k) args 1), .int .i64 (wAt ns args 2), .int .i64 (vAt (valsK ns ls k) args 2)]) ∧ ∃ x : Aft z.val, w' = x.val) :=
          Lib.hid (fun z => bargs_c ⟨op, wd, args, v⟩ k ls.length B bc w.heap.size q (w.heap.size + 1) ns.length ns.length (some ad) capN ns (valsK ns ls k) hns hns z.val (z.lt' (lt_of_get rP3)) (z.lt' (lt_of_get rQ3)) (z.lt' (lt_of_get rg3)) HALL.out HX.out hk (fun j hj => by
            obtain ⟨u, h1, h2⟩ := row_before (m := ns.length - k) (vs := valsK ns ls k) (k := j) (by rw [HVL.out]; exact hj)
            exact ⟨u, h1, (cell_block (heap_aft z (lt_of_get rg3) rg3)).trans (rowA_in h2)⟩)
            (by have := cell_block (i := 0) (heap_aft z (lt_of_get rP3) rP3); simpa using this) (by have := cell_block (i := 0) (heap_aft z (lt_of_get rQ3) rQ3); simpa using this) (HN.out.below (z.below hb3 hb3.size)) (HBL.out.below (z.below hb3 hb3.size)))
        have HF := Lib.hid (fit3 HALL.out HX.out (valsK_bd HLV.out (fun n hn => by obtain ⟨i, hi, rfl⟩ := List.mem_iff_getElem.1 hn; exact ⟨(HALL.out i _ (List.getElem?_eq_getElem hi)).w1, (HALL.out i _ (List.getElem?_eq_getElem hi)).w2⟩) k))
        simp only at HF
        generalize wAt ns args 0 = aw at *
        generalize wAt ns args 1 = bw at *
        generalize wAt ns args 2 = cw at *
        generalize vAt (valsK ns ls k) args 0 = av at *
        generalize vAt (valsK ns ls k) args 1 = bv at *
        generalize vAt (valsK ns ls k) args 2 = cv at *
        refine wp_region_aft_tail 8 (by kernel_rfl) (by kernel_rfl) ?_
        simp only [List.take_succ_cons, List.take_zero, List.drop_succ_cons, List.drop_zero]
        repeat (go_big_quiet_step (first | (go_at_call 87; exact Calls.qa (HBA.out _)) | (go_at_call 86; exact Calls.qa (resultOf_c op wd v aw av bw bv cw cv HF.out B _ bc _))))
        refine wpQuiet_nil ?_
        intro y
        have rgy := heap_aft y (lt_of_get rg3) rg3
        have rPy := heap_aft y (lt_of_get rP3) rP3
        have rQy := heap_aft y (lt_of_get rQ3) rQ3
        have hby := y.below hb3 hb3.size
        have qk := (cell_block (i := k) rgy).trans (rowA_in (row_here HVL.out hlt))
        have fk := free_block (i := k) rgy
        have HFIN := Lib.hid (show (y.val.setCell ⟨w.heap.size + 1, k, none⟩ (.int .i64 (resG op wd v aw av bw bv cv))).heap[w.heap.size]? = some (.cells #[.slice (some ad) ns.length capN] 23) ∧ (y.val.setCell ⟨w.heap.size + 1, k, none⟩ (.int .i64 (resG op wd v aw av bw bv cv))).heap[w.heap.size + 1]? = some (.cells (rowA (valsK ns ls (k + 1) ++ List.replicate (ns.length - (k + 1)) 0)) 3) ∧ (y.val.setCell ⟨w.heap.size + 1, k, none⟩ (.int .i64 (resG op wd v aw av bw bv cv))).heap[q]? = some (.cells #[.slice (some ⟨w.heap.size + 1, 0, none⟩) ns.length ns.length] 22) ∧ Below w.heap.size w (y.val.setCell ⟨w.heap.size + 1, k, none⟩ (.int .i64 (resG op wd v aw av bw bv cv))) from
          ⟨heap_set_ne rPy (by omega), by rw [heap_set rgy, rowA_set, row_next HVL.out hlt, HS.out, HV.out], heap_set_ne rQy (by omega), hby.setCell (by simp) _⟩)
        generalize y.val = W4 at *
        clear rgy rPy rQy hby rn3 rP3 rg3 rQ3 hb3 s0 s1 s2 s3 qQ3
        go_wp2
        go_roundw
        case rel => exact ⟨k + 1, by omega, by go_num, HFIN.out.1, HFIN.out.2.1, HFIN.out.2.2.1, HFIN.out.2.2.2⟩
        case measure => simp [intOf]; omega
    · obtain rfl : k = ns.length := by omega
      have HF := Lib.hid (show CopiedI w (valsL ns ls) (.returned (.slice (some ⟨w.heap.size + 1, 0, none⟩) ns.length ns.length)) wr from CopiedI.mk' (valsL_len ns ls) (by rw [Nat.sub_self, List.replicate_zero, List.append_nil] at rg; exact rg) hb)
      go_wp2
      go_ret
      exact HF.out

end Go.Proofs.YtkdonapgonegkaaDoor

set_option linter.unusedSimpArgs false
set_option linter.unusedVariables false
namespace Go.Proofs.YtkdonapgonegkaaDoor
open Go.RowKit Go.BigFrame

set_option maxRecDepth 100000 in
set_option maxHeartbeats 1600000 in
theorem firstWrong_value (c0 : Value) (E : Nat → Int) (A : Option Addr) (cap : Nat) (ns : List Int) (hl : ns.length ≤ 65536) (w : World) (h : LiesI w A ns)
    (hK : ∀ (k : Nat) (x : Int), ns[k]? = some x → ∀ W : World, Below w.heap.size w W → Calls Tryd.prog 85 #[.int .i64 k, .int .i64 x, c0] W fun e w' => e = .returned (.int .i64 (E k)) ∧ ∃ y : Aft W, w' = y.val) :
    Calls Tryd.prog 45 #[.slice A ns.length cap, .func (.func 85) #[] #[c0]] w fun e w' => e = .returned (.tuple #[.int .i64 (firstAt E ns.length 0).1, .int .i64 (firstAt E ns.length 0).2]) ∧ ∃ x : Aft w, w' = x.val := by
  have HH := Lib.hid h
  have HK := Lib.hid hK
  clear h hK
  go_enter Tryd.func45, Tryd.ntmps45
  go_wp2
  go_loopw [11] (fun v11 wr => ∃ k : Nat, k ≤ ns.length ∧ v11 = .int .i64 k ∧ firstAt E ns.length 0 = firstAt E (ns.length - k) k ∧ Below w.heap.size w wr) (fun v11 _ => ns.length - (intOf v11).toNat)
  case atStart => exact ⟨0, by omega, rfl, rfl, Below.refl _ _⟩
  case round =>
    obtain ⟨k, hk, rfl, hf, hb⟩ := hrel
    have HF := Lib.hid hf
    have HB := Lib.hid hb
    clear hf hb
    by_cases hlt : k < ns.length
    · have hkk : (k : Int) < ns.length := by omega
      have HX := Lib.hid (List.getElem?_eq_getElem hlt)
      generalize ns[k] = x at *
      obtain ⟨ad, rfl, hbk, hcell⟩ := HH.out.cell HX.out
      have c : wr.cell? (ad.add k) = some (.int .i64 x) := (HB.out.cell (p := ad.add k) (by rw [addB]; exact hbk)).trans hcell
      clear hcell hbk
      go_wp2_with fail
      refine (HK.out k x HX.out _ HB.out).mono ?_
      rintro e w' ⟨rfl, y, rfl⟩
      by_cases h0 : E k = 0
      · have hn := Lib.hid (firstAt_go hlt h0)
        have h0' : (E k == 0) = true := by simpa using h0
        rw [h0]
        clear h0 h0' c
        go_wp2
        go_roundw
        case rel => exact ⟨k + 1, by omega, by go_num, HF.out.trans hn.out, y.below HB.out HB.out.size⟩
        case measure => simp [intOf]; omega
      · have hn := Lib.hid (firstAt_stop hlt h0)
        have n1 : (E k == 0) = false := by simpa using h0
        have n2 : (E k != 0) = true := by simpa using h0
        clear h0 c
        generalize E k = er at *
        go_wp2
        go_ret2
        exact ⟨tupII (by rw [HF.out, hn.out]) (by rw [HF.out, hn.out]), Below.aft (y.below HB.out HB.out.size)⟩
    · have hn := Lib.hid (firstAt_end (f := E) (n := ns.length) (k := k) (by omega))
      go_wp2
      go_ret2
      exact ⟨tupII (by rw [HF.out, hn.out]) (by rw [HF.out, hn.out]), Below.aft HB.out⟩


set_option maxRecDepth 100000 in
set_option maxHeartbeats 1600000 in
theorem errorOfValues1_c (k : Nat) (x y : Int) (P : Nat) (A : Option Addr) (cap : Nat) (ls : List Int) (hls : ls.length ≤ 65536) (hy : ls[k]? = some y) (h1 : 0 ≤ y) (h2 : y ≤ 16) (w : World) (c0 : w.cell? ⟨P, 0, none⟩ = some (.slice A ls.length cap)) (hA : LiesI w A ls) :
    Calls Tryd.prog 85 #[.int .i64 k, .int .i64 x, .pointer (some ⟨P, 0, none⟩)] w fun e w' => e = .returned (.int .i64 (eIf (!isV x y) 2)) ∧ w = w' := by
  obtain ⟨ad, rfl, _, c⟩ := hA.cell hy
  have hk := (List.getElem?_eq_some_iff.1 hy).1
  have hkk : (k : Int) < ls.length := by omega
  have HV := Lib.hid (fun w => isValue_c x y h1 h2 w)
  clear hA hy
  go_enter Tryd.func85, Tryd.ntmps85
  go_wp2_with (first | (go_at_call 67; ((with_reducible refine (HV.out _).mono ?_); rintro e w' ⟨rfl, rfl⟩)) | (go_at_call 47; refine (errorIf_c _ _ _).mono ?_; rintro e w' ⟨rfl, rfl⟩))
  go_ret
  exact ⟨rfl, rfl⟩
/-- The error of one value of a leaf; of values of all leaves. -/
def valK (ls vs : List Int) (k : Nat) : Int := eIf (!isV (vs.getD k 0) (ls.getD k 0)) 2
def valE (ls vs : List Int) : Int := if vs.length = ls.length then (firstAt (valK ls vs) vs.length 0).2 else 10
theorem valK_at {ls vs : List Int} {k : Nat} {x y : Int} (hx : vs[k]? = some x) (hy : ls[k]? = some y) : valK ls vs k = eIf (!isV x y) 2 := by unfold valK; simp [List.getD, hx, hy]

set_option maxRecDepth 100000 in
set_option maxHeartbeats 1600000 in
theorem errorOfValues_c (A : Option Addr) (cap : Nat) (ls : List Int) (hls : ls.length ≤ 65536) (hw : ∀ x ∈ ls, isW x = true) (V : Option Addr) (cv : Nat) (vs : List Int) (hvs : vs.length ≤ 65536) (w : World) (hA : LiesI w A ls) (hV : LiesI w V vs) :
    Calls Tryd.prog 55 #[.slice A ls.length cap, .slice V vs.length cv] w fun e w' => e = .returned (.int .i64 (valE ls vs)) ∧ ∃ x : Aft w, w' = x.val := by
  by_cases hl : vs.length = ls.length
  case neg =>
    have hl' : ((vs.length : Int) == ls.length) = false := by simpa using (by omega : ¬ (vs.length : Int) = ls.length)
    have HR := Lib.hid (show valE ls vs = 10 from if_neg hl)
    clear hA hV hl hw
    go_enter Tryd.func55, Tryd.ntmps55
    go_wp2
    go_ret
    exact ⟨retI HR.out.symm, Below.aft (by (repeat' (first | (with_reducible exact Below.refl _ _) | (with_reducible assumption) | (with_reducible refine Below.alloc ?_ ?_ _) | (with_reducible refine Below.drew ?_) | (with_reducible refine Aft.below _ ?_ ?_) | (with_reducible refine Below.setCell_new ?_ ?_ _ _) | (with_reducible exact Nat.le_refl _) | (with_reducible refine Aft.le _ ?_) | (with_reducible refine le_alloc ?_) | (with_reducible refine le_drew ?_) | (with_reducible refine le_setCell ?_) | omega)))⟩
  have HR := Lib.hid (show valE ls vs = (firstAt (valK ls vs) vs.length 0).2 from if_pos hl)
  have hb0 : Below w.heap.size w (w.alloc (.cells #[.slice A ls.length cap] 22)) := (Below.refl _ _).alloc (Nat.le_refl _) _
  have c0 : ((w.alloc (.cells #[.slice A ls.length cap] 22))).cell? ⟨w.heap.size, 0, none⟩ = some (.slice A ls.length cap) := cell_block (i := 0) (heap_alloc_new _ _)
  have z0 : w.heap.size < ((w.alloc (.cells #[.slice A ls.length cap] 22))).heap.size := by simp
  have HF := Lib.hid (firstWrong_value (.pointer (some ⟨w.heap.size, 0, none⟩)) (valK ls vs) V cv vs hvs (w.alloc (.cells #[.slice A ls.length cap] 22)) (hV.below hb0) (fun k x hx W hb => by
    have hk : k < ls.length := by have := (List.getElem?_eq_some_iff.1 hx).1; omega
    have hy := List.getElem?_eq_getElem hk
    have h12 := isW_iff.1 (hw _ (List.getElem_mem hk))
    rw [valK_at hx hy]
    exact (errorOfValues1_c k x ls[k] w.heap.size A cap ls hls hy (by omega) h12.2 W ((hb.cell (p := ⟨w.heap.size, 0, none⟩) z0).trans c0) ((hA.below hb0).below hb)).mono fun e w' ⟨he, hw⟩ => ⟨he, ⟨W, Below.refl _ _⟩, hw.symm⟩))
  have HB := Lib.hid hb0
  have hl' : ((vs.length : Int) == ls.length) = true := by simpa using (by omega : (vs.length : Int) = ls.length)
  clear hA hV hl hw hb0 c0 z0
  generalize firstAt (valK ls vs) vs.length 0 = q at *
  go_enter Tryd.func55, Tryd.ntmps55
  go_wp2_with fail
  refine HF.out.mono ?_
  rintro e w' ⟨rfl, y, rfl⟩
  go_wp2
  go_ret
  exact ⟨retI HR.out.symm, Below.aft (y.below HB.out HB.out.size)⟩

end Go.Proofs.YtkdonapgonegkaaDoor

set_option linter.unusedSimpArgs false
set_option linter.unusedVariables false
namespace Go.Proofs.YtkdonapgonegkaaDoor
open Go.RowKit Go.BigFrame

theorem firstAt_zero {f : Nat → Int} : ∀ {m k : Nat}, (firstAt f m k).2 = 0 → ∀ j, k ≤ j → j < k + m → f j = 0 := by
  intro m
  induction m with
  | zero => intro k _ j h1 h2; omega
  | succ m ih =>
    intro k h j h1 h2
    unfold firstAt at h
    by_cases hk : f k = 0
    · rw [if_pos hk] at h
      by_cases hj : j = k
      · rw [hj]; exact hk
      · exact ih h j (by omega) (by omega)
    · rw [if_neg hk] at h; exact absurd h hk
theorem eIf_zero {b : Bool} {e : Int} (h : eIf b e = 0) (he : e ≠ 0) : b = false := by
  cases b
  · rfl
  · exact absurd h he

theorem nodeE_ok {ls : List Int} {before : List Nd} {n : Nd} (h : nodeE ls before n = 0) : isIx n.op 19 = true ∧ isW n.wd = true ∧ (n.args.length : Int) = argN n.op ∧ (∀ a ∈ n.args, isIx a before.length = true) ∧ numE ls n.op n.wd n.v = 0 ∧ fitW n.op n.wd n.v (wAt before n.args 0) (wAt before n.args 1) (wAt before n.args 2) = true := by
  unfold nodeE at h
  by_cases h1 : isIx n.op 19 = true
  · rw [if_pos h1] at h
    by_cases h2 : isW n.wd = true
    · rw [if_pos h2] at h
      simp only at h
      by_cases h3 : firstE [eIf ((n.args.length : Int) != argN n.op) 10, argsE n.args before.length 9, numE ls n.op n.wd n.v] = 0
      · rw [if_pos h3] at h
        have h4 := eIf_zero h (by decide)
        simp only [firstE_cons] at h3
        by_cases g1 : eIf ((n.args.length : Int) != argN n.op) 10 = 0
        · rw [if_pos g1] at h3
          by_cases g2 : argsE n.args before.length 9 = 0
          · rw [if_pos g2] at h3
            have g3 : numE ls n.op n.wd n.v = 0 := by
              by_cases g3 : numE ls n.op n.wd n.v = 0
              · exact g3
              · rw [if_neg g3] at h3; exact h3
            refine ⟨h1, h2, ?_, ?_, g3, by simpa using h4⟩
            · have := eIf_zero g1 (by decide); simpa using this
            · unfold argsE at g2
              intro a ha
              by_cases g4 : (n.args.all fun i => isIx i before.length) = true
              · exact List.all_eq_true.1 g4 a ha
              · rw [if_neg g4] at g2; exact absurd g2 (by decide)
          · rw [if_neg g2] at h3; exact absurd h3 g2
        · rw [if_neg g1] at h3; exact absurd h3 g1
      · rw [if_neg h3] at h; exact absurd h h3
    · rw [if_neg h2] at h; exact absurd h (by decide)
  · rw [if_neg h1] at h; exact absurd h (by decide)
theorem chk_ok {ls : List Int} {ns : List Nd} (h : (chk ls ns).2 = 0) : ls.length ≤ 40 ∧ (∀ x ∈ ls, isW x = true) ∧ ns.length ≤ 400 ∧ ∀ k n, ns[k]? = some n → nodeE ls (ns.take k) n = 0 := by
  unfold chk at h
  by_cases h1 : 40 < ls.length
  · rw [if_pos h1] at h; exact absurd h (by decide)
  · rw [if_neg h1] at h
    by_cases h2 : (firstAt (leafE ls) ls.length 0).2 = 0
    · rw [if_pos h2] at h
      by_cases h3 : 400 < ns.length
      · rw [if_pos h3] at h; exact absurd h (by decide)
      · rw [if_neg h3] at h
        refine ⟨by omega, ?_, by omega, ?_⟩
        · intro x hx
          obtain ⟨i, hi, rfl⟩ := List.mem_iff_getElem.1 hx
          have := firstAt_zero h2 i (by omega) (by omega)
          unfold leafE at this
          have := eIf_zero this (by decide)
          simpa [hi] using this
        · intro k n hn
          have := firstAt_zero h k (by omega) (by have := (List.getElem?_eq_some_iff.1 hn).1; omega)
          unfold nodesE at this
          rw [hn] at this
          exact this
    · rw [if_neg h2] at h; exact absurd h h2
theorem chk_nodes {ls : List Int} {ns : List Nd} (h : (chk ls ns).2 = 0) (k : Nat) (n : Nd) (hn : ns[k]? = some n) : NodeOK ns ls.length k n := by
  have hk := (List.getElem?_eq_some_iff.1 hn).1
  obtain ⟨h1, h2, h3, h4, h5, _⟩ := nodeE_ok ((chk_ok h).2.2.2 k n hn)
  obtain ⟨o0, o1⟩ := isIx_iff.1 h1
  obtain ⟨w1, w2⟩ := isW_iff.1 h2
  have al := argN_le n.op
  refine ⟨o0, by omega, w1, w2, by omega, ?_, ?_, ?_, ?_, ?_⟩
  · intro i a ha
    have := isIx_iff.1 (h4 a (List.mem_of_getElem? ha))
    rw [List.length_take_of_le (by omega)] at this
    exact this
  · intro e; rw [e] at h3; exact Int.ofNat_inj.1 h3
  · intro e; rw [e] at h3; exact Int.ofNat_inj.1 h3
  · intro e
    rw [e] at h5
    unfold numE at h5
    rw [if_neg (by decide), if_pos rfl] at h5
    by_cases hx : isIx n.v ls.length = true
    · exact isIx_iff.1 hx
    · rw [if_neg hx] at h5; exact absurd h5 (by decide)
  · intro e
    rw [e] at h5
    unfold numE at h5
    rw [if_neg (by decide), if_neg (by decide), if_pos rfl] at h5
    have := eIf_zero h5 (by decide)
    have := isIx_iff.1 (show isIx n.v 16 = true by simpa using this)
    omega
theorem valE_ok {ls vs : List Int} (hw : ∀ x ∈ ls, isW x = true) (h : valE ls vs = 0) : vs.length = ls.length ∧ ∀ x ∈ vs, 0 ≤ x ∧ x ≤ 65536 := by
  unfold valE at h
  by_cases h1 : vs.length = ls.length
  · rw [if_pos h1] at h
    refine ⟨h1, fun x hx => ?_⟩
    obtain ⟨i, hi, rfl⟩ := List.mem_iff_getElem.1 hx
    have hz := firstAt_zero h i (by omega) (by omega)
    rw [valK_at (List.getElem?_eq_getElem hi) (List.getElem?_eq_getElem (by omega))] at hz
    have hv := eIf_zero hz (by decide)
    have hiw := isW_iff.1 (hw ls[i] (List.getElem_mem _))
    have hp := pw_bd (n := ls[i]) (by omega) hiw.2
    have : isV vs[i] ls[i] = true := by simpa using hv
    unfold isV at this
    simp only [Bool.and_eq_true, decide_eq_true_eq] at this
    omega
  · rw [if_neg h1] at h; exact absurd h (by decide)
/-- A row of numbers, or an error and none. -/
def RowE (w : World) (er : Int) (xs : List Int) (e : Ending) (w' : World) : Prop :=
  (er ≠ 0 ∧ e = .returned (.tuple #[.slice none 0 0, .int .i64 er]) ∨ er = 0 ∧ ∃ A' cap', e = .returned (.tuple #[.slice A' xs.length cap', .int .i64 0]) ∧ LiesI w' A' xs) ∧ Below w.heap.size w w'
theorem RowE.bad {w w' : World} {er : Int} {xs : List Int} (h : er ≠ 0) (hb : Below w.heap.size w w') : RowE w er xs (.returned (.tuple #[.slice none 0 0, .int .i64 er])) w' := ⟨.inl ⟨h, rfl⟩, hb⟩
theorem RowE.good {w w' : World} {xs : List Int} {A' : Option Addr} {cap' : Nat} (hl : LiesI w' A' xs) (hb : Below w.heap.size w w') : RowE w 0 xs (.returned (.tuple #[.slice A' xs.length cap', .int .i64 0])) w' := ⟨.inr ⟨rfl, A', cap', rfl, hl⟩, hb⟩
/-- The error of a graph, then another one. -/
def thenE (a b : Int) : Int := if a = 0 then b else a


set_option maxRecDepth 100000 in
set_option maxHeartbeats 1600000 in
theorem ValuesOf_c (A : Option Addr) (cap : Nat) (ls : List Int) (hls : ls.length ≤ 65536) (N : Option Addr) (capN : Nat) (ns : List Nd) (hns : ns.length ≤ 65536) (hcap : ns.length ≤ capN) (hla : ∀ n ∈ ns, n.args.length ≤ 65536) (V : Option Addr) (cv : Nat) (vs : List Int) (hvs : vs.length ≤ 65536) (w : World) (hA : LiesI w A ls) (hN : LiesN w N ns) (hV : LiesI w V vs) (ht : TabOps w) :
    Calls Tryd.prog 14 #[.slice A ls.length cap, .slice N ns.length capN, .slice V vs.length cv] w (RowE w (thenE (chk ls ns).2 (valE ls vs)) (valsL ns vs)) := by
  have HC := errorOfGraph_c A cap ls hls N capN ns hns hcap hla w hA hN ht
  by_cases h0 : (chk ls ns).2 = 0
  case neg =>
    rw [show thenE (chk ls ns).2 (valE ls vs) = (chk ls ns).2 from if_neg h0]
    generalize (chk ls ns).2 = er at *
    have HC := Lib.hid HC
    have HE := Lib.hid h0
    have n1 : (er == 0) = false := by simpa using h0
    have n2 : (er != 0) = true := by simpa using h0
    clear h0 hA hN hV ht hla hcap
    go_enter Tryd.func14, Tryd.ntmps14
    go_wp2_with fail
    refine HC.out.mono ?_
    rintro e w' ⟨rfl, y, rfl⟩
    go_wp2
    go_ret2
    exact RowE.bad HE.out y.pf
  rw [show thenE (chk ls ns).2 (valE ls vs) = valE ls vs from if_pos h0]
  rw [h0] at HC
  have HC := Lib.hid HC
  have HOK := Lib.hid (chk_ok h0)
  have HND := Lib.hid (chk_nodes h0)
  have HV := Lib.hid (fun (x : Aft w) => errorOfValues_c A cap ls hls HOK.out.2.1 V cv vs hvs x.val (hA.aft x) (hV.aft x))
  have HVV := Lib.hid hV
  have HNN := Lib.hid hN
  clear h0 hA ht hla hcap hV hN
  by_cases h1 : valE ls vs = 0
  case neg =>
    generalize valE ls vs = er at *
    have HE := Lib.hid h1
    have n1 : (er == 0) = false := by simpa using h1
    have n2 : (er != 0) = true := by simpa using h1
    clear h1
    go_enter Tryd.func14, Tryd.ntmps14
    go_wp2_with fail
    refine HC.out.mono ?_
    rintro e w' ⟨rfl, y, rfl⟩
    go_wp2_with fail
    refine (HV.out y).mono ?_
    rintro e w' ⟨rfl, z, rfl⟩
    go_wp2
    go_ret2
    exact RowE.bad HE.out (z.below y.pf y.pf.size)
  have HVO := Lib.hid (valE_ok HOK.out.2.1 h1)
  rw [h1] at HV ⊢
  clear h1
  go_enter Tryd.func14, Tryd.ntmps14
  go_wp2_with fail
  refine HC.out.mono ?_
  rintro e w' ⟨rfl, y, rfl⟩
  go_wp2_with fail
  refine (HV.out y).mono ?_
  rintro e w' ⟨rfl, z, rfl⟩
  have HB := Lib.hid (z.below y.pf y.pf.size)
  generalize z.val = W at *
  go_wp2_with fail
  refine (valuesOf_c N capN ns hns V cv vs hvs HVO.out.2 (by rw [HVO.out.1]; exact HND.out) W (HNN.out.below HB.out) (HVV.out.below HB.out)).mono ?_
  rintro e w' ⟨A', cap', rfl, hl, hb⟩
  have HF := Lib.hid (RowE.good (cap' := cap') hl (HB.out.trans (hb.mono HB.out.size)))
  clear hl hb
  go_wp2
  go_ret2
  exact HF.out

end Go.Proofs.YtkdonapgonegkaaDoor

set_option linter.unusedSimpArgs false
set_option linter.unusedVariables false
namespace Go.Proofs.YtkdonapgonegkaaDoor
open Go.RowKit Go.BigFrame

/-- The depth of a node with these arguments, by those of the nodes before it. -/
def depF (ds : List Int) (args : List Int) : Int := args.foldl (fun m a => max m (ds.getD a.toNat 0 + 1)) 0
def depK (ns : List Nd) : Nat → List Int
  | 0 => []
  | k + 1 => depK ns k ++ (match ns[k]? with | none => [] | some n => [depF (depK ns k) n.args])
def depL (ns : List Nd) : List Int := depK ns ns.length
theorem depK_step {ns : List Nd} {k : Nat} {n : Nd} (h : ns[k]? = some n) : depK ns (k + 1) = depK ns k ++ [depF (depK ns k) n.args] := by simp only [depK, h]
theorem depK_len {ns : List Nd} : ∀ {k : Nat}, k ≤ ns.length → (depK ns k).length = k := by
  intro k
  induction k with
  | zero => intro _; rfl
  | succ k ih =>
    intro h
    rw [depK_step (List.getElem?_eq_getElem (by omega)), List.length_append, ih (by omega)]; rfl
theorem depL_len (ns : List Nd) : (depL ns).length = ns.length := depK_len (Nat.le_refl _)
theorem depF_step {ds args : List Int} {j : Nat} {a : Int} (h : args[j]? = some a) : depF ds (args.take (j + 1)) = max (depF ds (args.take j)) (ds.getD a.toNat 0 + 1) := by
  obtain ⟨hj, rfl⟩ := List.getElem?_eq_some_iff.1 h
  unfold depF
  rw [List.take_succ_eq_append_getElem hj, List.foldl_append]; rfl
theorem depF_bd {ds : List Int} {b : Int} (hd : ∀ x ∈ ds, 0 ≤ x ∧ x ≤ b) (hb : 0 ≤ b) : ∀ (args : List Int), 0 ≤ depF ds args ∧ depF ds args ≤ b + 1 := by
  have key : ∀ (args : List Int) (m : Int), 0 ≤ m → m ≤ b + 1 → 0 ≤ args.foldl (fun m a => max m (ds.getD a.toNat 0 + 1)) m ∧ args.foldl (fun m a => max m (ds.getD a.toNat 0 + 1)) m ≤ b + 1 := by
    intro args
    induction args with
    | nil => intro m h0 h1; exact ⟨h0, h1⟩
    | cons a args ih =>
      intro m h0 h1
      rw [List.foldl_cons]
      have hx : 0 ≤ ds.getD a.toNat 0 ∧ ds.getD a.toNat 0 ≤ b := by
        by_cases ha : a.toNat < ds.length
        · simp only [List.getD, List.getElem?_eq_getElem ha, Option.getD_some]; exact hd _ (List.getElem_mem ha)
        · simp only [List.getD, List.getElem?_eq_none (Nat.le_of_not_lt ha), Option.getD_none]; omega
      exact ih _ (by omega) (by omega)
  intro args
  exact key args 0 (Int.le_refl _) (by omega)
theorem depK_bd {ns : List Nd} : ∀ (k : Nat) x, x ∈ depK ns k → 0 ≤ x ∧ x ≤ k := by
  intro k
  induction k with
  | zero => intro x hx; simp [depK] at hx
  | succ k ih =>
    intro x hx
    simp only [depK, List.mem_append] at hx
    rcases hx with hx | hx
    · have := ih x hx; omega
    · cases hn : ns[k]? with
      | none => rw [hn] at hx; simp at hx
      | some n =>
        rw [hn] at hx
        have hx := List.mem_singleton.1 hx
        subst hx
        have := depF_bd (ds := depK ns k) (b := k) ih (by omega) n.args
        omega
/-- The row of depths: those of the first nodes, that of the next one so far, zeros. -/
def depR (ds : List Int) (m : Int) (z : Nat) : List Int := ds ++ m :: List.replicate z 0
theorem depR_start {ds : List Int} {n k : Nat} (hk : k < n) : ds ++ List.replicate (n - k) 0 = depR ds (depF ds (([] : List Int).take 0)) (n - (k + 1)) := by
  rw [show n - k = (n - (k + 1)) + 1 by omega, List.replicate_succ]; rfl
theorem depR_set {ds : List Int} {m x : Int} {z k : Nat} (h : ds.length = k) : (depR ds m z).set k x = depR ds x z := by
  unfold depR
  rw [List.set_append_right _ _ (by omega), h, Nat.sub_self, List.set_cons_zero]
theorem depR_mid {ds : List Int} {m : Int} {z k : Nat} (h : ds.length = k) : (depR ds m z)[k]? = some m := by
  unfold depR; rw [List.getElem?_append_right (by omega), h, Nat.sub_self]; rfl
theorem depR_at {ds : List Int} {m : Int} {z a : Nat} (h : a < ds.length) : (depR ds m z)[a]? = some (ds.getD a 0) := by
  unfold depR; rw [List.getElem?_append_left h, List.getD]; simp [List.getElem?_eq_getElem h]
theorem depR_end {ds : List Int} {m : Int} {z : Nat} : depR ds m z = (ds ++ [m]) ++ List.replicate z 0 := by
  unfold depR; rw [List.append_assoc]; rfl

set_option maxRecDepth 100000 in
set_option maxHeartbeats 1600000 in
theorem DepthsOf_c (A : Option Addr) (cap : Nat) (ls : List Int) (hls : ls.length ≤ 65536) (N : Option Addr) (capN : Nat) (ns : List Nd) (hns : ns.length ≤ 65536) (hcap : ns.length ≤ capN) (hla : ∀ n ∈ ns, n.args.length ≤ 65536) (w : World) (hA : LiesI w A ls) (hN : LiesN w N ns) (ht : TabOps w) :
    Calls Tryd.prog 17 #[.slice A ls.length cap, .slice N ns.length capN] w (RowE w (chk ls ns).2 (depL ns)) := by
  have HC := errorOfGraph_c A cap ls hls N capN ns hns hcap hla w hA hN ht
  by_cases h0 : (chk ls ns).2 = 0
  case neg =>
    generalize (chk ls ns).2 = er at *
    have HC := Lib.hid HC
    have HE := Lib.hid h0
    have n1 : (er == 0) = false := by simpa using h0
    have n2 : (er != 0) = true := by simpa using h0
    clear h0 hA hN ht hla hcap
    go_enter Tryd.func17, Tryd.ntmps17
    go_wp2_with fail
    refine HC.out.mono ?_
    rintro e w' ⟨rfl, y, rfl⟩
    go_wp2
    go_ret2
    exact RowE.bad HE.out y.pf
  obtain ⟨i0, hi, hz0, hz1, hz2⟩ := info_parts int_info
  rw [h0] at HC ⊢
  have HC := Lib.hid HC
  have HND := Lib.hid (chk_nodes h0)
  have HNN := Lib.hid hN
  clear h0 hA ht hcap hN
  have HLA := Lib.hid hla
  clear hla
  go_enter Tryd.func17, Tryd.ntmps17
  go_wp2_with fail
  refine HC.out.mono ?_
  rintro e w' ⟨rfl, y, rfl⟩
  have HB := Lib.hid y.pf
  generalize y.val = W at *
  go_wp2_with (refine wpList_make_full _ rfl _ _ 22 rfl W.heap.size 3 i0 _ 1 Tryd.underlying22 hi hz0 hz1 .i64 .i64 _ _ ns.length rfl rfl rfl rfl (by rw [hz2]; omega) (by unfold maxLen; omega) (Nat.le_refl _) ?_; intro W1 hown hgr; have hb2 := (Below.refl W.heap.size W).grown hgr (Nat.le_refl _) (fun q hq => by cases hq); have rg : W1.heap[W.heap.size]? = some (.cells (rowA (List.replicate ns.length 0)) 3) := (by have := row_block hown rfl; rwa [row_made] at this); clear hown hgr)
  have lg := lt_of_get rg
  have hbw := HB.out.trans (hb2.mono HB.out.size)
  have lw := HB.out.size
  clear hb2
  generalize W.heap.size = g at *
  go_loopw [23] (fun v23 wr => ∃ k : Nat, k ≤ ns.length ∧ v23 = .int .i64 k ∧ wr.heap[g]? = some (.cells (rowA (depK ns k ++ List.replicate (ns.length - k) 0)) 3) ∧ Below w.heap.size w wr) (fun v23 _ => ns.length - (intOf v23).toNat)
  case atStart => exact ⟨0, by omega, rfl, rg, hbw⟩
  case round =>
    clear rg hbw lg
    obtain ⟨k, hk, rfl, rg, hb⟩ := hrel
    have HVL := Lib.hid (depK_len hk)
    have HBD := Lib.hid (depK_bd (ns := ns) k)
    by_cases hlt : k < ns.length
    · have hkk : (k : Int) < ns.length := by omega
      have HX := Lib.hid (List.getElem?_eq_getElem hlt)
      have HL := Lib.hid (HLA.out _ (List.getElem_mem hlt))
      generalize ns[k] = x at *
      have HS := Lib.hid (depK_step HX.out)
      have HOK := Lib.hid (HND.out k x HX.out)
      obtain ⟨ad, rfl, hbl, c0, c1, c3, B, bc, c2, hB⟩ := HNN.out.cells HX.out
      have hbk : ∀ p : Addr, p.block = ad.block → wr.cell? p = w.cell? p := fun p hp => hb.cell (p := p) (by rw [hp]; exact hbl)
      have a0 := (hbk (ad.add (k * 4)) (by rw [addB])).trans c0
      have a1 : wr.cell? ⟨(ad.add (k * 4)).block, (ad.add (k * 4)).off + 1, none⟩ = some (.int .i64 x.wd) := (hbk ((ad.add (k * 4)).add 1) (by rw [addB, addB])).trans c1
      have a2 : wr.cell? ⟨(ad.add (k * 4)).block, (ad.add (k * 4)).off + 2, none⟩ = some (.slice B x.args.length bc) := (hbk ((ad.add (k * 4)).add 2) (by rw [addB, addB])).trans c2
      have a3 : wr.cell? ⟨(ad.add (k * 4)).block, (ad.add (k * 4)).off + 3, none⟩ = some (.int .i64 x.v) := (hbk ((ad.add (k * 4)).add 3) (by rw [addB, addB])).trans c3
      clear c0 c1 c2 c3 hbk
      have HBL := Lib.hid hB
      clear hB
      obtain ⟨op, wd, args, v⟩ := x
      simp only at a0 a1 a2 a3 HBL HL HS
      have hal : args.length ≤ 65536 := HL.out
      have rg1 := heap_alloc' (o := .cells #[.int .i64 op, .int .i64 wd, .slice B args.length bc, .int .i64 v] 65) (lt_of_get rg) rg
      have hb1 := hb.alloc hb.size (.cells #[.int .i64 op, .int .i64 wd, .slice B args.length bc, .int .i64 v] 65)
      have HST := Lib.hid (depR_start (ds := depK ns k) hlt)
      go_wp2
      clear a0 a1 a2 a3 rg hb
      generalize wr.alloc (.cells #[.int .i64 op, .int .i64 wd, .slice B args.length bc, .int .i64 v] 65) = W3 at *
      generalize wr.heap.size = nn at *
      go_loopw [31] (fun v31 w4 => ∃ j : Nat, j ≤ args.length ∧ v31 = .int .i64 j ∧ w4.heap[g]? = some (.cells (rowA (depR (depK ns k) (depF (depK ns k) (args.take j)) (ns.length - (k + 1)))) 3) ∧ Below w.heap.size w w4) (fun v31 _ => args.length - (intOf v31).toNat)
      case atStart => exact ⟨0, by omega, rfl, by have h := HST.out; rw [h] at rg1; exact rg1, hb1⟩
      case round =>
        clear rg1 hb1
        obtain ⟨j, hj, rfl, rg4, hb4⟩ := hrel
        by_cases hlt2 : j < args.length
        · have hjj : (j : Int) < args.length := by omega
          have HXA := Lib.hid (List.getElem?_eq_getElem hlt2)
          generalize args[j] = a at *
          obtain ⟨g0, g1⟩ := HOK.out.ai j a HXA.out
          obtain ⟨p, rfl⟩ := Int.eq_ofNat_of_zero_le g0
          have HFS := Lib.hid (depF_step (ds := depK ns k) HXA.out)
          obtain ⟨ba, rfl, hbal, ca⟩ := HBL.out.cell HXA.out
          have ca1 := (hb4.cell (p := ba.add j) (by rw [addB]; exact hbal)).trans ca
          have qk := (cell_block (i := k) rg4).trans (rowA_in (depR_mid HVL.out))
          have qp := (cell_block (i := p) rg4).trans (rowA_in (depR_at (by rw [HVL.out]; omega)))
          have lg4 := lt_of_get rg4
          have hm := depF_bd HBD.out (by omega) (args.take j)
          have hpk : p < k := by omega
          have hpn : (p : Int) < ns.length := by omega
          have he : 0 ≤ (depK ns k).getD p 0 ∧ (depK ns k).getD p 0 ≤ k := by
            have hpl : p < (depK ns k).length := by rw [HVL.out]; omega
            simp only [List.getD, List.getElem?_eq_getElem hpl, Option.getD_some]; exact HBD.out _ (List.getElem_mem hpl)
          have HFS : Hid (depF (depK ns k) (args.take (j + 1)) = max (depF (depK ns k) (args.take j)) ((depK ns k).getD p 0 + 1)) := Lib.hid HFS.out
          clear ca
          generalize (depK ns k).getD p 0 = e at *
          generalize depF (depK ns k) (args.take j) = m at *
          obtain ⟨he0, he1⟩ := he
          obtain ⟨hm0, hm1⟩ := hm
          go_wp2_with fail
          refine wp_region_aft_tail 13 (by kernel_rfl) (by kernel_rfl) ?_
          simp only [List.take_succ_cons, List.take_zero, List.drop_succ_cons, List.drop_zero]
          repeat (go_big_quiet_step (fail))
          refine wpQuiet_nil ?_
          intro y
          obtain ⟨mx, hmx⟩ : ∃ mx, (if m < e + 1 then e + 1 else m) = mx := ⟨_, rfl⟩
          rw [hmx]
          have HM := Lib.hid (show max m (e + 1) = mx by rw [← hmx]; split <;> omega)
          clear hmx
          have rgy := heap_aft y lg4 rg4
          have hby := y.below hb4 hb4.size
          have qk := (cell_block (i := k) rgy).trans (rowA_in (depR_mid HVL.out))
          have fk := free_block (i := k) rgy
          have HFIN := Lib.hid (show (y.val.setCell ⟨g, k, none⟩ (.int .i64 mx)).heap[g]? = some (.cells (rowA (depR (depK ns k) (depF (depK ns k) (args.take (j + 1))) (ns.length - (k + 1)))) 3) ∧ Below w.heap.size w (y.val.setCell ⟨g, k, none⟩ (.int .i64 mx)) from
            ⟨by rw [heap_set rgy, rowA_set, depR_set HVL.out, HFS.out, HM.out], hby.setCell lw _⟩)
          generalize y.val = W4 at *
          clear rgy hby
          go_wp2
          go_roundw
          case rel => exact ⟨j + 1, by omega, by go_num, HFIN.out.1, HFIN.out.2⟩
          case measure => simp [intOf]; omega
        · obtain rfl : j = args.length := by omega
          have HFIN := Lib.hid (show wr.heap[g]? = some (.cells (rowA (depK ns (k + 1) ++ List.replicate (ns.length - (k + 1)) 0)) 3) from by
            rw [List.take_length] at rg4; rw [rg4, depR_end, HS.out])
          clear rg4
          go_wp2
          go_roundw
          case rel => exact ⟨k + 1, by omega, by go_num, HFIN.out, hb4⟩
          case measure => simp [intOf]; omega
    · obtain rfl : k = ns.length := by omega
      rw [Nat.sub_self, List.replicate_zero, List.append_nil] at rg
      have HF := Lib.hid (show RowE w 0 (depL ns) (.returned (.tuple #[.slice (some ⟨g, 0, none⟩) ns.length ns.length, .int .i64 0])) wr from by
        have := RowE.good (cap' := ns.length) (LiesI.block (ns := depL ns) rg) hb
        rwa [depL_len] at this)
      go_wp2
      go_ret2
      exact HF.out

end Go.Proofs.YtkdonapgonegkaaDoor

set_option linter.unusedSimpArgs false
set_option linter.unusedVariables false
namespace Go.Proofs.YtkdonapgonegkaaDoor
open Go.RowKit Go.BigFrame

/-- A row of truth values. -/
def rowB (bs : List Bool) : Array Value := (bs.map Value.bool).toArray
theorem rowB_in {bs : List Bool} {k : Nat} {b : Bool} (h : bs[k]? = some b) : (rowB bs)[k]? = some (.bool b) := by simp [rowB, h]
theorem rowB_set (bs : List Bool) (k : Nat) (b : Bool) : (rowB bs).setIfInBounds k (.bool b) = rowB (bs.set k b) := by
  simp [rowB, List.setIfInBounds_toArray, List.map_set]
theorem rowB_made (n : Nat) : ((madeCells (Value.bool false).cells (n * 1)).toList).toArray = rowB (List.replicate n false) := by
  rw [show (Value.bool false).cells = #[Value.bool false] from rfl, Nat.mul_one, toList_madeCells_one]
  simp [rowB]
theorem bool_info : (Tryd.prog.info? 4).map (fun i => (i.zero, i.size, i.bytes)) = some (some (.bool false), 1, 1) := by kernel_rfl
/-- A slice of truth values in memory. -/
def LiesB (w : World) (A : Option Addr) (bs : List Bool) : Prop :=
  0 < bs.length → ∃ ad, A = some ad ∧ ad.block < w.heap.size ∧ ∀ i b, bs[i]? = some b → w.cell? (ad.add i) = some (.bool b)
theorem LiesB.below {w W : World} {A : Option Addr} {bs : List Bool} (h : LiesB w A bs) (hb : Below w.heap.size w W) : LiesB W A bs := fun hp => by
  obtain ⟨ad, rfl, hbk, hc⟩ := h hp
  exact ⟨ad, rfl, Nat.lt_of_lt_of_le hbk hb.size, fun i b hi => (hb.cell (p := ad.add i) (by rw [addB]; exact hbk)).trans (hc i b hi)⟩
theorem LiesB.cell {w : World} {A : Option Addr} {bs : List Bool} (h : LiesB w A bs) {k : Nat} {b : Bool} (hx : bs[k]? = some b) : ∃ ad, A = some ad ∧ ad.block < w.heap.size ∧ w.cell? (ad.add k) = some (.bool b) := by
  obtain ⟨ad, rfl, hb, hc⟩ := h (by have := (List.getElem?_eq_some_iff.1 hx).1; omega)
  exact ⟨ad, rfl, hb, hc k b hx⟩
theorem LiesB.block {w : World} {g : Nat} {T : TypeId} {bs : List Bool} (h : w.heap[g]? = some (.cells (rowB bs) T)) : LiesB w (some ⟨g, 0, none⟩) bs := fun _ => by
  refine ⟨_, rfl, (Array.getElem?_eq_some_iff.1 h).1, fun i b hi => ?_⟩
  have := cell_block (i := i) h
  rw [Addr.add_lit, Nat.zero_add, this]
  exact rowB_in hi
def CopiedB (w : World) (bs : List Bool) (e : Ending) (w' : World) : Prop := ∃ A' cap', e = .returned (.slice A' bs.length cap') ∧ LiesB w' A' bs ∧ (∀ ad, A' = some ad → w.heap.size ≤ ad.block) ∧ Below w.heap.size w w'
/-- All blocks but one are as they were. -/
structure But (g : Nat) (W w : World) : Prop where
  size : W.heap.size ≤ w.heap.size
  block : ∀ n, n < W.heap.size → n ≠ g → w.heap[n]? = W.heap[n]?
theorem But.refl (g : Nat) (W : World) : But g W W := ⟨Nat.le_refl _, fun _ _ _ => rfl⟩
theorem But.below {g : Nat} {W w w' : World} (h : But g W w) (hb : Below w.heap.size w w') : But g W w' :=
  ⟨Nat.le_trans h.size hb.size, fun n hn hg => (hb.block n (Nat.lt_of_lt_of_le hn h.size)).trans (h.block n hn hg)⟩
theorem But.setCell {g k : Nat} {W w : World} {v : Value} (h : But g W w) : But g W (w.setCell ⟨g, k, none⟩ v) :=
  ⟨by simpa using h.size, fun n hn hg => (heap_setCell_ne (fun e => hg e.symm)).trans (h.block n hn hg)⟩
theorem But.cell {g : Nat} {W w : World} (h : But g W w) {p : Addr} (hp : p.block < W.heap.size) (hg : p.block ≠ g) : w.cell? p = W.cell? p := by
  unfold World.cell?; rw [h.block _ hp hg]
theorem Below.but {g : Nat} {W w : World} (h : Below W.heap.size W w) : But g W w := (But.refl g W).below h
/-- Some marks more. -/
def markL (bs : List Bool) (is : List Int) : List Bool := is.foldl (fun b i => b.set i.toNat true) bs
theorem markL_len (is : List Int) : ∀ bs : List Bool, (markL bs is).length = bs.length := by
  induction is with
  | nil => intro bs; rfl
  | cons i is ih => intro bs; show (markL (bs.set i.toNat true) is).length = _; rw [ih]; simp
theorem markL_step {bs : List Bool} {is : List Int} {j : Nat} {i : Int} (h : is[j]? = some i) : markL bs (is.take (j + 1)) = (markL bs (is.take j)).set i.toNat true := by
  obtain ⟨hj, rfl⟩ := List.getElem?_eq_some_iff.1 h
  unfold markL
  rw [List.take_succ_eq_append_getElem hj, List.foldl_append]; rfl
/-- From the last node on, the arguments of marked nodes are marked. -/
def belD (ns : List Nd) : Nat → List Bool → List Bool
  | 0, bs => bs
  | k + 1, bs => belD ns k (if bs.getD k false then (match ns[k]? with | none => bs | some n => markL bs n.args) else bs)
theorem belD_no {ns : List Nd} {k : Nat} {bs : List Bool} (h : bs[k]? = some false) : belD ns (k + 1) bs = belD ns k bs := by
  simp [belD, List.getD, h]
theorem belD_yes {ns : List Nd} {k : Nat} {bs : List Bool} {n : Nd} (h : bs[k]? = some true) (hn : ns[k]? = some n) : belD ns (k + 1) bs = belD ns k (markL bs n.args) := by
  simp [belD, List.getD, h, hn]
theorem belD_len {ns : List Nd} : ∀ (k : Nat) (bs : List Bool), (belD ns k bs).length = bs.length := by
  intro k
  induction k with
  | zero => intro bs; rfl
  | succ k ih =>
    intro bs
    rw [belD, ih]
    split
    · split
      · rfl
      · rw [markL_len]
    · rfl
def belL (ns : List Nd) (fr : List Int) : List Bool := belD ns ns.length (markL (List.replicate ns.length false) fr)
theorem belL_len (ns : List Nd) (fr : List Int) : (belL ns fr).length = ns.length := by unfold belL; rw [belD_len, markL_len, List.length_replicate]

set_option maxRecDepth 100000 in
set_option maxHeartbeats 1600000 in
theorem below_c (N : Option Addr) (capN : Nat) (ns : List Nd) (hns : ns.length ≤ 65536) (L : Nat) (hall : ∀ k n, ns[k]? = some n → NodeOK ns L k n) (F : Option Addr) (cf : Nat) (fr : List Int) (hfr : fr.length ≤ 65536) (hf : ∀ x ∈ fr, isIx x ns.length = true) (w : World) (hN : LiesN w N ns) (hF : LiesI w F fr) :
    Calls Tryd.prog 59 #[.slice N ns.length capN, .slice F fr.length cf] w (CopiedB w (belL ns fr)) := by
  obtain ⟨i0, hi, hz0, hz1, hz2⟩ := info_parts bool_info
  have HNN := Lib.hid hN
  have HFF := Lib.hid hF
  have HALL := Lib.hid hall
  have HFX := Lib.hid hf
  clear hN hF hall hf
  go_enter Tryd.func59, Tryd.ntmps59
  go_wp2_with (refine wpList_make_full _ rfl _ _ 88 rfl w.heap.size 4 i0 _ 1 Tryd.underlying88 hi hz0 hz1 .i64 .i64 _ _ ns.length rfl rfl rfl rfl (by rw [hz2]; omega) (by unfold maxLen; omega) (Nat.le_refl _) ?_; intro W1 hown hgr; have hb2 := (Below.refl w.heap.size w).grown hgr (Nat.le_refl _) (fun q hq => by cases hq); have rg : W1.heap[w.heap.size]? = some (.cells (rowB (List.replicate ns.length false)) 4) := (by have := row_block hown rfl; rwa [rowB_made] at this); clear hown hgr)
  have lg := lt_of_get rg
  have lw : w.heap.size ≤ w.heap.size := Nat.le_refl _
  generalize hg : w.heap.size = g at *
  have hb0 : Below w.heap.size w W1 := by rw [hg]; exact hb2
  clear hb2
  go_loopw [16] (fun v16 wr => ∃ j : Nat, j ≤ fr.length ∧ v16 = .int .i64 j ∧ wr.heap[g]? = some (.cells (rowB (markL (List.replicate ns.length false) (fr.take j))) 4) ∧ Below w.heap.size w wr) (fun v16 _ => fr.length - (intOf v16).toNat)
  case atStart => exact ⟨0, by omega, rfl, rg, hb0⟩
  case round =>
    clear rg hb0 lg
    obtain ⟨j, hj, rfl, rg, hb⟩ := hrel
    by_cases hlt : j < fr.length
    · have hjj : (j : Int) < fr.length := by omega
      have HX := Lib.hid (List.getElem?_eq_getElem hlt)
      have HIX := Lib.hid (HFX.out _ (List.getElem_mem hlt))
      generalize fr[j] = a at *
      obtain ⟨g0, g1⟩ := isIx_iff.1 HIX.out
      obtain ⟨p, rfl⟩ := Int.eq_ofNat_of_zero_le g0
      obtain ⟨ba, rfl, hbal, ca⟩ := HFF.out.cell HX.out
      have ca1 := (hb.cell (p := ba.add j) (by rw [addB]; exact hbal)).trans ca
      have HS := Lib.hid (markL_step (bs := List.replicate ns.length false) HX.out)
      have hpl : p < (markL (List.replicate ns.length false) (fr.take j)).length := by rw [markL_len, List.length_replicate]; omega
      obtain ⟨u, hu⟩ : ∃ u, (markL (List.replicate ns.length false) (fr.take j))[p]? = some u := ⟨_, List.getElem?_eq_getElem hpl⟩
      have qp := (cell_block (i := p) rg).trans (rowB_in hu)
      have fp := free_block (i := p) rg
      have HFIN := Lib.hid (show (wr.setCell ⟨g, p, none⟩ (.bool true)).heap[g]? = some (.cells (rowB (markL (List.replicate ns.length false) (fr.take (j + 1)))) 4) ∧ Below w.heap.size w (wr.setCell ⟨g, p, none⟩ (.bool true)) from
        ⟨by rw [heap_set rg, rowB_set, HS.out]; rfl, hb.setCell (p := ⟨g, p, none⟩) (Nat.le_of_eq hg) _⟩)
      clear ca rg hb hpl hu
      go_wp2
      go_roundw
      case rel => exact ⟨j + 1, by omega, by go_num, HFIN.out.1, HFIN.out.2⟩
      case measure => simp [intOf]; omega
    · obtain rfl : j = fr.length := by omega
      rw [List.take_length] at rg
      have HML := Lib.hid (show (markL (List.replicate ns.length false) fr).length = ns.length by rw [markL_len, List.length_replicate])
      have HBE : Hid (belL ns fr = belD ns ns.length (markL (List.replicate ns.length false) fr)) := Lib.hid rfl
      generalize markL (List.replicate ns.length false) fr = bs0 at *
      go_wp2_with fail
      have hb0 := hb
      clear hb
      go_loopw [8] (fun v8 wr => ∃ (m : Nat) (bs : List Bool) (t : Int), m ≤ ns.length ∧ t + 1 = (m : Int) ∧ v8 = .int .i64 t ∧ bs.length = ns.length ∧ belL ns fr = belD ns m bs ∧ wr.heap[g]? = some (.cells (rowB bs) 4) ∧ Below w.heap.size w wr) (fun v8 _ => (intOf v8 + 1).toNat)
      case atStart => exact ⟨ns.length, bs0, _, Nat.le_refl _, by omega, rfl, HML.out, HBE.out, rg, hb0⟩
      case round =>
        clear rg hb0
        obtain ⟨m, bs, t, hm, ht, rfl, hbl, hbd, rg, hb⟩ := hrel
        have HBD := Lib.hid hbd
        have HBN := Lib.hid hbl
        clear hbd hbl
        match m, hm, ht, HBD with
        | 0, _, ht, HBD =>
          obtain rfl : t = -1 := by omega
          have HF := Lib.hid (show CopiedB w (belL ns fr) (.returned (.slice (some ⟨g, 0, none⟩) ns.length ns.length)) wr from ⟨_, ns.length, by rw [belL_len], by rw [HBD.out]; exact LiesB.block rg, fun ad h => (by injection h with h; subst h; exact Nat.le_of_eq hg), hb⟩)
          go_wp2
          go_ret
          exact HF.out
        | k + 1, hm, ht, HBD =>
          obtain rfl : t = (k : Int) := by omega
          have hk : k < ns.length := hm
          have hkk : (k : Int) < ns.length := by omega
          obtain ⟨u, hu⟩ : ∃ u, bs[k]? = some u := ⟨_, List.getElem?_eq_getElem (by rw [HBN.out]; exact hk)⟩
          have qk := (cell_block (i := k) rg).trans (rowB_in hu)
          have lg := lt_of_get rg
          cases u with
          | false =>
            have HFIN := Lib.hid (HBD.out.trans (belD_no hu))
            clear hu
            go_wp2
            go_roundw
            case rel => exact ⟨k, bs, _, by omega, by omega, rfl, HBN.out, HFIN.out, rg, hb⟩
            case measure => simp [intOf]; try omega
          | true =>
            have HX := Lib.hid (List.getElem?_eq_getElem hk)
            generalize ns[k] = x at *
            have HFIN := Lib.hid (HBD.out.trans (belD_yes hu HX.out))
            have HOK := Lib.hid (HALL.out k x HX.out)
            clear hu
            obtain ⟨ad, rfl, hbl, c0, c1, c3, B, bc, c2, hB⟩ := HNN.out.cells HX.out
            have hbk : ∀ p : Addr, p.block = ad.block → wr.cell? p = w.cell? p := fun p hp => hb.cell (p := p) (by rw [hp]; exact hbl)
            have a0 := (hbk (ad.add (k * 4)) (by rw [addB])).trans c0
            have a1 : wr.cell? ⟨(ad.add (k * 4)).block, (ad.add (k * 4)).off + 1, none⟩ = some (.int .i64 x.wd) := (hbk ((ad.add (k * 4)).add 1) (by rw [addB, addB])).trans c1
            have a2 : wr.cell? ⟨(ad.add (k * 4)).block, (ad.add (k * 4)).off + 2, none⟩ = some (.slice B x.args.length bc) := (hbk ((ad.add (k * 4)).add 2) (by rw [addB, addB])).trans c2
            have a3 : wr.cell? ⟨(ad.add (k * 4)).block, (ad.add (k * 4)).off + 3, none⟩ = some (.int .i64 x.v) := (hbk ((ad.add (k * 4)).add 3) (by rw [addB, addB])).trans c3
            clear c0 c1 c2 c3 hbk
            have HBL := Lib.hid hB
            clear hB
            clear a0 a1 a3
            have HAL : Hid (x.args.length ≤ 3) := Lib.hid HOK.out.al
            have hal := HAL.out
            go_wp2_with fail
            have hb1 := hb
            have HBN1 : Hid ((markL bs x.args).length = ns.length) := Lib.hid (by rw [markL_len]; exact HBN.out)
            go_loopw [42] (fun v42 w4 => ∃ j : Nat, j ≤ x.args.length ∧ v42 = .int .i64 j ∧ w4.heap[g]? = some (.cells (rowB (markL bs (x.args.take j))) 4) ∧ Below w.heap.size w w4) (fun v42 _ => x.args.length - (intOf v42).toNat)
            case atStart => exact ⟨0, by omega, rfl, rg, hb1⟩
            case round =>
              clear rg hb1 hb qk a2
              obtain ⟨j, hj, rfl, rg, hb⟩ := hrel
              by_cases hlt2 : j < x.args.length
              · have hjj : (j : Int) < x.args.length := by omega
                have HXA := Lib.hid (List.getElem?_eq_getElem hlt2)
                generalize x.args[j] = a at *
                obtain ⟨g0, g1⟩ := HOK.out.ai j a HXA.out
                obtain ⟨p, rfl⟩ := Int.eq_ofNat_of_zero_le g0
                have hpk : (p : Int) < ns.length := by omega
                obtain ⟨ba, rfl, hbal, ca⟩ := HBL.out.cell HXA.out
                have ca1 := (hb.cell (p := ba.add j) (by rw [addB]; exact hbal)).trans ca
                have HS := Lib.hid (markL_step (bs := bs) HXA.out)
                have hpl : p < (markL bs (x.args.take j)).length := by rw [markL_len, HBN.out]; omega
                obtain ⟨u, hu⟩ : ∃ u, (markL bs (x.args.take j))[p]? = some u := ⟨_, List.getElem?_eq_getElem hpl⟩
                have qp := (cell_block (i := p) rg).trans (rowB_in hu)
                have fp := free_block (i := p) rg
                have HF2 := Lib.hid (show (wr.setCell ⟨g, p, none⟩ (.bool true)).heap[g]? = some (.cells (rowB (markL bs (x.args.take (j + 1)))) 4) ∧ Below w.heap.size w (wr.setCell ⟨g, p, none⟩ (.bool true)) from
                  ⟨by rw [heap_set rg, rowB_set, HS.out]; rfl, hb.setCell (p := ⟨g, p, none⟩) (Nat.le_of_eq hg) _⟩)
                clear ca rg hb hpl hu
                go_wp2
                go_roundw
                case rel => exact ⟨j + 1, by omega, by go_num, HF2.out.1, HF2.out.2⟩
                case measure => simp [intOf]; omega
              · obtain rfl : j = x.args.length := by omega
                rw [List.take_length] at rg
                go_wp2
                go_roundw
                case rel => exact ⟨k, _, _, by omega, by omega, rfl, HBN1.out, HFIN.out, rg, hb⟩
                case measure => simp [intOf]; try omega

end Go.Proofs.YtkdonapgonegkaaDoor

set_option linter.unusedSimpArgs false
set_option linter.unusedVariables false
namespace Go.Proofs.YtkdonapgonegkaaDoor
open Go.RowKit Go.BigFrame

/-- The indexes of the marks that are set, among the first ones. -/
def choK (bs : List Bool) : Nat → List Int
  | 0 => []
  | k + 1 => choK bs k ++ (if bs.getD k false then [(k : Int)] else [])
def choL (bs : List Bool) : List Int := choK bs bs.length
theorem choK_no {bs : List Bool} {k : Nat} (h : bs[k]? = some false) : choK bs (k + 1) = choK bs k := by simp [choK, List.getD, h]
theorem choK_yes {bs : List Bool} {k : Nat} (h : bs[k]? = some true) : choK bs (k + 1) = choK bs k ++ [(k : Int)] := by simp [choK, List.getD, h]
theorem choK_len {bs : List Bool} : ∀ k : Nat, (choK bs k).length ≤ k := by
  intro k
  induction k with
  | zero => exact Nat.le_refl _
  | succ k ih => simp only [choK]; split <;> simp <;> omega
theorem choK_mem {bs : List Bool} : ∀ (k : Nat) x, x ∈ choK bs k → 0 ≤ x ∧ x < k := by
  intro k
  induction k with
  | zero => intro x hx; simp [choK] at hx
  | succ k ih =>
    intro x hx
    simp only [choK, List.mem_append] at hx
    rcases hx with hx | hx
    · have := ih x hx; omega
    · split at hx
      · have := List.mem_singleton.1 hx; omega
      · simp at hx
theorem choL_mem {bs : List Bool} {x : Int} (h : x ∈ choL bs) : 0 ≤ x ∧ x < bs.length := choK_mem _ x h
/-- A row of the call's own, as a result. -/
theorem own_copied {w w' : World} {base : Nat} {e : TypeId} {v : Value} {xs : List Int} (h : w'.ownsRow base e 1 v xs.length (xs.map (.int .i64))) (hb : Below w.heap.size w w') : CopiedI w xs (.returned v) w' := by
  rcases h.2 with ⟨rfl, h0⟩ | ⟨g, cap', cur, rfl, _⟩
  · exact ⟨none, 0, by rw [h0], fun hp => by omega, hb⟩
  · exact ⟨_, cap', rfl, LiesI.of_own h, hb⟩
theorem own_snoc {w : World} {base : Nat} {e : TypeId} {v : Value} {n : Nat} {xs ys : List Int} {k : Int} (h : w.ownsRow base e 1 v (n + 1) (xs.map (Value.int .i64) ++ [.int .i64 k])) (hn : n = xs.length) (hy : ys = xs ++ [k]) : w.ownsRow base e 1 v ys.length (ys.map (Value.int .i64)) := by
  subst hn; subst hy
  rw [List.length_append, List.map_append]; exact h

set_option maxRecDepth 100000 in
set_option maxHeartbeats 1600000 in
theorem chosen_c (M : Option Addr) (cm : Nat) (bs : List Bool) (hbs : bs.length ≤ 65536) (w : World) (hM : LiesB w M bs) :
    Calls Tryd.prog 58 #[.slice M bs.length cm] w (CopiedI w (choL bs)) := by
  obtain ⟨i0, hi, hz0, hz1, hz2⟩ := info_parts int_info
  have HM := Lib.hid hM
  clear hM
  go_enter Tryd.func58, Tryd.ntmps58
  go_wp2_with fail
  go_loopw [3, 8] (fun v3 v8 wr => ∃ k : Nat, k ≤ bs.length ∧ v8 = .int .i64 k ∧ wr.ownsRow w.heap.size 3 1 v3 (choK bs k).length ((choK bs k).map (Value.int .i64)) ∧ Below w.heap.size w wr) (fun _ v8 _ => bs.length - (intOf v8).toNat)
  case atStart => exact ⟨0, by omega, rfl, World.ownsRow_nil _ _ _ _, Below.refl _ _⟩
  case round =>
    obtain ⟨k, hk, rfl, hown, hb⟩ := hrel
    have hbs' := hb.size
    have hcl := choK_len (bs := bs) k
    by_cases hlt : k < bs.length
    · have hkk : (k : Int) < bs.length := by omega
      have HX := Lib.hid (List.getElem?_eq_getElem hlt)
      generalize bs[k] = b at *
      obtain ⟨ad, rfl, hbl, c0⟩ := HM.out.cell HX.out
      have c1 := (hb.cell (p := ad.add k) (by rw [addB]; exact hbl)).trans c0
      clear c0
      cases b with
      | false =>
        have HS := Lib.hid (choK_no HX.out)
        have HO := Lib.hid hown
        clear hown
        go_wp2
        go_roundw
        case rel => exact ⟨k + 1, by omega, by go_num, by rw [HS.out]; exact HO.out, hb⟩
        case measure => simp [intOf]; omega
      | true =>
        have HS := Lib.hid (choK_yes HX.out)
        generalize hm : (choK bs k).length = m at *
        go_wp2_with (at_builtin; refine wpList_append_own _ rfl _ _ 22 rfl w.heap.size 3 i0 (.int .i64 0) 1 8 Tryd.underlying22 hi hz0 hz1 hz2 rfl (by decide) _ _ _ rfl (hown.alloc _) ⟨_, 0, none⟩ 1 1 [.int .i64 _] rfl rfl (cell_one_new _ _ _) (fun x hx => by simp at hx; subst hx; rfl) (by unfold maxLen; omega) (by omega) (by first | omega | (simp; omega) | (simp at *; omega)) ?_; intro v' w3 hown' hgrow3 hnn)
        have HF := Lib.hid (own_snoc hown' hm.symm HS.out)
        have HB := Lib.hid ((hb.alloc hbs' (.cells #[.int .i64 k] 3)).grown hgrow3 (by simp; omega) (fun q hq => (hown.lt q hq).1))
        clear hown' hgrow3 hown
        go_wp2
        go_roundw
        case rel => exact ⟨k + 1, by omega, by go_num, HF.out, HB.out⟩
        case measure => simp [intOf]; omega
    · obtain rfl : k = bs.length := by omega
      have HF := Lib.hid (show CopiedI w (choL bs) (.returned u3) wr from own_copied hown hb)
      clear hown
      go_wp2
      go_ret
      exact HF.out

end Go.Proofs.YtkdonapgonegkaaDoor

set_option linter.unusedSimpArgs false
set_option linter.unusedVariables false
namespace Go.Proofs.YtkdonapgonegkaaDoor
open Go.RowKit Go.BigFrame

/-- The leaves of marked leaf nodes, among the first nodes. -/
def useK (ns : List Nd) (bs : List Bool) (L : Nat) : Nat → List Bool
  | 0 => List.replicate L false
  | k + 1 => match ns[k]? with
    | none => useK ns bs L k
    | some n => if bs.getD k false = true ∧ n.op = 1 then (useK ns bs L k).set n.v.toNat true else useK ns bs L k
theorem useK_len {ns : List Nd} {bs : List Bool} {L : Nat} : ∀ k : Nat, (useK ns bs L k).length = L := by
  intro k
  induction k with
  | zero => simp [useK]
  | succ k ih =>
    simp only [useK]
    split
    · exact ih
    · split
      · rw [List.length_set]; exact ih
      · exact ih
theorem useK_no {ns : List Nd} {bs : List Bool} {L k : Nat} {n : Nd} {b : Bool} (hn : ns[k]? = some n) (hb : bs[k]? = some b) (h : ¬ (b = true ∧ n.op = 1)) : useK ns bs L (k + 1) = useK ns bs L k := by
  have e : bs.getD k false = b := by simp [List.getD, hb]
  simp only [useK, hn, e]; rw [if_neg h]
theorem useK_yes {ns : List Nd} {bs : List Bool} {L k : Nat} {n : Nd} (hn : ns[k]? = some n) (hb : bs[k]? = some true) (h : n.op = 1) : useK ns bs L (k + 1) = (useK ns bs L k).set n.v.toNat true := by
  have e : bs.getD k false = true := by simp [List.getD, hb]
  simp only [useK, hn, e]; simp [h]
def lbL (ns : List Nd) (fr : List Int) (L : Nat) : List Int := choL (useK ns (belL ns fr) L ns.length)
theorem lbL_mem {ns : List Nd} {fr : List Int} {L : Nat} {x : Int} (h : x ∈ lbL ns fr L) : 0 ≤ x ∧ x < L := by
  have := choL_mem h
  rwa [useK_len] at this
theorem lbL_len {ns : List Nd} {fr : List Int} {L : Nat} : (lbL ns fr L).length ≤ L := by
  have := choK_len (bs := useK ns (belL ns fr) L ns.length) (useK ns (belL ns fr) L ns.length).length
  rw [useK_len] at this
  unfold lbL choL; rw [useK_len]; exact this
/-- The sum of the widths of some leaves. -/
def sumK (ls xs : List Int) : Nat → Int
  | 0 => 0
  | k + 1 => sumK ls xs k + ls.getD (xs.getD k 0).toNat 0
def bitsL (ls : List Int) (ns : List Nd) (fr : List Int) : Int := sumK ls (lbL ns fr ls.length) (lbL ns fr ls.length).length
theorem sumK_bd {ls xs : List Int} (hl : ∀ x ∈ ls, isW x = true) : ∀ k : Nat, 0 ≤ sumK ls xs k ∧ sumK ls xs k ≤ 16 * k := by
  intro k
  induction k with
  | zero => exact ⟨Int.le_refl _, Int.le_refl _⟩
  | succ k ih =>
    simp only [sumK]
    generalize (xs.getD k 0).toNat = i
    have : 0 ≤ ls.getD i 0 ∧ ls.getD i 0 ≤ 16 := by
      by_cases h : i < ls.length
      · simp only [List.getD, List.getElem?_eq_getElem h, Option.getD_some]
        have := isW_iff.1 (hl _ (List.getElem_mem h)); omega
      · simp only [List.getD, List.getElem?_eq_none (Nat.le_of_not_lt h), Option.getD_none]; omega
    omega

set_option maxRecDepth 100000 in
set_option maxHeartbeats 1600000 in
theorem leavesBelow_c (A : Option Addr) (cap L : Nat) (hL : L ≤ 65536) (N : Option Addr) (capN : Nat) (ns : List Nd) (hns : ns.length ≤ 65536) (hall : ∀ k n, ns[k]? = some n → NodeOK ns L k n) (F : Option Addr) (cf : Nat) (fr : List Int) (hfr : fr.length ≤ 65536) (hf : ∀ x ∈ fr, isIx x ns.length = true) (w : World) (hN : LiesN w N ns) (hF : LiesI w F fr) :
    Calls Tryd.prog 60 #[.slice A L cap, .slice N ns.length capN, .slice F fr.length cf] w (CopiedI w (lbL ns fr L)) := by
  obtain ⟨i0, hi, hz0, hz1, hz2⟩ := info_parts bool_info
  have HNN := Lib.hid hN
  have HALL := Lib.hid hall
  have HBE := Lib.hid (fun (W : World) (hb : Below w.heap.size w W) => below_c N capN ns hns L hall F cf fr hfr hf W (hN.below hb) (hF.below hb))
  clear hN hF hall hf
  go_enter Tryd.func60, Tryd.ntmps60
  go_wp2_with (refine wpList_make_full _ rfl _ _ 88 rfl w.heap.size 4 i0 _ 1 Tryd.underlying88 hi hz0 hz1 .i64 .i64 _ _ L rfl rfl rfl rfl (by rw [hz2]; omega) (by unfold maxLen; omega) (Nat.le_refl _) ?_; intro W1 hown hgr; have hb2 := (Below.refl w.heap.size w).grown hgr (Nat.le_refl _) (fun q hq => by cases hq); have rg : W1.heap[w.heap.size]? = some (.cells (rowB (List.replicate L false)) 4) := (by have := row_block hown rfl; rwa [rowB_made] at this); clear hown hgr)
  have lg := lt_of_get rg
  refine (HBE.out _ hb2).mono ?_
  rintro e W2 ⟨M, cm, rfl, hM, hfr2, hb3⟩
  have rg := (hb3.block _ lg).trans rg
  have hb4 := hb2.trans (hb3.mono hb2.size)
  have HFR := Lib.hid (fun ad h => Nat.lt_of_lt_of_le lg (hfr2 ad h))
  clear hfr2
  generalize hg : w.heap.size = g at *
  have hb0 : Below w.heap.size w W2 := by rw [hg]; exact hb4
  have HM := Lib.hid hM
  clear hb2 hb3 hb4 lg HBE hM
  have HBLn := Lib.hid (belL_len ns fr)
  rw [HBLn.out]
  go_wp2_with fail
  generalize hbs : belL ns fr = bs at *
  go_loopw [17] (fun v17 wr => ∃ k : Nat, k ≤ ns.length ∧ v17 = .int .i64 k ∧ wr.heap[g]? = some (.cells (rowB (useK ns bs L k)) 4) ∧ Below w.heap.size w wr ∧ But g W2 wr) (fun v17 _ => ns.length - (intOf v17).toNat)
  case atStart => exact ⟨0, by omega, rfl, rg, hb0, But.refl _ _⟩
  case round =>
    clear rg hb0
    obtain ⟨k, hk, rfl, rg, hb, hbm⟩ := hrel
    by_cases hlt : k < ns.length
    · have hkk : (k : Int) < ns.length := by omega
      have HX := Lib.hid (List.getElem?_eq_getElem hlt)
      generalize ns[k] = x at *
      obtain ⟨b, hbk'⟩ : ∃ b, bs[k]? = some b := ⟨_, List.getElem?_eq_getElem (by rw [HBLn.out]; exact hlt)⟩
      obtain ⟨am, rfl, ham, cm0⟩ := HM.out.cell hbk'
      have cm1 := (hbm.cell (p := am.add k) (by rw [addB]; exact ham) (by rw [addB]; exact Nat.ne_of_gt (HFR.out am rfl))).trans cm0
      have HOK := Lib.hid (HALL.out k x HX.out)
      obtain ⟨ad, rfl, hbl, c0, c1, c3, B, bc, c2, hB⟩ := HNN.out.cells HX.out
      have hbk : ∀ p : Addr, p.block = ad.block → wr.cell? p = w.cell? p := fun p hp => hb.cell (p := p) (by rw [hp]; exact hbl)
      have a0 := (hbk (ad.add (k * 4)) (by rw [addB])).trans c0
      have a1 : wr.cell? ⟨(ad.add (k * 4)).block, (ad.add (k * 4)).off + 1, none⟩ = some (.int .i64 x.wd) := (hbk ((ad.add (k * 4)).add 1) (by rw [addB, addB])).trans c1
      have a2 : wr.cell? ⟨(ad.add (k * 4)).block, (ad.add (k * 4)).off + 2, none⟩ = some (.slice B x.args.length bc) := (hbk ((ad.add (k * 4)).add 2) (by rw [addB, addB])).trans c2
      have a3 : wr.cell? ⟨(ad.add (k * 4)).block, (ad.add (k * 4)).off + 3, none⟩ = some (.int .i64 x.v) := (hbk ((ad.add (k * 4)).add 3) (by rw [addB, addB])).trans c3
      clear c0 c1 c2 c3 hbk
      have HBL := Lib.hid hB
      clear hB
      have HBK := Lib.hid hbk'
      clear cm0 hbk' a1 a2 HBL
      obtain ⟨op, wd, args, v⟩ := x
      simp only at a0 a3
      by_cases hop : op = 1
      · subst hop
        cases b with
        | true =>
          have HS := Lib.hid (useK_yes (L := L) HX.out HBK.out rfl)
          obtain ⟨v0, v1⟩ := HOK.out.lf rfl
          simp only at v0 v1 HS
          obtain ⟨p, rfl⟩ := Int.eq_ofNat_of_zero_le v0
          obtain ⟨u, hu⟩ : ∃ u, (useK ns bs L k)[p]? = some u := ⟨_, List.getElem?_eq_getElem (by rw [useK_len]; omega)⟩
          have qp := (cell_block (i := p) rg).trans (rowB_in hu)
          have fp := free_block (i := p) rg
          have HF2 := Lib.hid (show (wr.setCell ⟨g, p, none⟩ (.bool true)).heap[g]? = some (.cells (rowB (useK ns bs L (k + 1))) 4) ∧ Below w.heap.size w (wr.setCell ⟨g, p, none⟩ (.bool true)) ∧ But g W2 (wr.setCell ⟨g, p, none⟩ (.bool true)) from
            ⟨by rw [heap_set rg, rowB_set, HS.out]; rfl, hb.setCell (p := ⟨g, p, none⟩) (Nat.le_of_eq hg) _, hbm.setCell⟩)
          clear rg hb hbm hu HS
          go_wp2
          go_roundw
          case rel => exact ⟨k + 1, by omega, by go_num, HF2.out.1, HF2.out.2.1, HF2.out.2.2⟩
          case measure => simp [intOf]; omega
        | false =>
          have HS := Lib.hid (useK_no (L := L) HX.out HBK.out (fun h => by cases h.1))
          go_wp2
          go_roundw
          case rel => exact ⟨k + 1, by omega, by go_num, by rw [HS.out]; exact rg, hb, hbm⟩
          case measure => simp [intOf]; omega
      · have ho1 : (op == 1) = false := by simpa using hop
        have HS := Lib.hid (useK_no (L := L) HX.out HBK.out (fun h => hop h.2))
        clear hop
        cases b with
        | true =>
          go_wp2
          go_roundw
          case rel => exact ⟨k + 1, by omega, by go_num, by rw [HS.out]; exact rg, hb, hbm⟩
          case measure => simp [intOf]; omega
        | false =>
          go_wp2
          go_roundw
          case rel => exact ⟨k + 1, by omega, by go_num, by rw [HS.out]; exact rg, hb, hbm⟩
          case measure => simp [intOf]; omega
    · obtain rfl : k = ns.length := by omega
      have HUL := Lib.hid (useK_len (ns := ns) (bs := bs) (L := L) ns.length)
      have HLB := Lib.hid (show lbL ns fr L = choL (useK ns bs L ns.length) by unfold lbL; rw [hbs])
      generalize useK ns bs L ns.length = us at *
      have HCH := Lib.hid (chosen_c (some ⟨g, 0, none⟩) L us (by rw [HUL.out]; exact hL) wr (LiesB.block rg))
      rw [HUL.out] at HCH
      clear rg
      go_wp2_with fail
      refine HCH.out.mono ?_
      rintro e W5 ⟨A', cap', rfl, hl5, hb5⟩
      have HF := Lib.hid (show CopiedI w (lbL ns fr L) (.returned (.slice A' (choL us).length cap')) W5 from ⟨A', cap', by rw [HLB.out], by rw [HLB.out]; exact hl5, hb.trans (hb5.mono hb.size)⟩)
      clear hl5 hb5
      go_wp2
      go_ret
      exact HF.out

end Go.Proofs.YtkdonapgonegkaaDoor

set_option linter.unusedSimpArgs false
set_option linter.unusedVariables false
namespace Go.Proofs.YtkdonapgonegkaaDoor
open Go.RowKit Go.BigFrame

set_option maxRecDepth 100000 in
set_option maxHeartbeats 1600000 in
theorem bitsBelow_c (A : Option Addr) (cap : Nat) (ls : List Int) (hls : ls.length ≤ 65536) (hw : ∀ x ∈ ls, isW x = true) (N : Option Addr) (capN : Nat) (ns : List Nd) (hns : ns.length ≤ 65536) (hall : ∀ k n, ns[k]? = some n → NodeOK ns ls.length k n) (F : Option Addr) (cf : Nat) (fr : List Int) (hfr : fr.length ≤ 65536) (hf : ∀ x ∈ fr, isIx x ns.length = true) (w : World) (hA : LiesI w A ls) (hN : LiesN w N ns) (hF : LiesI w F fr) :
    Calls Tryd.prog 73 #[.slice A ls.length cap, .slice N ns.length capN, .slice F fr.length cf] w fun e w' => e = .returned (.int .i64 (bitsL ls ns fr)) ∧ ∃ x : Aft w, w' = x.val := by
  have HLB := Lib.hid (leavesBelow_c A cap ls.length hls N capN ns hns hall F cf fr hfr hf w hN hF)
  have HA := Lib.hid hA
  have HW := Lib.hid hw
  clear hA hN hF hall hf hw
  go_enter Tryd.func73, Tryd.ntmps73
  go_wp2_with fail
  refine HLB.out.mono ?_
  rintro e W2 ⟨M, cm, rfl, hM, hb2⟩
  have HM := Lib.hid hM
  have HB := Lib.hid hb2
  have HR := Lib.hid (show bitsL ls ns fr = sumK ls (lbL ns fr ls.length) (lbL ns fr ls.length).length from rfl)
  have HMEM := Lib.hid (fun x (h : x ∈ lbL ns fr ls.length) => lbL_mem h)
  have hxl : (lbL ns fr ls.length).length ≤ 65536 := Nat.le_trans lbL_len hls
  clear hM hb2
  generalize lbL ns fr ls.length = xs at *
  go_wp2_with fail
  go_loop [7, 15] (fun v7 v15 => ∃ k : Nat, k ≤ xs.length ∧ v15 = .int .i64 k ∧ v7 = .int .i64 (sumK ls xs k)) (fun _ v15 => xs.length - (intOf v15).toNat)
  case atStart => exact ⟨0, by omega, rfl, rfl⟩
  case round =>
    obtain ⟨k, hk, rfl, rfl⟩ := hrel
    by_cases hlt : k < xs.length
    · have hkk : (k : Int) < xs.length := by omega
      have HX := Lib.hid (List.getElem?_eq_getElem hlt)
      have HI := Lib.hid (HMEM.out _ (List.getElem_mem hlt))
      generalize xs[k] = x at *
      obtain ⟨x0, x1⟩ := HI.out
      obtain ⟨p, rfl⟩ := Int.eq_ofNat_of_zero_le x0
      obtain ⟨am, rfl, ham, c0⟩ := HM.out.cell HX.out
      have hp : p < ls.length := by omega
      have HY := Lib.hid (List.getElem?_eq_getElem hp)
      have hiw := isW_iff.1 (HW.out _ (List.getElem_mem hp))
      have HS : Hid (sumK ls xs (k + 1) = sumK ls xs k + ls[p]) := Lib.hid (by
        have e : xs.getD k 0 = (p : Int) := by simp [List.getD, HX.out]
        have e2 : ls.getD ((p : Nat) : Int).toNat 0 = ls[p] := by simp [hp]
        simp only [sumK, e, e2])
      generalize ls[p] = u at *
      obtain ⟨aa, rfl, hal, c1⟩ := HA.out.cell HY.out
      have c2 := (HB.out.cell (p := aa.add p) (by rw [addB]; exact hal)).trans c1
      have hsb := sumK_bd (xs := xs) HW.out k
      obtain ⟨u1, u2⟩ := hiw
      obtain ⟨s1, s2⟩ := hsb
      clear c1
      generalize sumK ls xs k = s at *
      go_wp2
      go_round
      case rel => exact ⟨k + 1, by omega, by go_num, by rw [HS.out]⟩
      case measure => simp [intOf]; omega
    · obtain rfl : k = xs.length := by omega
      go_wp2
      go_ret
      exact ⟨retI HR.out.symm, Below.aft HB.out⟩

/-- A node with other arguments, gs a result. -/
def WithA (w : World) (op wd v : Int) (gs : List Int) (e : Ending) (w' : World) : Prop := ∃ A' cap', e = .returned (.agg #[.int .i64 op, .int .i64 wd, .slice A' gs.length cap', .int .i64 v]) ∧ gs.length ≤ cap' ∧ LiesI w' A' gs ∧ (∀ ad, A' = some ad → w.heap.size ≤ ad.block ∧ ∃ cur, w'.heap[ad.block]? = some (.cells cur 3 (0, 0))) ∧ Below w.heap.size w w'
theorem own_lies {w' : World} {base : Nat} {e : TypeId} {v : Value} {xs : List Int} (h : w'.ownsRow base e 1 v xs.length (xs.map (.int .i64))) : ∃ A' cap', v = .slice A' xs.length cap' ∧ xs.length ≤ cap' ∧ LiesI w' A' xs ∧ (∀ ad, A' = some ad → base ≤ ad.block ∧ ∃ cur, w'.heap[ad.block]? = some (.cells cur e (0, 0))) := by
  rcases h.2 with ⟨rfl, h0⟩ | ⟨g, cap', cur, rfl, hb, h3, hc, _⟩
  · exact ⟨none, 0, by rw [h0], by omega, fun hp => by omega, fun ad h => by cases h⟩
  · exact ⟨_, cap', rfl, hc, LiesI.of_own h, fun ad h => by injection h with h; subst h; exact ⟨hb, cur, h3⟩⟩
theorem map_snoc {g : Int → Int} {xs : List Int} {k : Nat} {a : Int} (h : xs[k]? = some a) : (xs.take (k + 1)).map g = (xs.take k).map g ++ [g a] := by
  obtain ⟨hj, rfl⟩ := List.getElem?_eq_some_iff.1 h
  rw [List.take_succ_eq_append_getElem hj, List.map_append]; rfl

set_option maxRecDepth 100000 in
set_option maxHeartbeats 1600000 in
theorem withArgs_cone (P : Nat) (g : Int → Int) (op wd v : Int) (B : Option Addr) (bc : Nat) (gs : List Int) (hal : gs.length ≤ 65536) (w : World) (hB : LiesI w B gs)
    (hK : ∀ a ∈ gs, ∀ W : World, Below w.heap.size w W → Calls Tryd.prog 105 #[.int .i64 a, .pointer (some ⟨P, 0, none⟩)] W fun e w' => e = .returned (.int .i64 (g a)) ∧ W = w') :
    Calls Tryd.prog 70 #[.agg #[.int .i64 op, .int .i64 wd, .slice B gs.length bc, .int .i64 v], .func (.func 105) #[] #[.pointer (some ⟨P, 0, none⟩)]] w (WithA w op wd v (gs.map g)) := by
  obtain ⟨i0, hi, hz0, hz1, hz2⟩ := info_parts int_info
  have HB := Lib.hid hB
  have HK := Lib.hid hK
  clear hB hK
  go_enter Tryd.func70, Tryd.ntmps70
  go_wp2_with fail
  have rP : ((w.alloc (.cells #[.int .i64 op, .int .i64 wd, .slice B gs.length bc, .int .i64 v] 65)).alloc (.cells #[.int .i64 0, .int .i64 0, .slice none 0 0, .int .i64 0] 65)).heap[w.heap.size]? = some (.cells #[.int .i64 op, .int .i64 wd, .slice B gs.length bc, .int .i64 v] 65) := heap_alloc' (by simp) (heap_alloc_new _ _)
  have rR : ((w.alloc (.cells #[.int .i64 op, .int .i64 wd, .slice B gs.length bc, .int .i64 v] 65)).alloc (.cells #[.int .i64 0, .int .i64 0, .slice none 0 0, .int .i64 0] 65)).heap[w.heap.size + 1]? = some (.cells #[.int .i64 0, .int .i64 0, .slice none 0 0, .int .i64 0] 65) := heap_alloc_at (by simp)
  have hb0 : Below w.heap.size w ((w.alloc (.cells #[.int .i64 op, .int .i64 wd, .slice B gs.length bc, .int .i64 v] 65)).alloc (.cells #[.int .i64 0, .int .i64 0, .slice none 0 0, .int .i64 0] 65)) := ((Below.refl _ _).alloc (Nat.le_refl _) _).alloc (by simp) _
  have hs0 : w.heap.size + 2 ≤ ((w.alloc (.cells #[.int .i64 op, .int .i64 wd, .slice B gs.length bc, .int .i64 v] 65)).alloc (.cells #[.int .i64 0, .int .i64 0, .slice none 0 0, .int .i64 0] 65)).heap.size := by simp
  generalize ((w.alloc (.cells #[.int .i64 op, .int .i64 wd, .slice B gs.length bc, .int .i64 v] 65)).alloc (.cells #[.int .i64 0, .int .i64 0, .slice none 0 0, .int .i64 0] 65)) = W0 at *
  go_loopw [5, 11] (fun v5 v11 wr => ∃ k : Nat, k ≤ gs.length ∧ v11 = .int .i64 k ∧ wr.ownsRow (w.heap.size + 2) 3 1 v5 ((gs.take k).map g).length (((gs.take k).map g).map (Value.int .i64)) ∧ wr.heap[w.heap.size]? = some (.cells #[.int .i64 op, .int .i64 wd, .slice B gs.length bc, .int .i64 v] 65) ∧ wr.heap[w.heap.size + 1]? = some (.cells #[.int .i64 0, .int .i64 0, .slice none 0 0, .int .i64 0] 65) ∧ Below w.heap.size w wr ∧ w.heap.size + 2 ≤ wr.heap.size) (fun _ v11 _ => gs.length - (intOf v11).toNat)
  case atStart => exact ⟨0, by omega, rfl, World.ownsRow_nil _ _ _ _, rP, rR, hb0, hs0⟩
  case round =>
    clear rP rR hb0 hs0
    obtain ⟨k, hk, rfl, hown, rP, rR, hb, hs⟩ := hrel
    by_cases hlt : k < gs.length
    · have hkk : (k : Int) < gs.length := by omega
      have HX := Lib.hid (List.getElem?_eq_getElem hlt)
      have HM := Lib.hid (List.getElem_mem hlt)
      generalize gs[k] = a at *
      obtain ⟨ad, rfl, hbl, c0⟩ := HB.out.cell HX.out
      have c1 := (hb.cell (p := ad.add k) (by rw [addB]; exact hbl)).trans c0
      have HS := Lib.hid (map_snoc (g := g) HX.out)
      have hml : ((gs.take k).map g).length ≤ 65536 := by simp; omega
      generalize hm : ((gs.take k).map g).length = m at *
      clear c0
      go_wp2_with (first | (go_at_call 105; refine (HK.out a HM.out _ hb).mono ?_; rintro e w' ⟨rfl, rfl⟩) | (at_builtin; refine wpList_append_own _ rfl _ _ 22 rfl (w.heap.size + 2) 3 i0 (.int .i64 0) 1 8 Tryd.underlying22 hi hz0 hz1 hz2 rfl (by decide) _ _ _ rfl (hown.alloc _) ⟨_, 0, none⟩ 1 1 [.int .i64 _] rfl rfl (cell_one_new _ _ _) (fun x hx => by simp at hx; subst hx; rfl) (by unfold maxLen; omega) (by omega) (by first | omega | (simp; omega) | (simp at *; omega)) ?_; intro v' w3 hown' hgrow3 hnn))
      have HF := Lib.hid (own_snoc hown' hm.symm HS.out)
      have hal2 := hb.alloc hb.size (.cells #[.int .i64 (g a)] 3)
      have HB2 := Lib.hid (hal2.grown hgrow3 hal2.size (fun q hq => Nat.le_trans (by omega) (hown.lt q hq).1))
      have hbp := ((Below.refl (w.heap.size + 2) wr).alloc hs (.cells #[.int .i64 (g a)] 3)).grown hgrow3 (by simp; omega) (fun q hq => (hown.lt q hq).1)
      have HP := Lib.hid ((hbp.block _ (by omega)).trans rP)
      have HR := Lib.hid ((hbp.block _ (by omega)).trans rR)
      have hs3 := Nat.le_trans hs hbp.size
      clear hown' hgrow3 hown hal2 hbp rP rR
      go_wp2
      go_roundw
      case rel => exact ⟨k + 1, by omega, by go_num, HF.out, HP.out, HR.out, HB2.out, hs3⟩
      case measure => simp [intOf]; omega
    · obtain rfl : k = gs.length := by omega
      rw [List.take_length] at hown
      obtain ⟨A', cap', rfl, hc, hl, hfr⟩ := own_lies hown
      have HF := Lib.hid (show WithA w op wd v (gs.map g) (.returned (.agg #[.int .i64 op, .int .i64 wd, .slice A' gs.length cap', .int .i64 v])) (((((wr.setCell ⟨w.heap.size, 2, none⟩ (.slice A' gs.length cap')).setCell ⟨w.heap.size + 1, 0, none⟩ (.int .i64 op)).setCell ⟨w.heap.size + 1, 1, none⟩ (.int .i64 wd)).setCell ⟨w.heap.size + 1, 2, none⟩ (.slice A' gs.length cap')).setCell ⟨w.heap.size + 1, 3, none⟩ (.int .i64 v)) from
        ⟨A', cap', by rw [List.length_map], hc, ((((hl.set (fun ad h => by have := (hfr ad h).1; omega)).set (fun ad h => by have := (hfr ad h).1; omega)).set (fun ad h => by have := (hfr ad h).1; omega)).set (fun ad h => by have := (hfr ad h).1; omega)).set (fun ad h => by have := (hfr ad h).1; omega), fun ad h => (by obtain ⟨h1, cur, h2⟩ := hfr ad h; exact ⟨by omega, cur, by rw [heap_setCell_ne (by omega), heap_setCell_ne (by omega), heap_setCell_ne (by omega), heap_setCell_ne (by omega), heap_setCell_ne (by omega)]; exact h2⟩),
          ((((hb.setCell (Nat.le_refl _) _).setCell (Nat.le_succ _) _).setCell (Nat.le_succ _) _).setCell (Nat.le_succ _) _).setCell (Nat.le_succ _) _⟩)
      clear hown hl hc hfr hb
      have p0 := cell_block (i := 0) rP
      have f0 := free_block (i := 0) rP
      have r0 := cell_block (i := 0) rR
      have e0 := free_block (i := 0) rR
      have p1 := cell_block (i := 1) rP
      have f1 := free_block (i := 1) rP
      have r1 := cell_block (i := 1) rR
      have e1 := free_block (i := 1) rR
      have p2 := cell_block (i := 2) rP
      have f2 := free_block (i := 2) rP
      have r2 := cell_block (i := 2) rR
      have e2 := free_block (i := 2) rR
      have p3 := cell_block (i := 3) rP
      have f3 := free_block (i := 3) rP
      have r3 := cell_block (i := 3) rR
      have e3 := free_block (i := 3) rR
      simp at p0 p1 p2 p3 r0 r1 r2 r3
      go_wp2
      refine bodyPost_ret (by simp [results, Tryd.results70, go_sem, r0, r1, r2, r3]; try rfl) rfl ?_
      exact HF.out

end Go.Proofs.YtkdonapgonegkaaDoor

set_option linter.unusedSimpArgs false
set_option linter.unusedVariables false
namespace Go.Proofs.YtkdonapgonegkaaDoor
open Go.RowKit Go.BigFrame

theorem coneOf1_c (k n m : Nat) (x : Int) (P : Nat) (ad : Addr) (hk : k < n) (hn : n ≤ 65536) (w : World) (c0 : w.cell? ⟨P, 0, none⟩ = some (.slice (some ad) n m)) (c1 : w.cell? (ad.add k) = some (.int .i64 x)) :
    Calls Tryd.prog 105 #[.int .i64 k, .pointer (some ⟨P, 0, none⟩)] w fun e w' => e = .returned (.int .i64 x) ∧ w = w' := by
  have hkk : (k : Int) < n := by omega
  go_enter Tryd.func105, Tryd.ntmps105
  go_wp2
  go_ret
  exact ⟨rfl, rfl⟩

/-- The items with some indexes. -/
def pickL (ys xs : List Int) : List Int := xs.map fun i => ys.getD i.toNat 0
theorem pickL_len (ys xs : List Int) : (pickL ys xs).length = xs.length := by simp [pickL]
theorem pickL_snoc {ys xs : List Int} {k p : Nat} {u : Int} (h : xs[k]? = some (p : Int)) (hu : ys[p]? = some u) : pickL ys (xs.take (k + 1)) = pickL ys (xs.take k) ++ [u] := by
  have := map_snoc (g := fun i : Int => ys.getD i.toNat 0) h
  unfold pickL; rw [this]; simp [List.getD, hu]

set_option maxRecDepth 100000 in
set_option maxHeartbeats 1600000 in
theorem picked_c (Y : Option Addr) (cy : Nat) (ys : List Int) (hys : ys.length ≤ 65536) (X : Option Addr) (cx : Nat) (xs : List Int) (hxs : xs.length ≤ 65536) (hx : ∀ x ∈ xs, isIx x ys.length = true) (w : World) (hY : LiesI w Y ys) (hX : LiesI w X xs) :
    Calls Tryd.prog 96 #[.slice Y ys.length cy, .slice X xs.length cx] w fun e w' => ∃ A' cap', e = .returned (.slice A' xs.length cap') ∧ LiesI w' A' (pickL ys xs) ∧ (∀ ad, A' = some ad → w.heap.size ≤ ad.block) ∧ Below w.heap.size w w' := by
  obtain ⟨i0, hi, hz0, hz1, hz2⟩ := info_parts int_info
  have HY := Lib.hid hY
  have HX := Lib.hid hX
  have HIX := Lib.hid hx
  clear hY hX hx
  go_enter Tryd.func96, Tryd.ntmps96
  go_wp2_with (refine wpList_make_full _ rfl _ _ 22 rfl w.heap.size 3 i0 _ 1 Tryd.underlying22 hi hz0 hz1 .i64 .i64 _ _ xs.length rfl rfl rfl rfl (by rw [hz2]; omega) (by unfold maxLen; omega) (Nat.le_refl _) ?_; intro W1 hown hgr; have hb2 := (Below.refl w.heap.size w).grown hgr (Nat.le_refl _) (fun q hq => by cases hq); have rg : W1.heap[w.heap.size]? = some (.cells (rowA (List.replicate xs.length 0)) 3) := (by have := row_block hown rfl; rwa [row_made] at this); clear hown hgr)
  generalize hg : w.heap.size = g at *
  have hb0 : Below w.heap.size w W1 := by rw [hg]; exact hb2
  clear hb2
  go_loopw [13] (fun v13 wr => ∃ k : Nat, k ≤ xs.length ∧ v13 = .int .i64 k ∧ wr.heap[g]? = some (.cells (rowA (pickL ys (xs.take k) ++ List.replicate (xs.length - k) 0)) 3) ∧ Below w.heap.size w wr) (fun v13 _ => xs.length - (intOf v13).toNat)
  case atStart => exact ⟨0, by omega, rfl, rg, hb0⟩
  case round =>
    clear rg hb0
    obtain ⟨k, hk, rfl, rg, hb⟩ := hrel
    have HL := Lib.hid (show (pickL ys (xs.take k)).length = k by rw [pickL_len, List.length_take_of_le hk])
    by_cases hlt : k < xs.length
    · have hkk : (k : Int) < xs.length := by omega
      have HE := Lib.hid (List.getElem?_eq_getElem hlt)
      have HI := Lib.hid (HIX.out _ (List.getElem_mem hlt))
      generalize xs[k] = x at *
      obtain ⟨x0, x1⟩ := isIx_iff.1 HI.out
      obtain ⟨p, rfl⟩ := Int.eq_ofNat_of_zero_le x0
      have hp : p < ys.length := by omega
      have HU := Lib.hid (List.getElem?_eq_getElem hp)
      generalize ys[p] = u at *
      obtain ⟨ax, rfl, hax, c0⟩ := HX.out.cell HE.out
      obtain ⟨ay, rfl, hay, c1⟩ := HY.out.cell HU.out
      have d0 := (hb.cell (p := ax.add k) (by rw [addB]; exact hax)).trans c0
      have d1 := (hb.cell (p := ay.add p) (by rw [addB]; exact hay)).trans c1
      have HS := Lib.hid (pickL_snoc HE.out HU.out)
      have qk := (cell_block (i := k) rg).trans (rowA_in (row_here HL.out hlt))
      have fk := free_block (i := k) rg
      have HFIN := Lib.hid (show (wr.setCell ⟨g, k, none⟩ (.int .i64 u)).heap[g]? = some (.cells (rowA (pickL ys (xs.take (k + 1)) ++ List.replicate (xs.length - (k + 1)) 0)) 3) ∧ Below w.heap.size w (wr.setCell ⟨g, k, none⟩ (.int .i64 u)) from
        ⟨by rw [heap_set rg, rowA_set, row_next HL.out hlt, HS.out], hb.setCell (p := ⟨g, k, none⟩) (Nat.le_of_eq hg) _⟩)
      clear c0 c1 rg hb
      go_wp2
      go_roundw
      case rel => exact ⟨k + 1, by omega, by go_num, HFIN.out.1, HFIN.out.2⟩
      case measure => simp [intOf]; omega
    · obtain rfl : k = xs.length := by omega
      rw [List.take_length, Nat.sub_self, List.replicate_zero, List.append_nil] at rg
      have HF := Lib.hid (show LiesI wr (some ⟨g, 0, none⟩) (pickL ys xs) from LiesI.block rg)
      clear rg
      go_wp2
      go_ret
      exact ⟨_, xs.length, rfl, HF.out, fun ad h => (by injection h with h; subst h; exact Nat.le_of_eq hg), hb⟩

end Go.Proofs.YtkdonapgonegkaaDoor

set_option linter.unusedSimpArgs false
set_option linter.unusedVariables false
namespace Go.Proofs.YtkdonapgonegkaaDoor
open Go.RowKit Go.BigFrame

/-- The values of leaves, from the last one that is used on, cut off a number. -/
def triD (ls us : List Int) : Nat → List Int → Int → List Int
  | 0, row, _ => row
  | m + 1, row, num => triD ls us m (row.set (us.getD m 0).toNat (num % pw (ls.getD (us.getD m 0).toNat 0))) (num / pw (ls.getD (us.getD m 0).toNat 0))
def triL (ls us : List Int) (num : Int) : List Int := triD ls us us.length (List.replicate ls.length 0) num
theorem triD_len {ls us : List Int} : ∀ (m : Nat) (row : List Int) (num : Int), (triD ls us m row num).length = row.length := by
  intro m
  induction m with
  | zero => intro row num; rfl
  | succ m ih => intro row num; rw [triD, ih, List.length_set]
theorem triL_len (ls us : List Int) (num : Int) : (triL ls us num).length = ls.length := by unfold triL; rw [triD_len, List.length_replicate]
theorem triD_bd {ls us : List Int} (hw : ∀ x ∈ ls, isW x = true) : ∀ (m : Nat) (row : List Int) (num : Int), (∀ x ∈ row, 0 ≤ x ∧ x ≤ 65536) → ∀ x ∈ triD ls us m row num, 0 ≤ x ∧ x ≤ 65536 := by
  intro m
  induction m with
  | zero => intro row num h; exact h
  | succ m ih =>
    intro row num h
    rw [triD]
    refine ih _ _ fun x hx => ?_
    rcases List.mem_or_eq_of_mem_set hx with hx | rfl
    · exact h x hx
    · have hp : 1 ≤ pw (ls.getD (us.getD m 0).toNat 0) ∧ pw (ls.getD (us.getD m 0).toNat 0) ≤ 65536 := by
        generalize (us.getD m 0).toNat = i
        by_cases hi : i < ls.length
        · simp only [List.getD, List.getElem?_eq_getElem hi, Option.getD_some]
          have := isW_iff.1 (hw _ (List.getElem_mem hi))
          exact pw_bd (by omega) this.2
        · simp only [List.getD, List.getElem?_eq_none (Nat.le_of_not_lt hi), Option.getD_none]; decide
      have h1 := Int.emod_nonneg num (Int.ne_of_gt (pw_pos (ls.getD (us.getD m 0).toNat 0)))
      have h2 := Int.emod_lt_of_pos num (pw_pos (ls.getD (us.getD m 0).toNat 0))
      omega
theorem triL_bd {ls us : List Int} {num : Int} (hw : ∀ x ∈ ls, isW x = true) : ∀ x ∈ triL ls us num, 0 ≤ x ∧ x ≤ 65536 := by
  refine triD_bd hw _ _ _ fun x hx => ?_
  have := List.eq_of_mem_replicate hx; omega
def CopiedF (w : World) (ns : List Int) (e : Ending) (w' : World) : Prop := ∃ A' cap', e = .returned (.slice A' ns.length cap') ∧ LiesI w' A' ns ∧ (∀ ad, A' = some ad → w.heap.size ≤ ad.block) ∧ Below w.heap.size w w'
theorem maskM {n wd : Int} (h1 : 0 ≤ wd) (h2 : wd ≤ 16) : bits .and .i64 n (pw wd - 1) = n % pw wd := by
  obtain ⟨k, rfl⟩ := Int.eq_ofNat_of_zero_le h1
  exact and_mask _ k (by omega)

set_option maxRecDepth 100000 in
set_option maxHeartbeats 1600000 in
theorem trialOf_c (A : Option Addr) (cap : Nat) (ls : List Int) (hls : ls.length ≤ 65536) (hw : ∀ x ∈ ls, isW x = true) (U : Option Addr) (cu : Nat) (us : List Int) (hus : us.length ≤ 65536) (hu : ∀ x ∈ us, isIx x ls.length = true) (num : Int) (hn0 : 0 ≤ num) (hn1 : num ≤ 65536) (w : World) (hA : LiesI w A ls) (hU : LiesI w U us) :
    Calls Tryd.prog 95 #[.slice A ls.length cap, .slice U us.length cu, .int .i64 num] w (CopiedF w (triL ls us num)) := by
  obtain ⟨i0, hi, hz0, hz1, hz2⟩ := info_parts int_info
  have HA := Lib.hid hA
  have HU := Lib.hid hU
  have HW := Lib.hid hw
  have HIX := Lib.hid hu
  clear hA hU hw hu
  go_enter Tryd.func95, Tryd.ntmps95
  go_wp2_with (refine wpList_make_full _ rfl _ _ 22 rfl w.heap.size 3 i0 _ 1 Tryd.underlying22 hi hz0 hz1 .i64 .i64 _ _ ls.length rfl rfl rfl rfl (by rw [hz2]; omega) (by unfold maxLen; omega) (Nat.le_refl _) ?_; intro W1 hown hgr; have hb2 := (Below.refl w.heap.size w).grown hgr (Nat.le_refl _) (fun q hq => by cases hq); have rg : W1.heap[w.heap.size]? = some (.cells (rowA (List.replicate ls.length 0)) 3) := (by have := row_block hown rfl; rwa [row_made] at this); clear hown hgr)
  generalize hg : w.heap.size = g at *
  have hb0 : Below w.heap.size w W1 := by rw [hg]; exact hb2
  clear hb2
  go_loopw [2, 8] (fun v2 v8 wr => ∃ (m : Nat) (row : List Int) (nn t : Int), m ≤ us.length ∧ t + 1 = (m : Int) ∧ v8 = .int .i64 t ∧ v2 = .int .i64 nn ∧ 0 ≤ nn ∧ nn ≤ 65536 ∧ row.length = ls.length ∧ triL ls us num = triD ls us m row nn ∧ wr.heap[g]? = some (.cells (rowA row) 3) ∧ Below w.heap.size w wr) (fun _ v8 _ => (intOf v8 + 1).toNat)
  case atStart => exact ⟨us.length, _, num, _, Nat.le_refl _, by omega, rfl, rfl, hn0, hn1, List.length_replicate, rfl, rg, hb0⟩
  case round =>
    clear rg hb0
    obtain ⟨m, row, nn, t, hm, ht, rfl, rfl, hn0, hn1, hl, hd, rg, hb⟩ := hrel
    have HL := Lib.hid hl
    have HD := Lib.hid hd
    clear hl hd
    match m, hm, ht, HD with
    | 0, _, ht, HD =>
      obtain rfl : t = -1 := by omega
      have HF := Lib.hid (show CopiedF w (triL ls us num) (.returned (.slice (some ⟨g, 0, none⟩) ls.length ls.length)) wr from by
        rw [HD.out]
        exact ⟨_, ls.length, by rw [triD, HL.out], LiesI.block rg, fun ad h => (by injection h with h; subst h; exact Nat.le_of_eq hg), hb⟩)
      clear rg
      go_wp2
      go_ret
      exact HF.out
    | k + 1, hm, ht, HD =>
      obtain rfl : t = (k : Int) := by omega
      have hk : k < us.length := hm
      have hkk : (k : Int) < us.length := by omega
      have HE := Lib.hid (List.getElem?_eq_getElem hk)
      have HI := Lib.hid (HIX.out _ (List.getElem_mem hk))
      generalize us[k] = x at *
      obtain ⟨x0, x1⟩ := isIx_iff.1 HI.out
      obtain ⟨p, rfl⟩ := Int.eq_ofNat_of_zero_le x0
      have hp : p < ls.length := by omega
      have HY := Lib.hid (List.getElem?_eq_getElem hp)
      have hiw := isW_iff.1 (HW.out _ (List.getElem_mem hp))
      have HD2 : Hid (triL ls us num = triD ls us k (row.set p (nn % pw ls[p])) (nn / pw ls[p])) := Lib.hid (by
        have e : us.getD k 0 = (p : Int) := by simp [List.getD, HE.out]
        have e2 : ls.getD ((p : Nat) : Int).toNat 0 = ls[p] := by simp [hp]
        rw [HD.out, triD, e, e2]; rfl)
      generalize ls[p] = wd at *
      obtain ⟨w1, w2⟩ := hiw
      obtain ⟨au, rfl, hau, c0⟩ := HU.out.cell HE.out
      obtain ⟨aa, rfl, haa, c1⟩ := HA.out.cell HY.out
      have d0 := (hb.cell (p := au.add k) (by rw [addB]; exact hau)).trans c0
      have d1 := (hb.cell (p := aa.add p) (by rw [addB]; exact haa)).trans c1
      have dx : ∀ z : Aft wr, z.val.cell? (au.add k) = some (.int .i64 ((p : Nat) : Int)) := fun z => ((z.below hb hb.size).cell (p := au.add k) (by rw [addB]; exact hau)).trans c0
      have HM := Lib.hid (maskM (n := nn) (wd := wd) (by omega) w2)
      have hpb := pw_bd (n := wd) (by omega) w2
      have hq0 : 0 ≤ nn / pw wd := Int.ediv_nonneg hn0 (by omega)
      have hq1 : nn / pw wd ≤ 65536 := Int.le_trans (Int.ediv_le_self _ hn0) hn1
      have hpu : ((p : Nat) : Int) < ls.length := by omega
      clear c0 c1
      go_wp2_with fail
      refine wp_region_aft_tail 10 (by kernel_rfl) (by kernel_rfl) ?_
      simp only [List.take_succ_cons, List.take_zero, List.drop_succ_cons, List.drop_zero]
      repeat (go_big_quiet_step (first | (go_at_call 91; exact Calls.qs (highest_c _ (by omega) (by omega) _))))
      refine wpQuiet_nil ?_
      intro y
      rw [HM.out]
      have rgy := heap_aft y (lt_of_get rg) rg
      have hby := y.below hb hb.size
      obtain ⟨u, hu⟩ : ∃ u, row[p]? = some u := ⟨_, List.getElem?_eq_getElem (by rw [HL.out]; exact hp)⟩
      have qk := (cell_block (i := p) rgy).trans (rowA_in hu)
      have fk := free_block (i := p) rgy
      obtain ⟨mm, hmm⟩ : ∃ mm, nn % pw wd = mm := ⟨_, rfl⟩
      rw [hmm] at HD2 ⊢
      have HFIN := Lib.hid (show (y.val.setCell ⟨g, p, none⟩ (.int .i64 mm)).heap[g]? = some (.cells (rowA (row.set p mm)) 3) ∧ Below w.heap.size w (y.val.setCell ⟨g, p, none⟩ (.int .i64 mm)) from
        ⟨by rw [heap_set rgy, rowA_set], hby.setCell (p := ⟨g, p, none⟩) (Nat.le_of_eq hg) _⟩)
      have HLS := Lib.hid (show (row.set p mm).length = ls.length by rw [List.length_set]; exact HL.out)
      clear hu rgy hby dx rg hmm
      generalize y.val = W4 at *
      go_wp2
      go_roundw
      case rel => exact ⟨k, _, nn / pw wd, _, by omega, by omega, rfl, rfl, hq0, hq1, HLS.out, HD2.out, HFIN.out.1, HFIN.out.2⟩
      case measure => simp [intOf]; try omega

end Go.Proofs.YtkdonapgonegkaaDoor

set_option linter.unusedSimpArgs false
set_option linter.unusedVariables false
namespace Go.Proofs.YtkdonapgonegkaaDoor
open Go.RowKit Go.BigFrame

theorem four_new {w : World} {a b c d : Value} {T : TypeId} : ∀ j u, [a, b, c, d][j]? = some u → (w.alloc (.cells #[a, b, c, d] T)).cell? ((⟨w.heap.size, 0, none⟩ : Addr).add j) = some u := by
  intro j u hj
  match j, hj with
  | 0, hj => simp at hj; subst hj; simp [Addr.add]
  | 1, hj => simp at hj; subst hj; simp [Addr.add]
  | 2, hj => simp at hj; subst hj; simp [Addr.add]
  | 3, hj => simp at hj; subst hj; simp [Addr.add]
  | (j + 4), hj => simp at hj
/-- A row of nodes of the call's own: what its arguments lead to lies beyond g, in rows of numbers. -/
def NodesRow (w : World) (base g : Nat) (v : Value) (ns : List Nd) (xs : List Value) : Prop :=
  w.ownsRow base 65 4 v ns.length xs ∧ ∀ i n, ns[i]? = some n → xs[i * 4]? = some (.int .i64 n.op) ∧ xs[i * 4 + 1]? = some (.int .i64 n.wd) ∧ xs[i * 4 + 3]? = some (.int .i64 n.v) ∧
    ∃ B cap, xs[i * 4 + 2]? = some (.slice B n.args.length cap) ∧ LiesI w B n.args ∧ ∀ ad, B = some ad → g < ad.block ∧ ad.block < w.heap.size ∧ ∀ cur fz, w.heap[ad.block]? ≠ some (.cells cur 65 fz)
theorem NodesRow.nil (w : World) (base g : Nat) : NodesRow w base g (.slice none 0 0) [] [] := ⟨World.ownsRow_nil _ _ _ _, fun i n h => by simp at h⟩
theorem NodesRow.below {w W : World} {base g : Nat} {v : Value} {ns : List Nd} {xs : List Value} (h : NodesRow w base g v ns xs) (hb : Below w.heap.size w W) : NodesRow W base g v ns xs :=
  ⟨own_below h.1 hb, fun i n hi => by
    obtain ⟨a, b, c, B, cap, d, hl, hB⟩ := h.2 i n hi
    refine ⟨a, b, c, B, cap, d, hl.below hb, fun ad he => ?_⟩
    obtain ⟨h1, h2, h3⟩ := hB ad he
    exact ⟨h1, Nat.lt_of_lt_of_le h2 hb.size, by rw [hb.block _ h2]; exact h3⟩⟩
theorem own_setCell {w : World} {base m j : Nat} {e : TypeId} {k n : Nat} {v u : Value} {xs : List Value} (h : w.ownsRow base e k v n xs) (hm : m < base) : (w.setCell ⟨m, j, none⟩ u).ownsRow base e k v n xs := by
  refine ⟨h.1, h.2.imp id ?_⟩
  rintro ⟨g, cap, cur, h1, h2, h3, h4⟩
  exact ⟨g, cap, cur, h1, h2, (heap_setCell_ne (by omega)).trans h3, h4⟩
theorem NodesRow.setCell {w : World} {base g m j : Nat} {v u : Value} {ns : List Nd} {xs : List Value} (h : NodesRow w base g v ns xs) (hm : m < base) (hg : m ≤ g) : NodesRow (w.setCell ⟨m, j, none⟩ u) base g v ns xs :=
  ⟨own_setCell h.1 hm, fun i n hi => by
    obtain ⟨a, b, c, B, cap, d, hl, hB⟩ := h.2 i n hi
    refine ⟨a, b, c, B, cap, d, hl.set (fun ad he => Nat.lt_of_le_of_lt hg (hB ad he).1), fun ad he => ?_⟩
    obtain ⟨h1, h2, h3⟩ := hB ad he
    exact ⟨h1, by simpa using h2, by rw [heap_setCell_ne (by omega)]; exact h3⟩⟩
theorem NodesRow.snoc {w W w3 : World} {base g : Nat} {v v' : Value} {ns : List Nd} {xs : List Value} {n : Nd} {B : Option Addr} {cap : Nat} (h : NodesRow w base g v ns xs) (hW : Below w.heap.size w W)
    (ho : w3.ownsRow base 65 4 v' (ns.length + 1) (xs ++ [.int .i64 n.op, .int .i64 n.wd, .slice B n.args.length cap, .int .i64 n.v])) (hg : W.grownBy w3 v.ownBlock)
    (hl : LiesI w B n.args) (hB : ∀ ad, B = some ad → g < ad.block ∧ ad.block < w.heap.size ∧ ∀ cur fz, w.heap[ad.block]? ≠ some (.cells cur 65 fz)) :
    NodesRow w3 base g v' (ns ++ [n]) (xs ++ [.int .i64 n.op, .int .i64 n.wd, .slice B n.args.length cap, .int .i64 n.v]) := by
  have hx : xs.length = ns.length * 4 := h.1.1
  have keep : ∀ m, m < w.heap.size → (∀ cur fz, w.heap[m]? ≠ some (.cells cur 65 fz)) → w3.heap[m]? = w.heap[m]? := by
    intro m hm hne
    rw [← hW.block m hm]
    refine hg.block m (Nat.lt_of_lt_of_le hm hW.size) (fun e => ?_)
    rcases h.1.2 with ⟨rfl, _⟩ | ⟨q, c1, cur, rfl, _, h3, _⟩
    · cases e
    · have e' : some m = some q := e
      injection e' with e'
      subst e'
      exact hne _ _ h3
  have keepL : ∀ (A : Option Addr) (zs : List Int), LiesI w A zs → (∀ ad, A = some ad → g < ad.block ∧ ad.block < w.heap.size ∧ ∀ cur fz, w.heap[ad.block]? ≠ some (.cells cur 65 fz)) → LiesI w3 A zs ∧ ∀ ad, A = some ad → g < ad.block ∧ ad.block < w3.heap.size ∧ ∀ cur fz, w3.heap[ad.block]? ≠ some (.cells cur 65 fz) := by
    intro A zs hA hf
    refine ⟨fun hp => ?_, fun ad he => ?_⟩
    · obtain ⟨ad, rfl, h1, h2⟩ := hA hp
      obtain ⟨_, h3, h4⟩ := hf ad rfl
      refine ⟨ad, rfl, ?_, fun i x hi => ?_⟩
      · exact Nat.lt_of_lt_of_le h1 (Nat.le_trans hW.size hg.size)
      · have := h2 i x hi
        unfold World.cell? at this ⊢
        rw [keep _ (by rw [addB]; exact h3) (by rw [addB]; exact h4)]
        exact this
    · obtain ⟨h1, h3, h4⟩ := hf ad he
      refine ⟨h1, ?_, by rw [keep _ h3 h4]; exact h4⟩
      exact Nat.lt_of_lt_of_le h3 (Nat.le_trans hW.size hg.size)
  refine ⟨by rw [List.length_append]; exact ho, fun i m hi => ?_⟩
  by_cases hin : i < ns.length
  · rw [List.getElem?_append_left hin] at hi
    obtain ⟨a, b, c, B', cap', d, hl', hB'⟩ := h.2 i m hi
    obtain ⟨k1, k2⟩ := keepL B' _ hl' hB'
    refine ⟨?_, ?_, ?_, B', cap', ?_, k1, k2⟩
    all_goals rw [List.getElem?_append_left (by omega)]; assumption
  · have hin' : i = ns.length := by
      have := (List.getElem?_eq_some_iff.1 hi).1
      rw [List.length_append] at this
      simp at this; omega
    subst hin'
    rw [List.getElem?_append_right (Nat.le_refl _), Nat.sub_self] at hi
    obtain rfl : n = m := by simpa using hi
    obtain ⟨k1, k2⟩ := keepL B _ hl hB
    refine ⟨?_, ?_, ?_, B, cap, ?_, k1, k2⟩
    all_goals
      rw [List.getElem?_append_right (by omega), hx]
      first | (rw [Nat.sub_self]; rfl) | (rw [Nat.add_sub_cancel_left]; rfl)
theorem NodesRow.lies {w : World} {base g : Nat} {v : Value} {ns : List Nd} {xs : List Value} (h : NodesRow w base g v ns xs) : ∃ A' cap', v = .slice A' ns.length cap' ∧ ns.length ≤ cap' ∧ LiesN w A' ns ∧ ∀ ad, A' = some ad → base ≤ ad.block := by
  rcases h.1.2 with ⟨rfl, h0⟩ | ⟨q, cap', cur, rfl, hb, _, hc, _⟩
  · exact ⟨none, 0, by rw [h0], by omega, fun hp => by omega, fun ad h => by cases h⟩
  · refine ⟨_, cap', rfl, hc, fun hp => ⟨_, rfl, (h.1.lt q rfl).2, fun i n hi => ?_⟩, fun ad h => by injection h with h; subst h; exact hb⟩
    obtain ⟨f0, f1, f3, B, bc, f2, hl, _⟩ := h.2 i n hi
    exact ⟨h.1.cells (g := q) rfl _ _ f0, (by rw [add_add]; exact h.1.cells (g := q) rfl _ _ f1), (by rw [add_add]; exact h.1.cells (g := q) rfl _ _ f3), B, bc, (by rw [add_add]; exact h.1.cells (g := q) rfl _ _ f2), hl⟩

end Go.Proofs.YtkdonapgonegkaaDoor

set_option linter.unusedSimpArgs false
set_option linter.unusedVariables false
namespace Go.Proofs.YtkdonapgonegkaaDoor
open Go.RowKit Go.BigFrame

theorem But.grown {g : Nat} {W w w' : World} {row : Option Nat} (h : But g W w) (hg : w.grownBy w' row) (hr : ∀ q, row = some q → W.heap.size ≤ q) : But g W w' :=
  ⟨Nat.le_trans h.size hg.size, fun n hn hne => (hg.block n (Nat.lt_of_lt_of_le hn h.size) (fun e => by have := hr n e.symm; omega)).trans (h.block n hn hne)⟩
theorem But.alloc {g : Nat} {W w : World} (h : But g W w) (o : Obj) : But g W (w.alloc o) := h.below ((Below.refl _ _).alloc (Nat.le_refl _) _)
/-- The nodes of a cone, and the places of all nodes in it, behind so many nodes. -/
def conK (ns : List Nd) (bs : List Bool) : Nat → List Nd × List Int
  | 0 => ([], List.replicate ns.length 0)
  | k + 1 => match ns[k]? with
    | none => conK ns bs k
    | some n => if bs.getD k false = true then ((conK ns bs k).1 ++ [⟨n.op, n.wd, n.args.map (fun a => ((conK ns bs k).2.set k (conK ns bs k).1.length).getD a.toNat 0), n.v⟩], (conK ns bs k).2.set k (conK ns bs k).1.length) else conK ns bs k
def coneN (ns : List Nd) (fr : List Int) : List Nd := (conK ns (belL ns fr) ns.length).1
def coneP (ns : List Nd) (fr : List Int) : List Int := pickL (conK ns (belL ns fr) ns.length).2 fr
theorem conK_no {ns : List Nd} {bs : List Bool} {k : Nat} {n : Nd} (hn : ns[k]? = some n) (hb : bs[k]? = some false) : conK ns bs (k + 1) = conK ns bs k := by
  simp [conK, hn, List.getD, hb]
theorem conK_yes {ns : List Nd} {bs : List Bool} {k : Nat} {n : Nd} (hn : ns[k]? = some n) (hb : bs[k]? = some true) : conK ns bs (k + 1) = ((conK ns bs k).1 ++ [⟨n.op, n.wd, n.args.map (fun a => ((conK ns bs k).2.set k (conK ns bs k).1.length).getD a.toNat 0), n.v⟩], (conK ns bs k).2.set k (conK ns bs k).1.length) := by
  have e : bs.getD k false = true := by simp [List.getD, hb]
  simp only [conK, hn, e, if_true]
theorem conK_len {ns : List Nd} {bs : List Bool} : ∀ k : Nat, (conK ns bs k).2.length = ns.length ∧ (conK ns bs k).1.length ≤ k := by
  intro k
  induction k with
  | zero => exact ⟨by simp [conK], Nat.le_refl _⟩
  | succ k ih =>
    simp only [conK]
    split
    · exact ⟨ih.1, by omega⟩
    · split
      · refine ⟨by rw [List.length_set]; exact ih.1, ?_⟩
        rw [List.length_append]; simp; omega
      · exact ⟨ih.1, by omega⟩
/-- Nodes and numbers, as results. -/
def ConeR (w : World) (cs : List Nd) (ps : List Int) (e : Ending) (w' : World) : Prop := ∃ A c B c2, e = .returned (.tuple #[.slice A cs.length c, .slice B ps.length c2]) ∧ cs.length ≤ c ∧ LiesN w' A cs ∧ LiesI w' B ps ∧ Below w.heap.size w w'

set_option maxRecDepth 100000 in
set_option maxHeartbeats 1600000 in
theorem coneOf_c (N : Option Addr) (capN : Nat) (ns : List Nd) (hns : ns.length ≤ 65536) (L : Nat) (hall : ∀ k n, ns[k]? = some n → NodeOK ns L k n) (F : Option Addr) (cf : Nat) (fr : List Int) (hfr : fr.length ≤ 65536) (hf : ∀ x ∈ fr, isIx x ns.length = true) (w : World) (hN : LiesN w N ns) (hF : LiesI w F fr) :
    Calls Tryd.prog 93 #[.slice N ns.length capN, .slice F fr.length cf] w (ConeR w (coneN ns fr) (coneP ns fr)) := by
  obtain ⟨i0, hi, hz0, hz1, hz2⟩ := info_parts int_info
  obtain ⟨ni0, nhi, nhz0, nhz1, nhz2⟩ := info_parts node_info
  have HNN := Lib.hid hN
  have HFF := Lib.hid hF
  have HALL := Lib.hid hall
  have HFX := Lib.hid hf
  have HBE := Lib.hid (fun (W : World) (hb : Below w.heap.size w W) => below_c N capN ns hns L hall F cf fr hfr hf W (hN.below hb) (hF.below hb))
  clear hN hF hall hf
  go_enter Tryd.func93, Tryd.ntmps93
  go_wp2_with (refine wpList_make_full _ rfl _ _ 22 rfl w.heap.size 3 i0 _ 1 Tryd.underlying22 hi hz0 hz1 .i64 .i64 _ _ ns.length rfl rfl rfl rfl (by rw [hz2]; omega) (by unfold maxLen; omega) (Nat.le_refl _) ?_; intro W1 hown hgr; have hb2 := (Below.refl w.heap.size w).grown hgr (Nat.le_refl _) (fun q hq => by cases hq); have rg : W1.heap[w.heap.size]? = some (.cells (rowA (List.replicate ns.length 0)) 3) := (by have := row_block hown rfl; rwa [row_made] at this); clear hown hgr)
  have lg := lt_of_get rg
  have rP : (W1.alloc (.cells #[.slice (some ⟨w.heap.size, 0, none⟩) ns.length ns.length] 22)).heap[W1.heap.size]? = some (.cells #[.slice (some ⟨w.heap.size, 0, none⟩) ns.length ns.length] 22) := heap_alloc_new _ _
  have rg1 := heap_alloc' (o := .cells #[.slice (some ⟨w.heap.size, 0, none⟩) ns.length ns.length] 22) lg rg
  have hb3 := hb2.alloc hb2.size (.cells #[.slice (some ⟨w.heap.size, 0, none⟩) ns.length ns.length] 22)
  have hPg : w.heap.size < W1.heap.size := lg
  generalize W1.alloc (.cells #[.slice (some ⟨w.heap.size, 0, none⟩) ns.length ns.length] 22) = W2 at *
  clear rg hb2 lg
  generalize W1.heap.size = P at *
  refine (HBE.out _ hb3).mono ?_
  rintro e W3 ⟨M, cm, rfl, hM, hfr2, hb4⟩
  have rg := (hb4.block _ (lt_of_get rg1)).trans rg1
  have rP3 := (hb4.block _ (lt_of_get rP)).trans rP
  have hb5 := hb3.trans (hb4.mono hb3.size)
  have HFR := Lib.hid (fun ad h => Nat.lt_of_lt_of_le (lt_of_get rg1) (hfr2 ad h))
  have HM := Lib.hid hM
  have HBLn := Lib.hid (belL_len ns fr)
  rw [HBLn.out]
  clear hM hfr2 hb4 hb3 rg1 rP HBE
  generalize hg : w.heap.size = g at *
  have hb0 : Below w.heap.size w W3 := by rw [hg]; exact hb5
  clear hb5
  have lP3 := lt_of_get rP3
  go_wp2_with fail
  have HCN := Lib.hid (show coneN ns fr = (conK ns (belL ns fr) ns.length).1 from rfl)
  have HCP := Lib.hid (show coneP ns fr = pickL (conK ns (belL ns fr) ns.length).2 fr from rfl)
  generalize hbs : belL ns fr = bs at *
  go_loopw [6, 17] (fun v6 v17 wr => ∃ (k : Nat) (xs : List Value), k ≤ ns.length ∧ v17 = .int .i64 k ∧ NodesRow wr W3.heap.size g v6 (conK ns bs k).1 xs ∧ wr.heap[g]? = some (.cells (rowA (conK ns bs k).2) 3) ∧ Below w.heap.size w wr ∧ But g W3 wr) (fun _ v17 _ => ns.length - (intOf v17).toNat)
  case atStart => exact ⟨0, [], by omega, rfl, NodesRow.nil _ _ _, rg, hb0, But.refl _ _⟩
  case round =>
    clear rg hb0
    obtain ⟨k, xs, hk, rfl, hrow, rg, hb, hbut⟩ := hrel
    obtain ⟨A0, c0', hv6, hc0, hlN, _⟩ := hrow.lies
    subst hv6
    have HKL := Lib.hid (conK_len (ns := ns) (bs := bs) k)
    by_cases hlt : k < ns.length
    · have hkk : (k : Int) < ns.length := by omega
      have HX := Lib.hid (List.getElem?_eq_getElem hlt)
      generalize ns[k] = x at *
      obtain ⟨b, hbk'⟩ : ∃ b, bs[k]? = some b := ⟨_, List.getElem?_eq_getElem (by rw [HBLn.out]; exact hlt)⟩
      obtain ⟨am, rfl, ham, cm0⟩ := HM.out.cell hbk'
      have cm1 := (hbut.cell (p := am.add k) (by rw [addB]; exact ham) (by rw [addB]; exact Nat.ne_of_gt (HFR.out am rfl))).trans cm0
      have HBK := Lib.hid hbk'
      clear cm0 hbk' hlN
      cases b with
      | false =>
        have HS := Lib.hid (conK_no HX.out HBK.out)
        have HR := Lib.hid hrow
        clear hrow
        go_wp2
        go_roundw
        case rel => exact ⟨k + 1, xs, by omega, by go_num, by rw [HS.out]; exact HR.out, by rw [HS.out]; exact rg, hb, hbut⟩
        case measure => simp [intOf]; omega
      | true =>
        have HS := Lib.hid (conK_yes HX.out HBK.out)
        have HOK := Lib.hid (HALL.out k x HX.out)
        have qP := cell_block (i := 0) ((hbut.block P lP3 (by omega)).trans rP3)
        simp at qP
        obtain ⟨u, hu⟩ : ∃ u, (conK ns bs k).2[k]? = some u := ⟨_, List.getElem?_eq_getElem (by rw [HKL.out.1]; exact hlt)⟩
        have qk := (cell_block (i := k) rg).trans (rowA_in hu)
        have fk := free_block (i := k) rg
        have HML := Lib.hid HKL.out.2
        have HPL := Lib.hid HKL.out.1
        have hml := HML.out
        have hc0k : (conK ns bs k).1.length ≤ 65536 := by omega
        clear hu
        generalize conK ns bs k = CK at *
        obtain ⟨cs, ps⟩ := CK
        simp only at *
        have HROW := Lib.hid hrow
        clear hrow
        go_upto_region 8 with (fail)
        have rgS : (wr.setCell ⟨g, k, none⟩ (.int .i64 (cs.length : Int))).heap[g]? = some (.cells (rowA (ps.set k cs.length)) 3) := by rw [heap_set rg, rowA_set]
        have hbS : Below w.heap.size w (wr.setCell ⟨g, k, none⟩ (.int .i64 (cs.length : Int))) := hb.setCell (p := ⟨g, k, none⟩) (Nat.le_of_eq hg) _
        have hbutS : But g W3 (wr.setCell ⟨g, k, none⟩ (.int .i64 (cs.length : Int))) := hbut.setCell
        have HROWS := Lib.hid (HROW.out.setCell (m := g) (j := k) (u := .int .i64 (cs.length : Int)) (by omega) (Nat.le_refl _))
        clear rg hb hbut HROW qk fk qP
        generalize wr.setCell ⟨g, k, none⟩ (.int .i64 (cs.length : Int)) = S1 at *
        have qP := cell_block (i := 0) ((hbutS.block P lP3 (by omega)).trans rP3)
        simp at qP
        obtain ⟨ad, rfl, hbl, c0, c1, c3, B, bc, c2, hB⟩ := HNN.out.cells HX.out
        have hbk : ∀ p : Addr, p.block = ad.block → S1.cell? p = w.cell? p := fun p hp => hbS.cell (p := p) (by rw [hp]; exact hbl)
        have a0 := (hbk (ad.add (k * 4)) (by rw [addB])).trans c0
        have a1 : S1.cell? ⟨(ad.add (k * 4)).block, (ad.add (k * 4)).off + 1, none⟩ = some (.int .i64 x.wd) := (hbk ((ad.add (k * 4)).add 1) (by rw [addB, addB])).trans c1
        have a2 : S1.cell? ⟨(ad.add (k * 4)).block, (ad.add (k * 4)).off + 2, none⟩ = some (.slice B x.args.length bc) := (hbk ((ad.add (k * 4)).add 2) (by rw [addB, addB])).trans c2
        have a3 : S1.cell? ⟨(ad.add (k * 4)).block, (ad.add (k * 4)).off + 3, none⟩ = some (.int .i64 x.v) := (hbk ((ad.add (k * 4)).add 3) (by rw [addB, addB])).trans c3
        clear c0 c1 c2 c3 hbk
        have HBL := Lib.hid hB
        clear hB
        have HAL := Lib.hid HOK.out.al
        obtain ⟨op, wd, args, v⟩ := x
        simp only at a0 a1 a2 a3 HBL HAL HS
        have hal : args.length ≤ 65536 := by have := HAL.out; omega
        have HAI : Hid (∀ a ∈ args, 0 ≤ a ∧ a < k) := Lib.hid (fun a ha => by
          obtain ⟨i, hi, rfl⟩ := List.mem_iff_getElem.1 ha
          exact HOK.out.ai i _ (List.getElem?_eq_getElem hi))
        have HWA := Lib.hid (withArgs_cone P (fun a => (ps.set k cs.length).getD a.toNat 0) op wd v B bc args hal S1 (HBL.out.below hbS) (fun a ha W hbW => by
          obtain ⟨h0, h1⟩ := HAI.out a ha
          obtain ⟨j, rfl⟩ := Int.eq_ofNat_of_zero_le h0
          have hj : j < (ps.set k cs.length).length := by rw [List.length_set, HPL.out]; omega
          refine coneOf1_c j ns.length ns.length _ P ⟨g, 0, none⟩ (by omega) hns W ?_ ?_
          · rw [hbW.cell (p := ⟨P, 0, none⟩) (Nat.lt_of_lt_of_le lP3 hbutS.size)]; exact qP
          · rw [Addr.add_lit, Nat.zero_add]
            refine (cell_block ((hbW.block g (lt_of_get rgS)).trans rgS)).trans (rowA_in ?_)
            simp [List.getD, List.getElem?_eq_getElem hj]))
        have lW3 : W3.heap.size ≤ S1.heap.size := hbutS.size
        go_wp2_with fail
        refine HWA.out.mono ?_
        rintro e W4 ⟨A2, cap2, rfl, hc2, hl2, hf2, hb4⟩
        rw [List.length_map]
        have hrow4 := HROWS.out.below hb4
        have lW4 := Nat.le_trans lW3 hb4.size
        have HL2 := Lib.hid hl2
        have HF2 : Hid (∀ ad, A2 = some ad → g < ad.block ∧ ad.block < W4.heap.size ∧ ∀ cur fz, W4.heap[ad.block]? ≠ some (.cells cur 65 fz)) := Lib.hid (fun ad h => by
          obtain ⟨h1, cur, h2⟩ := hf2 ad h
          refine ⟨by omega, lt_of_get h2, fun c z h3 => ?_⟩
          rw [h2] at h3
          simp at h3)
        clear hc2 hl2 hf2 a0 a1 a2 a3 qP
        go_wp2_with (at_builtin; refine wpList_append_own _ rfl _ _ 23 rfl W3.heap.size 65 ni0 (.agg #[.int .i64 0, .int .i64 0, .slice none 0 0, .int .i64 0]) 4 48 Tryd.underlying23 nhi nhz0 nhz1 nhz2 rfl (by decide) _ _ _ rfl (hrow4.1.alloc _) ⟨_, 0, none⟩ 1 1 [.int .i64 op, .int .i64 wd, .slice A2 args.length cap2, .int .i64 v] rfl rfl four_new (fun x hx => by simp at hx; rcases hx with rfl | rfl | rfl | rfl <;> rfl) (by unfold maxLen; omega) (by omega) (by first | omega | (simp; omega) | (simp at *; omega)) ?_; intro v' w3 hown' hgrow3 hnn)
        have HR5 := Lib.hid (NodesRow.snoc (n := ⟨op, wd, args.map (fun a => (ps.set k cs.length).getD a.toNat 0), v⟩) (cap := cap2) hrow4 ((Below.refl _ _).alloc (Nat.le_refl _) _) (by simpa using hown') hgrow3 HL2.out HF2.out)
        have hsg : g < S1.heap.size := lt_of_get rgS
        have HG5 := Lib.hid ((hgrow3.block g (by simp; have := hb4.size; omega) (fun e => by have := (hrow4.1.lt g e.symm).1; omega)).trans ((heap_alloc' (by have := hb4.size; omega) ((hb4.block g hsg).trans rgS))))
        have hb45 := hbS.trans (hb4.mono hbS.size)
        have HB5 := Lib.hid ((hb45.alloc hb45.size (.cells #[.int .i64 op, .int .i64 wd, .slice A2 args.length cap2, .int .i64 v] 65)).grown hgrow3 (by simp; have := hb45.size; omega) (fun q hq => by have := (hrow4.1.lt q hq).1; omega))
        have HT5 := Lib.hid (((hbutS.below hb4).alloc (.cells #[.int .i64 op, .int .i64 wd, .slice A2 args.length cap2, .int .i64 v] 65)).grown hgrow3 (fun q hq => (hrow4.1.lt q hq).1))
        clear hown' hgrow3 hrow4 hb45 hb4 rgS hbS hbutS
        go_wp2
        go_roundw
        case rel => exact ⟨k + 1, _, by omega, by go_num, by rw [HS.out]; exact HR5.out, by rw [HS.out]; exact HG5.out, HB5.out, HT5.out⟩
        case measure => simp [intOf]; omega
    · obtain rfl : k = ns.length := by omega
      have HPK := Lib.hid (picked_c (some ⟨g, 0, none⟩) ns.length (conK ns bs ns.length).2 (by rw [HKL.out.1]; exact hns) F cf fr hfr (by rw [HKL.out.1]; exact HFX.out) wr (LiesI.block rg) (HFF.out.below hb))
      rw [HKL.out.1] at HPK
      have qP := cell_block (i := 0) ((hbut.block P lP3 (by omega)).trans rP3)
      simp at qP
      have HLN := Lib.hid hlN
      clear hrow rg hbut
      go_wp2_with fail
      refine HPK.out.mono ?_
      rintro e W5 ⟨A', cap', rfl, hl5, _, hb5⟩
      have HF := Lib.hid (show ConeR w (coneN ns fr) (coneP ns fr) (.returned (.tuple #[.slice A0 (conK ns bs ns.length).1.length c0', .slice A' fr.length cap'])) W5 from
        ⟨A0, c0', A', cap', by rw [HCN.out, HCP.out, pickL_len], by rw [HCN.out]; exact hc0, by rw [HCN.out]; exact HLN.out.below hb5, by rw [HCP.out]; exact hl5, hb.trans (hb5.mono hb.size)⟩)
      clear hl5 hb5
      go_wp2
      go_ret2
      exact HF.out

end Go.Proofs.YtkdonapgonegkaaDoor
