/-
  Contracts of chapter 2 (graph): the arguments of a node as values with widths.
-/
import Derived.Test.YtkdonapgonegkaaDoorGv
set_option linter.unusedSimpArgs false
set_option linter.unusedVariables false
namespace Go.Proofs.YtkdonapgonegkaaDoor
open Go.RowKit Go.BigFrame

set_option maxRecDepth 100000 in
set_option maxHeartbeats 1600000 in
theorem valuesOf1_c (k : Nat) (x : Int) (P Q g vl vc : Nat) (A : Option Addr) (cap : Nat) (ns : List Nd) (n : Nd) (hn : ns[k]? = some n) (hl : ns.length ≤ 65536) (hk : k < vl) (hvl : vl ≤ 65536) (w : World) (lP : P < w.heap.size) (lQ : Q < w.heap.size) (lg : g < w.heap.size)
    (c0 : w.cell? ⟨P, 0, none⟩ = some (.slice A ns.length cap)) (c1 : w.cell? ⟨Q, 0, none⟩ = some (.slice (some ⟨g, 0, none⟩) vl vc)) (c2 : w.cell? ⟨g, k, none⟩ = some (.int .i64 x)) (h : LiesN w A ns) :
    Calls Tryd.prog 88 #[.int .i64 k, .pointer (some ⟨P, 0, none⟩), .pointer (some ⟨Q, 0, none⟩)] w fun e w' => e = .returned (.agg #[.int .i64 n.wd, .int .i64 x]) ∧ ∃ y : Aft w, w' = y.val := by
  obtain ⟨ad, rfl, hb, h0, h1, _⟩ := h.cells hn
  have hk := (List.getElem?_eq_some_iff.1 hn).1
  have hkk : (k : Int) < ns.length := by omega
  have h1' : w.cell? ⟨(ad.add (k * 4)).block, (ad.add (k * 4)).off + 1, none⟩ = some (.int .i64 n.wd) := h1
  have hbk : (ad.add (k * 4)).block < w.heap.size := by rw [addB]; exact hb
  clear hn h h0 h1
  go_enter Tryd.func88, Tryd.ntmps88
  go_wp2_with fail
  have hb0 : Below w.heap.size w (w.alloc (.cells #[.int .i64 0, .int .i64 0] 123)) := (Below.refl _ _).alloc (Nat.le_refl _) _
  have d0 := (hb0.cell (p := ⟨P, 0, none⟩) lP).trans c0
  have d1 := (hb0.cell (p := ⟨Q, 0, none⟩) lQ).trans c1
  have d2 := (hb0.cell (p := ⟨g, k, none⟩) lg).trans c2
  have d3 := (hb0.cell (p := ⟨(ad.add (k * 4)).block, (ad.add (k * 4)).off + 1, none⟩) hbk).trans h1'
  have rr : (w.alloc (.cells #[.int .i64 0, .int .i64 0] 123)).heap[w.heap.size]? = some (.cells #[.int .i64 0, .int .i64 0] 123) := heap_alloc_new _ _
  have lr := lt_of_get rr
  clear c0 c1 c2 h1'
  have lP' : P < (w.alloc (.cells #[.int .i64 0, .int .i64 0] 123)).heap.size := by simp; omega
  have lQ' : Q < (w.alloc (.cells #[.int .i64 0, .int .i64 0] 123)).heap.size := by simp; omega
  have lg' : g < (w.alloc (.cells #[.int .i64 0, .int .i64 0] 123)).heap.size := by simp; omega
  have lb' : (ad.add (k * 4)).block < (w.alloc (.cells #[.int .i64 0, .int .i64 0] 123)).heap.size := by simp; omega
  generalize w.alloc (.cells #[.int .i64 0, .int .i64 0] 123) = W1 at *
  have hx : ∀ z : Aft W1, z.val.cell? ⟨(ad.add (k * 4)).block, (ad.add (k * 4)).off + 1, none⟩ = some (.int .i64 n.wd) := fun z => (z.cell _ _ lb').trans d3
  refine wp_region_aft_tail 10 (by kernel_rfl) (by kernel_rfl) ?_
  simp only [List.take_succ_cons, List.take_zero, List.drop_succ_cons, List.drop_zero]
  repeat (go_big_quiet_step (fail))
  refine wpQuiet_nil ?_
  intro y
  have r2 := heap_aft y lr rr
  have q0 := cell_block (i := 0) r2
  have q1 := cell_block (i := 1) r2
  have f0 := free_block (i := 0) r2
  have f1 := free_block (i := 1) r2
  simp at q0 q1
  have hby := y.below hb0 hb0.size
  clear rr r2 hx d0 d1 d2 d3
  generalize y.val = W2 at *
  go_wp2
  refine bodyPost_ret (by simp [results, Tryd.results88, go_sem, q0, q1]; try rfl) rfl ?_
  exact ⟨rfl, Below.aft (by (repeat' (first | (with_reducible exact Below.refl _ _) | (with_reducible assumption) | (with_reducible refine Below.alloc ?_ ?_ _) | (with_reducible refine Below.drew ?_) | (with_reducible refine Aft.below _ ?_ ?_) | (with_reducible refine Below.setCell_new ?_ ?_ _ _) | (with_reducible exact Nat.le_refl _) | (with_reducible refine Aft.le _ ?_) | (with_reducible refine le_alloc ?_) | (with_reducible refine le_drew ?_) | (with_reducible refine le_setCell ?_) | omega)))⟩

set_option maxRecDepth 100000 in
set_option maxHeartbeats 1600000 in
theorem bargs0 (op wd v : Int) (B : Option Addr) (bc : Nat) (P Q gv vl vc : Nat) (A : Option Addr) (cap : Nat) (ns : List Nd) (hl : ns.length ≤ 65536) (hvl : vl ≤ 65536) (w : World) (lP : P < w.heap.size) (lQ : Q < w.heap.size) (lg : gv < w.heap.size) 
    (c0 : w.cell? ⟨P, 0, none⟩ = some (.slice A ns.length cap)) (c1 : w.cell? ⟨Q, 0, none⟩ = some (.slice (some ⟨gv, 0, none⟩) vl vc)) (h : LiesN w A ns) (hB : LiesI w B []) :
    Calls Tryd.prog 87 #[.agg #[.int .i64 op, .int .i64 wd, .slice B 0 bc, .int .i64 v], .func (.func 88) #[] #[.pointer (some ⟨P, 0, none⟩), .pointer (some ⟨Q, 0, none⟩)]] w fun e w' => e = .returned (.agg #[.int .i64 0, .int .i64 0, .int .i64 0, .int .i64 0, .int .i64 0, .int .i64 0]) ∧ ∃ x : Aft w, w' = x.val := by
  clear h hB c0 c1 
  go_enter Tryd.func87, Tryd.ntmps87
  go_wp2_with fail
  have rL : (((w.alloc (.cells #[.int .i64 op, .int .i64 wd, .slice B 0 bc, .int .i64 v] 65)).alloc (.cells #[.int .i64 0, .int .i64 0, .int .i64 0, .int .i64 0, .int .i64 0, .int .i64 0] 124)).alloc (.cells #[.int .i64 0, .int .i64 0, .int .i64 0, .int .i64 0, .int .i64 0, .int .i64 0] 124)).heap[w.heap.size + 2]? = some (.cells #[.int .i64 0, .int .i64 0, .int .i64 0, .int .i64 0, .int .i64 0, .int .i64 0] 124) := by
    exact heap_alloc_at (by simp)
  have rR : (((w.alloc (.cells #[.int .i64 op, .int .i64 wd, .slice B 0 bc, .int .i64 v] 65)).alloc (.cells #[.int .i64 0, .int .i64 0, .int .i64 0, .int .i64 0, .int .i64 0, .int .i64 0] 124)).alloc (.cells #[.int .i64 0, .int .i64 0, .int .i64 0, .int .i64 0, .int .i64 0, .int .i64 0] 124)).heap[w.heap.size + 1]? = some (.cells #[.int .i64 0, .int .i64 0, .int .i64 0, .int .i64 0, .int .i64 0, .int .i64 0] 124) := by
    exact heap_alloc' (by simp) (heap_alloc_at (by simp))
  have rN : (((w.alloc (.cells #[.int .i64 op, .int .i64 wd, .slice B 0 bc, .int .i64 v] 65)).alloc (.cells #[.int .i64 0, .int .i64 0, .int .i64 0, .int .i64 0, .int .i64 0, .int .i64 0] 124)).alloc (.cells #[.int .i64 0, .int .i64 0, .int .i64 0, .int .i64 0, .int .i64 0, .int .i64 0] 124)).heap[w.heap.size]? = some (.cells #[.int .i64 op, .int .i64 wd, .slice B 0 bc, .int .i64 v] 65) := heap_alloc' (by simp; omega) (heap_alloc' (by simp) (heap_alloc_new _ _))
  have hb0 : Below w.heap.size w (((w.alloc (.cells #[.int .i64 op, .int .i64 wd, .slice B 0 bc, .int .i64 v] 65)).alloc (.cells #[.int .i64 0, .int .i64 0, .int .i64 0, .int .i64 0, .int .i64 0, .int .i64 0] 124)).alloc (.cells #[.int .i64 0, .int .i64 0, .int .i64 0, .int .i64 0, .int .i64 0, .int .i64 0] 124)) := (((Below.refl _ _).alloc (Nat.le_refl _) _).alloc (by simp) _).alloc (by simp; omega) _
  have qN := cell_block (i := 2) rN
  simp at qN
  clear rN
  generalize (((w.alloc (.cells #[.int .i64 op, .int .i64 wd, .slice B 0 bc, .int .i64 v] 65)).alloc (.cells #[.int .i64 0, .int .i64 0, .int .i64 0, .int .i64 0, .int .i64 0, .int .i64 0] 124)).alloc (.cells #[.int .i64 0, .int .i64 0, .int .i64 0, .int .i64 0, .int .i64 0, .int .i64 0] 124)) = W0 at *
  refine wp_loop_rounds 1 ?_
  rw [rounds_succ]
  have u0 := cell_block (i := 0) rL
  have p0 := cell_block (i := 0) rR
  have f0 := free_block (i := 0) rR
  have u1 := cell_block (i := 1) rL
  have p1 := cell_block (i := 1) rR
  have f1 := free_block (i := 1) rR
  have u2 := cell_block (i := 2) rL
  have p2 := cell_block (i := 2) rR
  have f2 := free_block (i := 2) rR
  have u3 := cell_block (i := 3) rL
  have p3 := cell_block (i := 3) rR
  have f3 := free_block (i := 3) rR
  have u4 := cell_block (i := 4) rL
  have p4 := cell_block (i := 4) rR
  have f4 := free_block (i := 4) rR
  have u5 := cell_block (i := 5) rL
  have p5 := cell_block (i := 5) rR
  have f5 := free_block (i := 5) rR
  simp at u0 u1 u2 u3 u4 u5 p0 p1 p2 p3 p4 p5
  go_wp2
  refine bodyPost_ret (by simp [results, Tryd.results87, go_sem, p0, p1, p2, p3, p4, p5]; try rfl) rfl ?_
  exact ⟨rfl, Below.aft (by (repeat' (first | (with_reducible exact Below.refl _ _) | (with_reducible assumption) | (with_reducible refine Below.alloc ?_ ?_ _) | (with_reducible refine Below.drew ?_) | (with_reducible refine Aft.below _ ?_ ?_) | (with_reducible refine Below.setCell_new ?_ ?_ _ _) | (with_reducible exact Nat.le_refl _) | (with_reducible refine Aft.le _ ?_) | (with_reducible refine le_alloc ?_) | (with_reducible refine le_drew ?_) | (with_reducible refine le_setCell ?_) | omega)))⟩

set_option maxRecDepth 100000 in
set_option maxHeartbeats 1600000 in
theorem bargs1 (op wd v : Int) (B : Option Addr) (bc : Nat) (P Q gv vl vc : Nat) (A : Option Addr) (cap : Nat) (ns : List Nd) (hl : ns.length ≤ 65536) (hvl : vl ≤ 65536) (w : World) (lP : P < w.heap.size) (lQ : Q < w.heap.size) (lg : gv < w.heap.size) (k0 : Nat) (n0 : Nd) (x0 : Int) (g0 : ns[k0]? = some n0) (lk0 : k0 < vl) (e0 : w.cell? ⟨gv, k0, none⟩ = some (.int .i64 x0))
    (c0 : w.cell? ⟨P, 0, none⟩ = some (.slice A ns.length cap)) (c1 : w.cell? ⟨Q, 0, none⟩ = some (.slice (some ⟨gv, 0, none⟩) vl vc)) (h : LiesN w A ns) (hB : LiesI w B [(k0 : Int)]) :
    Calls Tryd.prog 87 #[.agg #[.int .i64 op, .int .i64 wd, .slice B 1 bc, .int .i64 v], .func (.func 88) #[] #[.pointer (some ⟨P, 0, none⟩), .pointer (some ⟨Q, 0, none⟩)]] w fun e w' => e = .returned (.agg #[.int .i64 n0.wd, .int .i64 x0, .int .i64 0, .int .i64 0, .int .i64 0, .int .i64 0]) ∧ ∃ x : Aft w, w' = x.val := by
  have HC0 := Lib.hid (fun (W : World) (hb : Below w.heap.size w W) => valuesOf1_c k0 x0 P Q gv vl vc A cap ns n0 g0 hl lk0 hvl W (Nat.lt_of_lt_of_le lP hb.size) (Nat.lt_of_lt_of_le lQ hb.size) (Nat.lt_of_lt_of_le lg hb.size) ((hb.cell (p := ⟨P, 0, none⟩) lP).trans c0) ((hb.cell (p := ⟨Q, 0, none⟩) lQ).trans c1) ((hb.cell (p := ⟨gv, k0, none⟩) lg).trans e0) (h.below hb))
  obtain ⟨ad, rfl, hbk, hcell⟩ := hB (by simp)
  have hx0 := hcell 0 k0 (by rfl)
  have HX := Lib.hid (fun (W : World) (hb : Below w.heap.size w W) (i : Nat) => (hb.cell (p := ad.add i) (by rw [addB]; exact hbk)))
  clear h hB c0 c1 hcell e0
  go_enter Tryd.func87, Tryd.ntmps87
  go_wp2_with fail
  have rL : (((w.alloc (.cells #[.int .i64 op, .int .i64 wd, .slice (some ad) 1 bc, .int .i64 v] 65)).alloc (.cells #[.int .i64 0, .int .i64 0, .int .i64 0, .int .i64 0, .int .i64 0, .int .i64 0] 124)).alloc (.cells #[.int .i64 0, .int .i64 0, .int .i64 0, .int .i64 0, .int .i64 0, .int .i64 0] 124)).heap[w.heap.size + 2]? = some (.cells #[.int .i64 0, .int .i64 0, .int .i64 0, .int .i64 0, .int .i64 0, .int .i64 0] 124) := by
    exact heap_alloc_at (by simp)
  have rR : (((w.alloc (.cells #[.int .i64 op, .int .i64 wd, .slice (some ad) 1 bc, .int .i64 v] 65)).alloc (.cells #[.int .i64 0, .int .i64 0, .int .i64 0, .int .i64 0, .int .i64 0, .int .i64 0] 124)).alloc (.cells #[.int .i64 0, .int .i64 0, .int .i64 0, .int .i64 0, .int .i64 0, .int .i64 0] 124)).heap[w.heap.size + 1]? = some (.cells #[.int .i64 0, .int .i64 0, .int .i64 0, .int .i64 0, .int .i64 0, .int .i64 0] 124) := by
    exact heap_alloc' (by simp) (heap_alloc_at (by simp))
  have rN : (((w.alloc (.cells #[.int .i64 op, .int .i64 wd, .slice (some ad) 1 bc, .int .i64 v] 65)).alloc (.cells #[.int .i64 0, .int .i64 0, .int .i64 0, .int .i64 0, .int .i64 0, .int .i64 0] 124)).alloc (.cells #[.int .i64 0, .int .i64 0, .int .i64 0, .int .i64 0, .int .i64 0, .int .i64 0] 124)).heap[w.heap.size]? = some (.cells #[.int .i64 op, .int .i64 wd, .slice (some ad) 1 bc, .int .i64 v] 65) := heap_alloc' (by simp; omega) (heap_alloc' (by simp) (heap_alloc_new _ _))
  have hb0 : Below w.heap.size w (((w.alloc (.cells #[.int .i64 op, .int .i64 wd, .slice (some ad) 1 bc, .int .i64 v] 65)).alloc (.cells #[.int .i64 0, .int .i64 0, .int .i64 0, .int .i64 0, .int .i64 0, .int .i64 0] 124)).alloc (.cells #[.int .i64 0, .int .i64 0, .int .i64 0, .int .i64 0, .int .i64 0, .int .i64 0] 124)) := (((Below.refl _ _).alloc (Nat.le_refl _) _).alloc (by simp) _).alloc (by simp; omega) _
  have qN := cell_block (i := 2) rN
  simp at qN
  clear rN
  generalize (((w.alloc (.cells #[.int .i64 op, .int .i64 wd, .slice (some ad) 1 bc, .int .i64 v] 65)).alloc (.cells #[.int .i64 0, .int .i64 0, .int .i64 0, .int .i64 0, .int .i64 0, .int .i64 0] 124)).alloc (.cells #[.int .i64 0, .int .i64 0, .int .i64 0, .int .i64 0, .int .i64 0, .int .i64 0] 124)) = W0 at *
  have cc0 : W0.cell? ad = some (.int .i64 k0) := (HX.out _ hb0 0).trans hx0
  refine wp_loop_rounds 2 ?_
  rw [rounds_succ]
  go_wp2_with fail
  refine (HC0.out _ hb0).mono ?_
  rintro e w' ⟨rfl, y0, rfl⟩
  have rLy := heap_aft y0 (lt_of_get rL) rL
  have rRy := heap_aft y0 (lt_of_get rR) rR
  have hby := y0.below hb0 hb0.size
  have qL0 := cell_block (i := 0) rLy
  have qL1 := cell_block (i := 1) rLy
  have fL0 := free_block (i := 0) rLy
  have fL1 := free_block (i := 1) rLy
  simp at qL0 qL1
  have rL1 : ((y0.val.setCell ⟨w.heap.size + 2, 0, none⟩ (.int .i64 n0.wd)).setCell ⟨w.heap.size + 2, 1, none⟩ (.int .i64 x0)).heap[w.heap.size + 2]? = some (.cells #[.int .i64 n0.wd, .int .i64 x0, .int .i64 0, .int .i64 0, .int .i64 0, .int .i64 0] 124) := heap_set (heap_set rLy)
  have rR1 : ((y0.val.setCell ⟨w.heap.size + 2, 0, none⟩ (.int .i64 n0.wd)).setCell ⟨w.heap.size + 2, 1, none⟩ (.int .i64 x0)).heap[w.heap.size + 1]? = some (.cells #[.int .i64 0, .int .i64 0, .int .i64 0, .int .i64 0, .int .i64 0, .int .i64 0] 124) := heap_set_ne (heap_set_ne rRy (by omega)) (by omega)
  have hb1 : Below w.heap.size w ((y0.val.setCell ⟨w.heap.size + 2, 0, none⟩ (.int .i64 n0.wd)).setCell ⟨w.heap.size + 2, 1, none⟩ (.int .i64 x0)) := (hby.setCell (by first | omega | (simp; done) | (simp; omega)) _).setCell (by first | omega | (simp; done) | (simp; omega)) _
  clear cc0
  go_wp2_with fail
  clear rL rR rLy rRy qL0 qL1 fL0 fL1 hby
  have rL := rL1
  have rR := rR1
  clear rL1 rR1
  generalize ((y0.val.setCell ⟨w.heap.size + 2, 0, none⟩ (.int .i64 n0.wd)).setCell ⟨w.heap.size + 2, 1, none⟩ (.int .i64 x0)) = W1 at *
  rw [rounds_succ]
  have u0 := cell_block (i := 0) rL
  have p0 := cell_block (i := 0) rR
  have f0 := free_block (i := 0) rR
  have u1 := cell_block (i := 1) rL
  have p1 := cell_block (i := 1) rR
  have f1 := free_block (i := 1) rR
  have u2 := cell_block (i := 2) rL
  have p2 := cell_block (i := 2) rR
  have f2 := free_block (i := 2) rR
  have u3 := cell_block (i := 3) rL
  have p3 := cell_block (i := 3) rR
  have f3 := free_block (i := 3) rR
  have u4 := cell_block (i := 4) rL
  have p4 := cell_block (i := 4) rR
  have f4 := free_block (i := 4) rR
  have u5 := cell_block (i := 5) rL
  have p5 := cell_block (i := 5) rR
  have f5 := free_block (i := 5) rR
  simp at u0 u1 u2 u3 u4 u5 p0 p1 p2 p3 p4 p5
  go_wp2
  refine bodyPost_ret (by simp [results, Tryd.results87, go_sem, p0, p1, p2, p3, p4, p5]; try rfl) rfl ?_
  exact ⟨rfl, Below.aft (by (repeat' (first | (with_reducible exact Below.refl _ _) | (with_reducible assumption) | (with_reducible refine Below.alloc ?_ ?_ _) | (with_reducible refine Below.drew ?_) | (with_reducible refine Aft.below _ ?_ ?_) | (with_reducible refine Below.setCell_new ?_ ?_ _ _) | (with_reducible exact Nat.le_refl _) | (with_reducible refine Aft.le _ ?_) | (with_reducible refine le_alloc ?_) | (with_reducible refine le_drew ?_) | (with_reducible refine le_setCell ?_) | omega)))⟩

set_option maxRecDepth 100000 in
set_option maxHeartbeats 1600000 in
theorem bargs2 (op wd v : Int) (B : Option Addr) (bc : Nat) (P Q gv vl vc : Nat) (A : Option Addr) (cap : Nat) (ns : List Nd) (hl : ns.length ≤ 65536) (hvl : vl ≤ 65536) (w : World) (lP : P < w.heap.size) (lQ : Q < w.heap.size) (lg : gv < w.heap.size) (k0 : Nat) (n0 : Nd) (x0 : Int) (g0 : ns[k0]? = some n0) (lk0 : k0 < vl) (e0 : w.cell? ⟨gv, k0, none⟩ = some (.int .i64 x0)) (k1 : Nat) (n1 : Nd) (x1 : Int) (g1 : ns[k1]? = some n1) (lk1 : k1 < vl) (e1 : w.cell? ⟨gv, k1, none⟩ = some (.int .i64 x1))
    (c0 : w.cell? ⟨P, 0, none⟩ = some (.slice A ns.length cap)) (c1 : w.cell? ⟨Q, 0, none⟩ = some (.slice (some ⟨gv, 0, none⟩) vl vc)) (h : LiesN w A ns) (hB : LiesI w B [(k0 : Int), (k1 : Int)]) :
    Calls Tryd.prog 87 #[.agg #[.int .i64 op, .int .i64 wd, .slice B 2 bc, .int .i64 v], .func (.func 88) #[] #[.pointer (some ⟨P, 0, none⟩), .pointer (some ⟨Q, 0, none⟩)]] w fun e w' => e = .returned (.agg #[.int .i64 n0.wd, .int .i64 x0, .int .i64 n1.wd, .int .i64 x1, .int .i64 0, .int .i64 0]) ∧ ∃ x : Aft w, w' = x.val := by
  have HC0 := Lib.hid (fun (W : World) (hb : Below w.heap.size w W) => valuesOf1_c k0 x0 P Q gv vl vc A cap ns n0 g0 hl lk0 hvl W (Nat.lt_of_lt_of_le lP hb.size) (Nat.lt_of_lt_of_le lQ hb.size) (Nat.lt_of_lt_of_le lg hb.size) ((hb.cell (p := ⟨P, 0, none⟩) lP).trans c0) ((hb.cell (p := ⟨Q, 0, none⟩) lQ).trans c1) ((hb.cell (p := ⟨gv, k0, none⟩) lg).trans e0) (h.below hb))
  have HC1 := Lib.hid (fun (W : World) (hb : Below w.heap.size w W) => valuesOf1_c k1 x1 P Q gv vl vc A cap ns n1 g1 hl lk1 hvl W (Nat.lt_of_lt_of_le lP hb.size) (Nat.lt_of_lt_of_le lQ hb.size) (Nat.lt_of_lt_of_le lg hb.size) ((hb.cell (p := ⟨P, 0, none⟩) lP).trans c0) ((hb.cell (p := ⟨Q, 0, none⟩) lQ).trans c1) ((hb.cell (p := ⟨gv, k1, none⟩) lg).trans e1) (h.below hb))
  obtain ⟨ad, rfl, hbk, hcell⟩ := hB (by simp)
  have hx0 := hcell 0 k0 (by rfl)
  have hx1 := hcell 1 k1 (by rfl)
  have HX := Lib.hid (fun (W : World) (hb : Below w.heap.size w W) (i : Nat) => (hb.cell (p := ad.add i) (by rw [addB]; exact hbk)))
  clear h hB c0 c1 hcell e0 e1
  go_enter Tryd.func87, Tryd.ntmps87
  go_wp2_with fail
  have rL : (((w.alloc (.cells #[.int .i64 op, .int .i64 wd, .slice (some ad) 2 bc, .int .i64 v] 65)).alloc (.cells #[.int .i64 0, .int .i64 0, .int .i64 0, .int .i64 0, .int .i64 0, .int .i64 0] 124)).alloc (.cells #[.int .i64 0, .int .i64 0, .int .i64 0, .int .i64 0, .int .i64 0, .int .i64 0] 124)).heap[w.heap.size + 2]? = some (.cells #[.int .i64 0, .int .i64 0, .int .i64 0, .int .i64 0, .int .i64 0, .int .i64 0] 124) := by
    exact heap_alloc_at (by simp)
  have rR : (((w.alloc (.cells #[.int .i64 op, .int .i64 wd, .slice (some ad) 2 bc, .int .i64 v] 65)).alloc (.cells #[.int .i64 0, .int .i64 0, .int .i64 0, .int .i64 0, .int .i64 0, .int .i64 0] 124)).alloc (.cells #[.int .i64 0, .int .i64 0, .int .i64 0, .int .i64 0, .int .i64 0, .int .i64 0] 124)).heap[w.heap.size + 1]? = some (.cells #[.int .i64 0, .int .i64 0, .int .i64 0, .int .i64 0, .int .i64 0, .int .i64 0] 124) := by
    exact heap_alloc' (by simp) (heap_alloc_at (by simp))
  have rN : (((w.alloc (.cells #[.int .i64 op, .int .i64 wd, .slice (some ad) 2 bc, .int .i64 v] 65)).alloc (.cells #[.int .i64 0, .int .i64 0, .int .i64 0, .int .i64 0, .int .i64 0, .int .i64 0] 124)).alloc (.cells #[.int .i64 0, .int .i64 0, .int .i64 0, .int .i64 0, .int .i64 0, .int .i64 0] 124)).heap[w.heap.size]? = some (.cells #[.int .i64 op, .int .i64 wd, .slice (some ad) 2 bc, .int .i64 v] 65) := heap_alloc' (by simp; omega) (heap_alloc' (by simp) (heap_alloc_new _ _))
  have hb0 : Below w.heap.size w (((w.alloc (.cells #[.int .i64 op, .int .i64 wd, .slice (some ad) 2 bc, .int .i64 v] 65)).alloc (.cells #[.int .i64 0, .int .i64 0, .int .i64 0, .int .i64 0, .int .i64 0, .int .i64 0] 124)).alloc (.cells #[.int .i64 0, .int .i64 0, .int .i64 0, .int .i64 0, .int .i64 0, .int .i64 0] 124)) := (((Below.refl _ _).alloc (Nat.le_refl _) _).alloc (by simp) _).alloc (by simp; omega) _
  have qN := cell_block (i := 2) rN
  simp at qN
  clear rN
  generalize (((w.alloc (.cells #[.int .i64 op, .int .i64 wd, .slice (some ad) 2 bc, .int .i64 v] 65)).alloc (.cells #[.int .i64 0, .int .i64 0, .int .i64 0, .int .i64 0, .int .i64 0, .int .i64 0] 124)).alloc (.cells #[.int .i64 0, .int .i64 0, .int .i64 0, .int .i64 0, .int .i64 0, .int .i64 0] 124)) = W0 at *
  have cc0 : W0.cell? ad = some (.int .i64 k0) := (HX.out _ hb0 0).trans hx0
  refine wp_loop_rounds 3 ?_
  rw [rounds_succ]
  go_wp2_with fail
  refine (HC0.out _ hb0).mono ?_
  rintro e w' ⟨rfl, y0, rfl⟩
  have rLy := heap_aft y0 (lt_of_get rL) rL
  have rRy := heap_aft y0 (lt_of_get rR) rR
  have hby := y0.below hb0 hb0.size
  have qL0 := cell_block (i := 0) rLy
  have qL1 := cell_block (i := 1) rLy
  have fL0 := free_block (i := 0) rLy
  have fL1 := free_block (i := 1) rLy
  simp at qL0 qL1
  have rL1 : ((y0.val.setCell ⟨w.heap.size + 2, 0, none⟩ (.int .i64 n0.wd)).setCell ⟨w.heap.size + 2, 1, none⟩ (.int .i64 x0)).heap[w.heap.size + 2]? = some (.cells #[.int .i64 n0.wd, .int .i64 x0, .int .i64 0, .int .i64 0, .int .i64 0, .int .i64 0] 124) := heap_set (heap_set rLy)
  have rR1 : ((y0.val.setCell ⟨w.heap.size + 2, 0, none⟩ (.int .i64 n0.wd)).setCell ⟨w.heap.size + 2, 1, none⟩ (.int .i64 x0)).heap[w.heap.size + 1]? = some (.cells #[.int .i64 0, .int .i64 0, .int .i64 0, .int .i64 0, .int .i64 0, .int .i64 0] 124) := heap_set_ne (heap_set_ne rRy (by omega)) (by omega)
  have hb1 : Below w.heap.size w ((y0.val.setCell ⟨w.heap.size + 2, 0, none⟩ (.int .i64 n0.wd)).setCell ⟨w.heap.size + 2, 1, none⟩ (.int .i64 x0)) := (hby.setCell (by first | omega | (simp; done) | (simp; omega)) _).setCell (by first | omega | (simp; done) | (simp; omega)) _
  clear cc0
  go_wp2_with fail
  clear rL rR rLy rRy qL0 qL1 fL0 fL1 hby
  have rL := rL1
  have rR := rR1
  clear rL1 rR1
  generalize ((y0.val.setCell ⟨w.heap.size + 2, 0, none⟩ (.int .i64 n0.wd)).setCell ⟨w.heap.size + 2, 1, none⟩ (.int .i64 x0)) = W1 at *
  have cc1 : W1.cell? ⟨ad.block, ad.off + 1, none⟩ = some (.int .i64 k1) := (HX.out _ hb1 1).trans hx1
  rw [rounds_succ]
  go_wp2_with fail
  refine (HC1.out _ hb1).mono ?_
  rintro e w' ⟨rfl, y1, rfl⟩
  have rLy := heap_aft y1 (lt_of_get rL) rL
  have rRy := heap_aft y1 (lt_of_get rR) rR
  have hby := y1.below hb1 hb1.size
  have qL0 := cell_block (i := 2) rLy
  have qL1 := cell_block (i := 3) rLy
  have fL0 := free_block (i := 2) rLy
  have fL1 := free_block (i := 3) rLy
  simp at qL0 qL1
  have rL1 : ((y1.val.setCell ⟨w.heap.size + 2, 2, none⟩ (.int .i64 n1.wd)).setCell ⟨w.heap.size + 2, 3, none⟩ (.int .i64 x1)).heap[w.heap.size + 2]? = some (.cells #[.int .i64 n0.wd, .int .i64 x0, .int .i64 n1.wd, .int .i64 x1, .int .i64 0, .int .i64 0] 124) := heap_set (heap_set rLy)
  have rR1 : ((y1.val.setCell ⟨w.heap.size + 2, 2, none⟩ (.int .i64 n1.wd)).setCell ⟨w.heap.size + 2, 3, none⟩ (.int .i64 x1)).heap[w.heap.size + 1]? = some (.cells #[.int .i64 0, .int .i64 0, .int .i64 0, .int .i64 0, .int .i64 0, .int .i64 0] 124) := heap_set_ne (heap_set_ne rRy (by omega)) (by omega)
  have hb2 : Below w.heap.size w ((y1.val.setCell ⟨w.heap.size + 2, 2, none⟩ (.int .i64 n1.wd)).setCell ⟨w.heap.size + 2, 3, none⟩ (.int .i64 x1)) := (hby.setCell (by first | omega | (simp; done) | (simp; omega)) _).setCell (by first | omega | (simp; done) | (simp; omega)) _
  clear cc1
  go_wp2_with fail
  clear rL rR rLy rRy qL0 qL1 fL0 fL1 hby
  have rL := rL1
  have rR := rR1
  clear rL1 rR1
  generalize ((y1.val.setCell ⟨w.heap.size + 2, 2, none⟩ (.int .i64 n1.wd)).setCell ⟨w.heap.size + 2, 3, none⟩ (.int .i64 x1)) = W2 at *
  rw [rounds_succ]
  have u0 := cell_block (i := 0) rL
  have p0 := cell_block (i := 0) rR
  have f0 := free_block (i := 0) rR
  have u1 := cell_block (i := 1) rL
  have p1 := cell_block (i := 1) rR
  have f1 := free_block (i := 1) rR
  have u2 := cell_block (i := 2) rL
  have p2 := cell_block (i := 2) rR
  have f2 := free_block (i := 2) rR
  have u3 := cell_block (i := 3) rL
  have p3 := cell_block (i := 3) rR
  have f3 := free_block (i := 3) rR
  have u4 := cell_block (i := 4) rL
  have p4 := cell_block (i := 4) rR
  have f4 := free_block (i := 4) rR
  have u5 := cell_block (i := 5) rL
  have p5 := cell_block (i := 5) rR
  have f5 := free_block (i := 5) rR
  simp at u0 u1 u2 u3 u4 u5 p0 p1 p2 p3 p4 p5
  go_wp2
  refine bodyPost_ret (by simp [results, Tryd.results87, go_sem, p0, p1, p2, p3, p4, p5]; try rfl) rfl ?_
  exact ⟨rfl, Below.aft (by (repeat' (first | (with_reducible exact Below.refl _ _) | (with_reducible assumption) | (with_reducible refine Below.alloc ?_ ?_ _) | (with_reducible refine Below.drew ?_) | (with_reducible refine Aft.below _ ?_ ?_) | (with_reducible refine Below.setCell_new ?_ ?_ _ _) | (with_reducible exact Nat.le_refl _) | (with_reducible refine Aft.le _ ?_) | (with_reducible refine le_alloc ?_) | (with_reducible refine le_drew ?_) | (with_reducible refine le_setCell ?_) | omega)))⟩

set_option maxRecDepth 100000 in
set_option maxHeartbeats 1600000 in
theorem bargs3 (op wd v : Int) (B : Option Addr) (bc : Nat) (P Q gv vl vc : Nat) (A : Option Addr) (cap : Nat) (ns : List Nd) (hl : ns.length ≤ 65536) (hvl : vl ≤ 65536) (w : World) (lP : P < w.heap.size) (lQ : Q < w.heap.size) (lg : gv < w.heap.size) (k0 : Nat) (n0 : Nd) (x0 : Int) (g0 : ns[k0]? = some n0) (lk0 : k0 < vl) (e0 : w.cell? ⟨gv, k0, none⟩ = some (.int .i64 x0)) (k1 : Nat) (n1 : Nd) (x1 : Int) (g1 : ns[k1]? = some n1) (lk1 : k1 < vl) (e1 : w.cell? ⟨gv, k1, none⟩ = some (.int .i64 x1)) (k2 : Nat) (n2 : Nd) (x2 : Int) (g2 : ns[k2]? = some n2) (lk2 : k2 < vl) (e2 : w.cell? ⟨gv, k2, none⟩ = some (.int .i64 x2))
    (c0 : w.cell? ⟨P, 0, none⟩ = some (.slice A ns.length cap)) (c1 : w.cell? ⟨Q, 0, none⟩ = some (.slice (some ⟨gv, 0, none⟩) vl vc)) (h : LiesN w A ns) (hB : LiesI w B [(k0 : Int), (k1 : Int), (k2 : Int)]) :
    Calls Tryd.prog 87 #[.agg #[.int .i64 op, .int .i64 wd, .slice B 3 bc, .int .i64 v], .func (.func 88) #[] #[.pointer (some ⟨P, 0, none⟩), .pointer (some ⟨Q, 0, none⟩)]] w fun e w' => e = .returned (.agg #[.int .i64 n0.wd, .int .i64 x0, .int .i64 n1.wd, .int .i64 x1, .int .i64 n2.wd, .int .i64 x2]) ∧ ∃ x : Aft w, w' = x.val := by
  have HC0 := Lib.hid (fun (W : World) (hb : Below w.heap.size w W) => valuesOf1_c k0 x0 P Q gv vl vc A cap ns n0 g0 hl lk0 hvl W (Nat.lt_of_lt_of_le lP hb.size) (Nat.lt_of_lt_of_le lQ hb.size) (Nat.lt_of_lt_of_le lg hb.size) ((hb.cell (p := ⟨P, 0, none⟩) lP).trans c0) ((hb.cell (p := ⟨Q, 0, none⟩) lQ).trans c1) ((hb.cell (p := ⟨gv, k0, none⟩) lg).trans e0) (h.below hb))
  have HC1 := Lib.hid (fun (W : World) (hb : Below w.heap.size w W) => valuesOf1_c k1 x1 P Q gv vl vc A cap ns n1 g1 hl lk1 hvl W (Nat.lt_of_lt_of_le lP hb.size) (Nat.lt_of_lt_of_le lQ hb.size) (Nat.lt_of_lt_of_le lg hb.size) ((hb.cell (p := ⟨P, 0, none⟩) lP).trans c0) ((hb.cell (p := ⟨Q, 0, none⟩) lQ).trans c1) ((hb.cell (p := ⟨gv, k1, none⟩) lg).trans e1) (h.below hb))
  have HC2 := Lib.hid (fun (W : World) (hb : Below w.heap.size w W) => valuesOf1_c k2 x2 P Q gv vl vc A cap ns n2 g2 hl lk2 hvl W (Nat.lt_of_lt_of_le lP hb.size) (Nat.lt_of_lt_of_le lQ hb.size) (Nat.lt_of_lt_of_le lg hb.size) ((hb.cell (p := ⟨P, 0, none⟩) lP).trans c0) ((hb.cell (p := ⟨Q, 0, none⟩) lQ).trans c1) ((hb.cell (p := ⟨gv, k2, none⟩) lg).trans e2) (h.below hb))
  obtain ⟨ad, rfl, hbk, hcell⟩ := hB (by simp)
  have hx0 := hcell 0 k0 (by rfl)
  have hx1 := hcell 1 k1 (by rfl)
  have hx2 := hcell 2 k2 (by rfl)
  have HX := Lib.hid (fun (W : World) (hb : Below w.heap.size w W) (i : Nat) => (hb.cell (p := ad.add i) (by rw [addB]; exact hbk)))
  clear h hB c0 c1 hcell e0 e1 e2
  go_enter Tryd.func87, Tryd.ntmps87
  go_wp2_with fail
  have rL : (((w.alloc (.cells #[.int .i64 op, .int .i64 wd, .slice (some ad) 3 bc, .int .i64 v] 65)).alloc (.cells #[.int .i64 0, .int .i64 0, .int .i64 0, .int .i64 0, .int .i64 0, .int .i64 0] 124)).alloc (.cells #[.int .i64 0, .int .i64 0, .int .i64 0, .int .i64 0, .int .i64 0, .int .i64 0] 124)).heap[w.heap.size + 2]? = some (.cells #[.int .i64 0, .int .i64 0, .int .i64 0, .int .i64 0, .int .i64 0, .int .i64 0] 124) := by
    exact heap_alloc_at (by simp)
  have rR : (((w.alloc (.cells #[.int .i64 op, .int .i64 wd, .slice (some ad) 3 bc, .int .i64 v] 65)).alloc (.cells #[.int .i64 0, .int .i64 0, .int .i64 0, .int .i64 0, .int .i64 0, .int .i64 0] 124)).alloc (.cells #[.int .i64 0, .int .i64 0, .int .i64 0, .int .i64 0, .int .i64 0, .int .i64 0] 124)).heap[w.heap.size + 1]? = some (.cells #[.int .i64 0, .int .i64 0, .int .i64 0, .int .i64 0, .int .i64 0, .int .i64 0] 124) := by
    exact heap_alloc' (by simp) (heap_alloc_at (by simp))
  have rN : (((w.alloc (.cells #[.int .i64 op, .int .i64 wd, .slice (some ad) 3 bc, .int .i64 v] 65)).alloc (.cells #[.int .i64 0, .int .i64 0, .int .i64 0, .int .i64 0, .int .i64 0, .int .i64 0] 124)).alloc (.cells #[.int .i64 0, .int .i64 0, .int .i64 0, .int .i64 0, .int .i64 0, .int .i64 0] 124)).heap[w.heap.size]? = some (.cells #[.int .i64 op, .int .i64 wd, .slice (some ad) 3 bc, .int .i64 v] 65) := heap_alloc' (by simp; omega) (heap_alloc' (by simp) (heap_alloc_new _ _))
  have hb0 : Below w.heap.size w (((w.alloc (.cells #[.int .i64 op, .int .i64 wd, .slice (some ad) 3 bc, .int .i64 v] 65)).alloc (.cells #[.int .i64 0, .int .i64 0, .int .i64 0, .int .i64 0, .int .i64 0, .int .i64 0] 124)).alloc (.cells #[.int .i64 0, .int .i64 0, .int .i64 0, .int .i64 0, .int .i64 0, .int .i64 0] 124)) := (((Below.refl _ _).alloc (Nat.le_refl _) _).alloc (by simp) _).alloc (by simp; omega) _
  have qN := cell_block (i := 2) rN
  simp at qN
  clear rN
  generalize (((w.alloc (.cells #[.int .i64 op, .int .i64 wd, .slice (some ad) 3 bc, .int .i64 v] 65)).alloc (.cells #[.int .i64 0, .int .i64 0, .int .i64 0, .int .i64 0, .int .i64 0, .int .i64 0] 124)).alloc (.cells #[.int .i64 0, .int .i64 0, .int .i64 0, .int .i64 0, .int .i64 0, .int .i64 0] 124)) = W0 at *
  have cc0 : W0.cell? ad = some (.int .i64 k0) := (HX.out _ hb0 0).trans hx0
  refine wp_loop_rounds 4 ?_
  rw [rounds_succ]
  go_wp2_with fail
  refine (HC0.out _ hb0).mono ?_
  rintro e w' ⟨rfl, y0, rfl⟩
  have rLy := heap_aft y0 (lt_of_get rL) rL
  have rRy := heap_aft y0 (lt_of_get rR) rR
  have hby := y0.below hb0 hb0.size
  have qL0 := cell_block (i := 0) rLy
  have qL1 := cell_block (i := 1) rLy
  have fL0 := free_block (i := 0) rLy
  have fL1 := free_block (i := 1) rLy
  simp at qL0 qL1
  have rL1 : ((y0.val.setCell ⟨w.heap.size + 2, 0, none⟩ (.int .i64 n0.wd)).setCell ⟨w.heap.size + 2, 1, none⟩ (.int .i64 x0)).heap[w.heap.size + 2]? = some (.cells #[.int .i64 n0.wd, .int .i64 x0, .int .i64 0, .int .i64 0, .int .i64 0, .int .i64 0] 124) := heap_set (heap_set rLy)
  have rR1 : ((y0.val.setCell ⟨w.heap.size + 2, 0, none⟩ (.int .i64 n0.wd)).setCell ⟨w.heap.size + 2, 1, none⟩ (.int .i64 x0)).heap[w.heap.size + 1]? = some (.cells #[.int .i64 0, .int .i64 0, .int .i64 0, .int .i64 0, .int .i64 0, .int .i64 0] 124) := heap_set_ne (heap_set_ne rRy (by omega)) (by omega)
  have hb1 : Below w.heap.size w ((y0.val.setCell ⟨w.heap.size + 2, 0, none⟩ (.int .i64 n0.wd)).setCell ⟨w.heap.size + 2, 1, none⟩ (.int .i64 x0)) := (hby.setCell (by first | omega | (simp; done) | (simp; omega)) _).setCell (by first | omega | (simp; done) | (simp; omega)) _
  clear cc0
  go_wp2_with fail
  clear rL rR rLy rRy qL0 qL1 fL0 fL1 hby
  have rL := rL1
  have rR := rR1
  clear rL1 rR1
  generalize ((y0.val.setCell ⟨w.heap.size + 2, 0, none⟩ (.int .i64 n0.wd)).setCell ⟨w.heap.size + 2, 1, none⟩ (.int .i64 x0)) = W1 at *
  have cc1 : W1.cell? ⟨ad.block, ad.off + 1, none⟩ = some (.int .i64 k1) := (HX.out _ hb1 1).trans hx1
  rw [rounds_succ]
  go_wp2_with fail
  refine (HC1.out _ hb1).mono ?_
  rintro e w' ⟨rfl, y1, rfl⟩
  have rLy := heap_aft y1 (lt_of_get rL) rL
  have rRy := heap_aft y1 (lt_of_get rR) rR
  have hby := y1.below hb1 hb1.size
  have qL0 := cell_block (i := 2) rLy
  have qL1 := cell_block (i := 3) rLy
  have fL0 := free_block (i := 2) rLy
  have fL1 := free_block (i := 3) rLy
  simp at qL0 qL1
  have rL1 : ((y1.val.setCell ⟨w.heap.size + 2, 2, none⟩ (.int .i64 n1.wd)).setCell ⟨w.heap.size + 2, 3, none⟩ (.int .i64 x1)).heap[w.heap.size + 2]? = some (.cells #[.int .i64 n0.wd, .int .i64 x0, .int .i64 n1.wd, .int .i64 x1, .int .i64 0, .int .i64 0] 124) := heap_set (heap_set rLy)
  have rR1 : ((y1.val.setCell ⟨w.heap.size + 2, 2, none⟩ (.int .i64 n1.wd)).setCell ⟨w.heap.size + 2, 3, none⟩ (.int .i64 x1)).heap[w.heap.size + 1]? = some (.cells #[.int .i64 0, .int .i64 0, .int .i64 0, .int .i64 0, .int .i64 0, .int .i64 0] 124) := heap_set_ne (heap_set_ne rRy (by omega)) (by omega)
  have hb2 : Below w.heap.size w ((y1.val.setCell ⟨w.heap.size + 2, 2, none⟩ (.int .i64 n1.wd)).setCell ⟨w.heap.size + 2, 3, none⟩ (.int .i64 x1)) := (hby.setCell (by first | omega | (simp; done) | (simp; omega)) _).setCell (by first | omega | (simp; done) | (simp; omega)) _
  clear cc1
  go_wp2_with fail
  clear rL rR rLy rRy qL0 qL1 fL0 fL1 hby
  have rL := rL1
  have rR := rR1
  clear rL1 rR1
  generalize ((y1.val.setCell ⟨w.heap.size + 2, 2, none⟩ (.int .i64 n1.wd)).setCell ⟨w.heap.size + 2, 3, none⟩ (.int .i64 x1)) = W2 at *
  have cc2 : W2.cell? ⟨ad.block, ad.off + 2, none⟩ = some (.int .i64 k2) := (HX.out _ hb2 2).trans hx2
  rw [rounds_succ]
  go_wp2_with fail
  refine (HC2.out _ hb2).mono ?_
  rintro e w' ⟨rfl, y2, rfl⟩
  have rLy := heap_aft y2 (lt_of_get rL) rL
  have rRy := heap_aft y2 (lt_of_get rR) rR
  have hby := y2.below hb2 hb2.size
  have qL0 := cell_block (i := 4) rLy
  have qL1 := cell_block (i := 5) rLy
  have fL0 := free_block (i := 4) rLy
  have fL1 := free_block (i := 5) rLy
  simp at qL0 qL1
  have rL1 : ((y2.val.setCell ⟨w.heap.size + 2, 4, none⟩ (.int .i64 n2.wd)).setCell ⟨w.heap.size + 2, 5, none⟩ (.int .i64 x2)).heap[w.heap.size + 2]? = some (.cells #[.int .i64 n0.wd, .int .i64 x0, .int .i64 n1.wd, .int .i64 x1, .int .i64 n2.wd, .int .i64 x2] 124) := heap_set (heap_set rLy)
  have rR1 : ((y2.val.setCell ⟨w.heap.size + 2, 4, none⟩ (.int .i64 n2.wd)).setCell ⟨w.heap.size + 2, 5, none⟩ (.int .i64 x2)).heap[w.heap.size + 1]? = some (.cells #[.int .i64 0, .int .i64 0, .int .i64 0, .int .i64 0, .int .i64 0, .int .i64 0] 124) := heap_set_ne (heap_set_ne rRy (by omega)) (by omega)
  have hb3 : Below w.heap.size w ((y2.val.setCell ⟨w.heap.size + 2, 4, none⟩ (.int .i64 n2.wd)).setCell ⟨w.heap.size + 2, 5, none⟩ (.int .i64 x2)) := (hby.setCell (by first | omega | (simp; done) | (simp; omega)) _).setCell (by first | omega | (simp; done) | (simp; omega)) _
  clear cc2
  go_wp2_with fail
  clear rL rR rLy rRy qL0 qL1 fL0 fL1 hby
  have rL := rL1
  have rR := rR1
  clear rL1 rR1
  generalize ((y2.val.setCell ⟨w.heap.size + 2, 4, none⟩ (.int .i64 n2.wd)).setCell ⟨w.heap.size + 2, 5, none⟩ (.int .i64 x2)) = W3 at *
  rw [rounds_succ]
  have u0 := cell_block (i := 0) rL
  have p0 := cell_block (i := 0) rR
  have f0 := free_block (i := 0) rR
  have u1 := cell_block (i := 1) rL
  have p1 := cell_block (i := 1) rR
  have f1 := free_block (i := 1) rR
  have u2 := cell_block (i := 2) rL
  have p2 := cell_block (i := 2) rR
  have f2 := free_block (i := 2) rR
  have u3 := cell_block (i := 3) rL
  have p3 := cell_block (i := 3) rR
  have f3 := free_block (i := 3) rR
  have u4 := cell_block (i := 4) rL
  have p4 := cell_block (i := 4) rR
  have f4 := free_block (i := 4) rR
  have u5 := cell_block (i := 5) rL
  have p5 := cell_block (i := 5) rR
  have f5 := free_block (i := 5) rR
  simp at u0 u1 u2 u3 u4 u5 p0 p1 p2 p3 p4 p5
  go_wp2
  refine bodyPost_ret (by simp [results, Tryd.results87, go_sem, p0, p1, p2, p3, p4, p5]; try rfl) rfl ?_
  exact ⟨rfl, Below.aft (by (repeat' (first | (with_reducible exact Below.refl _ _) | (with_reducible assumption) | (with_reducible refine Below.alloc ?_ ?_ _) | (with_reducible refine Below.drew ?_) | (with_reducible refine Aft.below _ ?_ ?_) | (with_reducible refine Below.setCell_new ?_ ?_ _ _) | (with_reducible exact Nat.le_refl _) | (with_reducible refine Aft.le _ ?_) | (with_reducible refine le_alloc ?_) | (with_reducible refine le_drew ?_) | (with_reducible refine le_setCell ?_) | omega)))⟩

end Go.Proofs.YtkdonapgonegkaaDoor
