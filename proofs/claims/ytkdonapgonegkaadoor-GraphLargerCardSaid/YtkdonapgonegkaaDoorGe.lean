/-
  Contracts of chapter 2 (graph): what a function says of the arguments of a node.
-/
import Derived.Test.YtkdonapgonegkaaDoorGd
set_option linter.unusedSimpArgs false
set_option linter.unusedVariables false
namespace Go.Proofs.YtkdonapgonegkaaDoor
open Go.RowKit Go.BigFrame

theorem heap_set {w : World} {g k : Nat} {T : TypeId} {arr : Array Value} {v : Value} (h : w.heap[g]? = some (.cells arr T)) : (w.setCell ⟨g, k, none⟩ v).heap[g]? = some (.cells (arr.setIfInBounds k v) T) := by
  simp [World.setCell, Array.getElem?_modify, h]
theorem heap_set_ne {w : World} {g m k : Nat} {o : Obj} {v : Value} (h : w.heap[g]? = some o) (hne : ¬ m = g) : (w.setCell ⟨m, k, none⟩ v).heap[g]? = some o := (heap_setCell_ne hne).trans h
theorem wAt_in {before : List Nd} {args : List Int} {k i : Nat} {n : Nd} (ha : args[i]? = some (k : Int)) (hn : before[k]? = some n) : wAt before args i = n.wd := by
  unfold wAt; rw [ha]; simp [hn]
theorem wAt_out {before : List Nd} {args : List Int} {i : Nat} (ha : args.length ≤ i) : wAt before args i = 0 := by
  unfold wAt; rw [List.getElem?_eq_none ha]

theorem errorOfNode1_c (k : Nat) (P : Nat) (A : Option Addr) (cap : Nat) (before : List Nd) (n : Nd) (hn : before[k]? = some n) (hl : before.length ≤ 65536) (w : World) (c0 : w.cell? ⟨P, 0, none⟩ = some (.slice A before.length cap)) (h : LiesN w A before) :
    Calls Tryd.prog 82 #[.int .i64 k, .pointer (some ⟨P, 0, none⟩)] w fun e w' => e = .returned (.int .i64 n.wd) ∧ w = w' := by
  obtain ⟨ad, rfl, hb, h0, h1, _⟩ := h.cells hn
  have hk := (List.getElem?_eq_some_iff.1 hn).1
  have hkk : (k : Int) < before.length := by omega
  have h1' : w.cell? ⟨(ad.add (k * 4)).block, (ad.add (k * 4)).off + 1, none⟩ = some (.int .i64 n.wd) := h1
  clear hn h h0 h1
  go_enter Tryd.func82, Tryd.ntmps82
  go_wp2
  go_ret
  exact ⟨rfl, rfl⟩

set_option maxRecDepth 100000 in
set_option maxHeartbeats 1600000 in
theorem argsOf0 (op wd v : Int) (B : Option Addr) (bc : Nat) (P : Nat) (A : Option Addr) (cap : Nat) (before : List Nd) (hl : before.length ≤ 65536)  (w : World) (lP : P < w.heap.size) (c0 : w.cell? ⟨P, 0, none⟩ = some (.slice A before.length cap)) (h : LiesN w A before) (hB : LiesI w B []) :
    Calls Tryd.prog 81 #[.agg #[.int .i64 op, .int .i64 wd, .slice B 0 bc, .int .i64 v], .func (.func 82) #[] #[.pointer (some ⟨P, 0, none⟩)]] w fun e w' => e = .returned (.agg #[.int .i64 0, .int .i64 0, .int .i64 0]) ∧ ∃ x : Aft w, w' = x.val := by
  clear h hB c0 
  go_enter Tryd.func81, Tryd.ntmps81
  go_wp2_with fail
  have rL : (((w.alloc (.cells #[.int .i64 op, .int .i64 wd, .slice B 0 bc, .int .i64 v] 65)).alloc (.cells #[.int .i64 0, .int .i64 0, .int .i64 0] 117)).alloc (.cells #[.int .i64 0, .int .i64 0, .int .i64 0] 117)).heap[w.heap.size + 2]? = some (.cells #[.int .i64 0, .int .i64 0, .int .i64 0] 117) := by
    exact heap_alloc_at (by simp)
  have rR : (((w.alloc (.cells #[.int .i64 op, .int .i64 wd, .slice B 0 bc, .int .i64 v] 65)).alloc (.cells #[.int .i64 0, .int .i64 0, .int .i64 0] 117)).alloc (.cells #[.int .i64 0, .int .i64 0, .int .i64 0] 117)).heap[w.heap.size + 1]? = some (.cells #[.int .i64 0, .int .i64 0, .int .i64 0] 117) := by
    exact heap_alloc' (by simp) (heap_alloc_at (by simp))
  have rN : (((w.alloc (.cells #[.int .i64 op, .int .i64 wd, .slice B 0 bc, .int .i64 v] 65)).alloc (.cells #[.int .i64 0, .int .i64 0, .int .i64 0] 117)).alloc (.cells #[.int .i64 0, .int .i64 0, .int .i64 0] 117)).heap[w.heap.size]? = some (.cells #[.int .i64 op, .int .i64 wd, .slice B 0 bc, .int .i64 v] 65) := heap_alloc' (by simp; omega) (heap_alloc' (by simp) (heap_alloc_new _ _))
  have hb0 : Below w.heap.size w (((w.alloc (.cells #[.int .i64 op, .int .i64 wd, .slice B 0 bc, .int .i64 v] 65)).alloc (.cells #[.int .i64 0, .int .i64 0, .int .i64 0] 117)).alloc (.cells #[.int .i64 0, .int .i64 0, .int .i64 0] 117)) := (((Below.refl _ _).alloc (Nat.le_refl _) _).alloc (by simp) _).alloc (by simp; omega) _
  have qN := cell_block (i := 2) rN
  simp at qN
  generalize (((w.alloc (.cells #[.int .i64 op, .int .i64 wd, .slice B 0 bc, .int .i64 v] 65)).alloc (.cells #[.int .i64 0, .int .i64 0, .int .i64 0] 117)).alloc (.cells #[.int .i64 0, .int .i64 0, .int .i64 0] 117)) = W0 at *
  refine wp_loop_rounds 1 ?_
  rw [rounds_succ]
  have u0 := cell_block (i := 0) rL
  have u1 := cell_block (i := 1) rL
  have u2 := cell_block (i := 2) rL
  have p0 := cell_block (i := 0) rR
  have p1 := cell_block (i := 1) rR
  have p2 := cell_block (i := 2) rR
  have f0 := free_block (i := 0) rR
  have f1 := free_block (i := 1) rR
  have f2 := free_block (i := 2) rR
  simp at u0 u1 u2 p0 p1 p2
  go_wp2
  refine bodyPost_ret (by simp [results, Tryd.results81, go_sem, p0, p1, p2]; try rfl) rfl ?_
  exact ⟨rfl, Below.aft (by (repeat' (first | (with_reducible exact Below.refl _ _) | (with_reducible assumption) | (with_reducible refine Below.alloc ?_ ?_ _) | (with_reducible refine Below.drew ?_) | (with_reducible refine Aft.below _ ?_ ?_) | (with_reducible refine Below.setCell_new ?_ ?_ _ _) | (with_reducible exact Nat.le_refl _) | (with_reducible refine Aft.le _ ?_) | (with_reducible refine le_alloc ?_) | (with_reducible refine le_drew ?_) | (with_reducible refine le_setCell ?_) | omega)))⟩

set_option maxRecDepth 100000 in
set_option maxHeartbeats 1600000 in
theorem argsOf1 (op wd v : Int) (B : Option Addr) (bc : Nat) (P : Nat) (A : Option Addr) (cap : Nat) (before : List Nd) (hl : before.length ≤ 65536) (k0 : Nat) (n0 : Nd) (g0 : before[k0]? = some n0) (w : World) (lP : P < w.heap.size) (c0 : w.cell? ⟨P, 0, none⟩ = some (.slice A before.length cap)) (h : LiesN w A before) (hB : LiesI w B [(k0 : Int)]) :
    Calls Tryd.prog 81 #[.agg #[.int .i64 op, .int .i64 wd, .slice B 1 bc, .int .i64 v], .func (.func 82) #[] #[.pointer (some ⟨P, 0, none⟩)]] w fun e w' => e = .returned (.agg #[.int .i64 n0.wd, .int .i64 0, .int .i64 0]) ∧ ∃ x : Aft w, w' = x.val := by
  have HC0 := Lib.hid (fun (W : World) (hb : Below w.heap.size w W) => errorOfNode1_c k0 P A cap before n0 g0 hl W ((hb.cell (p := ⟨P, 0, none⟩) lP).trans c0) (h.below hb))
  obtain ⟨ad, rfl, hbk, hcell⟩ := hB (by simp)
  have hx0 := hcell 0 k0 (by rfl)
  have HX := Lib.hid (fun (W : World) (hb : Below w.heap.size w W) (i : Nat) => (hb.cell (p := ad.add i) (by rw [addB]; exact hbk)))
  clear h hB c0 hcell
  go_enter Tryd.func81, Tryd.ntmps81
  go_wp2_with fail
  have rL : (((w.alloc (.cells #[.int .i64 op, .int .i64 wd, .slice (some ad) 1 bc, .int .i64 v] 65)).alloc (.cells #[.int .i64 0, .int .i64 0, .int .i64 0] 117)).alloc (.cells #[.int .i64 0, .int .i64 0, .int .i64 0] 117)).heap[w.heap.size + 2]? = some (.cells #[.int .i64 0, .int .i64 0, .int .i64 0] 117) := by
    exact heap_alloc_at (by simp)
  have rR : (((w.alloc (.cells #[.int .i64 op, .int .i64 wd, .slice (some ad) 1 bc, .int .i64 v] 65)).alloc (.cells #[.int .i64 0, .int .i64 0, .int .i64 0] 117)).alloc (.cells #[.int .i64 0, .int .i64 0, .int .i64 0] 117)).heap[w.heap.size + 1]? = some (.cells #[.int .i64 0, .int .i64 0, .int .i64 0] 117) := by
    exact heap_alloc' (by simp) (heap_alloc_at (by simp))
  have rN : (((w.alloc (.cells #[.int .i64 op, .int .i64 wd, .slice (some ad) 1 bc, .int .i64 v] 65)).alloc (.cells #[.int .i64 0, .int .i64 0, .int .i64 0] 117)).alloc (.cells #[.int .i64 0, .int .i64 0, .int .i64 0] 117)).heap[w.heap.size]? = some (.cells #[.int .i64 op, .int .i64 wd, .slice (some ad) 1 bc, .int .i64 v] 65) := heap_alloc' (by simp; omega) (heap_alloc' (by simp) (heap_alloc_new _ _))
  have hb0 : Below w.heap.size w (((w.alloc (.cells #[.int .i64 op, .int .i64 wd, .slice (some ad) 1 bc, .int .i64 v] 65)).alloc (.cells #[.int .i64 0, .int .i64 0, .int .i64 0] 117)).alloc (.cells #[.int .i64 0, .int .i64 0, .int .i64 0] 117)) := (((Below.refl _ _).alloc (Nat.le_refl _) _).alloc (by simp) _).alloc (by simp; omega) _
  have qN := cell_block (i := 2) rN
  simp at qN
  generalize (((w.alloc (.cells #[.int .i64 op, .int .i64 wd, .slice (some ad) 1 bc, .int .i64 v] 65)).alloc (.cells #[.int .i64 0, .int .i64 0, .int .i64 0] 117)).alloc (.cells #[.int .i64 0, .int .i64 0, .int .i64 0] 117)) = W0 at *
  have cc0 : W0.cell? ad = some (.int .i64 k0) := (HX.out _ hb0 0).trans hx0
  refine wp_loop_rounds 2 ?_
  rw [rounds_succ]
  have qL0 := cell_block (i := 0) rL
  have fL0 := free_block (i := 0) rL
  simp at qL0
  go_wp2_with fail
  refine (HC0.out _ hb0).mono ?_
  rintro e w' ⟨rfl, rfl⟩
  have rL1 : (W0.setCell ⟨w.heap.size + 2, 0, none⟩ (.int .i64 n0.wd)).heap[w.heap.size + 2]? = some (.cells #[.int .i64 n0.wd, .int .i64 0, .int .i64 0] 117) := heap_set rL
  have rR1 : (W0.setCell ⟨w.heap.size + 2, 0, none⟩ (.int .i64 n0.wd)).heap[w.heap.size + 1]? = some (.cells #[.int .i64 0, .int .i64 0, .int .i64 0] 117) := heap_set_ne rR (by omega)
  have hb1 : Below w.heap.size w (W0.setCell ⟨w.heap.size + 2, 0, none⟩ (.int .i64 n0.wd)) := hb0.setCell (by first | omega | (simp; done) | (simp; omega)) _
  go_wp2_with fail
  clear rL rR cc0 qL0 fL0
  have rL := rL1
  have rR := rR1
  clear rL1 rR1
  generalize W0.setCell ⟨w.heap.size + 2, 0, none⟩ (.int .i64 n0.wd) = W1 at *
  rw [rounds_succ]
  have u0 := cell_block (i := 0) rL
  have u1 := cell_block (i := 1) rL
  have u2 := cell_block (i := 2) rL
  have p0 := cell_block (i := 0) rR
  have p1 := cell_block (i := 1) rR
  have p2 := cell_block (i := 2) rR
  have f0 := free_block (i := 0) rR
  have f1 := free_block (i := 1) rR
  have f2 := free_block (i := 2) rR
  simp at u0 u1 u2 p0 p1 p2
  go_wp2
  refine bodyPost_ret (by simp [results, Tryd.results81, go_sem, p0, p1, p2]; try rfl) rfl ?_
  exact ⟨rfl, Below.aft (by (repeat' (first | (with_reducible exact Below.refl _ _) | (with_reducible assumption) | (with_reducible refine Below.alloc ?_ ?_ _) | (with_reducible refine Below.drew ?_) | (with_reducible refine Aft.below _ ?_ ?_) | (with_reducible refine Below.setCell_new ?_ ?_ _ _) | (with_reducible exact Nat.le_refl _) | (with_reducible refine Aft.le _ ?_) | (with_reducible refine le_alloc ?_) | (with_reducible refine le_drew ?_) | (with_reducible refine le_setCell ?_) | omega)))⟩

set_option maxRecDepth 100000 in
set_option maxHeartbeats 1600000 in
theorem argsOf2 (op wd v : Int) (B : Option Addr) (bc : Nat) (P : Nat) (A : Option Addr) (cap : Nat) (before : List Nd) (hl : before.length ≤ 65536) (k0 : Nat) (n0 : Nd) (g0 : before[k0]? = some n0) (k1 : Nat) (n1 : Nd) (g1 : before[k1]? = some n1) (w : World) (lP : P < w.heap.size) (c0 : w.cell? ⟨P, 0, none⟩ = some (.slice A before.length cap)) (h : LiesN w A before) (hB : LiesI w B [(k0 : Int), (k1 : Int)]) :
    Calls Tryd.prog 81 #[.agg #[.int .i64 op, .int .i64 wd, .slice B 2 bc, .int .i64 v], .func (.func 82) #[] #[.pointer (some ⟨P, 0, none⟩)]] w fun e w' => e = .returned (.agg #[.int .i64 n0.wd, .int .i64 n1.wd, .int .i64 0]) ∧ ∃ x : Aft w, w' = x.val := by
  have HC0 := Lib.hid (fun (W : World) (hb : Below w.heap.size w W) => errorOfNode1_c k0 P A cap before n0 g0 hl W ((hb.cell (p := ⟨P, 0, none⟩) lP).trans c0) (h.below hb))
  have HC1 := Lib.hid (fun (W : World) (hb : Below w.heap.size w W) => errorOfNode1_c k1 P A cap before n1 g1 hl W ((hb.cell (p := ⟨P, 0, none⟩) lP).trans c0) (h.below hb))
  obtain ⟨ad, rfl, hbk, hcell⟩ := hB (by simp)
  have hx0 := hcell 0 k0 (by rfl)
  have hx1 := hcell 1 k1 (by rfl)
  have HX := Lib.hid (fun (W : World) (hb : Below w.heap.size w W) (i : Nat) => (hb.cell (p := ad.add i) (by rw [addB]; exact hbk)))
  clear h hB c0 hcell
  go_enter Tryd.func81, Tryd.ntmps81
  go_wp2_with fail
  have rL : (((w.alloc (.cells #[.int .i64 op, .int .i64 wd, .slice (some ad) 2 bc, .int .i64 v] 65)).alloc (.cells #[.int .i64 0, .int .i64 0, .int .i64 0] 117)).alloc (.cells #[.int .i64 0, .int .i64 0, .int .i64 0] 117)).heap[w.heap.size + 2]? = some (.cells #[.int .i64 0, .int .i64 0, .int .i64 0] 117) := by
    exact heap_alloc_at (by simp)
  have rR : (((w.alloc (.cells #[.int .i64 op, .int .i64 wd, .slice (some ad) 2 bc, .int .i64 v] 65)).alloc (.cells #[.int .i64 0, .int .i64 0, .int .i64 0] 117)).alloc (.cells #[.int .i64 0, .int .i64 0, .int .i64 0] 117)).heap[w.heap.size + 1]? = some (.cells #[.int .i64 0, .int .i64 0, .int .i64 0] 117) := by
    exact heap_alloc' (by simp) (heap_alloc_at (by simp))
  have rN : (((w.alloc (.cells #[.int .i64 op, .int .i64 wd, .slice (some ad) 2 bc, .int .i64 v] 65)).alloc (.cells #[.int .i64 0, .int .i64 0, .int .i64 0] 117)).alloc (.cells #[.int .i64 0, .int .i64 0, .int .i64 0] 117)).heap[w.heap.size]? = some (.cells #[.int .i64 op, .int .i64 wd, .slice (some ad) 2 bc, .int .i64 v] 65) := heap_alloc' (by simp; omega) (heap_alloc' (by simp) (heap_alloc_new _ _))
  have hb0 : Below w.heap.size w (((w.alloc (.cells #[.int .i64 op, .int .i64 wd, .slice (some ad) 2 bc, .int .i64 v] 65)).alloc (.cells #[.int .i64 0, .int .i64 0, .int .i64 0] 117)).alloc (.cells #[.int .i64 0, .int .i64 0, .int .i64 0] 117)) := (((Below.refl _ _).alloc (Nat.le_refl _) _).alloc (by simp) _).alloc (by simp; omega) _
  have qN := cell_block (i := 2) rN
  simp at qN
  generalize (((w.alloc (.cells #[.int .i64 op, .int .i64 wd, .slice (some ad) 2 bc, .int .i64 v] 65)).alloc (.cells #[.int .i64 0, .int .i64 0, .int .i64 0] 117)).alloc (.cells #[.int .i64 0, .int .i64 0, .int .i64 0] 117)) = W0 at *
  have cc0 : W0.cell? ad = some (.int .i64 k0) := (HX.out _ hb0 0).trans hx0
  refine wp_loop_rounds 3 ?_
  rw [rounds_succ]
  have qL0 := cell_block (i := 0) rL
  have fL0 := free_block (i := 0) rL
  simp at qL0
  go_wp2_with fail
  refine (HC0.out _ hb0).mono ?_
  rintro e w' ⟨rfl, rfl⟩
  have rL1 : (W0.setCell ⟨w.heap.size + 2, 0, none⟩ (.int .i64 n0.wd)).heap[w.heap.size + 2]? = some (.cells #[.int .i64 n0.wd, .int .i64 0, .int .i64 0] 117) := heap_set rL
  have rR1 : (W0.setCell ⟨w.heap.size + 2, 0, none⟩ (.int .i64 n0.wd)).heap[w.heap.size + 1]? = some (.cells #[.int .i64 0, .int .i64 0, .int .i64 0] 117) := heap_set_ne rR (by omega)
  have hb1 : Below w.heap.size w (W0.setCell ⟨w.heap.size + 2, 0, none⟩ (.int .i64 n0.wd)) := hb0.setCell (by first | omega | (simp; done) | (simp; omega)) _
  go_wp2_with fail
  clear rL rR cc0 qL0 fL0
  have rL := rL1
  have rR := rR1
  clear rL1 rR1
  generalize W0.setCell ⟨w.heap.size + 2, 0, none⟩ (.int .i64 n0.wd) = W1 at *
  have cc1 : W1.cell? ⟨ad.block, ad.off + 1, none⟩ = some (.int .i64 k1) := (HX.out _ hb1 1).trans hx1
  rw [rounds_succ]
  have qL1 := cell_block (i := 1) rL
  have fL1 := free_block (i := 1) rL
  simp at qL1
  go_wp2_with fail
  refine (HC1.out _ hb1).mono ?_
  rintro e w' ⟨rfl, rfl⟩
  have rL1 : (W1.setCell ⟨w.heap.size + 2, 1, none⟩ (.int .i64 n1.wd)).heap[w.heap.size + 2]? = some (.cells #[.int .i64 n0.wd, .int .i64 n1.wd, .int .i64 0] 117) := heap_set rL
  have rR1 : (W1.setCell ⟨w.heap.size + 2, 1, none⟩ (.int .i64 n1.wd)).heap[w.heap.size + 1]? = some (.cells #[.int .i64 0, .int .i64 0, .int .i64 0] 117) := heap_set_ne rR (by omega)
  have hb2 : Below w.heap.size w (W1.setCell ⟨w.heap.size + 2, 1, none⟩ (.int .i64 n1.wd)) := hb1.setCell (by first | omega | (simp; done) | (simp; omega)) _
  go_wp2_with fail
  clear rL rR cc1 qL1 fL1
  have rL := rL1
  have rR := rR1
  clear rL1 rR1
  generalize W1.setCell ⟨w.heap.size + 2, 1, none⟩ (.int .i64 n1.wd) = W2 at *
  rw [rounds_succ]
  have u0 := cell_block (i := 0) rL
  have u1 := cell_block (i := 1) rL
  have u2 := cell_block (i := 2) rL
  have p0 := cell_block (i := 0) rR
  have p1 := cell_block (i := 1) rR
  have p2 := cell_block (i := 2) rR
  have f0 := free_block (i := 0) rR
  have f1 := free_block (i := 1) rR
  have f2 := free_block (i := 2) rR
  simp at u0 u1 u2 p0 p1 p2
  go_wp2
  refine bodyPost_ret (by simp [results, Tryd.results81, go_sem, p0, p1, p2]; try rfl) rfl ?_
  exact ⟨rfl, Below.aft (by (repeat' (first | (with_reducible exact Below.refl _ _) | (with_reducible assumption) | (with_reducible refine Below.alloc ?_ ?_ _) | (with_reducible refine Below.drew ?_) | (with_reducible refine Aft.below _ ?_ ?_) | (with_reducible refine Below.setCell_new ?_ ?_ _ _) | (with_reducible exact Nat.le_refl _) | (with_reducible refine Aft.le _ ?_) | (with_reducible refine le_alloc ?_) | (with_reducible refine le_drew ?_) | (with_reducible refine le_setCell ?_) | omega)))⟩

set_option maxRecDepth 100000 in
set_option maxHeartbeats 1600000 in
theorem argsOf3 (op wd v : Int) (B : Option Addr) (bc : Nat) (P : Nat) (A : Option Addr) (cap : Nat) (before : List Nd) (hl : before.length ≤ 65536) (k0 : Nat) (n0 : Nd) (g0 : before[k0]? = some n0) (k1 : Nat) (n1 : Nd) (g1 : before[k1]? = some n1) (k2 : Nat) (n2 : Nd) (g2 : before[k2]? = some n2) (w : World) (lP : P < w.heap.size) (c0 : w.cell? ⟨P, 0, none⟩ = some (.slice A before.length cap)) (h : LiesN w A before) (hB : LiesI w B [(k0 : Int), (k1 : Int), (k2 : Int)]) :
    Calls Tryd.prog 81 #[.agg #[.int .i64 op, .int .i64 wd, .slice B 3 bc, .int .i64 v], .func (.func 82) #[] #[.pointer (some ⟨P, 0, none⟩)]] w fun e w' => e = .returned (.agg #[.int .i64 n0.wd, .int .i64 n1.wd, .int .i64 n2.wd]) ∧ ∃ x : Aft w, w' = x.val := by
  have HC0 := Lib.hid (fun (W : World) (hb : Below w.heap.size w W) => errorOfNode1_c k0 P A cap before n0 g0 hl W ((hb.cell (p := ⟨P, 0, none⟩) lP).trans c0) (h.below hb))
  have HC1 := Lib.hid (fun (W : World) (hb : Below w.heap.size w W) => errorOfNode1_c k1 P A cap before n1 g1 hl W ((hb.cell (p := ⟨P, 0, none⟩) lP).trans c0) (h.below hb))
  have HC2 := Lib.hid (fun (W : World) (hb : Below w.heap.size w W) => errorOfNode1_c k2 P A cap before n2 g2 hl W ((hb.cell (p := ⟨P, 0, none⟩) lP).trans c0) (h.below hb))
  obtain ⟨ad, rfl, hbk, hcell⟩ := hB (by simp)
  have hx0 := hcell 0 k0 (by rfl)
  have hx1 := hcell 1 k1 (by rfl)
  have hx2 := hcell 2 k2 (by rfl)
  have HX := Lib.hid (fun (W : World) (hb : Below w.heap.size w W) (i : Nat) => (hb.cell (p := ad.add i) (by rw [addB]; exact hbk)))
  clear h hB c0 hcell
  go_enter Tryd.func81, Tryd.ntmps81
  go_wp2_with fail
  have rL : (((w.alloc (.cells #[.int .i64 op, .int .i64 wd, .slice (some ad) 3 bc, .int .i64 v] 65)).alloc (.cells #[.int .i64 0, .int .i64 0, .int .i64 0] 117)).alloc (.cells #[.int .i64 0, .int .i64 0, .int .i64 0] 117)).heap[w.heap.size + 2]? = some (.cells #[.int .i64 0, .int .i64 0, .int .i64 0] 117) := by
    exact heap_alloc_at (by simp)
  have rR : (((w.alloc (.cells #[.int .i64 op, .int .i64 wd, .slice (some ad) 3 bc, .int .i64 v] 65)).alloc (.cells #[.int .i64 0, .int .i64 0, .int .i64 0] 117)).alloc (.cells #[.int .i64 0, .int .i64 0, .int .i64 0] 117)).heap[w.heap.size + 1]? = some (.cells #[.int .i64 0, .int .i64 0, .int .i64 0] 117) := by
    exact heap_alloc' (by simp) (heap_alloc_at (by simp))
  have rN : (((w.alloc (.cells #[.int .i64 op, .int .i64 wd, .slice (some ad) 3 bc, .int .i64 v] 65)).alloc (.cells #[.int .i64 0, .int .i64 0, .int .i64 0] 117)).alloc (.cells #[.int .i64 0, .int .i64 0, .int .i64 0] 117)).heap[w.heap.size]? = some (.cells #[.int .i64 op, .int .i64 wd, .slice (some ad) 3 bc, .int .i64 v] 65) := heap_alloc' (by simp; omega) (heap_alloc' (by simp) (heap_alloc_new _ _))
  have hb0 : Below w.heap.size w (((w.alloc (.cells #[.int .i64 op, .int .i64 wd, .slice (some ad) 3 bc, .int .i64 v] 65)).alloc (.cells #[.int .i64 0, .int .i64 0, .int .i64 0] 117)).alloc (.cells #[.int .i64 0, .int .i64 0, .int .i64 0] 117)) := (((Below.refl _ _).alloc (Nat.le_refl _) _).alloc (by simp) _).alloc (by simp; omega) _
  have qN := cell_block (i := 2) rN
  simp at qN
  generalize (((w.alloc (.cells #[.int .i64 op, .int .i64 wd, .slice (some ad) 3 bc, .int .i64 v] 65)).alloc (.cells #[.int .i64 0, .int .i64 0, .int .i64 0] 117)).alloc (.cells #[.int .i64 0, .int .i64 0, .int .i64 0] 117)) = W0 at *
  have cc0 : W0.cell? ad = some (.int .i64 k0) := (HX.out _ hb0 0).trans hx0
  refine wp_loop_rounds 4 ?_
  rw [rounds_succ]
  have qL0 := cell_block (i := 0) rL
  have fL0 := free_block (i := 0) rL
  simp at qL0
  go_wp2_with fail
  refine (HC0.out _ hb0).mono ?_
  rintro e w' ⟨rfl, rfl⟩
  have rL1 : (W0.setCell ⟨w.heap.size + 2, 0, none⟩ (.int .i64 n0.wd)).heap[w.heap.size + 2]? = some (.cells #[.int .i64 n0.wd, .int .i64 0, .int .i64 0] 117) := heap_set rL
  have rR1 : (W0.setCell ⟨w.heap.size + 2, 0, none⟩ (.int .i64 n0.wd)).heap[w.heap.size + 1]? = some (.cells #[.int .i64 0, .int .i64 0, .int .i64 0] 117) := heap_set_ne rR (by omega)
  have hb1 : Below w.heap.size w (W0.setCell ⟨w.heap.size + 2, 0, none⟩ (.int .i64 n0.wd)) := hb0.setCell (by first | omega | (simp; done) | (simp; omega)) _
  go_wp2_with fail
  clear rL rR cc0 qL0 fL0
  have rL := rL1
  have rR := rR1
  clear rL1 rR1
  generalize W0.setCell ⟨w.heap.size + 2, 0, none⟩ (.int .i64 n0.wd) = W1 at *
  have cc1 : W1.cell? ⟨ad.block, ad.off + 1, none⟩ = some (.int .i64 k1) := (HX.out _ hb1 1).trans hx1
  rw [rounds_succ]
  have qL1 := cell_block (i := 1) rL
  have fL1 := free_block (i := 1) rL
  simp at qL1
  go_wp2_with fail
  refine (HC1.out _ hb1).mono ?_
  rintro e w' ⟨rfl, rfl⟩
  have rL1 : (W1.setCell ⟨w.heap.size + 2, 1, none⟩ (.int .i64 n1.wd)).heap[w.heap.size + 2]? = some (.cells #[.int .i64 n0.wd, .int .i64 n1.wd, .int .i64 0] 117) := heap_set rL
  have rR1 : (W1.setCell ⟨w.heap.size + 2, 1, none⟩ (.int .i64 n1.wd)).heap[w.heap.size + 1]? = some (.cells #[.int .i64 0, .int .i64 0, .int .i64 0] 117) := heap_set_ne rR (by omega)
  have hb2 : Below w.heap.size w (W1.setCell ⟨w.heap.size + 2, 1, none⟩ (.int .i64 n1.wd)) := hb1.setCell (by first | omega | (simp; done) | (simp; omega)) _
  go_wp2_with fail
  clear rL rR cc1 qL1 fL1
  have rL := rL1
  have rR := rR1
  clear rL1 rR1
  generalize W1.setCell ⟨w.heap.size + 2, 1, none⟩ (.int .i64 n1.wd) = W2 at *
  have cc2 : W2.cell? ⟨ad.block, ad.off + 2, none⟩ = some (.int .i64 k2) := (HX.out _ hb2 2).trans hx2
  rw [rounds_succ]
  have qL2 := cell_block (i := 2) rL
  have fL2 := free_block (i := 2) rL
  simp at qL2
  go_wp2_with fail
  refine (HC2.out _ hb2).mono ?_
  rintro e w' ⟨rfl, rfl⟩
  have rL1 : (W2.setCell ⟨w.heap.size + 2, 2, none⟩ (.int .i64 n2.wd)).heap[w.heap.size + 2]? = some (.cells #[.int .i64 n0.wd, .int .i64 n1.wd, .int .i64 n2.wd] 117) := heap_set rL
  have rR1 : (W2.setCell ⟨w.heap.size + 2, 2, none⟩ (.int .i64 n2.wd)).heap[w.heap.size + 1]? = some (.cells #[.int .i64 0, .int .i64 0, .int .i64 0] 117) := heap_set_ne rR (by omega)
  have hb3 : Below w.heap.size w (W2.setCell ⟨w.heap.size + 2, 2, none⟩ (.int .i64 n2.wd)) := hb2.setCell (by first | omega | (simp; done) | (simp; omega)) _
  go_wp2_with fail
  clear rL rR cc2 qL2 fL2
  have rL := rL1
  have rR := rR1
  clear rL1 rR1
  generalize W2.setCell ⟨w.heap.size + 2, 2, none⟩ (.int .i64 n2.wd) = W3 at *
  rw [rounds_succ]
  have u0 := cell_block (i := 0) rL
  have u1 := cell_block (i := 1) rL
  have u2 := cell_block (i := 2) rL
  have p0 := cell_block (i := 0) rR
  have p1 := cell_block (i := 1) rR
  have p2 := cell_block (i := 2) rR
  have f0 := free_block (i := 0) rR
  have f1 := free_block (i := 1) rR
  have f2 := free_block (i := 2) rR
  simp at u0 u1 u2 p0 p1 p2
  go_wp2
  refine bodyPost_ret (by simp [results, Tryd.results81, go_sem, p0, p1, p2]; try rfl) rfl ?_
  exact ⟨rfl, Below.aft (by (repeat' (first | (with_reducible exact Below.refl _ _) | (with_reducible assumption) | (with_reducible refine Below.alloc ?_ ?_ _) | (with_reducible refine Below.drew ?_) | (with_reducible refine Aft.below _ ?_ ?_) | (with_reducible refine Below.setCell_new ?_ ?_ _ _) | (with_reducible exact Nat.le_refl _) | (with_reducible refine Aft.le _ ?_) | (with_reducible refine le_alloc ?_) | (with_reducible refine le_drew ?_) | (with_reducible refine le_setCell ?_) | omega)))⟩

end Go.Proofs.YtkdonapgonegkaaDoor
