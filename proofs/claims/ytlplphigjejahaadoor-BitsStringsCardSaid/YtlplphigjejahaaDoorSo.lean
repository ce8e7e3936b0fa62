/-
  Contracts of the reference of chapter 1: the value of a string, walked (built for the door seat only).
-/
import Derived.Test.YtlplphigjejahaaDoorSn
import Derived.Deep.AppendLies
set_option linter.unusedSimpArgs false
set_option linter.unusedVariables false
namespace Go.Proofs.YtlplphigjejahaaDoor
open Go.RowKit Go.BigFrame

set_option maxRecDepth 100000 in
set_option maxHeartbeats 3200000 in
theorem rparse_other (s : ByteArray) (hs : s.size ≤ 60) (hc : ¬ s.data.toList.count 39 = 1) (w : World) : Calls Tryd.prog 7 #[.string s] w fun e w' => e = .returned (.tuple #[.agg #[.int .i64 (parW s.data.toList), .int .i64 (parV s.data.toList)], .int .i64 (parE s.data.toList)]) ∧ ∃ x : Aft w, w' = x.val := by
  have hs' : ¬ (60000 : Int) < s.size := by omega
  have HC := Lib.hid (fun w => Cut39_c s (by omega) w)
  have HX := Lib.hid (par_bad (cut_other hc))
  have hN := cut_count s hc
  clear hc
  clear hs
  go_enter Tryd.func7, Tryd.ntmps7
  go_wp2_with fail
  refine (HC.out _).mono ?_
  rintro e W1 ⟨v, rfl, hown, hb⟩
  have s0 : w.heap.size < W1.heap.size := by have := hb.size; simp at this; omega
  have rr : W1.heap[w.heap.size]? = some (.cells #[.int .i64 0, .int .i64 0] 23) := by rw [hb.block _ (by simp)]; exact heap_alloc_new _ _
  have q0 := cell_block (i := 0) rr
  have q1 := cell_block (i := 1) rr
  have f0 := free_block (i := 0) rr
  have f1 := free_block (i := 1) rr
  simp at q0 q1
  have hbw : Below w.heap.size w W1 := ((Below.refl _ _).alloc (Nat.le_refl _) _).trans (hb.mono (by simp))
  obtain ⟨g, cap, rfl, hg1, hg2⟩ := hown.form (by omega)
  clear hown hb rr
  generalize (cutF 39 s.data.toList).1.length + 1 = M at *
  have hN1 : ((M : Int) != 2) = true := by simp; omega
  have hN2 : ((M : Int) == 2) = false := by rw [beq_eq_false_iff_ne]; omega
  go_wp2
  refine bodyPost_ret (by simp [results, Tryd.results7, go_sem, q0, q1]; try rfl) rfl ?_
  exact ⟨tupE HX.out.1.symm HX.out.2.1.symm HX.out.2.2.symm, Below.aft (by (repeat' (first | (with_reducible exact Below.refl _ _) | (with_reducible assumption) | (with_reducible assumption) | (with_reducible exact Aft.pf _) | (with_reducible refine Below.alloc ?_ ?_ _) | (with_reducible refine Below.drew ?_) | (with_reducible refine Aft.below _ ?_ ?_) | (with_reducible refine Below.setCell_new ?_ ?_ _ _) | (with_reducible exact Nat.le_refl _) | (with_reducible refine Aft.le _ ?_) | (with_reducible refine le_alloc ?_) | (with_reducible refine le_drew ?_) | (with_reducible refine le_setCell ?_) | omega)))⟩

set_option maxRecDepth 100000 in
set_option maxHeartbeats 3200000 in
theorem rparse_short (s : ByteArray) (hs : s.size ≤ 60) (hc : s.data.toList.count 39 = 1) (h2 : (aftS s).size < 2) (w : World) : Calls Tryd.prog 7 #[.string s] w fun e w' => e = .returned (.tuple #[.agg #[.int .i64 (parW s.data.toList), .int .i64 (parV s.data.toList)], .int .i64 (parE s.data.toList)]) ∧ ∃ x : Aft w, w' = x.val := by
  have hs' : ¬ (60000 : Int) < s.size := by omega
  have HC := Lib.hid (fun w => Cut39_c s (by omega) w)
  have HX := Lib.hid (par_bad (lit_short (l := s.data.toList) (by simpa [aftS, ByteArray.size] using h2)))
  have hv := cut_vals s hc
  clear hc
  clear hs
  go_enter Tryd.func7, Tryd.ntmps7
  go_wp2_with fail
  refine (HC.out _).mono ?_
  rintro e W1 ⟨v, rfl, hown, hb⟩
  have s0 : w.heap.size < W1.heap.size := by have := hb.size; simp at this; omega
  have rr : W1.heap[w.heap.size]? = some (.cells #[.int .i64 0, .int .i64 0] 23) := by rw [hb.block _ (by simp)]; exact heap_alloc_new _ _
  have q0 := cell_block (i := 0) rr
  have q1 := cell_block (i := 1) rr
  have f0 := free_block (i := 0) rr
  have f1 := free_block (i := 1) rr
  simp at q0 q1
  have hbw : Below w.heap.size w W1 := ((Below.refl _ _).alloc (Nat.le_refl _) _).trans (hb.mono (by simp))
  rw [hv.1, hv.2] at hown
  obtain ⟨g, cap, rfl, hg1, hg2⟩ := hown.form (by omega)
  have c0 : W1.cell? ⟨g, 0, none⟩ = some (.string (befS s)) := by
    have := hown.cells (g := g) rfl 0 _ rfl
    rwa [Addr.add_lit, Nat.zero_add] at this
  have c1 : W1.cell? ⟨g, 1, none⟩ = some (.string (aftS s)) := by
    have := hown.cells (g := g) rfl 1 _ rfl
    rwa [Addr.add_lit, Nat.zero_add] at this
  have RR := Lib.hid rr
  clear hown hb rr hv
  have h2i : ((aftS s).size : Int) < 2 := by omega
  go_wp2
  refine bodyPost_ret (by simp [results, Tryd.results7, go_sem, q0, q1]; try rfl) rfl ?_
  exact ⟨tupE HX.out.1.symm HX.out.2.1.symm HX.out.2.2.symm, Below.aft (by (repeat' (first | (with_reducible exact Below.refl _ _) | (with_reducible assumption) | (with_reducible assumption) | (with_reducible exact Aft.pf _) | (with_reducible refine Below.alloc ?_ ?_ _) | (with_reducible refine Below.drew ?_) | (with_reducible refine Aft.below _ ?_ ?_) | (with_reducible refine Below.setCell_new ?_ ?_ _ _) | (with_reducible exact Nat.le_refl _) | (with_reducible refine Aft.le _ ?_) | (with_reducible refine le_alloc ?_) | (with_reducible refine le_drew ?_) | (with_reducible refine le_setCell ?_) | omega)))⟩

set_option maxRecDepth 100000 in
set_option maxHeartbeats 3200000 in
theorem rparse_bad0 (s : ByteArray) (hs : s.size ≤ 60) (hc : s.data.toList.count 39 = 1) (h2 : 2 ≤ (aftS s).size) (hch : (aftS s)[0].toNat = 98) (hb : (nmB 2 (befL s.data.toList) && decide (0 ≤ nmV 2 (befL s.data.toList))) = false) (w : World) : Calls Tryd.prog 7 #[.string s] w fun e w' => e = .returned (.tuple #[.agg #[.int .i64 (parW s.data.toList), .int .i64 (parV s.data.toList)], .int .i64 (parE s.data.toList)]) ∧ ∃ x : Aft w, w' = x.val := by
  have hs' : ¬ (60000 : Int) < s.size := by omega
  have HC := Lib.hid (fun w => Cut39_c s (by omega) w)
  have HX := Lib.hid (par_bad (wid_no hb))
  have hv := cut_vals s hc
  have hNum : ∀ w, Calls Tryd.prog 25 #[.string (befS s), .int .i64 2] w fun e w' => e = .returned (.tuple #[.int .i64 (nmV 2 (befL s.data.toList)), .bool (nmB 2 (befL s.data.toList))]) ∧ w = w' := fun w => Number_c (befS s) 2 (by decide) (by have := befS_size s; omega) w
  have HN := Lib.hid hNum
  clear hNum
  have k0 : (((aftS s)[0].toNat : Int) == 98) = true := by rw [beq_iff_eq]; omega
  clear hch hc
  clear hs
  go_enter Tryd.func7, Tryd.ntmps7
  go_wp2_with fail
  refine (HC.out _).mono ?_
  rintro e W1 ⟨v, rfl, hown, hb⟩
  have s0 : w.heap.size < W1.heap.size := by have := hb.size; simp at this; omega
  have rr : W1.heap[w.heap.size]? = some (.cells #[.int .i64 0, .int .i64 0] 23) := by rw [hb.block _ (by simp)]; exact heap_alloc_new _ _
  have q0 := cell_block (i := 0) rr
  have q1 := cell_block (i := 1) rr
  have f0 := free_block (i := 0) rr
  have f1 := free_block (i := 1) rr
  simp at q0 q1
  have hbw : Below w.heap.size w W1 := ((Below.refl _ _).alloc (Nat.le_refl _) _).trans (hb.mono (by simp))
  rw [hv.1, hv.2] at hown
  obtain ⟨g, cap, rfl, hg1, hg2⟩ := hown.form (by omega)
  have c0 : W1.cell? ⟨g, 0, none⟩ = some (.string (befS s)) := by
    have := hown.cells (g := g) rfl 0 _ rfl
    rwa [Addr.add_lit, Nat.zero_add] at this
  have c1 : W1.cell? ⟨g, 1, none⟩ = some (.string (aftS s)) := by
    have := hown.cells (g := g) rfl 1 _ rfl
    rwa [Addr.add_lit, Nat.zero_add] at this
  have RR := Lib.hid rr
  clear hown hb rr hv
  have h2i : ¬ ((aftS s).size : Int) < 2 := by omega
  have h2j : (0 : Int) < (aftS s).size := by omega
  generalize nmB 2 (befL s.data.toList) = ok at *
  generalize nmV 2 (befL s.data.toList) = nv at *
  cases ok
  case true =>
    have hneg : nv < 0 := by simpa using hb
    clear hb
    go_wp2_with (go_at_call 25; ((with_reducible refine (HN.out _).mono ?_); rintro e w' ⟨rfl, rfl⟩))
    refine bodyPost_ret (by simp [results, Tryd.results7, go_sem, q0, q1]; try rfl) rfl ?_
    exact ⟨tupE HX.out.1.symm HX.out.2.1.symm HX.out.2.2.symm, Below.aft (by (repeat' (first | (with_reducible exact Below.refl _ _) | (with_reducible assumption) | (with_reducible assumption) | (with_reducible exact Aft.pf _) | (with_reducible refine Below.alloc ?_ ?_ _) | (with_reducible refine Below.drew ?_) | (with_reducible refine Aft.below _ ?_ ?_) | (with_reducible refine Below.setCell_new ?_ ?_ _ _) | (with_reducible exact Nat.le_refl _) | (with_reducible refine Aft.le _ ?_) | (with_reducible refine le_alloc ?_) | (with_reducible refine le_drew ?_) | (with_reducible refine le_setCell ?_) | omega)))⟩
  case false =>
    clear hb
    go_wp2_with (go_at_call 25; ((with_reducible refine (HN.out _).mono ?_); rintro e w' ⟨rfl, rfl⟩))
    refine bodyPost_ret (by simp [results, Tryd.results7, go_sem, q0, q1]; try rfl) rfl ?_
    exact ⟨tupE HX.out.1.symm HX.out.2.1.symm HX.out.2.2.symm, Below.aft (by (repeat' (first | (with_reducible exact Below.refl _ _) | (with_reducible assumption) | (with_reducible assumption) | (with_reducible exact Aft.pf _) | (with_reducible refine Below.alloc ?_ ?_ _) | (with_reducible refine Below.drew ?_) | (with_reducible refine Aft.below _ ?_ ?_) | (with_reducible refine Below.setCell_new ?_ ?_ _ _) | (with_reducible exact Nat.le_refl _) | (with_reducible refine Aft.le _ ?_) | (with_reducible refine le_alloc ?_) | (with_reducible refine le_drew ?_) | (with_reducible refine le_setCell ?_) | omega)))⟩

set_option maxRecDepth 100000 in
set_option maxHeartbeats 3200000 in
theorem rparse_bad1 (s : ByteArray) (hs : s.size ≤ 60) (hc : s.data.toList.count 39 = 1) (h2 : 2 ≤ (aftS s).size) (hch : (aftS s)[0].toNat = 100) (hb : (nmB 2 (befL s.data.toList) && decide (0 ≤ nmV 2 (befL s.data.toList))) = false) (w : World) : Calls Tryd.prog 7 #[.string s] w fun e w' => e = .returned (.tuple #[.agg #[.int .i64 (parW s.data.toList), .int .i64 (parV s.data.toList)], .int .i64 (parE s.data.toList)]) ∧ ∃ x : Aft w, w' = x.val := by
  have hs' : ¬ (60000 : Int) < s.size := by omega
  have HC := Lib.hid (fun w => Cut39_c s (by omega) w)
  have HX := Lib.hid (par_bad (wid_no hb))
  have hv := cut_vals s hc
  have hNum : ∀ w, Calls Tryd.prog 25 #[.string (befS s), .int .i64 2] w fun e w' => e = .returned (.tuple #[.int .i64 (nmV 2 (befL s.data.toList)), .bool (nmB 2 (befL s.data.toList))]) ∧ w = w' := fun w => Number_c (befS s) 2 (by decide) (by have := befS_size s; omega) w
  have HN := Lib.hid hNum
  clear hNum
  have k0 : (((aftS s)[0].toNat : Int) == 98) = false := by rw [beq_eq_false_iff_ne]; omega
  have k1 : (((aftS s)[0].toNat : Int) == 100) = true := by rw [beq_iff_eq]; omega
  clear hch hc
  clear hs
  go_enter Tryd.func7, Tryd.ntmps7
  go_wp2_with fail
  refine (HC.out _).mono ?_
  rintro e W1 ⟨v, rfl, hown, hb⟩
  have s0 : w.heap.size < W1.heap.size := by have := hb.size; simp at this; omega
  have rr : W1.heap[w.heap.size]? = some (.cells #[.int .i64 0, .int .i64 0] 23) := by rw [hb.block _ (by simp)]; exact heap_alloc_new _ _
  have q0 := cell_block (i := 0) rr
  have q1 := cell_block (i := 1) rr
  have f0 := free_block (i := 0) rr
  have f1 := free_block (i := 1) rr
  simp at q0 q1
  have hbw : Below w.heap.size w W1 := ((Below.refl _ _).alloc (Nat.le_refl _) _).trans (hb.mono (by simp))
  rw [hv.1, hv.2] at hown
  obtain ⟨g, cap, rfl, hg1, hg2⟩ := hown.form (by omega)
  have c0 : W1.cell? ⟨g, 0, none⟩ = some (.string (befS s)) := by
    have := hown.cells (g := g) rfl 0 _ rfl
    rwa [Addr.add_lit, Nat.zero_add] at this
  have c1 : W1.cell? ⟨g, 1, none⟩ = some (.string (aftS s)) := by
    have := hown.cells (g := g) rfl 1 _ rfl
    rwa [Addr.add_lit, Nat.zero_add] at this
  have RR := Lib.hid rr
  clear hown hb rr hv
  have h2i : ¬ ((aftS s).size : Int) < 2 := by omega
  have h2j : (0 : Int) < (aftS s).size := by omega
  generalize nmB 2 (befL s.data.toList) = ok at *
  generalize nmV 2 (befL s.data.toList) = nv at *
  cases ok
  case true =>
    have hneg : nv < 0 := by simpa using hb
    clear hb
    go_wp2_with (go_at_call 25; ((with_reducible refine (HN.out _).mono ?_); rintro e w' ⟨rfl, rfl⟩))
    refine bodyPost_ret (by simp [results, Tryd.results7, go_sem, q0, q1]; try rfl) rfl ?_
    exact ⟨tupE HX.out.1.symm HX.out.2.1.symm HX.out.2.2.symm, Below.aft (by (repeat' (first | (with_reducible exact Below.refl _ _) | (with_reducible assumption) | (with_reducible assumption) | (with_reducible exact Aft.pf _) | (with_reducible refine Below.alloc ?_ ?_ _) | (with_reducible refine Below.drew ?_) | (with_reducible refine Aft.below _ ?_ ?_) | (with_reducible refine Below.setCell_new ?_ ?_ _ _) | (with_reducible exact Nat.le_refl _) | (with_reducible refine Aft.le _ ?_) | (with_reducible refine le_alloc ?_) | (with_reducible refine le_drew ?_) | (with_reducible refine le_setCell ?_) | omega)))⟩
  case false =>
    clear hb
    go_wp2_with (go_at_call 25; ((with_reducible refine (HN.out _).mono ?_); rintro e w' ⟨rfl, rfl⟩))
    refine bodyPost_ret (by simp [results, Tryd.results7, go_sem, q0, q1]; try rfl) rfl ?_
    exact ⟨tupE HX.out.1.symm HX.out.2.1.symm HX.out.2.2.symm, Below.aft (by (repeat' (first | (with_reducible exact Below.refl _ _) | (with_reducible assumption) | (with_reducible assumption) | (with_reducible exact Aft.pf _) | (with_reducible refine Below.alloc ?_ ?_ _) | (with_reducible refine Below.drew ?_) | (with_reducible refine Aft.below _ ?_ ?_) | (with_reducible refine Below.setCell_new ?_ ?_ _ _) | (with_reducible exact Nat.le_refl _) | (with_reducible refine Aft.le _ ?_) | (with_reducible refine le_alloc ?_) | (with_reducible refine le_drew ?_) | (with_reducible refine le_setCell ?_) | omega)))⟩

set_option maxRecDepth 100000 in
set_option maxHeartbeats 3200000 in
theorem rparse_bad2 (s : ByteArray) (hs : s.size ≤ 60) (hc : s.data.toList.count 39 = 1) (h2 : 2 ≤ (aftS s).size) (hch : (aftS s)[0].toNat = 104) (hb : (nmB 2 (befL s.data.toList) && decide (0 ≤ nmV 2 (befL s.data.toList))) = false) (w : World) : Calls Tryd.prog 7 #[.string s] w fun e w' => e = .returned (.tuple #[.agg #[.int .i64 (parW s.data.toList), .int .i64 (parV s.data.toList)], .int .i64 (parE s.data.toList)]) ∧ ∃ x : Aft w, w' = x.val := by
  have hs' : ¬ (60000 : Int) < s.size := by omega
  have HC := Lib.hid (fun w => Cut39_c s (by omega) w)
  have HX := Lib.hid (par_bad (wid_no hb))
  have hv := cut_vals s hc
  have hNum : ∀ w, Calls Tryd.prog 25 #[.string (befS s), .int .i64 2] w fun e w' => e = .returned (.tuple #[.int .i64 (nmV 2 (befL s.data.toList)), .bool (nmB 2 (befL s.data.toList))]) ∧ w = w' := fun w => Number_c (befS s) 2 (by decide) (by have := befS_size s; omega) w
  have HN := Lib.hid hNum
  clear hNum
  have k0 : (((aftS s)[0].toNat : Int) == 98) = false := by rw [beq_eq_false_iff_ne]; omega
  have k1 : (((aftS s)[0].toNat : Int) == 100) = false := by rw [beq_eq_false_iff_ne]; omega
  have k2 : (((aftS s)[0].toNat : Int) == 104) = true := by rw [beq_iff_eq]; omega
  clear hch hc
  clear hs
  go_enter Tryd.func7, Tryd.ntmps7
  go_wp2_with fail
  refine (HC.out _).mono ?_
  rintro e W1 ⟨v, rfl, hown, hb⟩
  have s0 : w.heap.size < W1.heap.size := by have := hb.size; simp at this; omega
  have rr : W1.heap[w.heap.size]? = some (.cells #[.int .i64 0, .int .i64 0] 23) := by rw [hb.block _ (by simp)]; exact heap_alloc_new _ _
  have q0 := cell_block (i := 0) rr
  have q1 := cell_block (i := 1) rr
  have f0 := free_block (i := 0) rr
  have f1 := free_block (i := 1) rr
  simp at q0 q1
  have hbw : Below w.heap.size w W1 := ((Below.refl _ _).alloc (Nat.le_refl _) _).trans (hb.mono (by simp))
  rw [hv.1, hv.2] at hown
  obtain ⟨g, cap, rfl, hg1, hg2⟩ := hown.form (by omega)
  have c0 : W1.cell? ⟨g, 0, none⟩ = some (.string (befS s)) := by
    have := hown.cells (g := g) rfl 0 _ rfl
    rwa [Addr.add_lit, Nat.zero_add] at this
  have c1 : W1.cell? ⟨g, 1, none⟩ = some (.string (aftS s)) := by
    have := hown.cells (g := g) rfl 1 _ rfl
    rwa [Addr.add_lit, Nat.zero_add] at this
  have RR := Lib.hid rr
  clear hown hb rr hv
  have h2i : ¬ ((aftS s).size : Int) < 2 := by omega
  have h2j : (0 : Int) < (aftS s).size := by omega
  generalize nmB 2 (befL s.data.toList) = ok at *
  generalize nmV 2 (befL s.data.toList) = nv at *
  cases ok
  case true =>
    have hneg : nv < 0 := by simpa using hb
    clear hb
    go_wp2_with (go_at_call 25; ((with_reducible refine (HN.out _).mono ?_); rintro e w' ⟨rfl, rfl⟩))
    refine bodyPost_ret (by simp [results, Tryd.results7, go_sem, q0, q1]; try rfl) rfl ?_
    exact ⟨tupE HX.out.1.symm HX.out.2.1.symm HX.out.2.2.symm, Below.aft (by (repeat' (first | (with_reducible exact Below.refl _ _) | (with_reducible assumption) | (with_reducible assumption) | (with_reducible exact Aft.pf _) | (with_reducible refine Below.alloc ?_ ?_ _) | (with_reducible refine Below.drew ?_) | (with_reducible refine Aft.below _ ?_ ?_) | (with_reducible refine Below.setCell_new ?_ ?_ _ _) | (with_reducible exact Nat.le_refl _) | (with_reducible refine Aft.le _ ?_) | (with_reducible refine le_alloc ?_) | (with_reducible refine le_drew ?_) | (with_reducible refine le_setCell ?_) | omega)))⟩
  case false =>
    clear hb
    go_wp2_with (go_at_call 25; ((with_reducible refine (HN.out _).mono ?_); rintro e w' ⟨rfl, rfl⟩))
    refine bodyPost_ret (by simp [results, Tryd.results7, go_sem, q0, q1]; try rfl) rfl ?_
    exact ⟨tupE HX.out.1.symm HX.out.2.1.symm HX.out.2.2.symm, Below.aft (by (repeat' (first | (with_reducible exact Below.refl _ _) | (with_reducible assumption) | (with_reducible assumption) | (with_reducible exact Aft.pf _) | (with_reducible refine Below.alloc ?_ ?_ _) | (with_reducible refine Below.drew ?_) | (with_reducible refine Aft.below _ ?_ ?_) | (with_reducible refine Below.setCell_new ?_ ?_ _ _) | (with_reducible exact Nat.le_refl _) | (with_reducible refine Aft.le _ ?_) | (with_reducible refine le_alloc ?_) | (with_reducible refine le_drew ?_) | (with_reducible refine le_setCell ?_) | omega)))⟩

set_option maxRecDepth 100000 in
set_option maxHeartbeats 3200000 in
theorem rparse_bad3 (s : ByteArray) (hs : s.size ≤ 60) (hc : s.data.toList.count 39 = 1) (h2 : 2 ≤ (aftS s).size) (hch : baseN (aftS s)[0].toNat = 0) (w : World) : Calls Tryd.prog 7 #[.string s] w fun e w' => e = .returned (.tuple #[.agg #[.int .i64 (parW s.data.toList), .int .i64 (parV s.data.toList)], .int .i64 (parE s.data.toList)]) ∧ ∃ x : Aft w, w' = x.val := by
  have hs' : ¬ (60000 : Int) < s.size := by omega
  have HC := Lib.hid (fun w => Cut39_c s (by omega) w)
  have HX := Lib.hid (par_bad (base_no (aft_cons s (by omega)) hch))
  have hv := cut_vals s hc
  have hNum : ∀ w, Calls Tryd.prog 25 #[.string (befS s), .int .i64 2] w fun e w' => e = .returned (.tuple #[.int .i64 (nmV 2 (befL s.data.toList)), .bool (nmB 2 (befL s.data.toList))]) ∧ w = w' := fun w => Number_c (befS s) 2 (by decide) (by have := befS_size s; omega) w
  have HN := Lib.hid hNum
  clear hNum
  have hch0 : ¬ (aftS s)[0].toNat = 98 := by intro e; rw [e] at hch; cases hch
  have hch1 : ¬ (aftS s)[0].toNat = 100 := by intro e; rw [e] at hch; cases hch
  have hch2 : ¬ (aftS s)[0].toNat = 104 := by intro e; rw [e] at hch; cases hch
  have k0 : (((aftS s)[0].toNat : Int) == 98) = false := by rw [beq_eq_false_iff_ne]; omega
  have k1 : (((aftS s)[0].toNat : Int) == 100) = false := by rw [beq_eq_false_iff_ne]; omega
  have k2 : (((aftS s)[0].toNat : Int) == 104) = false := by rw [beq_eq_false_iff_ne]; omega
  clear hch hc
  clear hs
  go_enter Tryd.func7, Tryd.ntmps7
  go_wp2_with fail
  refine (HC.out _).mono ?_
  rintro e W1 ⟨v, rfl, hown, hb⟩
  have s0 : w.heap.size < W1.heap.size := by have := hb.size; simp at this; omega
  have rr : W1.heap[w.heap.size]? = some (.cells #[.int .i64 0, .int .i64 0] 23) := by rw [hb.block _ (by simp)]; exact heap_alloc_new _ _
  have q0 := cell_block (i := 0) rr
  have q1 := cell_block (i := 1) rr
  have f0 := free_block (i := 0) rr
  have f1 := free_block (i := 1) rr
  simp at q0 q1
  have hbw : Below w.heap.size w W1 := ((Below.refl _ _).alloc (Nat.le_refl _) _).trans (hb.mono (by simp))
  rw [hv.1, hv.2] at hown
  obtain ⟨g, cap, rfl, hg1, hg2⟩ := hown.form (by omega)
  have c0 : W1.cell? ⟨g, 0, none⟩ = some (.string (befS s)) := by
    have := hown.cells (g := g) rfl 0 _ rfl
    rwa [Addr.add_lit, Nat.zero_add] at this
  have c1 : W1.cell? ⟨g, 1, none⟩ = some (.string (aftS s)) := by
    have := hown.cells (g := g) rfl 1 _ rfl
    rwa [Addr.add_lit, Nat.zero_add] at this
  have RR := Lib.hid rr
  clear hown hb rr hv
  have h2i : ¬ ((aftS s).size : Int) < 2 := by omega
  have h2j : (0 : Int) < (aftS s).size := by omega
  generalize nmB 2 (befL s.data.toList) = ok at *
  generalize nmV 2 (befL s.data.toList) = nv at *
  cases ok
  case true =>
    by_cases hneg : nv < 0
    all_goals
      go_wp2_with (go_at_call 25; ((with_reducible refine (HN.out _).mono ?_); rintro e w' ⟨rfl, rfl⟩))
      refine bodyPost_ret (by simp [results, Tryd.results7, go_sem, q0, q1]; try rfl) rfl ?_
      exact ⟨tupE HX.out.1.symm HX.out.2.1.symm HX.out.2.2.symm, Below.aft (by (repeat' (first | (with_reducible exact Below.refl _ _) | (with_reducible assumption) | (with_reducible assumption) | (with_reducible exact Aft.pf _) | (with_reducible refine Below.alloc ?_ ?_ _) | (with_reducible refine Below.drew ?_) | (with_reducible refine Aft.below _ ?_ ?_) | (with_reducible refine Below.setCell_new ?_ ?_ _ _) | (with_reducible exact Nat.le_refl _) | (with_reducible refine Aft.le _ ?_) | (with_reducible refine le_alloc ?_) | (with_reducible refine le_drew ?_) | (with_reducible refine le_setCell ?_) | omega)))⟩
  case false =>
    go_wp2_with (go_at_call 25; ((with_reducible refine (HN.out _).mono ?_); rintro e w' ⟨rfl, rfl⟩))
    refine bodyPost_ret (by simp [results, Tryd.results7, go_sem, q0, q1]; try rfl) rfl ?_
    exact ⟨tupE HX.out.1.symm HX.out.2.1.symm HX.out.2.2.symm, Below.aft (by (repeat' (first | (with_reducible exact Below.refl _ _) | (with_reducible assumption) | (with_reducible assumption) | (with_reducible exact Aft.pf _) | (with_reducible refine Below.alloc ?_ ?_ _) | (with_reducible refine Below.drew ?_) | (with_reducible refine Aft.below _ ?_ ?_) | (with_reducible refine Below.setCell_new ?_ ?_ _ _) | (with_reducible exact Nat.le_refl _) | (with_reducible refine Aft.le _ ?_) | (with_reducible refine le_alloc ?_) | (with_reducible refine le_drew ?_) | (with_reducible refine le_setCell ?_) | omega)))⟩

end Go.Proofs.YtlplphigjejahaaDoor
