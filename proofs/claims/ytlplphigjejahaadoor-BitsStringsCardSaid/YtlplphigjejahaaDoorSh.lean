/-
  Contracts of the functions of chapter 1 (strings, fifth part: ParseBits, any string; built for the door seat only).
-/
import Derived.Test.YtlplphigjejahaaDoorSg
set_option linter.unusedSimpArgs false
set_option linter.unusedVariables false
namespace Go.Proofs.YtlplphigjejahaaDoor
open Go.RowKit Go.BigFrame

theorem par_first (l : List UInt8) : firstE [eIf (!litB l) 7, bErr (litW l) (litV l)] = parE l := by
  unfold parE
  cases litB l
  · rfl
  · rw [if_pos rfl]; unfold firstE; rw [if_pos (show eIf (!true) 7 = 0 from rfl)]; exact firstE_one _
theorem par_ok {l : List UInt8} (h : parE l = 0) : parW l = litW l ∧ parV l = litV l := by simp [parW, parV, h]
theorem par_no {l : List UInt8} (h : ¬ parE l = 0) : parW l = 0 ∧ parV l = 0 := by simp [parW, parV, h]

set_option maxRecDepth 20000 in
set_option maxHeartbeats 1600000 in
theorem Parse_ok (s : ByteArray) (hs : s.size ≤ 60) (hE : parE s.data.toList = 0) (w : World) :
    Calls Tryd.prog 6 #[.string s] w fun e w' => e = .returned (.tuple #[.agg #[.int .i64 (parW s.data.toList), .int .i64 (parV s.data.toList)], .int .i64 (parE s.data.toList)]) ∧ ∃ x : Aft w, w' = x.val := by
  have hF := par_first s.data.toList
  have HR := Lib.hid (par_ok hE)
  have HE := Lib.hid hE
  rw [hE] at hF
  have HF := Lib.hid hF
  clear hE hF
  have HC := Lib.hid (fun w => literal_c s hs w)
  have hs' : ¬ (60000 : Int) < s.size := by omega
  clear hs
  generalize litW s.data.toList = lw at *
  generalize litV s.data.toList = lv at *
  generalize litB s.data.toList = lb at *
  go_enter Tryd.func6, Tryd.ntmps6
  go_wp2_with fail
  refine (HC.out _).mono ?_
  rintro e w' ⟨rfl, x1, rfl⟩
  have zx1_0 : w.heap.size < x1.val.heap.size := by have := x1.size; (try simp at this); omega
  go_wp2_with fail
  refine wp_region_aft_tail 5 (by kernel_rfl) (by kernel_rfl) ?_
  simp only [List.take_succ_cons, List.take_zero, List.drop_succ_cons, List.drop_zero]
  repeat (go_big_quiet_step (first | (go_at_call 19; exact Calls.qs (errorIf_c _ _ _)) | (go_at_call 18; exact Calls.qa (CheckBits_c _ _ _))))
  refine wpQuiet_nil ?_
  intro x2
  have zx2_0 : w.heap.size < x2.val.heap.size := by have := x2.size; (try simp at this); omega
  have zx2_1 : x1.val.heap.size < x2.val.heap.size := by have := x2.size; (try simp at this); omega
  go_wp2_with fail
  refine (firstError2 _ _ _ _ _ _ (by exact heap_alloc_at (by simp [go_sem]))).mono ?_
  rw [HF.out]
  rintro e w' ⟨rfl, rfl⟩
  have rr : x2.val.heap[w.heap.size]? = some (.cells #[.int .i64 0, .int .i64 0] 23) := by (repeat' (first | (with_reducible assumption) | omega | (simp only [World.size_alloc, World.size_drew, World.size_setCell]; omega) | exact heap_alloc_at (by first | rfl | (simp; done)) | (with_reducible refine heap_aft _ ?_ ?_) | (with_reducible refine heap_alloc' ?_ ?_) | (with_reducible refine heap_drew ?_)))
  have q0 := cell_block (i := 0) rr
  have q1 := cell_block (i := 1) rr
  have f0 := free_block (i := 0) rr
  have f1 := free_block (i := 1) rr
  simp at q0 q1
  clear rr
  go_wp2
  refine bodyPost_ret (by simp [results, Tryd.results6, go_sem, q0, q1, zx2_0]; try rfl) rfl ?_
  exact ⟨tupE HR.out.1.symm HR.out.2.symm HE.out.symm, Below.aft (by (repeat' (first | (with_reducible exact Below.refl _ _) | (with_reducible assumption) | (with_reducible assumption) | (with_reducible exact Aft.pf _) | (with_reducible refine Below.alloc ?_ ?_ _) | (with_reducible refine Below.drew ?_) | (with_reducible refine Aft.below _ ?_ ?_) | (with_reducible refine Below.setCell_new ?_ ?_ _ _) | (with_reducible exact Nat.le_refl _) | (with_reducible refine Aft.le _ ?_) | (with_reducible refine le_alloc ?_) | (with_reducible refine le_drew ?_) | (with_reducible refine le_setCell ?_) | omega)))⟩

set_option maxRecDepth 20000 in
set_option maxHeartbeats 1600000 in
theorem Parse_no (s : ByteArray) (hs : s.size ≤ 60) (er : Int) (hn : er ≠ 0) (hE : parE s.data.toList = er) (w : World) :
    Calls Tryd.prog 6 #[.string s] w fun e w' => e = .returned (.tuple #[.agg #[.int .i64 (parW s.data.toList), .int .i64 (parV s.data.toList)], .int .i64 (parE s.data.toList)]) ∧ ∃ x : Aft w, w' = x.val := by
  have hF := par_first s.data.toList
  have HR := Lib.hid (par_no (by rw [hE]; exact hn))
  have hn1 : (er == 0) = false := by simpa using hn
  have hn2 : (er != 0) = true := by simpa using hn
  have HE := Lib.hid hE
  rw [hE] at hF
  have HF := Lib.hid hF
  clear hE hF hn
  have HC := Lib.hid (fun w => literal_c s hs w)
  have hs' : ¬ (60000 : Int) < s.size := by omega
  clear hs
  generalize litW s.data.toList = lw at *
  generalize litV s.data.toList = lv at *
  generalize litB s.data.toList = lb at *
  go_enter Tryd.func6, Tryd.ntmps6
  go_wp2_with fail
  refine (HC.out _).mono ?_
  rintro e w' ⟨rfl, x1, rfl⟩
  have zx1_0 : w.heap.size < x1.val.heap.size := by have := x1.size; (try simp at this); omega
  go_wp2_with fail
  refine wp_region_aft_tail 5 (by kernel_rfl) (by kernel_rfl) ?_
  simp only [List.take_succ_cons, List.take_zero, List.drop_succ_cons, List.drop_zero]
  repeat (go_big_quiet_step (first | (go_at_call 19; exact Calls.qs (errorIf_c _ _ _)) | (go_at_call 18; exact Calls.qa (CheckBits_c _ _ _))))
  refine wpQuiet_nil ?_
  intro x2
  have zx2_0 : w.heap.size < x2.val.heap.size := by have := x2.size; (try simp at this); omega
  have zx2_1 : x1.val.heap.size < x2.val.heap.size := by have := x2.size; (try simp at this); omega
  go_wp2_with fail
  refine (firstError2 _ _ _ _ _ _ (by exact heap_alloc_at (by simp [go_sem]))).mono ?_
  rw [HF.out]
  rintro e w' ⟨rfl, rfl⟩
  have rr : x2.val.heap[w.heap.size]? = some (.cells #[.int .i64 0, .int .i64 0] 23) := by (repeat' (first | (with_reducible assumption) | omega | (simp only [World.size_alloc, World.size_drew, World.size_setCell]; omega) | exact heap_alloc_at (by first | rfl | (simp; done)) | (with_reducible refine heap_aft _ ?_ ?_) | (with_reducible refine heap_alloc' ?_ ?_) | (with_reducible refine heap_drew ?_)))
  have q0 := cell_block (i := 0) rr
  have q1 := cell_block (i := 1) rr
  have f0 := free_block (i := 0) rr
  have f1 := free_block (i := 1) rr
  simp at q0 q1
  clear rr
  go_wp2
  refine bodyPost_ret (by simp [results, Tryd.results6, go_sem, q0, q1, zx2_0]; try rfl) rfl ?_
  exact ⟨tupE HR.out.1.symm HR.out.2.symm HE.out.symm, Below.aft (by (repeat' (first | (with_reducible exact Below.refl _ _) | (with_reducible assumption) | (with_reducible assumption) | (with_reducible exact Aft.pf _) | (with_reducible refine Below.alloc ?_ ?_ _) | (with_reducible refine Below.drew ?_) | (with_reducible refine Aft.below _ ?_ ?_) | (with_reducible refine Below.setCell_new ?_ ?_ _ _) | (with_reducible exact Nat.le_refl _) | (with_reducible refine Aft.le _ ?_) | (with_reducible refine le_alloc ?_) | (with_reducible refine le_drew ?_) | (with_reducible refine le_setCell ?_) | omega)))⟩

theorem Parse_c (s : ByteArray) (hs : s.size ≤ 60) (w : World) :
    Calls Tryd.prog 6 #[.string s] w fun e w' => e = .returned (.tuple #[.agg #[.int .i64 (parW s.data.toList), .int .i64 (parV s.data.toList)], .int .i64 (parE s.data.toList)]) ∧ ∃ x : Aft w, w' = x.val := by
  by_cases hE : parE s.data.toList = 0
  · exact Parse_ok s hs hE w
  · exact Parse_no s hs _ hE rfl w

end Go.Proofs.YtlplphigjejahaaDoor
