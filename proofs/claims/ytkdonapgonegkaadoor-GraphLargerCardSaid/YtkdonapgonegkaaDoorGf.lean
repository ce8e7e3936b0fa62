/-
  Contracts of chapter 2 (graph): the error of a node.
-/
import Derived.Test.YtkdonapgonegkaaDoorGe
set_option linter.unusedSimpArgs false
set_option linter.unusedVariables false
namespace Go.Proofs.YtkdonapgonegkaaDoor
open Go.RowKit Go.BigFrame

/-- The names of the operations, and whether they have a number. -/
def opL (o : Nat) : List UInt8 := ([[99, 111, 110, 115, 116], [108, 101, 97, 102], [110, 111, 116], [97, 110, 100], [111, 114], [120, 111, 114], [97, 100, 100], [115, 117, 98], [109, 117, 108], [101, 113], [108, 116], [115, 108, 116], [109, 117, 120], [106, 111, 105, 110], [115, 108, 105, 99, 101], [122, 101, 120, 116], [115, 101, 120, 116], [115, 104, 108], [115, 104, 114]] : List (List UInt8)).getD o [63]
def opN (o : Nat) : Bool := o == 0 || o == 1 || o == 14
/-- What the program's table of operations says of them. -/
structure TabOps (w : World) : Prop where
  args : ∀ o : Nat, o < 19 → w.cell? ⟨0, o * 3 + 1, none⟩ = some (.int .i64 (argN o))
  names : ∀ o : Nat, o < 19 → w.cell? ⟨0, o * 3, none⟩ = some (.string ⟨(opL o).toArray⟩)
  nums : ∀ o : Nat, o < 19 → w.cell? ⟨0, o * 3 + 2, none⟩ = some (.bool (opN o))
  big : 0 < w.heap.size
theorem TabOps.below {w W : World} (h : TabOps w) (hb : Below w.heap.size w W) : TabOps W where
  args o ho := (hb.cell (p := ⟨0, o * 3 + 1, none⟩) h.big).trans (h.args o ho)
  names o ho := (hb.cell (p := ⟨0, o * 3, none⟩) h.big).trans (h.names o ho)
  nums o ho := (hb.cell (p := ⟨0, o * 3 + 2, none⟩) h.big).trans (h.nums o ho)
  big := Nat.lt_of_lt_of_le h.big hb.size
def node3 (ls : List Int) (before : List Nd) (n : Nd) : Int := firstE [eIf ((n.args.length : Int) != argN n.op) 10, argsE n.args before.length 9, numE ls n.op n.wd n.v]
theorem nodeE_15 {ls : List Int} {before : List Nd} {n : Nd} (h : isIx n.op 19 = false) : nodeE ls before n = 15 := by unfold nodeE; rw [h]; rfl
theorem nodeE_2 {ls : List Int} {before : List Nd} {n : Nd} (h : isIx n.op 19 = true) (h2 : isW n.wd = false) : nodeE ls before n = 2 := by unfold nodeE; rw [h, h2]; rfl
theorem nodeE_3 {ls : List Int} {before : List Nd} {n : Nd} (h : isIx n.op 19 = true) (h2 : isW n.wd = true) (h3 : ¬ node3 ls before n = 0) : nodeE ls before n = node3 ls before n := by
  unfold nodeE; rw [h, h2, if_pos rfl, if_pos rfl]; exact if_neg h3
theorem nodeE_4 {ls : List Int} {before : List Nd} {n : Nd} (h : isIx n.op 19 = true) (h2 : isW n.wd = true) (h3 : node3 ls before n = 0) : nodeE ls before n = eIf (!fitW n.op n.wd n.v (wAt before n.args 0) (wAt before n.args 1) (wAt before n.args 2)) 25 := by
  unfold nodeE; rw [h, h2, if_pos rfl, if_pos rfl]; exact if_pos h3
theorem node3_zero {ls : List Int} {before : List Nd} {n : Nd} (h : node3 ls before n = 0) : (n.args.length : Int) = argN n.op ∧ (∀ i ∈ n.args, isIx i before.length = true) ∧ numE ls n.op n.wd n.v = 0 := by
  unfold node3 firstE at h
  by_cases h1 : eIf ((n.args.length : Int) != argN n.op) 10 = 0
  · rw [if_pos h1] at h
    unfold firstE at h
    by_cases h2 : argsE n.args before.length 9 = 0
    · rw [if_pos h2, firstE_one] at h
      refine ⟨?_, ?_, h⟩
      · by_cases k : (n.args.length : Int) = argN n.op
        · exact k
        · have : ((n.args.length : Int) != argN n.op) = true := by simpa using k
          rw [this] at h1; cases h1
      · unfold argsE at h2
        by_cases k : n.args.all (fun i => isIx i before.length) = true
        · exact List.all_eq_true.1 k
        · rw [if_neg k] at h2; cases h2
    · rw [if_neg h2] at h; exact absurd h h2
  · rw [if_neg h1] at h; exact absurd h h1
theorem argN_le (op : Int) : argN op ≤ 3 := by unfold argN; split <;> (try split) <;> (try split) <;> decide

set_option maxRecDepth 100000 in
set_option maxHeartbeats 1600000 in
theorem errorOfNode_15 (A : Option Addr) (cap : Nat) (ls : List Int) (hls : ls.length ≤ 65536) (N : Option Addr) (capN : Nat) (before : List Nd) (hbe : before.length ≤ 65536) (nd : Nd) (hla : nd.args.length ≤ 65536) (B : Option Addr) (bc : Nat) (w : World) (hA : LiesI w A ls) (hN : LiesN w N before) (hB : LiesI w B nd.args) (ht : TabOps w) (h : isIx nd.op 19 = false) :
    Calls Tryd.prog 51 #[.slice A ls.length cap, .slice N before.length capN, .agg #[.int .i64 nd.op, .int .i64 nd.wd, .slice B nd.args.length bc, .int .i64 nd.v]] w fun e w' => e = .returned (.int .i64 (nodeE ls before nd)) ∧ ∃ x : Aft w, w' = x.val := by
  have HI := Lib.hid (fun w => by have k := isIndex_c nd.op 19 w; rw [h] at k; exact k)
  have HR := Lib.hid (nodeE_15 (ls := ls) (before := before) h)
  clear hA hN hB ht h
  go_enter Tryd.func51, Tryd.ntmps51
  go_wp2_with (go_at_call 66; ((with_reducible refine (HI.out _).mono ?_); rintro e w' ⟨rfl, rfl⟩))
  go_ret
  exact ⟨retI HR.out.symm, Below.aft (by (repeat' (first | (with_reducible exact Below.refl _ _) | (with_reducible assumption) | (with_reducible refine Below.alloc ?_ ?_ _) | (with_reducible refine Below.drew ?_) | (with_reducible refine Aft.below _ ?_ ?_) | (with_reducible refine Below.setCell_new ?_ ?_ _ _) | (with_reducible exact Nat.le_refl _) | (with_reducible refine Aft.le _ ?_) | (with_reducible refine le_alloc ?_) | (with_reducible refine le_drew ?_) | (with_reducible refine le_setCell ?_) | omega)))⟩

set_option maxRecDepth 100000 in
set_option maxHeartbeats 1600000 in
theorem errorOfNode_2 (A : Option Addr) (cap : Nat) (ls : List Int) (hls : ls.length ≤ 65536) (N : Option Addr) (capN : Nat) (before : List Nd) (hbe : before.length ≤ 65536) (nd : Nd) (hla : nd.args.length ≤ 65536) (B : Option Addr) (bc : Nat) (w : World) (hA : LiesI w A ls) (hN : LiesN w N before) (hB : LiesI w B nd.args) (ht : TabOps w) (h : isIx nd.op 19 = true) (h2 : isW nd.wd = false) :
    Calls Tryd.prog 51 #[.slice A ls.length cap, .slice N before.length capN, .agg #[.int .i64 nd.op, .int .i64 nd.wd, .slice B nd.args.length bc, .int .i64 nd.v]] w fun e w' => e = .returned (.int .i64 (nodeE ls before nd)) ∧ ∃ x : Aft w, w' = x.val := by
  have HI := Lib.hid (fun w => by have k := isIndex_c nd.op 19 w; rw [h] at k; exact k)
  have HW := Lib.hid (fun w => by have k := isWidth_c nd.wd w; rw [h2] at k; exact k)
  have HR := Lib.hid (nodeE_2 (ls := ls) (before := before) h h2)
  clear hA hN hB ht h h2
  go_enter Tryd.func51, Tryd.ntmps51
  go_wp2_with (first | (go_at_call 66; ((with_reducible refine (HI.out _).mono ?_); rintro e w' ⟨rfl, rfl⟩)) | (go_at_call 48; ((with_reducible refine (HW.out _).mono ?_); rintro e w' ⟨rfl, rfl⟩)))
  go_ret
  exact ⟨retI HR.out.symm, Below.aft (by (repeat' (first | (with_reducible exact Below.refl _ _) | (with_reducible assumption) | (with_reducible refine Below.alloc ?_ ?_ _) | (with_reducible refine Below.drew ?_) | (with_reducible refine Aft.below _ ?_ ?_) | (with_reducible refine Below.setCell_new ?_ ?_ _ _) | (with_reducible exact Nat.le_refl _) | (with_reducible refine Aft.le _ ?_) | (with_reducible refine le_alloc ?_) | (with_reducible refine le_drew ?_) | (with_reducible refine le_setCell ?_) | omega)))⟩

set_option maxRecDepth 100000 in
set_option maxHeartbeats 1600000 in
theorem errorOfNode_3 (A : Option Addr) (cap : Nat) (ls : List Int) (hls : ls.length ≤ 65536) (N : Option Addr) (capN : Nat) (before : List Nd) (hbe : before.length ≤ 65536) (nd : Nd) (hla : nd.args.length ≤ 65536) (B : Option Addr) (bc : Nat) (w : World) (hA : LiesI w A ls) (hN : LiesN w N before) (hB : LiesI w B nd.args) (ht : TabOps w) (h : isIx nd.op 19 = true) (h2 : isW nd.wd = true) (h3 : ¬ node3 ls before nd = 0) :
    Calls Tryd.prog 51 #[.slice A ls.length cap, .slice N before.length capN, .agg #[.int .i64 nd.op, .int .i64 nd.wd, .slice B nd.args.length bc, .int .i64 nd.v]] w fun e w' => e = .returned (.int .i64 (nodeE ls before nd)) ∧ ∃ x : Aft w, w' = x.val := by
  obtain ⟨op, wd, args, v⟩ := nd
  simp only at *
  obtain ⟨o0, o1⟩ := isIx_iff.1 h
  obtain ⟨w1, w2⟩ := isW_iff.1 h2
  obtain ⟨o, rfl⟩ := Int.eq_ofNat_of_zero_le o0
  have HI := Lib.hid (fun w => by have k := isIndex_c (o : Int) 19 w; rw [h] at k; exact k)
  have HW := Lib.hid (fun w => by have k := isWidth_c wd w; rw [h2] at k; exact k)
  have hb0 : Below w.heap.size w ((w.alloc (.cells #[.slice N before.length capN] 23)).alloc (.cells #[.int .i64 (o : Int), .int .i64 wd, .slice B args.length bc, .int .i64 v] 65)) := ((Below.refl _ _).alloc (Nat.le_refl _) _).alloc (by simp) _
  have HX := Lib.hid (fun y : Aft ((w.alloc (.cells #[.slice N before.length capN] 23)).alloc (.cells #[.int .i64 (o : Int), .int .i64 wd, .slice B args.length bc, .int .i64 v] 65)) => errorOfIndexes_c before.length 9 (by decide) B bc args hla y.val ((hB.below hb0).aft y))
  have HN := Lib.hid (fun y : Aft ((w.alloc (.cells #[.slice N before.length capN] 23)).alloc (.cells #[.int .i64 (o : Int), .int .i64 wd, .slice B args.length bc, .int .i64 v] 65)) => errorOfNumber_c A cap ls hls (o : Int) wd v w1 w2 B args.length bc y.val ((hA.below hb0).aft y))
  have hF : firstE [eIf ((args.length : Int) != argN (o : Int)) 10, argsE args before.length 9, numE ls (o : Int) wd v] = node3 ls before ⟨o, wd, args, v⟩ := rfl
  have HF := Lib.hid hF
  clear hF
  have HR := Lib.hid (nodeE_3 h h2 h3)
  have n1 : (node3 ls before ⟨o, wd, args, v⟩ == 0) = false := by simpa using h3
  have n2 : (node3 ls before ⟨o, wd, args, v⟩ != 0) = true := by simpa using h3
  have HTT := Lib.hid ht
  clear hA hN hB ht h h2 h3
  go_enter Tryd.func51, Tryd.ntmps51
  go_wp2_with (first | (go_at_call 66; ((with_reducible refine (HI.out _).mono ?_); rintro e w' ⟨rfl, rfl⟩)) | (go_at_call 48; ((with_reducible refine (HW.out _).mono ?_); rintro e w' ⟨rfl, rfl⟩)))
  have tb := (HTT.out.below hb0).big
  have tc := (HTT.out.below hb0).args o (by omega)
  have r0 : ((w.alloc (.cells #[.slice N before.length capN] 23)).alloc (.cells #[.int .i64 (o : Int), .int .i64 wd, .slice B args.length bc, .int .i64 v] 65)).heap[w.heap.size]? = some (.cells #[.slice N before.length capN] 23) := heap_alloc' (by simp) (heap_alloc_new _ _)
  have r1 : ((w.alloc (.cells #[.slice N before.length capN] 23)).alloc (.cells #[.int .i64 (o : Int), .int .i64 wd, .slice B args.length bc, .int .i64 v] 65)).heap[w.heap.size + 1]? = some (.cells #[.int .i64 (o : Int), .int .i64 wd, .slice B args.length bc, .int .i64 v] 65) := heap_alloc_at (by simp)
  have z0 : w.heap.size < ((w.alloc (.cells #[.slice N before.length capN] 23)).alloc (.cells #[.int .i64 (o : Int), .int .i64 wd, .slice B args.length bc, .int .i64 v] 65)).heap.size := by simp; omega
  have z1 : w.heap.size + 1 < ((w.alloc (.cells #[.slice N before.length capN] 23)).alloc (.cells #[.int .i64 (o : Int), .int .i64 wd, .slice B args.length bc, .int .i64 v] 65)).heap.size := by simp
  generalize ((w.alloc (.cells #[.slice N before.length capN] 23)).alloc (.cells #[.int .i64 (o : Int), .int .i64 wd, .slice B args.length bc, .int .i64 v] 65)) = W0 at *
  have q0 := cell_block (i := 0) r0
  have p0 := cell_block (i := 0) r1
  have p1 := cell_block (i := 1) r1
  have p2 := cell_block (i := 2) r1
  have p3 := cell_block (i := 3) r1
  simp at q0 p0 p1 p2 p3
  refine wp_region_aft_tail 18 (by kernel_rfl) (by kernel_rfl) ?_
  simp only [List.take_succ_cons, List.take_zero, List.drop_succ_cons, List.drop_zero]
  repeat (go_big_quiet_step (first | (go_at_call 47; exact Calls.qs (errorIf_c _ _ _)) | (go_at_call 79; exact Calls.qa (HX.out _)) | (go_at_call 80; exact Calls.qa (HN.out _))))
  refine wpQuiet_nil ?_
  intro x
  go_wp2_with fail
  refine (firstError3 _ _ _ _ _ _ _ (by exact heap_alloc_at (by simp [go_sem]))).mono ?_
  rw [HF.out]
  rintro e w' ⟨rfl, rfl⟩
  have hbx : Below w.heap.size w x.val := x.below hb0 hb0.size
  clear q0 p0 p1 p2 p3 tb tc HX HN
  go_wp2
  go_ret
  exact ⟨retI HR.out.symm, Below.aft (hbx.alloc hbx.size _)⟩

set_option maxRecDepth 100000 in
set_option maxHeartbeats 1600000 in
theorem errorOfNode_ok0 (A : Option Addr) (cap : Nat) (ls : List Int) (hls : ls.length ≤ 65536) (N : Option Addr) (capN : Nat) (before : List Nd) (hbe : before.length ≤ 65536) (o : Nat) (wd v : Int)  (B : Option Addr) (bc : Nat) (w : World) (hA : LiesI w A ls) (hN : LiesN w N before) (hB : LiesI w B ([] : List Int)) (ht : TabOps w) (hv : ∀ n ∈ before, isW n.wd = true) (h : isIx (o : Int) 19 = true) (h2 : isW wd = true) (h3 : node3 ls before (⟨(o : Int), wd, ([] : List Int), v⟩ : Nd) = 0) :
    Calls Tryd.prog 51 #[.slice A ls.length cap, .slice N before.length capN, .agg #[.int .i64 (o : Int), .int .i64 wd, .slice B 0 bc, .int .i64 v]] w fun e w' => e = .returned (.int .i64 (nodeE ls before (⟨(o : Int), wd, ([] : List Int), v⟩ : Nd))) ∧ ∃ x : Aft w, w' = x.val := by
  have hz := node3_zero h3
  have HR := Lib.hid (nodeE_4 h h2 h3)
  have HW3 := Lib.hid (show wAt before ([] : List Int) 0 = (0 : Int) ∧ wAt before ([] : List Int) 1 = (0 : Int) ∧ wAt before ([] : List Int) 2 = (0 : Int) from ⟨wAt_out (by simp), wAt_out (by simp), wAt_out (by simp)⟩)
  have bd : ∀ {k : Nat} {n : Nd}, before[k]? = some n → 0 ≤ n.wd ∧ n.wd ≤ 16 := fun hk => by
    have := isW_iff.1 (hv _ (List.mem_of_getElem? hk)); omega
  have ba : 0 ≤ (0 : Int) ∧ (0 : Int) ≤ 16 := by decide
  have bb : 0 ≤ (0 : Int) ∧ (0 : Int) ≤ 16 := by decide
  have bv : (o : Int) = 14 → 0 ≤ v ∧ v ≤ 15 := fun h14 => by
    have hn := hz.2.2
    simp only at hn
    rw [h14] at hn
    have hn' : eIf (!isIx v 16) 2 = 0 := hn
    cases hx : isIx v 16
    · rw [hx] at hn'; cases hn'
    · have := isIx_iff.1 hx; omega
  have HFit := Lib.hid (fun (B' : Option Addr) W => widthsFit_c (o : Int) wd v (0 : Int) (0 : Int) (0 : Int) (isIx_iff.1 h).1 (by have := (isIx_iff.1 h).2; omega) (isW_iff.1 h2).1 (isW_iff.1 h2).2 ba bb bv B' 0 bc W)
  obtain ⟨o0, o1⟩ := isIx_iff.1 h
  obtain ⟨w1, w2⟩ := isW_iff.1 h2
  have hla : ([] : List Int).length ≤ 65536 := by simp
  have HI := Lib.hid (fun w => by have k := isIndex_c (o : Int) 19 w; rw [h] at k; exact k)
  have HW := Lib.hid (fun w => by have k := isWidth_c wd w; rw [h2] at k; exact k)
  have hb0 : Below w.heap.size w ((w.alloc (.cells #[.slice N before.length capN] 23)).alloc (.cells #[.int .i64 (o : Int), .int .i64 wd, .slice B 0 bc, .int .i64 v] 65)) := ((Below.refl _ _).alloc (Nat.le_refl _) _).alloc (by simp) _
  have HX := Lib.hid (fun y : Aft ((w.alloc (.cells #[.slice N before.length capN] 23)).alloc (.cells #[.int .i64 (o : Int), .int .i64 wd, .slice B 0 bc, .int .i64 v] 65)) => errorOfIndexes_c before.length 9 (by decide) B bc ([] : List Int) hla y.val ((hB.below hb0).aft y))
  have HN := Lib.hid (fun y : Aft ((w.alloc (.cells #[.slice N before.length capN] 23)).alloc (.cells #[.int .i64 (o : Int), .int .i64 wd, .slice B 0 bc, .int .i64 v] 65)) => errorOfNumber_c A cap ls hls (o : Int) wd v w1 w2 B 0 bc y.val ((hA.below hb0).aft y))
  have hF : firstE [eIf ((0 : Int) != argN (o : Int)) 10, argsE ([] : List Int) before.length 9, numE ls (o : Int) wd v] = node3 ls before (⟨(o : Int), wd, ([] : List Int), v⟩ : Nd) := rfl
  have HF := Lib.hid hF
  clear hF
  have HTT := Lib.hid ht
  have HAr := Lib.hid (fun (W : World) (hb : Below w.heap.size w W) (hl : w.heap.size < W.heap.size) (hc : W.cell? ⟨w.heap.size, 0, none⟩ = some (.slice N before.length capN)) => argsOf0 (o : Int) wd v B bc w.heap.size N capN before hbe  W hl hc (hN.below hb) (hB.below hb))
  clear hA hN hB ht h h2 hz ba bb bv bd hv
  rw [h3] at HF
  clear h3
  go_enter Tryd.func51, Tryd.ntmps51
  go_wp2_with (first | (go_at_call 66; ((with_reducible refine (HI.out _).mono ?_); rintro e w' ⟨rfl, rfl⟩)) | (go_at_call 48; ((with_reducible refine (HW.out _).mono ?_); rintro e w' ⟨rfl, rfl⟩)))
  have tb := (HTT.out.below hb0).big
  have tc := (HTT.out.below hb0).args o (by omega)
  have r0 : ((w.alloc (.cells #[.slice N before.length capN] 23)).alloc (.cells #[.int .i64 (o : Int), .int .i64 wd, .slice B 0 bc, .int .i64 v] 65)).heap[w.heap.size]? = some (.cells #[.slice N before.length capN] 23) := heap_alloc' (by simp) (heap_alloc_new _ _)
  have r1 : ((w.alloc (.cells #[.slice N before.length capN] 23)).alloc (.cells #[.int .i64 (o : Int), .int .i64 wd, .slice B 0 bc, .int .i64 v] 65)).heap[w.heap.size + 1]? = some (.cells #[.int .i64 (o : Int), .int .i64 wd, .slice B 0 bc, .int .i64 v] 65) := heap_alloc_at (by simp)
  have z0 : w.heap.size < ((w.alloc (.cells #[.slice N before.length capN] 23)).alloc (.cells #[.int .i64 (o : Int), .int .i64 wd, .slice B 0 bc, .int .i64 v] 65)).heap.size := by simp; omega
  have z1 : w.heap.size + 1 < ((w.alloc (.cells #[.slice N before.length capN] 23)).alloc (.cells #[.int .i64 (o : Int), .int .i64 wd, .slice B 0 bc, .int .i64 v] 65)).heap.size := by simp
  generalize ((w.alloc (.cells #[.slice N before.length capN] 23)).alloc (.cells #[.int .i64 (o : Int), .int .i64 wd, .slice B 0 bc, .int .i64 v] 65)) = W0 at *
  have q0 := cell_block (i := 0) r0
  have p0 := cell_block (i := 0) r1
  have p1 := cell_block (i := 1) r1
  have p2 := cell_block (i := 2) r1
  have p3 := cell_block (i := 3) r1
  simp at q0 p0 p1 p2 p3
  refine wp_region_aft_tail 18 (by kernel_rfl) (by kernel_rfl) ?_
  simp only [List.take_succ_cons, List.take_zero, List.drop_succ_cons, List.drop_zero]
  repeat (go_big_quiet_step (first | (go_at_call 47; exact Calls.qs (errorIf_c _ _ _)) | (go_at_call 79; exact Calls.qa (HX.out _)) | (go_at_call 80; exact Calls.qa (HN.out _))))
  refine wpQuiet_nil ?_
  intro x
  go_wp2_with fail
  refine (firstError3 _ _ _ _ _ _ _ (by exact heap_alloc_at (by simp [go_sem]))).mono ?_
  rw [show firstE _ = 0 from HF.out]
  rintro e V ⟨rfl, hV⟩
  have hbx : Below w.heap.size w V := by rw [← hV]; exact (x.below hb0 hb0.size).alloc (x.below hb0 hb0.size).size _
  have y0 : w.heap.size < V.heap.size := by rw [← hV]; exact lt_alloc (x.lt' z0)
  have y1 : w.heap.size + 1 < V.heap.size := by rw [← hV]; exact lt_alloc (x.lt' z1)
  have qv : V.cell? ⟨w.heap.size, 0, none⟩ = some (.slice N before.length capN) := by rw [← hV]; exact cell_alloc (x.lt' z0) (cell_aft x z0 q0)
  have pv0 : V.cell? ⟨w.heap.size + 1, 0, none⟩ = some (.int .i64 o) := by rw [← hV]; exact cell_alloc (x.lt' z1) (cell_aft x z1 p0)
  have pv1 : V.cell? ⟨w.heap.size + 1, 1, none⟩ = some (.int .i64 wd) := by rw [← hV]; exact cell_alloc (x.lt' z1) (cell_aft x z1 p1)
  have pv2 : V.cell? ⟨w.heap.size + 1, 2, none⟩ = some (.slice B 0 bc) := by rw [← hV]; exact cell_alloc (x.lt' z1) (cell_aft x z1 p2)
  have pv3 : V.cell? ⟨w.heap.size + 1, 3, none⟩ = some (.int .i64 v) := by rw [← hV]; exact cell_alloc (x.lt' z1) (cell_aft x z1 p3)
  clear hV q0 p0 p1 p2 p3 tb tc HX HN z0 z1 hb0 HTT
  go_wp2_with fail
  refine (HAr.out _ hbx y0 qv).mono ?_
  rintro e U ⟨rfl, y, hU⟩
  have hbu : Below w.heap.size w U := by rw [hU]; exact y.below hbx hbx.size
  have u1 : w.heap.size + 1 < U.heap.size := by rw [hU]; exact y.lt' y1
  have pu0 : U.cell? ⟨w.heap.size + 1, 0, none⟩ = some (.int .i64 o) := by rw [hU]; exact cell_aft y y1 pv0
  have pu1 : U.cell? ⟨w.heap.size + 1, 1, none⟩ = some (.int .i64 wd) := by rw [hU]; exact cell_aft y y1 pv1
  have pu2 : U.cell? ⟨w.heap.size + 1, 2, none⟩ = some (.slice B 0 bc) := by rw [hU]; exact cell_aft y y1 pv2
  have pu3 : U.cell? ⟨w.heap.size + 1, 3, none⟩ = some (.int .i64 v) := by rw [hU]; exact cell_aft y y1 pv3
  clear hU qv pv0 pv1 pv2 pv3 y0 y1 hbx
  go_wp2_with fail
  refine (HFit.out _ _).mono ?_
  rintro e w' ⟨rfl, y2, rfl⟩
  go_wp2_with fail
  refine (errorIf_c _ _ _).mono ?_
  rintro e w' ⟨rfl, rfl⟩
  go_wp2
  go_ret
  exact ⟨retI (by rw [HR.out]; simp only [HW3.out.1, HW3.out.2.1, HW3.out.2.2]), Below.aft (y2.below (hbu.alloc hbu.size _) (hbu.alloc hbu.size _).size)⟩

set_option maxRecDepth 100000 in
set_option maxHeartbeats 1600000 in
theorem errorOfNode_ok1 (A : Option Addr) (cap : Nat) (ls : List Int) (hls : ls.length ≤ 65536) (N : Option Addr) (capN : Nat) (before : List Nd) (hbe : before.length ≤ 65536) (o : Nat) (wd v : Int) (k0 : Nat) (n0 : Nd) (g0 : before[k0]? = some n0) (B : Option Addr) (bc : Nat) (w : World) (hA : LiesI w A ls) (hN : LiesN w N before) (hB : LiesI w B [(k0 : Int)]) (ht : TabOps w) (hv : ∀ n ∈ before, isW n.wd = true) (h : isIx (o : Int) 19 = true) (h2 : isW wd = true) (h3 : node3 ls before (⟨(o : Int), wd, [(k0 : Int)], v⟩ : Nd) = 0) :
    Calls Tryd.prog 51 #[.slice A ls.length cap, .slice N before.length capN, .agg #[.int .i64 (o : Int), .int .i64 wd, .slice B 1 bc, .int .i64 v]] w fun e w' => e = .returned (.int .i64 (nodeE ls before (⟨(o : Int), wd, [(k0 : Int)], v⟩ : Nd))) ∧ ∃ x : Aft w, w' = x.val := by
  have hz := node3_zero h3
  have HR := Lib.hid (nodeE_4 h h2 h3)
  have HW3 := Lib.hid (show wAt before [(k0 : Int)] 0 = n0.wd ∧ wAt before [(k0 : Int)] 1 = (0 : Int) ∧ wAt before [(k0 : Int)] 2 = (0 : Int) from ⟨wAt_in (by rfl) g0, wAt_out (by simp), wAt_out (by simp)⟩)
  have bd : ∀ {k : Nat} {n : Nd}, before[k]? = some n → 0 ≤ n.wd ∧ n.wd ≤ 16 := fun hk => by
    have := isW_iff.1 (hv _ (List.mem_of_getElem? hk)); omega
  have ba : 0 ≤ n0.wd ∧ n0.wd ≤ 16 := bd g0
  have bb : 0 ≤ (0 : Int) ∧ (0 : Int) ≤ 16 := by decide
  have bv : (o : Int) = 14 → 0 ≤ v ∧ v ≤ 15 := fun h14 => by
    have hn := hz.2.2
    simp only at hn
    rw [h14] at hn
    have hn' : eIf (!isIx v 16) 2 = 0 := hn
    cases hx : isIx v 16
    · rw [hx] at hn'; cases hn'
    · have := isIx_iff.1 hx; omega
  have HFit := Lib.hid (fun (B' : Option Addr) W => widthsFit_c (o : Int) wd v n0.wd (0 : Int) (0 : Int) (isIx_iff.1 h).1 (by have := (isIx_iff.1 h).2; omega) (isW_iff.1 h2).1 (isW_iff.1 h2).2 ba bb bv B' 1 bc W)
  obtain ⟨o0, o1⟩ := isIx_iff.1 h
  obtain ⟨w1, w2⟩ := isW_iff.1 h2
  have hla : [(k0 : Int)].length ≤ 65536 := by simp
  have HI := Lib.hid (fun w => by have k := isIndex_c (o : Int) 19 w; rw [h] at k; exact k)
  have HW := Lib.hid (fun w => by have k := isWidth_c wd w; rw [h2] at k; exact k)
  have hb0 : Below w.heap.size w ((w.alloc (.cells #[.slice N before.length capN] 23)).alloc (.cells #[.int .i64 (o : Int), .int .i64 wd, .slice B 1 bc, .int .i64 v] 65)) := ((Below.refl _ _).alloc (Nat.le_refl _) _).alloc (by simp) _
  have HX := Lib.hid (fun y : Aft ((w.alloc (.cells #[.slice N before.length capN] 23)).alloc (.cells #[.int .i64 (o : Int), .int .i64 wd, .slice B 1 bc, .int .i64 v] 65)) => errorOfIndexes_c before.length 9 (by decide) B bc [(k0 : Int)] hla y.val ((hB.below hb0).aft y))
  have HN := Lib.hid (fun y : Aft ((w.alloc (.cells #[.slice N before.length capN] 23)).alloc (.cells #[.int .i64 (o : Int), .int .i64 wd, .slice B 1 bc, .int .i64 v] 65)) => errorOfNumber_c A cap ls hls (o : Int) wd v w1 w2 B 1 bc y.val ((hA.below hb0).aft y))
  have hF : firstE [eIf ((1 : Int) != argN (o : Int)) 10, argsE [(k0 : Int)] before.length 9, numE ls (o : Int) wd v] = node3 ls before (⟨(o : Int), wd, [(k0 : Int)], v⟩ : Nd) := rfl
  have HF := Lib.hid hF
  clear hF
  have HTT := Lib.hid ht
  have HAr := Lib.hid (fun (W : World) (hb : Below w.heap.size w W) (hl : w.heap.size < W.heap.size) (hc : W.cell? ⟨w.heap.size, 0, none⟩ = some (.slice N before.length capN)) => argsOf1 (o : Int) wd v B bc w.heap.size N capN before hbe k0 n0 g0 W hl hc (hN.below hb) (hB.below hb))
  clear hA hN hB ht h h2 hz ba bb bv bd hv
  rw [h3] at HF
  clear h3
  go_enter Tryd.func51, Tryd.ntmps51
  go_wp2_with (first | (go_at_call 66; ((with_reducible refine (HI.out _).mono ?_); rintro e w' ⟨rfl, rfl⟩)) | (go_at_call 48; ((with_reducible refine (HW.out _).mono ?_); rintro e w' ⟨rfl, rfl⟩)))
  have tb := (HTT.out.below hb0).big
  have tc := (HTT.out.below hb0).args o (by omega)
  have r0 : ((w.alloc (.cells #[.slice N before.length capN] 23)).alloc (.cells #[.int .i64 (o : Int), .int .i64 wd, .slice B 1 bc, .int .i64 v] 65)).heap[w.heap.size]? = some (.cells #[.slice N before.length capN] 23) := heap_alloc' (by simp) (heap_alloc_new _ _)
  have r1 : ((w.alloc (.cells #[.slice N before.length capN] 23)).alloc (.cells #[.int .i64 (o : Int), .int .i64 wd, .slice B 1 bc, .int .i64 v] 65)).heap[w.heap.size + 1]? = some (.cells #[.int .i64 (o : Int), .int .i64 wd, .slice B 1 bc, .int .i64 v] 65) := heap_alloc_at (by simp)
  have z0 : w.heap.size < ((w.alloc (.cells #[.slice N before.length capN] 23)).alloc (.cells #[.int .i64 (o : Int), .int .i64 wd, .slice B 1 bc, .int .i64 v] 65)).heap.size := by simp; omega
  have z1 : w.heap.size + 1 < ((w.alloc (.cells #[.slice N before.length capN] 23)).alloc (.cells #[.int .i64 (o : Int), .int .i64 wd, .slice B 1 bc, .int .i64 v] 65)).heap.size := by simp
  generalize ((w.alloc (.cells #[.slice N before.length capN] 23)).alloc (.cells #[.int .i64 (o : Int), .int .i64 wd, .slice B 1 bc, .int .i64 v] 65)) = W0 at *
  have q0 := cell_block (i := 0) r0
  have p0 := cell_block (i := 0) r1
  have p1 := cell_block (i := 1) r1
  have p2 := cell_block (i := 2) r1
  have p3 := cell_block (i := 3) r1
  simp at q0 p0 p1 p2 p3
  refine wp_region_aft_tail 18 (by kernel_rfl) (by kernel_rfl) ?_
  simp only [List.take_succ_cons, List.take_zero, List.drop_succ_cons, List.drop_zero]
  repeat (go_big_quiet_step (first | (go_at_call 47; exact Calls.qs (errorIf_c _ _ _)) | (go_at_call 79; exact Calls.qa (HX.out _)) | (go_at_call 80; exact Calls.qa (HN.out _))))
  refine wpQuiet_nil ?_
  intro x
  go_wp2_with fail
  refine (firstError3 _ _ _ _ _ _ _ (by exact heap_alloc_at (by simp [go_sem]))).mono ?_
  rw [show firstE _ = 0 from HF.out]
  rintro e V ⟨rfl, hV⟩
  have hbx : Below w.heap.size w V := by rw [← hV]; exact (x.below hb0 hb0.size).alloc (x.below hb0 hb0.size).size _
  have y0 : w.heap.size < V.heap.size := by rw [← hV]; exact lt_alloc (x.lt' z0)
  have y1 : w.heap.size + 1 < V.heap.size := by rw [← hV]; exact lt_alloc (x.lt' z1)
  have qv : V.cell? ⟨w.heap.size, 0, none⟩ = some (.slice N before.length capN) := by rw [← hV]; exact cell_alloc (x.lt' z0) (cell_aft x z0 q0)
  have pv0 : V.cell? ⟨w.heap.size + 1, 0, none⟩ = some (.int .i64 o) := by rw [← hV]; exact cell_alloc (x.lt' z1) (cell_aft x z1 p0)
  have pv1 : V.cell? ⟨w.heap.size + 1, 1, none⟩ = some (.int .i64 wd) := by rw [← hV]; exact cell_alloc (x.lt' z1) (cell_aft x z1 p1)
  have pv2 : V.cell? ⟨w.heap.size + 1, 2, none⟩ = some (.slice B 1 bc) := by rw [← hV]; exact cell_alloc (x.lt' z1) (cell_aft x z1 p2)
  have pv3 : V.cell? ⟨w.heap.size + 1, 3, none⟩ = some (.int .i64 v) := by rw [← hV]; exact cell_alloc (x.lt' z1) (cell_aft x z1 p3)
  clear hV q0 p0 p1 p2 p3 tb tc HX HN z0 z1 hb0 HTT
  go_wp2_with fail
  refine (HAr.out _ hbx y0 qv).mono ?_
  rintro e U ⟨rfl, y, hU⟩
  have hbu : Below w.heap.size w U := by rw [hU]; exact y.below hbx hbx.size
  have u1 : w.heap.size + 1 < U.heap.size := by rw [hU]; exact y.lt' y1
  have pu0 : U.cell? ⟨w.heap.size + 1, 0, none⟩ = some (.int .i64 o) := by rw [hU]; exact cell_aft y y1 pv0
  have pu1 : U.cell? ⟨w.heap.size + 1, 1, none⟩ = some (.int .i64 wd) := by rw [hU]; exact cell_aft y y1 pv1
  have pu2 : U.cell? ⟨w.heap.size + 1, 2, none⟩ = some (.slice B 1 bc) := by rw [hU]; exact cell_aft y y1 pv2
  have pu3 : U.cell? ⟨w.heap.size + 1, 3, none⟩ = some (.int .i64 v) := by rw [hU]; exact cell_aft y y1 pv3
  clear hU qv pv0 pv1 pv2 pv3 y0 y1 hbx
  go_wp2_with fail
  refine (HFit.out _ _).mono ?_
  rintro e w' ⟨rfl, y2, rfl⟩
  go_wp2_with fail
  refine (errorIf_c _ _ _).mono ?_
  rintro e w' ⟨rfl, rfl⟩
  go_wp2
  go_ret
  exact ⟨retI (by rw [HR.out]; simp only [HW3.out.1, HW3.out.2.1, HW3.out.2.2]), Below.aft (y2.below (hbu.alloc hbu.size _) (hbu.alloc hbu.size _).size)⟩

set_option maxRecDepth 100000 in
set_option maxHeartbeats 1600000 in
theorem errorOfNode_ok2 (A : Option Addr) (cap : Nat) (ls : List Int) (hls : ls.length ≤ 65536) (N : Option Addr) (capN : Nat) (before : List Nd) (hbe : before.length ≤ 65536) (o : Nat) (wd v : Int) (k0 : Nat) (n0 : Nd) (g0 : before[k0]? = some n0) (k1 : Nat) (n1 : Nd) (g1 : before[k1]? = some n1) (B : Option Addr) (bc : Nat) (w : World) (hA : LiesI w A ls) (hN : LiesN w N before) (hB : LiesI w B [(k0 : Int), (k1 : Int)]) (ht : TabOps w) (hv : ∀ n ∈ before, isW n.wd = true) (h : isIx (o : Int) 19 = true) (h2 : isW wd = true) (h3 : node3 ls before (⟨(o : Int), wd, [(k0 : Int), (k1 : Int)], v⟩ : Nd) = 0) :
    Calls Tryd.prog 51 #[.slice A ls.length cap, .slice N before.length capN, .agg #[.int .i64 (o : Int), .int .i64 wd, .slice B 2 bc, .int .i64 v]] w fun e w' => e = .returned (.int .i64 (nodeE ls before (⟨(o : Int), wd, [(k0 : Int), (k1 : Int)], v⟩ : Nd))) ∧ ∃ x : Aft w, w' = x.val := by
  have hz := node3_zero h3
  have HR := Lib.hid (nodeE_4 h h2 h3)
  have HW3 := Lib.hid (show wAt before [(k0 : Int), (k1 : Int)] 0 = n0.wd ∧ wAt before [(k0 : Int), (k1 : Int)] 1 = n1.wd ∧ wAt before [(k0 : Int), (k1 : Int)] 2 = (0 : Int) from ⟨wAt_in (by rfl) g0, wAt_in (by rfl) g1, wAt_out (by simp)⟩)
  have bd : ∀ {k : Nat} {n : Nd}, before[k]? = some n → 0 ≤ n.wd ∧ n.wd ≤ 16 := fun hk => by
    have := isW_iff.1 (hv _ (List.mem_of_getElem? hk)); omega
  have ba : 0 ≤ n0.wd ∧ n0.wd ≤ 16 := bd g0
  have bb : 0 ≤ n1.wd ∧ n1.wd ≤ 16 := bd g1
  have bv : (o : Int) = 14 → 0 ≤ v ∧ v ≤ 15 := fun h14 => by
    have hn := hz.2.2
    simp only at hn
    rw [h14] at hn
    have hn' : eIf (!isIx v 16) 2 = 0 := hn
    cases hx : isIx v 16
    · rw [hx] at hn'; cases hn'
    · have := isIx_iff.1 hx; omega
  have HFit := Lib.hid (fun (B' : Option Addr) W => widthsFit_c (o : Int) wd v n0.wd n1.wd (0 : Int) (isIx_iff.1 h).1 (by have := (isIx_iff.1 h).2; omega) (isW_iff.1 h2).1 (isW_iff.1 h2).2 ba bb bv B' 2 bc W)
  obtain ⟨o0, o1⟩ := isIx_iff.1 h
  obtain ⟨w1, w2⟩ := isW_iff.1 h2
  have hla : [(k0 : Int), (k1 : Int)].length ≤ 65536 := by simp
  have HI := Lib.hid (fun w => by have k := isIndex_c (o : Int) 19 w; rw [h] at k; exact k)
  have HW := Lib.hid (fun w => by have k := isWidth_c wd w; rw [h2] at k; exact k)
  have hb0 : Below w.heap.size w ((w.alloc (.cells #[.slice N before.length capN] 23)).alloc (.cells #[.int .i64 (o : Int), .int .i64 wd, .slice B 2 bc, .int .i64 v] 65)) := ((Below.refl _ _).alloc (Nat.le_refl _) _).alloc (by simp) _
  have HX := Lib.hid (fun y : Aft ((w.alloc (.cells #[.slice N before.length capN] 23)).alloc (.cells #[.int .i64 (o : Int), .int .i64 wd, .slice B 2 bc, .int .i64 v] 65)) => errorOfIndexes_c before.length 9 (by decide) B bc [(k0 : Int), (k1 : Int)] hla y.val ((hB.below hb0).aft y))
  have HN := Lib.hid (fun y : Aft ((w.alloc (.cells #[.slice N before.length capN] 23)).alloc (.cells #[.int .i64 (o : Int), .int .i64 wd, .slice B 2 bc, .int .i64 v] 65)) => errorOfNumber_c A cap ls hls (o : Int) wd v w1 w2 B 2 bc y.val ((hA.below hb0).aft y))
  have hF : firstE [eIf ((2 : Int) != argN (o : Int)) 10, argsE [(k0 : Int), (k1 : Int)] before.length 9, numE ls (o : Int) wd v] = node3 ls before (⟨(o : Int), wd, [(k0 : Int), (k1 : Int)], v⟩ : Nd) := rfl
  have HF := Lib.hid hF
  clear hF
  have HTT := Lib.hid ht
  have HAr := Lib.hid (fun (W : World) (hb : Below w.heap.size w W) (hl : w.heap.size < W.heap.size) (hc : W.cell? ⟨w.heap.size, 0, none⟩ = some (.slice N before.length capN)) => argsOf2 (o : Int) wd v B bc w.heap.size N capN before hbe k0 n0 g0 k1 n1 g1 W hl hc (hN.below hb) (hB.below hb))
  clear hA hN hB ht h h2 hz ba bb bv bd hv
  rw [h3] at HF
  clear h3
  go_enter Tryd.func51, Tryd.ntmps51
  go_wp2_with (first | (go_at_call 66; ((with_reducible refine (HI.out _).mono ?_); rintro e w' ⟨rfl, rfl⟩)) | (go_at_call 48; ((with_reducible refine (HW.out _).mono ?_); rintro e w' ⟨rfl, rfl⟩)))
  have tb := (HTT.out.below hb0).big
  have tc := (HTT.out.below hb0).args o (by omega)
  have r0 : ((w.alloc (.cells #[.slice N before.length capN] 23)).alloc (.cells #[.int .i64 (o : Int), .int .i64 wd, .slice B 2 bc, .int .i64 v] 65)).heap[w.heap.size]? = some (.cells #[.slice N before.length capN] 23) := heap_alloc' (by simp) (heap_alloc_new _ _)
  have r1 : ((w.alloc (.cells #[.slice N before.length capN] 23)).alloc (.cells #[.int .i64 (o : Int), .int .i64 wd, .slice B 2 bc, .int .i64 v] 65)).heap[w.heap.size + 1]? = some (.cells #[.int .i64 (o : Int), .int .i64 wd, .slice B 2 bc, .int .i64 v] 65) := heap_alloc_at (by simp)
  have z0 : w.heap.size < ((w.alloc (.cells #[.slice N before.length capN] 23)).alloc (.cells #[.int .i64 (o : Int), .int .i64 wd, .slice B 2 bc, .int .i64 v] 65)).heap.size := by simp; omega
  have z1 : w.heap.size + 1 < ((w.alloc (.cells #[.slice N before.length capN] 23)).alloc (.cells #[.int .i64 (o : Int), .int .i64 wd, .slice B 2 bc, .int .i64 v] 65)).heap.size := by simp
  generalize ((w.alloc (.cells #[.slice N before.length capN] 23)).alloc (.cells #[.int .i64 (o : Int), .int .i64 wd, .slice B 2 bc, .int .i64 v] 65)) = W0 at *
  have q0 := cell_block (i := 0) r0
  have p0 := cell_block (i := 0) r1
  have p1 := cell_block (i := 1) r1
  have p2 := cell_block (i := 2) r1
  have p3 := cell_block (i := 3) r1
  simp at q0 p0 p1 p2 p3
  refine wp_region_aft_tail 18 (by kernel_rfl) (by kernel_rfl) ?_
  simp only [List.take_succ_cons, List.take_zero, List.drop_succ_cons, List.drop_zero]
  repeat (go_big_quiet_step (first | (go_at_call 47; exact Calls.qs (errorIf_c _ _ _)) | (go_at_call 79; exact Calls.qa (HX.out _)) | (go_at_call 80; exact Calls.qa (HN.out _))))
  refine wpQuiet_nil ?_
  intro x
  go_wp2_with fail
  refine (firstError3 _ _ _ _ _ _ _ (by exact heap_alloc_at (by simp [go_sem]))).mono ?_
  rw [show firstE _ = 0 from HF.out]
  rintro e V ⟨rfl, hV⟩
  have hbx : Below w.heap.size w V := by rw [← hV]; exact (x.below hb0 hb0.size).alloc (x.below hb0 hb0.size).size _
  have y0 : w.heap.size < V.heap.size := by rw [← hV]; exact lt_alloc (x.lt' z0)
  have y1 : w.heap.size + 1 < V.heap.size := by rw [← hV]; exact lt_alloc (x.lt' z1)
  have qv : V.cell? ⟨w.heap.size, 0, none⟩ = some (.slice N before.length capN) := by rw [← hV]; exact cell_alloc (x.lt' z0) (cell_aft x z0 q0)
  have pv0 : V.cell? ⟨w.heap.size + 1, 0, none⟩ = some (.int .i64 o) := by rw [← hV]; exact cell_alloc (x.lt' z1) (cell_aft x z1 p0)
  have pv1 : V.cell? ⟨w.heap.size + 1, 1, none⟩ = some (.int .i64 wd) := by rw [← hV]; exact cell_alloc (x.lt' z1) (cell_aft x z1 p1)
  have pv2 : V.cell? ⟨w.heap.size + 1, 2, none⟩ = some (.slice B 2 bc) := by rw [← hV]; exact cell_alloc (x.lt' z1) (cell_aft x z1 p2)
  have pv3 : V.cell? ⟨w.heap.size + 1, 3, none⟩ = some (.int .i64 v) := by rw [← hV]; exact cell_alloc (x.lt' z1) (cell_aft x z1 p3)
  clear hV q0 p0 p1 p2 p3 tb tc HX HN z0 z1 hb0 HTT
  go_wp2_with fail
  refine (HAr.out _ hbx y0 qv).mono ?_
  rintro e U ⟨rfl, y, hU⟩
  have hbu : Below w.heap.size w U := by rw [hU]; exact y.below hbx hbx.size
  have u1 : w.heap.size + 1 < U.heap.size := by rw [hU]; exact y.lt' y1
  have pu0 : U.cell? ⟨w.heap.size + 1, 0, none⟩ = some (.int .i64 o) := by rw [hU]; exact cell_aft y y1 pv0
  have pu1 : U.cell? ⟨w.heap.size + 1, 1, none⟩ = some (.int .i64 wd) := by rw [hU]; exact cell_aft y y1 pv1
  have pu2 : U.cell? ⟨w.heap.size + 1, 2, none⟩ = some (.slice B 2 bc) := by rw [hU]; exact cell_aft y y1 pv2
  have pu3 : U.cell? ⟨w.heap.size + 1, 3, none⟩ = some (.int .i64 v) := by rw [hU]; exact cell_aft y y1 pv3
  clear hU qv pv0 pv1 pv2 pv3 y0 y1 hbx
  go_wp2_with fail
  refine (HFit.out _ _).mono ?_
  rintro e w' ⟨rfl, y2, rfl⟩
  go_wp2_with fail
  refine (errorIf_c _ _ _).mono ?_
  rintro e w' ⟨rfl, rfl⟩
  go_wp2
  go_ret
  exact ⟨retI (by rw [HR.out]; simp only [HW3.out.1, HW3.out.2.1, HW3.out.2.2]), Below.aft (y2.below (hbu.alloc hbu.size _) (hbu.alloc hbu.size _).size)⟩

set_option maxRecDepth 100000 in
set_option maxHeartbeats 1600000 in
theorem errorOfNode_ok3 (A : Option Addr) (cap : Nat) (ls : List Int) (hls : ls.length ≤ 65536) (N : Option Addr) (capN : Nat) (before : List Nd) (hbe : before.length ≤ 65536) (o : Nat) (wd v : Int) (k0 : Nat) (n0 : Nd) (g0 : before[k0]? = some n0) (k1 : Nat) (n1 : Nd) (g1 : before[k1]? = some n1) (k2 : Nat) (n2 : Nd) (g2 : before[k2]? = some n2) (B : Option Addr) (bc : Nat) (w : World) (hA : LiesI w A ls) (hN : LiesN w N before) (hB : LiesI w B [(k0 : Int), (k1 : Int), (k2 : Int)]) (ht : TabOps w) (hv : ∀ n ∈ before, isW n.wd = true) (h : isIx (o : Int) 19 = true) (h2 : isW wd = true) (h3 : node3 ls before (⟨(o : Int), wd, [(k0 : Int), (k1 : Int), (k2 : Int)], v⟩ : Nd) = 0) :
    Calls Tryd.prog 51 #[.slice A ls.length cap, .slice N before.length capN, .agg #[.int .i64 (o : Int), .int .i64 wd, .slice B 3 bc, .int .i64 v]] w fun e w' => e = .returned (.int .i64 (nodeE ls before (⟨(o : Int), wd, [(k0 : Int), (k1 : Int), (k2 : Int)], v⟩ : Nd))) ∧ ∃ x : Aft w, w' = x.val := by
  have hz := node3_zero h3
  have HR := Lib.hid (nodeE_4 h h2 h3)
  have HW3 := Lib.hid (show wAt before [(k0 : Int), (k1 : Int), (k2 : Int)] 0 = n0.wd ∧ wAt before [(k0 : Int), (k1 : Int), (k2 : Int)] 1 = n1.wd ∧ wAt before [(k0 : Int), (k1 : Int), (k2 : Int)] 2 = n2.wd from ⟨wAt_in (by rfl) g0, wAt_in (by rfl) g1, wAt_in (by rfl) g2⟩)
  have bd : ∀ {k : Nat} {n : Nd}, before[k]? = some n → 0 ≤ n.wd ∧ n.wd ≤ 16 := fun hk => by
    have := isW_iff.1 (hv _ (List.mem_of_getElem? hk)); omega
  have ba : 0 ≤ n0.wd ∧ n0.wd ≤ 16 := bd g0
  have bb : 0 ≤ n1.wd ∧ n1.wd ≤ 16 := bd g1
  have bv : (o : Int) = 14 → 0 ≤ v ∧ v ≤ 15 := fun h14 => by
    have hn := hz.2.2
    simp only at hn
    rw [h14] at hn
    have hn' : eIf (!isIx v 16) 2 = 0 := hn
    cases hx : isIx v 16
    · rw [hx] at hn'; cases hn'
    · have := isIx_iff.1 hx; omega
  have HFit := Lib.hid (fun (B' : Option Addr) W => widthsFit_c (o : Int) wd v n0.wd n1.wd n2.wd (isIx_iff.1 h).1 (by have := (isIx_iff.1 h).2; omega) (isW_iff.1 h2).1 (isW_iff.1 h2).2 ba bb bv B' 3 bc W)
  obtain ⟨o0, o1⟩ := isIx_iff.1 h
  obtain ⟨w1, w2⟩ := isW_iff.1 h2
  have hla : [(k0 : Int), (k1 : Int), (k2 : Int)].length ≤ 65536 := by simp
  have HI := Lib.hid (fun w => by have k := isIndex_c (o : Int) 19 w; rw [h] at k; exact k)
  have HW := Lib.hid (fun w => by have k := isWidth_c wd w; rw [h2] at k; exact k)
  have hb0 : Below w.heap.size w ((w.alloc (.cells #[.slice N before.length capN] 23)).alloc (.cells #[.int .i64 (o : Int), .int .i64 wd, .slice B 3 bc, .int .i64 v] 65)) := ((Below.refl _ _).alloc (Nat.le_refl _) _).alloc (by simp) _
  have HX := Lib.hid (fun y : Aft ((w.alloc (.cells #[.slice N before.length capN] 23)).alloc (.cells #[.int .i64 (o : Int), .int .i64 wd, .slice B 3 bc, .int .i64 v] 65)) => errorOfIndexes_c before.length 9 (by decide) B bc [(k0 : Int), (k1 : Int), (k2 : Int)] hla y.val ((hB.below hb0).aft y))
  have HN := Lib.hid (fun y : Aft ((w.alloc (.cells #[.slice N before.length capN] 23)).alloc (.cells #[.int .i64 (o : Int), .int .i64 wd, .slice B 3 bc, .int .i64 v] 65)) => errorOfNumber_c A cap ls hls (o : Int) wd v w1 w2 B 3 bc y.val ((hA.below hb0).aft y))
  have hF : firstE [eIf ((3 : Int) != argN (o : Int)) 10, argsE [(k0 : Int), (k1 : Int), (k2 : Int)] before.length 9, numE ls (o : Int) wd v] = node3 ls before (⟨(o : Int), wd, [(k0 : Int), (k1 : Int), (k2 : Int)], v⟩ : Nd) := rfl
  have HF := Lib.hid hF
  clear hF
  have HTT := Lib.hid ht
  have HAr := Lib.hid (fun (W : World) (hb : Below w.heap.size w W) (hl : w.heap.size < W.heap.size) (hc : W.cell? ⟨w.heap.size, 0, none⟩ = some (.slice N before.length capN)) => argsOf3 (o : Int) wd v B bc w.heap.size N capN before hbe k0 n0 g0 k1 n1 g1 k2 n2 g2 W hl hc (hN.below hb) (hB.below hb))
  clear hA hN hB ht h h2 hz ba bb bv bd hv
  rw [h3] at HF
  clear h3
  go_enter Tryd.func51, Tryd.ntmps51
  go_wp2_with (first | (go_at_call 66; ((with_reducible refine (HI.out _).mono ?_); rintro e w' ⟨rfl, rfl⟩)) | (go_at_call 48; ((with_reducible refine (HW.out _).mono ?_); rintro e w' ⟨rfl, rfl⟩)))
  have tb := (HTT.out.below hb0).big
  have tc := (HTT.out.below hb0).args o (by omega)
  have r0 : ((w.alloc (.cells #[.slice N before.length capN] 23)).alloc (.cells #[.int .i64 (o : Int), .int .i64 wd, .slice B 3 bc, .int .i64 v] 65)).heap[w.heap.size]? = some (.cells #[.slice N before.length capN] 23) := heap_alloc' (by simp) (heap_alloc_new _ _)
  have r1 : ((w.alloc (.cells #[.slice N before.length capN] 23)).alloc (.cells #[.int .i64 (o : Int), .int .i64 wd, .slice B 3 bc, .int .i64 v] 65)).heap[w.heap.size + 1]? = some (.cells #[.int .i64 (o : Int), .int .i64 wd, .slice B 3 bc, .int .i64 v] 65) := heap_alloc_at (by simp)
  have z0 : w.heap.size < ((w.alloc (.cells #[.slice N before.length capN] 23)).alloc (.cells #[.int .i64 (o : Int), .int .i64 wd, .slice B 3 bc, .int .i64 v] 65)).heap.size := by simp; omega
  have z1 : w.heap.size + 1 < ((w.alloc (.cells #[.slice N before.length capN] 23)).alloc (.cells #[.int .i64 (o : Int), .int .i64 wd, .slice B 3 bc, .int .i64 v] 65)).heap.size := by simp
  generalize ((w.alloc (.cells #[.slice N before.length capN] 23)).alloc (.cells #[.int .i64 (o : Int), .int .i64 wd, .slice B 3 bc, .int .i64 v] 65)) = W0 at *
  have q0 := cell_block (i := 0) r0
  have p0 := cell_block (i := 0) r1
  have p1 := cell_block (i := 1) r1
  have p2 := cell_block (i := 2) r1
  have p3 := cell_block (i := 3) r1
  simp at q0 p0 p1 p2 p3
  refine wp_region_aft_tail 18 (by kernel_rfl) (by kernel_rfl) ?_
  simp only [List.take_succ_cons, List.take_zero, List.drop_succ_cons, List.drop_zero]
  repeat (go_big_quiet_step (first | (go_at_call 47; exact Calls.qs (errorIf_c _ _ _)) | (go_at_call 79; exact Calls.qa (HX.out _)) | (go_at_call 80; exact Calls.qa (HN.out _))))
  refine wpQuiet_nil ?_
  intro x
  go_wp2_with fail
  refine (firstError3 _ _ _ _ _ _ _ (by exact heap_alloc_at (by simp [go_sem]))).mono ?_
  rw [show firstE _ = 0 from HF.out]
  rintro e V ⟨rfl, hV⟩
  have hbx : Below w.heap.size w V := by rw [← hV]; exact (x.below hb0 hb0.size).alloc (x.below hb0 hb0.size).size _
  have y0 : w.heap.size < V.heap.size := by rw [← hV]; exact lt_alloc (x.lt' z0)
  have y1 : w.heap.size + 1 < V.heap.size := by rw [← hV]; exact lt_alloc (x.lt' z1)
  have qv : V.cell? ⟨w.heap.size, 0, none⟩ = some (.slice N before.length capN) := by rw [← hV]; exact cell_alloc (x.lt' z0) (cell_aft x z0 q0)
  have pv0 : V.cell? ⟨w.heap.size + 1, 0, none⟩ = some (.int .i64 o) := by rw [← hV]; exact cell_alloc (x.lt' z1) (cell_aft x z1 p0)
  have pv1 : V.cell? ⟨w.heap.size + 1, 1, none⟩ = some (.int .i64 wd) := by rw [← hV]; exact cell_alloc (x.lt' z1) (cell_aft x z1 p1)
  have pv2 : V.cell? ⟨w.heap.size + 1, 2, none⟩ = some (.slice B 3 bc) := by rw [← hV]; exact cell_alloc (x.lt' z1) (cell_aft x z1 p2)
  have pv3 : V.cell? ⟨w.heap.size + 1, 3, none⟩ = some (.int .i64 v) := by rw [← hV]; exact cell_alloc (x.lt' z1) (cell_aft x z1 p3)
  clear hV q0 p0 p1 p2 p3 tb tc HX HN z0 z1 hb0 HTT
  go_wp2_with fail
  refine (HAr.out _ hbx y0 qv).mono ?_
  rintro e U ⟨rfl, y, hU⟩
  have hbu : Below w.heap.size w U := by rw [hU]; exact y.below hbx hbx.size
  have u1 : w.heap.size + 1 < U.heap.size := by rw [hU]; exact y.lt' y1
  have pu0 : U.cell? ⟨w.heap.size + 1, 0, none⟩ = some (.int .i64 o) := by rw [hU]; exact cell_aft y y1 pv0
  have pu1 : U.cell? ⟨w.heap.size + 1, 1, none⟩ = some (.int .i64 wd) := by rw [hU]; exact cell_aft y y1 pv1
  have pu2 : U.cell? ⟨w.heap.size + 1, 2, none⟩ = some (.slice B 3 bc) := by rw [hU]; exact cell_aft y y1 pv2
  have pu3 : U.cell? ⟨w.heap.size + 1, 3, none⟩ = some (.int .i64 v) := by rw [hU]; exact cell_aft y y1 pv3
  clear hU qv pv0 pv1 pv2 pv3 y0 y1 hbx
  go_wp2_with fail
  refine (HFit.out _ _).mono ?_
  rintro e w' ⟨rfl, y2, rfl⟩
  go_wp2_with fail
  refine (errorIf_c _ _ _).mono ?_
  rintro e w' ⟨rfl, rfl⟩
  go_wp2
  go_ret
  exact ⟨retI (by rw [HR.out]; simp only [HW3.out.1, HW3.out.2.1, HW3.out.2.2]), Below.aft (y2.below (hbu.alloc hbu.size _) (hbu.alloc hbu.size _).size)⟩

end Go.Proofs.YtkdonapgonegkaaDoor
