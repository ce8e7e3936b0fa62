/-
  Contracts of chapter 2 (graph): the error of a node.
-/
import Derived.Test.YtkdonapgonegkaaGreatDoorZa
import Derived.Deep.AppendLies
import Derived.Deep.LoopGhost
import Derived.OwnWalk
set_option linter.unusedSimpArgs false
set_option linter.unusedVariables false
namespace Go.Proofs.YtkdonapgonegkaaGreatDoor
open Go.RowKit Go.BigFrame

/-- The names of the operations, and whether they have a number. -/
def opL (o : Nat) : List UInt8 := ([[99, 111, 110, 115, 116], [108, 101, 97, 102], [110, 111, 116], [97, 110, 100], [111, 114], [120, 111, 114], [97, 100, 100], [115, 117, 98], [109, 117, 108], [101, 113], [108, 116], [115, 108, 116], [109, 117, 120], [106, 111, 105, 110], [115, 108, 105, 99, 101], [122, 101, 120, 116], [115, 101, 120, 116], [115, 104, 108], [115, 104, 114]] : List (List UInt8)).getD o [63]
def opN (o : Nat) : Bool := o == 0 || o == 1 || o == 14
/-- What the program's table of operations says of them. -/
structure TabOps (w : World) : Prop where
  args : ∀ o : Nat, o < 19 → w.cell? ⟨0, o * 3 + 1, none⟩ = some (.int .i64 (argN o))
  names : ∀ o : Nat, o < 19 → w.cell? ⟨0, o * 3, none⟩ = some (.string ⟨(opL o).toArray⟩)
  nums : ∀ o : Nat, o < 19 → w.cell? ⟨0, o * 3 + 2, none⟩ = some (.bool (opN o))
  big : 0 < w.heap.size
theorem TabOps.below {w W : World} (h : TabOps w) (hb : Below w.heap.size w W) : TabOps W where
  args o ho := (hb.cell (p := ⟨0, o * 3 + 1, none⟩) h.big).trans (h.args o ho)
  names o ho := (hb.cell (p := ⟨0, o * 3, none⟩) h.big).trans (h.names o ho)
  nums o ho := (hb.cell (p := ⟨0, o * 3 + 2, none⟩) h.big).trans (h.nums o ho)
  big := Nat.lt_of_lt_of_le h.big hb.size
def node3 (ls : List Int) (before : List Nd) (n : Nd) : Int := firstE [eIf ((n.args.length : Int) != argN n.op) 10, argsE n.args before.length 9, numE ls n.op n.wd n.v]
theorem nodeE_15 {ls : List Int} {before : List Nd} {n : Nd} (h : isIx n.op 19 = false) : nodeE ls before n = 15 := by unfold nodeE; rw [h]; rfl
theorem nodeE_2 {ls : List Int} {before : List Nd} {n : Nd} (h : isIx n.op 19 = true) (h2 : isW n.wd = false) : nodeE ls before n = 2 := by unfold nodeE; rw [h, h2]; rfl
theorem nodeE_3 {ls : List Int} {before : List Nd} {n : Nd} (h : isIx n.op 19 = true) (h2 : isW n.wd = true) (h3 : ¬ node3 ls before n = 0) : nodeE ls before n = node3 ls before n := by
  unfold nodeE; rw [h, h2, if_pos rfl, if_pos rfl]; exact if_neg h3
theorem nodeE_4 {ls : List Int} {before : List Nd} {n : Nd} (h : isIx n.op 19 = true) (h2 : isW n.wd = true) (h3 : node3 ls before n = 0) : nodeE ls before n = eIf (!fitW n.op n.wd n.v (wAt before n.args 0) (wAt before n.args 1) (wAt before n.args 2)) 25 := by
  unfold nodeE; rw [h, h2, if_pos rfl, if_pos rfl]; exact if_pos h3
theorem node3_zero {ls : List Int} {before : List Nd} {n : Nd} (h : node3 ls before n = 0) : (n.args.length : Int) = argN n.op ∧ (∀ i ∈ n.args, isIx i before.length = true) ∧ numE ls n.op n.wd n.v = 0 := by
  unfold node3 firstE at h
  by_cases h1 : eIf ((n.args.length : Int) != argN n.op) 10 = 0
  · rw [if_pos h1] at h
    unfold firstE at h
    by_cases h2 : argsE n.args before.length 9 = 0
    · rw [if_pos h2, firstE_one] at h
      refine ⟨?_, ?_, h⟩
      · by_cases k : (n.args.length : Int) = argN n.op
        · exact k
        · have : ((n.args.length : Int) != argN n.op) = true := by simpa using k
          rw [this] at h1; cases h1
      · unfold argsE at h2
        by_cases k : n.args.all (fun i => isIx i before.length) = true
        · exact List.all_eq_true.1 k
        · rw [if_neg k] at h2; cases h2
    · rw [if_neg h2] at h; exact absurd h h2
  · rw [if_neg h1] at h; exact absurd h h1
theorem argN_le (op : Int) : argN op ≤ 3 := by unfold argN; split <;> (try split) <;> (try split) <;> decide

set_option maxRecDepth 100000 in
set_option maxHeartbeats 1600000 in
theorem errorOfNode_15 (A : Option Addr) (cap : Nat) (ls : List Int) (hls : ls.length ≤ 65536) (N : Option Addr) (capN : Nat) (before : List Nd) (hbe : before.length ≤ 65536) (nd : Nd) (hla : nd.args.length ≤ 65536) (B : Option Addr) (bc : Nat) (w : World) (hA : LiesI w A ls) (hN : LiesN w N before) (hB : LiesI w B nd.args) (ht : TabOps w) (h : isIx nd.op 19 = false) :
    Calls Tryz.prog 106 #[.slice A ls.length cap, .slice N before.length capN, .agg #[.int .i64 nd.op, .int .i64 nd.wd, .slice B nd.args.length bc, .int .i64 nd.v]] w fun e w' => e = .returned (.int .i64 (nodeE ls before nd)) ∧ ∃ x : Aft w, w' = x.val := by
  have HI := Lib.hid (fun w => by have k := isIndex_c nd.op 19 w; rw [h] at k; exact k)
  have HR := Lib.hid (nodeE_15 (ls := ls) (before := before) h)
  clear hA hN hB ht h
  go_enter Tryz.func106, Tryz.ntmps106
  go_wp2_with (go_at_call 59; ((with_reducible refine (HI.out _).mono ?_); rintro e w' ⟨rfl, rfl⟩))
  go_ret
  exact ⟨retI HR.out.symm, Below.aft (by (repeat' (first | (with_reducible exact Below.refl _ _) | (with_reducible assumption) | (with_reducible refine Below.alloc ?_ ?_ _) | (with_reducible refine Below.drew ?_) | (with_reducible refine Aft.below _ ?_ ?_) | (with_reducible refine Below.setCell_new ?_ ?_ _ _) | (with_reducible exact Nat.le_refl _) | (with_reducible refine Aft.le _ ?_) | (with_reducible refine le_alloc ?_) | (with_reducible refine le_drew ?_) | (with_reducible refine le_setCell ?_) | omega)))⟩

set_option maxRecDepth 100000 in
set_option maxHeartbeats 1600000 in
theorem errorOfNode_2 (A : Option Addr) (cap : Nat) (ls : List Int) (hls : ls.length ≤ 65536) (N : Option Addr) (capN : Nat) (before : List Nd) (hbe : before.length ≤ 65536) (nd : Nd) (hla : nd.args.length ≤ 65536) (B : Option Addr) (bc : Nat) (w : World) (hA : LiesI w A ls) (hN : LiesN w N before) (hB : LiesI w B nd.args) (ht : TabOps w) (h : isIx nd.op 19 = true) (h2 : isW nd.wd = false) :
    Calls Tryz.prog 106 #[.slice A ls.length cap, .slice N before.length capN, .agg #[.int .i64 nd.op, .int .i64 nd.wd, .slice B nd.args.length bc, .int .i64 nd.v]] w fun e w' => e = .returned (.int .i64 (nodeE ls before nd)) ∧ ∃ x : Aft w, w' = x.val := by
  have HI := Lib.hid (fun w => by have k := isIndex_c nd.op 19 w; rw [h] at k; exact k)
  have HW := Lib.hid (fun w => by have k := isWidth_c nd.wd w; rw [h2] at k; exact k)
  have HR := Lib.hid (nodeE_2 (ls := ls) (before := before) h h2)
  clear hA hN hB ht h h2
  go_enter Tryz.func106, Tryz.ntmps106
  go_wp2_with (first | (go_at_call 59; ((with_reducible refine (HI.out _).mono ?_); rintro e w' ⟨rfl, rfl⟩)) | (go_at_call 103; ((with_reducible refine (HW.out _).mono ?_); rintro e w' ⟨rfl, rfl⟩)))
  go_ret
  exact ⟨retI HR.out.symm, Below.aft (by (repeat' (first | (with_reducible exact Below.refl _ _) | (with_reducible assumption) | (with_reducible refine Below.alloc ?_ ?_ _) | (with_reducible refine Below.drew ?_) | (with_reducible refine Aft.below _ ?_ ?_) | (with_reducible refine Below.setCell_new ?_ ?_ _ _) | (with_reducible exact Nat.le_refl _) | (with_reducible refine Aft.le _ ?_) | (with_reducible refine le_alloc ?_) | (with_reducible refine le_drew ?_) | (with_reducible refine le_setCell ?_) | omega)))⟩

set_option maxRecDepth 100000 in
set_option maxHeartbeats 1600000 in
theorem errorOfNode_3 (A : Option Addr) (cap : Nat) (ls : List Int) (hls : ls.length ≤ 65536) (N : Option Addr) (capN : Nat) (before : List Nd) (hbe : before.length ≤ 65536) (nd : Nd) (hla : nd.args.length ≤ 65536) (B : Option Addr) (bc : Nat) (w : World) (hA : LiesI w A ls) (hN : LiesN w N before) (hB : LiesI w B nd.args) (ht : TabOps w) (h : isIx nd.op 19 = true) (h2 : isW nd.wd = true) (h3 : ¬ node3 ls before nd = 0) :
    Calls Tryz.prog 106 #[.slice A ls.length cap, .slice N before.length capN, .agg #[.int .i64 nd.op, .int .i64 nd.wd, .slice B nd.args.length bc, .int .i64 nd.v]] w fun e w' => e = .returned (.int .i64 (nodeE ls before nd)) ∧ ∃ x : Aft w, w' = x.val := by
  obtain ⟨op, wd, args, v⟩ := nd
  simp only at *
  obtain ⟨o0, o1⟩ := isIx_iff.1 h
  obtain ⟨w1, w2⟩ := isW_iff.1 h2
  obtain ⟨o, rfl⟩ := Int.eq_ofNat_of_zero_le o0
  have HI := Lib.hid (fun w => by have k := isIndex_c (o : Int) 19 w; rw [h] at k; exact k)
  have HW := Lib.hid (fun w => by have k := isWidth_c wd w; rw [h2] at k; exact k)
  have hb0 : Below w.heap.size w ((w.alloc (.cells #[.slice N before.length capN] 23)).alloc (.cells #[.int .i64 (o : Int), .int .i64 wd, .slice B args.length bc, .int .i64 v] 61)) := ((Below.refl _ _).alloc (Nat.le_refl _) _).alloc (by simp) _
  have HX := Lib.hid (fun y : Aft ((w.alloc (.cells #[.slice N before.length capN] 23)).alloc (.cells #[.int .i64 (o : Int), .int .i64 wd, .slice B args.length bc, .int .i64 v] 61)) => errorOfIndexes_c before.length 9 (by decide) B bc args hla y.val ((hB.below hb0).aft y))
  have HN := Lib.hid (fun y : Aft ((w.alloc (.cells #[.slice N before.length capN] 23)).alloc (.cells #[.int .i64 (o : Int), .int .i64 wd, .slice B args.length bc, .int .i64 v] 61)) => errorOfNumber_c A cap ls hls (o : Int) wd v w1 w2 B args.length bc y.val ((hA.below hb0).aft y))
  have hF : firstE [eIf ((args.length : Int) != argN (o : Int)) 10, argsE args before.length 9, numE ls (o : Int) wd v] = node3 ls before ⟨o, wd, args, v⟩ := rfl
  have HF := Lib.hid hF
  clear hF
  have HR := Lib.hid (nodeE_3 h h2 h3)
  have n1 : (node3 ls before ⟨o, wd, args, v⟩ == 0) = false := by simpa using h3
  have n2 : (node3 ls before ⟨o, wd, args, v⟩ != 0) = true := by simpa using h3
  have HTT := Lib.hid ht
  clear hA hN hB ht h h2 h3
  go_enter Tryz.func106, Tryz.ntmps106
  go_wp2_with (first | (go_at_call 59; ((with_reducible refine (HI.out _).mono ?_); rintro e w' ⟨rfl, rfl⟩)) | (go_at_call 103; ((with_reducible refine (HW.out _).mono ?_); rintro e w' ⟨rfl, rfl⟩)))
  have tb := (HTT.out.below hb0).big
  have tc := (HTT.out.below hb0).args o (by omega)
  have r0 : ((w.alloc (.cells #[.slice N before.length capN] 23)).alloc (.cells #[.int .i64 (o : Int), .int .i64 wd, .slice B args.length bc, .int .i64 v] 61)).heap[w.heap.size]? = some (.cells #[.slice N before.length capN] 23) := heap_alloc' (by simp) (heap_alloc_new _ _)
  have r1 : ((w.alloc (.cells #[.slice N before.length capN] 23)).alloc (.cells #[.int .i64 (o : Int), .int .i64 wd, .slice B args.length bc, .int .i64 v] 61)).heap[w.heap.size + 1]? = some (.cells #[.int .i64 (o : Int), .int .i64 wd, .slice B args.length bc, .int .i64 v] 61) := heap_alloc_at (by simp)
  have z0 : w.heap.size < ((w.alloc (.cells #[.slice N before.length capN] 23)).alloc (.cells #[.int .i64 (o : Int), .int .i64 wd, .slice B args.length bc, .int .i64 v] 61)).heap.size := by simp; omega
  have z1 : w.heap.size + 1 < ((w.alloc (.cells #[.slice N before.length capN] 23)).alloc (.cells #[.int .i64 (o : Int), .int .i64 wd, .slice B args.length bc, .int .i64 v] 61)).heap.size := by simp
  generalize ((w.alloc (.cells #[.slice N before.length capN] 23)).alloc (.cells #[.int .i64 (o : Int), .int .i64 wd, .slice B args.length bc, .int .i64 v] 61)) = W0 at *
  have q0 := cell_block (i := 0) r0
  have p0 := cell_block (i := 0) r1
  have p1 := cell_block (i := 1) r1
  have p2 := cell_block (i := 2) r1
  have p3 := cell_block (i := 3) r1
  simp at q0 p0 p1 p2 p3
  refine wp_region_aft_tail 18 (by kernel_rfl) (by kernel_rfl) ?_
  simp only [List.take_succ_cons, List.take_zero, List.drop_succ_cons, List.drop_zero]
  repeat (go_big_quiet_step (first | (go_at_call 50; exact Calls.qs (errorIf_c _ _ _)) | (go_at_call 72; exact Calls.qa (HX.out _)) | (go_at_call 118; exact Calls.qa (HN.out _))))
  refine wpQuiet_nil ?_
  intro x
  go_wp2_with fail
  refine (firstError3 _ _ _ _ _ _ _ (by exact heap_alloc_at (by simp [go_sem]))).mono ?_
  rw [HF.out]
  rintro e w' ⟨rfl, rfl⟩
  have hbx : Below w.heap.size w x.val := x.below hb0 hb0.size
  clear q0 p0 p1 p2 p3 tb tc HX HN
  go_wp2
  go_ret
  exact ⟨retI HR.out.symm, Below.aft (hbx.alloc hbx.size _)⟩

set_option maxRecDepth 100000 in
set_option maxHeartbeats 1600000 in
theorem errorOfNode_ok0 (A : Option Addr) (cap : Nat) (ls : List Int) (hls : ls.length ≤ 65536) (N : Option Addr) (capN : Nat) (before : List Nd) (hbe : before.length ≤ 65536) (o : Nat) (wd v : Int)  (B : Option Addr) (bc : Nat) (w : World) (hA : LiesI w A ls) (hN : LiesN w N before) (hB : LiesI w B ([] : List Int)) (ht : TabOps w) (hv : ∀ n ∈ before, isW n.wd = true) (h : isIx (o : Int) 19 = true) (h2 : isW wd = true) (h3 : node3 ls before (⟨(o : Int), wd, ([] : List Int), v⟩ : Nd) = 0) :
    Calls Tryz.prog 106 #[.slice A ls.length cap, .slice N before.length capN, .agg #[.int .i64 (o : Int), .int .i64 wd, .slice B 0 bc, .int .i64 v]] w fun e w' => e = .returned (.int .i64 (nodeE ls before (⟨(o : Int), wd, ([] : List Int), v⟩ : Nd))) ∧ ∃ x : Aft w, w' = x.val := by
  have hz := node3_zero h3
  have HR := Lib.hid (nodeE_4 h h2 h3)
  have HW3 := Lib.hid (show wAt before ([] : List Int) 0 = (0 : Int) ∧ wAt before ([] : List Int) 1 = (0 : Int) ∧ wAt before ([] : List Int) 2 = (0 : Int) from ⟨wAt_out (by simp), wAt_out (by simp), wAt_out (by simp)⟩)
  have bd : ∀ {k : Nat} {n : Nd}, before[k]? = some n → 0 ≤ n.wd ∧ n.wd ≤ 16 := fun hk => by
    have := isW_iff.1 (hv _ (List.mem_of_getElem? hk)); omega
  have ba : 0 ≤ (0 : Int) ∧ (0 : Int) ≤ 16 := by decide
  have bb : 0 ≤ (0 : Int) ∧ (0 : Int) ≤ 16 := by decide
  have bv : (o : Int) = 14 → 0 ≤ v ∧ v ≤ 15 := fun h14 => by
    have hn := hz.2.2
    simp only at hn
    rw [h14] at hn
    have hn' : eIf (!isIx v 16) 2 = 0 := hn
    cases hx : isIx v 16
    · rw [hx] at hn'; cases hn'
    · have := isIx_iff.1 hx; omega
  have HFit := Lib.hid (fun (B' : Option Addr) W => widthsFit_c (o : Int) wd v (0 : Int) (0 : Int) (0 : Int) (isIx_iff.1 h).1 (by have := (isIx_iff.1 h).2; omega) (isW_iff.1 h2).1 (isW_iff.1 h2).2 ba bb bv B' 0 bc W)
  obtain ⟨o0, o1⟩ := isIx_iff.1 h
  obtain ⟨w1, w2⟩ := isW_iff.1 h2
  have hla : ([] : List Int).length ≤ 65536 := by simp
  have HI := Lib.hid (fun w => by have k := isIndex_c (o : Int) 19 w; rw [h] at k; exact k)
  have HW := Lib.hid (fun w => by have k := isWidth_c wd w; rw [h2] at k; exact k)
  have hb0 : Below w.heap.size w ((w.alloc (.cells #[.slice N before.length capN] 23)).alloc (.cells #[.int .i64 (o : Int), .int .i64 wd, .slice B 0 bc, .int .i64 v] 61)) := ((Below.refl _ _).alloc (Nat.le_refl _) _).alloc (by simp) _
  have HX := Lib.hid (fun y : Aft ((w.alloc (.cells #[.slice N before.length capN] 23)).alloc (.cells #[.int .i64 (o : Int), .int .i64 wd, .slice B 0 bc, .int .i64 v] 61)) => errorOfIndexes_c before.length 9 (by decide) B bc ([] : List Int) hla y.val ((hB.below hb0).aft y))
  have HN := Lib.hid (fun y : Aft ((w.alloc (.cells #[.slice N before.length capN] 23)).alloc (.cells #[.int .i64 (o : Int), .int .i64 wd, .slice B 0 bc, .int .i64 v] 61)) => errorOfNumber_c A cap ls hls (o : Int) wd v w1 w2 B 0 bc y.val ((hA.below hb0).aft y))
  have hF : firstE [eIf ((0 : Int) != argN (o : Int)) 10, argsE ([] : List Int) before.length 9, numE ls (o : Int) wd v] = node3 ls before (⟨(o : Int), wd, ([] : List Int), v⟩ : Nd) := rfl
  have HF := Lib.hid hF
  clear hF
  have HTT := Lib.hid ht
  have HAr := Lib.hid (fun (W : World) (hb : Below w.heap.size w W) (hl : w.heap.size < W.heap.size) (hc : W.cell? ⟨w.heap.size, 0, none⟩ = some (.slice N before.length capN)) => argsOf0 (o : Int) wd v B bc w.heap.size N capN before hbe  W hl hc (hN.below hb) (hB.below hb))
  clear hA hN hB ht h h2 hz ba bb bv bd hv
  rw [h3] at HF
  clear h3
  go_enter Tryz.func106, Tryz.ntmps106
  go_wp2_with (first | (go_at_call 59; ((with_reducible refine (HI.out _).mono ?_); rintro e w' ⟨rfl, rfl⟩)) | (go_at_call 103; ((with_reducible refine (HW.out _).mono ?_); rintro e w' ⟨rfl, rfl⟩)))
  have tb := (HTT.out.below hb0).big
  have tc := (HTT.out.below hb0).args o (by omega)
  have r0 : ((w.alloc (.cells #[.slice N before.length capN] 23)).alloc (.cells #[.int .i64 (o : Int), .int .i64 wd, .slice B 0 bc, .int .i64 v] 61)).heap[w.heap.size]? = some (.cells #[.slice N before.length capN] 23) := heap_alloc' (by simp) (heap_alloc_new _ _)
  have r1 : ((w.alloc (.cells #[.slice N before.length capN] 23)).alloc (.cells #[.int .i64 (o : Int), .int .i64 wd, .slice B 0 bc, .int .i64 v] 61)).heap[w.heap.size + 1]? = some (.cells #[.int .i64 (o : Int), .int .i64 wd, .slice B 0 bc, .int .i64 v] 61) := heap_alloc_at (by simp)
  have z0 : w.heap.size < ((w.alloc (.cells #[.slice N before.length capN] 23)).alloc (.cells #[.int .i64 (o : Int), .int .i64 wd, .slice B 0 bc, .int .i64 v] 61)).heap.size := by simp; omega
  have z1 : w.heap.size + 1 < ((w.alloc (.cells #[.slice N before.length capN] 23)).alloc (.cells #[.int .i64 (o : Int), .int .i64 wd, .slice B 0 bc, .int .i64 v] 61)).heap.size := by simp
  generalize ((w.alloc (.cells #[.slice N before.length capN] 23)).alloc (.cells #[.int .i64 (o : Int), .int .i64 wd, .slice B 0 bc, .int .i64 v] 61)) = W0 at *
  have q0 := cell_block (i := 0) r0
  have p0 := cell_block (i := 0) r1
  have p1 := cell_block (i := 1) r1
  have p2 := cell_block (i := 2) r1
  have p3 := cell_block (i := 3) r1
  simp at q0 p0 p1 p2 p3
  refine wp_region_aft_tail 18 (by kernel_rfl) (by kernel_rfl) ?_
  simp only [List.take_succ_cons, List.take_zero, List.drop_succ_cons, List.drop_zero]
  repeat (go_big_quiet_step (first | (go_at_call 50; exact Calls.qs (errorIf_c _ _ _)) | (go_at_call 72; exact Calls.qa (HX.out _)) | (go_at_call 118; exact Calls.qa (HN.out _))))
  refine wpQuiet_nil ?_
  intro x
  go_wp2_with fail
  refine (firstError3 _ _ _ _ _ _ _ (by exact heap_alloc_at (by simp [go_sem]))).mono ?_
  rw [show firstE _ = 0 from HF.out]
  rintro e V ⟨rfl, hV⟩
  have hbx : Below w.heap.size w V := by rw [← hV]; exact (x.below hb0 hb0.size).alloc (x.below hb0 hb0.size).size _
  have y0 : w.heap.size < V.heap.size := by rw [← hV]; exact lt_alloc (x.lt' z0)
  have y1 : w.heap.size + 1 < V.heap.size := by rw [← hV]; exact lt_alloc (x.lt' z1)
  have qv : V.cell? ⟨w.heap.size, 0, none⟩ = some (.slice N before.length capN) := by rw [← hV]; exact cell_alloc (x.lt' z0) (cell_aft x z0 q0)
  have pv0 : V.cell? ⟨w.heap.size + 1, 0, none⟩ = some (.int .i64 o) := by rw [← hV]; exact cell_alloc (x.lt' z1) (cell_aft x z1 p0)
  have pv1 : V.cell? ⟨w.heap.size + 1, 1, none⟩ = some (.int .i64 wd) := by rw [← hV]; exact cell_alloc (x.lt' z1) (cell_aft x z1 p1)
  have pv2 : V.cell? ⟨w.heap.size + 1, 2, none⟩ = some (.slice B 0 bc) := by rw [← hV]; exact cell_alloc (x.lt' z1) (cell_aft x z1 p2)
  have pv3 : V.cell? ⟨w.heap.size + 1, 3, none⟩ = some (.int .i64 v) := by rw [← hV]; exact cell_alloc (x.lt' z1) (cell_aft x z1 p3)
  clear hV q0 p0 p1 p2 p3 tb tc HX HN z0 z1 hb0 HTT
  go_wp2_with fail
  refine (HAr.out _ hbx y0 qv).mono ?_
  rintro e U ⟨rfl, y, hU⟩
  have hbu : Below w.heap.size w U := by rw [hU]; exact y.below hbx hbx.size
  have u1 : w.heap.size + 1 < U.heap.size := by rw [hU]; exact y.lt' y1
  have pu0 : U.cell? ⟨w.heap.size + 1, 0, none⟩ = some (.int .i64 o) := by rw [hU]; exact cell_aft y y1 pv0
  have pu1 : U.cell? ⟨w.heap.size + 1, 1, none⟩ = some (.int .i64 wd) := by rw [hU]; exact cell_aft y y1 pv1
  have pu2 : U.cell? ⟨w.heap.size + 1, 2, none⟩ = some (.slice B 0 bc) := by rw [hU]; exact cell_aft y y1 pv2
  have pu3 : U.cell? ⟨w.heap.size + 1, 3, none⟩ = some (.int .i64 v) := by rw [hU]; exact cell_aft y y1 pv3
  clear hU qv pv0 pv1 pv2 pv3 y0 y1 hbx
  go_wp2_with fail
  refine (HFit.out _ _).mono ?_
  rintro e w' ⟨rfl, y2, rfl⟩
  go_wp2_with fail
  refine (errorIf_c _ _ _).mono ?_
  rintro e w' ⟨rfl, rfl⟩
  go_wp2
  go_ret
  exact ⟨retI (by rw [HR.out]; simp only [HW3.out.1, HW3.out.2.1, HW3.out.2.2]), Below.aft (y2.below (hbu.alloc hbu.size _) (hbu.alloc hbu.size _).size)⟩

set_option maxRecDepth 100000 in
set_option maxHeartbeats 1600000 in
theorem errorOfNode_ok1 (A : Option Addr) (cap : Nat) (ls : List Int) (hls : ls.length ≤ 65536) (N : Option Addr) (capN : Nat) (before : List Nd) (hbe : before.length ≤ 65536) (o : Nat) (wd v : Int) (k0 : Nat) (n0 : Nd) (g0 : before[k0]? = some n0) (B : Option Addr) (bc : Nat) (w : World) (hA : LiesI w A ls) (hN : LiesN w N before) (hB : LiesI w B [(k0 : Int)]) (ht : TabOps w) (hv : ∀ n ∈ before, isW n.wd = true) (h : isIx (o : Int) 19 = true) (h2 : isW wd = true) (h3 : node3 ls before (⟨(o : Int), wd, [(k0 : Int)], v⟩ : Nd) = 0) :
    Calls Tryz.prog 106 #[.slice A ls.length cap, .slice N before.length capN, .agg #[.int .i64 (o : Int), .int .i64 wd, .slice B 1 bc, .int .i64 v]] w fun e w' => e = .returned (.int .i64 (nodeE ls before (⟨(o : Int), wd, [(k0 : Int)], v⟩ : Nd))) ∧ ∃ x : Aft w, w' = x.val := by
  have hz := node3_zero h3
  have HR := Lib.hid (nodeE_4 h h2 h3)
  have HW3 := Lib.hid (show wAt before [(k0 : Int)] 0 = n0.wd ∧ wAt before [(k0 : Int)] 1 = (0 : Int) ∧ wAt before [(k0 : Int)] 2 = (0 : Int) from ⟨wAt_in (by rfl) g0, wAt_out (by simp), wAt_out (by simp)⟩)
  have bd : ∀ {k : Nat} {n : Nd}, before[k]? = some n → 0 ≤ n.wd ∧ n.wd ≤ 16 := fun hk => by
    have := isW_iff.1 (hv _ (List.mem_of_getElem? hk)); omega
  have ba : 0 ≤ n0.wd ∧ n0.wd ≤ 16 := bd g0
  have bb : 0 ≤ (0 : Int) ∧ (0 : Int) ≤ 16 := by decide
  have bv : (o : Int) = 14 → 0 ≤ v ∧ v ≤ 15 := fun h14 => by
    have hn := hz.2.2
    simp only at hn
    rw [h14] at hn
    have hn' : eIf (!isIx v 16) 2 = 0 := hn
    cases hx : isIx v 16
    · rw [hx] at hn'; cases hn'
    · have := isIx_iff.1 hx; omega
  have HFit := Lib.hid (fun (B' : Option Addr) W => widthsFit_c (o : Int) wd v n0.wd (0 : Int) (0 : Int) (isIx_iff.1 h).1 (by have := (isIx_iff.1 h).2; omega) (isW_iff.1 h2).1 (isW_iff.1 h2).2 ba bb bv B' 1 bc W)
  obtain ⟨o0, o1⟩ := isIx_iff.1 h
  obtain ⟨w1, w2⟩ := isW_iff.1 h2
  have hla : [(k0 : Int)].length ≤ 65536 := by simp
  have HI := Lib.hid (fun w => by have k := isIndex_c (o : Int) 19 w; rw [h] at k; exact k)
  have HW := Lib.hid (fun w => by have k := isWidth_c wd w; rw [h2] at k; exact k)
  have hb0 : Below w.heap.size w ((w.alloc (.cells #[.slice N before.length capN] 23)).alloc (.cells #[.int .i64 (o : Int), .int .i64 wd, .slice B 1 bc, .int .i64 v] 61)) := ((Below.refl _ _).alloc (Nat.le_refl _) _).alloc (by simp) _
  have HX := Lib.hid (fun y : Aft ((w.alloc (.cells #[.slice N before.length capN] 23)).alloc (.cells #[.int .i64 (o : Int), .int .i64 wd, .slice B 1 bc, .int .i64 v] 61)) => errorOfIndexes_c before.length 9 (by decide) B bc [(k0 : Int)] hla y.val ((hB.below hb0).aft y))
  have HN := Lib.hid (fun y : Aft ((w.alloc (.cells #[.slice N before.length capN] 23)).alloc (.cells #[.int .i64 (o : Int), .int .i64 wd, .slice B 1 bc, .int .i64 v] 61)) => errorOfNumber_c A cap ls hls (o : Int) wd v w1 w2 B 1 bc y.val ((hA.below hb0).aft y))
  have hF : firstE [eIf ((1 : Int) != argN (o : Int)) 10, argsE [(k0 : Int)] before.length 9, numE ls (o : Int) wd v] = node3 ls before (⟨(o : Int), wd, [(k0 : Int)], v⟩ : Nd) := rfl
  have HF := Lib.hid hF
  clear hF
  have HTT := Lib.hid ht
  have HAr := Lib.hid (fun (W : World) (hb : Below w.heap.size w W) (hl : w.heap.size < W.heap.size) (hc : W.cell? ⟨w.heap.size, 0, none⟩ = some (.slice N before.length capN)) => argsOf1 (o : Int) wd v B bc w.heap.size N capN before hbe k0 n0 g0 W hl hc (hN.below hb) (hB.below hb))
  clear hA hN hB ht h h2 hz ba bb bv bd hv
  rw [h3] at HF
  clear h3
  go_enter Tryz.func106, Tryz.ntmps106
  go_wp2_with (first | (go_at_call 59; ((with_reducible refine (HI.out _).mono ?_); rintro e w' ⟨rfl, rfl⟩)) | (go_at_call 103; ((with_reducible refine (HW.out _).mono ?_); rintro e w' ⟨rfl, rfl⟩)))
  have tb := (HTT.out.below hb0).big
  have tc := (HTT.out.below hb0).args o (by omega)
  have r0 : ((w.alloc (.cells #[.slice N before.length capN] 23)).alloc (.cells #[.int .i64 (o : Int), .int .i64 wd, .slice B 1 bc, .int .i64 v] 61)).heap[w.heap.size]? = some (.cells #[.slice N before.length capN] 23) := heap_alloc' (by simp) (heap_alloc_new _ _)
  have r1 : ((w.alloc (.cells #[.slice N before.length capN] 23)).alloc (.cells #[.int .i64 (o : Int), .int .i64 wd, .slice B 1 bc, .int .i64 v] 61)).heap[w.heap.size + 1]? = some (.cells #[.int .i64 (o : Int), .int .i64 wd, .slice B 1 bc, .int .i64 v] 61) := heap_alloc_at (by simp)
  have z0 : w.heap.size < ((w.alloc (.cells #[.slice N before.length capN] 23)).alloc (.cells #[.int .i64 (o : Int), .int .i64 wd, .slice B 1 bc, .int .i64 v] 61)).heap.size := by simp; omega
  have z1 : w.heap.size + 1 < ((w.alloc (.cells #[.slice N before.length capN] 23)).alloc (.cells #[.int .i64 (o : Int), .int .i64 wd, .slice B 1 bc, .int .i64 v] 61)).heap.size := by simp
  generalize ((w.alloc (.cells #[.slice N before.length capN] 23)).alloc (.cells #[.int .i64 (o : Int), .int .i64 wd, .slice B 1 bc, .int .i64 v] 61)) = W0 at *
  have q0 := cell_block (i := 0) r0
  have p0 := cell_block (i := 0) r1
  have p1 := cell_block (i := 1) r1
  have p2 := cell_block (i := 2) r1
  have p3 := cell_block (i := 3) r1
  simp at q0 p0 p1 p2 p3
  refine wp_region_aft_tail 18 (by kernel_rfl) (by kernel_rfl) ?_
  simp only [List.take_succ_cons, List.take_zero, List.drop_succ_cons, List.drop_zero]
  repeat (go_big_quiet_step (first | (go_at_call 50; exact Calls.qs (errorIf_c _ _ _)) | (go_at_call 72; exact Calls.qa (HX.out _)) | (go_at_call 118; exact Calls.qa (HN.out _))))
  refine wpQuiet_nil ?_
  intro x
  go_wp2_with fail
  refine (firstError3 _ _ _ _ _ _ _ (by exact heap_alloc_at (by simp [go_sem]))).mono ?_
  rw [show firstE _ = 0 from HF.out]
  rintro e V ⟨rfl, hV⟩
  have hbx : Below w.heap.size w V := by rw [← hV]; exact (x.below hb0 hb0.size).alloc (x.below hb0 hb0.size).size _
  have y0 : w.heap.size < V.heap.size := by rw [← hV]; exact lt_alloc (x.lt' z0)
  have y1 : w.heap.size + 1 < V.heap.size := by rw [← hV]; exact lt_alloc (x.lt' z1)
  have qv : V.cell? ⟨w.heap.size, 0, none⟩ = some (.slice N before.length capN) := by rw [← hV]; exact cell_alloc (x.lt' z0) (cell_aft x z0 q0)
  have pv0 : V.cell? ⟨w.heap.size + 1, 0, none⟩ = some (.int .i64 o) := by rw [← hV]; exact cell_alloc (x.lt' z1) (cell_aft x z1 p0)
  have pv1 : V.cell? ⟨w.heap.size + 1, 1, none⟩ = some (.int .i64 wd) := by rw [← hV]; exact cell_alloc (x.lt' z1) (cell_aft x z1 p1)
  have pv2 : V.cell? ⟨w.heap.size + 1, 2, none⟩ = some (.slice B 1 bc) := by rw [← hV]; exact cell_alloc (x.lt' z1) (cell_aft x z1 p2)
  have pv3 : V.cell? ⟨w.heap.size + 1, 3, none⟩ = some (.int .i64 v) := by rw [← hV]; exact cell_alloc (x.lt' z1) (cell_aft x z1 p3)
  clear hV q0 p0 p1 p2 p3 tb tc HX HN z0 z1 hb0 HTT
  go_wp2_with fail
  refine (HAr.out _ hbx y0 qv).mono ?_
  rintro e U ⟨rfl, y, hU⟩
  have hbu : Below w.heap.size w U := by rw [hU]; exact y.below hbx hbx.size
  have u1 : w.heap.size + 1 < U.heap.size := by rw [hU]; exact y.lt' y1
  have pu0 : U.cell? ⟨w.heap.size + 1, 0, none⟩ = some (.int .i64 o) := by rw [hU]; exact cell_aft y y1 pv0
  have pu1 : U.cell? ⟨w.heap.size + 1, 1, none⟩ = some (.int .i64 wd) := by rw [hU]; exact cell_aft y y1 pv1
  have pu2 : U.cell? ⟨w.heap.size + 1, 2, none⟩ = some (.slice B 1 bc) := by rw [hU]; exact cell_aft y y1 pv2
  have pu3 : U.cell? ⟨w.heap.size + 1, 3, none⟩ = some (.int .i64 v) := by rw [hU]; exact cell_aft y y1 pv3
  clear hU qv pv0 pv1 pv2 pv3 y0 y1 hbx
  go_wp2_with fail
  refine (HFit.out _ _).mono ?_
  rintro e w' ⟨rfl, y2, rfl⟩
  go_wp2_with fail
  refine (errorIf_c _ _ _).mono ?_
  rintro e w' ⟨rfl, rfl⟩
  go_wp2
  go_ret
  exact ⟨retI (by rw [HR.out]; simp only [HW3.out.1, HW3.out.2.1, HW3.out.2.2]), Below.aft (y2.below (hbu.alloc hbu.size _) (hbu.alloc hbu.size _).size)⟩

set_option maxRecDepth 100000 in
set_option maxHeartbeats 1600000 in
theorem errorOfNode_ok2 (A : Option Addr) (cap : Nat) (ls : List Int) (hls : ls.length ≤ 65536) (N : Option Addr) (capN : Nat) (before : List Nd) (hbe : before.length ≤ 65536) (o : Nat) (wd v : Int) (k0 : Nat) (n0 : Nd) (g0 : before[k0]? = some n0) (k1 : Nat) (n1 : Nd) (g1 : before[k1]? = some n1) (B : Option Addr) (bc : Nat) (w : World) (hA : LiesI w A ls) (hN : LiesN w N before) (hB : LiesI w B [(k0 : Int), (k1 : Int)]) (ht : TabOps w) (hv : ∀ n ∈ before, isW n.wd = true) (h : isIx (o : Int) 19 = true) (h2 : isW wd = true) (h3 : node3 ls before (⟨(o : Int), wd, [(k0 : Int), (k1 : Int)], v⟩ : Nd) = 0) :
    Calls Tryz.prog 106 #[.slice A ls.length cap, .slice N before.length capN, .agg #[.int .i64 (o : Int), .int .i64 wd, .slice B 2 bc, .int .i64 v]] w fun e w' => e = .returned (.int .i64 (nodeE ls before (⟨(o : Int), wd, [(k0 : Int), (k1 : Int)], v⟩ : Nd))) ∧ ∃ x : Aft w, w' = x.val := by
  have hz := node3_zero h3
  have HR := Lib.hid (nodeE_4 h h2 h3)
  have HW3 := Lib.hid (show wAt before [(k0 : Int), (k1 : Int)] 0 = n0.wd ∧ wAt before [(k0 : Int), (k1 : Int)] 1 = n1.wd ∧ wAt before [(k0 : Int), (k1 : Int)] 2 = (0 : Int) from ⟨wAt_in (by rfl) g0, wAt_in (by rfl) g1, wAt_out (by simp)⟩)
  have bd : ∀ {k : Nat} {n : Nd}, before[k]? = some n → 0 ≤ n.wd ∧ n.wd ≤ 16 := fun hk => by
    have := isW_iff.1 (hv _ (List.mem_of_getElem? hk)); omega
  have ba : 0 ≤ n0.wd ∧ n0.wd ≤ 16 := bd g0
  have bb : 0 ≤ n1.wd ∧ n1.wd ≤ 16 := bd g1
  have bv : (o : Int) = 14 → 0 ≤ v ∧ v ≤ 15 := fun h14 => by
    have hn := hz.2.2
    simp only at hn
    rw [h14] at hn
    have hn' : eIf (!isIx v 16) 2 = 0 := hn
    cases hx : isIx v 16
    · rw [hx] at hn'; cases hn'
    · have := isIx_iff.1 hx; omega
  have HFit := Lib.hid (fun (B' : Option Addr) W => widthsFit_c (o : Int) wd v n0.wd n1.wd (0 : Int) (isIx_iff.1 h).1 (by have := (isIx_iff.1 h).2; omega) (isW_iff.1 h2).1 (isW_iff.1 h2).2 ba bb bv B' 2 bc W)
  obtain ⟨o0, o1⟩ := isIx_iff.1 h
  obtain ⟨w1, w2⟩ := isW_iff.1 h2
  have hla : [(k0 : Int), (k1 : Int)].length ≤ 65536 := by simp
  have HI := Lib.hid (fun w => by have k := isIndex_c (o : Int) 19 w; rw [h] at k; exact k)
  have HW := Lib.hid (fun w => by have k := isWidth_c wd w; rw [h2] at k; exact k)
  have hb0 : Below w.heap.size w ((w.alloc (.cells #[.slice N before.length capN] 23)).alloc (.cells #[.int .i64 (o : Int), .int .i64 wd, .slice B 2 bc, .int .i64 v] 61)) := ((Below.refl _ _).alloc (Nat.le_refl _) _).alloc (by simp) _
  have HX := Lib.hid (fun y : Aft ((w.alloc (.cells #[.slice N before.length capN] 23)).alloc (.cells #[.int .i64 (o : Int), .int .i64 wd, .slice B 2 bc, .int .i64 v] 61)) => errorOfIndexes_c before.length 9 (by decide) B bc [(k0 : Int), (k1 : Int)] hla y.val ((hB.below hb0).aft y))
  have HN := Lib.hid (fun y : Aft ((w.alloc (.cells #[.slice N before.length capN] 23)).alloc (.cells #[.int .i64 (o : Int), .int .i64 wd, .slice B 2 bc, .int .i64 v] 61)) => errorOfNumber_c A cap ls hls (o : Int) wd v w1 w2 B 2 bc y.val ((hA.below hb0).aft y))
  have hF : firstE [eIf ((2 : Int) != argN (o : Int)) 10, argsE [(k0 : Int), (k1 : Int)] before.length 9, numE ls (o : Int) wd v] = node3 ls before (⟨(o : Int), wd, [(k0 : Int), (k1 : Int)], v⟩ : Nd) := rfl
  have HF := Lib.hid hF
  clear hF
  have HTT := Lib.hid ht
  have HAr := Lib.hid (fun (W : World) (hb : Below w.heap.size w W) (hl : w.heap.size < W.heap.size) (hc : W.cell? ⟨w.heap.size, 0, none⟩ = some (.slice N before.length capN)) => argsOf2 (o : Int) wd v B bc w.heap.size N capN before hbe k0 n0 g0 k1 n1 g1 W hl hc (hN.below hb) (hB.below hb))
  clear hA hN hB ht h h2 hz ba bb bv bd hv
  rw [h3] at HF
  clear h3
  go_enter Tryz.func106, Tryz.ntmps106
  go_wp2_with (first | (go_at_call 59; ((with_reducible refine (HI.out _).mono ?_); rintro e w' ⟨rfl, rfl⟩)) | (go_at_call 103; ((with_reducible refine (HW.out _).mono ?_); rintro e w' ⟨rfl, rfl⟩)))
  have tb := (HTT.out.below hb0).big
  have tc := (HTT.out.below hb0).args o (by omega)
  have r0 : ((w.alloc (.cells #[.slice N before.length capN] 23)).alloc (.cells #[.int .i64 (o : Int), .int .i64 wd, .slice B 2 bc, .int .i64 v] 61)).heap[w.heap.size]? = some (.cells #[.slice N before.length capN] 23) := heap_alloc' (by simp) (heap_alloc_new _ _)
  have r1 : ((w.alloc (.cells #[.slice N before.length capN] 23)).alloc (.cells #[.int .i64 (o : Int), .int .i64 wd, .slice B 2 bc, .int .i64 v] 61)).heap[w.heap.size + 1]? = some (.cells #[.int .i64 (o : Int), .int .i64 wd, .slice B 2 bc, .int .i64 v] 61) := heap_alloc_at (by simp)
  have z0 : w.heap.size < ((w.alloc (.cells #[.slice N before.length capN] 23)).alloc (.cells #[.int .i64 (o : Int), .int .i64 wd, .slice B 2 bc, .int .i64 v] 61)).heap.size := by simp; omega
  have z1 : w.heap.size + 1 < ((w.alloc (.cells #[.slice N before.length capN] 23)).alloc (.cells #[.int .i64 (o : Int), .int .i64 wd, .slice B 2 bc, .int .i64 v] 61)).heap.size := by simp
  generalize ((w.alloc (.cells #[.slice N before.length capN] 23)).alloc (.cells #[.int .i64 (o : Int), .int .i64 wd, .slice B 2 bc, .int .i64 v] 61)) = W0 at *
  have q0 := cell_block (i := 0) r0
  have p0 := cell_block (i := 0) r1
  have p1 := cell_block (i := 1) r1
  have p2 := cell_block (i := 2) r1
  have p3 := cell_block (i := 3) r1
  simp at q0 p0 p1 p2 p3
  refine wp_region_aft_tail 18 (by kernel_rfl) (by kernel_rfl) ?_
  simp only [List.take_succ_cons, List.take_zero, List.drop_succ_cons, List.drop_zero]
  repeat (go_big_quiet_step (first | (go_at_call 50; exact Calls.qs (errorIf_c _ _ _)) | (go_at_call 72; exact Calls.qa (HX.out _)) | (go_at_call 118; exact Calls.qa (HN.out _))))
  refine wpQuiet_nil ?_
  intro x
  go_wp2_with fail
  refine (firstError3 _ _ _ _ _ _ _ (by exact heap_alloc_at (by simp [go_sem]))).mono ?_
  rw [show firstE _ = 0 from HF.out]
  rintro e V ⟨rfl, hV⟩
  have hbx : Below w.heap.size w V := by rw [← hV]; exact (x.below hb0 hb0.size).alloc (x.below hb0 hb0.size).size _
  have y0 : w.heap.size < V.heap.size := by rw [← hV]; exact lt_alloc (x.lt' z0)
  have y1 : w.heap.size + 1 < V.heap.size := by rw [← hV]; exact lt_alloc (x.lt' z1)
  have qv : V.cell? ⟨w.heap.size, 0, none⟩ = some (.slice N before.length capN) := by rw [← hV]; exact cell_alloc (x.lt' z0) (cell_aft x z0 q0)
  have pv0 : V.cell? ⟨w.heap.size + 1, 0, none⟩ = some (.int .i64 o) := by rw [← hV]; exact cell_alloc (x.lt' z1) (cell_aft x z1 p0)
  have pv1 : V.cell? ⟨w.heap.size + 1, 1, none⟩ = some (.int .i64 wd) := by rw [← hV]; exact cell_alloc (x.lt' z1) (cell_aft x z1 p1)
  have pv2 : V.cell? ⟨w.heap.size + 1, 2, none⟩ = some (.slice B 2 bc) := by rw [← hV]; exact cell_alloc (x.lt' z1) (cell_aft x z1 p2)
  have pv3 : V.cell? ⟨w.heap.size + 1, 3, none⟩ = some (.int .i64 v) := by rw [← hV]; exact cell_alloc (x.lt' z1) (cell_aft x z1 p3)
  clear hV q0 p0 p1 p2 p3 tb tc HX HN z0 z1 hb0 HTT
  go_wp2_with fail
  refine (HAr.out _ hbx y0 qv).mono ?_
  rintro e U ⟨rfl, y, hU⟩
  have hbu : Below w.heap.size w U := by rw [hU]; exact y.below hbx hbx.size
  have u1 : w.heap.size + 1 < U.heap.size := by rw [hU]; exact y.lt' y1
  have pu0 : U.cell? ⟨w.heap.size + 1, 0, none⟩ = some (.int .i64 o) := by rw [hU]; exact cell_aft y y1 pv0
  have pu1 : U.cell? ⟨w.heap.size + 1, 1, none⟩ = some (.int .i64 wd) := by rw [hU]; exact cell_aft y y1 pv1
  have pu2 : U.cell? ⟨w.heap.size + 1, 2, none⟩ = some (.slice B 2 bc) := by rw [hU]; exact cell_aft y y1 pv2
  have pu3 : U.cell? ⟨w.heap.size + 1, 3, none⟩ = some (.int .i64 v) := by rw [hU]; exact cell_aft y y1 pv3
  clear hU qv pv0 pv1 pv2 pv3 y0 y1 hbx
  go_wp2_with fail
  refine (HFit.out _ _).mono ?_
  rintro e w' ⟨rfl, y2, rfl⟩
  go_wp2_with fail
  refine (errorIf_c _ _ _).mono ?_
  rintro e w' ⟨rfl, rfl⟩
  go_wp2
  go_ret
  exact ⟨retI (by rw [HR.out]; simp only [HW3.out.1, HW3.out.2.1, HW3.out.2.2]), Below.aft (y2.below (hbu.alloc hbu.size _) (hbu.alloc hbu.size _).size)⟩

set_option maxRecDepth 100000 in
set_option maxHeartbeats 1600000 in
theorem errorOfNode_ok3 (A : Option Addr) (cap : Nat) (ls : List Int) (hls : ls.length ≤ 65536) (N : Option Addr) (capN : Nat) (before : List Nd) (hbe : before.length ≤ 65536) (o : Nat) (wd v : Int) (k0 : Nat) (n0 : Nd) (g0 : before[k0]? = some n0) (k1 : Nat) (n1 : Nd) (g1 : before[k1]? = some n1) (k2 : Nat) (n2 : Nd) (g2 : before[k2]? = some n2) (B : Option Addr) (bc : Nat) (w : World) (hA : LiesI w A ls) (hN : LiesN w N before) (hB : LiesI w B [(k0 : Int), (k1 : Int), (k2 : Int)]) (ht : TabOps w) (hv : ∀ n ∈ before, isW n.wd = true) (h : isIx (o : Int) 19 = true) (h2 : isW wd = true) (h3 : node3 ls before (⟨(o : Int), wd, [(k0 : Int), (k1 : Int), (k2 : Int)], v⟩ : Nd) = 0) :
    Calls Tryz.prog 106 #[.slice A ls.length cap, .slice N before.length capN, .agg #[.int .i64 (o : Int), .int .i64 wd, .slice B 3 bc, .int .i64 v]] w fun e w' => e = .returned (.int .i64 (nodeE ls before (⟨(o : Int), wd, [(k0 : Int), (k1 : Int), (k2 : Int)], v⟩ : Nd))) ∧ ∃ x : Aft w, w' = x.val := by
  have hz := node3_zero h3
  have HR := Lib.hid (nodeE_4 h h2 h3)
  have HW3 := Lib.hid (show wAt before [(k0 : Int), (k1 : Int), (k2 : Int)] 0 = n0.wd ∧ wAt before [(k0 : Int), (k1 : Int), (k2 : Int)] 1 = n1.wd ∧ wAt before [(k0 : Int), (k1 : Int), (k2 : Int)] 2 = n2.wd from ⟨wAt_in (by rfl) g0, wAt_in (by rfl) g1, wAt_in (by rfl) g2⟩)
  have bd : ∀ {k : Nat} {n : Nd}, before[k]? = some n → 0 ≤ n.wd ∧ n.wd ≤ 16 := fun hk => by
    have := isW_iff.1 (hv _ (List.mem_of_getElem? hk)); omega
  have ba : 0 ≤ n0.wd ∧ n0.wd ≤ 16 := bd g0
  have bb : 0 ≤ n1.wd ∧ n1.wd ≤ 16 := bd g1
  have bv : (o : Int) = 14 → 0 ≤ v ∧ v ≤ 15 := fun h14 => by
    have hn := hz.2.2
    simp only at hn
    rw [h14] at hn
    have hn' : eIf (!isIx v 16) 2 = 0 := hn
    cases hx : isIx v 16
    · rw [hx] at hn'; cases hn'
    · have := isIx_iff.1 hx; omega
  have HFit := Lib.hid (fun (B' : Option Addr) W => widthsFit_c (o : Int) wd v n0.wd n1.wd n2.wd (isIx_iff.1 h).1 (by have := (isIx_iff.1 h).2; omega) (isW_iff.1 h2).1 (isW_iff.1 h2).2 ba bb bv B' 3 bc W)
  obtain ⟨o0, o1⟩ := isIx_iff.1 h
  obtain ⟨w1, w2⟩ := isW_iff.1 h2
  have hla : [(k0 : Int), (k1 : Int), (k2 : Int)].length ≤ 65536 := by simp
  have HI := Lib.hid (fun w => by have k := isIndex_c (o : Int) 19 w; rw [h] at k; exact k)
  have HW := Lib.hid (fun w => by have k := isWidth_c wd w; rw [h2] at k; exact k)
  have hb0 : Below w.heap.size w ((w.alloc (.cells #[.slice N before.length capN] 23)).alloc (.cells #[.int .i64 (o : Int), .int .i64 wd, .slice B 3 bc, .int .i64 v] 61)) := ((Below.refl _ _).alloc (Nat.le_refl _) _).alloc (by simp) _
  have HX := Lib.hid (fun y : Aft ((w.alloc (.cells #[.slice N before.length capN] 23)).alloc (.cells #[.int .i64 (o : Int), .int .i64 wd, .slice B 3 bc, .int .i64 v] 61)) => errorOfIndexes_c before.length 9 (by decide) B bc [(k0 : Int), (k1 : Int), (k2 : Int)] hla y.val ((hB.below hb0).aft y))
  have HN := Lib.hid (fun y : Aft ((w.alloc (.cells #[.slice N before.length capN] 23)).alloc (.cells #[.int .i64 (o : Int), .int .i64 wd, .slice B 3 bc, .int .i64 v] 61)) => errorOfNumber_c A cap ls hls (o : Int) wd v w1 w2 B 3 bc y.val ((hA.below hb0).aft y))
  have hF : firstE [eIf ((3 : Int) != argN (o : Int)) 10, argsE [(k0 : Int), (k1 : Int), (k2 : Int)] before.length 9, numE ls (o : Int) wd v] = node3 ls before (⟨(o : Int), wd, [(k0 : Int), (k1 : Int), (k2 : Int)], v⟩ : Nd) := rfl
  have HF := Lib.hid hF
  clear hF
  have HTT := Lib.hid ht
  have HAr := Lib.hid (fun (W : World) (hb : Below w.heap.size w W) (hl : w.heap.size < W.heap.size) (hc : W.cell? ⟨w.heap.size, 0, none⟩ = some (.slice N before.length capN)) => argsOf3 (o : Int) wd v B bc w.heap.size N capN before hbe k0 n0 g0 k1 n1 g1 k2 n2 g2 W hl hc (hN.below hb) (hB.below hb))
  clear hA hN hB ht h h2 hz ba bb bv bd hv
  rw [h3] at HF
  clear h3
  go_enter Tryz.func106, Tryz.ntmps106
  go_wp2_with (first | (go_at_call 59; ((with_reducible refine (HI.out _).mono ?_); rintro e w' ⟨rfl, rfl⟩)) | (go_at_call 103; ((with_reducible refine (HW.out _).mono ?_); rintro e w' ⟨rfl, rfl⟩)))
  have tb := (HTT.out.below hb0).big
  have tc := (HTT.out.below hb0).args o (by omega)
  have r0 : ((w.alloc (.cells #[.slice N before.length capN] 23)).alloc (.cells #[.int .i64 (o : Int), .int .i64 wd, .slice B 3 bc, .int .i64 v] 61)).heap[w.heap.size]? = some (.cells #[.slice N before.length capN] 23) := heap_alloc' (by simp) (heap_alloc_new _ _)
  have r1 : ((w.alloc (.cells #[.slice N before.length capN] 23)).alloc (.cells #[.int .i64 (o : Int), .int .i64 wd, .slice B 3 bc, .int .i64 v] 61)).heap[w.heap.size + 1]? = some (.cells #[.int .i64 (o : Int), .int .i64 wd, .slice B 3 bc, .int .i64 v] 61) := heap_alloc_at (by simp)
  have z0 : w.heap.size < ((w.alloc (.cells #[.slice N before.length capN] 23)).alloc (.cells #[.int .i64 (o : Int), .int .i64 wd, .slice B 3 bc, .int .i64 v] 61)).heap.size := by simp; omega
  have z1 : w.heap.size + 1 < ((w.alloc (.cells #[.slice N before.length capN] 23)).alloc (.cells #[.int .i64 (o : Int), .int .i64 wd, .slice B 3 bc, .int .i64 v] 61)).heap.size := by simp
  generalize ((w.alloc (.cells #[.slice N before.length capN] 23)).alloc (.cells #[.int .i64 (o : Int), .int .i64 wd, .slice B 3 bc, .int .i64 v] 61)) = W0 at *
  have q0 := cell_block (i := 0) r0
  have p0 := cell_block (i := 0) r1
  have p1 := cell_block (i := 1) r1
  have p2 := cell_block (i := 2) r1
  have p3 := cell_block (i := 3) r1
  simp at q0 p0 p1 p2 p3
  refine wp_region_aft_tail 18 (by kernel_rfl) (by kernel_rfl) ?_
  simp only [List.take_succ_cons, List.take_zero, List.drop_succ_cons, List.drop_zero]
  repeat (go_big_quiet_step (first | (go_at_call 50; exact Calls.qs (errorIf_c _ _ _)) | (go_at_call 72; exact Calls.qa (HX.out _)) | (go_at_call 118; exact Calls.qa (HN.out _))))
  refine wpQuiet_nil ?_
  intro x
  go_wp2_with fail
  refine (firstError3 _ _ _ _ _ _ _ (by exact heap_alloc_at (by simp [go_sem]))).mono ?_
  rw [show firstE _ = 0 from HF.out]
  rintro e V ⟨rfl, hV⟩
  have hbx : Below w.heap.size w V := by rw [← hV]; exact (x.below hb0 hb0.size).alloc (x.below hb0 hb0.size).size _
  have y0 : w.heap.size < V.heap.size := by rw [← hV]; exact lt_alloc (x.lt' z0)
  have y1 : w.heap.size + 1 < V.heap.size := by rw [← hV]; exact lt_alloc (x.lt' z1)
  have qv : V.cell? ⟨w.heap.size, 0, none⟩ = some (.slice N before.length capN) := by rw [← hV]; exact cell_alloc (x.lt' z0) (cell_aft x z0 q0)
  have pv0 : V.cell? ⟨w.heap.size + 1, 0, none⟩ = some (.int .i64 o) := by rw [← hV]; exact cell_alloc (x.lt' z1) (cell_aft x z1 p0)
  have pv1 : V.cell? ⟨w.heap.size + 1, 1, none⟩ = some (.int .i64 wd) := by rw [← hV]; exact cell_alloc (x.lt' z1) (cell_aft x z1 p1)
  have pv2 : V.cell? ⟨w.heap.size + 1, 2, none⟩ = some (.slice B 3 bc) := by rw [← hV]; exact cell_alloc (x.lt' z1) (cell_aft x z1 p2)
  have pv3 : V.cell? ⟨w.heap.size + 1, 3, none⟩ = some (.int .i64 v) := by rw [← hV]; exact cell_alloc (x.lt' z1) (cell_aft x z1 p3)
  clear hV q0 p0 p1 p2 p3 tb tc HX HN z0 z1 hb0 HTT
  go_wp2_with fail
  refine (HAr.out _ hbx y0 qv).mono ?_
  rintro e U ⟨rfl, y, hU⟩
  have hbu : Below w.heap.size w U := by rw [hU]; exact y.below hbx hbx.size
  have u1 : w.heap.size + 1 < U.heap.size := by rw [hU]; exact y.lt' y1
  have pu0 : U.cell? ⟨w.heap.size + 1, 0, none⟩ = some (.int .i64 o) := by rw [hU]; exact cell_aft y y1 pv0
  have pu1 : U.cell? ⟨w.heap.size + 1, 1, none⟩ = some (.int .i64 wd) := by rw [hU]; exact cell_aft y y1 pv1
  have pu2 : U.cell? ⟨w.heap.size + 1, 2, none⟩ = some (.slice B 3 bc) := by rw [hU]; exact cell_aft y y1 pv2
  have pu3 : U.cell? ⟨w.heap.size + 1, 3, none⟩ = some (.int .i64 v) := by rw [hU]; exact cell_aft y y1 pv3
  clear hU qv pv0 pv1 pv2 pv3 y0 y1 hbx
  go_wp2_with fail
  refine (HFit.out _ _).mono ?_
  rintro e w' ⟨rfl, y2, rfl⟩
  go_wp2_with fail
  refine (errorIf_c _ _ _).mono ?_
  rintro e w' ⟨rfl, rfl⟩
  go_wp2
  go_ret
  exact ⟨retI (by rw [HR.out]; simp only [HW3.out.1, HW3.out.2.1, HW3.out.2.2]), Below.aft (y2.below (hbu.alloc hbu.size _) (hbu.alloc hbu.size _).size)⟩

end Go.Proofs.YtkdonapgonegkaaGreatDoor

set_option linter.unusedSimpArgs false
set_option linter.unusedVariables false
namespace Go.Proofs.YtkdonapgonegkaaGreatDoor
open Go.RowKit Go.BigFrame

theorem idx_nat {before : List Nd} {i : Int} (h : isIx i before.length = true) : ∃ (k : Nat) (n : Nd), i = (k : Int) ∧ before[k]? = some n := by
  obtain ⟨h0, h1⟩ := isIx_iff.1 h
  obtain ⟨k, rfl⟩ := Int.eq_ofNat_of_zero_le h0
  exact ⟨k, _, rfl, List.getElem?_eq_getElem (by omega)⟩
theorem errorOfNode_c (A : Option Addr) (cap : Nat) (ls : List Int) (hls : ls.length ≤ 65536) (N : Option Addr) (capN : Nat) (before : List Nd) (hbe : before.length ≤ 65536) (nd : Nd) (hla : nd.args.length ≤ 65536) (B : Option Addr) (bc : Nat) (w : World) (hA : LiesI w A ls) (hN : LiesN w N before) (hB : LiesI w B nd.args) (ht : TabOps w) (hv : ∀ n ∈ before, isW n.wd = true) :
    Calls Tryz.prog 106 #[.slice A ls.length cap, .slice N before.length capN, .agg #[.int .i64 nd.op, .int .i64 nd.wd, .slice B nd.args.length bc, .int .i64 nd.v]] w fun e w' => e = .returned (.int .i64 (nodeE ls before nd)) ∧ ∃ x : Aft w, w' = x.val := by
  cases h : isIx nd.op 19
  · exact errorOfNode_15 A cap ls hls N capN before hbe nd hla B bc w hA hN hB ht h
  cases h2 : isW nd.wd
  · exact errorOfNode_2 A cap ls hls N capN before hbe nd hla B bc w hA hN hB ht h h2
  by_cases h3 : node3 ls before nd = 0
  · obtain ⟨op, wd, args, v⟩ := nd
    simp only at *
    obtain ⟨o, rfl⟩ := Int.eq_ofNat_of_zero_le (isIx_iff.1 h).1
    obtain ⟨z1, z2, _⟩ := node3_zero h3
    simp only at z1 z2
    have h4 := argN_le (o : Int)
    match args, hB, h3, z1, z2 with
    | [], hB, h3, _, _ => exact errorOfNode_ok0 A cap ls hls N capN before hbe o wd v B bc w hA hN hB ht hv h h2 h3
    | [a], hB, h3, _, z2 =>
      obtain ⟨k0, n0, rfl, g0⟩ := idx_nat (z2 a (by simp))
      exact errorOfNode_ok1 A cap ls hls N capN before hbe o wd v k0 n0 g0 B bc w hA hN hB ht hv h h2 h3
    | [a, b], hB, h3, _, z2 =>
      obtain ⟨k0, n0, rfl, g0⟩ := idx_nat (z2 a (by simp))
      obtain ⟨k1, n1, rfl, g1⟩ := idx_nat (z2 b (by simp))
      exact errorOfNode_ok2 A cap ls hls N capN before hbe o wd v k0 n0 g0 k1 n1 g1 B bc w hA hN hB ht hv h h2 h3
    | [a, b, c], hB, h3, _, z2 =>
      obtain ⟨k0, n0, rfl, g0⟩ := idx_nat (z2 a (by simp))
      obtain ⟨k1, n1, rfl, g1⟩ := idx_nat (z2 b (by simp))
      obtain ⟨k2, n2, rfl, g2⟩ := idx_nat (z2 c (by simp))
      exact errorOfNode_ok3 A cap ls hls N capN before hbe o wd v k0 n0 g0 k1 n1 g1 k2 n2 g2 B bc w hA hN hB ht hv h h2 h3
    | a :: b :: c :: d :: r, _, _, z1, _ => exfalso; simp at z1; omega
  · exact errorOfNode_3 A cap ls hls N capN before hbe nd hla B bc w hA hN hB ht h h2 h3

set_option maxRecDepth 100000 in
set_option maxHeartbeats 1600000 in
theorem LiesN.take {w : World} {A : Option Addr} {ns : List Nd} (h : LiesN w A ns) (k : Nat) : LiesN w A (ns.take k) := fun hp => by
  obtain ⟨ad, rfl, hb, hc⟩ := h (by simp at hp; omega)
  refine ⟨ad, rfl, hb, fun i n hi => hc i n ?_⟩
  rw [List.getElem?_take] at hi
  split at hi
  · exact hi
  · cases hi
theorem CheckNodes2_c (k : Nat) (P Q : Nat) (A : Option Addr) (cap : Nat) (ls : List Int) (hls : ls.length ≤ 65536) (N : Option Addr) (capN : Nat) (ns : List Nd) (hns : ns.length ≤ 65536) (hk : k < ns.length) (hcap : ns.length ≤ capN) (nd : Nd) (hla : nd.args.length ≤ 65536) (B : Option Addr) (bc : Nat) (w : World)
    (c0 : w.cell? ⟨P, 0, none⟩ = some (.slice A ls.length cap)) (c1 : w.cell? ⟨Q, 0, none⟩ = some (.slice N ns.length capN)) (l0 : P < w.heap.size) (l1 : Q < w.heap.size) (hA : LiesI w A ls) (hN : LiesN w N ns) (hB : LiesI w B nd.args) (ht : TabOps w) (hv : ∀ n ∈ ns.take k, isW n.wd = true) :
    Calls Tryz.prog 105 #[.int .i64 k, .agg #[.int .i64 nd.op, .int .i64 nd.wd, .slice B nd.args.length bc, .int .i64 nd.v], .pointer (some ⟨P, 0, none⟩), .pointer (some ⟨Q, 0, none⟩)] w fun e w' => e = .returned (.int .i64 (nodeE ls (ns.take k) nd)) ∧ ∃ x : Aft w, w' = x.val := by
  have hb0 : Below w.heap.size w (w.alloc (.cells #[.int .i64 nd.op, .int .i64 nd.wd, .slice B nd.args.length bc, .int .i64 nd.v] 61)) := (Below.refl _ _).alloc (Nat.le_refl _) _
  have hlk : (ns.take k).length = k := by simp; omega
  have HE := Lib.hid (fun y : Aft (w.alloc (.cells #[.int .i64 nd.op, .int .i64 nd.wd, .slice B nd.args.length bc, .int .i64 nd.v] 61)) => by
    have h := errorOfNode_c A cap ls hls N capN (ns.take k) (by omega) nd hla B bc y.val ((hA.below hb0).aft y) (((hN.take k).below hb0).aft y) ((hB.below hb0).aft y) ((ht.below hb0).below y.pf) hv
    rw [hlk] at h; exact h)
  have HC0 := Lib.hid (cell_alloc (o := .cells #[.int .i64 nd.op, .int .i64 nd.wd, .slice B nd.args.length bc, .int .i64 nd.v] 61) l0 c0)
  have HC1 := Lib.hid (cell_alloc (o := .cells #[.int .i64 nd.op, .int .i64 nd.wd, .slice B nd.args.length bc, .int .i64 nd.v] 61) l1 c1)
  obtain ⟨ad, rfl, _⟩ := hN (by omega)
  clear hA hN hB ht hv c0 c1 hlk
  go_enter Tryz.func105, Tryz.ntmps105
  go_wp2_with fail
  have r0 : (w.alloc (.cells #[.int .i64 nd.op, .int .i64 nd.wd, .slice B nd.args.length bc, .int .i64 nd.v] 61)).heap[w.heap.size]? = some (.cells #[.int .i64 nd.op, .int .i64 nd.wd, .slice B nd.args.length bc, .int .i64 nd.v] 61) := heap_alloc_new _ _
  have z0 : P < (w.alloc (.cells #[.int .i64 nd.op, .int .i64 nd.wd, .slice B nd.args.length bc, .int .i64 nd.v] 61)).heap.size := lt_alloc l0
  have z1 : Q < (w.alloc (.cells #[.int .i64 nd.op, .int .i64 nd.wd, .slice B nd.args.length bc, .int .i64 nd.v] 61)).heap.size := lt_alloc l1
  have z2 : w.heap.size < (w.alloc (.cells #[.int .i64 nd.op, .int .i64 nd.wd, .slice B nd.args.length bc, .int .i64 nd.v] 61)).heap.size := by simp
  generalize w.alloc (.cells #[.int .i64 nd.op, .int .i64 nd.wd, .slice B nd.args.length bc, .int .i64 nd.v] 61) = W0 at *
  have c0 := HC0.out
  have c1 := HC1.out
  have p0 := cell_block (i := 0) r0
  have p1 := cell_block (i := 1) r0
  have p2 := cell_block (i := 2) r0
  have p3 := cell_block (i := 3) r0
  simp at p0 p1 p2 p3
  have hki : (k : Int) ≤ capN := by omega
  have hk0 : (0 : Int) ≤ k := by omega
  refine wp_region_aft (by kernel_rfl) (by kernel_rfl) ?_
  repeat (go_big_quiet_step ((go_at_call 106; exact Calls.qa (HE.out _))))
  refine wpQuiet_nil ?_
  intro y
  go_wp2
  go_ret
  exact ⟨rfl, Below.aft (y.below hb0 hb0.size)⟩

end Go.Proofs.YtkdonapgonegkaaGreatDoor

set_option linter.unusedSimpArgs false
set_option linter.unusedVariables false
namespace Go.Proofs.YtkdonapgonegkaaGreatDoor
open Go.RowKit Go.BigFrame

theorem nodesE_at {ls : List Int} {ns : List Nd} {k : Nat} {n : Nd} (h : ns[k]? = some n) : nodesE ls ns k = nodeE ls (ns.take k) n := by unfold nodesE; rw [h]
theorem nodeE_wd {ls : List Int} {before : List Nd} {n : Nd} (h : nodeE ls before n = 0) : isW n.wd = true := by
  cases h1 : isIx n.op 19
  · rw [nodeE_15 h1] at h; cases h
  · cases h2 : isW n.wd
    · rw [nodeE_2 h1 h2] at h; cases h
    · rfl
theorem take_more {ns : List Nd} {k : Nat} {n : Nd} (h : ns[k]? = some n) (hv : ∀ x ∈ ns.take k, isW x.wd = true) (hn : isW n.wd = true) : ∀ x ∈ ns.take (k + 1), isW x.wd = true := by
  obtain ⟨hk, e⟩ := List.getElem?_eq_some_iff.1 h
  intro x hx
  rw [List.take_succ_eq_append_getElem hk, e, List.mem_append] at hx
  rcases hx with hx | hx
  · exact hv x hx
  · rw [List.mem_singleton.1 hx]; exact hn

set_option maxRecDepth 100000 in
set_option maxHeartbeats 1600000 in
theorem firstWrong_node (P Q : Nat) (A : Option Addr) (cap : Nat) (ls : List Int) (hls : ls.length ≤ 65536) (N : Option Addr) (capN : Nat) (ns : List Nd) (hns : ns.length ≤ 65536) (hcap : ns.length ≤ capN) (hla : ∀ n ∈ ns, n.args.length ≤ 65536) (w : World)
    (c0 : w.cell? ⟨P, 0, none⟩ = some (.slice A ls.length cap)) (c1 : w.cell? ⟨Q, 0, none⟩ = some (.slice N ns.length capN)) (l0 : P < w.heap.size) (l1 : Q < w.heap.size) (hA : LiesI w A ls) (hN : LiesN w N ns) (ht : TabOps w) :
    Calls Tryz.prog 104 #[.slice N ns.length capN, .func (.func 105) #[] #[.pointer (some ⟨P, 0, none⟩), .pointer (some ⟨Q, 0, none⟩)]] w fun e w' => e = .returned (.tuple #[.int .i64 (firstAt (nodesE ls ns) ns.length 0).1, .int .i64 (firstAt (nodesE ls ns) ns.length 0).2]) ∧ ∃ x : Aft w, w' = x.val := by
  have HH := Lib.hid hN
  have HCl := Lib.hid (fun (k : Nat) (hk : k < ns.length) (nd : Nd) (hnd : nd ∈ ns) (B : Option Addr) (bc : Nat) (hv : ∀ n ∈ ns.take k, isW n.wd = true) (W : World) (hb : Below w.heap.size w W) (hB : LiesI W B nd.args) =>
    CheckNodes2_c k P Q A cap ls hls N capN ns hns hk hcap nd (hla nd hnd) B bc W ((hb.cell (p := ⟨P, 0, none⟩) l0).trans c0) ((hb.cell (p := ⟨Q, 0, none⟩) l1).trans c1) (Nat.lt_of_lt_of_le l0 hb.size) (Nat.lt_of_lt_of_le l1 hb.size) (hA.below hb) (hN.below hb) hB (ht.below hb) hv)
  clear hN hA c0 c1 ht hla
  go_enter Tryz.func104, Tryz.ntmps104
  go_wp2
  go_loopw [11] (fun v11 wr => ∃ k : Nat, k ≤ ns.length ∧ v11 = .int .i64 k ∧ firstAt (nodesE ls ns) ns.length 0 = firstAt (nodesE ls ns) (ns.length - k) k ∧ (∀ x ∈ ns.take k, isW x.wd = true) ∧ Below w.heap.size w wr) (fun v11 _ => ns.length - (intOf v11).toNat)
  case atStart => exact ⟨0, by omega, rfl, rfl, by simp, Below.refl _ _⟩
  case round =>
    obtain ⟨k, hk, rfl, hf, hv, hb⟩ := hrel
    have HF := Lib.hid hf
    have HB := Lib.hid hb
    have HV := Lib.hid hv
    clear hf hb hv
    by_cases hlt : k < ns.length
    · have hkk : (k : Int) < ns.length := by omega
      have HX := Lib.hid (List.getElem?_eq_getElem hlt)
      have HM := Lib.hid (List.getElem_mem hlt)
      generalize ns[k] = x at *
      obtain ⟨ad, rfl, hbk, h0, h1, h3, B, bc, h2, hB⟩ := (HH.out.below HB.out).cells HX.out
      have HLi := Lib.hid hB
      have HE := Lib.hid (nodesE_at (ls := ls) HX.out)
      have h1' : wr.cell? ⟨(ad.add (k * 4)).block, (ad.add (k * 4)).off + 1, none⟩ = some (.int .i64 x.wd) := h1
      have h2' : wr.cell? ⟨(ad.add (k * 4)).block, (ad.add (k * 4)).off + 2, none⟩ = some (.slice B x.args.length bc) := h2
      have h3' : wr.cell? ⟨(ad.add (k * 4)).block, (ad.add (k * 4)).off + 3, none⟩ = some (.int .i64 x.v) := h3
      clear hB hbk h1 h2 h3
      go_wp2_with fail
      refine (HCl.out k hlt x HM.out B bc HV.out _ (HB.out.alloc HB.out.size _) (HLi.out.below ((Below.refl _ _).alloc (Nat.le_refl _) _))).mono ?_
      rintro e w' ⟨rfl, y, rfl⟩
      have hby : Below w.heap.size w y.val := y.below (HB.out.alloc HB.out.size _) (HB.out.alloc HB.out.size _).size
      have HY := Lib.hid hby
      clear hby
      by_cases hz : nodeE ls (ns.take k) x = 0
      · have hn := Lib.hid (firstAt_go hlt (HE.out.trans hz))
        have HW := Lib.hid (take_more HX.out HV.out (nodeE_wd hz))
        rw [hz]
        clear hz h0 h1' h2' h3'
        go_wp2
        go_roundw
        case rel => exact ⟨k + 1, by omega, by go_num, HF.out.trans hn.out, HW.out, HY.out⟩
        case measure => simp [intOf]; omega
      · have hn := Lib.hid (firstAt_stop hlt (show ¬ nodesE ls ns k = 0 by rw [HE.out]; exact hz))
        have n1 : (nodeE ls (ns.take k) x == 0) = false := by simpa using hz
        have n2 : (nodeE ls (ns.take k) x != 0) = true := by simpa using hz
        clear hz h0 h1' h2' h3'
        generalize nodeE ls (ns.take k) x = er at *
        go_wp2
        go_ret2
        exact ⟨tupII (by rw [HF.out, hn.out]) (by rw [HF.out, hn.out, HE.out]), Below.aft HY.out⟩
    · have hn := Lib.hid (firstAt_end (f := nodesE ls ns) (n := ns.length) (k := k) (by omega))
      go_wp2
      go_ret2
      exact ⟨tupII (by rw [HF.out, hn.out]) (by rw [HF.out, hn.out]), Below.aft HB.out⟩

set_option maxRecDepth 100000 in
set_option maxHeartbeats 1600000 in
theorem CheckNodes_c (A : Option Addr) (cap : Nat) (ls : List Int) (hls : ls.length ≤ 65536) (N : Option Addr) (capN : Nat) (ns : List Nd) (hns : ns.length ≤ 65536) (hcap : ns.length ≤ capN) (hla : ∀ n ∈ ns, n.args.length ≤ 65536) (w : World) (hA : LiesI w A ls) (hN : LiesN w N ns) (ht : TabOps w) :
    Calls Tryz.prog 64 #[.slice A ls.length cap, .slice N ns.length capN] w fun e w' => e = .returned (.tuple #[.int .i64 (chk ls ns).1, .int .i64 (chk ls ns).2]) ∧ ∃ x : Aft w, w' = x.val := by
  by_cases hA40 : 40 < ls.length
  · have h40 : (40 : Int) < ls.length := by omega
    have HR := Lib.hid (show chk ls ns = (0, 8) from if_pos hA40)
    clear hA hN ht hla hA40
    go_enter Tryz.func64, Tryz.ntmps64
    go_wp2
    go_ret2
    exact ⟨tupII (by rw [HR.out]) (by rw [HR.out]), Below.aft (by (repeat' (first | (with_reducible exact Below.refl _ _) | (with_reducible assumption) | (with_reducible refine Below.alloc ?_ ?_ _) | (with_reducible refine Below.drew ?_) | (with_reducible refine Aft.below _ ?_ ?_) | (with_reducible refine Below.setCell_new ?_ ?_ _ _) | (with_reducible exact Nat.le_refl _) | (with_reducible refine Aft.le _ ?_) | (with_reducible refine le_alloc ?_) | (with_reducible refine le_drew ?_) | (with_reducible refine le_setCell ?_) | omega)))⟩
  have h40 : ¬ (40 : Int) < ls.length := by omega
  have hb0 : Below w.heap.size w ((w.alloc (.cells #[.slice A ls.length cap] 22)).alloc (.cells #[.slice N ns.length capN] 23)) := ((Below.refl _ _).alloc (Nat.le_refl _) _).alloc (by simp) _
  have HL := Lib.hid (firstWrong_leaf (leafE ls) A cap ls hls ((w.alloc (.cells #[.slice A ls.length cap] 22)).alloc (.cells #[.slice N ns.length capN] 23)) (hA.below hb0) (fun k x hx W hb => by
    have e0 : leafE ls k = eIf (!isW x) 2 := by unfold leafE; simp [List.getD, hx]
    rw [e0]
    exact (CheckNodes1_c k x W).mono fun e w' ⟨he, hw⟩ => ⟨he, ⟨W, Below.refl _ _⟩, hw.symm⟩))
  by_cases hE : (firstAt (leafE ls) ls.length 0).2 = 0
  · have HN := Lib.hid (fun (W : World) (hb : Below w.heap.size w W) (l0 : w.heap.size < W.heap.size) (l1 : w.heap.size + 1 < W.heap.size) (c0 : W.cell? ⟨w.heap.size, 0, none⟩ = some (.slice A ls.length cap)) (c1 : W.cell? ⟨w.heap.size + 1, 0, none⟩ = some (.slice N ns.length capN)) =>
      firstWrong_node w.heap.size (w.heap.size + 1) A cap ls hls N capN ns hns hcap hla W c0 c1 l0 l1 (hA.below hb) (hN.below hb) (ht.below hb))
    have hR : chk ls ns = if 400 < ns.length then (0, 8) else firstAt (nodesE ls ns) ns.length 0 := by unfold chk; rw [if_neg hA40, if_pos hE]
    have HE := Lib.hid hE
    have hb0' := Lib.hid hb0
    by_cases h4 : 400 < ns.length
    · have h400 : (400 : Int) < ns.length := by omega
      rw [if_pos h4] at hR
      have HR := Lib.hid hR
      clear hA hN ht hla hA40 hE hb0 hR h4
      go_enter Tryz.func64, Tryz.ntmps64
      go_wp2_with fail
      refine HL.out.mono ?_
      rw [HE.out]
      rintro e W1 ⟨rfl, y, hW⟩
      have r0 : ((w.alloc (.cells #[.slice A ls.length cap] 22)).alloc (.cells #[.slice N ns.length capN] 23)).heap[w.heap.size]? = some (.cells #[.slice A ls.length cap] 22) := heap_alloc' (by simp) (heap_alloc_new _ _)
      have r1 : ((w.alloc (.cells #[.slice A ls.length cap] 22)).alloc (.cells #[.slice N ns.length capN] 23)).heap[w.heap.size + 1]? = some (.cells #[.slice N ns.length capN] 23) := heap_alloc_at (by simp)
      have hb1 : Below w.heap.size w W1 := by rw [hW]; exact y.below hb0'.out hb0'.out.size
      have l0 : w.heap.size < W1.heap.size := by rw [hW]; exact y.lt' (by simp; omega)
      have l1 : w.heap.size + 1 < W1.heap.size := by rw [hW]; exact y.lt' (by simp)
      have c0 : W1.cell? ⟨w.heap.size, 0, none⟩ = some (.slice A ls.length cap) := by rw [hW]; exact cell_aft y (by simp; omega) (cell_block (i := 0) r0)
      have c1 : W1.cell? ⟨w.heap.size + 1, 0, none⟩ = some (.slice N ns.length capN) := by rw [hW]; exact cell_aft y (by simp) (cell_block (i := 0) r1)
      clear hW r0 r1 HL y
      go_wp2
      go_ret2
      exact ⟨tupII (by rw [HR.out]) (by rw [HR.out]), Below.aft hb1⟩
    · have h400 : ¬ (400 : Int) < ns.length := by omega
      rw [if_neg h4] at hR
      have HR := Lib.hid hR
      clear hA hN ht hla hA40 hE hb0 hR h4
      go_enter Tryz.func64, Tryz.ntmps64
      go_wp2_with fail
      refine HL.out.mono ?_
      rw [HE.out]
      rintro e W1 ⟨rfl, y, hW⟩
      have r0 : ((w.alloc (.cells #[.slice A ls.length cap] 22)).alloc (.cells #[.slice N ns.length capN] 23)).heap[w.heap.size]? = some (.cells #[.slice A ls.length cap] 22) := heap_alloc' (by simp) (heap_alloc_new _ _)
      have r1 : ((w.alloc (.cells #[.slice A ls.length cap] 22)).alloc (.cells #[.slice N ns.length capN] 23)).heap[w.heap.size + 1]? = some (.cells #[.slice N ns.length capN] 23) := heap_alloc_at (by simp)
      have hb1 : Below w.heap.size w W1 := by rw [hW]; exact y.below hb0'.out hb0'.out.size
      have l0 : w.heap.size < W1.heap.size := by rw [hW]; exact y.lt' (by simp; omega)
      have l1 : w.heap.size + 1 < W1.heap.size := by rw [hW]; exact y.lt' (by simp)
      have c0 : W1.cell? ⟨w.heap.size, 0, none⟩ = some (.slice A ls.length cap) := by rw [hW]; exact cell_aft y (by simp; omega) (cell_block (i := 0) r0)
      have c1 : W1.cell? ⟨w.heap.size + 1, 0, none⟩ = some (.slice N ns.length capN) := by rw [hW]; exact cell_aft y (by simp) (cell_block (i := 0) r1)
      clear hW r0 r1 HL y
      go_wp2_with fail
      refine (HN.out _ hb1 l0 l1 c0 c1).mono ?_
      rintro e w' ⟨rfl, y, rfl⟩
      go_wp2
      go_ret2
      exact ⟨tupII (by rw [HR.out]) (by rw [HR.out]), Below.aft (y.below hb1 hb1.size)⟩
  · have HR := Lib.hid (show chk ls ns = firstAt (leafE ls) ls.length 0 by unfold chk; rw [if_neg hA40, if_neg hE])
    have n1 : ((firstAt (leafE ls) ls.length 0).2 == 0) = false := by simpa using hE
    have n2 : ((firstAt (leafE ls) ls.length 0).2 != 0) = true := by simpa using hE
    clear hA hN ht hla hA40 hE
    have hb0' := Lib.hid hb0
    clear hb0
    generalize firstAt (leafE ls) ls.length 0 = q at *
    go_enter Tryz.func64, Tryz.ntmps64
    go_wp2_with fail
    refine HL.out.mono ?_
    rintro e w' ⟨rfl, y, rfl⟩
    go_wp2
    go_ret2
    exact ⟨tupII (by rw [HR.out]) (by rw [HR.out]), Below.aft (y.below hb0'.out hb0'.out.size)⟩

end Go.Proofs.YtkdonapgonegkaaGreatDoor

set_option linter.unusedSimpArgs false
set_option linter.unusedVariables false
namespace Go.Proofs.YtkdonapgonegkaaGreatDoor
open Go.RowKit Go.BigFrame

theorem int_info : (Tryz.prog.info? 3).map (fun i => (i.zero, i.size, i.bytes)) = some (some (.int .i64 0), 1, 8) := by kernel_rfl

theorem lt_of_get' {w : World} {g : Nat} {ob : Obj} (h : w.heap[g]? = some ob) : g < w.heap.size := (Array.getElem?_eq_some_iff.1 h).1
theorem own_below {w w' : World} {B : Nat} {e : TypeId} {k : Nat} {v : Value} {n : Nat} {xs : List Value} (h : w.ownsRow B e k v n xs) (hb : Below w.heap.size w w') : w'.ownsRow B e k v n xs := by
  refine ⟨h.1, h.2.imp id ?_⟩
  rintro ⟨g, cap, cur, h1, h2, h3, h4⟩
  exact ⟨g, cap, cur, h1, h2, (hb.block g (lt_of_get' h3)).trans h3, h4⟩
set_option maxRecDepth 100000 in
set_option maxHeartbeats 1600000 in
theorem ArgCount_c (op : Int) (w : World) : Calls Tryz.prog 89 #[.int .i64 op] w fun e w' => e = .returned (.int .i64 (argN op)) ∧ w = w' := by
  by_cases o0 : op = 0
  · subst o0
    have HR := Lib.hid (show argN 0 = 0 from rfl)
    rw [HR.out]
    go_enter Tryz.func89, Tryz.ntmps89
    go_wp2
    go_ret
    exact ⟨rfl, rfl⟩
  by_cases o1 : op = 1
  · subst o1
    have HR := Lib.hid (show argN 1 = 0 from rfl)
    rw [HR.out]
    go_enter Tryz.func89, Tryz.ntmps89
    go_wp2
    go_ret
    exact ⟨rfl, rfl⟩
  by_cases o2 : op = 2
  · subst o2
    have HR := Lib.hid (show argN 2 = 1 from rfl)
    rw [HR.out]
    go_enter Tryz.func89, Tryz.ntmps89
    go_wp2
    go_ret
    exact ⟨rfl, rfl⟩
  by_cases o14 : op = 14
  · subst o14
    have HR := Lib.hid (show argN 14 = 1 from rfl)
    rw [HR.out]
    go_enter Tryz.func89, Tryz.ntmps89
    go_wp2
    go_ret
    exact ⟨rfl, rfl⟩
  by_cases o15 : op = 15
  · subst o15
    have HR := Lib.hid (show argN 15 = 1 from rfl)
    rw [HR.out]
    go_enter Tryz.func89, Tryz.ntmps89
    go_wp2
    go_ret
    exact ⟨rfl, rfl⟩
  by_cases o16 : op = 16
  · subst o16
    have HR := Lib.hid (show argN 16 = 1 from rfl)
    rw [HR.out]
    go_enter Tryz.func89, Tryz.ntmps89
    go_wp2
    go_ret
    exact ⟨rfl, rfl⟩
  by_cases o12 : op = 12
  · subst o12
    have HR := Lib.hid (show argN 12 = 3 from rfl)
    rw [HR.out]
    go_enter Tryz.func89, Tryz.ntmps89
    go_wp2
    go_ret
    exact ⟨rfl, rfl⟩
  have HR := Lib.hid (show argN op = 2 by unfold argN; rw [if_neg (by omega), if_neg (by omega), if_neg (by omega)])
  rw [HR.out]
  have n0 : (op == 0) = false := by simpa using o0
  have n1 : (op == 1) = false := by simpa using o1
  have n2 : (op == 2) = false := by simpa using o2
  have n14 : (op == 14) = false := by simpa using o14
  have n15 : (op == 15) = false := by simpa using o15
  have n16 : (op == 16) = false := by simpa using o16
  have n12 : (op == 12) = false := by simpa using o12
  clear o0 o1 o2 o14 o15 o16 o12
  go_enter Tryz.func89, Tryz.ntmps89
  go_wp2
  go_ret
  exact ⟨rfl, rfl⟩

theorem snoc_at {ws : List Int} {j : Nat} {x : Int} (h : ws[j]? = some x) : ((ws.take j).map fun q => Value.int .i64 q) ++ [.int .i64 x] = (ws.take (j + 1)).map fun q => Value.int .i64 q := by
  obtain ⟨hj, e⟩ := List.getElem?_eq_some_iff.1 h
  rw [List.take_succ_eq_append_getElem hj, e, List.map_append]; rfl
/-- Each of a node's arguments is a node, and here are their widths. -/
def Wid (ns : List Nd) (args ws : List Int) : Prop := ∀ j : Nat, j < args.length → ∃ (k : Nat) (n : Nd), args[j]? = some (k : Int) ∧ ns[k]? = some n ∧ ws[j]? = some n.wd

set_option maxRecDepth 100000 in
set_option maxHeartbeats 1600000 in
theorem rfit_2 (wd v a b c : Int) (hw1 : 1 ≤ wd) (hw2 : wd ≤ 16) (a0 : 0 ≤ a) (a1 : a ≤ 16) (b0 : 0 ≤ b) (b1 : b ≤ 16) (B : Option Addr) (bc : Nat) (args : List Int) (hla : args.length = 1) (N : Option Addr) (capN : Nat) (ns : List Nd) (hns : ns.length ≤ 65536) (w : World) (hN : LiesN w N ns) (hB : LiesI w B args) (hW : Wid ns args [a]) :
    Calls Tryz.prog 123 #[.slice N ns.length capN, .agg #[.int .i64 2, .int .i64 wd, .slice B args.length bc, .int .i64 v]] w fun e w' => e = .returned (.bool (fitW 2 wd v a b c)) ∧ ∃ x : Aft w, w' = x.val := by
  obtain ⟨i0, hi, hz0, hz1, hz2⟩ := info_parts int_info
  have HLA := Lib.hid hla
  have HN := Lib.hid hN
  have HB := Lib.hid hB
  have HV := Lib.hid hW
  clear hN hB hW hla
  go_enter Tryz.func123, Tryz.ntmps123
  go_wp2_with fail
  have r0 : (w.alloc (.cells #[.int .i64 2, .int .i64 wd, .slice B args.length bc, .int .i64 v] 61)).heap[w.heap.size]? = some (.cells #[.int .i64 2, .int .i64 wd, .slice B args.length bc, .int .i64 v] 61) := heap_alloc_new _ _
  have hb0 : Below w.heap.size w (w.alloc (.cells #[.int .i64 2, .int .i64 wd, .slice B args.length bc, .int .i64 v] 61)) := (Below.refl _ _).alloc (Nat.le_refl _) _
  have z0 : w.heap.size < (w.alloc (.cells #[.int .i64 2, .int .i64 wd, .slice B args.length bc, .int .i64 v] 61)).heap.size := by simp
  generalize (w.alloc (.cells #[.int .i64 2, .int .i64 wd, .slice B args.length bc, .int .i64 v] 61)) = W0 at *
  have R0 := Lib.hid r0
  clear r0
  go_loopw [5, 6] (fun v5 v6 wr => ∃ j : Nat, j ≤ args.length ∧ v6 = .int .i64 j ∧ wr.ownsRow W0.heap.size 3 1 v5 j (([a].take j).map fun q => Value.int .i64 q) ∧ Below W0.heap.size W0 wr) (fun _ v6 _ => args.length - (intOf v6).toNat)
  case atStart => exact ⟨0, by omega, rfl, World.ownsRow_nil _ _ _ _, Below.refl _ _⟩
  case round =>
    obtain ⟨j, hj, rfl, hown, hb⟩ := hrel
    have hbs := hb.size
    have r0 : wr.heap[w.heap.size]? = some (.cells #[.int .i64 2, .int .i64 wd, .slice B args.length bc, .int .i64 v] 61) := by rw [hb.block _ z0]; exact R0.out
    have q0 := cell_block (i := 0) r0
    have q1 := cell_block (i := 1) r0
    have q2 := cell_block (i := 2) r0
    have q3 := cell_block (i := 3) r0
    simp at q0 q1 q2 q3
    have lw : w.heap.size < wr.heap.size := by omega
    have hB' : Below w.heap.size w wr := hb0.trans (hb.mono (by omega))
    by_cases hlt : j < args.length
    · obtain ⟨k, n, g1, g2, g3⟩ := HV.out j hlt
      obtain ⟨ad, rfl, hbk, hc⟩ := (HB.out.below hB').cell g1
      obtain ⟨an, rfl, hbn, _, h1, _⟩ := (HN.out.below hB').cells g2
      have hkl := (List.getElem?_eq_some_iff.1 g2).1
      have hkk : (k : Int) < ns.length := by omega
      have hjj : (j : Int) < args.length := by omega
      have hj3 : j < 4 := by have := HLA.out; omega
      have h1' : wr.cell? ⟨(an.add (k * 4)).block, (an.add (k * 4)).off + 1, none⟩ = some (.int .i64 n.wd) := h1
      have HS := Lib.hid (snoc_at g3)
      clear h1 g1 g2 g3 r0 q0 q1 q3 hbk hbn hb0
      generalize n.wd = X at *
      go_wp2_with (at_builtin; refine wpList_append_own _ rfl _ _ 22 rfl _ 3 i0 (.int .i64 0) 1 8 Tryz.underlying22 hi hz0 hz1 hz2 rfl (by decide) _ _ _ rfl (hown.alloc _) ⟨_, 0, none⟩ 1 1 [.int .i64 _] rfl rfl (cell_one_new _ _ _) (fun x hx => by simp at hx; subst hx; rfl) (by unfold maxLen; omega) (by omega) (by first | omega | (simp; omega) | (simp at *; omega)) ?_; intro v' w3 hown' hgrow3 hnn)
      go_wp2
      go_roundw
      case rel => exact ⟨j + 1, by omega, by go_num, by rw [← HS.out]; exact hown', (hb.alloc hbs (.cells #[.int .i64 X] 3)).grown hgrow3 (by simp; omega) (fun q hq => (hown.lt q hq).1)⟩
      case measure => simp [intOf]; omega
    · obtain rfl : j = args.length := by omega
      obtain ⟨g, cap, rfl, hg1, hg2⟩ := hown.form (by have := HLA.out; omega)
      have w0 : wr.cell? ⟨g, 0, none⟩ = some (.int .i64 a) := by
        have := hown.cells (g := g) rfl 0 (.int .i64 a) (by simp [HLA.out])
        rwa [Addr.add_lit, Nat.zero_add] at this
      have lg : g < wr.heap.size := by simpa using hg2
      have hla := HLA.out
      have hlm : (args.length : Int) = 1 := by omega
      clear hown hg1 hg2 r0 hb0 hb hla
      have HR := Lib.hid (show fitW 2 wd v a b c = (a == wd) from rfl)
      go_wp2_with fail
      refine wp_region_aft (by kernel_rfl) (by kernel_rfl) ?_
      repeat (go_big_quiet_step (fail))
      refine wpQuiet_nil ?_
      intro y
      go_wp2
      go_ret
      exact ⟨retB HR.out.symm, Below.aft (y.below hB' hB'.size)⟩

set_option maxRecDepth 100000 in
set_option maxHeartbeats 1600000 in
theorem rfit_3 (wd v a b c : Int) (hw1 : 1 ≤ wd) (hw2 : wd ≤ 16) (a0 : 0 ≤ a) (a1 : a ≤ 16) (b0 : 0 ≤ b) (b1 : b ≤ 16) (B : Option Addr) (bc : Nat) (args : List Int) (hla : args.length = 2) (N : Option Addr) (capN : Nat) (ns : List Nd) (hns : ns.length ≤ 65536) (w : World) (hN : LiesN w N ns) (hB : LiesI w B args) (hW : Wid ns args [a, b]) :
    Calls Tryz.prog 123 #[.slice N ns.length capN, .agg #[.int .i64 3, .int .i64 wd, .slice B args.length bc, .int .i64 v]] w fun e w' => e = .returned (.bool (fitW 3 wd v a b c)) ∧ ∃ x : Aft w, w' = x.val := by
  obtain ⟨i0, hi, hz0, hz1, hz2⟩ := info_parts int_info
  have HLA := Lib.hid hla
  have HN := Lib.hid hN
  have HB := Lib.hid hB
  have HV := Lib.hid hW
  clear hN hB hW hla
  go_enter Tryz.func123, Tryz.ntmps123
  go_wp2_with fail
  have r0 : (w.alloc (.cells #[.int .i64 3, .int .i64 wd, .slice B args.length bc, .int .i64 v] 61)).heap[w.heap.size]? = some (.cells #[.int .i64 3, .int .i64 wd, .slice B args.length bc, .int .i64 v] 61) := heap_alloc_new _ _
  have hb0 : Below w.heap.size w (w.alloc (.cells #[.int .i64 3, .int .i64 wd, .slice B args.length bc, .int .i64 v] 61)) := (Below.refl _ _).alloc (Nat.le_refl _) _
  have z0 : w.heap.size < (w.alloc (.cells #[.int .i64 3, .int .i64 wd, .slice B args.length bc, .int .i64 v] 61)).heap.size := by simp
  generalize (w.alloc (.cells #[.int .i64 3, .int .i64 wd, .slice B args.length bc, .int .i64 v] 61)) = W0 at *
  have R0 := Lib.hid r0
  clear r0
  go_loopw [5, 6] (fun v5 v6 wr => ∃ j : Nat, j ≤ args.length ∧ v6 = .int .i64 j ∧ wr.ownsRow W0.heap.size 3 1 v5 j (([a, b].take j).map fun q => Value.int .i64 q) ∧ Below W0.heap.size W0 wr) (fun _ v6 _ => args.length - (intOf v6).toNat)
  case atStart => exact ⟨0, by omega, rfl, World.ownsRow_nil _ _ _ _, Below.refl _ _⟩
  case round =>
    obtain ⟨j, hj, rfl, hown, hb⟩ := hrel
    have hbs := hb.size
    have r0 : wr.heap[w.heap.size]? = some (.cells #[.int .i64 3, .int .i64 wd, .slice B args.length bc, .int .i64 v] 61) := by rw [hb.block _ z0]; exact R0.out
    have q0 := cell_block (i := 0) r0
    have q1 := cell_block (i := 1) r0
    have q2 := cell_block (i := 2) r0
    have q3 := cell_block (i := 3) r0
    simp at q0 q1 q2 q3
    have lw : w.heap.size < wr.heap.size := by omega
    have hB' : Below w.heap.size w wr := hb0.trans (hb.mono (by omega))
    by_cases hlt : j < args.length
    · obtain ⟨k, n, g1, g2, g3⟩ := HV.out j hlt
      obtain ⟨ad, rfl, hbk, hc⟩ := (HB.out.below hB').cell g1
      obtain ⟨an, rfl, hbn, _, h1, _⟩ := (HN.out.below hB').cells g2
      have hkl := (List.getElem?_eq_some_iff.1 g2).1
      have hkk : (k : Int) < ns.length := by omega
      have hjj : (j : Int) < args.length := by omega
      have hj3 : j < 4 := by have := HLA.out; omega
      have h1' : wr.cell? ⟨(an.add (k * 4)).block, (an.add (k * 4)).off + 1, none⟩ = some (.int .i64 n.wd) := h1
      have HS := Lib.hid (snoc_at g3)
      clear h1 g1 g2 g3 r0 q0 q1 q3 hbk hbn hb0
      generalize n.wd = X at *
      go_wp2_with (at_builtin; refine wpList_append_own _ rfl _ _ 22 rfl _ 3 i0 (.int .i64 0) 1 8 Tryz.underlying22 hi hz0 hz1 hz2 rfl (by decide) _ _ _ rfl (hown.alloc _) ⟨_, 0, none⟩ 1 1 [.int .i64 _] rfl rfl (cell_one_new _ _ _) (fun x hx => by simp at hx; subst hx; rfl) (by unfold maxLen; omega) (by omega) (by first | omega | (simp; omega) | (simp at *; omega)) ?_; intro v' w3 hown' hgrow3 hnn)
      go_wp2
      go_roundw
      case rel => exact ⟨j + 1, by omega, by go_num, by rw [← HS.out]; exact hown', (hb.alloc hbs (.cells #[.int .i64 X] 3)).grown hgrow3 (by simp; omega) (fun q hq => (hown.lt q hq).1)⟩
      case measure => simp [intOf]; omega
    · obtain rfl : j = args.length := by omega
      obtain ⟨g, cap, rfl, hg1, hg2⟩ := hown.form (by have := HLA.out; omega)
      have w0 : wr.cell? ⟨g, 0, none⟩ = some (.int .i64 a) := by
        have := hown.cells (g := g) rfl 0 (.int .i64 a) (by simp [HLA.out])
        rwa [Addr.add_lit, Nat.zero_add] at this
      have w1 : wr.cell? ⟨g, 1, none⟩ = some (.int .i64 b) := by
        have := hown.cells (g := g) rfl 1 (.int .i64 b) (by simp [HLA.out])
        rwa [Addr.add_lit, Nat.zero_add] at this
      have lg : g < wr.heap.size := by simpa using hg2
      have hla := HLA.out
      have hlm : (args.length : Int) = 2 := by omega
      clear hown hg1 hg2 r0 hb0 hb hla
      cases hE : (a == wd)
      · have HR := Lib.hid (show fitW 3 wd v a b c = false by show (a == wd && b == wd) = false; rw [hE]; rfl)
        go_wp2_with fail
        refine wp_region_aft (by kernel_rfl) (by kernel_rfl) ?_
        repeat (go_big_quiet_step (fail))
        refine wpQuiet_nil ?_
        intro y
        go_wp2
        go_ret
        exact ⟨retB HR.out.symm, Below.aft (y.below hB' hB'.size)⟩
      · have HR := Lib.hid (show fitW 3 wd v a b c = (b == wd) by show (a == wd && b == wd) = _; rw [hE]; rfl)
        go_wp2_with fail
        refine wp_region_aft (by kernel_rfl) (by kernel_rfl) ?_
        repeat (go_big_quiet_step (fail))
        refine wpQuiet_nil ?_
        intro y
        go_wp2
        go_ret
        exact ⟨retB HR.out.symm, Below.aft (y.below hB' hB'.size)⟩

set_option maxRecDepth 100000 in
set_option maxHeartbeats 1600000 in
theorem rfit_4 (wd v a b c : Int) (hw1 : 1 ≤ wd) (hw2 : wd ≤ 16) (a0 : 0 ≤ a) (a1 : a ≤ 16) (b0 : 0 ≤ b) (b1 : b ≤ 16) (B : Option Addr) (bc : Nat) (args : List Int) (hla : args.length = 2) (N : Option Addr) (capN : Nat) (ns : List Nd) (hns : ns.length ≤ 65536) (w : World) (hN : LiesN w N ns) (hB : LiesI w B args) (hW : Wid ns args [a, b]) :
    Calls Tryz.prog 123 #[.slice N ns.length capN, .agg #[.int .i64 4, .int .i64 wd, .slice B args.length bc, .int .i64 v]] w fun e w' => e = .returned (.bool (fitW 4 wd v a b c)) ∧ ∃ x : Aft w, w' = x.val := by
  obtain ⟨i0, hi, hz0, hz1, hz2⟩ := info_parts int_info
  have HLA := Lib.hid hla
  have HN := Lib.hid hN
  have HB := Lib.hid hB
  have HV := Lib.hid hW
  clear hN hB hW hla
  go_enter Tryz.func123, Tryz.ntmps123
  go_wp2_with fail
  have r0 : (w.alloc (.cells #[.int .i64 4, .int .i64 wd, .slice B args.length bc, .int .i64 v] 61)).heap[w.heap.size]? = some (.cells #[.int .i64 4, .int .i64 wd, .slice B args.length bc, .int .i64 v] 61) := heap_alloc_new _ _
  have hb0 : Below w.heap.size w (w.alloc (.cells #[.int .i64 4, .int .i64 wd, .slice B args.length bc, .int .i64 v] 61)) := (Below.refl _ _).alloc (Nat.le_refl _) _
  have z0 : w.heap.size < (w.alloc (.cells #[.int .i64 4, .int .i64 wd, .slice B args.length bc, .int .i64 v] 61)).heap.size := by simp
  generalize (w.alloc (.cells #[.int .i64 4, .int .i64 wd, .slice B args.length bc, .int .i64 v] 61)) = W0 at *
  have R0 := Lib.hid r0
  clear r0
  go_loopw [5, 6] (fun v5 v6 wr => ∃ j : Nat, j ≤ args.length ∧ v6 = .int .i64 j ∧ wr.ownsRow W0.heap.size 3 1 v5 j (([a, b].take j).map fun q => Value.int .i64 q) ∧ Below W0.heap.size W0 wr) (fun _ v6 _ => args.length - (intOf v6).toNat)
  case atStart => exact ⟨0, by omega, rfl, World.ownsRow_nil _ _ _ _, Below.refl _ _⟩
  case round =>
    obtain ⟨j, hj, rfl, hown, hb⟩ := hrel
    have hbs := hb.size
    have r0 : wr.heap[w.heap.size]? = some (.cells #[.int .i64 4, .int .i64 wd, .slice B args.length bc, .int .i64 v] 61) := by rw [hb.block _ z0]; exact R0.out
    have q0 := cell_block (i := 0) r0
    have q1 := cell_block (i := 1) r0
    have q2 := cell_block (i := 2) r0
    have q3 := cell_block (i := 3) r0
    simp at q0 q1 q2 q3
    have lw : w.heap.size < wr.heap.size := by omega
    have hB' : Below w.heap.size w wr := hb0.trans (hb.mono (by omega))
    by_cases hlt : j < args.length
    · obtain ⟨k, n, g1, g2, g3⟩ := HV.out j hlt
      obtain ⟨ad, rfl, hbk, hc⟩ := (HB.out.below hB').cell g1
      obtain ⟨an, rfl, hbn, _, h1, _⟩ := (HN.out.below hB').cells g2
      have hkl := (List.getElem?_eq_some_iff.1 g2).1
      have hkk : (k : Int) < ns.length := by omega
      have hjj : (j : Int) < args.length := by omega
      have hj3 : j < 4 := by have := HLA.out; omega
      have h1' : wr.cell? ⟨(an.add (k * 4)).block, (an.add (k * 4)).off + 1, none⟩ = some (.int .i64 n.wd) := h1
      have HS := Lib.hid (snoc_at g3)
      clear h1 g1 g2 g3 r0 q0 q1 q3 hbk hbn hb0
      generalize n.wd = X at *
      go_wp2_with (at_builtin; refine wpList_append_own _ rfl _ _ 22 rfl _ 3 i0 (.int .i64 0) 1 8 Tryz.underlying22 hi hz0 hz1 hz2 rfl (by decide) _ _ _ rfl (hown.alloc _) ⟨_, 0, none⟩ 1 1 [.int .i64 _] rfl rfl (cell_one_new _ _ _) (fun x hx => by simp at hx; subst hx; rfl) (by unfold maxLen; omega) (by omega) (by first | omega | (simp; omega) | (simp at *; omega)) ?_; intro v' w3 hown' hgrow3 hnn)
      go_wp2
      go_roundw
      case rel => exact ⟨j + 1, by omega, by go_num, by rw [← HS.out]; exact hown', (hb.alloc hbs (.cells #[.int .i64 X] 3)).grown hgrow3 (by simp; omega) (fun q hq => (hown.lt q hq).1)⟩
      case measure => simp [intOf]; omega
    · obtain rfl : j = args.length := by omega
      obtain ⟨g, cap, rfl, hg1, hg2⟩ := hown.form (by have := HLA.out; omega)
      have w0 : wr.cell? ⟨g, 0, none⟩ = some (.int .i64 a) := by
        have := hown.cells (g := g) rfl 0 (.int .i64 a) (by simp [HLA.out])
        rwa [Addr.add_lit, Nat.zero_add] at this
      have w1 : wr.cell? ⟨g, 1, none⟩ = some (.int .i64 b) := by
        have := hown.cells (g := g) rfl 1 (.int .i64 b) (by simp [HLA.out])
        rwa [Addr.add_lit, Nat.zero_add] at this
      have lg : g < wr.heap.size := by simpa using hg2
      have hla := HLA.out
      have hlm : (args.length : Int) = 2 := by omega
      clear hown hg1 hg2 r0 hb0 hb hla
      cases hE : (a == wd)
      · have HR := Lib.hid (show fitW 4 wd v a b c = false by show (a == wd && b == wd) = false; rw [hE]; rfl)
        go_wp2_with fail
        refine wp_region_aft (by kernel_rfl) (by kernel_rfl) ?_
        repeat (go_big_quiet_step (fail))
        refine wpQuiet_nil ?_
        intro y
        go_wp2
        go_ret
        exact ⟨retB HR.out.symm, Below.aft (y.below hB' hB'.size)⟩
      · have HR := Lib.hid (show fitW 4 wd v a b c = (b == wd) by show (a == wd && b == wd) = _; rw [hE]; rfl)
        go_wp2_with fail
        refine wp_region_aft (by kernel_rfl) (by kernel_rfl) ?_
        repeat (go_big_quiet_step (fail))
        refine wpQuiet_nil ?_
        intro y
        go_wp2
        go_ret
        exact ⟨retB HR.out.symm, Below.aft (y.below hB' hB'.size)⟩

set_option maxRecDepth 100000 in
set_option maxHeartbeats 1600000 in
theorem rfit_5 (wd v a b c : Int) (hw1 : 1 ≤ wd) (hw2 : wd ≤ 16) (a0 : 0 ≤ a) (a1 : a ≤ 16) (b0 : 0 ≤ b) (b1 : b ≤ 16) (B : Option Addr) (bc : Nat) (args : List Int) (hla : args.length = 2) (N : Option Addr) (capN : Nat) (ns : List Nd) (hns : ns.length ≤ 65536) (w : World) (hN : LiesN w N ns) (hB : LiesI w B args) (hW : Wid ns args [a, b]) :
    Calls Tryz.prog 123 #[.slice N ns.length capN, .agg #[.int .i64 5, .int .i64 wd, .slice B args.length bc, .int .i64 v]] w fun e w' => e = .returned (.bool (fitW 5 wd v a b c)) ∧ ∃ x : Aft w, w' = x.val := by
  obtain ⟨i0, hi, hz0, hz1, hz2⟩ := info_parts int_info
  have HLA := Lib.hid hla
  have HN := Lib.hid hN
  have HB := Lib.hid hB
  have HV := Lib.hid hW
  clear hN hB hW hla
  go_enter Tryz.func123, Tryz.ntmps123
  go_wp2_with fail
  have r0 : (w.alloc (.cells #[.int .i64 5, .int .i64 wd, .slice B args.length bc, .int .i64 v] 61)).heap[w.heap.size]? = some (.cells #[.int .i64 5, .int .i64 wd, .slice B args.length bc, .int .i64 v] 61) := heap_alloc_new _ _
  have hb0 : Below w.heap.size w (w.alloc (.cells #[.int .i64 5, .int .i64 wd, .slice B args.length bc, .int .i64 v] 61)) := (Below.refl _ _).alloc (Nat.le_refl _) _
  have z0 : w.heap.size < (w.alloc (.cells #[.int .i64 5, .int .i64 wd, .slice B args.length bc, .int .i64 v] 61)).heap.size := by simp
  generalize (w.alloc (.cells #[.int .i64 5, .int .i64 wd, .slice B args.length bc, .int .i64 v] 61)) = W0 at *
  have R0 := Lib.hid r0
  clear r0
  go_loopw [5, 6] (fun v5 v6 wr => ∃ j : Nat, j ≤ args.length ∧ v6 = .int .i64 j ∧ wr.ownsRow W0.heap.size 3 1 v5 j (([a, b].take j).map fun q => Value.int .i64 q) ∧ Below W0.heap.size W0 wr) (fun _ v6 _ => args.length - (intOf v6).toNat)
  case atStart => exact ⟨0, by omega, rfl, World.ownsRow_nil _ _ _ _, Below.refl _ _⟩
  case round =>
    obtain ⟨j, hj, rfl, hown, hb⟩ := hrel
    have hbs := hb.size
    have r0 : wr.heap[w.heap.size]? = some (.cells #[.int .i64 5, .int .i64 wd, .slice B args.length bc, .int .i64 v] 61) := by rw [hb.block _ z0]; exact R0.out
    have q0 := cell_block (i := 0) r0
    have q1 := cell_block (i := 1) r0
    have q2 := cell_block (i := 2) r0
    have q3 := cell_block (i := 3) r0
    simp at q0 q1 q2 q3
    have lw : w.heap.size < wr.heap.size := by omega
    have hB' : Below w.heap.size w wr := hb0.trans (hb.mono (by omega))
    by_cases hlt : j < args.length
    · obtain ⟨k, n, g1, g2, g3⟩ := HV.out j hlt
      obtain ⟨ad, rfl, hbk, hc⟩ := (HB.out.below hB').cell g1
      obtain ⟨an, rfl, hbn, _, h1, _⟩ := (HN.out.below hB').cells g2
      have hkl := (List.getElem?_eq_some_iff.1 g2).1
      have hkk : (k : Int) < ns.length := by omega
      have hjj : (j : Int) < args.length := by omega
      have hj3 : j < 4 := by have := HLA.out; omega
      have h1' : wr.cell? ⟨(an.add (k * 4)).block, (an.add (k * 4)).off + 1, none⟩ = some (.int .i64 n.wd) := h1
      have HS := Lib.hid (snoc_at g3)
      clear h1 g1 g2 g3 r0 q0 q1 q3 hbk hbn hb0
      generalize n.wd = X at *
      go_wp2_with (at_builtin; refine wpList_append_own _ rfl _ _ 22 rfl _ 3 i0 (.int .i64 0) 1 8 Tryz.underlying22 hi hz0 hz1 hz2 rfl (by decide) _ _ _ rfl (hown.alloc _) ⟨_, 0, none⟩ 1 1 [.int .i64 _] rfl rfl (cell_one_new _ _ _) (fun x hx => by simp at hx; subst hx; rfl) (by unfold maxLen; omega) (by omega) (by first | omega | (simp; omega) | (simp at *; omega)) ?_; intro v' w3 hown' hgrow3 hnn)
      go_wp2
      go_roundw
      case rel => exact ⟨j + 1, by omega, by go_num, by rw [← HS.out]; exact hown', (hb.alloc hbs (.cells #[.int .i64 X] 3)).grown hgrow3 (by simp; omega) (fun q hq => (hown.lt q hq).1)⟩
      case measure => simp [intOf]; omega
    · obtain rfl : j = args.length := by omega
      obtain ⟨g, cap, rfl, hg1, hg2⟩ := hown.form (by have := HLA.out; omega)
      have w0 : wr.cell? ⟨g, 0, none⟩ = some (.int .i64 a) := by
        have := hown.cells (g := g) rfl 0 (.int .i64 a) (by simp [HLA.out])
        rwa [Addr.add_lit, Nat.zero_add] at this
      have w1 : wr.cell? ⟨g, 1, none⟩ = some (.int .i64 b) := by
        have := hown.cells (g := g) rfl 1 (.int .i64 b) (by simp [HLA.out])
        rwa [Addr.add_lit, Nat.zero_add] at this
      have lg : g < wr.heap.size := by simpa using hg2
      have hla := HLA.out
      have hlm : (args.length : Int) = 2 := by omega
      clear hown hg1 hg2 r0 hb0 hb hla
      cases hE : (a == wd)
      · have HR := Lib.hid (show fitW 5 wd v a b c = false by show (a == wd && b == wd) = false; rw [hE]; rfl)
        go_wp2_with fail
        refine wp_region_aft (by kernel_rfl) (by kernel_rfl) ?_
        repeat (go_big_quiet_step (fail))
        refine wpQuiet_nil ?_
        intro y
        go_wp2
        go_ret
        exact ⟨retB HR.out.symm, Below.aft (y.below hB' hB'.size)⟩
      · have HR := Lib.hid (show fitW 5 wd v a b c = (b == wd) by show (a == wd && b == wd) = _; rw [hE]; rfl)
        go_wp2_with fail
        refine wp_region_aft (by kernel_rfl) (by kernel_rfl) ?_
        repeat (go_big_quiet_step (fail))
        refine wpQuiet_nil ?_
        intro y
        go_wp2
        go_ret
        exact ⟨retB HR.out.symm, Below.aft (y.below hB' hB'.size)⟩

set_option maxRecDepth 100000 in
set_option maxHeartbeats 1600000 in
theorem rfit_6 (wd v a b c : Int) (hw1 : 1 ≤ wd) (hw2 : wd ≤ 16) (a0 : 0 ≤ a) (a1 : a ≤ 16) (b0 : 0 ≤ b) (b1 : b ≤ 16) (B : Option Addr) (bc : Nat) (args : List Int) (hla : args.length = 2) (N : Option Addr) (capN : Nat) (ns : List Nd) (hns : ns.length ≤ 65536) (w : World) (hN : LiesN w N ns) (hB : LiesI w B args) (hW : Wid ns args [a, b]) :
    Calls Tryz.prog 123 #[.slice N ns.length capN, .agg #[.int .i64 6, .int .i64 wd, .slice B args.length bc, .int .i64 v]] w fun e w' => e = .returned (.bool (fitW 6 wd v a b c)) ∧ ∃ x : Aft w, w' = x.val := by
  obtain ⟨i0, hi, hz0, hz1, hz2⟩ := info_parts int_info
  have HLA := Lib.hid hla
  have HN := Lib.hid hN
  have HB := Lib.hid hB
  have HV := Lib.hid hW
  clear hN hB hW hla
  go_enter Tryz.func123, Tryz.ntmps123
  go_wp2_with fail
  have r0 : (w.alloc (.cells #[.int .i64 6, .int .i64 wd, .slice B args.length bc, .int .i64 v] 61)).heap[w.heap.size]? = some (.cells #[.int .i64 6, .int .i64 wd, .slice B args.length bc, .int .i64 v] 61) := heap_alloc_new _ _
  have hb0 : Below w.heap.size w (w.alloc (.cells #[.int .i64 6, .int .i64 wd, .slice B args.length bc, .int .i64 v] 61)) := (Below.refl _ _).alloc (Nat.le_refl _) _
  have z0 : w.heap.size < (w.alloc (.cells #[.int .i64 6, .int .i64 wd, .slice B args.length bc, .int .i64 v] 61)).heap.size := by simp
  generalize (w.alloc (.cells #[.int .i64 6, .int .i64 wd, .slice B args.length bc, .int .i64 v] 61)) = W0 at *
  have R0 := Lib.hid r0
  clear r0
  go_loopw [5, 6] (fun v5 v6 wr => ∃ j : Nat, j ≤ args.length ∧ v6 = .int .i64 j ∧ wr.ownsRow W0.heap.size 3 1 v5 j (([a, b].take j).map fun q => Value.int .i64 q) ∧ Below W0.heap.size W0 wr) (fun _ v6 _ => args.length - (intOf v6).toNat)
  case atStart => exact ⟨0, by omega, rfl, World.ownsRow_nil _ _ _ _, Below.refl _ _⟩
  case round =>
    obtain ⟨j, hj, rfl, hown, hb⟩ := hrel
    have hbs := hb.size
    have r0 : wr.heap[w.heap.size]? = some (.cells #[.int .i64 6, .int .i64 wd, .slice B args.length bc, .int .i64 v] 61) := by rw [hb.block _ z0]; exact R0.out
    have q0 := cell_block (i := 0) r0
    have q1 := cell_block (i := 1) r0
    have q2 := cell_block (i := 2) r0
    have q3 := cell_block (i := 3) r0
    simp at q0 q1 q2 q3
    have lw : w.heap.size < wr.heap.size := by omega
    have hB' : Below w.heap.size w wr := hb0.trans (hb.mono (by omega))
    by_cases hlt : j < args.length
    · obtain ⟨k, n, g1, g2, g3⟩ := HV.out j hlt
      obtain ⟨ad, rfl, hbk, hc⟩ := (HB.out.below hB').cell g1
      obtain ⟨an, rfl, hbn, _, h1, _⟩ := (HN.out.below hB').cells g2
      have hkl := (List.getElem?_eq_some_iff.1 g2).1
      have hkk : (k : Int) < ns.length := by omega
      have hjj : (j : Int) < args.length := by omega
      have hj3 : j < 4 := by have := HLA.out; omega
      have h1' : wr.cell? ⟨(an.add (k * 4)).block, (an.add (k * 4)).off + 1, none⟩ = some (.int .i64 n.wd) := h1
      have HS := Lib.hid (snoc_at g3)
      clear h1 g1 g2 g3 r0 q0 q1 q3 hbk hbn hb0
      generalize n.wd = X at *
      go_wp2_with (at_builtin; refine wpList_append_own _ rfl _ _ 22 rfl _ 3 i0 (.int .i64 0) 1 8 Tryz.underlying22 hi hz0 hz1 hz2 rfl (by decide) _ _ _ rfl (hown.alloc _) ⟨_, 0, none⟩ 1 1 [.int .i64 _] rfl rfl (cell_one_new _ _ _) (fun x hx => by simp at hx; subst hx; rfl) (by unfold maxLen; omega) (by omega) (by first | omega | (simp; omega) | (simp at *; omega)) ?_; intro v' w3 hown' hgrow3 hnn)
      go_wp2
      go_roundw
      case rel => exact ⟨j + 1, by omega, by go_num, by rw [← HS.out]; exact hown', (hb.alloc hbs (.cells #[.int .i64 X] 3)).grown hgrow3 (by simp; omega) (fun q hq => (hown.lt q hq).1)⟩
      case measure => simp [intOf]; omega
    · obtain rfl : j = args.length := by omega
      obtain ⟨g, cap, rfl, hg1, hg2⟩ := hown.form (by have := HLA.out; omega)
      have w0 : wr.cell? ⟨g, 0, none⟩ = some (.int .i64 a) := by
        have := hown.cells (g := g) rfl 0 (.int .i64 a) (by simp [HLA.out])
        rwa [Addr.add_lit, Nat.zero_add] at this
      have w1 : wr.cell? ⟨g, 1, none⟩ = some (.int .i64 b) := by
        have := hown.cells (g := g) rfl 1 (.int .i64 b) (by simp [HLA.out])
        rwa [Addr.add_lit, Nat.zero_add] at this
      have lg : g < wr.heap.size := by simpa using hg2
      have hla := HLA.out
      have hlm : (args.length : Int) = 2 := by omega
      clear hown hg1 hg2 r0 hb0 hb hla
      cases hE : (a == wd)
      · have HR := Lib.hid (show fitW 6 wd v a b c = false by show (a == wd && b == wd) = false; rw [hE]; rfl)
        go_wp2_with fail
        refine wp_region_aft (by kernel_rfl) (by kernel_rfl) ?_
        repeat (go_big_quiet_step (fail))
        refine wpQuiet_nil ?_
        intro y
        go_wp2
        go_ret
        exact ⟨retB HR.out.symm, Below.aft (y.below hB' hB'.size)⟩
      · have HR := Lib.hid (show fitW 6 wd v a b c = (b == wd) by show (a == wd && b == wd) = _; rw [hE]; rfl)
        go_wp2_with fail
        refine wp_region_aft (by kernel_rfl) (by kernel_rfl) ?_
        repeat (go_big_quiet_step (fail))
        refine wpQuiet_nil ?_
        intro y
        go_wp2
        go_ret
        exact ⟨retB HR.out.symm, Below.aft (y.below hB' hB'.size)⟩

set_option maxRecDepth 100000 in
set_option maxHeartbeats 1600000 in
theorem rfit_7 (wd v a b c : Int) (hw1 : 1 ≤ wd) (hw2 : wd ≤ 16) (a0 : 0 ≤ a) (a1 : a ≤ 16) (b0 : 0 ≤ b) (b1 : b ≤ 16) (B : Option Addr) (bc : Nat) (args : List Int) (hla : args.length = 2) (N : Option Addr) (capN : Nat) (ns : List Nd) (hns : ns.length ≤ 65536) (w : World) (hN : LiesN w N ns) (hB : LiesI w B args) (hW : Wid ns args [a, b]) :
    Calls Tryz.prog 123 #[.slice N ns.length capN, .agg #[.int .i64 7, .int .i64 wd, .slice B args.length bc, .int .i64 v]] w fun e w' => e = .returned (.bool (fitW 7 wd v a b c)) ∧ ∃ x : Aft w, w' = x.val := by
  obtain ⟨i0, hi, hz0, hz1, hz2⟩ := info_parts int_info
  have HLA := Lib.hid hla
  have HN := Lib.hid hN
  have HB := Lib.hid hB
  have HV := Lib.hid hW
  clear hN hB hW hla
  go_enter Tryz.func123, Tryz.ntmps123
  go_wp2_with fail
  have r0 : (w.alloc (.cells #[.int .i64 7, .int .i64 wd, .slice B args.length bc, .int .i64 v] 61)).heap[w.heap.size]? = some (.cells #[.int .i64 7, .int .i64 wd, .slice B args.length bc, .int .i64 v] 61) := heap_alloc_new _ _
  have hb0 : Below w.heap.size w (w.alloc (.cells #[.int .i64 7, .int .i64 wd, .slice B args.length bc, .int .i64 v] 61)) := (Below.refl _ _).alloc (Nat.le_refl _) _
  have z0 : w.heap.size < (w.alloc (.cells #[.int .i64 7, .int .i64 wd, .slice B args.length bc, .int .i64 v] 61)).heap.size := by simp
  generalize (w.alloc (.cells #[.int .i64 7, .int .i64 wd, .slice B args.length bc, .int .i64 v] 61)) = W0 at *
  have R0 := Lib.hid r0
  clear r0
  go_loopw [5, 6] (fun v5 v6 wr => ∃ j : Nat, j ≤ args.length ∧ v6 = .int .i64 j ∧ wr.ownsRow W0.heap.size 3 1 v5 j (([a, b].take j).map fun q => Value.int .i64 q) ∧ Below W0.heap.size W0 wr) (fun _ v6 _ => args.length - (intOf v6).toNat)
  case atStart => exact ⟨0, by omega, rfl, World.ownsRow_nil _ _ _ _, Below.refl _ _⟩
  case round =>
    obtain ⟨j, hj, rfl, hown, hb⟩ := hrel
    have hbs := hb.size
    have r0 : wr.heap[w.heap.size]? = some (.cells #[.int .i64 7, .int .i64 wd, .slice B args.length bc, .int .i64 v] 61) := by rw [hb.block _ z0]; exact R0.out
    have q0 := cell_block (i := 0) r0
    have q1 := cell_block (i := 1) r0
    have q2 := cell_block (i := 2) r0
    have q3 := cell_block (i := 3) r0
    simp at q0 q1 q2 q3
    have lw : w.heap.size < wr.heap.size := by omega
    have hB' : Below w.heap.size w wr := hb0.trans (hb.mono (by omega))
    by_cases hlt : j < args.length
    · obtain ⟨k, n, g1, g2, g3⟩ := HV.out j hlt
      obtain ⟨ad, rfl, hbk, hc⟩ := (HB.out.below hB').cell g1
      obtain ⟨an, rfl, hbn, _, h1, _⟩ := (HN.out.below hB').cells g2
      have hkl := (List.getElem?_eq_some_iff.1 g2).1
      have hkk : (k : Int) < ns.length := by omega
      have hjj : (j : Int) < args.length := by omega
      have hj3 : j < 4 := by have := HLA.out; omega
      have h1' : wr.cell? ⟨(an.add (k * 4)).block, (an.add (k * 4)).off + 1, none⟩ = some (.int .i64 n.wd) := h1
      have HS := Lib.hid (snoc_at g3)
      clear h1 g1 g2 g3 r0 q0 q1 q3 hbk hbn hb0
      generalize n.wd = X at *
      go_wp2_with (at_builtin; refine wpList_append_own _ rfl _ _ 22 rfl _ 3 i0 (.int .i64 0) 1 8 Tryz.underlying22 hi hz0 hz1 hz2 rfl (by decide) _ _ _ rfl (hown.alloc _) ⟨_, 0, none⟩ 1 1 [.int .i64 _] rfl rfl (cell_one_new _ _ _) (fun x hx => by simp at hx; subst hx; rfl) (by unfold maxLen; omega) (by omega) (by first | omega | (simp; omega) | (simp at *; omega)) ?_; intro v' w3 hown' hgrow3 hnn)
      go_wp2
      go_roundw
      case rel => exact ⟨j + 1, by omega, by go_num, by rw [← HS.out]; exact hown', (hb.alloc hbs (.cells #[.int .i64 X] 3)).grown hgrow3 (by simp; omega) (fun q hq => (hown.lt q hq).1)⟩
      case measure => simp [intOf]; omega
    · obtain rfl : j = args.length := by omega
      obtain ⟨g, cap, rfl, hg1, hg2⟩ := hown.form (by have := HLA.out; omega)
      have w0 : wr.cell? ⟨g, 0, none⟩ = some (.int .i64 a) := by
        have := hown.cells (g := g) rfl 0 (.int .i64 a) (by simp [HLA.out])
        rwa [Addr.add_lit, Nat.zero_add] at this
      have w1 : wr.cell? ⟨g, 1, none⟩ = some (.int .i64 b) := by
        have := hown.cells (g := g) rfl 1 (.int .i64 b) (by simp [HLA.out])
        rwa [Addr.add_lit, Nat.zero_add] at this
      have lg : g < wr.heap.size := by simpa using hg2
      have hla := HLA.out
      have hlm : (args.length : Int) = 2 := by omega
      clear hown hg1 hg2 r0 hb0 hb hla
      cases hE : (a == wd)
      · have HR := Lib.hid (show fitW 7 wd v a b c = false by show (a == wd && b == wd) = false; rw [hE]; rfl)
        go_wp2_with fail
        refine wp_region_aft (by kernel_rfl) (by kernel_rfl) ?_
        repeat (go_big_quiet_step (fail))
        refine wpQuiet_nil ?_
        intro y
        go_wp2
        go_ret
        exact ⟨retB HR.out.symm, Below.aft (y.below hB' hB'.size)⟩
      · have HR := Lib.hid (show fitW 7 wd v a b c = (b == wd) by show (a == wd && b == wd) = _; rw [hE]; rfl)
        go_wp2_with fail
        refine wp_region_aft (by kernel_rfl) (by kernel_rfl) ?_
        repeat (go_big_quiet_step (fail))
        refine wpQuiet_nil ?_
        intro y
        go_wp2
        go_ret
        exact ⟨retB HR.out.symm, Below.aft (y.below hB' hB'.size)⟩

set_option maxRecDepth 100000 in
set_option maxHeartbeats 1600000 in
theorem rfit_8 (wd v a b c : Int) (hw1 : 1 ≤ wd) (hw2 : wd ≤ 16) (a0 : 0 ≤ a) (a1 : a ≤ 16) (b0 : 0 ≤ b) (b1 : b ≤ 16) (B : Option Addr) (bc : Nat) (args : List Int) (hla : args.length = 2) (N : Option Addr) (capN : Nat) (ns : List Nd) (hns : ns.length ≤ 65536) (w : World) (hN : LiesN w N ns) (hB : LiesI w B args) (hW : Wid ns args [a, b]) :
    Calls Tryz.prog 123 #[.slice N ns.length capN, .agg #[.int .i64 8, .int .i64 wd, .slice B args.length bc, .int .i64 v]] w fun e w' => e = .returned (.bool (fitW 8 wd v a b c)) ∧ ∃ x : Aft w, w' = x.val := by
  obtain ⟨i0, hi, hz0, hz1, hz2⟩ := info_parts int_info
  have HLA := Lib.hid hla
  have HN := Lib.hid hN
  have HB := Lib.hid hB
  have HV := Lib.hid hW
  clear hN hB hW hla
  go_enter Tryz.func123, Tryz.ntmps123
  go_wp2_with fail
  have r0 : (w.alloc (.cells #[.int .i64 8, .int .i64 wd, .slice B args.length bc, .int .i64 v] 61)).heap[w.heap.size]? = some (.cells #[.int .i64 8, .int .i64 wd, .slice B args.length bc, .int .i64 v] 61) := heap_alloc_new _ _
  have hb0 : Below w.heap.size w (w.alloc (.cells #[.int .i64 8, .int .i64 wd, .slice B args.length bc, .int .i64 v] 61)) := (Below.refl _ _).alloc (Nat.le_refl _) _
  have z0 : w.heap.size < (w.alloc (.cells #[.int .i64 8, .int .i64 wd, .slice B args.length bc, .int .i64 v] 61)).heap.size := by simp
  generalize (w.alloc (.cells #[.int .i64 8, .int .i64 wd, .slice B args.length bc, .int .i64 v] 61)) = W0 at *
  have R0 := Lib.hid r0
  clear r0
  go_loopw [5, 6] (fun v5 v6 wr => ∃ j : Nat, j ≤ args.length ∧ v6 = .int .i64 j ∧ wr.ownsRow W0.heap.size 3 1 v5 j (([a, b].take j).map fun q => Value.int .i64 q) ∧ Below W0.heap.size W0 wr) (fun _ v6 _ => args.length - (intOf v6).toNat)
  case atStart => exact ⟨0, by omega, rfl, World.ownsRow_nil _ _ _ _, Below.refl _ _⟩
  case round =>
    obtain ⟨j, hj, rfl, hown, hb⟩ := hrel
    have hbs := hb.size
    have r0 : wr.heap[w.heap.size]? = some (.cells #[.int .i64 8, .int .i64 wd, .slice B args.length bc, .int .i64 v] 61) := by rw [hb.block _ z0]; exact R0.out
    have q0 := cell_block (i := 0) r0
    have q1 := cell_block (i := 1) r0
    have q2 := cell_block (i := 2) r0
    have q3 := cell_block (i := 3) r0
    simp at q0 q1 q2 q3
    have lw : w.heap.size < wr.heap.size := by omega
    have hB' : Below w.heap.size w wr := hb0.trans (hb.mono (by omega))
    by_cases hlt : j < args.length
    · obtain ⟨k, n, g1, g2, g3⟩ := HV.out j hlt
      obtain ⟨ad, rfl, hbk, hc⟩ := (HB.out.below hB').cell g1
      obtain ⟨an, rfl, hbn, _, h1, _⟩ := (HN.out.below hB').cells g2
      have hkl := (List.getElem?_eq_some_iff.1 g2).1
      have hkk : (k : Int) < ns.length := by omega
      have hjj : (j : Int) < args.length := by omega
      have hj3 : j < 4 := by have := HLA.out; omega
      have h1' : wr.cell? ⟨(an.add (k * 4)).block, (an.add (k * 4)).off + 1, none⟩ = some (.int .i64 n.wd) := h1
      have HS := Lib.hid (snoc_at g3)
      clear h1 g1 g2 g3 r0 q0 q1 q3 hbk hbn hb0
      generalize n.wd = X at *
      go_wp2_with (at_builtin; refine wpList_append_own _ rfl _ _ 22 rfl _ 3 i0 (.int .i64 0) 1 8 Tryz.underlying22 hi hz0 hz1 hz2 rfl (by decide) _ _ _ rfl (hown.alloc _) ⟨_, 0, none⟩ 1 1 [.int .i64 _] rfl rfl (cell_one_new _ _ _) (fun x hx => by simp at hx; subst hx; rfl) (by unfold maxLen; omega) (by omega) (by first | omega | (simp; omega) | (simp at *; omega)) ?_; intro v' w3 hown' hgrow3 hnn)
      go_wp2
      go_roundw
      case rel => exact ⟨j + 1, by omega, by go_num, by rw [← HS.out]; exact hown', (hb.alloc hbs (.cells #[.int .i64 X] 3)).grown hgrow3 (by simp; omega) (fun q hq => (hown.lt q hq).1)⟩
      case measure => simp [intOf]; omega
    · obtain rfl : j = args.length := by omega
      obtain ⟨g, cap, rfl, hg1, hg2⟩ := hown.form (by have := HLA.out; omega)
      have w0 : wr.cell? ⟨g, 0, none⟩ = some (.int .i64 a) := by
        have := hown.cells (g := g) rfl 0 (.int .i64 a) (by simp [HLA.out])
        rwa [Addr.add_lit, Nat.zero_add] at this
      have w1 : wr.cell? ⟨g, 1, none⟩ = some (.int .i64 b) := by
        have := hown.cells (g := g) rfl 1 (.int .i64 b) (by simp [HLA.out])
        rwa [Addr.add_lit, Nat.zero_add] at this
      have lg : g < wr.heap.size := by simpa using hg2
      have hla := HLA.out
      have hlm : (args.length : Int) = 2 := by omega
      clear hown hg1 hg2 r0 hb0 hb hla
      cases hE : (a == wd)
      · have HR := Lib.hid (show fitW 8 wd v a b c = false by show (a == wd && b == wd) = false; rw [hE]; rfl)
        go_wp2_with fail
        refine wp_region_aft (by kernel_rfl) (by kernel_rfl) ?_
        repeat (go_big_quiet_step (fail))
        refine wpQuiet_nil ?_
        intro y
        go_wp2
        go_ret
        exact ⟨retB HR.out.symm, Below.aft (y.below hB' hB'.size)⟩
      · have HR := Lib.hid (show fitW 8 wd v a b c = (b == wd) by show (a == wd && b == wd) = _; rw [hE]; rfl)
        go_wp2_with fail
        refine wp_region_aft (by kernel_rfl) (by kernel_rfl) ?_
        repeat (go_big_quiet_step (fail))
        refine wpQuiet_nil ?_
        intro y
        go_wp2
        go_ret
        exact ⟨retB HR.out.symm, Below.aft (y.below hB' hB'.size)⟩

set_option maxRecDepth 100000 in
set_option maxHeartbeats 1600000 in
theorem rfit_9 (wd v a b c : Int) (hw1 : 1 ≤ wd) (hw2 : wd ≤ 16) (a0 : 0 ≤ a) (a1 : a ≤ 16) (b0 : 0 ≤ b) (b1 : b ≤ 16) (B : Option Addr) (bc : Nat) (args : List Int) (hla : args.length = 2) (N : Option Addr) (capN : Nat) (ns : List Nd) (hns : ns.length ≤ 65536) (w : World) (hN : LiesN w N ns) (hB : LiesI w B args) (hW : Wid ns args [a, b]) :
    Calls Tryz.prog 123 #[.slice N ns.length capN, .agg #[.int .i64 9, .int .i64 wd, .slice B args.length bc, .int .i64 v]] w fun e w' => e = .returned (.bool (fitW 9 wd v a b c)) ∧ ∃ x : Aft w, w' = x.val := by
  obtain ⟨i0, hi, hz0, hz1, hz2⟩ := info_parts int_info
  have HLA := Lib.hid hla
  have HN := Lib.hid hN
  have HB := Lib.hid hB
  have HV := Lib.hid hW
  clear hN hB hW hla
  go_enter Tryz.func123, Tryz.ntmps123
  go_wp2_with fail
  have r0 : (w.alloc (.cells #[.int .i64 9, .int .i64 wd, .slice B args.length bc, .int .i64 v] 61)).heap[w.heap.size]? = some (.cells #[.int .i64 9, .int .i64 wd, .slice B args.length bc, .int .i64 v] 61) := heap_alloc_new _ _
  have hb0 : Below w.heap.size w (w.alloc (.cells #[.int .i64 9, .int .i64 wd, .slice B args.length bc, .int .i64 v] 61)) := (Below.refl _ _).alloc (Nat.le_refl _) _
  have z0 : w.heap.size < (w.alloc (.cells #[.int .i64 9, .int .i64 wd, .slice B args.length bc, .int .i64 v] 61)).heap.size := by simp
  generalize (w.alloc (.cells #[.int .i64 9, .int .i64 wd, .slice B args.length bc, .int .i64 v] 61)) = W0 at *
  have R0 := Lib.hid r0
  clear r0
  go_loopw [5, 6] (fun v5 v6 wr => ∃ j : Nat, j ≤ args.length ∧ v6 = .int .i64 j ∧ wr.ownsRow W0.heap.size 3 1 v5 j (([a, b].take j).map fun q => Value.int .i64 q) ∧ Below W0.heap.size W0 wr) (fun _ v6 _ => args.length - (intOf v6).toNat)
  case atStart => exact ⟨0, by omega, rfl, World.ownsRow_nil _ _ _ _, Below.refl _ _⟩
  case round =>
    obtain ⟨j, hj, rfl, hown, hb⟩ := hrel
    have hbs := hb.size
    have r0 : wr.heap[w.heap.size]? = some (.cells #[.int .i64 9, .int .i64 wd, .slice B args.length bc, .int .i64 v] 61) := by rw [hb.block _ z0]; exact R0.out
    have q0 := cell_block (i := 0) r0
    have q1 := cell_block (i := 1) r0
    have q2 := cell_block (i := 2) r0
    have q3 := cell_block (i := 3) r0
    simp at q0 q1 q2 q3
    have lw : w.heap.size < wr.heap.size := by omega
    have hB' : Below w.heap.size w wr := hb0.trans (hb.mono (by omega))
    by_cases hlt : j < args.length
    · obtain ⟨k, n, g1, g2, g3⟩ := HV.out j hlt
      obtain ⟨ad, rfl, hbk, hc⟩ := (HB.out.below hB').cell g1
      obtain ⟨an, rfl, hbn, _, h1, _⟩ := (HN.out.below hB').cells g2
      have hkl := (List.getElem?_eq_some_iff.1 g2).1
      have hkk : (k : Int) < ns.length := by omega
      have hjj : (j : Int) < args.length := by omega
      have hj3 : j < 4 := by have := HLA.out; omega
      have h1' : wr.cell? ⟨(an.add (k * 4)).block, (an.add (k * 4)).off + 1, none⟩ = some (.int .i64 n.wd) := h1
      have HS := Lib.hid (snoc_at g3)
      clear h1 g1 g2 g3 r0 q0 q1 q3 hbk hbn hb0
      generalize n.wd = X at *
      go_wp2_with (at_builtin; refine wpList_append_own _ rfl _ _ 22 rfl _ 3 i0 (.int .i64 0) 1 8 Tryz.underlying22 hi hz0 hz1 hz2 rfl (by decide) _ _ _ rfl (hown.alloc _) ⟨_, 0, none⟩ 1 1 [.int .i64 _] rfl rfl (cell_one_new _ _ _) (fun x hx => by simp at hx; subst hx; rfl) (by unfold maxLen; omega) (by omega) (by first | omega | (simp; omega) | (simp at *; omega)) ?_; intro v' w3 hown' hgrow3 hnn)
      go_wp2
      go_roundw
      case rel => exact ⟨j + 1, by omega, by go_num, by rw [← HS.out]; exact hown', (hb.alloc hbs (.cells #[.int .i64 X] 3)).grown hgrow3 (by simp; omega) (fun q hq => (hown.lt q hq).1)⟩
      case measure => simp [intOf]; omega
    · obtain rfl : j = args.length := by omega
      obtain ⟨g, cap, rfl, hg1, hg2⟩ := hown.form (by have := HLA.out; omega)
      have w0 : wr.cell? ⟨g, 0, none⟩ = some (.int .i64 a) := by
        have := hown.cells (g := g) rfl 0 (.int .i64 a) (by simp [HLA.out])
        rwa [Addr.add_lit, Nat.zero_add] at this
      have w1 : wr.cell? ⟨g, 1, none⟩ = some (.int .i64 b) := by
        have := hown.cells (g := g) rfl 1 (.int .i64 b) (by simp [HLA.out])
        rwa [Addr.add_lit, Nat.zero_add] at this
      have lg : g < wr.heap.size := by simpa using hg2
      have hla := HLA.out
      have hlm : (args.length : Int) = 2 := by omega
      clear hown hg1 hg2 r0 hb0 hb hla
      cases hE : (a == b)
      · have HR := Lib.hid (show fitW 9 wd v a b c = false by show (a == b && wd == 1) = false; rw [hE]; rfl)
        go_wp2_with fail
        refine wp_region_aft (by kernel_rfl) (by kernel_rfl) ?_
        repeat (go_big_quiet_step (fail))
        refine wpQuiet_nil ?_
        intro y
        go_wp2
        go_ret
        exact ⟨retB HR.out.symm, Below.aft (y.below hB' hB'.size)⟩
      · have HR := Lib.hid (show fitW 9 wd v a b c = (wd == 1) by show (a == b && wd == 1) = _; rw [hE]; rfl)
        go_wp2_with fail
        refine wp_region_aft (by kernel_rfl) (by kernel_rfl) ?_
        repeat (go_big_quiet_step (fail))
        refine wpQuiet_nil ?_
        intro y
        go_wp2
        go_ret
        exact ⟨retB HR.out.symm, Below.aft (y.below hB' hB'.size)⟩

set_option maxRecDepth 100000 in
set_option maxHeartbeats 1600000 in
theorem rfit_10 (wd v a b c : Int) (hw1 : 1 ≤ wd) (hw2 : wd ≤ 16) (a0 : 0 ≤ a) (a1 : a ≤ 16) (b0 : 0 ≤ b) (b1 : b ≤ 16) (B : Option Addr) (bc : Nat) (args : List Int) (hla : args.length = 2) (N : Option Addr) (capN : Nat) (ns : List Nd) (hns : ns.length ≤ 65536) (w : World) (hN : LiesN w N ns) (hB : LiesI w B args) (hW : Wid ns args [a, b]) :
    Calls Tryz.prog 123 #[.slice N ns.length capN, .agg #[.int .i64 10, .int .i64 wd, .slice B args.length bc, .int .i64 v]] w fun e w' => e = .returned (.bool (fitW 10 wd v a b c)) ∧ ∃ x : Aft w, w' = x.val := by
  obtain ⟨i0, hi, hz0, hz1, hz2⟩ := info_parts int_info
  have HLA := Lib.hid hla
  have HN := Lib.hid hN
  have HB := Lib.hid hB
  have HV := Lib.hid hW
  clear hN hB hW hla
  go_enter Tryz.func123, Tryz.ntmps123
  go_wp2_with fail
  have r0 : (w.alloc (.cells #[.int .i64 10, .int .i64 wd, .slice B args.length bc, .int .i64 v] 61)).heap[w.heap.size]? = some (.cells #[.int .i64 10, .int .i64 wd, .slice B args.length bc, .int .i64 v] 61) := heap_alloc_new _ _
  have hb0 : Below w.heap.size w (w.alloc (.cells #[.int .i64 10, .int .i64 wd, .slice B args.length bc, .int .i64 v] 61)) := (Below.refl _ _).alloc (Nat.le_refl _) _
  have z0 : w.heap.size < (w.alloc (.cells #[.int .i64 10, .int .i64 wd, .slice B args.length bc, .int .i64 v] 61)).heap.size := by simp
  generalize (w.alloc (.cells #[.int .i64 10, .int .i64 wd, .slice B args.length bc, .int .i64 v] 61)) = W0 at *
  have R0 := Lib.hid r0
  clear r0
  go_loopw [5, 6] (fun v5 v6 wr => ∃ j : Nat, j ≤ args.length ∧ v6 = .int .i64 j ∧ wr.ownsRow W0.heap.size 3 1 v5 j (([a, b].take j).map fun q => Value.int .i64 q) ∧ Below W0.heap.size W0 wr) (fun _ v6 _ => args.length - (intOf v6).toNat)
  case atStart => exact ⟨0, by omega, rfl, World.ownsRow_nil _ _ _ _, Below.refl _ _⟩
  case round =>
    obtain ⟨j, hj, rfl, hown, hb⟩ := hrel
    have hbs := hb.size
    have r0 : wr.heap[w.heap.size]? = some (.cells #[.int .i64 10, .int .i64 wd, .slice B args.length bc, .int .i64 v] 61) := by rw [hb.block _ z0]; exact R0.out
    have q0 := cell_block (i := 0) r0
    have q1 := cell_block (i := 1) r0
    have q2 := cell_block (i := 2) r0
    have q3 := cell_block (i := 3) r0
    simp at q0 q1 q2 q3
    have lw : w.heap.size < wr.heap.size := by omega
    have hB' : Below w.heap.size w wr := hb0.trans (hb.mono (by omega))
    by_cases hlt : j < args.length
    · obtain ⟨k, n, g1, g2, g3⟩ := HV.out j hlt
      obtain ⟨ad, rfl, hbk, hc⟩ := (HB.out.below hB').cell g1
      obtain ⟨an, rfl, hbn, _, h1, _⟩ := (HN.out.below hB').cells g2
      have hkl := (List.getElem?_eq_some_iff.1 g2).1
      have hkk : (k : Int) < ns.length := by omega
      have hjj : (j : Int) < args.length := by omega
      have hj3 : j < 4 := by have := HLA.out; omega
      have h1' : wr.cell? ⟨(an.add (k * 4)).block, (an.add (k * 4)).off + 1, none⟩ = some (.int .i64 n.wd) := h1
      have HS := Lib.hid (snoc_at g3)
      clear h1 g1 g2 g3 r0 q0 q1 q3 hbk hbn hb0
      generalize n.wd = X at *
      go_wp2_with (at_builtin; refine wpList_append_own _ rfl _ _ 22 rfl _ 3 i0 (.int .i64 0) 1 8 Tryz.underlying22 hi hz0 hz1 hz2 rfl (by decide) _ _ _ rfl (hown.alloc _) ⟨_, 0, none⟩ 1 1 [.int .i64 _] rfl rfl (cell_one_new _ _ _) (fun x hx => by simp at hx; subst hx; rfl) (by unfold maxLen; omega) (by omega) (by first | omega | (simp; omega) | (simp at *; omega)) ?_; intro v' w3 hown' hgrow3 hnn)
      go_wp2
      go_roundw
      case rel => exact ⟨j + 1, by omega, by go_num, by rw [← HS.out]; exact hown', (hb.alloc hbs (.cells #[.int .i64 X] 3)).grown hgrow3 (by simp; omega) (fun q hq => (hown.lt q hq).1)⟩
      case measure => simp [intOf]; omega
    · obtain rfl : j = args.length := by omega
      obtain ⟨g, cap, rfl, hg1, hg2⟩ := hown.form (by have := HLA.out; omega)
      have w0 : wr.cell? ⟨g, 0, none⟩ = some (.int .i64 a) := by
        have := hown.cells (g := g) rfl 0 (.int .i64 a) (by simp [HLA.out])
        rwa [Addr.add_lit, Nat.zero_add] at this
      have w1 : wr.cell? ⟨g, 1, none⟩ = some (.int .i64 b) := by
        have := hown.cells (g := g) rfl 1 (.int .i64 b) (by simp [HLA.out])
        rwa [Addr.add_lit, Nat.zero_add] at this
      have lg : g < wr.heap.size := by simpa using hg2
      have hla := HLA.out
      have hlm : (args.length : Int) = 2 := by omega
      clear hown hg1 hg2 r0 hb0 hb hla
      cases hE : (a == b)
      · have HR := Lib.hid (show fitW 10 wd v a b c = false by show (a == b && wd == 1) = false; rw [hE]; rfl)
        go_wp2_with fail
        refine wp_region_aft (by kernel_rfl) (by kernel_rfl) ?_
        repeat (go_big_quiet_step (fail))
        refine wpQuiet_nil ?_
        intro y
        go_wp2
        go_ret
        exact ⟨retB HR.out.symm, Below.aft (y.below hB' hB'.size)⟩
      · have HR := Lib.hid (show fitW 10 wd v a b c = (wd == 1) by show (a == b && wd == 1) = _; rw [hE]; rfl)
        go_wp2_with fail
        refine wp_region_aft (by kernel_rfl) (by kernel_rfl) ?_
        repeat (go_big_quiet_step (fail))
        refine wpQuiet_nil ?_
        intro y
        go_wp2
        go_ret
        exact ⟨retB HR.out.symm, Below.aft (y.below hB' hB'.size)⟩

set_option maxRecDepth 100000 in
set_option maxHeartbeats 1600000 in
theorem rfit_11 (wd v a b c : Int) (hw1 : 1 ≤ wd) (hw2 : wd ≤ 16) (a0 : 0 ≤ a) (a1 : a ≤ 16) (b0 : 0 ≤ b) (b1 : b ≤ 16) (B : Option Addr) (bc : Nat) (args : List Int) (hla : args.length = 2) (N : Option Addr) (capN : Nat) (ns : List Nd) (hns : ns.length ≤ 65536) (w : World) (hN : LiesN w N ns) (hB : LiesI w B args) (hW : Wid ns args [a, b]) :
    Calls Tryz.prog 123 #[.slice N ns.length capN, .agg #[.int .i64 11, .int .i64 wd, .slice B args.length bc, .int .i64 v]] w fun e w' => e = .returned (.bool (fitW 11 wd v a b c)) ∧ ∃ x : Aft w, w' = x.val := by
  obtain ⟨i0, hi, hz0, hz1, hz2⟩ := info_parts int_info
  have HLA := Lib.hid hla
  have HN := Lib.hid hN
  have HB := Lib.hid hB
  have HV := Lib.hid hW
  clear hN hB hW hla
  go_enter Tryz.func123, Tryz.ntmps123
  go_wp2_with fail
  have r0 : (w.alloc (.cells #[.int .i64 11, .int .i64 wd, .slice B args.length bc, .int .i64 v] 61)).heap[w.heap.size]? = some (.cells #[.int .i64 11, .int .i64 wd, .slice B args.length bc, .int .i64 v] 61) := heap_alloc_new _ _
  have hb0 : Below w.heap.size w (w.alloc (.cells #[.int .i64 11, .int .i64 wd, .slice B args.length bc, .int .i64 v] 61)) := (Below.refl _ _).alloc (Nat.le_refl _) _
  have z0 : w.heap.size < (w.alloc (.cells #[.int .i64 11, .int .i64 wd, .slice B args.length bc, .int .i64 v] 61)).heap.size := by simp
  generalize (w.alloc (.cells #[.int .i64 11, .int .i64 wd, .slice B args.length bc, .int .i64 v] 61)) = W0 at *
  have R0 := Lib.hid r0
  clear r0
  go_loopw [5, 6] (fun v5 v6 wr => ∃ j : Nat, j ≤ args.length ∧ v6 = .int .i64 j ∧ wr.ownsRow W0.heap.size 3 1 v5 j (([a, b].take j).map fun q => Value.int .i64 q) ∧ Below W0.heap.size W0 wr) (fun _ v6 _ => args.length - (intOf v6).toNat)
  case atStart => exact ⟨0, by omega, rfl, World.ownsRow_nil _ _ _ _, Below.refl _ _⟩
  case round =>
    obtain ⟨j, hj, rfl, hown, hb⟩ := hrel
    have hbs := hb.size
    have r0 : wr.heap[w.heap.size]? = some (.cells #[.int .i64 11, .int .i64 wd, .slice B args.length bc, .int .i64 v] 61) := by rw [hb.block _ z0]; exact R0.out
    have q0 := cell_block (i := 0) r0
    have q1 := cell_block (i := 1) r0
    have q2 := cell_block (i := 2) r0
    have q3 := cell_block (i := 3) r0
    simp at q0 q1 q2 q3
    have lw : w.heap.size < wr.heap.size := by omega
    have hB' : Below w.heap.size w wr := hb0.trans (hb.mono (by omega))
    by_cases hlt : j < args.length
    · obtain ⟨k, n, g1, g2, g3⟩ := HV.out j hlt
      obtain ⟨ad, rfl, hbk, hc⟩ := (HB.out.below hB').cell g1
      obtain ⟨an, rfl, hbn, _, h1, _⟩ := (HN.out.below hB').cells g2
      have hkl := (List.getElem?_eq_some_iff.1 g2).1
      have hkk : (k : Int) < ns.length := by omega
      have hjj : (j : Int) < args.length := by omega
      have hj3 : j < 4 := by have := HLA.out; omega
      have h1' : wr.cell? ⟨(an.add (k * 4)).block, (an.add (k * 4)).off + 1, none⟩ = some (.int .i64 n.wd) := h1
      have HS := Lib.hid (snoc_at g3)
      clear h1 g1 g2 g3 r0 q0 q1 q3 hbk hbn hb0
      generalize n.wd = X at *
      go_wp2_with (at_builtin; refine wpList_append_own _ rfl _ _ 22 rfl _ 3 i0 (.int .i64 0) 1 8 Tryz.underlying22 hi hz0 hz1 hz2 rfl (by decide) _ _ _ rfl (hown.alloc _) ⟨_, 0, none⟩ 1 1 [.int .i64 _] rfl rfl (cell_one_new _ _ _) (fun x hx => by simp at hx; subst hx; rfl) (by unfold maxLen; omega) (by omega) (by first | omega | (simp; omega) | (simp at *; omega)) ?_; intro v' w3 hown' hgrow3 hnn)
      go_wp2
      go_roundw
      case rel => exact ⟨j + 1, by omega, by go_num, by rw [← HS.out]; exact hown', (hb.alloc hbs (.cells #[.int .i64 X] 3)).grown hgrow3 (by simp; omega) (fun q hq => (hown.lt q hq).1)⟩
      case measure => simp [intOf]; omega
    · obtain rfl : j = args.length := by omega
      obtain ⟨g, cap, rfl, hg1, hg2⟩ := hown.form (by have := HLA.out; omega)
      have w0 : wr.cell? ⟨g, 0, none⟩ = some (.int .i64 a) := by
        have := hown.cells (g := g) rfl 0 (.int .i64 a) (by simp [HLA.out])
        rwa [Addr.add_lit, Nat.zero_add] at this
      have w1 : wr.cell? ⟨g, 1, none⟩ = some (.int .i64 b) := by
        have := hown.cells (g := g) rfl 1 (.int .i64 b) (by simp [HLA.out])
        rwa [Addr.add_lit, Nat.zero_add] at this
      have lg : g < wr.heap.size := by simpa using hg2
      have hla := HLA.out
      have hlm : (args.length : Int) = 2 := by omega
      clear hown hg1 hg2 r0 hb0 hb hla
      cases hE : (a == b)
      · have HR := Lib.hid (show fitW 11 wd v a b c = false by show (a == b && wd == 1) = false; rw [hE]; rfl)
        go_wp2_with fail
        refine wp_region_aft (by kernel_rfl) (by kernel_rfl) ?_
        repeat (go_big_quiet_step (fail))
        refine wpQuiet_nil ?_
        intro y
        go_wp2
        go_ret
        exact ⟨retB HR.out.symm, Below.aft (y.below hB' hB'.size)⟩
      · have HR := Lib.hid (show fitW 11 wd v a b c = (wd == 1) by show (a == b && wd == 1) = _; rw [hE]; rfl)
        go_wp2_with fail
        refine wp_region_aft (by kernel_rfl) (by kernel_rfl) ?_
        repeat (go_big_quiet_step (fail))
        refine wpQuiet_nil ?_
        intro y
        go_wp2
        go_ret
        exact ⟨retB HR.out.symm, Below.aft (y.below hB' hB'.size)⟩

set_option maxRecDepth 100000 in
set_option maxHeartbeats 1600000 in
theorem rfit_12 (wd v a b c : Int) (hw1 : 1 ≤ wd) (hw2 : wd ≤ 16) (a0 : 0 ≤ a) (a1 : a ≤ 16) (b0 : 0 ≤ b) (b1 : b ≤ 16) (B : Option Addr) (bc : Nat) (args : List Int) (hla : args.length = 3) (N : Option Addr) (capN : Nat) (ns : List Nd) (hns : ns.length ≤ 65536) (w : World) (hN : LiesN w N ns) (hB : LiesI w B args) (hW : Wid ns args [a, b, c]) :
    Calls Tryz.prog 123 #[.slice N ns.length capN, .agg #[.int .i64 12, .int .i64 wd, .slice B args.length bc, .int .i64 v]] w fun e w' => e = .returned (.bool (fitW 12 wd v a b c)) ∧ ∃ x : Aft w, w' = x.val := by
  obtain ⟨i0, hi, hz0, hz1, hz2⟩ := info_parts int_info
  have HLA := Lib.hid hla
  have HN := Lib.hid hN
  have HB := Lib.hid hB
  have HV := Lib.hid hW
  clear hN hB hW hla
  go_enter Tryz.func123, Tryz.ntmps123
  go_wp2_with fail
  have r0 : (w.alloc (.cells #[.int .i64 12, .int .i64 wd, .slice B args.length bc, .int .i64 v] 61)).heap[w.heap.size]? = some (.cells #[.int .i64 12, .int .i64 wd, .slice B args.length bc, .int .i64 v] 61) := heap_alloc_new _ _
  have hb0 : Below w.heap.size w (w.alloc (.cells #[.int .i64 12, .int .i64 wd, .slice B args.length bc, .int .i64 v] 61)) := (Below.refl _ _).alloc (Nat.le_refl _) _
  have z0 : w.heap.size < (w.alloc (.cells #[.int .i64 12, .int .i64 wd, .slice B args.length bc, .int .i64 v] 61)).heap.size := by simp
  generalize (w.alloc (.cells #[.int .i64 12, .int .i64 wd, .slice B args.length bc, .int .i64 v] 61)) = W0 at *
  have R0 := Lib.hid r0
  clear r0
  go_loopw [5, 6] (fun v5 v6 wr => ∃ j : Nat, j ≤ args.length ∧ v6 = .int .i64 j ∧ wr.ownsRow W0.heap.size 3 1 v5 j (([a, b, c].take j).map fun q => Value.int .i64 q) ∧ Below W0.heap.size W0 wr) (fun _ v6 _ => args.length - (intOf v6).toNat)
  case atStart => exact ⟨0, by omega, rfl, World.ownsRow_nil _ _ _ _, Below.refl _ _⟩
  case round =>
    obtain ⟨j, hj, rfl, hown, hb⟩ := hrel
    have hbs := hb.size
    have r0 : wr.heap[w.heap.size]? = some (.cells #[.int .i64 12, .int .i64 wd, .slice B args.length bc, .int .i64 v] 61) := by rw [hb.block _ z0]; exact R0.out
    have q0 := cell_block (i := 0) r0
    have q1 := cell_block (i := 1) r0
    have q2 := cell_block (i := 2) r0
    have q3 := cell_block (i := 3) r0
    simp at q0 q1 q2 q3
    have lw : w.heap.size < wr.heap.size := by omega
    have hB' : Below w.heap.size w wr := hb0.trans (hb.mono (by omega))
    by_cases hlt : j < args.length
    · obtain ⟨k, n, g1, g2, g3⟩ := HV.out j hlt
      obtain ⟨ad, rfl, hbk, hc⟩ := (HB.out.below hB').cell g1
      obtain ⟨an, rfl, hbn, _, h1, _⟩ := (HN.out.below hB').cells g2
      have hkl := (List.getElem?_eq_some_iff.1 g2).1
      have hkk : (k : Int) < ns.length := by omega
      have hjj : (j : Int) < args.length := by omega
      have hj3 : j < 4 := by have := HLA.out; omega
      have h1' : wr.cell? ⟨(an.add (k * 4)).block, (an.add (k * 4)).off + 1, none⟩ = some (.int .i64 n.wd) := h1
      have HS := Lib.hid (snoc_at g3)
      clear h1 g1 g2 g3 r0 q0 q1 q3 hbk hbn hb0
      generalize n.wd = X at *
      go_wp2_with (at_builtin; refine wpList_append_own _ rfl _ _ 22 rfl _ 3 i0 (.int .i64 0) 1 8 Tryz.underlying22 hi hz0 hz1 hz2 rfl (by decide) _ _ _ rfl (hown.alloc _) ⟨_, 0, none⟩ 1 1 [.int .i64 _] rfl rfl (cell_one_new _ _ _) (fun x hx => by simp at hx; subst hx; rfl) (by unfold maxLen; omega) (by omega) (by first | omega | (simp; omega) | (simp at *; omega)) ?_; intro v' w3 hown' hgrow3 hnn)
      go_wp2
      go_roundw
      case rel => exact ⟨j + 1, by omega, by go_num, by rw [← HS.out]; exact hown', (hb.alloc hbs (.cells #[.int .i64 X] 3)).grown hgrow3 (by simp; omega) (fun q hq => (hown.lt q hq).1)⟩
      case measure => simp [intOf]; omega
    · obtain rfl : j = args.length := by omega
      obtain ⟨g, cap, rfl, hg1, hg2⟩ := hown.form (by have := HLA.out; omega)
      have w0 : wr.cell? ⟨g, 0, none⟩ = some (.int .i64 a) := by
        have := hown.cells (g := g) rfl 0 (.int .i64 a) (by simp [HLA.out])
        rwa [Addr.add_lit, Nat.zero_add] at this
      have w1 : wr.cell? ⟨g, 1, none⟩ = some (.int .i64 b) := by
        have := hown.cells (g := g) rfl 1 (.int .i64 b) (by simp [HLA.out])
        rwa [Addr.add_lit, Nat.zero_add] at this
      have w2 : wr.cell? ⟨g, 2, none⟩ = some (.int .i64 c) := by
        have := hown.cells (g := g) rfl 2 (.int .i64 c) (by simp [HLA.out])
        rwa [Addr.add_lit, Nat.zero_add] at this
      have lg : g < wr.heap.size := by simpa using hg2
      have hla := HLA.out
      have hlm : (args.length : Int) = 3 := by omega
      clear hown hg1 hg2 r0 hb0 hb hla
      cases hE : (a == 1)
      · have HR := Lib.hid (show fitW 12 wd v a b c = false by show (a == 1 && b == wd && c == wd) = false; rw [hE]; rfl)
        go_wp2_with fail
        refine wp_region_aft (by kernel_rfl) (by kernel_rfl) ?_
        repeat (go_big_quiet_step (fail))
        refine wpQuiet_nil ?_
        intro y
        go_wp2
        go_ret
        exact ⟨retB HR.out.symm, Below.aft (y.below hB' hB'.size)⟩
      cases hF : (b == wd)
      · have HR := Lib.hid (show fitW 12 wd v a b c = false by show (a == 1 && b == wd && c == wd) = false; rw [hE, hF]; rfl)
        go_wp2_with fail
        refine wp_region_aft (by kernel_rfl) (by kernel_rfl) ?_
        repeat (go_big_quiet_step (fail))
        refine wpQuiet_nil ?_
        intro y
        go_wp2
        go_ret
        exact ⟨retB HR.out.symm, Below.aft (y.below hB' hB'.size)⟩
      · have HR := Lib.hid (show fitW 12 wd v a b c = (c == wd) by show (a == 1 && b == wd && c == wd) = _; rw [hE, hF]; rfl)
        go_wp2_with fail
        refine wp_region_aft (by kernel_rfl) (by kernel_rfl) ?_
        repeat (go_big_quiet_step (fail))
        refine wpQuiet_nil ?_
        intro y
        go_wp2
        go_ret
        exact ⟨retB HR.out.symm, Below.aft (y.below hB' hB'.size)⟩

set_option maxRecDepth 100000 in
set_option maxHeartbeats 1600000 in
theorem rfit_13 (wd v a b c : Int) (hw1 : 1 ≤ wd) (hw2 : wd ≤ 16) (a0 : 0 ≤ a) (a1 : a ≤ 16) (b0 : 0 ≤ b) (b1 : b ≤ 16) (B : Option Addr) (bc : Nat) (args : List Int) (hla : args.length = 2) (N : Option Addr) (capN : Nat) (ns : List Nd) (hns : ns.length ≤ 65536) (w : World) (hN : LiesN w N ns) (hB : LiesI w B args) (hW : Wid ns args [a, b]) :
    Calls Tryz.prog 123 #[.slice N ns.length capN, .agg #[.int .i64 13, .int .i64 wd, .slice B args.length bc, .int .i64 v]] w fun e w' => e = .returned (.bool (fitW 13 wd v a b c)) ∧ ∃ x : Aft w, w' = x.val := by
  obtain ⟨i0, hi, hz0, hz1, hz2⟩ := info_parts int_info
  have HLA := Lib.hid hla
  have HN := Lib.hid hN
  have HB := Lib.hid hB
  have HV := Lib.hid hW
  clear hN hB hW hla
  go_enter Tryz.func123, Tryz.ntmps123
  go_wp2_with fail
  have r0 : (w.alloc (.cells #[.int .i64 13, .int .i64 wd, .slice B args.length bc, .int .i64 v] 61)).heap[w.heap.size]? = some (.cells #[.int .i64 13, .int .i64 wd, .slice B args.length bc, .int .i64 v] 61) := heap_alloc_new _ _
  have hb0 : Below w.heap.size w (w.alloc (.cells #[.int .i64 13, .int .i64 wd, .slice B args.length bc, .int .i64 v] 61)) := (Below.refl _ _).alloc (Nat.le_refl _) _
  have z0 : w.heap.size < (w.alloc (.cells #[.int .i64 13, .int .i64 wd, .slice B args.length bc, .int .i64 v] 61)).heap.size := by simp
  generalize (w.alloc (.cells #[.int .i64 13, .int .i64 wd, .slice B args.length bc, .int .i64 v] 61)) = W0 at *
  have R0 := Lib.hid r0
  clear r0
  go_loopw [5, 6] (fun v5 v6 wr => ∃ j : Nat, j ≤ args.length ∧ v6 = .int .i64 j ∧ wr.ownsRow W0.heap.size 3 1 v5 j (([a, b].take j).map fun q => Value.int .i64 q) ∧ Below W0.heap.size W0 wr) (fun _ v6 _ => args.length - (intOf v6).toNat)
  case atStart => exact ⟨0, by omega, rfl, World.ownsRow_nil _ _ _ _, Below.refl _ _⟩
  case round =>
    obtain ⟨j, hj, rfl, hown, hb⟩ := hrel
    have hbs := hb.size
    have r0 : wr.heap[w.heap.size]? = some (.cells #[.int .i64 13, .int .i64 wd, .slice B args.length bc, .int .i64 v] 61) := by rw [hb.block _ z0]; exact R0.out
    have q0 := cell_block (i := 0) r0
    have q1 := cell_block (i := 1) r0
    have q2 := cell_block (i := 2) r0
    have q3 := cell_block (i := 3) r0
    simp at q0 q1 q2 q3
    have lw : w.heap.size < wr.heap.size := by omega
    have hB' : Below w.heap.size w wr := hb0.trans (hb.mono (by omega))
    by_cases hlt : j < args.length
    · obtain ⟨k, n, g1, g2, g3⟩ := HV.out j hlt
      obtain ⟨ad, rfl, hbk, hc⟩ := (HB.out.below hB').cell g1
      obtain ⟨an, rfl, hbn, _, h1, _⟩ := (HN.out.below hB').cells g2
      have hkl := (List.getElem?_eq_some_iff.1 g2).1
      have hkk : (k : Int) < ns.length := by omega
      have hjj : (j : Int) < args.length := by omega
      have hj3 : j < 4 := by have := HLA.out; omega
      have h1' : wr.cell? ⟨(an.add (k * 4)).block, (an.add (k * 4)).off + 1, none⟩ = some (.int .i64 n.wd) := h1
      have HS := Lib.hid (snoc_at g3)
      clear h1 g1 g2 g3 r0 q0 q1 q3 hbk hbn hb0
      generalize n.wd = X at *
      go_wp2_with (at_builtin; refine wpList_append_own _ rfl _ _ 22 rfl _ 3 i0 (.int .i64 0) 1 8 Tryz.underlying22 hi hz0 hz1 hz2 rfl (by decide) _ _ _ rfl (hown.alloc _) ⟨_, 0, none⟩ 1 1 [.int .i64 _] rfl rfl (cell_one_new _ _ _) (fun x hx => by simp at hx; subst hx; rfl) (by unfold maxLen; omega) (by omega) (by first | omega | (simp; omega) | (simp at *; omega)) ?_; intro v' w3 hown' hgrow3 hnn)
      go_wp2
      go_roundw
      case rel => exact ⟨j + 1, by omega, by go_num, by rw [← HS.out]; exact hown', (hb.alloc hbs (.cells #[.int .i64 X] 3)).grown hgrow3 (by simp; omega) (fun q hq => (hown.lt q hq).1)⟩
      case measure => simp [intOf]; omega
    · obtain rfl : j = args.length := by omega
      obtain ⟨g, cap, rfl, hg1, hg2⟩ := hown.form (by have := HLA.out; omega)
      have w0 : wr.cell? ⟨g, 0, none⟩ = some (.int .i64 a) := by
        have := hown.cells (g := g) rfl 0 (.int .i64 a) (by simp [HLA.out])
        rwa [Addr.add_lit, Nat.zero_add] at this
      have w1 : wr.cell? ⟨g, 1, none⟩ = some (.int .i64 b) := by
        have := hown.cells (g := g) rfl 1 (.int .i64 b) (by simp [HLA.out])
        rwa [Addr.add_lit, Nat.zero_add] at this
      have lg : g < wr.heap.size := by simpa using hg2
      have hla := HLA.out
      have hlm : (args.length : Int) = 2 := by omega
      clear hown hg1 hg2 r0 hb0 hb hla
      have HR := Lib.hid (show fitW 13 wd v a b c = (a + b == wd) from rfl)
      go_wp2_with fail
      refine wp_region_aft (by kernel_rfl) (by kernel_rfl) ?_
      repeat (go_big_quiet_step (fail))
      refine wpQuiet_nil ?_
      intro y
      go_wp2
      go_ret
      exact ⟨retB HR.out.symm, Below.aft (y.below hB' hB'.size)⟩

set_option maxRecDepth 100000 in
set_option maxHeartbeats 1600000 in
theorem rfit_14 (wd v a b c : Int) (hw1 : 1 ≤ wd) (hw2 : wd ≤ 16) (a0 : 0 ≤ a) (a1 : a ≤ 16) (b0 : 0 ≤ b) (b1 : b ≤ 16) (v0 : 0 ≤ v) (v1 : v ≤ 15) (B : Option Addr) (bc : Nat) (args : List Int) (hla : args.length = 1) (N : Option Addr) (capN : Nat) (ns : List Nd) (hns : ns.length ≤ 65536) (w : World) (hN : LiesN w N ns) (hB : LiesI w B args) (hW : Wid ns args [a]) :
    Calls Tryz.prog 123 #[.slice N ns.length capN, .agg #[.int .i64 14, .int .i64 wd, .slice B args.length bc, .int .i64 v]] w fun e w' => e = .returned (.bool (fitW 14 wd v a b c)) ∧ ∃ x : Aft w, w' = x.val := by
  obtain ⟨i0, hi, hz0, hz1, hz2⟩ := info_parts int_info
  have HLA := Lib.hid hla
  have HN := Lib.hid hN
  have HB := Lib.hid hB
  have HV := Lib.hid hW
  clear hN hB hW hla
  go_enter Tryz.func123, Tryz.ntmps123
  go_wp2_with fail
  have r0 : (w.alloc (.cells #[.int .i64 14, .int .i64 wd, .slice B args.length bc, .int .i64 v] 61)).heap[w.heap.size]? = some (.cells #[.int .i64 14, .int .i64 wd, .slice B args.length bc, .int .i64 v] 61) := heap_alloc_new _ _
  have hb0 : Below w.heap.size w (w.alloc (.cells #[.int .i64 14, .int .i64 wd, .slice B args.length bc, .int .i64 v] 61)) := (Below.refl _ _).alloc (Nat.le_refl _) _
  have z0 : w.heap.size < (w.alloc (.cells #[.int .i64 14, .int .i64 wd, .slice B args.length bc, .int .i64 v] 61)).heap.size := by simp
  generalize (w.alloc (.cells #[.int .i64 14, .int .i64 wd, .slice B args.length bc, .int .i64 v] 61)) = W0 at *
  have R0 := Lib.hid r0
  clear r0
  go_loopw [5, 6] (fun v5 v6 wr => ∃ j : Nat, j ≤ args.length ∧ v6 = .int .i64 j ∧ wr.ownsRow W0.heap.size 3 1 v5 j (([a].take j).map fun q => Value.int .i64 q) ∧ Below W0.heap.size W0 wr) (fun _ v6 _ => args.length - (intOf v6).toNat)
  case atStart => exact ⟨0, by omega, rfl, World.ownsRow_nil _ _ _ _, Below.refl _ _⟩
  case round =>
    obtain ⟨j, hj, rfl, hown, hb⟩ := hrel
    have hbs := hb.size
    have r0 : wr.heap[w.heap.size]? = some (.cells #[.int .i64 14, .int .i64 wd, .slice B args.length bc, .int .i64 v] 61) := by rw [hb.block _ z0]; exact R0.out
    have q0 := cell_block (i := 0) r0
    have q1 := cell_block (i := 1) r0
    have q2 := cell_block (i := 2) r0
    have q3 := cell_block (i := 3) r0
    simp at q0 q1 q2 q3
    have lw : w.heap.size < wr.heap.size := by omega
    have hB' : Below w.heap.size w wr := hb0.trans (hb.mono (by omega))
    by_cases hlt : j < args.length
    · obtain ⟨k, n, g1, g2, g3⟩ := HV.out j hlt
      obtain ⟨ad, rfl, hbk, hc⟩ := (HB.out.below hB').cell g1
      obtain ⟨an, rfl, hbn, _, h1, _⟩ := (HN.out.below hB').cells g2
      have hkl := (List.getElem?_eq_some_iff.1 g2).1
      have hkk : (k : Int) < ns.length := by omega
      have hjj : (j : Int) < args.length := by omega
      have hj3 : j < 4 := by have := HLA.out; omega
      have h1' : wr.cell? ⟨(an.add (k * 4)).block, (an.add (k * 4)).off + 1, none⟩ = some (.int .i64 n.wd) := h1
      have HS := Lib.hid (snoc_at g3)
      clear h1 g1 g2 g3 r0 q0 q1 q3 hbk hbn hb0
      generalize n.wd = X at *
      go_wp2_with (at_builtin; refine wpList_append_own _ rfl _ _ 22 rfl _ 3 i0 (.int .i64 0) 1 8 Tryz.underlying22 hi hz0 hz1 hz2 rfl (by decide) _ _ _ rfl (hown.alloc _) ⟨_, 0, none⟩ 1 1 [.int .i64 _] rfl rfl (cell_one_new _ _ _) (fun x hx => by simp at hx; subst hx; rfl) (by unfold maxLen; omega) (by omega) (by first | omega | (simp; omega) | (simp at *; omega)) ?_; intro v' w3 hown' hgrow3 hnn)
      go_wp2
      go_roundw
      case rel => exact ⟨j + 1, by omega, by go_num, by rw [← HS.out]; exact hown', (hb.alloc hbs (.cells #[.int .i64 X] 3)).grown hgrow3 (by simp; omega) (fun q hq => (hown.lt q hq).1)⟩
      case measure => simp [intOf]; omega
    · obtain rfl : j = args.length := by omega
      obtain ⟨g, cap, rfl, hg1, hg2⟩ := hown.form (by have := HLA.out; omega)
      have w0 : wr.cell? ⟨g, 0, none⟩ = some (.int .i64 a) := by
        have := hown.cells (g := g) rfl 0 (.int .i64 a) (by simp [HLA.out])
        rwa [Addr.add_lit, Nat.zero_add] at this
      have lg : g < wr.heap.size := by simpa using hg2
      have hla := HLA.out
      have hlm : (args.length : Int) = 1 := by omega
      clear hown hg1 hg2 r0 hb0 hb hla
      have HR := Lib.hid (show fitW 14 wd v a b c = (decide (v + wd ≤ a)) from rfl)
      go_wp2_with fail
      refine wp_region_aft (by kernel_rfl) (by kernel_rfl) ?_
      repeat (go_big_quiet_step (fail))
      refine wpQuiet_nil ?_
      intro y
      go_wp2
      go_ret
      exact ⟨retB HR.out.symm, Below.aft (y.below hB' hB'.size)⟩

set_option maxRecDepth 100000 in
set_option maxHeartbeats 1600000 in
theorem rfit_15 (wd v a b c : Int) (hw1 : 1 ≤ wd) (hw2 : wd ≤ 16) (a0 : 0 ≤ a) (a1 : a ≤ 16) (b0 : 0 ≤ b) (b1 : b ≤ 16) (B : Option Addr) (bc : Nat) (args : List Int) (hla : args.length = 1) (N : Option Addr) (capN : Nat) (ns : List Nd) (hns : ns.length ≤ 65536) (w : World) (hN : LiesN w N ns) (hB : LiesI w B args) (hW : Wid ns args [a]) :
    Calls Tryz.prog 123 #[.slice N ns.length capN, .agg #[.int .i64 15, .int .i64 wd, .slice B args.length bc, .int .i64 v]] w fun e w' => e = .returned (.bool (fitW 15 wd v a b c)) ∧ ∃ x : Aft w, w' = x.val := by
  obtain ⟨i0, hi, hz0, hz1, hz2⟩ := info_parts int_info
  have HLA := Lib.hid hla
  have HN := Lib.hid hN
  have HB := Lib.hid hB
  have HV := Lib.hid hW
  clear hN hB hW hla
  go_enter Tryz.func123, Tryz.ntmps123
  go_wp2_with fail
  have r0 : (w.alloc (.cells #[.int .i64 15, .int .i64 wd, .slice B args.length bc, .int .i64 v] 61)).heap[w.heap.size]? = some (.cells #[.int .i64 15, .int .i64 wd, .slice B args.length bc, .int .i64 v] 61) := heap_alloc_new _ _
  have hb0 : Below w.heap.size w (w.alloc (.cells #[.int .i64 15, .int .i64 wd, .slice B args.length bc, .int .i64 v] 61)) := (Below.refl _ _).alloc (Nat.le_refl _) _
  have z0 : w.heap.size < (w.alloc (.cells #[.int .i64 15, .int .i64 wd, .slice B args.length bc, .int .i64 v] 61)).heap.size := by simp
  generalize (w.alloc (.cells #[.int .i64 15, .int .i64 wd, .slice B args.length bc, .int .i64 v] 61)) = W0 at *
  have R0 := Lib.hid r0
  clear r0
  go_loopw [5, 6] (fun v5 v6 wr => ∃ j : Nat, j ≤ args.length ∧ v6 = .int .i64 j ∧ wr.ownsRow W0.heap.size 3 1 v5 j (([a].take j).map fun q => Value.int .i64 q) ∧ Below W0.heap.size W0 wr) (fun _ v6 _ => args.length - (intOf v6).toNat)
  case atStart => exact ⟨0, by omega, rfl, World.ownsRow_nil _ _ _ _, Below.refl _ _⟩
  case round =>
    obtain ⟨j, hj, rfl, hown, hb⟩ := hrel
    have hbs := hb.size
    have r0 : wr.heap[w.heap.size]? = some (.cells #[.int .i64 15, .int .i64 wd, .slice B args.length bc, .int .i64 v] 61) := by rw [hb.block _ z0]; exact R0.out
    have q0 := cell_block (i := 0) r0
    have q1 := cell_block (i := 1) r0
    have q2 := cell_block (i := 2) r0
    have q3 := cell_block (i := 3) r0
    simp at q0 q1 q2 q3
    have lw : w.heap.size < wr.heap.size := by omega
    have hB' : Below w.heap.size w wr := hb0.trans (hb.mono (by omega))
    by_cases hlt : j < args.length
    · obtain ⟨k, n, g1, g2, g3⟩ := HV.out j hlt
      obtain ⟨ad, rfl, hbk, hc⟩ := (HB.out.below hB').cell g1
      obtain ⟨an, rfl, hbn, _, h1, _⟩ := (HN.out.below hB').cells g2
      have hkl := (List.getElem?_eq_some_iff.1 g2).1
      have hkk : (k : Int) < ns.length := by omega
      have hjj : (j : Int) < args.length := by omega
      have hj3 : j < 4 := by have := HLA.out; omega
      have h1' : wr.cell? ⟨(an.add (k * 4)).block, (an.add (k * 4)).off + 1, none⟩ = some (.int .i64 n.wd) := h1
      have HS := Lib.hid (snoc_at g3)
      clear h1 g1 g2 g3 r0 q0 q1 q3 hbk hbn hb0
      generalize n.wd = X at *
      go_wp2_with (at_builtin; refine wpList_append_own _ rfl _ _ 22 rfl _ 3 i0 (.int .i64 0) 1 8 Tryz.underlying22 hi hz0 hz1 hz2 rfl (by decide) _ _ _ rfl (hown.alloc _) ⟨_, 0, none⟩ 1 1 [.int .i64 _] rfl rfl (cell_one_new _ _ _) (fun x hx => by simp at hx; subst hx; rfl) (by unfold maxLen; omega) (by omega) (by first | omega | (simp; omega) | (simp at *; omega)) ?_; intro v' w3 hown' hgrow3 hnn)
      go_wp2
      go_roundw
      case rel => exact ⟨j + 1, by omega, by go_num, by rw [← HS.out]; exact hown', (hb.alloc hbs (.cells #[.int .i64 X] 3)).grown hgrow3 (by simp; omega) (fun q hq => (hown.lt q hq).1)⟩
      case measure => simp [intOf]; omega
    · obtain rfl : j = args.length := by omega
      obtain ⟨g, cap, rfl, hg1, hg2⟩ := hown.form (by have := HLA.out; omega)
      have w0 : wr.cell? ⟨g, 0, none⟩ = some (.int .i64 a) := by
        have := hown.cells (g := g) rfl 0 (.int .i64 a) (by simp [HLA.out])
        rwa [Addr.add_lit, Nat.zero_add] at this
      have lg : g < wr.heap.size := by simpa using hg2
      have hla := HLA.out
      have hlm : (args.length : Int) = 1 := by omega
      clear hown hg1 hg2 r0 hb0 hb hla
      have HR := Lib.hid (show fitW 15 wd v a b c = (decide (a ≤ wd)) from rfl)
      go_wp2_with fail
      refine wp_region_aft (by kernel_rfl) (by kernel_rfl) ?_
      repeat (go_big_quiet_step (fail))
      refine wpQuiet_nil ?_
      intro y
      go_wp2
      go_ret
      exact ⟨retB HR.out.symm, Below.aft (y.below hB' hB'.size)⟩

set_option maxRecDepth 100000 in
set_option maxHeartbeats 1600000 in
theorem rfit_16 (wd v a b c : Int) (hw1 : 1 ≤ wd) (hw2 : wd ≤ 16) (a0 : 0 ≤ a) (a1 : a ≤ 16) (b0 : 0 ≤ b) (b1 : b ≤ 16) (B : Option Addr) (bc : Nat) (args : List Int) (hla : args.length = 1) (N : Option Addr) (capN : Nat) (ns : List Nd) (hns : ns.length ≤ 65536) (w : World) (hN : LiesN w N ns) (hB : LiesI w B args) (hW : Wid ns args [a]) :
    Calls Tryz.prog 123 #[.slice N ns.length capN, .agg #[.int .i64 16, .int .i64 wd, .slice B args.length bc, .int .i64 v]] w fun e w' => e = .returned (.bool (fitW 16 wd v a b c)) ∧ ∃ x : Aft w, w' = x.val := by
  obtain ⟨i0, hi, hz0, hz1, hz2⟩ := info_parts int_info
  have HLA := Lib.hid hla
  have HN := Lib.hid hN
  have HB := Lib.hid hB
  have HV := Lib.hid hW
  clear hN hB hW hla
  go_enter Tryz.func123, Tryz.ntmps123
  go_wp2_with fail
  have r0 : (w.alloc (.cells #[.int .i64 16, .int .i64 wd, .slice B args.length bc, .int .i64 v] 61)).heap[w.heap.size]? = some (.cells #[.int .i64 16, .int .i64 wd, .slice B args.length bc, .int .i64 v] 61) := heap_alloc_new _ _
  have hb0 : Below w.heap.size w (w.alloc (.cells #[.int .i64 16, .int .i64 wd, .slice B args.length bc, .int .i64 v] 61)) := (Below.refl _ _).alloc (Nat.le_refl _) _
  have z0 : w.heap.size < (w.alloc (.cells #[.int .i64 16, .int .i64 wd, .slice B args.length bc, .int .i64 v] 61)).heap.size := by simp
  generalize (w.alloc (.cells #[.int .i64 16, .int .i64 wd, .slice B args.length bc, .int .i64 v] 61)) = W0 at *
  have R0 := Lib.hid r0
  clear r0
  go_loopw [5, 6] (fun v5 v6 wr => ∃ j : Nat, j ≤ args.length ∧ v6 = .int .i64 j ∧ wr.ownsRow W0.heap.size 3 1 v5 j (([a].take j).map fun q => Value.int .i64 q) ∧ Below W0.heap.size W0 wr) (fun _ v6 _ => args.length - (intOf v6).toNat)
  case atStart => exact ⟨0, by omega, rfl, World.ownsRow_nil _ _ _ _, Below.refl _ _⟩
  case round =>
    obtain ⟨j, hj, rfl, hown, hb⟩ := hrel
    have hbs := hb.size
    have r0 : wr.heap[w.heap.size]? = some (.cells #[.int .i64 16, .int .i64 wd, .slice B args.length bc, .int .i64 v] 61) := by rw [hb.block _ z0]; exact R0.out
    have q0 := cell_block (i := 0) r0
    have q1 := cell_block (i := 1) r0
    have q2 := cell_block (i := 2) r0
    have q3 := cell_block (i := 3) r0
    simp at q0 q1 q2 q3
    have lw : w.heap.size < wr.heap.size := by omega
    have hB' : Below w.heap.size w wr := hb0.trans (hb.mono (by omega))
    by_cases hlt : j < args.length
    · obtain ⟨k, n, g1, g2, g3⟩ := HV.out j hlt
      obtain ⟨ad, rfl, hbk, hc⟩ := (HB.out.below hB').cell g1
      obtain ⟨an, rfl, hbn, _, h1, _⟩ := (HN.out.below hB').cells g2
      have hkl := (List.getElem?_eq_some_iff.1 g2).1
      have hkk : (k : Int) < ns.length := by omega
      have hjj : (j : Int) < args.length := by omega
      have hj3 : j < 4 := by have := HLA.out; omega
      have h1' : wr.cell? ⟨(an.add (k * 4)).block, (an.add (k * 4)).off + 1, none⟩ = some (.int .i64 n.wd) := h1
      have HS := Lib.hid (snoc_at g3)
      clear h1 g1 g2 g3 r0 q0 q1 q3 hbk hbn hb0
      generalize n.wd = X at *
      go_wp2_with (at_builtin; refine wpList_append_own _ rfl _ _ 22 rfl _ 3 i0 (.int .i64 0) 1 8 Tryz.underlying22 hi hz0 hz1 hz2 rfl (by decide) _ _ _ rfl (hown.alloc _) ⟨_, 0, none⟩ 1 1 [.int .i64 _] rfl rfl (cell_one_new _ _ _) (fun x hx => by simp at hx; subst hx; rfl) (by unfold maxLen; omega) (by omega) (by first | omega | (simp; omega) | (simp at *; omega)) ?_; intro v' w3 hown' hgrow3 hnn)
      go_wp2
      go_roundw
      case rel => exact ⟨j + 1, by omega, by go_num, by rw [← HS.out]; exact hown', (hb.alloc hbs (.cells #[.int .i64 X] 3)).grown hgrow3 (by simp; omega) (fun q hq => (hown.lt q hq).1)⟩
      case measure => simp [intOf]; omega
    · obtain rfl : j = args.length := by omega
      obtain ⟨g, cap, rfl, hg1, hg2⟩ := hown.form (by have := HLA.out; omega)
      have w0 : wr.cell? ⟨g, 0, none⟩ = some (.int .i64 a) := by
        have := hown.cells (g := g) rfl 0 (.int .i64 a) (by simp [HLA.out])
        rwa [Addr.add_lit, Nat.zero_add] at this
      have lg : g < wr.heap.size := by simpa using hg2
      have hla := HLA.out
      have hlm : (args.length : Int) = 1 := by omega
      clear hown hg1 hg2 r0 hb0 hb hla
      have HR := Lib.hid (show fitW 16 wd v a b c = (decide (a ≤ wd)) from rfl)
      go_wp2_with fail
      refine wp_region_aft (by kernel_rfl) (by kernel_rfl) ?_
      repeat (go_big_quiet_step (fail))
      refine wpQuiet_nil ?_
      intro y
      go_wp2
      go_ret
      exact ⟨retB HR.out.symm, Below.aft (y.below hB' hB'.size)⟩

set_option maxRecDepth 100000 in
set_option maxHeartbeats 1600000 in
theorem rfit_17 (wd v a b c : Int) (hw1 : 1 ≤ wd) (hw2 : wd ≤ 16) (a0 : 0 ≤ a) (a1 : a ≤ 16) (b0 : 0 ≤ b) (b1 : b ≤ 16) (B : Option Addr) (bc : Nat) (args : List Int) (hla : args.length = 2) (N : Option Addr) (capN : Nat) (ns : List Nd) (hns : ns.length ≤ 65536) (w : World) (hN : LiesN w N ns) (hB : LiesI w B args) (hW : Wid ns args [a, b]) :
    Calls Tryz.prog 123 #[.slice N ns.length capN, .agg #[.int .i64 17, .int .i64 wd, .slice B args.length bc, .int .i64 v]] w fun e w' => e = .returned (.bool (fitW 17 wd v a b c)) ∧ ∃ x : Aft w, w' = x.val := by
  obtain ⟨i0, hi, hz0, hz1, hz2⟩ := info_parts int_info
  have HLA := Lib.hid hla
  have HN := Lib.hid hN
  have HB := Lib.hid hB
  have HV := Lib.hid hW
  clear hN hB hW hla
  go_enter Tryz.func123, Tryz.ntmps123
  go_wp2_with fail
  have r0 : (w.alloc (.cells #[.int .i64 17, .int .i64 wd, .slice B args.length bc, .int .i64 v] 61)).heap[w.heap.size]? = some (.cells #[.int .i64 17, .int .i64 wd, .slice B args.length bc, .int .i64 v] 61) := heap_alloc_new _ _
  have hb0 : Below w.heap.size w (w.alloc (.cells #[.int .i64 17, .int .i64 wd, .slice B args.length bc, .int .i64 v] 61)) := (Below.refl _ _).alloc (Nat.le_refl _) _
  have z0 : w.heap.size < (w.alloc (.cells #[.int .i64 17, .int .i64 wd, .slice B args.length bc, .int .i64 v] 61)).heap.size := by simp
  generalize (w.alloc (.cells #[.int .i64 17, .int .i64 wd, .slice B args.length bc, .int .i64 v] 61)) = W0 at *
  have R0 := Lib.hid r0
  clear r0
  go_loopw [5, 6] (fun v5 v6 wr => ∃ j : Nat, j ≤ args.length ∧ v6 = .int .i64 j ∧ wr.ownsRow W0.heap.size 3 1 v5 j (([a, b].take j).map fun q => Value.int .i64 q) ∧ Below W0.heap.size W0 wr) (fun _ v6 _ => args.length - (intOf v6).toNat)
  case atStart => exact ⟨0, by omega, rfl, World.ownsRow_nil _ _ _ _, Below.refl _ _⟩
  case round =>
    obtain ⟨j, hj, rfl, hown, hb⟩ := hrel
    have hbs := hb.size
    have r0 : wr.heap[w.heap.size]? = some (.cells #[.int .i64 17, .int .i64 wd, .slice B args.length bc, .int .i64 v] 61) := by rw [hb.block _ z0]; exact R0.out
    have q0 := cell_block (i := 0) r0
    have q1 := cell_block (i := 1) r0
    have q2 := cell_block (i := 2) r0
    have q3 := cell_block (i := 3) r0
    simp at q0 q1 q2 q3
    have lw : w.heap.size < wr.heap.size := by omega
    have hB' : Below w.heap.size w wr := hb0.trans (hb.mono (by omega))
    by_cases hlt : j < args.length
    · obtain ⟨k, n, g1, g2, g3⟩ := HV.out j hlt
      obtain ⟨ad, rfl, hbk, hc⟩ := (HB.out.below hB').cell g1
      obtain ⟨an, rfl, hbn, _, h1, _⟩ := (HN.out.below hB').cells g2
      have hkl := (List.getElem?_eq_some_iff.1 g2).1
      have hkk : (k : Int) < ns.length := by omega
      have hjj : (j : Int) < args.length := by omega
      have hj3 : j < 4 := by have := HLA.out; omega
      have h1' : wr.cell? ⟨(an.add (k * 4)).block, (an.add (k * 4)).off + 1, none⟩ = some (.int .i64 n.wd) := h1
      have HS := Lib.hid (snoc_at g3)
      clear h1 g1 g2 g3 r0 q0 q1 q3 hbk hbn hb0
      generalize n.wd = X at *
      go_wp2_with (at_builtin; refine wpList_append_own _ rfl _ _ 22 rfl _ 3 i0 (.int .i64 0) 1 8 Tryz.underlying22 hi hz0 hz1 hz2 rfl (by decide) _ _ _ rfl (hown.alloc _) ⟨_, 0, none⟩ 1 1 [.int .i64 _] rfl rfl (cell_one_new _ _ _) (fun x hx => by simp at hx; subst hx; rfl) (by unfold maxLen; omega) (by omega) (by first | omega | (simp; omega) | (simp at *; omega)) ?_; intro v' w3 hown' hgrow3 hnn)
      go_wp2
      go_roundw
      case rel => exact ⟨j + 1, by omega, by go_num, by rw [← HS.out]; exact hown', (hb.alloc hbs (.cells #[.int .i64 X] 3)).grown hgrow3 (by simp; omega) (fun q hq => (hown.lt q hq).1)⟩
      case measure => simp [intOf]; omega
    · obtain rfl : j = args.length := by omega
      obtain ⟨g, cap, rfl, hg1, hg2⟩ := hown.form (by have := HLA.out; omega)
      have w0 : wr.cell? ⟨g, 0, none⟩ = some (.int .i64 a) := by
        have := hown.cells (g := g) rfl 0 (.int .i64 a) (by simp [HLA.out])
        rwa [Addr.add_lit, Nat.zero_add] at this
      have w1 : wr.cell? ⟨g, 1, none⟩ = some (.int .i64 b) := by
        have := hown.cells (g := g) rfl 1 (.int .i64 b) (by simp [HLA.out])
        rwa [Addr.add_lit, Nat.zero_add] at this
      have lg : g < wr.heap.size := by simpa using hg2
      have hla := HLA.out
      have hlm : (args.length : Int) = 2 := by omega
      clear hown hg1 hg2 r0 hb0 hb hla
      have HR := Lib.hid (show fitW 17 wd v a b c = (a == wd) from rfl)
      go_wp2_with fail
      refine wp_region_aft (by kernel_rfl) (by kernel_rfl) ?_
      repeat (go_big_quiet_step (fail))
      refine wpQuiet_nil ?_
      intro y
      go_wp2
      go_ret
      exact ⟨retB HR.out.symm, Below.aft (y.below hB' hB'.size)⟩

set_option maxRecDepth 100000 in
set_option maxHeartbeats 1600000 in
theorem rfit_18 (wd v a b c : Int) (hw1 : 1 ≤ wd) (hw2 : wd ≤ 16) (a0 : 0 ≤ a) (a1 : a ≤ 16) (b0 : 0 ≤ b) (b1 : b ≤ 16) (B : Option Addr) (bc : Nat) (args : List Int) (hla : args.length = 2) (N : Option Addr) (capN : Nat) (ns : List Nd) (hns : ns.length ≤ 65536) (w : World) (hN : LiesN w N ns) (hB : LiesI w B args) (hW : Wid ns args [a, b]) :
    Calls Tryz.prog 123 #[.slice N ns.length capN, .agg #[.int .i64 18, .int .i64 wd, .slice B args.length bc, .int .i64 v]] w fun e w' => e = .returned (.bool (fitW 18 wd v a b c)) ∧ ∃ x : Aft w, w' = x.val := by
  obtain ⟨i0, hi, hz0, hz1, hz2⟩ := info_parts int_info
  have HLA := Lib.hid hla
  have HN := Lib.hid hN
  have HB := Lib.hid hB
  have HV := Lib.hid hW
  clear hN hB hW hla
  go_enter Tryz.func123, Tryz.ntmps123
  go_wp2_with fail
  have r0 : (w.alloc (.cells #[.int .i64 18, .int .i64 wd, .slice B args.length bc, .int .i64 v] 61)).heap[w.heap.size]? = some (.cells #[.int .i64 18, .int .i64 wd, .slice B args.length bc, .int .i64 v] 61) := heap_alloc_new _ _
  have hb0 : Below w.heap.size w (w.alloc (.cells #[.int .i64 18, .int .i64 wd, .slice B args.length bc, .int .i64 v] 61)) := (Below.refl _ _).alloc (Nat.le_refl _) _
  have z0 : w.heap.size < (w.alloc (.cells #[.int .i64 18, .int .i64 wd, .slice B args.length bc, .int .i64 v] 61)).heap.size := by simp
  generalize (w.alloc (.cells #[.int .i64 18, .int .i64 wd, .slice B args.length bc, .int .i64 v] 61)) = W0 at *
  have R0 := Lib.hid r0
  clear r0
  go_loopw [5, 6] (fun v5 v6 wr => ∃ j : Nat, j ≤ args.length ∧ v6 = .int .i64 j ∧ wr.ownsRow W0.heap.size 3 1 v5 j (([a, b].take j).map fun q => Value.int .i64 q) ∧ Below W0.heap.size W0 wr) (fun _ v6 _ => args.length - (intOf v6).toNat)
  case atStart => exact ⟨0, by omega, rfl, World.ownsRow_nil _ _ _ _, Below.refl _ _⟩
  case round =>
    obtain ⟨j, hj, rfl, hown, hb⟩ := hrel
    have hbs := hb.size
    have r0 : wr.heap[w.heap.size]? = some (.cells #[.int .i64 18, .int .i64 wd, .slice B args.length bc, .int .i64 v] 61) := by rw [hb.block _ z0]; exact R0.out
    have q0 := cell_block (i := 0) r0
    have q1 := cell_block (i := 1) r0
    have q2 := cell_block (i := 2) r0
    have q3 := cell_block (i := 3) r0
    simp at q0 q1 q2 q3
    have lw : w.heap.size < wr.heap.size := by omega
    have hB' : Below w.heap.size w wr := hb0.trans (hb.mono (by omega))
    by_cases hlt : j < args.length
    · obtain ⟨k, n, g1, g2, g3⟩ := HV.out j hlt
      obtain ⟨ad, rfl, hbk, hc⟩ := (HB.out.below hB').cell g1
      obtain ⟨an, rfl, hbn, _, h1, _⟩ := (HN.out.below hB').cells g2
      have hkl := (List.getElem?_eq_some_iff.1 g2).1
      have hkk : (k : Int) < ns.length := by omega
      have hjj : (j : Int) < args.length := by omega
      have hj3 : j < 4 := by have := HLA.out; omega
      have h1' : wr.cell? ⟨(an.add (k * 4)).block, (an.add (k * 4)).off + 1, none⟩ = some (.int .i64 n.wd) := h1
      have HS := Lib.hid (snoc_at g3)
      clear h1 g1 g2 g3 r0 q0 q1 q3 hbk hbn hb0
      generalize n.wd = X at *
      go_wp2_with (at_builtin; refine wpList_append_own _ rfl _ _ 22 rfl _ 3 i0 (.int .i64 0) 1 8 Tryz.underlying22 hi hz0 hz1 hz2 rfl (by decide) _ _ _ rfl (hown.alloc _) ⟨_, 0, none⟩ 1 1 [.int .i64 _] rfl rfl (cell_one_new _ _ _) (fun x hx => by simp at hx; subst hx; rfl) (by unfold maxLen; omega) (by omega) (by first | omega | (simp; omega) | (simp at *; omega)) ?_; intro v' w3 hown' hgrow3 hnn)
      go_wp2
      go_roundw
      case rel => exact ⟨j + 1, by omega, by go_num, by rw [← HS.out]; exact hown', (hb.alloc hbs (.cells #[.int .i64 X] 3)).grown hgrow3 (by simp; omega) (fun q hq => (hown.lt q hq).1)⟩
      case measure => simp [intOf]; omega
    · obtain rfl : j = args.length := by omega
      obtain ⟨g, cap, rfl, hg1, hg2⟩ := hown.form (by have := HLA.out; omega)
      have w0 : wr.cell? ⟨g, 0, none⟩ = some (.int .i64 a) := by
        have := hown.cells (g := g) rfl 0 (.int .i64 a) (by simp [HLA.out])
        rwa [Addr.add_lit, Nat.zero_add] at this
      have w1 : wr.cell? ⟨g, 1, none⟩ = some (.int .i64 b) := by
        have := hown.cells (g := g) rfl 1 (.int .i64 b) (by simp [HLA.out])
        rwa [Addr.add_lit, Nat.zero_add] at this
      have lg : g < wr.heap.size := by simpa using hg2
      have hla := HLA.out
      have hlm : (args.length : Int) = 2 := by omega
      clear hown hg1 hg2 r0 hb0 hb hla
      have HR := Lib.hid (show fitW 18 wd v a b c = (a == wd) from rfl)
      go_wp2_with fail
      refine wp_region_aft (by kernel_rfl) (by kernel_rfl) ?_
      repeat (go_big_quiet_step (fail))
      refine wpQuiet_nil ?_
      intro y
      go_wp2
      go_ret
      exact ⟨retB HR.out.symm, Below.aft (y.below hB' hB'.size)⟩

end Go.Proofs.YtkdonapgonegkaaGreatDoor
