/-
  Contracts of chapter 2 (graph): what the trials of some nodes are made of.
-/
import Derived.Test.YtkdonapgonegkaaDoorGI
set_option linter.unusedSimpArgs false
set_option linter.unusedVariables false
namespace Go.Proofs.YtkdonapgonegkaaDoor
open Go.RowKit Go.BigFrame

/-- What the closure of the trials has captured. -/
structure Caught (w : World) (b3 b4 b5 b9 b7 b8 : Nat) (ls : List Int) (ns : List Nd) (fr : List Int) : Prop where
  leaves : ∃ A cap, w.heap[b3]? = some (.cells #[.slice A ls.length cap] 22) ∧ LiesI w A ls
  nodes : ∃ N capN, w.heap[b4]? = some (.cells #[.slice N ns.length capN] 23) ∧ LiesN w N ns
  named : ∃ F cf, w.heap[b5]? = some (.cells #[.slice F fr.length cf] 22) ∧ LiesI w F fr
  used : ∃ U cu, w.heap[b9]? = some (.cells #[.slice U (lbL ns fr ls.length).length cu] 22) ∧ LiesI w U (lbL ns fr ls.length)
  cone : ∃ C cc, w.heap[b7]? = some (.cells #[.slice C (coneN ns fr).length cc] 23) ∧ LiesN w C (coneN ns fr)
  places : ∃ D cd, w.heap[b8]? = some (.cells #[.slice D (coneP ns fr).length cd] 22) ∧ LiesI w D (coneP ns fr)
theorem Caught.below {w W : World} {b3 b4 b5 b9 b7 b8 : Nat} {ls : List Int} {ns : List Nd} {fr : List Int} (h : Caught w b3 b4 b5 b9 b7 b8 ls ns fr) (hb : Below w.heap.size w W) : Caught W b3 b4 b5 b9 b7 b8 ls ns fr := by
  obtain ⟨⟨A, c1, h1, l1⟩, ⟨N, c2, h2, l2⟩, ⟨F, c3, h3, l3⟩, ⟨U, c4, h4, l4⟩, ⟨C, c5, h5, l5⟩, ⟨D, c6, h6, l6⟩⟩ := h
  exact ⟨⟨A, c1, (hb.block _ (lt_of_get h1)).trans h1, l1.below hb⟩, ⟨N, c2, (hb.block _ (lt_of_get h2)).trans h2, l2.below hb⟩, ⟨F, c3, (hb.block _ (lt_of_get h3)).trans h3, l3.below hb⟩,
    ⟨U, c4, (hb.block _ (lt_of_get h4)).trans h4, l4.below hb⟩, ⟨C, c5, (hb.block _ (lt_of_get h5)).trans h5, l5.below hb⟩, ⟨D, c6, (hb.block _ (lt_of_get h6)).trans h6, l6.below hb⟩⟩
def TrialsR (w : World) (ls : List Int) (ns : List Nd) (fr : List Int) (e : Ending) (w' : World) : Prop :=
  ∃ b3 b4 b5 b9 b7 b8, e = .returned (.func (.func 94) #[] #[.pointer (some ⟨b3, 0, none⟩), .pointer (some ⟨b4, 0, none⟩), .pointer (some ⟨b5, 0, none⟩), .pointer (some ⟨b9, 0, none⟩), .pointer (some ⟨b7, 0, none⟩), .pointer (some ⟨b8, 0, none⟩)]) ∧ Caught w' b3 b4 b5 b9 b7 b8 ls ns fr ∧ Below w.heap.size w w'

set_option maxRecDepth 100000 in
set_option maxHeartbeats 1600000 in
theorem trials_c (A : Option Addr) (cap : Nat) (ls : List Int) (hls : ls.length ≤ 65536) (N : Option Addr) (capN : Nat) (ns : List Nd) (hns : ns.length ≤ 65536) (hall : ∀ k n, ns[k]? = some n → NodeOK ns ls.length k n) (F : Option Addr) (cf : Nat) (fr : List Int) (hfr : fr.length ≤ 65536) (hf : ∀ x ∈ fr, isIx x ns.length = true) (w : World) (hA : LiesI w A ls) (hN : LiesN w N ns) (hF : LiesI w F fr) :
    Calls Tryd.prog 74 #[.slice A ls.length cap, .slice N ns.length capN, .slice F fr.length cf] w (TrialsR w ls ns fr) := by
  have HA := Lib.hid hA
  have HN := Lib.hid hN
  have HF := Lib.hid hF
  have HCO := Lib.hid (fun (W : World) (hb : Below w.heap.size w W) => coneOf_c N capN ns hns ls.length hall F cf fr hfr hf W (hN.below hb) (hF.below hb))
  have HLB := Lib.hid (fun (W : World) (hb : Below w.heap.size w W) => leavesBelow_c A cap ls.length hls N capN ns hns hall F cf fr hfr hf W (hN.below hb) (hF.below hb))
  clear hA hN hF hall hf
  go_enter Tryd.func74, Tryd.ntmps74
  go_wp2_with fail
  have r3 : (((w.alloc (.cells #[.slice A ls.length cap] 22)).alloc (.cells #[.slice N ns.length capN] 23)).alloc (.cells #[.slice F fr.length cf] 22)).heap[w.heap.size]? = some (.cells #[.slice A ls.length cap] 22) := heap_alloc' (by simp; omega) (heap_alloc' (by simp) (heap_alloc_new _ _))
  have r4 : (((w.alloc (.cells #[.slice A ls.length cap] 22)).alloc (.cells #[.slice N ns.length capN] 23)).alloc (.cells #[.slice F fr.length cf] 22)).heap[w.heap.size + 1]? = some (.cells #[.slice N ns.length capN] 23) := heap_alloc' (by simp) (heap_alloc_at (by simp))
  have r5 : (((w.alloc (.cells #[.slice A ls.length cap] 22)).alloc (.cells #[.slice N ns.length capN] 23)).alloc (.cells #[.slice F fr.length cf] 22)).heap[w.heap.size + 2]? = some (.cells #[.slice F fr.length cf] 22) := heap_alloc_at (by simp)
  have hb0 : Below w.heap.size w (((w.alloc (.cells #[.slice A ls.length cap] 22)).alloc (.cells #[.slice N ns.length capN] 23)).alloc (.cells #[.slice F fr.length cf] 22)) := (((Below.refl _ _).alloc (Nat.le_refl _) _).alloc (by simp) _).alloc (by simp; omega) _
  generalize (((w.alloc (.cells #[.slice A ls.length cap] 22)).alloc (.cells #[.slice N ns.length capN] 23)).alloc (.cells #[.slice F fr.length cf] 22)) = W0 at *
  refine (HCO.out _ hb0).mono ?_
  rintro e W1 ⟨C, cc, D, cd, rfl, _, hC, hD, hb1⟩
  have s3 := (hb1.block _ (lt_of_get r3)).trans r3
  have s4 := (hb1.block _ (lt_of_get r4)).trans r4
  have s5 := (hb1.block _ (lt_of_get r5)).trans r5
  have hb01 := hb0.trans (hb1.mono hb0.size)
  have HC := Lib.hid hC
  have HD := Lib.hid hD
  clear r3 r4 r5 hb0 hb1 hC hD
  have t3 := cell_block (i := 0) s3
  have t4 := cell_block (i := 0) s4
  have t5 := cell_block (i := 0) s5
  simp at t3 t4 t5
  have k3 := lt_of_get s3
  have k4 := lt_of_get s4
  have k5 := lt_of_get s5
  go_wp2_with fail
  have u3 := heap_alloc' (o := .cells #[.slice D (coneP ns fr).length cd] 22) (by simp; omega) (heap_alloc' (o := .cells #[.slice C (coneN ns fr).length cc] 23) k3 s3)
  have u4 := heap_alloc' (o := .cells #[.slice D (coneP ns fr).length cd] 22) (by simp; omega) (heap_alloc' (o := .cells #[.slice C (coneN ns fr).length cc] 23) k4 s4)
  have u5 := heap_alloc' (o := .cells #[.slice D (coneP ns fr).length cd] 22) (by simp; omega) (heap_alloc' (o := .cells #[.slice C (coneN ns fr).length cc] 23) k5 s5)
  have u7 : ((W1.alloc (.cells #[.slice C (coneN ns fr).length cc] 23)).alloc (.cells #[.slice D (coneP ns fr).length cd] 22)).heap[W1.heap.size]? = some (.cells #[.slice C (coneN ns fr).length cc] 23) := heap_alloc' (by simp) (heap_alloc_new _ _)
  have u8 : ((W1.alloc (.cells #[.slice C (coneN ns fr).length cc] 23)).alloc (.cells #[.slice D (coneP ns fr).length cd] 22)).heap[W1.heap.size + 1]? = some (.cells #[.slice D (coneP ns fr).length cd] 22) := heap_alloc_at (by simp)
  have hb2 : Below W1.heap.size W1 ((W1.alloc (.cells #[.slice C (coneN ns fr).length cc] 23)).alloc (.cells #[.slice D (coneP ns fr).length cd] 22)) := ((Below.refl _ _).alloc (Nat.le_refl _) _).alloc (by simp) _
  generalize ((W1.alloc (.cells #[.slice C (coneN ns fr).length cc] 23)).alloc (.cells #[.slice D (coneP ns fr).length cd] 22)) = W2 at *
  have HB2 := Lib.hid (hb01.trans (hb2.mono hb01.size))
  have HC2 := Lib.hid (HC.out.below hb2)
  have HD2 := Lib.hid (HD.out.below hb2)
  clear s3 s4 s5 t3 t4 t5 k3 k4 k5 hb01 hb2 HC HD
  generalize W1.heap.size = q at *
  refine (HLB.out _ HB2.out).mono ?_
  rintro e W3 ⟨U, cu, rfl, hU, hb3⟩
  have HFIN := Lib.hid (show Caught (W3.alloc (.cells #[.slice U (lbL ns fr ls.length).length cu] 22)) w.heap.size (w.heap.size + 1) (w.heap.size + 2) W3.heap.size q (q + 1) ls ns fr ∧ Below w.heap.size w (W3.alloc (.cells #[.slice U (lbL ns fr ls.length).length cu] 22)) from by
    have hb4 : Below W3.heap.size W3 (W3.alloc (.cells #[.slice U (lbL ns fr ls.length).length cu] 22)) := (Below.refl _ _).alloc (Nat.le_refl _) _
    have hb5 := HB2.out.trans (hb3.mono HB2.out.size)
    have hb6 := hb5.trans (hb4.mono hb5.size)
    have hbq := hb3.trans (hb4.mono hb3.size)
    exact ⟨⟨⟨A, cap, (hbq.block _ (lt_of_get u3)).trans u3, HA.out.below hb6⟩, ⟨N, capN, (hbq.block _ (lt_of_get u4)).trans u4, HN.out.below hb6⟩, ⟨F, cf, (hbq.block _ (lt_of_get u5)).trans u5, HF.out.below hb6⟩,
      ⟨U, cu, heap_alloc_new _ _, hU.below hb4⟩, ⟨C, cc, (hbq.block _ (lt_of_get u7)).trans u7, HC2.out.below hbq⟩, ⟨D, cd, (hbq.block _ (lt_of_get u8)).trans u8, HD2.out.below hbq⟩⟩, hb6⟩)
  clear u3 u4 u5 u7 u8 hU hb3
  go_wp2
  go_ret
  exact ⟨_, _, _, _, _, _, rfl, HFIN.out.1, HFIN.out.2⟩

end Go.Proofs.YtkdonapgonegkaaDoor
