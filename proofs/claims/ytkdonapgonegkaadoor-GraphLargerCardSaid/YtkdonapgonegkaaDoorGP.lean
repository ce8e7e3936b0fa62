/-
  Chapter 2 (graph): the document's examples hold.
-/
import Derived.Test.YtkdonapgonegkaaDoorGO
import Derived.Test.YtkdonapgonegkaaDoorGM
set_option linter.unusedSimpArgs false
set_option linter.unusedVariables false
namespace Go.Proofs.YtkdonapgonegkaaDoor
open Go.RowKit Go.BigFrame

theorem ex_chk : (chk exL exN).2 = 0 := by decide
theorem ex_err : thenE (chk exL exN).2 (valE exL [14, 1]) = 0 := by decide
theorem ex_vals : valsL exN [14, 1] = [14, 3, 1, 1, 1, 1] := by decide
theorem ex_deps : depL exN = [0, 0, 1, 0, 2, 3] := by decide
theorem ex_bits : bitsL exL exN [((0 : Nat) : Int), ((2 : Nat) : Int)] = 4 := by decide
theorem ex_cone : (chk exL (coneN exN [((0 : Nat) : Int), ((2 : Nat) : Int)])).2 = 0 := by decide
theorem ex_pl : ∀ x ∈ coneP exN [((0 : Nat) : Int), ((2 : Nat) : Int)], isIx x (coneN exN [((0 : Nat) : Int), ((2 : Nat) : Int)]).length = true := by decide
theorem ex_cl : (coneN exN [((0 : Nat) : Int), ((2 : Nat) : Int)]).length ≤ 65536 := by decide
theorem ex_ok : TriOK exL exN [((0 : Nat) : Int), ((2 : Nat) : Int)] where
  l1 := by decide
  lw := by decide
  n1 := by decide
  all := chk_nodes ex_chk
  f1 := by decide
  fx := by decide
  bit := by rw [ex_bits]; decide
  call := chk_nodes ex_cone
  c1 := ex_cl
  px := ex_pl
theorem ex_dif : dif exL exN [((0 : Nat) : Int), ((2 : Nat) : Int)] 0 := by unfold dif; decide
theorem ex_tri : triV exL exN [((0 : Nat) : Int), ((2 : Nat) : Int)] 0 = [0, 0] := by decide
theorem ex_small : ∀ n ∈ exN, SmallN n := by
  intro n hn
  simp only [exN, List.mem_cons, List.not_mem_nil, or_false] at hn
  rcases hn with rfl | rfl | rfl | rfl | rfl | rfl
  all_goals
    refine ⟨⟨_, _, _, ?_, ?_, ?_, rfl, rfl, rfl⟩, by decide, ?_⟩
  all_goals first | decide | (intro a ha; simp only [List.mem_cons, List.not_mem_nil, or_false] at ha; rcases ha with rfl | rfl | rfl <;> exact ⟨_, by decide, rfl⟩) | (intro a ha; simp only [List.mem_cons, List.not_mem_nil, or_false] at ha; rcases ha with rfl | rfl <;> exact ⟨_, by decide, rfl⟩) | (intro a ha; cases ha)
theorem ex_fmt : fmtK exN exN.length = [108, 101, 97, 102, 32, 52, 32, 48, 59, 99, 111, 110, 115, 116, 32, 52, 32, 51, 59, 97, 100, 100, 32, 52, 32, 48, 32, 49, 59, 108, 101, 97, 102, 32, 49, 32, 49, 59, 109, 117, 120, 32, 52, 32, 51, 32, 50, 32, 48, 59, 108, 116, 32, 49, 32, 52, 32, 49] := by
  simp [fmtK, exN, nodeS, opL, opN, spD, dd_one]

set_option maxRecDepth 100000 in
set_option maxHeartbeats 1600000 in
theorem awake_c (w : World) (ht : TabOps w) : Calls Tryd.prog 8 #[] w fun e w' => e = .returned (.bool true) ∧ ∃ x : Aft w, w' = x.val := by
  have HT := Lib.hid ht
  have HB0 := Lib.hid (Below.refl w.heap.size w)
  have hla : ∀ n ∈ exN, n.args.length ≤ 65536 := by decide
  have HLA := Lib.hid hla
  clear ht hla
  go_enter Tryd.func8, Tryd.ntmps8
  go_wp2_with fail
  refine (Leaves_c _).mono ?_
  rintro e V1 ⟨A1, c1, rfl, l1, b1⟩
  have hv1 := HB0.out.trans (b1.mono HB0.out.size)
  go_wp2_with fail
  refine (Nodes_c _).mono ?_
  rintro e U1 ⟨N1, d1, rfl, cp1, n1, e1⟩
  have HU1 := Lib.hid (hv1.trans (e1.mono hv1.size))
  have HE1 := Lib.hid (b1.trans (e1.mono b1.size))
  have HL1 := Lib.hid (l1.below e1)
  have HN1 := Lib.hid n1
  have HC1 := Lib.hid cp1
  clear l1 b1 hv1 n1 e1 cp1
  go_wp2_with fail
  have rv : (U1.alloc (.cells #[.int .i64 14, .int .i64 1] 3)).heap[U1.heap.size]? = some (.cells #[.int .i64 14, .int .i64 1] 3) := heap_alloc_new _ _
  have hbv : Below U1.heap.size U1 (U1.alloc (.cells #[.int .i64 14, .int .i64 1] 3)) := (Below.refl _ _).alloc (Nat.le_refl _) _
  have HV := Lib.hid (ValuesOf_c A1 c1 exL (by decide) N1 d1 exN (by decide) HC1.out HLA.out (some ⟨U1.heap.size, 0, none⟩) 2 [14, 1] (by decide) _ (HL1.out.below hbv) (HN1.out.below hbv) (LiesI.block rv) (HT.out.below (HU1.out.trans (hbv.mono HU1.out.size))))
  rw [ex_err, ex_vals] at HV
  have HW := Lib.hid (HU1.out.trans (hbv.mono HU1.out.size))
  clear rv hbv
  refine HV.out.mono ?_
  rintro e W1 ⟨h1 | ⟨_, X1, x1, rfl, lx1⟩, bx1⟩
  · exact absurd rfl h1.1
  have HB1 := Lib.hid (HW.out.trans (bx1.mono HW.out.size))
  have HX1 := Lib.hid lx1
  clear lx1 bx1 HW HV
  go_wp2_with fail
  refine (Leaves_c _).mono ?_
  rintro e V2 ⟨A2, c2, rfl, l2, b2⟩
  have hv2 := HB1.out.trans (b2.mono HB1.out.size)
  go_wp2_with fail
  refine (Nodes_c _).mono ?_
  rintro e U2 ⟨N2, d2, rfl, cp2, n2, e2⟩
  have HU2 := Lib.hid (hv2.trans (e2.mono hv2.size))
  have HE2 := Lib.hid (b2.trans (e2.mono b2.size))
  have HL2 := Lib.hid (l2.below e2)
  have HN2 := Lib.hid n2
  have HC2 := Lib.hid cp2
  clear l2 b2 hv2 n2 e2 cp2
  go_wp2_with fail
  have HD := Lib.hid (DepthsOf_c A2 c2 exL (by decide) N2 d2 exN (by decide) HC2.out HLA.out _ HL2.out HN2.out (HT.out.below HU2.out))
  rw [ex_chk, ex_deps] at HD
  refine HD.out.mono ?_
  rintro e W2 ⟨h2 | ⟨_, X2, x2, rfl, lx2⟩, bx2⟩
  · exact absurd rfl h2.1
  have HB2 := Lib.hid (HU2.out.trans (bx2.mono HU2.out.size))
  have HK2 := Lib.hid (HE2.out.trans (bx2.mono HE2.out.size))
  have HX2 := Lib.hid lx2
  clear lx2 bx2 HD
  go_wp2_with fail
  refine (Leaves_c _).mono ?_
  rintro e V3 ⟨A3, c3, rfl, l3, b3⟩
  have hv3 := HB2.out.trans (b3.mono HB2.out.size)
  go_wp2_with fail
  refine (Nodes_c _).mono ?_
  rintro e U3 ⟨N3, d3, rfl, cp3, n3, e3⟩
  have HU3 := Lib.hid (hv3.trans (e3.mono hv3.size))
  have HE3 := Lib.hid (b3.trans (e3.mono b3.size))
  have HL3 := Lib.hid (l3.below e3)
  have HN3 := Lib.hid n3
  have HC3 := Lib.hid cp3
  clear l3 b3 hv3 n3 e3 cp3
  go_wp2_with fail
  have HF := Lib.hid (DifferenceOf_ok A3 c3 exL (by decide) N3 d3 exN (by decide) HC3.out HLA.out 0 2 _ _ rfl rfl rfl (by rw [ex_bits]; decide) ex_chk ex_ok _ HL3.out HN3.out (HT.out.below HU3.out))
  refine HF.out.mono ?_
  rintro e W3 ⟨⟨k, X3, x3, hk, hd, hmin, rfl, lx3⟩ | ⟨hno, _⟩, bx3⟩
  case inr => exact absurd ex_dif (hno 0 (by rw [ex_bits]; decide))
  obtain rfl : k = 0 := by
    by_cases h : k = 0
    · exact h
    · exact absurd ex_dif (hmin 0 (by omega))
  rw [ex_tri] at lx3
  have HB3 := Lib.hid (HU3.out.trans (bx3.mono HU3.out.size))
  have HK3 := Lib.hid (HE3.out.trans (bx3.mono HE3.out.size))
  have HX3 := Lib.hid lx3
  clear lx3 bx3 HF hk hd hmin
  go_wp2_with fail
  refine (Nodes_c _).mono ?_
  rintro e U4 ⟨N4, d4, rfl, cp4, n4, e4⟩
  have HU4 := Lib.hid (HB3.out.trans (e4.mono HB3.out.size))
  have HE4 := Lib.hid e4
  have HN4 := Lib.hid n4
  clear cp4 n4 e4
  go_wp2_with fail
  refine (FormatNodes_c N4 d4 exN (by decide) ex_small _ HN4.out (HT.out.below HU4.out)).mono ?_
  rw [ex_fmt]
  rintro e w' ⟨rfl, y, rfl⟩
  have HB4 := Lib.hid (HU4.out.trans (y.pf.mono HU4.out.size))
  have HK4 := Lib.hid (HE4.out.trans (y.pf.mono HE4.out.size))
  generalize y.val = W4 at *
  go_wp2_with fail
  have rI1 : (W4.alloc (.cells #[.int .i64 14, .int .i64 3, .int .i64 1, .int .i64 1, .int .i64 1, .int .i64 1] 3)).heap[W4.heap.size]? = some (.cells #[.int .i64 14, .int .i64 3, .int .i64 1, .int .i64 1, .int .i64 1, .int .i64 1] 3) := heap_alloc_new _ _
  have bI1 : Below W4.heap.size W4 (W4.alloc (.cells #[.int .i64 14, .int .i64 3, .int .i64 1, .int .i64 1, .int .i64 1, .int .i64 1] 3)) := (Below.refl _ _).alloc (Nat.le_refl _) _
  have HI1 := Lib.hid (Ints_c X1 x1 [14, 3, 1, 1, 1, 1] (by decide) (some ⟨W4.heap.size, 0, none⟩) 6 [14, 3, 1, 1, 1, 1] (by decide) _ ((((HX1.out.below HK2.out).below HK3.out).below HK4.out).below bI1) (LiesI.block rI1))
  rw [show eqL [14, 3, 1, 1, 1, 1] [14, 3, 1, 1, 1, 1] = true by decide] at HI1
  have HJ1 := Lib.hid bI1
  clear rI1 bI1
  refine HI1.out.mono ?_
  rintro e w' ⟨rfl, z1, rfl⟩
  have HZ1 := Lib.hid (HJ1.out.trans (z1.pf.mono HJ1.out.size))
  clear HI1 HJ1
  generalize z1.val = Y1 at *
  go_wp2_with fail
  have rI2 : (Y1.alloc (.cells #[.int .i64 0, .int .i64 0, .int .i64 1, .int .i64 0, .int .i64 2, .int .i64 3] 3)).heap[Y1.heap.size]? = some (.cells #[.int .i64 0, .int .i64 0, .int .i64 1, .int .i64 0, .int .i64 2, .int .i64 3] 3) := heap_alloc_new _ _
  have bI2 : Below Y1.heap.size Y1 (Y1.alloc (.cells #[.int .i64 0, .int .i64 0, .int .i64 1, .int .i64 0, .int .i64 2, .int .i64 3] 3)) := (Below.refl _ _).alloc (Nat.le_refl _) _
  have HI2 := Lib.hid (Ints_c X2 x2 [0, 0, 1, 0, 2, 3] (by decide) (some ⟨Y1.heap.size, 0, none⟩) 6 [0, 0, 1, 0, 2, 3] (by decide) _ ((((HX2.out.below HK3.out).below HK4.out).below HZ1.out).below bI2) (LiesI.block rI2))
  rw [show eqL [0, 0, 1, 0, 2, 3] [0, 0, 1, 0, 2, 3] = true by decide] at HI2
  have HJ2 := Lib.hid bI2
  clear rI2 bI2
  refine HI2.out.mono ?_
  rintro e w' ⟨rfl, z2, rfl⟩
  have HZ2 := Lib.hid (HJ2.out.trans (z2.pf.mono HJ2.out.size))
  clear HI2 HJ2
  generalize z2.val = Y2 at *
  go_wp2_with fail
  have rI3 : (Y2.alloc (.cells #[.int .i64 0, .int .i64 0] 3)).heap[Y2.heap.size]? = some (.cells #[.int .i64 0, .int .i64 0] 3) := heap_alloc_new _ _
  have bI3 : Below Y2.heap.size Y2 (Y2.alloc (.cells #[.int .i64 0, .int .i64 0] 3)) := (Below.refl _ _).alloc (Nat.le_refl _) _
  have HI3 := Lib.hid (Ints_c X3 x3 [0, 0] (by decide) (some ⟨Y2.heap.size, 0, none⟩) 2 [0, 0] (by decide) _ ((((HX3.out.below HK4.out).below HZ1.out).below HZ2.out).below bI3) (LiesI.block rI3))
  rw [show eqL [0, 0] [0, 0] = true by decide] at HI3
  have HJ3 := Lib.hid bI3
  clear rI3 bI3
  refine HI3.out.mono ?_
  rintro e w' ⟨rfl, z3, rfl⟩
  have HZ3 := Lib.hid (HJ3.out.trans (z3.pf.mono HJ3.out.size))
  clear HI3 HJ3
  generalize z3.val = Y3 at *
  have HFIN := Lib.hid (HB4.out.trans ((HZ1.out.trans ((HZ2.out.trans (HZ3.out.mono HZ2.out.size)).mono HZ1.out.size)).mono HB4.out.size))
  go_wp2
  go_ret
  exact ⟨rfl, Below.aft HFIN.out⟩

end Go.Proofs.YtkdonapgonegkaaDoor
