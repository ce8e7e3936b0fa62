/-
  Contracts of chapter 2 (graph): what the trials of some nodes are made of.
-/
import Derived.Test.YtkdonapgonegkaaDoorQE
import Derived.RangeFuncNested
import Derived.RangeFuncBound
import Derived.RangeFuncCalls
import Derived.RangeFuncLeaves
import Derived.Shelf.Abstract
import Derived.Shelf.RegionOpen
import Derived.OwnWalkIn
import Derived.TacticsInMore
import Derived.LoopNIn
import Derived.LoopIn
set_option linter.unusedSimpArgs false
set_option linter.unusedVariables false
namespace Go.Proofs.YtkdonapgonegkaaDoor
open Go.RowKit Go.BigFrame

/-- What the closure of the trials has captured. -/
structure Caught (w : World) (b3 b4 b5 b9 b7 b8 : Nat) (ls : List Int) (ns : List Nd) (fr : List Int) : Prop where
  leaves : ∃ A cap, w.heap[b3]? = some (.cells #[.slice A ls.length cap] 22) ∧ LiesI w A ls
  nodes : ∃ N capN, w.heap[b4]? = some (.cells #[.slice N ns.length capN] 23) ∧ LiesN w N ns
  named : ∃ F cf, w.heap[b5]? = some (.cells #[.slice F fr.length cf] 22) ∧ LiesI w F fr
  used : ∃ U cu, w.heap[b9]? = some (.cells #[.slice U (lbL ns fr ls.length).length cu] 22) ∧ LiesI w U (lbL ns fr ls.length)
  cone : ∃ C cc, w.heap[b7]? = some (.cells #[.slice C (coneN ns fr).length cc] 23) ∧ LiesN w C (coneN ns fr)
  places : ∃ D cd, w.heap[b8]? = some (.cells #[.slice D (coneP ns fr).length cd] 22) ∧ LiesI w D (coneP ns fr)
theorem Caught.below {w W : World} {b3 b4 b5 b9 b7 b8 : Nat} {ls : List Int} {ns : List Nd} {fr : List Int} (h : Caught w b3 b4 b5 b9 b7 b8 ls ns fr) (hb : Below w.heap.size w W) : Caught W b3 b4 b5 b9 b7 b8 ls ns fr := by
  obtain ⟨⟨A, c1, h1, l1⟩, ⟨N, c2, h2, l2⟩, ⟨F, c3, h3, l3⟩, ⟨U, c4, h4, l4⟩, ⟨C, c5, h5, l5⟩, ⟨D, c6, h6, l6⟩⟩ := h
  exact ⟨⟨A, c1, (hb.block _ (lt_of_get h1)).trans h1, l1.below hb⟩, ⟨N, c2, (hb.block _ (lt_of_get h2)).trans h2, l2.below hb⟩, ⟨F, c3, (hb.block _ (lt_of_get h3)).trans h3, l3.below hb⟩,
    ⟨U, c4, (hb.block _ (lt_of_get h4)).trans h4, l4.below hb⟩, ⟨C, c5, (hb.block _ (lt_of_get h5)).trans h5, l5.below hb⟩, ⟨D, c6, (hb.block _ (lt_of_get h6)).trans h6, l6.below hb⟩⟩
def TrialsR (w : World) (ls : List Int) (ns : List Nd) (fr : List Int) (e : Ending) (w' : World) : Prop :=
  ∃ b3 b4 b5 b9 b7 b8, e = .returned (.func (.func 94) #[] #[.pointer (some ⟨b3, 0, none⟩), .pointer (some ⟨b4, 0, none⟩), .pointer (some ⟨b5, 0, none⟩), .pointer (some ⟨b9, 0, none⟩), .pointer (some ⟨b7, 0, none⟩), .pointer (some ⟨b8, 0, none⟩)]) ∧ Caught w' b3 b4 b5 b9 b7 b8 ls ns fr ∧ Below w.heap.size w w'

set_option maxRecDepth 100000 in
set_option maxHeartbeats 1600000 in
theorem trials_c (A : Option Addr) (cap : Nat) (ls : List Int) (hls : ls.length ≤ 65536) (N : Option Addr) (capN : Nat) (ns : List Nd) (hns : ns.length ≤ 65536) (hall : ∀ k n, ns[k]? = some n → NodeOK ns ls.length k n) (F : Option Addr) (cf : Nat) (fr : List Int) (hfr : fr.length ≤ 65536) (hf : ∀ x ∈ fr, isIx x ns.length = true) (w : World) (hA : LiesI w A ls) (hN : LiesN w N ns) (hF : LiesI w F fr) :
    Calls Tryd.prog 74 #[.slice A ls.length cap, .slice N ns.length capN, .slice F fr.length cf] w (TrialsR w ls ns fr) := by
  have HA := Lib.hid hA
  have HN := Lib.hid hN
  have HF := Lib.hid hF
  have HCO := Lib.hid (fun (W : World) (hb : Below w.heap.size w W) => coneOf_c N capN ns hns ls.length hall F cf fr hfr hf W (hN.below hb) (hF.below hb))
  have HLB := Lib.hid (fun (W : World) (hb : Below w.heap.size w W) => leavesBelow_c A cap ls.length hls N capN ns hns hall F cf fr hfr hf W (hN.below hb) (hF.below hb))
  clear hA hN hF hall hf
  go_enter Tryd.func74, Tryd.ntmps74
  go_wp2_with fail
  have r3 : (((w.alloc (.cells #[.slice A ls.length cap] 22)).alloc (.cells #[.slice N ns.length capN] 23)).alloc (.cells #[.slice F fr.length cf] 22)).heap[w.heap.size]? = some (.cells #[.slice A ls.length cap] 22) := heap_alloc' (by simp; omega) (heap_alloc' (by simp) (heap_alloc_new _ _))
  have r4 : (((w.alloc (.cells #[.slice A ls.length cap] 22)).alloc (.cells #[.slice N ns.length capN] 23)).alloc (.cells #[.slice F fr.length cf] 22)).heap[w.heap.size + 1]? = some (.cells #[.slice N ns.length capN] 23) := heap_alloc' (by simp) (heap_alloc_at (by simp))
  have r5 : (((w.alloc (.cells #[.slice A ls.length cap] 22)).alloc (.cells #[.slice N ns.length capN] 23)).alloc (.cells #[.slice F fr.length cf] 22)).heap[w.heap.size + 2]? = some (.cells #[.slice F fr.length cf] 22) := heap_alloc_at (by simp)
  have hb0 : Below w.heap.size w (((w.alloc (.cells #[.slice A ls.length cap] 22)).alloc (.cells #[.slice N ns.length capN] 23)).alloc (.cells #[.slice F fr.length cf] 22)) := (((Below.refl _ _).alloc (Nat.le_refl _) _).alloc (by simp) _).alloc (by simp; omega) _
  generalize (((w.alloc (.cells #[.slice A ls.length cap] 22)).alloc (.cells #[.slice N ns.length capN] 23)).alloc (.cells #[.slice F fr.length cf] 22)) = W0 at *
  refine (HCO.out _ hb0).mono ?_
  rintro e W1 ⟨C, cc, D, cd, rfl, _, hC, hD, hb1⟩
  have s3 := (hb1.block _ (lt_of_get r3)).trans r3
  have s4 := (hb1.block _ (lt_of_get r4)).trans r4
  have s5 := (hb1.block _ (lt_of_get r5)).trans r5
  have hb01 := hb0.trans (hb1.mono hb0.size)
  have HC := Lib.hid hC
  have HD := Lib.hid hD
  clear r3 r4 r5 hb0 hb1 hC hD
  have t3 := cell_block (i := 0) s3
  have t4 := cell_block (i := 0) s4
  have t5 := cell_block (i := 0) s5
  simp at t3 t4 t5
  have k3 := lt_of_get s3
  have k4 := lt_of_get s4
  have k5 := lt_of_get s5
  go_wp2_with fail
  have u3 := heap_alloc' (o := .cells #[.slice D (coneP ns fr).length cd] 22) (by simp; omega) (heap_alloc' (o := .cells #[.slice C (coneN ns fr).length cc] 23) k3 s3)
  have u4 := heap_alloc' (o := .cells #[.slice D (coneP ns fr).length cd] 22) (by simp; omega) (heap_alloc' (o := .cells #[.slice C (coneN ns fr).length cc] 23) k4 s4)
  have u5 := heap_alloc' (o := .cells #[.slice D (coneP ns fr).length cd] 22) (by simp; omega) (heap_alloc' (o := .cells #[.slice C (coneN ns fr).length cc] 23) k5 s5)
  have u7 : ((W1.alloc (.cells #[.slice C (coneN ns fr).length cc] 23)).alloc (.cells #[.slice D (coneP ns fr).length cd] 22)).heap[W1.heap.size]? = some (.cells #[.slice C (coneN ns fr).length cc] 23) := heap_alloc' (by simp) (heap_alloc_new _ _)
  have u8 : ((W1.alloc (.cells #[.slice C (coneN ns fr).length cc] 23)).alloc (.cells #[.slice D (coneP ns fr).length cd] 22)).heap[W1.heap.size + 1]? = some (.cells #[.slice D (coneP ns fr).length cd] 22) := heap_alloc_at (by simp)
  have hb2 : Below W1.heap.size W1 ((W1.alloc (.cells #[.slice C (coneN ns fr).length cc] 23)).alloc (.cells #[.slice D (coneP ns fr).length cd] 22)) := ((Below.refl _ _).alloc (Nat.le_refl _) _).alloc (by simp) _
  generalize ((W1.alloc (.cells #[.slice C (coneN ns fr).length cc] 23)).alloc (.cells #[.slice D (coneP ns fr).length cd] 22)) = W2 at *
  have HB2 := Lib.hid (hb01.trans (hb2.mono hb01.size))
  have HC2 := Lib.hid (HC.out.below hb2)
  have HD2 := Lib.hid (HD.out.below hb2)
  clear s3 s4 s5 t3 t4 t5 k3 k4 k5 hb01 hb2 HC HD
  generalize W1.heap.size = q at *
  refine (HLB.out _ HB2.out).mono ?_
  rintro e W3 ⟨U, cu, rfl, hU, hb3⟩
  have HFIN := Lib.hid (show Caught (W3.alloc (.cells #[.slice U (lbL ns fr ls.length).length cu] 22)) w.heap.size (w.heap.size + 1) (w.heap.size + 2) W3.heap.size q (q + 1) ls ns fr ∧ Below w.heap.size w (W3.alloc (.cells #[.slice U (lbL ns fr ls.length).length cu] 22)) from by
    have hb4 : Below W3.heap.size W3 (W3.alloc (.cells #[.slice U (lbL ns fr ls.length).length cu] 22)) := (Below.refl _ _).alloc (Nat.le_refl _) _
    have hb5 := HB2.out.trans (hb3.mono HB2.out.size)
    have hb6 := hb5.trans (hb4.mono hb5.size)
    have hbq := hb3.trans (hb4.mono hb3.size)
    exact ⟨⟨⟨A, cap, (hbq.block _ (lt_of_get u3)).trans u3, HA.out.below hb6⟩, ⟨N, capN, (hbq.block _ (lt_of_get u4)).trans u4, HN.out.below hb6⟩, ⟨F, cf, (hbq.block _ (lt_of_get u5)).trans u5, HF.out.below hb6⟩,
      ⟨U, cu, heap_alloc_new _ _, hU.below hb4⟩, ⟨C, cc, (hbq.block _ (lt_of_get u7)).trans u7, HC2.out.below hbq⟩, ⟨D, cd, (hbq.block _ (lt_of_get u8)).trans u8, HD2.out.below hbq⟩⟩, hb6⟩)
  clear u3 u4 u5 u7 u8 hU hb3
  go_wp2
  go_ret
  exact ⟨_, _, _, _, _, _, rfl, HFIN.out.1, HFIN.out.2⟩

end Go.Proofs.YtkdonapgonegkaaDoor

set_option linter.unusedSimpArgs false
set_option linter.unusedVariables false
namespace Go.Proofs.YtkdonapgonegkaaDoor
open Go.RowKit Go.BigFrame
attribute [local go_sem] Oper.semAt_some

/-- The values of all leaves, and of the named nodes, in one trial. -/
def triV (ls : List Int) (ns : List Nd) (fr : List Int) (k : Nat) : List Int := triL ls (lbL ns fr ls.length) k
def triN (ls : List Int) (ns : List Nd) (fr : List Int) (k : Nat) : List Int := pickL (valsL (coneN ns fr) (triV ls ns fr k)) (coneP ns fr)
/-- What is asked of leaves, nodes and named nodes. -/
structure TriOK (ls : List Int) (ns : List Nd) (fr : List Int) : Prop where
  l1 : ls.length ≤ 65536
  lw : ∀ x ∈ ls, isW x = true
  n1 : ns.length ≤ 65536
  all : ∀ k n, ns[k]? = some n → NodeOK ns ls.length k n
  f1 : fr.length ≤ 65536
  fx : ∀ x ∈ fr, isIx x ns.length = true
  bit : bitsL ls ns fr ≤ 16
  call : ∀ k n, (coneN ns fr)[k]? = some n → NodeOK (coneN ns fr) ls.length k n
  c1 : (coneN ns fr).length ≤ 65536
  px : ∀ x ∈ coneP ns fr, isIx x (coneN ns fr).length = true
theorem coneP_len (ns : List Nd) (fr : List Int) : (coneP ns fr).length = fr.length := pickL_len _ _
theorem triV_len (ls : List Int) (ns : List Nd) (fr : List Int) (k : Nat) : (triV ls ns fr k).length = ls.length := triL_len _ _ _
theorem triN_len (ls : List Int) (ns : List Nd) (fr : List Int) (k : Nat) : (triN ls ns fr k).length = fr.length := (pickL_len _ _).trans (coneP_len ns fr)

set_option maxRecDepth 100000 in
set_option maxHeartbeats 1600000 in
theorem trials1_in (n b3 b4 b5 b9 b7 b8 : Nat) (ls : List Int) (ns : List Nd) (fr : List Int) (ok : TriOK ls ns fr) (w0 : World) (hc : Caught w0 b3 b4 b5 b9 b7 b8 ls ns fr) (l : Nat) (J Jx : Nat → World → Prop)
    (hJb : ∀ k W W', J k W → Below W.heap.size W W' → J k W') (hJ0 : ∀ k W, J k W → Below w0.heap.size w0 W)
    (hY : ∀ (k : Nat) W A1 c1 A2 c2, J k W → (k : Int) < pw (bitsL ls ns fr) → LiesI W A1 (triV ls ns fr k) → (∀ ad, A1 = some ad → w0.heap.size ≤ ad.block) → LiesI W A2 (triN ls ns fr k) → YieldAt Fence.wide (n - 1) Tryd.prog l #[.slice A1 ls.length c1, .slice A2 fr.length c2] W fun e W' => ∃ b : Bool, e = .returned (.bool b) ∧ (b = true → J (k + 1) W') ∧ (b = false → Jx k W'))
    (W : World) (h0 : J 0 W) :
    CallsIn Fence.wide n Tryd.prog 94 #[.func (.yield l) #[] #[], .pointer (some ⟨b3, 0, none⟩), .pointer (some ⟨b4, 0, none⟩), .pointer (some ⟨b5, 0, none⟩), .pointer (some ⟨b9, 0, none⟩), .pointer (some ⟨b7, 0, none⟩), .pointer (some ⟨b8, 0, none⟩)] W fun e W' => (∃ v, e = .returned v) ∧ ((∃ k : Nat, (k : Int) = pw (bitsL ls ns fr) ∧ J k W') ∨ ∃ k : Nat, (k : Int) < pw (bitsL ls ns fr) ∧ Jx k W') := by
  have HOK := Lib.hid ok
  have HCT := Lib.hid (fun k W (h : J k W) => hc.below (hJ0 k W h))
  have HJ0 := Lib.hid hJ0
  have hbd := sumK_bd (xs := lbL ns fr ls.length) ok.lw (lbL ns fr ls.length).length
  have hb0 : 0 ≤ bitsL ls ns fr := hbd.1
  have hb1 : bitsL ls ns fr ≤ 16 := ok.bit
  have hpb := pw_bd hb0 hb1
  clear hbd ok
  obtain ⟨⟨A, ca, r3, l3⟩, ⟨N, cn, r4, l4⟩, ⟨F, cf, r5, l5⟩, _, _, _⟩ := HCT.out 0 W h0
  have q3 := cell_block (i := 0) r3
  have q4 := cell_block (i := 0) r4
  have q5 := cell_block (i := 0) r5
  simp at q3 q4 q5
  have HBI := Lib.hid (bitsBelow_c A ca ls HOK.out.l1 HOK.out.lw N cn ns HOK.out.n1 HOK.out.all F cf fr HOK.out.f1 HOK.out.fx W l3 l4 l5)
  have HJ1 := Lib.hid (fun W' (hb : Below W.heap.size W W') => hJb 0 W W' h0 hb)
  clear r3 r4 r5 l3 l4 l5
  refine callsIn_of_wp Tryd.func94 rfl trivial ?_
  simp only [Tryd.ntmps94, List.size_toArray, List.length_cons, List.length_nil, Nat.reduceAdd, Nat.reduceSub, Array.replicate_succ, Array.replicate_zero, List.push_toArray, List.append_toArray, List.nil_append, List.cons_append]
  gi_wp2_with (refine ⟨trivial, (fun h => (by cases h)), ?_⟩; gi_at_call 73; refine (callsIn_wide.2 HBI.out).mono ?_; rintro e w' ⟨rfl, x, rfl⟩)
  have hT : wrap64 (2 ^ (bitsL ls ns fr).toNat) = pw (bitsL ls ns fr) := IntWalk.wrap64_in _ (by show -9223372036854775808 ≤ pw (bitsL ls ns fr) ∧ pw (bitsL ls ns fr) ≤ 9223372036854775807; omega)
  rw [hT]
  have HJS := Lib.hid (HJ1.out _ x.pf)
  clear q3 q4 q5 hT HJ1 HBI
  obtain ⟨T, hT⟩ := Int.eq_ofNat_of_zero_le (show 0 ≤ pw (bitsL ls ns fr) by omega)
  rw [hT] at hpb hY ⊢
  have HTT := Lib.hid hT
  have hT1 : T ≤ 65536 := by omega
  have HY := Lib.hid hY
  have HJB := Lib.hid hJb
  clear hY hJb hpb hb0 hb1 hT hJ0 h0
  generalize x.val = W0 at *
  gi_loopw [15] (fun v15 wr => ∃ k : Nat, k ≤ T ∧ v15 = .int .i64 k ∧ J k wr) (fun v15 _ => T - (intOf v15).toNat)
  case atStart => exact ⟨0, by omega, rfl, HJS.out⟩
  case round =>
    clear HJS
    obtain ⟨k, hk, rfl, hj⟩ := hrel
    by_cases hlt : k < T
    · have hkk : (k : Int) < T := by omega
      obtain ⟨⟨A, ca, r3, l3⟩, _, _, ⟨U, cu, r9, l9⟩, ⟨C, cc, r7, l7⟩, ⟨D, cd, r8, l8⟩⟩ := HCT.out k wr hj
      have HJ := Lib.hid hj
      have HTR := Lib.hid (trialOf_c A ca ls HOK.out.l1 HOK.out.lw U cu (lbL ns fr ls.length) (Nat.le_trans lbL_len HOK.out.l1) (fun x hx => isIx_iff.2 (lbL_mem hx)) k (by omega) (by omega) wr l3 l9)
      have HTR : Hid (Calls Tryd.prog 95 #[.slice A ls.length ca, .slice U (lbL ns fr ls.length).length cu, .int .i64 k] wr (CopiedF wr (triV ls ns fr k))) := HTR
      have q3 := cell_block (i := 0) r3
      have q9 := cell_block (i := 0) r9
      simp at q3 q9
      clear hj r3 l3 r9 l9
      gi_wp2_with (refine ⟨trivial, (fun h => (by cases h)), ?_⟩; gi_at_call 95; refine (callsIn_wide.2 HTR.out).mono ?_; rintro e W1 ⟨A1, c1, rfl, hl1, hf1, hb1⟩; rw [triV_len])
      have s7 := (hb1.block _ (lt_of_get r7)).trans r7
      have s8 := (hb1.block _ (lt_of_get r8)).trans r8
      have q7 := cell_block (i := 0) s7
      have q8 := cell_block (i := 0) s8
      simp at q7 q8
      rw [coneP_len] at q8
      have HJ1 := Lib.hid (HJB.out k wr W1 HJ.out hb1)
      have HFF := Lib.hid (fun ad h => Nat.le_trans (HJ0.out k wr HJ.out).size (hf1 ad h))
      clear hf1
      have HL1 := Lib.hid hl1
      have HVO : Hid (Calls Tryd.prog 56 #[.slice C (coneN ns fr).length cc, .slice A1 ls.length c1] W1.drew (CopiedI W1.drew (valsL (coneN ns fr) (triV ls ns fr k)))) := Lib.hid (by
        have hbd : Below W1.heap.size W1 W1.drew := (Below.refl _ _).drew
        have h := valuesOf_c C cc (coneN ns fr) HOK.out.c1 A1 c1 (triV ls ns fr k) (by rw [triV_len]; exact HOK.out.l1) (triL_bd HOK.out.lw) (by rw [triV_len]; exact HOK.out.call) W1.drew ((l7.below hb1).below hbd) (hl1.below hbd)
        rw [triV_len] at h; exact h)
      have HPI : Hid (∀ (W2 : World) V cv, Below W1.heap.size W1 W2 → LiesI W2 V (valsL (coneN ns fr) (triV ls ns fr k)) → Calls Tryd.prog 96 #[.slice V (coneN ns fr).length cv, .slice D fr.length cd] W2 fun e w' => ∃ A' cap', e = .returned (.slice A' fr.length cap') ∧ LiesI w' A' (triN ls ns fr k) ∧ Below W2.heap.size W2 w') := Lib.hid (fun W2 V cv hb hV => by
        have h := picked_c V cv (valsL (coneN ns fr) (triV ls ns fr k)) (by rw [valsL_len]; exact HOK.out.c1) D cd (coneP ns fr) (by rw [coneP_len]; exact HOK.out.f1) (by rw [valsL_len]; exact HOK.out.px) W2 hV ((l8.below hb1).below hb)
        rw [valsL_len, coneP_len] at h
        exact h.mono fun e w' ⟨A', cap', h1, h2, _, h4⟩ => ⟨A', cap', h1, h2, h4⟩)
      have hs8 : b8 < W1.heap.size := lt_of_get s8
      clear r7 l7 r8 l8 hl1 hb1 s7 s8 q3 q9
      have hmx : Tryd.prog.follows .mixedOrders = true := by kernel_rfl
      gi_region_with_o (first
        | (refine ⟨trivial, (fun h => (by cases h)), ?_⟩; gi_at_call 56; refine (callsIn_wide.2 HVO.out).mono ?_; rintro e W2 ⟨V, cv, rfl, hlV, hbV⟩; rw [valsL_len]; have hb2 : Below W1.heap.size W1 W2 := ((Below.refl W1.heap.size W1).drew).trans hbV; have q8' := (hb2.cell (p := ⟨b8, 0, none⟩) hs8).trans q8; clear q8)
        | (refine ⟨trivial, (fun h => (by cases h)), ?_⟩; gi_at_call 96; refine (callsIn_wide.2 (HPI.out _ _ _ hb2 hlV)).mono ?_; rintro e W3 ⟨A2, c2, rfl, hl2, hb3⟩; have hb23 := hb2.trans (hb3.mono hb2.size); obtain ⟨fn, tm, asn, bo, hy, hR⟩ := HY.out k W3 A1 c1 A2 c2 (HJB.out k W1 W3 HJ1.out hb23) hkk (HL1.out.below hb23) HFF.out hl2)
        | (refine ⟨(fun h => (by cases h)), ?_⟩; refine hR.mono ?_; rintro e W4 ⟨b, rfl, hbt, hbf⟩))
      all_goals
        have HT := Lib.hid hbt
        have HF := Lib.hid hbf
        clear hbt hbf hb23 hb2 hb3 hlV hl2 q7 q8' hy hR hbV
        cases b
        · gi_wp2
          refine bodyPost_ret (results_none rfl _ _ _) rfl ?_
          exact ⟨⟨_, rfl⟩, .inr ⟨k, by rw [HTT.out]; exact hkk, HF.out (by simp)⟩⟩
        · gi_wp2
          go_roundw
          case rel => exact ⟨k + 1, by omega, by go_num, HT.out (by simp)⟩
          case measure => simp [intOf]; omega
    · obtain rfl : k = T := by omega
      gi_wp2
      go_end0
      exact ⟨⟨_, rfl⟩, .inl ⟨k, HTT.out.symm, hj⟩⟩

end Go.Proofs.YtkdonapgonegkaaDoor

set_option linter.unusedSimpArgs false
set_option linter.unusedVariables false
namespace Go.Proofs.YtkdonapgonegkaaDoor
open Go.RowKit Go.BigFrame
attribute [local go_sem] Oper.semAt_some

def fromE (ls : List Int) (ns : List Nd) (fr : List Int) : Int := thenE (chk ls ns).2 (argsE fr ns.length 6)
theorem fromE_first (ls : List Int) (ns : List Nd) (fr : List Int) : firstE [(chk ls ns).2, argsE fr ns.length 6] = fromE ls ns fr := by
  rw [firstE_cons, firstE_one]; rfl
theorem fromE_ok {ls : List Int} {ns : List Nd} {fr : List Int} (h : fromE ls ns fr = 0) : (chk ls ns).2 = 0 ∧ ∀ x ∈ fr, isIx x ns.length = true := by
  unfold fromE thenE at h
  by_cases h0 : (chk ls ns).2 = 0
  · rw [if_pos h0] at h
    refine ⟨h0, fun x hx => ?_⟩
    unfold argsE at h
    by_cases ha : (fr.all fun i => isIx i ns.length) = true
    · exact List.all_eq_true.1 ha x hx
    · rw [if_neg ha] at h; exact absurd h (by decide)
  · rw [if_neg h0] at h; exact absurd h h0

set_option maxRecDepth 100000 in
set_option maxHeartbeats 1600000 in
theorem errorOfFrom_c (A : Option Addr) (cap : Nat) (ls : List Int) (hls : ls.length ≤ 65536) (N : Option Addr) (capN : Nat) (ns : List Nd) (hns : ns.length ≤ 65536) (hcap : ns.length ≤ capN) (hla : ∀ n ∈ ns, n.args.length ≤ 65536) (F : Option Addr) (cf : Nat) (fr : List Int) (hfr : fr.length ≤ 65536) (w : World) (hA : LiesI w A ls) (hN : LiesN w N ns) (hF : LiesI w F fr) (ht : TabOps w) :
    Calls Tryd.prog 57 #[.slice A ls.length cap, .slice N ns.length capN, .slice F fr.length cf] w fun e w' => e = .returned (.int .i64 (fromE ls ns fr)) ∧ ∃ x : Aft w, w' = x.val := by
  have HC := Lib.hid (errorOfGraph_c A cap ls hls N capN ns hns hcap hla w hA hN ht)
  have HE := Lib.hid (fun (x : Aft w) => errorOfIndexes_c ns.length 6 (by decide) F cf fr hfr x.val (hF.aft x))
  have HR := Lib.hid (fromE_first ls ns fr)
  clear hA hN hF ht hla hcap
  generalize (chk ls ns).2 = e1 at *
  generalize argsE fr ns.length 6 = e2 at *
  go_enter Tryd.func57, Tryd.ntmps57
  go_wp2_with fail
  refine HC.out.mono ?_
  rintro e w' ⟨rfl, y, rfl⟩
  go_wp2_with fail
  refine (HE.out y).mono ?_
  rintro e w' ⟨rfl, z, rfl⟩
  go_wp2_with fail
  refine (firstError2 z.val.heap.size e1 e2 26 (0, 0) _ (heap_alloc_new _ _)).mono ?_
  rintro e w' ⟨rfl, rfl⟩
  rw [HR.out]
  have hb := z.below y.pf y.pf.size
  go_wp2
  go_ret
  exact ⟨rfl, Below.aft (hb.alloc hb.size _)⟩

section
variable {P : Program}
/-- A range over a function, in no fence: what its one call owes. -/
theorem range_wide {n : Nat} {g : Operand} {ps : Array Tmp} {assign body : Code} {Q : Exit → Act → World → Prop} {a : Act} {w : World} {gf : Nat} {lb : Array Value}
    (hg : a.eval g = .func (.func gf) #[] lb) (eg : ∀ args w, (callFunc gf args).run P w = .ok (.enter gf args) w)
    (h : ∀ (fn : FuncId) (r : Loop) (W : World), r = { state := .ready, pending := none, fn, tmps := a.tmps, params := ps, assign, body, defers := w.heap.size } → W.heap[w.heap.size + 1]? = some (.loop r) → W.heap[w.heap.size]? = some (.deferred (some [])) → Below w.heap.size w W →
      CallsIn Fence.wide (n - 1) P gf (#[.func (.yield (w.heap.size + 1)) #[] #[]] ++ lb) W (rangePost Fence.wide n P (w.heap.size + 1) Q { a with defers := { target := .collected w.heap.size, args := #[] } :: a.defers })) :
    (Code.rangeFunc g ps assign body).wpIn Fence.wide n P Q a w := by
  refine wpIn_rangeFunc fun fn _ => ?_
  obtain ⟨r, hr⟩ : ∃ r : Loop, r = { state := .ready, pending := none, fn, tmps := a.tmps, params := ps, assign, body, defers := w.heap.size } := ⟨_, rfl⟩
  obtain ⟨W1, hW1⟩ : ∃ W1, (w.alloc (.deferred (some []))).alloc (.loop r) = W1 := ⟨_, rfl⟩
  have he := run_enterLoop_outer (P := P) (w := w) fn a.tmps ps assign body
  rw [← hr, hW1] at he
  have hc := h fn r W1 hr (by rw [← hW1]; exact heap_alloc_at (by simp)) (by rw [← hW1]; exact heap_alloc' (by simp) (heap_alloc_new _ _)) (by rw [← hW1]; exact ((Below.refl _ _).alloc (Nat.le_refl _) _).alloc (by simp) _)
  refine ⟨w.heap.size + 1, [{ target := .collected w.heap.size, args := #[] }], W1, { target := .fn (.func gf) lb, args := #[.func (.yield (w.heap.size + 1)) #[] #[]] }, W1, gf, #[.func (.yield (w.heap.size + 1)) #[] #[]] ++ lb, W1, ?_, ?_, ?_, ?_, ?_, ?_⟩
  · exact he
  · simp only [resolve, hg]
    simp [go_sem]
  · intro f' _; trivial
  · simp [invoke, go_sem, eg]
  · intro hd; cases hd
  · exact hc
/-- The loop's record in a round. -/
def busyL (r : Loop) : Loop := { r with state := .busy }
/-- One round of such a loop, out of its body's walk. -/
theorem yield_wide {m l : Nat} {r : Loop} {args : Array Value} {W : World} {R : Ending → World → Prop} (hl : W.heap[l]? = some (.loop r)) (hs : args.size = r.params.size) (hr : r.state = .ready)
    (h : r.assign.wpIn (Fence.wide.inRound l) m P (Exit.then (fun a₁ w₁ => W = w₁ ∧ ∀ (rb : Loop) (Wb : World), Hid (rb = busyL r) → Hid (Wb = W.putObj l (.loop rb)) → r.body.wpIn (Fence.wide.inRound l) m P (roundPost P l R) a₁ Wb) (fun _ _ _ => False))
      { tmps := (r.params.zip args).foldl (fun tmps (t, a) => tmps.setIfInBounds t a) r.tmps, defers := [] } W) : YieldAt Fence.wide m P l args W R := by
  refine ⟨r.fn, _, r.assign, r.body, run_yield hl hs, roundIn_of_wpIn trivial (wpIn_mono h ?_)⟩
  intro e a w' hq
  cases e with
  | normal =>
    obtain ⟨rfl, hb⟩ := hq
    exact ⟨_, run_beginRound hl hr, hb _ _ (Lib.hid rfl) (Lib.hid rfl)⟩
  | _ => exact hq
end
theorem heap_put_ne {W : World} {l m : Nat} {o ob : Obj} (h : W.heap[m]? = some ob) (hne : ¬ m = l) : (W.putObj l o).heap[m]? = some ob := (World.putObj_heap_other (by omega)).trans h
theorem cell_put_ne {W : World} {l : Nat} {o : Obj} {p : Addr} {v : Value} (h : W.cell? p = some v) (hl : ¬ p.block = l) : (W.putObj l o).cell? p = some v := by
  unfold World.cell? at h ⊢
  rw [World.putObj_heap_other (by omega)]; exact h
theorem LiesI.put {W : World} {l : Nat} {o : Obj} {r : Loop} {A : Option Addr} {xs : List Int} (h : LiesI W A xs) (hl : W.heap[l]? = some (.loop r)) : LiesI (W.putObj l o) A xs := fun hp => by
  obtain ⟨ad, rfl, hb, hc⟩ := h hp
  refine ⟨ad, rfl, by simpa [World.putObj] using hb, fun i x hi => cell_put_ne (hc i x hi) ?_⟩
  intro e
  have h0 := hc i x hi
  unfold World.cell? at h0
  rw [e, hl] at h0
  cases h0

end Go.Proofs.YtkdonapgonegkaaDoor

set_option linter.unusedSimpArgs false
set_option linter.unusedVariables false
namespace Go.Proofs.YtkdonapgonegkaaDoor
open Go.RowKit Go.BigFrame

set_option maxRecDepth 100000 in
set_option maxHeartbeats 1600000 in
theorem IsNode_c (N : Option Addr) (capN n : Nat) (i : Int) (hn : n ≤ 65536) (w : World) :
    Calls Tryd.prog 61 #[.slice N n capN, .int .i64 i] w fun e w' => e = .returned (.bool (isIx i n)) ∧ w = w' := by
  rw [isIx_win]
  go_enter Tryd.func61, Tryd.ntmps61
  go_wp2_with (go_at_call 31; refine (Within_c _ _ _ _).mono ?_; rintro e w' ⟨rfl, rfl⟩)
  go_ret
  exact ⟨rfl, rfl⟩

theorem argsE_bad {xs : List Int} {n er : Int} {k : Nat} {x : Int} (h : xs[k]? = some x) (hx : isIx x n = false) : argsE xs n er = er := by
  unfold argsE
  rw [if_neg]
  intro ha
  have := List.all_eq_true.1 ha x (List.mem_of_getElem? h)
  rw [hx] at this; cases this
theorem argsE_good {xs : List Int} {n er : Int} (h : ∀ x ∈ xs, isIx x n = true) : argsE xs n er = 0 := by
  unfold argsE; exact if_pos (List.all_eq_true.2 h)

set_option maxRecDepth 100000 in
set_option maxHeartbeats 1600000 in
theorem refFromErr_c (N : Option Addr) (capN n : Nat) (hn : n ≤ 65536) (F : Option Addr) (cf : Nat) (fr : List Int) (hfr : fr.length ≤ 65536) (w : World) (hF : LiesI w F fr) :
    Calls Tryd.prog 21 #[.slice N n capN, .slice F fr.length cf] w fun e w' => e = .returned (.int .i64 (argsE fr n 6)) ∧ w = w' := by
  have HF := Lib.hid hF
  clear hF
  go_enter Tryd.func21, Tryd.ntmps21
  go_wp2
  go_loop [5] (fun v5 => ∃ k : Nat, k ≤ fr.length ∧ v5 = .int .i64 k ∧ ∀ x ∈ fr.take k, isIx x n = true) (fun v5 => fr.length - (intOf v5).toNat)
  case atStart => exact ⟨0, by omega, rfl, by simp⟩
  case round =>
    obtain ⟨k, hk, rfl, hall⟩ := hrel
    have HAL := Lib.hid hall
    clear hall
    by_cases hlt : k < fr.length
    · have hkk : (k : Int) < fr.length := by omega
      have HX := Lib.hid (List.getElem?_eq_getElem hlt)
      have HT := Lib.hid (List.take_succ_eq_append_getElem hlt)
      generalize fr[k] = x at *
      obtain ⟨ad, rfl, hbl, c0⟩ := HF.out.cell HX.out
      have HN := Lib.hid (fun (W : World) => IsNode_c N capN n x hn W)
      cases hx : isIx x n with
      | false =>
        rw [hx] at HN
        have HR := Lib.hid (argsE_bad (er := 6) HX.out hx)
        go_wp2_with (go_at_call 61; refine (HN.out _).mono ?_; rintro e w' ⟨rfl, rfl⟩)
        go_ret
        exact ⟨retI HR.out.symm, rfl⟩
      | true =>
        rw [hx] at HN
        have HAL2 := Lib.hid (show ∀ y ∈ fr.take (k + 1), isIx y n = true by
          rw [HT.out]
          intro y hy
          rcases List.mem_append.1 hy with hy | hy
          · exact HAL.out y hy
          · rw [List.mem_singleton.1 hy]; exact hx)
        clear hx
        go_wp2_with (go_at_call 61; refine (HN.out _).mono ?_; rintro e w' ⟨rfl, rfl⟩)
        go_round
        case rel => exact ⟨k + 1, by omega, by go_num, HAL2.out⟩
        case measure => simp [intOf]; omega
    · obtain rfl : k = fr.length := by omega
      have HR := Lib.hid (show argsE fr n 6 = 0 from argsE_good (by have := HAL.out; rwa [List.take_length] at this))
      go_wp2
      go_ret
      exact ⟨retI HR.out.symm, rfl⟩

theorem markL_keep {k : Nat} : ∀ (is : List Int) (bs : List Bool), bs[k]? = some true → (markL bs is)[k]? = some true := by
  intro is
  induction is with
  | nil => intro bs h; exact h
  | cons i is ih =>
    intro bs h
    show (markL (bs.set i.toNat true) is)[k]? = some true
    refine ih _ ?_
    rw [List.getElem?_set]
    split
    · rename_i e
      subst e
      have := (List.getElem?_eq_some_iff.1 h).1
      simp [this]
    · exact h

set_option maxRecDepth 100000 in
set_option maxHeartbeats 1600000 in
theorem baseBelow_c (N : Option Addr) (capN : Nat) (ns : List Nd) (hns : ns.length ≤ 65536) (L : Nat) (hall : ∀ k n, ns[k]? = some n → NodeOK ns L k n) (F : Option Addr) (cf : Nat) (fr : List Int) (hfr : fr.length ≤ 65536) (hf : ∀ x ∈ fr, isIx x ns.length = true) (w : World) (hN : LiesN w N ns) (hF : LiesI w F fr) :
    Calls Tryd.prog 62 #[.slice N ns.length capN, .slice F fr.length cf] w (CopiedB w (belL ns fr)) := by
  obtain ⟨i0, hi, hz0, hz1, hz2⟩ := info_parts bool_info
  have HNN := Lib.hid hN
  have HFF := Lib.hid hF
  have HALL := Lib.hid hall
  have HFX := Lib.hid hf
  clear hN hF hall hf
  go_enter Tryd.func62, Tryd.ntmps62
  go_wp2_with (refine wpList_make_full _ rfl _ _ 88 rfl w.heap.size 4 i0 _ 1 Tryd.underlying88 hi hz0 hz1 .i64 .i64 _ _ ns.length rfl rfl rfl rfl (by rw [hz2]; omega) (by unfold maxLen; omega) (Nat.le_refl _) ?_; intro W1 hown hgr; have hb2 := (Below.refl w.heap.size w).grown hgr (Nat.le_refl _) (fun q hq => by cases hq); have rg : W1.heap[w.heap.size]? = some (.cells (rowB (List.replicate ns.length false)) 4) := (by have := row_block hown rfl; rwa [rowB_made] at this); clear hown hgr)
  have lg := lt_of_get rg
  have lw : w.heap.size ≤ w.heap.size := Nat.le_refl _
  generalize hg : w.heap.size = g at *
  have hb0 : Below w.heap.size w W1 := by rw [hg]; exact hb2
  clear hb2
  go_loopw [6] (fun v6 wr => ∃ j : Nat, j ≤ fr.length ∧ v6 = .int .i64 j ∧ wr.heap[g]? = some (.cells (rowB (markL (List.replicate ns.length false) (fr.take j))) 4) ∧ Below w.heap.size w wr) (fun v6 _ => fr.length - (intOf v6).toNat)
  case atStart => exact ⟨0, by omega, rfl, rg, hb0⟩
  case round =>
    clear rg hb0 lg
    obtain ⟨j, hj, rfl, rg, hb⟩ := hrel
    by_cases hlt : j < fr.length
    · have hjj : (j : Int) < fr.length := by omega
      have HX := Lib.hid (List.getElem?_eq_getElem hlt)
      have HIX := Lib.hid (HFX.out _ (List.getElem_mem hlt))
      generalize fr[j] = a at *
      obtain ⟨g0, g1⟩ := isIx_iff.1 HIX.out
      obtain ⟨p, rfl⟩ := Int.eq_ofNat_of_zero_le g0
      obtain ⟨ba, rfl, hbal, ca⟩ := HFF.out.cell HX.out
      have ca1 := (hb.cell (p := ba.add j) (by rw [addB]; exact hbal)).trans ca
      have HS := Lib.hid (markL_step (bs := List.replicate ns.length false) HX.out)
      have hpl : p < (markL (List.replicate ns.length false) (fr.take j)).length := by rw [markL_len, List.length_replicate]; omega
      obtain ⟨u, hu⟩ : ∃ u, (markL (List.replicate ns.length false) (fr.take j))[p]? = some u := ⟨_, List.getElem?_eq_getElem hpl⟩
      have qp := (cell_block (i := p) rg).trans (rowB_in hu)
      have fp := free_block (i := p) rg
      have HFIN := Lib.hid (show (wr.setCell ⟨g, p, none⟩ (.bool true)).heap[g]? = some (.cells (rowB (markL (List.replicate ns.length false) (fr.take (j + 1)))) 4) ∧ Below w.heap.size w (wr.setCell ⟨g, p, none⟩ (.bool true)) from
        ⟨by rw [heap_set rg, rowB_set, HS.out]; rfl, hb.setCell (p := ⟨g, p, none⟩) (Nat.le_of_eq hg) _⟩)
      clear ca rg hb hpl hu
      go_wp2
      go_roundw
      case rel => exact ⟨j + 1, by omega, by go_num, HFIN.out.1, HFIN.out.2⟩
      case measure => simp [intOf]; omega
    · obtain rfl : j = fr.length := by omega
      rw [List.take_length] at rg
      have HML := Lib.hid (show (markL (List.replicate ns.length false) fr).length = ns.length by rw [markL_len, List.length_replicate])
      have HBE : Hid (belL ns fr = belD ns ns.length (markL (List.replicate ns.length false) fr)) := Lib.hid rfl
      generalize markL (List.replicate ns.length false) fr = bs0 at *
      go_wp2_with fail
      have hb0 := hb
      clear hb
      go_loopw [7] (fun v7 wr => ∃ (m : Nat) (bs : List Bool) (t : Int), m ≤ ns.length ∧ t + 1 = (m : Int) ∧ v7 = .int .i64 t ∧ bs.length = ns.length ∧ belL ns fr = belD ns m bs ∧ wr.heap[g]? = some (.cells (rowB bs) 4) ∧ Below w.heap.size w wr) (fun v7 _ => (intOf v7 + 1).toNat)
      case atStart => exact ⟨ns.length, bs0, _, Nat.le_refl _, by omega, rfl, HML.out, HBE.out, rg, hb0⟩
      case round =>
        clear rg hb0
        obtain ⟨m, bs, t, hm, ht, rfl, hbl, hbd, rg, hb⟩ := hrel
        have HBD := Lib.hid hbd
        have HBN := Lib.hid hbl
        clear hbd hbl
        match m, hm, ht, HBD with
        | 0, _, ht, HBD =>
          obtain rfl : t = -1 := by omega
          have HF := Lib.hid (show CopiedB w (belL ns fr) (.returned (.slice (some ⟨g, 0, none⟩) ns.length ns.length)) wr from ⟨_, ns.length, by rw [belL_len], by rw [HBD.out]; exact LiesB.block rg, fun ad h => (by injection h with h; subst h; exact Nat.le_of_eq hg), hb⟩)
          go_wp2
          go_ret
          exact HF.out
        | k + 1, hm, ht, HBD =>
          obtain rfl : t = (k : Int) := by omega
          have hk : k < ns.length := hm
          have hkk : (k : Int) < ns.length := by omega
          obtain ⟨u, hu⟩ : ∃ u, bs[k]? = some u := ⟨_, List.getElem?_eq_getElem (by rw [HBN.out]; exact hk)⟩
          have qk := (cell_block (i := k) rg).trans (rowB_in hu)
          have lg := lt_of_get rg
          cases u with
          | false =>
            have HFIN := Lib.hid (HBD.out.trans (belD_no hu))
            clear hu
            have HRG := Lib.hid rg
            have HBW := Lib.hid hb
            go_wp2_with fail
            go_loopw [8] (fun v8 w4 => v8 = .int .i64 0 ∧ w4.heap[g]? = some (.cells (rowB bs) 4) ∧ w4.cell? ⟨g, k, none⟩ = some (.bool false) ∧ Below w.heap.size w w4) (fun _ _ => 0)
            case atStart => exact ⟨rfl, HRG.out, qk, HBW.out⟩
            case round =>
              clear qk rg hb
              obtain ⟨rfl, rg, qk, hb⟩ := hrel
              go_wp2
              go_roundw
              case rel => exact ⟨k, bs, _, by omega, by omega, rfl, HBN.out, HFIN.out, rg, hb⟩
              case measure => simp [intOf]; try omega
          | true =>
            have HX := Lib.hid (List.getElem?_eq_getElem hk)
            generalize ns[k] = x at *
            have HFIN := Lib.hid (HBD.out.trans (belD_yes hu HX.out))
            have HOK := Lib.hid (HALL.out k x HX.out)
            have hu0 := hu
            clear hu
            obtain ⟨ad, rfl, hbl', c0, c1, c3, B, bc, c2, hB⟩ := HNN.out.cells HX.out
            have HA2 : Hid (∀ W : World, Below w.heap.size w W → W.cell? ⟨(ad.add (k * 4)).block, (ad.add (k * 4)).off + 2, none⟩ = some (.slice B x.args.length bc)) := Lib.hid (fun W hbW => (hbW.cell (p := (ad.add (k * 4)).add 2) (by rw [addB, addB]; exact hbl')).trans c2)
            have HKP := Lib.hid (fun (is : List Int) => markL_keep is bs hu0)
            have HBL := Lib.hid hB
            clear c0 c1 c2 c3 hB hu0
            have HAL : Hid (x.args.length ≤ 3) := Lib.hid HOK.out.al
            have hal := HAL.out
            go_wp2_with fail
            have hb1 := hb
            have HBN1 : Hid ((markL bs x.args).length = ns.length) := Lib.hid (by rw [markL_len]; exact HBN.out)
            go_loopw [8] (fun v8 w4 => ∃ j : Nat, j ≤ x.args.length ∧ v8 = .int .i64 j ∧ w4.heap[g]? = some (.cells (rowB (markL bs (x.args.take j))) 4) ∧ Below w.heap.size w w4) (fun v8 _ => x.args.length - (intOf v8).toNat)
            case atStart => exact ⟨0, by omega, rfl, rg, hb1⟩
            case round =>
              clear rg hb1 hb qk
              obtain ⟨j, hj, rfl, rg, hb⟩ := hrel
              have a2 := HA2.out _ hb
              have qk := (cell_block (i := k) rg).trans (rowB_in (HKP.out _))
              have lg := lt_of_get rg
              by_cases hlt2 : j < x.args.length
              · have hjj : (j : Int) < x.args.length := by omega
                have HXA := Lib.hid (List.getElem?_eq_getElem hlt2)
                generalize x.args[j] = a at *
                obtain ⟨g0, g1⟩ := HOK.out.ai j a HXA.out
                obtain ⟨p, rfl⟩ := Int.eq_ofNat_of_zero_le g0
                have hpk : (p : Int) < ns.length := by omega
                obtain ⟨ba, rfl, hbal, ca⟩ := HBL.out.cell HXA.out
                have ca1 := (hb.cell (p := ba.add j) (by rw [addB]; exact hbal)).trans ca
                have HS := Lib.hid (markL_step (bs := bs) HXA.out)
                have hpl : p < (markL bs (x.args.take j)).length := by rw [markL_len, HBN.out]; omega
                obtain ⟨u, hu⟩ : ∃ u, (markL bs (x.args.take j))[p]? = some u := ⟨_, List.getElem?_eq_getElem hpl⟩
                have qp := (cell_block (i := p) rg).trans (rowB_in hu)
                have fp := free_block (i := p) rg
                have HF2 := Lib.hid (show (wr.setCell ⟨g, p, none⟩ (.bool true)).heap[g]? = some (.cells (rowB (markL bs (x.args.take (j + 1)))) 4) ∧ Below w.heap.size w (wr.setCell ⟨g, p, none⟩ (.bool true)) from
                  ⟨by rw [heap_set rg, rowB_set, HS.out]; rfl, hb.setCell (p := ⟨g, p, none⟩) (Nat.le_of_eq hg) _⟩)
                clear ca rg hb hpl hu
                go_wp2
                go_roundw
                case rel => exact ⟨j + 1, by omega, by go_num, HF2.out.1, HF2.out.2⟩
                case measure => simp [intOf]; omega
              · obtain rfl : j = x.args.length := by omega
                rw [List.take_length] at rg
                go_wp2
                go_roundw
                case rel => exact ⟨k, _, _, by omega, by omega, rfl, HBN1.out, HFIN.out, rg, hb⟩
                case measure => simp [intOf]; try omega


end Go.Proofs.YtkdonapgonegkaaDoor

set_option linter.unusedSimpArgs false
set_option linter.unusedVariables false
namespace Go.Proofs.YtkdonapgonegkaaDoor
open Go.RowKit Go.BigFrame

set_option maxRecDepth 100000 in
set_option maxHeartbeats 1600000 in
theorem baseLeavesBelow_c (N : Option Addr) (capN : Nat) (ns : List Nd) (hns : ns.length ≤ 65536) (L : Nat) (hL : L ≤ 65536) (hall : ∀ k n, ns[k]? = some n → NodeOK ns L k n) (F : Option Addr) (cf : Nat) (fr : List Int) (hfr : fr.length ≤ 65536) (hf : ∀ x ∈ fr, isIx x ns.length = true) (w : World) (hN : LiesN w N ns) (hF : LiesI w F fr) :
    Calls Tryd.prog 23 #[.slice N ns.length capN, .slice F fr.length cf, .int .i64 L] w (CopiedI w (lbL ns fr L)) := by
  have HBE := Lib.hid (baseBelow_c N capN ns hns L hall F cf fr hfr hf w hN hF)
  have HNN := Lib.hid hN
  have HALL := Lib.hid hall
  clear hN hF hall hf
  go_enter Tryd.func23, Tryd.ntmps23
  go_wp2_with fail
  refine HBE.out.mono ?_
  rintro e W2 ⟨M, cm, rfl, hM, _, hbw⟩
  have HM := Lib.hid hM
  have HBLn := Lib.hid (belL_len ns fr)
  rw [HBLn.out]
  have HB2 := Lib.hid hbw
  clear hM hbw
  have HLB := Lib.hid (show lbL ns fr L = choL (useK ns (belL ns fr) L ns.length) from rfl)
  generalize belL ns fr = bs at *
  obtain ⟨i0, hi, hz0, hz1, hz2⟩ := info_parts bool_info
  go_wp2_with (refine wpList_make_full _ rfl _ _ 88 rfl W2.heap.size 4 i0 _ 1 Tryd.underlying88 hi hz0 hz1 .i64 .i64 _ _ L rfl rfl rfl rfl (by rw [hz2]; omega) (by unfold maxLen; omega) (Nat.le_refl _) ?_; intro W1 hown hgr; have hb2 := (Below.refl W2.heap.size W2).grown hgr (Nat.le_refl _) (fun q hq => by cases hq); have rg : W1.heap[W2.heap.size]? = some (.cells (rowB (List.replicate L false)) 4) := (by have := row_block hown rfl; rwa [rowB_made] at this); clear hown hgr)
  clear hi hz0 hz1 hz2
  generalize hg : W2.heap.size = g at *
  have hb0 : Below W2.heap.size W2 W1 := by rw [hg]; exact hb2
  clear hb2
  have HRG := Lib.hid rg
  have HB0 := Lib.hid hb0
  clear rg hb0
  go_wp2_with fail
  go_loopw [9] (fun v9 wr => ∃ k : Nat, k ≤ ns.length ∧ v9 = .int .i64 k ∧ wr.heap[g]? = some (.cells (rowB (useK ns bs L k)) 4) ∧ Below W2.heap.size W2 wr) (fun v9 _ => ns.length - (intOf v9).toNat)
  case atStart => exact ⟨0, by omega, rfl, HRG.out, HB0.out⟩
  case round =>
    clear HRG HB0
    obtain ⟨k, hk, rfl, rg, hb⟩ := hrel
    have hbW := HB2.out.trans (hb.mono HB2.out.size)
    by_cases hlt : k < ns.length
    · have hkk : (k : Int) < ns.length := by omega
      have HX := Lib.hid (List.getElem?_eq_getElem hlt)
      generalize ns[k] = x at *
      obtain ⟨b, hbk'⟩ : ∃ b, bs[k]? = some b := ⟨_, List.getElem?_eq_getElem (by rw [HBLn.out]; exact hlt)⟩
      obtain ⟨am, rfl, ham, cm0⟩ := HM.out.cell hbk'
      have cm1 := (hb.cell (p := am.add k) (by rw [addB]; exact ham)).trans cm0
      have HOK := Lib.hid (HALL.out k x HX.out)
      obtain ⟨ad, rfl, hbl, c0, c1, c3, B, bc, c2, hB⟩ := HNN.out.cells HX.out
      have hbk : ∀ p : Addr, p.block = ad.block → wr.cell? p = w.cell? p := fun p hp => hbW.cell (p := p) (by rw [hp]; exact hbl)
      have a0 := (hbk (ad.add (k * 4)) (by rw [addB])).trans c0
      have a1 : wr.cell? ⟨(ad.add (k * 4)).block, (ad.add (k * 4)).off + 1, none⟩ = some (.int .i64 x.wd) := (hbk ((ad.add (k * 4)).add 1) (by rw [addB, addB])).trans c1
      have a2 : wr.cell? ⟨(ad.add (k * 4)).block, (ad.add (k * 4)).off + 2, none⟩ = some (.slice B x.args.length bc) := (hbk ((ad.add (k * 4)).add 2) (by rw [addB, addB])).trans c2
      have a3 : wr.cell? ⟨(ad.add (k * 4)).block, (ad.add (k * 4)).off + 3, none⟩ = some (.int .i64 x.v) := (hbk ((ad.add (k * 4)).add 3) (by rw [addB, addB])).trans c3
      clear c0 c1 c2 c3 hbk
      have HBL := Lib.hid hB
      clear hB
      have HBK := Lib.hid hbk'
      clear cm0 hbk' a1 a2 HBL
      obtain ⟨op, wd, args, v⟩ := x
      simp only at a0 a3
      by_cases hop : op = 1
      · subst hop
        cases b with
        | true =>
          have HS := Lib.hid (useK_yes (L := L) HX.out HBK.out rfl)
          obtain ⟨v0, v1⟩ := HOK.out.lf rfl
          simp only at v0 v1 HS
          obtain ⟨p, rfl⟩ := Int.eq_ofNat_of_zero_le v0
          obtain ⟨u, hu⟩ : ∃ u, (useK ns bs L k)[p]? = some u := ⟨_, List.getElem?_eq_getElem (by rw [useK_len]; omega)⟩
          have qp := (cell_block (i := p) rg).trans (rowB_in hu)
          have fp := free_block (i := p) rg
          have HF2 := Lib.hid (show (wr.setCell ⟨g, p, none⟩ (.bool true)).heap[g]? = some (.cells (rowB (useK ns bs L (k + 1))) 4) ∧ Below W2.heap.size W2 (wr.setCell ⟨g, p, none⟩ (.bool true)) from
            ⟨by rw [heap_set rg, rowB_set, HS.out]; rfl, hb.setCell (p := ⟨g, p, none⟩) (Nat.le_of_eq hg) _⟩)
          clear rg hb hbW hu HS
          go_wp2
          go_roundw
          case rel => exact ⟨k + 1, by omega, by go_num, HF2.out.1, HF2.out.2⟩
          case measure => simp [intOf]; omega
        | false =>
          have HS := Lib.hid (useK_no (L := L) HX.out HBK.out (fun h => by cases h.1))
          go_wp2
          go_roundw
          case rel => exact ⟨k + 1, by omega, by go_num, by rw [HS.out]; exact rg, hb⟩
          case measure => simp [intOf]; omega
      · have ho1 : (op == 1) = false := by simpa using hop
        have HS := Lib.hid (useK_no (L := L) HX.out HBK.out (fun h => hop h.2))
        clear hop
        cases b with
        | true =>
          go_wp2
          go_roundw
          case rel => exact ⟨k + 1, by omega, by go_num, by rw [HS.out]; exact rg, hb⟩
          case measure => simp [intOf]; omega
        | false =>
          go_wp2
          go_roundw
          case rel => exact ⟨k + 1, by omega, by go_num, by rw [HS.out]; exact rg, hb⟩
          case measure => simp [intOf]; omega
    · obtain rfl : k = ns.length := by omega
      have HUL := useK_len (ns := ns) (bs := bs) (L := L) ns.length
      clear HBLn
      have HBLn := Lib.hid HUL
      clear HUL
      generalize useK ns bs L ns.length = us at *
      have HW := Lib.hid hbW
      have HRG := Lib.hid rg
      have lg := lt_of_get rg
      clear hb hbW rg
      generalize wr = W4 at *
      obtain ⟨i0, hi, hz0, hz1, hz2⟩ := info_parts int_info
      rw [HLB.out]
      go_wp2_with fail
      go_loopw [10, 11] (fun v10 v11 wr => ∃ k : Nat, k ≤ L ∧ v11 = .int .i64 k ∧ wr.ownsRow W4.heap.size 3 1 v10 (choK us k).length ((choK us k).map (Value.int .i64)) ∧ Below W4.heap.size W4 wr) (fun _ v11 _ => L - (intOf v11).toNat)
      case atStart => exact ⟨0, by omega, rfl, World.ownsRow_nil _ _ _ _, Below.refl _ _⟩
      case round =>
        obtain ⟨k, hk, rfl, hown, hb⟩ := hrel
        have hbs' := hb.size
        have hcl := choK_len (bs := us) k
        by_cases hlt : k < L
        · have hkk : (k : Int) < L := by omega
          obtain ⟨b, hbk⟩ : ∃ b, us[k]? = some b := ⟨_, List.getElem?_eq_getElem (by rw [HBLn.out]; exact hlt)⟩
          have HX := Lib.hid hbk
          clear hbk
          have rgk := (hb.block _ lg).trans HRG.out
          have c1 := (cell_block (i := k) rgk).trans (rowB_in HX.out)
          clear rgk
          cases b with
          | false =>
            have HS := Lib.hid (choK_no HX.out)
            have HO := Lib.hid hown
            clear hown
            go_wp2
            go_roundw
            case rel => exact ⟨k + 1, by omega, by go_num, by rw [HS.out]; exact HO.out, hb⟩
            case measure => simp [intOf]; omega
          | true =>
            have HS := Lib.hid (choK_yes HX.out)
            generalize hm : (choK us k).length = m at *
            go_wp2_with (at_builtin; refine wpList_append_own _ rfl _ _ 22 rfl W4.heap.size 3 i0 (.int .i64 0) 1 8 Tryd.underlying22 hi hz0 hz1 hz2 rfl (by decide) _ _ _ rfl (hown.alloc _) ⟨_, 0, none⟩ 1 1 [.int .i64 _] rfl rfl (cell_one_new _ _ _) (fun x hx => by simp at hx; subst hx; rfl) (by unfold maxLen; omega) (by omega) (by first | omega | (simp; omega) | (simp at *; omega)) ?_; intro v' w3 hown' hgrow3 hnn)
            have HF := Lib.hid (own_snoc hown' hm.symm HS.out)
            have HB := Lib.hid ((hb.alloc hbs' (.cells #[.int .i64 k] 3)).grown hgrow3 (by simp; omega) (fun q hq => (hown.lt q hq).1))
            clear hown' hgrow3 hown
            go_wp2
            go_roundw
            case rel => exact ⟨k + 1, by omega, by go_num, HF.out, HB.out⟩
            case measure => simp [intOf]; omega
        · obtain rfl : L = k := by omega
          have hch : choK us L = choL us := by unfold choL; rw [HBLn.out]
          rw [hch] at hown
          have HF := Lib.hid (show CopiedI w (choL us) (.returned u10) wr from by
            obtain ⟨A', c', e1, hl, hb'⟩ := own_copied hown hb
            exact ⟨A', c', e1, hl, HW.out.trans (hb'.mono HW.out.size)⟩)
          clear hown
          go_wp2
          go_ret
          first | exact HF.out | (rw [HLB.out]; exact HF.out)

end Go.Proofs.YtkdonapgonegkaaDoor

set_option linter.unusedSimpArgs false
set_option linter.unusedVariables false
namespace Go.Proofs.YtkdonapgonegkaaDoor
open Go.RowKit Go.BigFrame

end Go.Proofs.YtkdonapgonegkaaDoor
