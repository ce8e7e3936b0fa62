/-
  Contracts of chapter 2 (graph): the trials of some nodes, one after the other.
-/
import Derived.Test.YtkdonapgonegkaaDoorGJ
import Derived.RangeFuncNested
import Derived.RangeFuncBound
import Derived.RangeFuncCalls
import Derived.RangeFuncLeaves
import Derived.Shelf.Abstract
import Derived.Shelf.RegionOpen
import Derived.OwnWalkIn
import Derived.TacticsInMore
import Derived.LoopNIn
import Derived.LoopIn
set_option linter.unusedSimpArgs false
set_option linter.unusedVariables false
namespace Go.Proofs.YtkdonapgonegkaaDoor
open Go.RowKit Go.BigFrame
attribute [local go_sem] Oper.semAt_some

/-- The values of all leaves, and of the named nodes, in one trial. -/
def triV (ls : List Int) (ns : List Nd) (fr : List Int) (k : Nat) : List Int := triL ls (lbL ns fr ls.length) k
def triN (ls : List Int) (ns : List Nd) (fr : List Int) (k : Nat) : List Int := pickL (valsL (coneN ns fr) (triV ls ns fr k)) (coneP ns fr)
/-- What is asked of leaves, nodes and named nodes. -/
structure TriOK (ls : List Int) (ns : List Nd) (fr : List Int) : Prop where
  l1 : ls.length ≤ 65536
  lw : ∀ x ∈ ls, isW x = true
  n1 : ns.length ≤ 65536
  all : ∀ k n, ns[k]? = some n → NodeOK ns ls.length k n
  f1 : fr.length ≤ 65536
  fx : ∀ x ∈ fr, isIx x ns.length = true
  bit : bitsL ls ns fr ≤ 16
  call : ∀ k n, (coneN ns fr)[k]? = some n → NodeOK (coneN ns fr) ls.length k n
  c1 : (coneN ns fr).length ≤ 65536
  px : ∀ x ∈ coneP ns fr, isIx x (coneN ns fr).length = true
theorem coneP_len (ns : List Nd) (fr : List Int) : (coneP ns fr).length = fr.length := pickL_len _ _
theorem triV_len (ls : List Int) (ns : List Nd) (fr : List Int) (k : Nat) : (triV ls ns fr k).length = ls.length := triL_len _ _ _
theorem triN_len (ls : List Int) (ns : List Nd) (fr : List Int) (k : Nat) : (triN ls ns fr k).length = fr.length := (pickL_len _ _).trans (coneP_len ns fr)

set_option maxRecDepth 100000 in
set_option maxHeartbeats 1600000 in
theorem trials1_in (n b3 b4 b5 b9 b7 b8 : Nat) (ls : List Int) (ns : List Nd) (fr : List Int) (ok : TriOK ls ns fr) (w0 : World) (hc : Caught w0 b3 b4 b5 b9 b7 b8 ls ns fr) (l : Nat) (J Jx : Nat → World → Prop)
    (hJb : ∀ k W W', J k W → Below W.heap.size W W' → J k W') (hJ0 : ∀ k W, J k W → Below w0.heap.size w0 W)
    (hY : ∀ (k : Nat) W A1 c1 A2 c2, J k W → (k : Int) < pw (bitsL ls ns fr) → LiesI W A1 (triV ls ns fr k) → (∀ ad, A1 = some ad → w0.heap.size ≤ ad.block) → LiesI W A2 (triN ls ns fr k) → YieldAt Fence.wide (n - 1) Tryd.prog l #[.slice A1 ls.length c1, .slice A2 fr.length c2] W fun e W' => ∃ b : Bool, e = .returned (.bool b) ∧ (b = true → J (k + 1) W') ∧ (b = false → Jx k W'))
    (W : World) (h0 : J 0 W) :
    CallsIn Fence.wide n Tryd.prog 94 #[.func (.yield l) #[] #[], .pointer (some ⟨b3, 0, none⟩), .pointer (some ⟨b4, 0, none⟩), .pointer (some ⟨b5, 0, none⟩), .pointer (some ⟨b9, 0, none⟩), .pointer (some ⟨b7, 0, none⟩), .pointer (some ⟨b8, 0, none⟩)] W fun e W' => (∃ v, e = .returned v) ∧ ((∃ k : Nat, (k : Int) = pw (bitsL ls ns fr) ∧ J k W') ∨ ∃ k : Nat, (k : Int) < pw (bitsL ls ns fr) ∧ Jx k W') := by
  have HOK := Lib.hid ok
  have HCT := Lib.hid (fun k W (h : J k W) => hc.below (hJ0 k W h))
  have HJ0 := Lib.hid hJ0
  have hbd := sumK_bd (xs := lbL ns fr ls.length) ok.lw (lbL ns fr ls.length).length
  have hb0 : 0 ≤ bitsL ls ns fr := hbd.1
  have hb1 : bitsL ls ns fr ≤ 16 := ok.bit
  have hpb := pw_bd hb0 hb1
  clear hbd ok
  obtain ⟨⟨A, ca, r3, l3⟩, ⟨N, cn, r4, l4⟩, ⟨F, cf, r5, l5⟩, _, _, _⟩ := HCT.out 0 W h0
  have q3 := cell_block (i := 0) r3
  have q4 := cell_block (i := 0) r4
  have q5 := cell_block (i := 0) r5
  simp at q3 q4 q5
  have HBI := Lib.hid (bitsBelow_c A ca ls HOK.out.l1 HOK.out.lw N cn ns HOK.out.n1 HOK.out.all F cf fr HOK.out.f1 HOK.out.fx W l3 l4 l5)
  have HJ1 := Lib.hid (fun W' (hb : Below W.heap.size W W') => hJb 0 W W' h0 hb)
  clear r3 r4 r5 l3 l4 l5
  refine callsIn_of_wp Tryd.func94 rfl trivial ?_
  simp only [Tryd.ntmps94, List.size_toArray, List.length_cons, List.length_nil, Nat.reduceAdd, Nat.reduceSub, Array.replicate_succ, Array.replicate_zero, List.push_toArray, List.append_toArray, List.nil_append, List.cons_append]
  gi_wp2_with (refine ⟨trivial, (fun h => (by cases h)), ?_⟩; gi_at_call 73; refine (callsIn_wide.2 HBI.out).mono ?_; rintro e w' ⟨rfl, x, rfl⟩)
  have hT : wrap64 (2 ^ (bitsL ls ns fr).toNat) = pw (bitsL ls ns fr) := IntWalk.wrap64_in _ (by show -9223372036854775808 ≤ pw (bitsL ls ns fr) ∧ pw (bitsL ls ns fr) ≤ 9223372036854775807; omega)
  rw [hT]
  have HJS := Lib.hid (HJ1.out _ x.pf)
  clear q3 q4 q5 hT HJ1 HBI
  obtain ⟨T, hT⟩ := Int.eq_ofNat_of_zero_le (show 0 ≤ pw (bitsL ls ns fr) by omega)
  rw [hT] at hpb hY ⊢
  have HTT := Lib.hid hT
  have hT1 : T ≤ 65536 := by omega
  have HY := Lib.hid hY
  have HJB := Lib.hid hJb
  clear hY hJb hpb hb0 hb1 hT hJ0 h0
  generalize x.val = W0 at *
  gi_loopw [15] (fun v15 wr => ∃ k : Nat, k ≤ T ∧ v15 = .int .i64 k ∧ J k wr) (fun v15 _ => T - (intOf v15).toNat)
  case atStart => exact ⟨0, by omega, rfl, HJS.out⟩
  case round =>
    clear HJS
    obtain ⟨k, hk, rfl, hj⟩ := hrel
    by_cases hlt : k < T
    · have hkk : (k : Int) < T := by omega
      obtain ⟨⟨A, ca, r3, l3⟩, _, _, ⟨U, cu, r9, l9⟩, ⟨C, cc, r7, l7⟩, ⟨D, cd, r8, l8⟩⟩ := HCT.out k wr hj
      have HJ := Lib.hid hj
      have HTR := Lib.hid (trialOf_c A ca ls HOK.out.l1 HOK.out.lw U cu (lbL ns fr ls.length) (Nat.le_trans lbL_len HOK.out.l1) (fun x hx => isIx_iff.2 (lbL_mem hx)) k (by omega) (by omega) wr l3 l9)
      have HTR : Hid (Calls Tryd.prog 95 #[.slice A ls.length ca, .slice U (lbL ns fr ls.length).length cu, .int .i64 k] wr (CopiedF wr (triV ls ns fr k))) := HTR
      have q3 := cell_block (i := 0) r3
      have q9 := cell_block (i := 0) r9
      simp at q3 q9
      clear hj r3 l3 r9 l9
      gi_wp2_with (refine ⟨trivial, (fun h => (by cases h)), ?_⟩; gi_at_call 95; refine (callsIn_wide.2 HTR.out).mono ?_; rintro e W1 ⟨A1, c1, rfl, hl1, hf1, hb1⟩; rw [triV_len])
      have s7 := (hb1.block _ (lt_of_get r7)).trans r7
      have s8 := (hb1.block _ (lt_of_get r8)).trans r8
      have q7 := cell_block (i := 0) s7
      have q8 := cell_block (i := 0) s8
      simp at q7 q8
      rw [coneP_len] at q8
      have HJ1 := Lib.hid (HJB.out k wr W1 HJ.out hb1)
      have HFF := Lib.hid (fun ad h => Nat.le_trans (HJ0.out k wr HJ.out).size (hf1 ad h))
      clear hf1
      have HL1 := Lib.hid hl1
      have HVO : Hid (Calls Tryd.prog 56 #[.slice C (coneN ns fr).length cc, .slice A1 ls.length c1] W1.drew (CopiedI W1.drew (valsL (coneN ns fr) (triV ls ns fr k)))) := Lib.hid (by
        have hbd : Below W1.heap.size W1 W1.drew := (Below.refl _ _).drew
        have h := valuesOf_c C cc (coneN ns fr) HOK.out.c1 A1 c1 (triV ls ns fr k) (by rw [triV_len]; exact HOK.out.l1) (triL_bd HOK.out.lw) (by rw [triV_len]; exact HOK.out.call) W1.drew ((l7.below hb1).below hbd) (hl1.below hbd)
        rw [triV_len] at h; exact h)
      have HPI : Hid (∀ (W2 : World) V cv, Below W1.heap.size W1 W2 → LiesI W2 V (valsL (coneN ns fr) (triV ls ns fr k)) → Calls Tryd.prog 96 #[.slice V (coneN ns fr).length cv, .slice D fr.length cd] W2 fun e w' => ∃ A' cap', e = .returned (.slice A' fr.length cap') ∧ LiesI w' A' (triN ls ns fr k) ∧ Below W2.heap.size W2 w') := Lib.hid (fun W2 V cv hb hV => by
        have h := picked_c V cv (valsL (coneN ns fr) (triV ls ns fr k)) (by rw [valsL_len]; exact HOK.out.c1) D cd (coneP ns fr) (by rw [coneP_len]; exact HOK.out.f1) (by rw [valsL_len]; exact HOK.out.px) W2 hV ((l8.below hb1).below hb)
        rw [valsL_len, coneP_len] at h
        exact h.mono fun e w' ⟨A', cap', h1, h2, _, h4⟩ => ⟨A', cap', h1, h2, h4⟩)
      have hs8 : b8 < W1.heap.size := lt_of_get s8
      clear r7 l7 r8 l8 hl1 hb1 s7 s8 q3 q9
      have hmx : Tryd.prog.follows .mixedOrders = true := by kernel_rfl
      gi_region_with_o (first
        | (refine ⟨trivial, (fun h => (by cases h)), ?_⟩; gi_at_call 56; refine (callsIn_wide.2 HVO.out).mono ?_; rintro e W2 ⟨V, cv, rfl, hlV, hbV⟩; rw [valsL_len]; have hb2 : Below W1.heap.size W1 W2 := ((Below.refl W1.heap.size W1).drew).trans hbV; have q8' := (hb2.cell (p := ⟨b8, 0, none⟩) hs8).trans q8; clear q8)
        | (refine ⟨trivial, (fun h => (by cases h)), ?_⟩; gi_at_call 96; refine (callsIn_wide.2 (HPI.out _ _ _ hb2 hlV)).mono ?_; rintro e W3 ⟨A2, c2, rfl, hl2, hb3⟩; have hb23 := hb2.trans (hb3.mono hb2.size); obtain ⟨fn, tm, asn, bo, hy, hR⟩ := HY.out k W3 A1 c1 A2 c2 (HJB.out k W1 W3 HJ1.out hb23) hkk (HL1.out.below hb23) HFF.out hl2)
        | (refine ⟨(fun h => (by cases h)), ?_⟩; refine hR.mono ?_; rintro e W4 ⟨b, rfl, hbt, hbf⟩))
      all_goals
        have HT := Lib.hid hbt
        have HF := Lib.hid hbf
        clear hbt hbf hb23 hb2 hb3 hlV hl2 q7 q8' hy hR hbV
        cases b
        · gi_wp2
          refine bodyPost_ret (results_none rfl _ _ _) rfl ?_
          exact ⟨⟨_, rfl⟩, .inr ⟨k, by rw [HTT.out]; exact hkk, HF.out (by simp)⟩⟩
        · gi_wp2
          go_roundw
          case rel => exact ⟨k + 1, by omega, by go_num, HT.out (by simp)⟩
          case measure => simp [intOf]; omega
    · obtain rfl : k = T := by omega
      gi_wp2
      go_end0
      exact ⟨⟨_, rfl⟩, .inl ⟨k, HTT.out.symm, hj⟩⟩

end Go.Proofs.YtkdonapgonegkaaDoor
