/-
  Contracts of chapter 2 (graph): the value of a node by those of its arguments.
-/
import Derived.Test.YtkdonapgonegkaaDoorGu
set_option linter.unusedSimpArgs false
set_option linter.unusedVariables false
namespace Go.Proofs.YtkdonapgonegkaaDoor
open Go.RowKit Go.BigFrame

/-- The exact value of a node, and modulo 2 to the power of its width. -/
def exG (op wd v aw av bw bv cv : Int) : Int :=
  if op = 0 then v
  else if op = 1 then v
  else if op = 2 then bits .xor .i64 (-1) av
  else if op = 3 then bits .and .i64 av bv
  else if op = 4 then bits .or .i64 av bv
  else if op = 5 then bits .xor .i64 av bv
  else if op = 6 then av + bv
  else if op = 7 then av - bv
  else if op = 8 then av * bv
  else if op = 9 then fl (av == bv)
  else if op = 10 then fl (decide (av < bv))
  else if op = 11 then fl (decide (sgG aw av < sgG bw bv))
  else if op = 12 then muxG av bv cv
  else if op = 13 then bits .or .i64 (av * pw bw) bv
  else if op = 14 then av / pw v
  else if op = 15 then av
  else if op = 16 then sgG aw av
  else if op = 17 then av * pw (min bv wd)
  else av / pw (min bv wd)
def resG (op wd v aw av bw bv cv : Int) : Int := exG op wd v aw av bw bv cv % pw wd
theorem mask_res {op wd v aw av bw bv cv : Int} (h1 : 0 ≤ wd) (h2 : wd ≤ 16) : bits .and .i64 (exG op wd v aw av bw bv cv) (pw wd - 1) = resG op wd v aw av bw bv cv := by
  obtain ⟨k, rfl⟩ := Int.eq_ofNat_of_zero_le h1
  exact and_mask _ k (by omega)
theorem resG_bd {op wd v aw av bw bv cv : Int} : 0 ≤ resG op wd v aw av bw bv cv ∧ resG op wd v aw av bw bv cv < pw wd :=
  ⟨Int.emod_nonneg _ (Int.ne_of_gt (pw_pos wd)), Int.emod_lt_of_pos _ (pw_pos wd)⟩
/-- What the operations ask of their arguments. -/
structure Fit3 (op wd v aw av bw bv : Int) : Prop where
  o0 : 0 ≤ op
  o1 : op ≤ 18
  w1 : 1 ≤ wd
  w2 : wd ≤ 16
  a0 : 0 ≤ av
  a1 : av ≤ 65536
  b0 : 0 ≤ bv
  b1 : bv ≤ 65536
  aw1 : (op = 11 ∨ op = 16) → 1 ≤ aw
  aw2 : aw ≤ 16
  bw0 : 0 ≤ bw
  bw1 : op = 11 → 1 ≤ bw
  bw2 : bw ≤ 16
  v0 : op = 14 → 0 ≤ v ∧ v ≤ 16

theorem exactOf_c (op wd v aw av bw bv cw cv : Int) (h : Fit3 op wd v aw av bw bv) (B : Option Addr) (al bc : Nat) (w : World) :
    Calls Tryd.prog 104 #[.agg #[.int .i64 op, .int .i64 wd, .slice B al bc, .int .i64 v], .agg #[.int .i64 aw, .int .i64 av, .int .i64 bw, .int .i64 bv, .int .i64 cw, .int .i64 cv]] w fun e w' => e = .returned (.int .i64 (exG op wd v aw av bw bv cv)) ∧ ∃ x : Aft w, w' = x.val := by
  have hcase : op = 0 ∨ op = 1 ∨ op = 2 ∨ op = 3 ∨ op = 4 ∨ op = 5 ∨ op = 6 ∨ op = 7 ∨ op = 8 ∨ op = 9 ∨ op = 10 ∨ op = 11 ∨ op = 12 ∨ op = 13 ∨ op = 14 ∨ op = 15 ∨ op = 16 ∨ op = 17 ∨ op = 18 := by have := h.o0; have := h.o1; omega
  rcases hcase with rfl | rfl | rfl | rfl | rfl | rfl | rfl | rfl | rfl | rfl | rfl | rfl | rfl | rfl | rfl | rfl | rfl | rfl | rfl
  · exact exact_0 wd v aw av bw bv cw cv h.w1 h.w2 h.a0 h.a1 h.b0 h.b1 B al bc w
  · exact exact_1 wd v aw av bw bv cw cv h.w1 h.w2 h.a0 h.a1 h.b0 h.b1 B al bc w
  · exact exact_2 wd v aw av bw bv cw cv h.w1 h.w2 h.a0 h.a1 h.b0 h.b1 B al bc w
  · exact exact_3 wd v aw av bw bv cw cv h.w1 h.w2 h.a0 h.a1 h.b0 h.b1 B al bc w
  · exact exact_4 wd v aw av bw bv cw cv h.w1 h.w2 h.a0 h.a1 h.b0 h.b1 B al bc w
  · exact exact_5 wd v aw av bw bv cw cv h.w1 h.w2 h.a0 h.a1 h.b0 h.b1 B al bc w
  · exact exact_6 wd v aw av bw bv cw cv h.w1 h.w2 h.a0 h.a1 h.b0 h.b1 B al bc w
  · exact exact_7 wd v aw av bw bv cw cv h.w1 h.w2 h.a0 h.a1 h.b0 h.b1 B al bc w
  · exact exact_8 wd v aw av bw bv cw cv h.w1 h.w2 h.a0 h.a1 h.b0 h.b1 (by have := mulS h.a0 h.a1 h.b0 h.b1; omega) B al bc w
  · exact exact_9 wd v aw av bw bv cw cv h.w1 h.w2 h.a0 h.a1 h.b0 h.b1 B al bc w
  · exact exact_10 wd v aw av bw bv cw cv h.w1 h.w2 h.a0 h.a1 h.b0 h.b1 B al bc w
  · exact exact_11 wd v aw av bw bv cw cv h.w1 h.w2 h.a0 h.a1 h.b0 h.b1 (h.aw1 (.inl rfl)) h.aw2 (h.bw1 rfl) h.bw2 B al bc w
  · exact exact_12 wd v aw av bw bv cw cv h.w1 h.w2 h.a0 h.a1 h.b0 h.b1 B al bc w
  · exact exact_13 wd v aw av bw bv cw cv h.w1 h.w2 h.a0 h.a1 h.b0 h.b1 h.bw0 h.bw2 B al bc w
  · exact exact_14 wd v aw av bw bv cw cv h.w1 h.w2 h.a0 h.a1 h.b0 h.b1 (h.v0 rfl).1 (h.v0 rfl).2 B al bc w
  · exact exact_15 wd v aw av bw bv cw cv h.w1 h.w2 h.a0 h.a1 h.b0 h.b1 B al bc w
  · exact exact_16 wd v aw av bw bv cw cv h.w1 h.w2 h.a0 h.a1 h.b0 h.b1 (h.aw1 (.inr rfl)) h.aw2 B al bc w
  · exact exact_17 wd v aw av bw bv cw cv h.w1 h.w2 h.a0 h.a1 h.b0 h.b1 B al bc w
  · exact exact_18 wd v aw av bw bv cw cv h.w1 h.w2 h.a0 h.a1 h.b0 h.b1 B al bc w

set_option maxRecDepth 100000 in
set_option maxHeartbeats 1600000 in
theorem resultOf_c (op wd v aw av bw bv cw cv : Int) (h : Fit3 op wd v aw av bw bv) (B : Option Addr) (al bc : Nat) (w : World) :
    Calls Tryd.prog 86 #[.agg #[.int .i64 op, .int .i64 wd, .slice B al bc, .int .i64 v], .agg #[.int .i64 aw, .int .i64 av, .int .i64 bw, .int .i64 bv, .int .i64 cw, .int .i64 cv]] w fun e w' => e = .returned (.int .i64 (resG op wd v aw av bw bv cv)) ∧ ∃ x : Aft w, w' = x.val := by
  have hw1 := h.w1
  have hw2 := h.w2
  have hh := Lib.hid h
  have HR := Lib.hid (mask_res (op := op) (wd := wd) (v := v) (aw := aw) (av := av) (bw := bw) (bv := bv) (cv := cv) (by omega) hw2)
  clear h
  go_enter Tryd.func86, Tryd.ntmps86
  go_wp2_with fail
  refine wp_region_aft (by kernel_rfl) (by kernel_rfl) ?_
  repeat (go_big_quiet_step (first | (go_at_call 104; exact Calls.qa (exactOf_c op wd v aw av bw bv cw cv hh.out B al bc _)) | (go_at_call 91; exact Calls.qs (highest_c _ (by omega) (by omega) _))))
  refine wpQuiet_nil ?_
  intro y
  go_wp2
  go_ret
  exact ⟨retI HR.out, Below.aft (by (repeat' (first | (with_reducible exact Below.refl _ _) | (with_reducible assumption) | (with_reducible refine Below.alloc ?_ ?_ _) | (with_reducible refine Below.drew ?_) | (with_reducible refine Aft.below _ ?_ ?_) | (with_reducible refine Below.setCell_new ?_ ?_ _ _) | (with_reducible exact Nat.le_refl _) | (with_reducible refine Aft.le _ ?_) | (with_reducible refine le_alloc ?_) | (with_reducible refine le_drew ?_) | (with_reducible refine le_setCell ?_) | omega)))⟩

end Go.Proofs.YtkdonapgonegkaaDoor
