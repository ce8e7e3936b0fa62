/-
  Contracts of chapter 2 (graph): the exact value of a node by those of its arguments.
-/
import Derived.Test.YtkdonapgonegkaaDoorGn
set_option linter.unusedSimpArgs false
set_option linter.unusedVariables false
namespace Go.Proofs.YtkdonapgonegkaaDoor
open Go.RowKit Go.BigFrame

theorem flag_c (b : Bool) (w : World) : Calls Tryd.prog 108 #[.bool b] w fun e w' => e = .returned (.int .i64 (fl b)) ∧ w = w' := by
  cases b
  all_goals
    go_enter Tryd.func108, Tryd.ntmps108
    go_wp2
    go_ret
    exact ⟨rfl, rfl⟩

/-- A value as a two's complement. -/
def sgG (wd v : Int) : Int := if pw (wd - 1) - 1 < v then v - (pw wd - 1) - 1 else v

set_option maxRecDepth 100000 in
set_option maxHeartbeats 1600000 in
theorem signed_c (aw av : Int) (h1 : 1 ≤ aw) (h2 : aw ≤ 16) (a0 : 0 ≤ av) (a1 : av ≤ 65536) (w : World) : Calls Tryd.prog 109 #[.agg #[.int .i64 aw, .int .i64 av]] w fun e w' => e = .returned (.int .i64 (sgG aw av)) ∧ ∃ x : Aft w, w' = x.val := by
  have hp := pw_bd (n := aw) (by omega) h2
  by_cases h : pw (aw - 1) - 1 < av
  · have HR := Lib.hid (show sgG aw av = av - (pw aw - 1) - 1 by unfold sgG; rw [if_pos h])
    go_enter Tryd.func109, Tryd.ntmps109
    go_wp2_with fail
    refine wp_region_aft (by kernel_rfl) (by kernel_rfl) ?_
    repeat (go_big_quiet_step (first | (go_at_call 91; exact Calls.qs (highest_c _ (by omega) (by omega) _))))
    refine wpQuiet_nil ?_
    intro x
    have hx : w.heap.size < x.val.heap.size := by have := x.size; simp at this; omega
    go_wp2_with fail
    refine wp_region_aft (by kernel_rfl) (by kernel_rfl) ?_
    repeat (go_big_quiet_step (first | (go_at_call 91; exact Calls.qs (highest_c _ (by omega) (by omega) _))))
    refine wpQuiet_nil ?_
    intro y
    go_wp2
    go_ret
    exact ⟨retI (by rw [HR.out]), Below.aft (by (repeat' (first | (with_reducible exact Below.refl _ _) | (with_reducible assumption) | (with_reducible refine Below.alloc ?_ ?_ _) | (with_reducible refine Below.drew ?_) | (with_reducible refine Aft.below _ ?_ ?_) | (with_reducible refine Below.setCell_new ?_ ?_ _ _) | (with_reducible exact Nat.le_refl _) | (with_reducible refine Aft.le _ ?_) | (with_reducible refine le_alloc ?_) | (with_reducible refine le_drew ?_) | (with_reducible refine le_setCell ?_) | omega)))⟩
  · have HR := Lib.hid (show sgG aw av = av by unfold sgG; rw [if_neg h])
    go_enter Tryd.func109, Tryd.ntmps109
    go_wp2_with fail
    refine wp_region_aft (by kernel_rfl) (by kernel_rfl) ?_
    repeat (go_big_quiet_step (first | (go_at_call 91; exact Calls.qs (highest_c _ (by omega) (by omega) _))))
    refine wpQuiet_nil ?_
    intro x
    have hx : w.heap.size < x.val.heap.size := by have := x.size; simp at this; omega
    go_wp2
    go_ret
    exact ⟨retI (by rw [HR.out]), Below.aft (by (repeat' (first | (with_reducible exact Below.refl _ _) | (with_reducible assumption) | (with_reducible refine Below.alloc ?_ ?_ _) | (with_reducible refine Below.drew ?_) | (with_reducible refine Aft.below _ ?_ ?_) | (with_reducible refine Below.setCell_new ?_ ?_ _ _) | (with_reducible exact Nat.le_refl _) | (with_reducible refine Aft.le _ ?_) | (with_reducible refine le_alloc ?_) | (with_reducible refine le_drew ?_) | (with_reducible refine le_setCell ?_) | omega)))⟩

set_option maxRecDepth 100000 in
set_option maxHeartbeats 1600000 in
theorem exact_0 (wd v aw av bw bv cw cv : Int) (hw1 : 1 ≤ wd) (hw2 : wd ≤ 16) (a0 : 0 ≤ av) (a1 : av ≤ 65536) (b0 : 0 ≤ bv) (b1 : bv ≤ 65536) (B : Option Addr) (al bc : Nat) (w : World) :
    Calls Tryd.prog 104 #[.agg #[.int .i64 0, .int .i64 wd, .slice B al bc, .int .i64 v], .agg #[.int .i64 aw, .int .i64 av, .int .i64 bw, .int .i64 bv, .int .i64 cw, .int .i64 cv]] w fun e w' => e = .returned (.int .i64 (v)) ∧ ∃ x : Aft w, w' = x.val := by
  go_enter Tryd.func104, Tryd.ntmps104
  go_wp2_with fail
  refine wp_region_kd [.quiet, .quiet, .quiet, .quiet, .quiet, .quiet, .new (.cells #[.int .i64 0, .int .i64 0] 123), .new (.cells #[.int .i64 0, .int .i64 0] 123), .new (.cells #[.int .i64 0, .int .i64 0] 123), .put (.tmp 5) (.tmp 9), .put (.tmp 6) (.tmp 11), .put (.tmp 7) (.tmp 13)] (by kernel_rfl) (by kernel_rfl) (by kernel_rfl) rfl (by kernel_rfl) ?hF ?_
  case hF =>
    simp only [FitsL, fit1, true_and, and_true]
    repeat' apply And.intro
    all_goals first | rfl | (simp [Op.operands]; done) | (intro a w; go_simp; done)
  repeat (first | (with_reducible refine wpQ_new ?_) | (with_reducible refine wpQ_put ?_) | (with_reducible refine wpQ_late ?_) | (refine wpQ_step (fun K hK => ?_); go_simp; first | (refine hK _ ?_; clear hK K) | (apply Exists.intro; refine ⟨fun _ => ?_, hK _ ?_⟩; (first | fail); clear hK K)))
  refine wpQ_nil ?_
  simp only [wpN]
  intro ga hga
  intro gb hgb
  have ngbga : ¬ gb = ga := by intro h; subst h; simp [Held.put, Held.nil] at hgb
  have ngagb : ¬ ga = gb := fun h => ngbga h.symm
  intro gc hgc
  have ngcga : ¬ gc = ga := by intro h; subst h; simp [Held.put, Held.nil] at hgc
  have ngagc : ¬ ga = gc := fun h => ngcga h.symm
  have ngcgb : ¬ gc = gb := by intro h; subst h; simp [Held.put, Held.nil] at hgc
  have ngbgc : ¬ gb = gc := fun h => ngcgb h.symm
  simp only [wpP]
  refine ⟨ga, _, by simp [go_sem], by simp [Held.put, Held.nil, ngagb, ngagc, ngbga, ngbgc, ngcga, ngcgb]; rfl, ?hx, ?_⟩
  case hx =>
    intro w' hw'
    have q0 := cell_block (i := 0) hw'; have f0 := free_block (i := 0) hw'
    have q1 := cell_block (i := 1) hw'; have f1 := free_block (i := 1) hw'
    simp at q0 q1
    go_simp
    simp only [upPut]
    refine (Setted.start hw' |>.step 0 _ |>.step 1 _).eq ?_
    simp [wrote, go_sem]
  refine ⟨gb, _, by simp [go_sem], by simp [Held.put, Held.nil, ngagb, ngagc, ngbga, ngbgc, ngcga, ngcgb]; rfl, ?hx, ?_⟩
  case hx =>
    intro w' hw'
    have q0 := cell_block (i := 0) hw'; have f0 := free_block (i := 0) hw'
    have q1 := cell_block (i := 1) hw'; have f1 := free_block (i := 1) hw'
    simp at q0 q1
    go_simp
    simp only [upPut]
    refine (Setted.start hw' |>.step 0 _ |>.step 1 _).eq ?_
    simp [wrote, go_sem]
  refine ⟨gc, _, by simp [go_sem], by simp [Held.put, Held.nil, ngagb, ngagc, ngbga, ngbgc, ngcga, ngcgb]; rfl, ?hx, ?_⟩
  case hx =>
    intro w' hw'
    have q0 := cell_block (i := 0) hw'; have f0 := free_block (i := 0) hw'
    have q1 := cell_block (i := 1) hw'; have f1 := free_block (i := 1) hw'
    simp at q0 q1
    go_simp
    simp only [upPut]
    refine (Setted.start hw' |>.step 0 _ |>.step 1 _).eq ?_
    simp [wrote, go_sem]
  repeat (with_reducible refine wpL_skip (by decide) ?_)
  refine wpL_nil ?_
  intro x1 hin
  obtain ⟨hc1, hc2⟩ := hin gc _ _ (Held.at_self _ _ _ _)
  obtain ⟨hb1, hb2⟩ := hin gb _ _ ((Held.at_ne _ _ _ ngbgc).trans (Held.at_self _ _ _ _))
  obtain ⟨ha1, ha2⟩ := hin ga _ _ ((Held.at_ne _ _ _ ngagc).trans ((Held.at_ne _ _ _ ngagb).trans (Held.at_self _ _ _ _)))
  clear hin hga hgb hgc
  have qa0 := cell_block (i := 0) ha2
  have qa1 := cell_block (i := 1) ha2
  have qb0 := cell_block (i := 0) hb2
  have qb1 := cell_block (i := 1) hb2
  have qc1 := cell_block (i := 1) hc2
  simp [wrote, go_sem] at qa0 qa1 qb0 qb1 qc1
  have la := lt_of_get ha2
  have lb := lt_of_get hb2
  have lc := lt_of_get hc2
  clear ha1 hb1 hc1 ha2 hb2 hc2
  have p0 := (x1.cell w.heap.size 0 (by simp; omega)).trans (by simp [go_sem]; rfl)
  have p1 := (x1.cell w.heap.size 1 (by simp; omega)).trans (by simp [go_sem]; rfl)
  have p3 := (x1.cell w.heap.size 3 (by simp; omega)).trans (by simp [go_sem]; rfl)
  have ln : w.heap.size < x1.val.heap.size := by have := x1.size; simp at this; omega
  have hbw : Below w.heap.size w x1.val := by (repeat' (first | (with_reducible exact Below.refl _ _) | (with_reducible refine Below.alloc ?_ ?_ _) | (with_reducible refine Below.drew ?_) | (with_reducible refine Aft.below _ ?_ ?_) | (with_reducible refine Below.setCell_new ?_ ?_ _ _) | (with_reducible exact Nat.le_refl _) | (with_reducible refine Aft.le _ ?_) | (with_reducible refine le_alloc ?_) | (with_reducible refine le_drew ?_) | (with_reducible refine le_setCell ?_) | omega))
  clear ngagb ngagc ngbgc ngbga ngcga ngcgb
  generalize x1.val = W1 at *
  go_wp2
  go_ret
  exact ⟨rfl, Below.aft hbw⟩

set_option maxRecDepth 100000 in
set_option maxHeartbeats 1600000 in
theorem exact_1 (wd v aw av bw bv cw cv : Int) (hw1 : 1 ≤ wd) (hw2 : wd ≤ 16) (a0 : 0 ≤ av) (a1 : av ≤ 65536) (b0 : 0 ≤ bv) (b1 : bv ≤ 65536) (B : Option Addr) (al bc : Nat) (w : World) :
    Calls Tryd.prog 104 #[.agg #[.int .i64 1, .int .i64 wd, .slice B al bc, .int .i64 v], .agg #[.int .i64 aw, .int .i64 av, .int .i64 bw, .int .i64 bv, .int .i64 cw, .int .i64 cv]] w fun e w' => e = .returned (.int .i64 (v)) ∧ ∃ x : Aft w, w' = x.val := by
  go_enter Tryd.func104, Tryd.ntmps104
  go_wp2_with fail
  refine wp_region_kd [.quiet, .quiet, .quiet, .quiet, .quiet, .quiet, .new (.cells #[.int .i64 0, .int .i64 0] 123), .new (.cells #[.int .i64 0, .int .i64 0] 123), .new (.cells #[.int .i64 0, .int .i64 0] 123), .put (.tmp 5) (.tmp 9), .put (.tmp 6) (.tmp 11), .put (.tmp 7) (.tmp 13)] (by kernel_rfl) (by kernel_rfl) (by kernel_rfl) rfl (by kernel_rfl) ?hF ?_
  case hF =>
    simp only [FitsL, fit1, true_and, and_true]
    repeat' apply And.intro
    all_goals first | rfl | (simp [Op.operands]; done) | (intro a w; go_simp; done)
  repeat (first | (with_reducible refine wpQ_new ?_) | (with_reducible refine wpQ_put ?_) | (with_reducible refine wpQ_late ?_) | (refine wpQ_step (fun K hK => ?_); go_simp; first | (refine hK _ ?_; clear hK K) | (apply Exists.intro; refine ⟨fun _ => ?_, hK _ ?_⟩; (first | fail); clear hK K)))
  refine wpQ_nil ?_
  simp only [wpN]
  intro ga hga
  intro gb hgb
  have ngbga : ¬ gb = ga := by intro h; subst h; simp [Held.put, Held.nil] at hgb
  have ngagb : ¬ ga = gb := fun h => ngbga h.symm
  intro gc hgc
  have ngcga : ¬ gc = ga := by intro h; subst h; simp [Held.put, Held.nil] at hgc
  have ngagc : ¬ ga = gc := fun h => ngcga h.symm
  have ngcgb : ¬ gc = gb := by intro h; subst h; simp [Held.put, Held.nil] at hgc
  have ngbgc : ¬ gb = gc := fun h => ngcgb h.symm
  simp only [wpP]
  refine ⟨ga, _, by simp [go_sem], by simp [Held.put, Held.nil, ngagb, ngagc, ngbga, ngbgc, ngcga, ngcgb]; rfl, ?hx, ?_⟩
  case hx =>
    intro w' hw'
    have q0 := cell_block (i := 0) hw'; have f0 := free_block (i := 0) hw'
    have q1 := cell_block (i := 1) hw'; have f1 := free_block (i := 1) hw'
    simp at q0 q1
    go_simp
    simp only [upPut]
    refine (Setted.start hw' |>.step 0 _ |>.step 1 _).eq ?_
    simp [wrote, go_sem]
  refine ⟨gb, _, by simp [go_sem], by simp [Held.put, Held.nil, ngagb, ngagc, ngbga, ngbgc, ngcga, ngcgb]; rfl, ?hx, ?_⟩
  case hx =>
    intro w' hw'
    have q0 := cell_block (i := 0) hw'; have f0 := free_block (i := 0) hw'
    have q1 := cell_block (i := 1) hw'; have f1 := free_block (i := 1) hw'
    simp at q0 q1
    go_simp
    simp only [upPut]
    refine (Setted.start hw' |>.step 0 _ |>.step 1 _).eq ?_
    simp [wrote, go_sem]
  refine ⟨gc, _, by simp [go_sem], by simp [Held.put, Held.nil, ngagb, ngagc, ngbga, ngbgc, ngcga, ngcgb]; rfl, ?hx, ?_⟩
  case hx =>
    intro w' hw'
    have q0 := cell_block (i := 0) hw'; have f0 := free_block (i := 0) hw'
    have q1 := cell_block (i := 1) hw'; have f1 := free_block (i := 1) hw'
    simp at q0 q1
    go_simp
    simp only [upPut]
    refine (Setted.start hw' |>.step 0 _ |>.step 1 _).eq ?_
    simp [wrote, go_sem]
  repeat (with_reducible refine wpL_skip (by decide) ?_)
  refine wpL_nil ?_
  intro x1 hin
  obtain ⟨hc1, hc2⟩ := hin gc _ _ (Held.at_self _ _ _ _)
  obtain ⟨hb1, hb2⟩ := hin gb _ _ ((Held.at_ne _ _ _ ngbgc).trans (Held.at_self _ _ _ _))
  obtain ⟨ha1, ha2⟩ := hin ga _ _ ((Held.at_ne _ _ _ ngagc).trans ((Held.at_ne _ _ _ ngagb).trans (Held.at_self _ _ _ _)))
  clear hin hga hgb hgc
  have qa0 := cell_block (i := 0) ha2
  have qa1 := cell_block (i := 1) ha2
  have qb0 := cell_block (i := 0) hb2
  have qb1 := cell_block (i := 1) hb2
  have qc1 := cell_block (i := 1) hc2
  simp [wrote, go_sem] at qa0 qa1 qb0 qb1 qc1
  have la := lt_of_get ha2
  have lb := lt_of_get hb2
  have lc := lt_of_get hc2
  clear ha1 hb1 hc1 ha2 hb2 hc2
  have p0 := (x1.cell w.heap.size 0 (by simp; omega)).trans (by simp [go_sem]; rfl)
  have p1 := (x1.cell w.heap.size 1 (by simp; omega)).trans (by simp [go_sem]; rfl)
  have p3 := (x1.cell w.heap.size 3 (by simp; omega)).trans (by simp [go_sem]; rfl)
  have ln : w.heap.size < x1.val.heap.size := by have := x1.size; simp at this; omega
  have hbw : Below w.heap.size w x1.val := by (repeat' (first | (with_reducible exact Below.refl _ _) | (with_reducible refine Below.alloc ?_ ?_ _) | (with_reducible refine Below.drew ?_) | (with_reducible refine Aft.below _ ?_ ?_) | (with_reducible refine Below.setCell_new ?_ ?_ _ _) | (with_reducible exact Nat.le_refl _) | (with_reducible refine Aft.le _ ?_) | (with_reducible refine le_alloc ?_) | (with_reducible refine le_drew ?_) | (with_reducible refine le_setCell ?_) | omega))
  clear ngagb ngagc ngbgc ngbga ngcga ngcgb
  generalize x1.val = W1 at *
  go_wp2
  go_ret
  exact ⟨rfl, Below.aft hbw⟩

set_option maxRecDepth 100000 in
set_option maxHeartbeats 1600000 in
theorem exact_2 (wd v aw av bw bv cw cv : Int) (hw1 : 1 ≤ wd) (hw2 : wd ≤ 16) (a0 : 0 ≤ av) (a1 : av ≤ 65536) (b0 : 0 ≤ bv) (b1 : bv ≤ 65536) (B : Option Addr) (al bc : Nat) (w : World) :
    Calls Tryd.prog 104 #[.agg #[.int .i64 2, .int .i64 wd, .slice B al bc, .int .i64 v], .agg #[.int .i64 aw, .int .i64 av, .int .i64 bw, .int .i64 bv, .int .i64 cw, .int .i64 cv]] w fun e w' => e = .returned (.int .i64 (bits .xor .i64 (-1) av)) ∧ ∃ x : Aft w, w' = x.val := by
  go_enter Tryd.func104, Tryd.ntmps104
  go_wp2_with fail
  refine wp_region_kd [.quiet, .quiet, .quiet, .quiet, .quiet, .quiet, .new (.cells #[.int .i64 0, .int .i64 0] 123), .new (.cells #[.int .i64 0, .int .i64 0] 123), .new (.cells #[.int .i64 0, .int .i64 0] 123), .put (.tmp 5) (.tmp 9), .put (.tmp 6) (.tmp 11), .put (.tmp 7) (.tmp 13)] (by kernel_rfl) (by kernel_rfl) (by kernel_rfl) rfl (by kernel_rfl) ?hF ?_
  case hF =>
    simp only [FitsL, fit1, true_and, and_true]
    repeat' apply And.intro
    all_goals first | rfl | (simp [Op.operands]; done) | (intro a w; go_simp; done)
  repeat (first | (with_reducible refine wpQ_new ?_) | (with_reducible refine wpQ_put ?_) | (with_reducible refine wpQ_late ?_) | (refine wpQ_step (fun K hK => ?_); go_simp; first | (refine hK _ ?_; clear hK K) | (apply Exists.intro; refine ⟨fun _ => ?_, hK _ ?_⟩; (first | fail); clear hK K)))
  refine wpQ_nil ?_
  simp only [wpN]
  intro ga hga
  intro gb hgb
  have ngbga : ¬ gb = ga := by intro h; subst h; simp [Held.put, Held.nil] at hgb
  have ngagb : ¬ ga = gb := fun h => ngbga h.symm
  intro gc hgc
  have ngcga : ¬ gc = ga := by intro h; subst h; simp [Held.put, Held.nil] at hgc
  have ngagc : ¬ ga = gc := fun h => ngcga h.symm
  have ngcgb : ¬ gc = gb := by intro h; subst h; simp [Held.put, Held.nil] at hgc
  have ngbgc : ¬ gb = gc := fun h => ngcgb h.symm
  simp only [wpP]
  refine ⟨ga, _, by simp [go_sem], by simp [Held.put, Held.nil, ngagb, ngagc, ngbga, ngbgc, ngcga, ngcgb]; rfl, ?hx, ?_⟩
  case hx =>
    intro w' hw'
    have q0 := cell_block (i := 0) hw'; have f0 := free_block (i := 0) hw'
    have q1 := cell_block (i := 1) hw'; have f1 := free_block (i := 1) hw'
    simp at q0 q1
    go_simp
    simp only [upPut]
    refine (Setted.start hw' |>.step 0 _ |>.step 1 _).eq ?_
    simp [wrote, go_sem]
  refine ⟨gb, _, by simp [go_sem], by simp [Held.put, Held.nil, ngagb, ngagc, ngbga, ngbgc, ngcga, ngcgb]; rfl, ?hx, ?_⟩
  case hx =>
    intro w' hw'
    have q0 := cell_block (i := 0) hw'; have f0 := free_block (i := 0) hw'
    have q1 := cell_block (i := 1) hw'; have f1 := free_block (i := 1) hw'
    simp at q0 q1
    go_simp
    simp only [upPut]
    refine (Setted.start hw' |>.step 0 _ |>.step 1 _).eq ?_
    simp [wrote, go_sem]
  refine ⟨gc, _, by simp [go_sem], by simp [Held.put, Held.nil, ngagb, ngagc, ngbga, ngbgc, ngcga, ngcgb]; rfl, ?hx, ?_⟩
  case hx =>
    intro w' hw'
    have q0 := cell_block (i := 0) hw'; have f0 := free_block (i := 0) hw'
    have q1 := cell_block (i := 1) hw'; have f1 := free_block (i := 1) hw'
    simp at q0 q1
    go_simp
    simp only [upPut]
    refine (Setted.start hw' |>.step 0 _ |>.step 1 _).eq ?_
    simp [wrote, go_sem]
  repeat (with_reducible refine wpL_skip (by decide) ?_)
  refine wpL_nil ?_
  intro x1 hin
  obtain ⟨hc1, hc2⟩ := hin gc _ _ (Held.at_self _ _ _ _)
  obtain ⟨hb1, hb2⟩ := hin gb _ _ ((Held.at_ne _ _ _ ngbgc).trans (Held.at_self _ _ _ _))
  obtain ⟨ha1, ha2⟩ := hin ga _ _ ((Held.at_ne _ _ _ ngagc).trans ((Held.at_ne _ _ _ ngagb).trans (Held.at_self _ _ _ _)))
  clear hin hga hgb hgc
  have qa0 := cell_block (i := 0) ha2
  have qa1 := cell_block (i := 1) ha2
  have qb0 := cell_block (i := 0) hb2
  have qb1 := cell_block (i := 1) hb2
  have qc1 := cell_block (i := 1) hc2
  simp [wrote, go_sem] at qa0 qa1 qb0 qb1 qc1
  have la := lt_of_get ha2
  have lb := lt_of_get hb2
  have lc := lt_of_get hc2
  clear ha1 hb1 hc1 ha2 hb2 hc2
  have p0 := (x1.cell w.heap.size 0 (by simp; omega)).trans (by simp [go_sem]; rfl)
  have p1 := (x1.cell w.heap.size 1 (by simp; omega)).trans (by simp [go_sem]; rfl)
  have p3 := (x1.cell w.heap.size 3 (by simp; omega)).trans (by simp [go_sem]; rfl)
  have ln : w.heap.size < x1.val.heap.size := by have := x1.size; simp at this; omega
  have hbw : Below w.heap.size w x1.val := by (repeat' (first | (with_reducible exact Below.refl _ _) | (with_reducible refine Below.alloc ?_ ?_ _) | (with_reducible refine Below.drew ?_) | (with_reducible refine Aft.below _ ?_ ?_) | (with_reducible refine Below.setCell_new ?_ ?_ _ _) | (with_reducible exact Nat.le_refl _) | (with_reducible refine Aft.le _ ?_) | (with_reducible refine le_alloc ?_) | (with_reducible refine le_drew ?_) | (with_reducible refine le_setCell ?_) | omega))
  clear ngagb ngagc ngbgc ngbga ngcga ngcgb
  generalize x1.val = W1 at *
  go_wp2
  go_ret
  exact ⟨rfl, Below.aft hbw⟩

set_option maxRecDepth 100000 in
set_option maxHeartbeats 1600000 in
theorem exact_3 (wd v aw av bw bv cw cv : Int) (hw1 : 1 ≤ wd) (hw2 : wd ≤ 16) (a0 : 0 ≤ av) (a1 : av ≤ 65536) (b0 : 0 ≤ bv) (b1 : bv ≤ 65536) (B : Option Addr) (al bc : Nat) (w : World) :
    Calls Tryd.prog 104 #[.agg #[.int .i64 3, .int .i64 wd, .slice B al bc, .int .i64 v], .agg #[.int .i64 aw, .int .i64 av, .int .i64 bw, .int .i64 bv, .int .i64 cw, .int .i64 cv]] w fun e w' => e = .returned (.int .i64 (bits .and .i64 av bv)) ∧ ∃ x : Aft w, w' = x.val := by
  go_enter Tryd.func104, Tryd.ntmps104
  go_wp2_with fail
  refine wp_region_kd [.quiet, .quiet, .quiet, .quiet, .quiet, .quiet, .new (.cells #[.int .i64 0, .int .i64 0] 123), .new (.cells #[.int .i64 0, .int .i64 0] 123), .new (.cells #[.int .i64 0, .int .i64 0] 123), .put (.tmp 5) (.tmp 9), .put (.tmp 6) (.tmp 11), .put (.tmp 7) (.tmp 13)] (by kernel_rfl) (by kernel_rfl) (by kernel_rfl) rfl (by kernel_rfl) ?hF ?_
  case hF =>
    simp only [FitsL, fit1, true_and, and_true]
    repeat' apply And.intro
    all_goals first | rfl | (simp [Op.operands]; done) | (intro a w; go_simp; done)
  repeat (first | (with_reducible refine wpQ_new ?_) | (with_reducible refine wpQ_put ?_) | (with_reducible refine wpQ_late ?_) | (refine wpQ_step (fun K hK => ?_); go_simp; first | (refine hK _ ?_; clear hK K) | (apply Exists.intro; refine ⟨fun _ => ?_, hK _ ?_⟩; (first | fail); clear hK K)))
  refine wpQ_nil ?_
  simp only [wpN]
  intro ga hga
  intro gb hgb
  have ngbga : ¬ gb = ga := by intro h; subst h; simp [Held.put, Held.nil] at hgb
  have ngagb : ¬ ga = gb := fun h => ngbga h.symm
  intro gc hgc
  have ngcga : ¬ gc = ga := by intro h; subst h; simp [Held.put, Held.nil] at hgc
  have ngagc : ¬ ga = gc := fun h => ngcga h.symm
  have ngcgb : ¬ gc = gb := by intro h; subst h; simp [Held.put, Held.nil] at hgc
  have ngbgc : ¬ gb = gc := fun h => ngcgb h.symm
  simp only [wpP]
  refine ⟨ga, _, by simp [go_sem], by simp [Held.put, Held.nil, ngagb, ngagc, ngbga, ngbgc, ngcga, ngcgb]; rfl, ?hx, ?_⟩
  case hx =>
    intro w' hw'
    have q0 := cell_block (i := 0) hw'; have f0 := free_block (i := 0) hw'
    have q1 := cell_block (i := 1) hw'; have f1 := free_block (i := 1) hw'
    simp at q0 q1
    go_simp
    simp only [upPut]
    refine (Setted.start hw' |>.step 0 _ |>.step 1 _).eq ?_
    simp [wrote, go_sem]
  refine ⟨gb, _, by simp [go_sem], by simp [Held.put, Held.nil, ngagb, ngagc, ngbga, ngbgc, ngcga, ngcgb]; rfl, ?hx, ?_⟩
  case hx =>
    intro w' hw'
    have q0 := cell_block (i := 0) hw'; have f0 := free_block (i := 0) hw'
    have q1 := cell_block (i := 1) hw'; have f1 := free_block (i := 1) hw'
    simp at q0 q1
    go_simp
    simp only [upPut]
    refine (Setted.start hw' |>.step 0 _ |>.step 1 _).eq ?_
    simp [wrote, go_sem]
  refine ⟨gc, _, by simp [go_sem], by simp [Held.put, Held.nil, ngagb, ngagc, ngbga, ngbgc, ngcga, ngcgb]; rfl, ?hx, ?_⟩
  case hx =>
    intro w' hw'
    have q0 := cell_block (i := 0) hw'; have f0 := free_block (i := 0) hw'
    have q1 := cell_block (i := 1) hw'; have f1 := free_block (i := 1) hw'
    simp at q0 q1
    go_simp
    simp only [upPut]
    refine (Setted.start hw' |>.step 0 _ |>.step 1 _).eq ?_
    simp [wrote, go_sem]
  repeat (with_reducible refine wpL_skip (by decide) ?_)
  refine wpL_nil ?_
  intro x1 hin
  obtain ⟨hc1, hc2⟩ := hin gc _ _ (Held.at_self _ _ _ _)
  obtain ⟨hb1, hb2⟩ := hin gb _ _ ((Held.at_ne _ _ _ ngbgc).trans (Held.at_self _ _ _ _))
  obtain ⟨ha1, ha2⟩ := hin ga _ _ ((Held.at_ne _ _ _ ngagc).trans ((Held.at_ne _ _ _ ngagb).trans (Held.at_self _ _ _ _)))
  clear hin hga hgb hgc
  have qa0 := cell_block (i := 0) ha2
  have qa1 := cell_block (i := 1) ha2
  have qb0 := cell_block (i := 0) hb2
  have qb1 := cell_block (i := 1) hb2
  have qc1 := cell_block (i := 1) hc2
  simp [wrote, go_sem] at qa0 qa1 qb0 qb1 qc1
  have la := lt_of_get ha2
  have lb := lt_of_get hb2
  have lc := lt_of_get hc2
  clear ha1 hb1 hc1 ha2 hb2 hc2
  have p0 := (x1.cell w.heap.size 0 (by simp; omega)).trans (by simp [go_sem]; rfl)
  have p1 := (x1.cell w.heap.size 1 (by simp; omega)).trans (by simp [go_sem]; rfl)
  have p3 := (x1.cell w.heap.size 3 (by simp; omega)).trans (by simp [go_sem]; rfl)
  have ln : w.heap.size < x1.val.heap.size := by have := x1.size; simp at this; omega
  have hbw : Below w.heap.size w x1.val := by (repeat' (first | (with_reducible exact Below.refl _ _) | (with_reducible refine Below.alloc ?_ ?_ _) | (with_reducible refine Below.drew ?_) | (with_reducible refine Aft.below _ ?_ ?_) | (with_reducible refine Below.setCell_new ?_ ?_ _ _) | (with_reducible exact Nat.le_refl _) | (with_reducible refine Aft.le _ ?_) | (with_reducible refine le_alloc ?_) | (with_reducible refine le_drew ?_) | (with_reducible refine le_setCell ?_) | omega))
  clear ngagb ngagc ngbgc ngbga ngcga ngcgb
  generalize x1.val = W1 at *
  go_wp2
  go_ret
  exact ⟨rfl, Below.aft hbw⟩

set_option maxRecDepth 100000 in
set_option maxHeartbeats 1600000 in
theorem exact_4 (wd v aw av bw bv cw cv : Int) (hw1 : 1 ≤ wd) (hw2 : wd ≤ 16) (a0 : 0 ≤ av) (a1 : av ≤ 65536) (b0 : 0 ≤ bv) (b1 : bv ≤ 65536) (B : Option Addr) (al bc : Nat) (w : World) :
    Calls Tryd.prog 104 #[.agg #[.int .i64 4, .int .i64 wd, .slice B al bc, .int .i64 v], .agg #[.int .i64 aw, .int .i64 av, .int .i64 bw, .int .i64 bv, .int .i64 cw, .int .i64 cv]] w fun e w' => e = .returned (.int .i64 (bits .or .i64 av bv)) ∧ ∃ x : Aft w, w' = x.val := by
  go_enter Tryd.func104, Tryd.ntmps104
  go_wp2_with fail
  refine wp_region_kd [.quiet, .quiet, .quiet, .quiet, .quiet, .quiet, .new (.cells #[.int .i64 0, .int .i64 0] 123), .new (.cells #[.int .i64 0, .int .i64 0] 123), .new (.cells #[.int .i64 0, .int .i64 0] 123), .put (.tmp 5) (.tmp 9), .put (.tmp 6) (.tmp 11), .put (.tmp 7) (.tmp 13)] (by kernel_rfl) (by kernel_rfl) (by kernel_rfl) rfl (by kernel_rfl) ?hF ?_
  case hF =>
    simp only [FitsL, fit1, true_and, and_true]
    repeat' apply And.intro
    all_goals first | rfl | (simp [Op.operands]; done) | (intro a w; go_simp; done)
  repeat (first | (with_reducible refine wpQ_new ?_) | (with_reducible refine wpQ_put ?_) | (with_reducible refine wpQ_late ?_) | (refine wpQ_step (fun K hK => ?_); go_simp; first | (refine hK _ ?_; clear hK K) | (apply Exists.intro; refine ⟨fun _ => ?_, hK _ ?_⟩; (first | fail); clear hK K)))
  refine wpQ_nil ?_
  simp only [wpN]
  intro ga hga
  intro gb hgb
  have ngbga : ¬ gb = ga := by intro h; subst h; simp [Held.put, Held.nil] at hgb
  have ngagb : ¬ ga = gb := fun h => ngbga h.symm
  intro gc hgc
  have ngcga : ¬ gc = ga := by intro h; subst h; simp [Held.put, Held.nil] at hgc
  have ngagc : ¬ ga = gc := fun h => ngcga h.symm
  have ngcgb : ¬ gc = gb := by intro h; subst h; simp [Held.put, Held.nil] at hgc
  have ngbgc : ¬ gb = gc := fun h => ngcgb h.symm
  simp only [wpP]
  refine ⟨ga, _, by simp [go_sem], by simp [Held.put, Held.nil, ngagb, ngagc, ngbga, ngbgc, ngcga, ngcgb]; rfl, ?hx, ?_⟩
  case hx =>
    intro w' hw'
    have q0 := cell_block (i := 0) hw'; have f0 := free_block (i := 0) hw'
    have q1 := cell_block (i := 1) hw'; have f1 := free_block (i := 1) hw'
    simp at q0 q1
    go_simp
    simp only [upPut]
    refine (Setted.start hw' |>.step 0 _ |>.step 1 _).eq ?_
    simp [wrote, go_sem]
  refine ⟨gb, _, by simp [go_sem], by simp [Held.put, Held.nil, ngagb, ngagc, ngbga, ngbgc, ngcga, ngcgb]; rfl, ?hx, ?_⟩
  case hx =>
    intro w' hw'
    have q0 := cell_block (i := 0) hw'; have f0 := free_block (i := 0) hw'
    have q1 := cell_block (i := 1) hw'; have f1 := free_block (i := 1) hw'
    simp at q0 q1
    go_simp
    simp only [upPut]
    refine (Setted.start hw' |>.step 0 _ |>.step 1 _).eq ?_
    simp [wrote, go_sem]
  refine ⟨gc, _, by simp [go_sem], by simp [Held.put, Held.nil, ngagb, ngagc, ngbga, ngbgc, ngcga, ngcgb]; rfl, ?hx, ?_⟩
  case hx =>
    intro w' hw'
    have q0 := cell_block (i := 0) hw'; have f0 := free_block (i := 0) hw'
    have q1 := cell_block (i := 1) hw'; have f1 := free_block (i := 1) hw'
    simp at q0 q1
    go_simp
    simp only [upPut]
    refine (Setted.start hw' |>.step 0 _ |>.step 1 _).eq ?_
    simp [wrote, go_sem]
  repeat (with_reducible refine wpL_skip (by decide) ?_)
  refine wpL_nil ?_
  intro x1 hin
  obtain ⟨hc1, hc2⟩ := hin gc _ _ (Held.at_self _ _ _ _)
  obtain ⟨hb1, hb2⟩ := hin gb _ _ ((Held.at_ne _ _ _ ngbgc).trans (Held.at_self _ _ _ _))
  obtain ⟨ha1, ha2⟩ := hin ga _ _ ((Held.at_ne _ _ _ ngagc).trans ((Held.at_ne _ _ _ ngagb).trans (Held.at_self _ _ _ _)))
  clear hin hga hgb hgc
  have qa0 := cell_block (i := 0) ha2
  have qa1 := cell_block (i := 1) ha2
  have qb0 := cell_block (i := 0) hb2
  have qb1 := cell_block (i := 1) hb2
  have qc1 := cell_block (i := 1) hc2
  simp [wrote, go_sem] at qa0 qa1 qb0 qb1 qc1
  have la := lt_of_get ha2
  have lb := lt_of_get hb2
  have lc := lt_of_get hc2
  clear ha1 hb1 hc1 ha2 hb2 hc2
  have p0 := (x1.cell w.heap.size 0 (by simp; omega)).trans (by simp [go_sem]; rfl)
  have p1 := (x1.cell w.heap.size 1 (by simp; omega)).trans (by simp [go_sem]; rfl)
  have p3 := (x1.cell w.heap.size 3 (by simp; omega)).trans (by simp [go_sem]; rfl)
  have ln : w.heap.size < x1.val.heap.size := by have := x1.size; simp at this; omega
  have hbw : Below w.heap.size w x1.val := by (repeat' (first | (with_reducible exact Below.refl _ _) | (with_reducible refine Below.alloc ?_ ?_ _) | (with_reducible refine Below.drew ?_) | (with_reducible refine Aft.below _ ?_ ?_) | (with_reducible refine Below.setCell_new ?_ ?_ _ _) | (with_reducible exact Nat.le_refl _) | (with_reducible refine Aft.le _ ?_) | (with_reducible refine le_alloc ?_) | (with_reducible refine le_drew ?_) | (with_reducible refine le_setCell ?_) | omega))
  clear ngagb ngagc ngbgc ngbga ngcga ngcgb
  generalize x1.val = W1 at *
  go_wp2
  go_ret
  exact ⟨rfl, Below.aft hbw⟩

set_option maxRecDepth 100000 in
set_option maxHeartbeats 1600000 in
theorem exact_5 (wd v aw av bw bv cw cv : Int) (hw1 : 1 ≤ wd) (hw2 : wd ≤ 16) (a0 : 0 ≤ av) (a1 : av ≤ 65536) (b0 : 0 ≤ bv) (b1 : bv ≤ 65536) (B : Option Addr) (al bc : Nat) (w : World) :
    Calls Tryd.prog 104 #[.agg #[.int .i64 5, .int .i64 wd, .slice B al bc, .int .i64 v], .agg #[.int .i64 aw, .int .i64 av, .int .i64 bw, .int .i64 bv, .int .i64 cw, .int .i64 cv]] w fun e w' => e = .returned (.int .i64 (bits .xor .i64 av bv)) ∧ ∃ x : Aft w, w' = x.val := by
  go_enter Tryd.func104, Tryd.ntmps104
  go_wp2_with fail
  refine wp_region_kd [.quiet, .quiet, .quiet, .quiet, .quiet, .quiet, .new (.cells #[.int .i64 0, .int .i64 0] 123), .new (.cells #[.int .i64 0, .int .i64 0] 123), .new (.cells #[.int .i64 0, .int .i64 0] 123), .put (.tmp 5) (.tmp 9), .put (.tmp 6) (.tmp 11), .put (.tmp 7) (.tmp 13)] (by kernel_rfl) (by kernel_rfl) (by kernel_rfl) rfl (by kernel_rfl) ?hF ?_
  case hF =>
    simp only [FitsL, fit1, true_and, and_true]
    repeat' apply And.intro
    all_goals first | rfl | (simp [Op.operands]; done) | (intro a w; go_simp; done)
  repeat (first | (with_reducible refine wpQ_new ?_) | (with_reducible refine wpQ_put ?_) | (with_reducible refine wpQ_late ?_) | (refine wpQ_step (fun K hK => ?_); go_simp; first | (refine hK _ ?_; clear hK K) | (apply Exists.intro; refine ⟨fun _ => ?_, hK _ ?_⟩; (first | fail); clear hK K)))
  refine wpQ_nil ?_
  simp only [wpN]
  intro ga hga
  intro gb hgb
  have ngbga : ¬ gb = ga := by intro h; subst h; simp [Held.put, Held.nil] at hgb
  have ngagb : ¬ ga = gb := fun h => ngbga h.symm
  intro gc hgc
  have ngcga : ¬ gc = ga := by intro h; subst h; simp [Held.put, Held.nil] at hgc
  have ngagc : ¬ ga = gc := fun h => ngcga h.symm
  have ngcgb : ¬ gc = gb := by intro h; subst h; simp [Held.put, Held.nil] at hgc
  have ngbgc : ¬ gb = gc := fun h => ngcgb h.symm
  simp only [wpP]
  refine ⟨ga, _, by simp [go_sem], by simp [Held.put, Held.nil, ngagb, ngagc, ngbga, ngbgc, ngcga, ngcgb]; rfl, ?hx, ?_⟩
  case hx =>
    intro w' hw'
    have q0 := cell_block (i := 0) hw'; have f0 := free_block (i := 0) hw'
    have q1 := cell_block (i := 1) hw'; have f1 := free_block (i := 1) hw'
    simp at q0 q1
    go_simp
    simp only [upPut]
    refine (Setted.start hw' |>.step 0 _ |>.step 1 _).eq ?_
    simp [wrote, go_sem]
  refine ⟨gb, _, by simp [go_sem], by simp [Held.put, Held.nil, ngagb, ngagc, ngbga, ngbgc, ngcga, ngcgb]; rfl, ?hx, ?_⟩
  case hx =>
    intro w' hw'
    have q0 := cell_block (i := 0) hw'; have f0 := free_block (i := 0) hw'
    have q1 := cell_block (i := 1) hw'; have f1 := free_block (i := 1) hw'
    simp at q0 q1
    go_simp
    simp only [upPut]
    refine (Setted.start hw' |>.step 0 _ |>.step 1 _).eq ?_
    simp [wrote, go_sem]
  refine ⟨gc, _, by simp [go_sem], by simp [Held.put, Held.nil, ngagb, ngagc, ngbga, ngbgc, ngcga, ngcgb]; rfl, ?hx, ?_⟩
  case hx =>
    intro w' hw'
    have q0 := cell_block (i := 0) hw'; have f0 := free_block (i := 0) hw'
    have q1 := cell_block (i := 1) hw'; have f1 := free_block (i := 1) hw'
    simp at q0 q1
    go_simp
    simp only [upPut]
    refine (Setted.start hw' |>.step 0 _ |>.step 1 _).eq ?_
    simp [wrote, go_sem]
  repeat (with_reducible refine wpL_skip (by decide) ?_)
  refine wpL_nil ?_
  intro x1 hin
  obtain ⟨hc1, hc2⟩ := hin gc _ _ (Held.at_self _ _ _ _)
  obtain ⟨hb1, hb2⟩ := hin gb _ _ ((Held.at_ne _ _ _ ngbgc).trans (Held.at_self _ _ _ _))
  obtain ⟨ha1, ha2⟩ := hin ga _ _ ((Held.at_ne _ _ _ ngagc).trans ((Held.at_ne _ _ _ ngagb).trans (Held.at_self _ _ _ _)))
  clear hin hga hgb hgc
  have qa0 := cell_block (i := 0) ha2
  have qa1 := cell_block (i := 1) ha2
  have qb0 := cell_block (i := 0) hb2
  have qb1 := cell_block (i := 1) hb2
  have qc1 := cell_block (i := 1) hc2
  simp [wrote, go_sem] at qa0 qa1 qb0 qb1 qc1
  have la := lt_of_get ha2
  have lb := lt_of_get hb2
  have lc := lt_of_get hc2
  clear ha1 hb1 hc1 ha2 hb2 hc2
  have p0 := (x1.cell w.heap.size 0 (by simp; omega)).trans (by simp [go_sem]; rfl)
  have p1 := (x1.cell w.heap.size 1 (by simp; omega)).trans (by simp [go_sem]; rfl)
  have p3 := (x1.cell w.heap.size 3 (by simp; omega)).trans (by simp [go_sem]; rfl)
  have ln : w.heap.size < x1.val.heap.size := by have := x1.size; simp at this; omega
  have hbw : Below w.heap.size w x1.val := by (repeat' (first | (with_reducible exact Below.refl _ _) | (with_reducible refine Below.alloc ?_ ?_ _) | (with_reducible refine Below.drew ?_) | (with_reducible refine Aft.below _ ?_ ?_) | (with_reducible refine Below.setCell_new ?_ ?_ _ _) | (with_reducible exact Nat.le_refl _) | (with_reducible refine Aft.le _ ?_) | (with_reducible refine le_alloc ?_) | (with_reducible refine le_drew ?_) | (with_reducible refine le_setCell ?_) | omega))
  clear ngagb ngagc ngbgc ngbga ngcga ngcgb
  generalize x1.val = W1 at *
  go_wp2
  go_ret
  exact ⟨rfl, Below.aft hbw⟩

set_option maxRecDepth 100000 in
set_option maxHeartbeats 1600000 in
theorem exact_6 (wd v aw av bw bv cw cv : Int) (hw1 : 1 ≤ wd) (hw2 : wd ≤ 16) (a0 : 0 ≤ av) (a1 : av ≤ 65536) (b0 : 0 ≤ bv) (b1 : bv ≤ 65536) (B : Option Addr) (al bc : Nat) (w : World) :
    Calls Tryd.prog 104 #[.agg #[.int .i64 6, .int .i64 wd, .slice B al bc, .int .i64 v], .agg #[.int .i64 aw, .int .i64 av, .int .i64 bw, .int .i64 bv, .int .i64 cw, .int .i64 cv]] w fun e w' => e = .returned (.int .i64 (av + bv)) ∧ ∃ x : Aft w, w' = x.val := by
  go_enter Tryd.func104, Tryd.ntmps104
  go_wp2_with fail
  refine wp_region_kd [.quiet, .quiet, .quiet, .quiet, .quiet, .quiet, .new (.cells #[.int .i64 0, .int .i64 0] 123), .new (.cells #[.int .i64 0, .int .i64 0] 123), .new (.cells #[.int .i64 0, .int .i64 0] 123), .put (.tmp 5) (.tmp 9), .put (.tmp 6) (.tmp 11), .put (.tmp 7) (.tmp 13)] (by kernel_rfl) (by kernel_rfl) (by kernel_rfl) rfl (by kernel_rfl) ?hF ?_
  case hF =>
    simp only [FitsL, fit1, true_and, and_true]
    repeat' apply And.intro
    all_goals first | rfl | (simp [Op.operands]; done) | (intro a w; go_simp; done)
  repeat (first | (with_reducible refine wpQ_new ?_) | (with_reducible refine wpQ_put ?_) | (with_reducible refine wpQ_late ?_) | (refine wpQ_step (fun K hK => ?_); go_simp; first | (refine hK _ ?_; clear hK K) | (apply Exists.intro; refine ⟨fun _ => ?_, hK _ ?_⟩; (first | fail); clear hK K)))
  refine wpQ_nil ?_
  simp only [wpN]
  intro ga hga
  intro gb hgb
  have ngbga : ¬ gb = ga := by intro h; subst h; simp [Held.put, Held.nil] at hgb
  have ngagb : ¬ ga = gb := fun h => ngbga h.symm
  intro gc hgc
  have ngcga : ¬ gc = ga := by intro h; subst h; simp [Held.put, Held.nil] at hgc
  have ngagc : ¬ ga = gc := fun h => ngcga h.symm
  have ngcgb : ¬ gc = gb := by intro h; subst h; simp [Held.put, Held.nil] at hgc
  have ngbgc : ¬ gb = gc := fun h => ngcgb h.symm
  simp only [wpP]
  refine ⟨ga, _, by simp [go_sem], by simp [Held.put, Held.nil, ngagb, ngagc, ngbga, ngbgc, ngcga, ngcgb]; rfl, ?hx, ?_⟩
  case hx =>
    intro w' hw'
    have q0 := cell_block (i := 0) hw'; have f0 := free_block (i := 0) hw'
    have q1 := cell_block (i := 1) hw'; have f1 := free_block (i := 1) hw'
    simp at q0 q1
    go_simp
    simp only [upPut]
    refine (Setted.start hw' |>.step 0 _ |>.step 1 _).eq ?_
    simp [wrote, go_sem]
  refine ⟨gb, _, by simp [go_sem], by simp [Held.put, Held.nil, ngagb, ngagc, ngbga, ngbgc, ngcga, ngcgb]; rfl, ?hx, ?_⟩
  case hx =>
    intro w' hw'
    have q0 := cell_block (i := 0) hw'; have f0 := free_block (i := 0) hw'
    have q1 := cell_block (i := 1) hw'; have f1 := free_block (i := 1) hw'
    simp at q0 q1
    go_simp
    simp only [upPut]
    refine (Setted.start hw' |>.step 0 _ |>.step 1 _).eq ?_
    simp [wrote, go_sem]
  refine ⟨gc, _, by simp [go_sem], by simp [Held.put, Held.nil, ngagb, ngagc, ngbga, ngbgc, ngcga, ngcgb]; rfl, ?hx, ?_⟩
  case hx =>
    intro w' hw'
    have q0 := cell_block (i := 0) hw'; have f0 := free_block (i := 0) hw'
    have q1 := cell_block (i := 1) hw'; have f1 := free_block (i := 1) hw'
    simp at q0 q1
    go_simp
    simp only [upPut]
    refine (Setted.start hw' |>.step 0 _ |>.step 1 _).eq ?_
    simp [wrote, go_sem]
  repeat (with_reducible refine wpL_skip (by decide) ?_)
  refine wpL_nil ?_
  intro x1 hin
  obtain ⟨hc1, hc2⟩ := hin gc _ _ (Held.at_self _ _ _ _)
  obtain ⟨hb1, hb2⟩ := hin gb _ _ ((Held.at_ne _ _ _ ngbgc).trans (Held.at_self _ _ _ _))
  obtain ⟨ha1, ha2⟩ := hin ga _ _ ((Held.at_ne _ _ _ ngagc).trans ((Held.at_ne _ _ _ ngagb).trans (Held.at_self _ _ _ _)))
  clear hin hga hgb hgc
  have qa0 := cell_block (i := 0) ha2
  have qa1 := cell_block (i := 1) ha2
  have qb0 := cell_block (i := 0) hb2
  have qb1 := cell_block (i := 1) hb2
  have qc1 := cell_block (i := 1) hc2
  simp [wrote, go_sem] at qa0 qa1 qb0 qb1 qc1
  have la := lt_of_get ha2
  have lb := lt_of_get hb2
  have lc := lt_of_get hc2
  clear ha1 hb1 hc1 ha2 hb2 hc2
  have p0 := (x1.cell w.heap.size 0 (by simp; omega)).trans (by simp [go_sem]; rfl)
  have p1 := (x1.cell w.heap.size 1 (by simp; omega)).trans (by simp [go_sem]; rfl)
  have p3 := (x1.cell w.heap.size 3 (by simp; omega)).trans (by simp [go_sem]; rfl)
  have ln : w.heap.size < x1.val.heap.size := by have := x1.size; simp at this; omega
  have hbw : Below w.heap.size w x1.val := by (repeat' (first | (with_reducible exact Below.refl _ _) | (with_reducible refine Below.alloc ?_ ?_ _) | (with_reducible refine Below.drew ?_) | (with_reducible refine Aft.below _ ?_ ?_) | (with_reducible refine Below.setCell_new ?_ ?_ _ _) | (with_reducible exact Nat.le_refl _) | (with_reducible refine Aft.le _ ?_) | (with_reducible refine le_alloc ?_) | (with_reducible refine le_drew ?_) | (with_reducible refine le_setCell ?_) | omega))
  clear ngagb ngagc ngbgc ngbga ngcga ngcgb
  generalize x1.val = W1 at *
  go_wp2
  go_ret
  exact ⟨rfl, Below.aft hbw⟩

set_option maxRecDepth 100000 in
set_option maxHeartbeats 1600000 in
theorem exact_7 (wd v aw av bw bv cw cv : Int) (hw1 : 1 ≤ wd) (hw2 : wd ≤ 16) (a0 : 0 ≤ av) (a1 : av ≤ 65536) (b0 : 0 ≤ bv) (b1 : bv ≤ 65536) (B : Option Addr) (al bc : Nat) (w : World) :
    Calls Tryd.prog 104 #[.agg #[.int .i64 7, .int .i64 wd, .slice B al bc, .int .i64 v], .agg #[.int .i64 aw, .int .i64 av, .int .i64 bw, .int .i64 bv, .int .i64 cw, .int .i64 cv]] w fun e w' => e = .returned (.int .i64 (av - bv)) ∧ ∃ x : Aft w, w' = x.val := by
  go_enter Tryd.func104, Tryd.ntmps104
  go_wp2_with fail
  refine wp_region_kd [.quiet, .quiet, .quiet, .quiet, .quiet, .quiet, .new (.cells #[.int .i64 0, .int .i64 0] 123), .new (.cells #[.int .i64 0, .int .i64 0] 123), .new (.cells #[.int .i64 0, .int .i64 0] 123), .put (.tmp 5) (.tmp 9), .put (.tmp 6) (.tmp 11), .put (.tmp 7) (.tmp 13)] (by kernel_rfl) (by kernel_rfl) (by kernel_rfl) rfl (by kernel_rfl) ?hF ?_
  case hF =>
    simp only [FitsL, fit1, true_and, and_true]
    repeat' apply And.intro
    all_goals first | rfl | (simp [Op.operands]; done) | (intro a w; go_simp; done)
  repeat (first | (with_reducible refine wpQ_new ?_) | (with_reducible refine wpQ_put ?_) | (with_reducible refine wpQ_late ?_) | (refine wpQ_step (fun K hK => ?_); go_simp; first | (refine hK _ ?_; clear hK K) | (apply Exists.intro; refine ⟨fun _ => ?_, hK _ ?_⟩; (first | fail); clear hK K)))
  refine wpQ_nil ?_
  simp only [wpN]
  intro ga hga
  intro gb hgb
  have ngbga : ¬ gb = ga := by intro h; subst h; simp [Held.put, Held.nil] at hgb
  have ngagb : ¬ ga = gb := fun h => ngbga h.symm
  intro gc hgc
  have ngcga : ¬ gc = ga := by intro h; subst h; simp [Held.put, Held.nil] at hgc
  have ngagc : ¬ ga = gc := fun h => ngcga h.symm
  have ngcgb : ¬ gc = gb := by intro h; subst h; simp [Held.put, Held.nil] at hgc
  have ngbgc : ¬ gb = gc := fun h => ngcgb h.symm
  simp only [wpP]
  refine ⟨ga, _, by simp [go_sem], by simp [Held.put, Held.nil, ngagb, ngagc, ngbga, ngbgc, ngcga, ngcgb]; rfl, ?hx, ?_⟩
  case hx =>
    intro w' hw'
    have q0 := cell_block (i := 0) hw'; have f0 := free_block (i := 0) hw'
    have q1 := cell_block (i := 1) hw'; have f1 := free_block (i := 1) hw'
    simp at q0 q1
    go_simp
    simp only [upPut]
    refine (Setted.start hw' |>.step 0 _ |>.step 1 _).eq ?_
    simp [wrote, go_sem]
  refine ⟨gb, _, by simp [go_sem], by simp [Held.put, Held.nil, ngagb, ngagc, ngbga, ngbgc, ngcga, ngcgb]; rfl, ?hx, ?_⟩
  case hx =>
    intro w' hw'
    have q0 := cell_block (i := 0) hw'; have f0 := free_block (i := 0) hw'
    have q1 := cell_block (i := 1) hw'; have f1 := free_block (i := 1) hw'
    simp at q0 q1
    go_simp
    simp only [upPut]
    refine (Setted.start hw' |>.step 0 _ |>.step 1 _).eq ?_
    simp [wrote, go_sem]
  refine ⟨gc, _, by simp [go_sem], by simp [Held.put, Held.nil, ngagb, ngagc, ngbga, ngbgc, ngcga, ngcgb]; rfl, ?hx, ?_⟩
  case hx =>
    intro w' hw'
    have q0 := cell_block (i := 0) hw'; have f0 := free_block (i := 0) hw'
    have q1 := cell_block (i := 1) hw'; have f1 := free_block (i := 1) hw'
    simp at q0 q1
    go_simp
    simp only [upPut]
    refine (Setted.start hw' |>.step 0 _ |>.step 1 _).eq ?_
    simp [wrote, go_sem]
  repeat (with_reducible refine wpL_skip (by decide) ?_)
  refine wpL_nil ?_
  intro x1 hin
  obtain ⟨hc1, hc2⟩ := hin gc _ _ (Held.at_self _ _ _ _)
  obtain ⟨hb1, hb2⟩ := hin gb _ _ ((Held.at_ne _ _ _ ngbgc).trans (Held.at_self _ _ _ _))
  obtain ⟨ha1, ha2⟩ := hin ga _ _ ((Held.at_ne _ _ _ ngagc).trans ((Held.at_ne _ _ _ ngagb).trans (Held.at_self _ _ _ _)))
  clear hin hga hgb hgc
  have qa0 := cell_block (i := 0) ha2
  have qa1 := cell_block (i := 1) ha2
  have qb0 := cell_block (i := 0) hb2
  have qb1 := cell_block (i := 1) hb2
  have qc1 := cell_block (i := 1) hc2
  simp [wrote, go_sem] at qa0 qa1 qb0 qb1 qc1
  have la := lt_of_get ha2
  have lb := lt_of_get hb2
  have lc := lt_of_get hc2
  clear ha1 hb1 hc1 ha2 hb2 hc2
  have p0 := (x1.cell w.heap.size 0 (by simp; omega)).trans (by simp [go_sem]; rfl)
  have p1 := (x1.cell w.heap.size 1 (by simp; omega)).trans (by simp [go_sem]; rfl)
  have p3 := (x1.cell w.heap.size 3 (by simp; omega)).trans (by simp [go_sem]; rfl)
  have ln : w.heap.size < x1.val.heap.size := by have := x1.size; simp at this; omega
  have hbw : Below w.heap.size w x1.val := by (repeat' (first | (with_reducible exact Below.refl _ _) | (with_reducible refine Below.alloc ?_ ?_ _) | (with_reducible refine Below.drew ?_) | (with_reducible refine Aft.below _ ?_ ?_) | (with_reducible refine Below.setCell_new ?_ ?_ _ _) | (with_reducible exact Nat.le_refl _) | (with_reducible refine Aft.le _ ?_) | (with_reducible refine le_alloc ?_) | (with_reducible refine le_drew ?_) | (with_reducible refine le_setCell ?_) | omega))
  clear ngagb ngagc ngbgc ngbga ngcga ngcgb
  generalize x1.val = W1 at *
  go_wp2
  go_ret
  exact ⟨rfl, Below.aft hbw⟩

set_option maxRecDepth 100000 in
set_option maxHeartbeats 1600000 in
theorem exact_8 (wd v aw av bw bv cw cv : Int) (hw1 : 1 ≤ wd) (hw2 : wd ≤ 16) (a0 : 0 ≤ av) (a1 : av ≤ 65536) (b0 : 0 ≤ bv) (b1 : bv ≤ 65536) (hm : -9223372036854775808 ≤ av * bv ∧ av * bv ≤ 9223372036854775807) (B : Option Addr) (al bc : Nat) (w : World) :
    Calls Tryd.prog 104 #[.agg #[.int .i64 8, .int .i64 wd, .slice B al bc, .int .i64 v], .agg #[.int .i64 aw, .int .i64 av, .int .i64 bw, .int .i64 bv, .int .i64 cw, .int .i64 cv]] w fun e w' => e = .returned (.int .i64 (av * bv)) ∧ ∃ x : Aft w, w' = x.val := by
  go_enter Tryd.func104, Tryd.ntmps104
  go_wp2_with fail
  refine wp_region_kd [.quiet, .quiet, .quiet, .quiet, .quiet, .quiet, .new (.cells #[.int .i64 0, .int .i64 0] 123), .new (.cells #[.int .i64 0, .int .i64 0] 123), .new (.cells #[.int .i64 0, .int .i64 0] 123), .put (.tmp 5) (.tmp 9), .put (.tmp 6) (.tmp 11), .put (.tmp 7) (.tmp 13)] (by kernel_rfl) (by kernel_rfl) (by kernel_rfl) rfl (by kernel_rfl) ?hF ?_
  case hF =>
    simp only [FitsL, fit1, true_and, and_true]
    repeat' apply And.intro
    all_goals first | rfl | (simp [Op.operands]; done) | (intro a w; go_simp; done)
  repeat (first | (with_reducible refine wpQ_new ?_) | (with_reducible refine wpQ_put ?_) | (with_reducible refine wpQ_late ?_) | (refine wpQ_step (fun K hK => ?_); go_simp; first | (refine hK _ ?_; clear hK K) | (apply Exists.intro; refine ⟨fun _ => ?_, hK _ ?_⟩; (first | fail); clear hK K)))
  refine wpQ_nil ?_
  simp only [wpN]
  intro ga hga
  intro gb hgb
  have ngbga : ¬ gb = ga := by intro h; subst h; simp [Held.put, Held.nil] at hgb
  have ngagb : ¬ ga = gb := fun h => ngbga h.symm
  intro gc hgc
  have ngcga : ¬ gc = ga := by intro h; subst h; simp [Held.put, Held.nil] at hgc
  have ngagc : ¬ ga = gc := fun h => ngcga h.symm
  have ngcgb : ¬ gc = gb := by intro h; subst h; simp [Held.put, Held.nil] at hgc
  have ngbgc : ¬ gb = gc := fun h => ngcgb h.symm
  simp only [wpP]
  refine ⟨ga, _, by simp [go_sem], by simp [Held.put, Held.nil, ngagb, ngagc, ngbga, ngbgc, ngcga, ngcgb]; rfl, ?hx, ?_⟩
  case hx =>
    intro w' hw'
    have q0 := cell_block (i := 0) hw'; have f0 := free_block (i := 0) hw'
    have q1 := cell_block (i := 1) hw'; have f1 := free_block (i := 1) hw'
    simp at q0 q1
    go_simp
    simp only [upPut]
    refine (Setted.start hw' |>.step 0 _ |>.step 1 _).eq ?_
    simp [wrote, go_sem]
  refine ⟨gb, _, by simp [go_sem], by simp [Held.put, Held.nil, ngagb, ngagc, ngbga, ngbgc, ngcga, ngcgb]; rfl, ?hx, ?_⟩
  case hx =>
    intro w' hw'
    have q0 := cell_block (i := 0) hw'; have f0 := free_block (i := 0) hw'
    have q1 := cell_block (i := 1) hw'; have f1 := free_block (i := 1) hw'
    simp at q0 q1
    go_simp
    simp only [upPut]
    refine (Setted.start hw' |>.step 0 _ |>.step 1 _).eq ?_
    simp [wrote, go_sem]
  refine ⟨gc, _, by simp [go_sem], by simp [Held.put, Held.nil, ngagb, ngagc, ngbga, ngbgc, ngcga, ngcgb]; rfl, ?hx, ?_⟩
  case hx =>
    intro w' hw'
    have q0 := cell_block (i := 0) hw'; have f0 := free_block (i := 0) hw'
    have q1 := cell_block (i := 1) hw'; have f1 := free_block (i := 1) hw'
    simp at q0 q1
    go_simp
    simp only [upPut]
    refine (Setted.start hw' |>.step 0 _ |>.step 1 _).eq ?_
    simp [wrote, go_sem]
  repeat (with_reducible refine wpL_skip (by decide) ?_)
  refine wpL_nil ?_
  intro x1 hin
  obtain ⟨hc1, hc2⟩ := hin gc _ _ (Held.at_self _ _ _ _)
  obtain ⟨hb1, hb2⟩ := hin gb _ _ ((Held.at_ne _ _ _ ngbgc).trans (Held.at_self _ _ _ _))
  obtain ⟨ha1, ha2⟩ := hin ga _ _ ((Held.at_ne _ _ _ ngagc).trans ((Held.at_ne _ _ _ ngagb).trans (Held.at_self _ _ _ _)))
  clear hin hga hgb hgc
  have qa0 := cell_block (i := 0) ha2
  have qa1 := cell_block (i := 1) ha2
  have qb0 := cell_block (i := 0) hb2
  have qb1 := cell_block (i := 1) hb2
  have qc1 := cell_block (i := 1) hc2
  simp [wrote, go_sem] at qa0 qa1 qb0 qb1 qc1
  have la := lt_of_get ha2
  have lb := lt_of_get hb2
  have lc := lt_of_get hc2
  clear ha1 hb1 hc1 ha2 hb2 hc2
  have p0 := (x1.cell w.heap.size 0 (by simp; omega)).trans (by simp [go_sem]; rfl)
  have p1 := (x1.cell w.heap.size 1 (by simp; omega)).trans (by simp [go_sem]; rfl)
  have p3 := (x1.cell w.heap.size 3 (by simp; omega)).trans (by simp [go_sem]; rfl)
  have ln : w.heap.size < x1.val.heap.size := by have := x1.size; simp at this; omega
  have hbw : Below w.heap.size w x1.val := by (repeat' (first | (with_reducible exact Below.refl _ _) | (with_reducible refine Below.alloc ?_ ?_ _) | (with_reducible refine Below.drew ?_) | (with_reducible refine Aft.below _ ?_ ?_) | (with_reducible refine Below.setCell_new ?_ ?_ _ _) | (with_reducible exact Nat.le_refl _) | (with_reducible refine Aft.le _ ?_) | (with_reducible refine le_alloc ?_) | (with_reducible refine le_drew ?_) | (with_reducible refine le_setCell ?_) | omega))
  clear ngagb ngagc ngbgc ngbga ngcga ngcgb
  generalize x1.val = W1 at *
  obtain ⟨hm1, hm2⟩ := hm
  go_wp2_with (fail)
  go_ret
  exact ⟨rfl, Below.aft hbw⟩

set_option maxRecDepth 100000 in
set_option maxHeartbeats 1600000 in
theorem exact_9 (wd v aw av bw bv cw cv : Int) (hw1 : 1 ≤ wd) (hw2 : wd ≤ 16) (a0 : 0 ≤ av) (a1 : av ≤ 65536) (b0 : 0 ≤ bv) (b1 : bv ≤ 65536) (B : Option Addr) (al bc : Nat) (w : World) :
    Calls Tryd.prog 104 #[.agg #[.int .i64 9, .int .i64 wd, .slice B al bc, .int .i64 v], .agg #[.int .i64 aw, .int .i64 av, .int .i64 bw, .int .i64 bv, .int .i64 cw, .int .i64 cv]] w fun e w' => e = .returned (.int .i64 (fl (av == bv))) ∧ ∃ x : Aft w, w' = x.val := by
  go_enter Tryd.func104, Tryd.ntmps104
  go_wp2_with fail
  refine wp_region_kd [.quiet, .quiet, .quiet, .quiet, .quiet, .quiet, .new (.cells #[.int .i64 0, .int .i64 0] 123), .new (.cells #[.int .i64 0, .int .i64 0] 123), .new (.cells #[.int .i64 0, .int .i64 0] 123), .put (.tmp 5) (.tmp 9), .put (.tmp 6) (.tmp 11), .put (.tmp 7) (.tmp 13)] (by kernel_rfl) (by kernel_rfl) (by kernel_rfl) rfl (by kernel_rfl) ?hF ?_
  case hF =>
    simp only [FitsL, fit1, true_and, and_true]
    repeat' apply And.intro
    all_goals first | rfl | (simp [Op.operands]; done) | (intro a w; go_simp; done)
  repeat (first | (with_reducible refine wpQ_new ?_) | (with_reducible refine wpQ_put ?_) | (with_reducible refine wpQ_late ?_) | (refine wpQ_step (fun K hK => ?_); go_simp; first | (refine hK _ ?_; clear hK K) | (apply Exists.intro; refine ⟨fun _ => ?_, hK _ ?_⟩; (first | fail); clear hK K)))
  refine wpQ_nil ?_
  simp only [wpN]
  intro ga hga
  intro gb hgb
  have ngbga : ¬ gb = ga := by intro h; subst h; simp [Held.put, Held.nil] at hgb
  have ngagb : ¬ ga = gb := fun h => ngbga h.symm
  intro gc hgc
  have ngcga : ¬ gc = ga := by intro h; subst h; simp [Held.put, Held.nil] at hgc
  have ngagc : ¬ ga = gc := fun h => ngcga h.symm
  have ngcgb : ¬ gc = gb := by intro h; subst h; simp [Held.put, Held.nil] at hgc
  have ngbgc : ¬ gb = gc := fun h => ngcgb h.symm
  simp only [wpP]
  refine ⟨ga, _, by simp [go_sem], by simp [Held.put, Held.nil, ngagb, ngagc, ngbga, ngbgc, ngcga, ngcgb]; rfl, ?hx, ?_⟩
  case hx =>
    intro w' hw'
    have q0 := cell_block (i := 0) hw'; have f0 := free_block (i := 0) hw'
    have q1 := cell_block (i := 1) hw'; have f1 := free_block (i := 1) hw'
    simp at q0 q1
    go_simp
    simp only [upPut]
    refine (Setted.start hw' |>.step 0 _ |>.step 1 _).eq ?_
    simp [wrote, go_sem]
  refine ⟨gb, _, by simp [go_sem], by simp [Held.put, Held.nil, ngagb, ngagc, ngbga, ngbgc, ngcga, ngcgb]; rfl, ?hx, ?_⟩
  case hx =>
    intro w' hw'
    have q0 := cell_block (i := 0) hw'; have f0 := free_block (i := 0) hw'
    have q1 := cell_block (i := 1) hw'; have f1 := free_block (i := 1) hw'
    simp at q0 q1
    go_simp
    simp only [upPut]
    refine (Setted.start hw' |>.step 0 _ |>.step 1 _).eq ?_
    simp [wrote, go_sem]
  refine ⟨gc, _, by simp [go_sem], by simp [Held.put, Held.nil, ngagb, ngagc, ngbga, ngbgc, ngcga, ngcgb]; rfl, ?hx, ?_⟩
  case hx =>
    intro w' hw'
    have q0 := cell_block (i := 0) hw'; have f0 := free_block (i := 0) hw'
    have q1 := cell_block (i := 1) hw'; have f1 := free_block (i := 1) hw'
    simp at q0 q1
    go_simp
    simp only [upPut]
    refine (Setted.start hw' |>.step 0 _ |>.step 1 _).eq ?_
    simp [wrote, go_sem]
  repeat (with_reducible refine wpL_skip (by decide) ?_)
  refine wpL_nil ?_
  intro x1 hin
  obtain ⟨hc1, hc2⟩ := hin gc _ _ (Held.at_self _ _ _ _)
  obtain ⟨hb1, hb2⟩ := hin gb _ _ ((Held.at_ne _ _ _ ngbgc).trans (Held.at_self _ _ _ _))
  obtain ⟨ha1, ha2⟩ := hin ga _ _ ((Held.at_ne _ _ _ ngagc).trans ((Held.at_ne _ _ _ ngagb).trans (Held.at_self _ _ _ _)))
  clear hin hga hgb hgc
  have qa0 := cell_block (i := 0) ha2
  have qa1 := cell_block (i := 1) ha2
  have qb0 := cell_block (i := 0) hb2
  have qb1 := cell_block (i := 1) hb2
  have qc1 := cell_block (i := 1) hc2
  simp [wrote, go_sem] at qa0 qa1 qb0 qb1 qc1
  have la := lt_of_get ha2
  have lb := lt_of_get hb2
  have lc := lt_of_get hc2
  clear ha1 hb1 hc1 ha2 hb2 hc2
  have p0 := (x1.cell w.heap.size 0 (by simp; omega)).trans (by simp [go_sem]; rfl)
  have p1 := (x1.cell w.heap.size 1 (by simp; omega)).trans (by simp [go_sem]; rfl)
  have p3 := (x1.cell w.heap.size 3 (by simp; omega)).trans (by simp [go_sem]; rfl)
  have ln : w.heap.size < x1.val.heap.size := by have := x1.size; simp at this; omega
  have hbw : Below w.heap.size w x1.val := by (repeat' (first | (with_reducible exact Below.refl _ _) | (with_reducible refine Below.alloc ?_ ?_ _) | (with_reducible refine Below.drew ?_) | (with_reducible refine Aft.below _ ?_ ?_) | (with_reducible refine Below.setCell_new ?_ ?_ _ _) | (with_reducible exact Nat.le_refl _) | (with_reducible refine Aft.le _ ?_) | (with_reducible refine le_alloc ?_) | (with_reducible refine le_drew ?_) | (with_reducible refine le_setCell ?_) | omega))
  clear ngagb ngagc ngbgc ngbga ngcga ngcgb
  generalize x1.val = W1 at *
  go_wp2_with (first | (go_at_call 108; refine (flag_c _ _).mono ?_; rintro e w' ⟨rfl, rfl⟩))
  go_ret
  exact ⟨rfl, Below.aft hbw⟩

set_option maxRecDepth 100000 in
set_option maxHeartbeats 1600000 in
theorem exact_10 (wd v aw av bw bv cw cv : Int) (hw1 : 1 ≤ wd) (hw2 : wd ≤ 16) (a0 : 0 ≤ av) (a1 : av ≤ 65536) (b0 : 0 ≤ bv) (b1 : bv ≤ 65536) (B : Option Addr) (al bc : Nat) (w : World) :
    Calls Tryd.prog 104 #[.agg #[.int .i64 10, .int .i64 wd, .slice B al bc, .int .i64 v], .agg #[.int .i64 aw, .int .i64 av, .int .i64 bw, .int .i64 bv, .int .i64 cw, .int .i64 cv]] w fun e w' => e = .returned (.int .i64 (fl (decide (av < bv)))) ∧ ∃ x : Aft w, w' = x.val := by
  go_enter Tryd.func104, Tryd.ntmps104
  go_wp2_with fail
  refine wp_region_kd [.quiet, .quiet, .quiet, .quiet, .quiet, .quiet, .new (.cells #[.int .i64 0, .int .i64 0] 123), .new (.cells #[.int .i64 0, .int .i64 0] 123), .new (.cells #[.int .i64 0, .int .i64 0] 123), .put (.tmp 5) (.tmp 9), .put (.tmp 6) (.tmp 11), .put (.tmp 7) (.tmp 13)] (by kernel_rfl) (by kernel_rfl) (by kernel_rfl) rfl (by kernel_rfl) ?hF ?_
  case hF =>
    simp only [FitsL, fit1, true_and, and_true]
    repeat' apply And.intro
    all_goals first | rfl | (simp [Op.operands]; done) | (intro a w; go_simp; done)
  repeat (first | (with_reducible refine wpQ_new ?_) | (with_reducible refine wpQ_put ?_) | (with_reducible refine wpQ_late ?_) | (refine wpQ_step (fun K hK => ?_); go_simp; first | (refine hK _ ?_; clear hK K) | (apply Exists.intro; refine ⟨fun _ => ?_, hK _ ?_⟩; (first | fail); clear hK K)))
  refine wpQ_nil ?_
  simp only [wpN]
  intro ga hga
  intro gb hgb
  have ngbga : ¬ gb = ga := by intro h; subst h; simp [Held.put, Held.nil] at hgb
  have ngagb : ¬ ga = gb := fun h => ngbga h.symm
  intro gc hgc
  have ngcga : ¬ gc = ga := by intro h; subst h; simp [Held.put, Held.nil] at hgc
  have ngagc : ¬ ga = gc := fun h => ngcga h.symm
  have ngcgb : ¬ gc = gb := by intro h; subst h; simp [Held.put, Held.nil] at hgc
  have ngbgc : ¬ gb = gc := fun h => ngcgb h.symm
  simp only [wpP]
  refine ⟨ga, _, by simp [go_sem], by simp [Held.put, Held.nil, ngagb, ngagc, ngbga, ngbgc, ngcga, ngcgb]; rfl, ?hx, ?_⟩
  case hx =>
    intro w' hw'
    have q0 := cell_block (i := 0) hw'; have f0 := free_block (i := 0) hw'
    have q1 := cell_block (i := 1) hw'; have f1 := free_block (i := 1) hw'
    simp at q0 q1
    go_simp
    simp only [upPut]
    refine (Setted.start hw' |>.step 0 _ |>.step 1 _).eq ?_
    simp [wrote, go_sem]
  refine ⟨gb, _, by simp [go_sem], by simp [Held.put, Held.nil, ngagb, ngagc, ngbga, ngbgc, ngcga, ngcgb]; rfl, ?hx, ?_⟩
  case hx =>
    intro w' hw'
    have q0 := cell_block (i := 0) hw'; have f0 := free_block (i := 0) hw'
    have q1 := cell_block (i := 1) hw'; have f1 := free_block (i := 1) hw'
    simp at q0 q1
    go_simp
    simp only [upPut]
    refine (Setted.start hw' |>.step 0 _ |>.step 1 _).eq ?_
    simp [wrote, go_sem]
  refine ⟨gc, _, by simp [go_sem], by simp [Held.put, Held.nil, ngagb, ngagc, ngbga, ngbgc, ngcga, ngcgb]; rfl, ?hx, ?_⟩
  case hx =>
    intro w' hw'
    have q0 := cell_block (i := 0) hw'; have f0 := free_block (i := 0) hw'
    have q1 := cell_block (i := 1) hw'; have f1 := free_block (i := 1) hw'
    simp at q0 q1
    go_simp
    simp only [upPut]
    refine (Setted.start hw' |>.step 0 _ |>.step 1 _).eq ?_
    simp [wrote, go_sem]
  repeat (with_reducible refine wpL_skip (by decide) ?_)
  refine wpL_nil ?_
  intro x1 hin
  obtain ⟨hc1, hc2⟩ := hin gc _ _ (Held.at_self _ _ _ _)
  obtain ⟨hb1, hb2⟩ := hin gb _ _ ((Held.at_ne _ _ _ ngbgc).trans (Held.at_self _ _ _ _))
  obtain ⟨ha1, ha2⟩ := hin ga _ _ ((Held.at_ne _ _ _ ngagc).trans ((Held.at_ne _ _ _ ngagb).trans (Held.at_self _ _ _ _)))
  clear hin hga hgb hgc
  have qa0 := cell_block (i := 0) ha2
  have qa1 := cell_block (i := 1) ha2
  have qb0 := cell_block (i := 0) hb2
  have qb1 := cell_block (i := 1) hb2
  have qc1 := cell_block (i := 1) hc2
  simp [wrote, go_sem] at qa0 qa1 qb0 qb1 qc1
  have la := lt_of_get ha2
  have lb := lt_of_get hb2
  have lc := lt_of_get hc2
  clear ha1 hb1 hc1 ha2 hb2 hc2
  have p0 := (x1.cell w.heap.size 0 (by simp; omega)).trans (by simp [go_sem]; rfl)
  have p1 := (x1.cell w.heap.size 1 (by simp; omega)).trans (by simp [go_sem]; rfl)
  have p3 := (x1.cell w.heap.size 3 (by simp; omega)).trans (by simp [go_sem]; rfl)
  have ln : w.heap.size < x1.val.heap.size := by have := x1.size; simp at this; omega
  have hbw : Below w.heap.size w x1.val := by (repeat' (first | (with_reducible exact Below.refl _ _) | (with_reducible refine Below.alloc ?_ ?_ _) | (with_reducible refine Below.drew ?_) | (with_reducible refine Aft.below _ ?_ ?_) | (with_reducible refine Below.setCell_new ?_ ?_ _ _) | (with_reducible exact Nat.le_refl _) | (with_reducible refine Aft.le _ ?_) | (with_reducible refine le_alloc ?_) | (with_reducible refine le_drew ?_) | (with_reducible refine le_setCell ?_) | omega))
  clear ngagb ngagc ngbgc ngbga ngcga ngcgb
  generalize x1.val = W1 at *
  go_wp2_with (first | (go_at_call 108; refine (flag_c _ _).mono ?_; rintro e w' ⟨rfl, rfl⟩))
  go_ret
  exact ⟨rfl, Below.aft hbw⟩

set_option maxRecDepth 100000 in
set_option maxHeartbeats 1600000 in
theorem exact_11 (wd v aw av bw bv cw cv : Int) (hw1 : 1 ≤ wd) (hw2 : wd ≤ 16) (a0 : 0 ≤ av) (a1 : av ≤ 65536) (b0 : 0 ≤ bv) (b1 : bv ≤ 65536) (aw1 : 1 ≤ aw) (aw2 : aw ≤ 16) (bw1 : 1 ≤ bw) (bw2 : bw ≤ 16) (B : Option Addr) (al bc : Nat) (w : World) :
    Calls Tryd.prog 104 #[.agg #[.int .i64 11, .int .i64 wd, .slice B al bc, .int .i64 v], .agg #[.int .i64 aw, .int .i64 av, .int .i64 bw, .int .i64 bv, .int .i64 cw, .int .i64 cv]] w fun e w' => e = .returned (.int .i64 (fl (decide (sgG aw av < sgG bw bv)))) ∧ ∃ x : Aft w, w' = x.val := by
  go_enter Tryd.func104, Tryd.ntmps104
  go_wp2_with fail
  refine wp_region_kd [.quiet, .quiet, .quiet, .quiet, .quiet, .quiet, .new (.cells #[.int .i64 0, .int .i64 0] 123), .new (.cells #[.int .i64 0, .int .i64 0] 123), .new (.cells #[.int .i64 0, .int .i64 0] 123), .put (.tmp 5) (.tmp 9), .put (.tmp 6) (.tmp 11), .put (.tmp 7) (.tmp 13)] (by kernel_rfl) (by kernel_rfl) (by kernel_rfl) rfl (by kernel_rfl) ?hF ?_
  case hF =>
    simp only [FitsL, fit1, true_and, and_true]
    repeat' apply And.intro
    all_goals first | rfl | (simp [Op.operands]; done) | (intro a w; go_simp; done)
  repeat (first | (with_reducible refine wpQ_new ?_) | (with_reducible refine wpQ_put ?_) | (with_reducible refine wpQ_late ?_) | (refine wpQ_step (fun K hK => ?_); go_simp; first | (refine hK _ ?_; clear hK K) | (apply Exists.intro; refine ⟨fun _ => ?_, hK _ ?_⟩; (first | fail); clear hK K)))
  refine wpQ_nil ?_
  simp only [wpN]
  intro ga hga
  intro gb hgb
  have ngbga : ¬ gb = ga := by intro h; subst h; simp [Held.put, Held.nil] at hgb
  have ngagb : ¬ ga = gb := fun h => ngbga h.symm
  intro gc hgc
  have ngcga : ¬ gc = ga := by intro h; subst h; simp [Held.put, Held.nil] at hgc
  have ngagc : ¬ ga = gc := fun h => ngcga h.symm
  have ngcgb : ¬ gc = gb := by intro h; subst h; simp [Held.put, Held.nil] at hgc
  have ngbgc : ¬ gb = gc := fun h => ngcgb h.symm
  simp only [wpP]
  refine ⟨ga, _, by simp [go_sem], by simp [Held.put, Held.nil, ngagb, ngagc, ngbga, ngbgc, ngcga, ngcgb]; rfl, ?hx, ?_⟩
  case hx =>
    intro w' hw'
    have q0 := cell_block (i := 0) hw'; have f0 := free_block (i := 0) hw'
    have q1 := cell_block (i := 1) hw'; have f1 := free_block (i := 1) hw'
    simp at q0 q1
    go_simp
    simp only [upPut]
    refine (Setted.start hw' |>.step 0 _ |>.step 1 _).eq ?_
    simp [wrote, go_sem]
  refine ⟨gb, _, by simp [go_sem], by simp [Held.put, Held.nil, ngagb, ngagc, ngbga, ngbgc, ngcga, ngcgb]; rfl, ?hx, ?_⟩
  case hx =>
    intro w' hw'
    have q0 := cell_block (i := 0) hw'; have f0 := free_block (i := 0) hw'
    have q1 := cell_block (i := 1) hw'; have f1 := free_block (i := 1) hw'
    simp at q0 q1
    go_simp
    simp only [upPut]
    refine (Setted.start hw' |>.step 0 _ |>.step 1 _).eq ?_
    simp [wrote, go_sem]
  refine ⟨gc, _, by simp [go_sem], by simp [Held.put, Held.nil, ngagb, ngagc, ngbga, ngbgc, ngcga, ngcgb]; rfl, ?hx, ?_⟩
  case hx =>
    intro w' hw'
    have q0 := cell_block (i := 0) hw'; have f0 := free_block (i := 0) hw'
    have q1 := cell_block (i := 1) hw'; have f1 := free_block (i := 1) hw'
    simp at q0 q1
    go_simp
    simp only [upPut]
    refine (Setted.start hw' |>.step 0 _ |>.step 1 _).eq ?_
    simp [wrote, go_sem]
  repeat (with_reducible refine wpL_skip (by decide) ?_)
  refine wpL_nil ?_
  intro x1 hin
  obtain ⟨hc1, hc2⟩ := hin gc _ _ (Held.at_self _ _ _ _)
  obtain ⟨hb1, hb2⟩ := hin gb _ _ ((Held.at_ne _ _ _ ngbgc).trans (Held.at_self _ _ _ _))
  obtain ⟨ha1, ha2⟩ := hin ga _ _ ((Held.at_ne _ _ _ ngagc).trans ((Held.at_ne _ _ _ ngagb).trans (Held.at_self _ _ _ _)))
  clear hin hga hgb hgc
  have qa0 := cell_block (i := 0) ha2
  have qa1 := cell_block (i := 1) ha2
  have qb0 := cell_block (i := 0) hb2
  have qb1 := cell_block (i := 1) hb2
  have qc1 := cell_block (i := 1) hc2
  simp [wrote, go_sem] at qa0 qa1 qb0 qb1 qc1
  have la := lt_of_get ha2
  have lb := lt_of_get hb2
  have lc := lt_of_get hc2
  clear ha1 hb1 hc1 ha2 hb2 hc2
  have p0 := (x1.cell w.heap.size 0 (by simp; omega)).trans (by simp [go_sem]; rfl)
  have p1 := (x1.cell w.heap.size 1 (by simp; omega)).trans (by simp [go_sem]; rfl)
  have p3 := (x1.cell w.heap.size 3 (by simp; omega)).trans (by simp [go_sem]; rfl)
  have ln : w.heap.size < x1.val.heap.size := by have := x1.size; simp at this; omega
  have hbw : Below w.heap.size w x1.val := by (repeat' (first | (with_reducible exact Below.refl _ _) | (with_reducible refine Below.alloc ?_ ?_ _) | (with_reducible refine Below.drew ?_) | (with_reducible refine Aft.below _ ?_ ?_) | (with_reducible refine Below.setCell_new ?_ ?_ _ _) | (with_reducible exact Nat.le_refl _) | (with_reducible refine Aft.le _ ?_) | (with_reducible refine le_alloc ?_) | (with_reducible refine le_drew ?_) | (with_reducible refine le_setCell ?_) | omega))
  clear ngagb ngagc ngbgc ngbga ngcga ngcgb
  generalize x1.val = W1 at *
  go_wp2_with fail
  refine wp_region_aft (by kernel_rfl) (by kernel_rfl) ?_
  repeat (go_big_quiet_step (first | (go_at_call 109; exact Calls.qa (signed_c _ _ (by omega) (by omega) (by omega) (by omega) _)) | (go_at_call 108; exact Calls.qs (flag_c _ _))))
  refine wpQuiet_nil ?_
  intro y
  go_wp2
  go_ret
  exact ⟨rfl, Below.aft (y.below hbw hbw.size)⟩

/-- The choice by a bit. -/
def muxG (a b c : Int) : Int := if a = 1 then b else c
theorem mulS {a b : Int} (ha : 0 ≤ a) (ha2 : a ≤ 65536) (hb : 0 ≤ b) (hb2 : b ≤ 65536) : 0 ≤ a * b ∧ a * b ≤ 4294967296 := by
  refine ⟨Int.mul_nonneg ha hb, ?_⟩
  calc a * b ≤ 65536 * b := Int.mul_le_mul_of_nonneg_right ha2 hb
    _ ≤ 65536 * 65536 := Int.mul_le_mul_of_nonneg_left hb2 (by decide)
    _ = 4294967296 := by decide
theorem wrapM {a b : Int} (ha : 0 ≤ a) (ha2 : a ≤ 65536) (hb : 0 ≤ b) (hb2 : b ≤ 16) : wrap64 (a * 2 ^ b.toNat) = a * pw b := by
  have hp := pw_bd hb hb2
  have := mulS ha ha2 (b := pw b) (by omega) (by omega)
  exact IntWalk.wrap64_in _ (by show -9223372036854775808 ≤ a * pw b ∧ a * pw b ≤ 9223372036854775807; omega)

set_option maxRecDepth 100000 in
set_option maxHeartbeats 1600000 in
theorem exact_12 (wd v aw av bw bv cw cv : Int) (hw1 : 1 ≤ wd) (hw2 : wd ≤ 16) (a0 : 0 ≤ av) (a1 : av ≤ 65536) (b0 : 0 ≤ bv) (b1 : bv ≤ 65536) (B : Option Addr) (al bc : Nat) (w : World) :
    Calls Tryd.prog 104 #[.agg #[.int .i64 12, .int .i64 wd, .slice B al bc, .int .i64 v], .agg #[.int .i64 aw, .int .i64 av, .int .i64 bw, .int .i64 bv, .int .i64 cw, .int .i64 cv]] w fun e w' => e = .returned (.int .i64 (muxG av bv cv)) ∧ ∃ x : Aft w, w' = x.val := by
  go_enter Tryd.func104, Tryd.ntmps104
  go_wp2_with fail
  refine wp_region_kd [.quiet, .quiet, .quiet, .quiet, .quiet, .quiet, .new (.cells #[.int .i64 0, .int .i64 0] 123), .new (.cells #[.int .i64 0, .int .i64 0] 123), .new (.cells #[.int .i64 0, .int .i64 0] 123), .put (.tmp 5) (.tmp 9), .put (.tmp 6) (.tmp 11), .put (.tmp 7) (.tmp 13)] (by kernel_rfl) (by kernel_rfl) (by kernel_rfl) rfl (by kernel_rfl) ?hF ?_
  case hF =>
    simp only [FitsL, fit1, true_and, and_true]
    repeat' apply And.intro
    all_goals first | rfl | (simp [Op.operands]; done) | (intro a w; go_simp; done)
  repeat (first | (with_reducible refine wpQ_new ?_) | (with_reducible refine wpQ_put ?_) | (with_reducible refine wpQ_late ?_) | (refine wpQ_step (fun K hK => ?_); go_simp; first | (refine hK _ ?_; clear hK K) | (apply Exists.intro; refine ⟨fun _ => ?_, hK _ ?_⟩; (first | fail); clear hK K)))
  refine wpQ_nil ?_
  simp only [wpN]
  intro ga hga
  intro gb hgb
  have ngbga : ¬ gb = ga := by intro h; subst h; simp [Held.put, Held.nil] at hgb
  have ngagb : ¬ ga = gb := fun h => ngbga h.symm
  intro gc hgc
  have ngcga : ¬ gc = ga := by intro h; subst h; simp [Held.put, Held.nil] at hgc
  have ngagc : ¬ ga = gc := fun h => ngcga h.symm
  have ngcgb : ¬ gc = gb := by intro h; subst h; simp [Held.put, Held.nil] at hgc
  have ngbgc : ¬ gb = gc := fun h => ngcgb h.symm
  simp only [wpP]
  refine ⟨ga, _, by simp [go_sem], by simp [Held.put, Held.nil, ngagb, ngagc, ngbga, ngbgc, ngcga, ngcgb]; rfl, ?hx, ?_⟩
  case hx =>
    intro w' hw'
    have q0 := cell_block (i := 0) hw'; have f0 := free_block (i := 0) hw'
    have q1 := cell_block (i := 1) hw'; have f1 := free_block (i := 1) hw'
    simp at q0 q1
    go_simp
    simp only [upPut]
    refine (Setted.start hw' |>.step 0 _ |>.step 1 _).eq ?_
    simp [wrote, go_sem]
  refine ⟨gb, _, by simp [go_sem], by simp [Held.put, Held.nil, ngagb, ngagc, ngbga, ngbgc, ngcga, ngcgb]; rfl, ?hx, ?_⟩
  case hx =>
    intro w' hw'
    have q0 := cell_block (i := 0) hw'; have f0 := free_block (i := 0) hw'
    have q1 := cell_block (i := 1) hw'; have f1 := free_block (i := 1) hw'
    simp at q0 q1
    go_simp
    simp only [upPut]
    refine (Setted.start hw' |>.step 0 _ |>.step 1 _).eq ?_
    simp [wrote, go_sem]
  refine ⟨gc, _, by simp [go_sem], by simp [Held.put, Held.nil, ngagb, ngagc, ngbga, ngbgc, ngcga, ngcgb]; rfl, ?hx, ?_⟩
  case hx =>
    intro w' hw'
    have q0 := cell_block (i := 0) hw'; have f0 := free_block (i := 0) hw'
    have q1 := cell_block (i := 1) hw'; have f1 := free_block (i := 1) hw'
    simp at q0 q1
    go_simp
    simp only [upPut]
    refine (Setted.start hw' |>.step 0 _ |>.step 1 _).eq ?_
    simp [wrote, go_sem]
  repeat (with_reducible refine wpL_skip (by decide) ?_)
  refine wpL_nil ?_
  intro x1 hin
  obtain ⟨hc1, hc2⟩ := hin gc _ _ (Held.at_self _ _ _ _)
  obtain ⟨hb1, hb2⟩ := hin gb _ _ ((Held.at_ne _ _ _ ngbgc).trans (Held.at_self _ _ _ _))
  obtain ⟨ha1, ha2⟩ := hin ga _ _ ((Held.at_ne _ _ _ ngagc).trans ((Held.at_ne _ _ _ ngagb).trans (Held.at_self _ _ _ _)))
  clear hin hga hgb hgc
  have qa0 := cell_block (i := 0) ha2
  have qa1 := cell_block (i := 1) ha2
  have qb0 := cell_block (i := 0) hb2
  have qb1 := cell_block (i := 1) hb2
  have qc1 := cell_block (i := 1) hc2
  simp [wrote, go_sem] at qa0 qa1 qb0 qb1 qc1
  have la := lt_of_get ha2
  have lb := lt_of_get hb2
  have lc := lt_of_get hc2
  clear ha1 hb1 hc1 ha2 hb2 hc2
  have p0 := (x1.cell w.heap.size 0 (by simp; omega)).trans (by simp [go_sem]; rfl)
  have p1 := (x1.cell w.heap.size 1 (by simp; omega)).trans (by simp [go_sem]; rfl)
  have p3 := (x1.cell w.heap.size 3 (by simp; omega)).trans (by simp [go_sem]; rfl)
  have ln : w.heap.size < x1.val.heap.size := by have := x1.size; simp at this; omega
  have hbw : Below w.heap.size w x1.val := by (repeat' (first | (with_reducible exact Below.refl _ _) | (with_reducible refine Below.alloc ?_ ?_ _) | (with_reducible refine Below.drew ?_) | (with_reducible refine Aft.below _ ?_ ?_) | (with_reducible refine Below.setCell_new ?_ ?_ _ _) | (with_reducible exact Nat.le_refl _) | (with_reducible refine Aft.le _ ?_) | (with_reducible refine le_alloc ?_) | (with_reducible refine le_drew ?_) | (with_reducible refine le_setCell ?_) | omega))
  clear ngagb ngagc ngbgc ngbga ngcga ngcgb
  generalize x1.val = W1 at *
  by_cases h : av = 1
  · have HR := Lib.hid (show muxG av bv cv = bv from if_pos h)
    subst h
    go_wp2
    go_ret
    exact ⟨retI HR.out.symm, Below.aft hbw⟩
  · have HR := Lib.hid (show muxG av bv cv = cv from if_neg h)
    have h1 : (av == 1) = false := by simpa using h
    clear h
    go_wp2
    go_ret
    exact ⟨retI HR.out.symm, Below.aft hbw⟩

set_option maxRecDepth 100000 in
set_option maxHeartbeats 1600000 in
theorem exact_13 (wd v aw av bw bv cw cv : Int) (hw1 : 1 ≤ wd) (hw2 : wd ≤ 16) (a0 : 0 ≤ av) (a1 : av ≤ 65536) (b0 : 0 ≤ bv) (b1 : bv ≤ 65536) (bw1 : 0 ≤ bw) (bw2 : bw ≤ 16) (B : Option Addr) (al bc : Nat) (w : World) :
    Calls Tryd.prog 104 #[.agg #[.int .i64 13, .int .i64 wd, .slice B al bc, .int .i64 v], .agg #[.int .i64 aw, .int .i64 av, .int .i64 bw, .int .i64 bv, .int .i64 cw, .int .i64 cv]] w fun e w' => e = .returned (.int .i64 (bits .or .i64 (av * pw bw) bv)) ∧ ∃ x : Aft w, w' = x.val := by
  go_enter Tryd.func104, Tryd.ntmps104
  go_wp2_with fail
  refine wp_region_kd [.quiet, .quiet, .quiet, .quiet, .quiet, .quiet, .new (.cells #[.int .i64 0, .int .i64 0] 123), .new (.cells #[.int .i64 0, .int .i64 0] 123), .new (.cells #[.int .i64 0, .int .i64 0] 123), .put (.tmp 5) (.tmp 9), .put (.tmp 6) (.tmp 11), .put (.tmp 7) (.tmp 13)] (by kernel_rfl) (by kernel_rfl) (by kernel_rfl) rfl (by kernel_rfl) ?hF ?_
  case hF =>
    simp only [FitsL, fit1, true_and, and_true]
    repeat' apply And.intro
    all_goals first | rfl | (simp [Op.operands]; done) | (intro a w; go_simp; done)
  repeat (first | (with_reducible refine wpQ_new ?_) | (with_reducible refine wpQ_put ?_) | (with_reducible refine wpQ_late ?_) | (refine wpQ_step (fun K hK => ?_); go_simp; first | (refine hK _ ?_; clear hK K) | (apply Exists.intro; refine ⟨fun _ => ?_, hK _ ?_⟩; (first | fail); clear hK K)))
  refine wpQ_nil ?_
  simp only [wpN]
  intro ga hga
  intro gb hgb
  have ngbga : ¬ gb = ga := by intro h; subst h; simp [Held.put, Held.nil] at hgb
  have ngagb : ¬ ga = gb := fun h => ngbga h.symm
  intro gc hgc
  have ngcga : ¬ gc = ga := by intro h; subst h; simp [Held.put, Held.nil] at hgc
  have ngagc : ¬ ga = gc := fun h => ngcga h.symm
  have ngcgb : ¬ gc = gb := by intro h; subst h; simp [Held.put, Held.nil] at hgc
  have ngbgc : ¬ gb = gc := fun h => ngcgb h.symm
  simp only [wpP]
  refine ⟨ga, _, by simp [go_sem], by simp [Held.put, Held.nil, ngagb, ngagc, ngbga, ngbgc, ngcga, ngcgb]; rfl, ?hx, ?_⟩
  case hx =>
    intro w' hw'
    have q0 := cell_block (i := 0) hw'; have f0 := free_block (i := 0) hw'
    have q1 := cell_block (i := 1) hw'; have f1 := free_block (i := 1) hw'
    simp at q0 q1
    go_simp
    simp only [upPut]
    refine (Setted.start hw' |>.step 0 _ |>.step 1 _).eq ?_
    simp [wrote, go_sem]
  refine ⟨gb, _, by simp [go_sem], by simp [Held.put, Held.nil, ngagb, ngagc, ngbga, ngbgc, ngcga, ngcgb]; rfl, ?hx, ?_⟩
  case hx =>
    intro w' hw'
    have q0 := cell_block (i := 0) hw'; have f0 := free_block (i := 0) hw'
    have q1 := cell_block (i := 1) hw'; have f1 := free_block (i := 1) hw'
    simp at q0 q1
    go_simp
    simp only [upPut]
    refine (Setted.start hw' |>.step 0 _ |>.step 1 _).eq ?_
    simp [wrote, go_sem]
  refine ⟨gc, _, by simp [go_sem], by simp [Held.put, Held.nil, ngagb, ngagc, ngbga, ngbgc, ngcga, ngcgb]; rfl, ?hx, ?_⟩
  case hx =>
    intro w' hw'
    have q0 := cell_block (i := 0) hw'; have f0 := free_block (i := 0) hw'
    have q1 := cell_block (i := 1) hw'; have f1 := free_block (i := 1) hw'
    simp at q0 q1
    go_simp
    simp only [upPut]
    refine (Setted.start hw' |>.step 0 _ |>.step 1 _).eq ?_
    simp [wrote, go_sem]
  repeat (with_reducible refine wpL_skip (by decide) ?_)
  refine wpL_nil ?_
  intro x1 hin
  obtain ⟨hc1, hc2⟩ := hin gc _ _ (Held.at_self _ _ _ _)
  obtain ⟨hb1, hb2⟩ := hin gb _ _ ((Held.at_ne _ _ _ ngbgc).trans (Held.at_self _ _ _ _))
  obtain ⟨ha1, ha2⟩ := hin ga _ _ ((Held.at_ne _ _ _ ngagc).trans ((Held.at_ne _ _ _ ngagb).trans (Held.at_self _ _ _ _)))
  clear hin hga hgb hgc
  have qa0 := cell_block (i := 0) ha2
  have qa1 := cell_block (i := 1) ha2
  have qb0 := cell_block (i := 0) hb2
  have qb1 := cell_block (i := 1) hb2
  have qc1 := cell_block (i := 1) hc2
  simp [wrote, go_sem] at qa0 qa1 qb0 qb1 qc1
  have la := lt_of_get ha2
  have lb := lt_of_get hb2
  have lc := lt_of_get hc2
  clear ha1 hb1 hc1 ha2 hb2 hc2
  have p0 := (x1.cell w.heap.size 0 (by simp; omega)).trans (by simp [go_sem]; rfl)
  have p1 := (x1.cell w.heap.size 1 (by simp; omega)).trans (by simp [go_sem]; rfl)
  have p3 := (x1.cell w.heap.size 3 (by simp; omega)).trans (by simp [go_sem]; rfl)
  have ln : w.heap.size < x1.val.heap.size := by have := x1.size; simp at this; omega
  have hbw : Below w.heap.size w x1.val := by (repeat' (first | (with_reducible exact Below.refl _ _) | (with_reducible refine Below.alloc ?_ ?_ _) | (with_reducible refine Below.drew ?_) | (with_reducible refine Aft.below _ ?_ ?_) | (with_reducible refine Below.setCell_new ?_ ?_ _ _) | (with_reducible exact Nat.le_refl _) | (with_reducible refine Aft.le _ ?_) | (with_reducible refine le_alloc ?_) | (with_reducible refine le_drew ?_) | (with_reducible refine le_setCell ?_) | omega))
  clear ngagb ngagc ngbgc ngbga ngcga ngcgb
  generalize x1.val = W1 at *
  go_wp2_with fail
  refine wp_region_aft (by kernel_rfl) (by kernel_rfl) ?_
  repeat (go_big_quiet_step (fail))
  refine wpQuiet_nil ?_
  intro y
  go_wp2
  go_ret
  exact ⟨retI (by rw [wrapM a0 a1 bw1 bw2]), Below.aft (y.below hbw hbw.size)⟩

set_option maxRecDepth 100000 in
set_option maxHeartbeats 1600000 in
theorem exact_14 (wd v aw av bw bv cw cv : Int) (hw1 : 1 ≤ wd) (hw2 : wd ≤ 16) (a0 : 0 ≤ av) (a1 : av ≤ 65536) (b0 : 0 ≤ bv) (b1 : bv ≤ 65536) (v0 : 0 ≤ v) (v1 : v ≤ 16) (B : Option Addr) (al bc : Nat) (w : World) :
    Calls Tryd.prog 104 #[.agg #[.int .i64 14, .int .i64 wd, .slice B al bc, .int .i64 v], .agg #[.int .i64 aw, .int .i64 av, .int .i64 bw, .int .i64 bv, .int .i64 cw, .int .i64 cv]] w fun e w' => e = .returned (.int .i64 (av / pw v)) ∧ ∃ x : Aft w, w' = x.val := by
  go_enter Tryd.func104, Tryd.ntmps104
  go_wp2_with fail
  refine wp_region_kd [.quiet, .quiet, .quiet, .quiet, .quiet, .quiet, .new (.cells #[.int .i64 0, .int .i64 0] 123), .new (.cells #[.int .i64 0, .int .i64 0] 123), .new (.cells #[.int .i64 0, .int .i64 0] 123), .put (.tmp 5) (.tmp 9), .put (.tmp 6) (.tmp 11), .put (.tmp 7) (.tmp 13)] (by kernel_rfl) (by kernel_rfl) (by kernel_rfl) rfl (by kernel_rfl) ?hF ?_
  case hF =>
    simp only [FitsL, fit1, true_and, and_true]
    repeat' apply And.intro
    all_goals first | rfl | (simp [Op.operands]; done) | (intro a w; go_simp; done)
  repeat (first | (with_reducible refine wpQ_new ?_) | (with_reducible refine wpQ_put ?_) | (with_reducible refine wpQ_late ?_) | (refine wpQ_step (fun K hK => ?_); go_simp; first | (refine hK _ ?_; clear hK K) | (apply Exists.intro; refine ⟨fun _ => ?_, hK _ ?_⟩; (first | fail); clear hK K)))
  refine wpQ_nil ?_
  simp only [wpN]
  intro ga hga
  intro gb hgb
  have ngbga : ¬ gb = ga := by intro h; subst h; simp [Held.put, Held.nil] at hgb
  have ngagb : ¬ ga = gb := fun h => ngbga h.symm
  intro gc hgc
  have ngcga : ¬ gc = ga := by intro h; subst h; simp [Held.put, Held.nil] at hgc
  have ngagc : ¬ ga = gc := fun h => ngcga h.symm
  have ngcgb : ¬ gc = gb := by intro h; subst h; simp [Held.put, Held.nil] at hgc
  have ngbgc : ¬ gb = gc := fun h => ngcgb h.symm
  simp only [wpP]
  refine ⟨ga, _, by simp [go_sem], by simp [Held.put, Held.nil, ngagb, ngagc, ngbga, ngbgc, ngcga, ngcgb]; rfl, ?hx, ?_⟩
  case hx =>
    intro w' hw'
    have q0 := cell_block (i := 0) hw'; have f0 := free_block (i := 0) hw'
    have q1 := cell_block (i := 1) hw'; have f1 := free_block (i := 1) hw'
    simp at q0 q1
    go_simp
    simp only [upPut]
    refine (Setted.start hw' |>.step 0 _ |>.step 1 _).eq ?_
    simp [wrote, go_sem]
  refine ⟨gb, _, by simp [go_sem], by simp [Held.put, Held.nil, ngagb, ngagc, ngbga, ngbgc, ngcga, ngcgb]; rfl, ?hx, ?_⟩
  case hx =>
    intro w' hw'
    have q0 := cell_block (i := 0) hw'; have f0 := free_block (i := 0) hw'
    have q1 := cell_block (i := 1) hw'; have f1 := free_block (i := 1) hw'
    simp at q0 q1
    go_simp
    simp only [upPut]
    refine (Setted.start hw' |>.step 0 _ |>.step 1 _).eq ?_
    simp [wrote, go_sem]
  refine ⟨gc, _, by simp [go_sem], by simp [Held.put, Held.nil, ngagb, ngagc, ngbga, ngbgc, ngcga, ngcgb]; rfl, ?hx, ?_⟩
  case hx =>
    intro w' hw'
    have q0 := cell_block (i := 0) hw'; have f0 := free_block (i := 0) hw'
    have q1 := cell_block (i := 1) hw'; have f1 := free_block (i := 1) hw'
    simp at q0 q1
    go_simp
    simp only [upPut]
    refine (Setted.start hw' |>.step 0 _ |>.step 1 _).eq ?_
    simp [wrote, go_sem]
  repeat (with_reducible refine wpL_skip (by decide) ?_)
  refine wpL_nil ?_
  intro x1 hin
  obtain ⟨hc1, hc2⟩ := hin gc _ _ (Held.at_self _ _ _ _)
  obtain ⟨hb1, hb2⟩ := hin gb _ _ ((Held.at_ne _ _ _ ngbgc).trans (Held.at_self _ _ _ _))
  obtain ⟨ha1, ha2⟩ := hin ga _ _ ((Held.at_ne _ _ _ ngagc).trans ((Held.at_ne _ _ _ ngagb).trans (Held.at_self _ _ _ _)))
  clear hin hga hgb hgc
  have qa0 := cell_block (i := 0) ha2
  have qa1 := cell_block (i := 1) ha2
  have qb0 := cell_block (i := 0) hb2
  have qb1 := cell_block (i := 1) hb2
  have qc1 := cell_block (i := 1) hc2
  simp [wrote, go_sem] at qa0 qa1 qb0 qb1 qc1
  have la := lt_of_get ha2
  have lb := lt_of_get hb2
  have lc := lt_of_get hc2
  clear ha1 hb1 hc1 ha2 hb2 hc2
  have p0 := (x1.cell w.heap.size 0 (by simp; omega)).trans (by simp [go_sem]; rfl)
  have p1 := (x1.cell w.heap.size 1 (by simp; omega)).trans (by simp [go_sem]; rfl)
  have p3 := (x1.cell w.heap.size 3 (by simp; omega)).trans (by simp [go_sem]; rfl)
  have ln : w.heap.size < x1.val.heap.size := by have := x1.size; simp at this; omega
  have hbw : Below w.heap.size w x1.val := by (repeat' (first | (with_reducible exact Below.refl _ _) | (with_reducible refine Below.alloc ?_ ?_ _) | (with_reducible refine Below.drew ?_) | (with_reducible refine Aft.below _ ?_ ?_) | (with_reducible refine Below.setCell_new ?_ ?_ _ _) | (with_reducible exact Nat.le_refl _) | (with_reducible refine Aft.le _ ?_) | (with_reducible refine le_alloc ?_) | (with_reducible refine le_drew ?_) | (with_reducible refine le_setCell ?_) | omega))
  clear ngagb ngagc ngbgc ngbga ngcga ngcgb
  generalize x1.val = W1 at *
  go_wp2
  go_ret
  exact ⟨rfl, Below.aft hbw⟩

set_option maxRecDepth 100000 in
set_option maxHeartbeats 1600000 in
theorem exact_15 (wd v aw av bw bv cw cv : Int) (hw1 : 1 ≤ wd) (hw2 : wd ≤ 16) (a0 : 0 ≤ av) (a1 : av ≤ 65536) (b0 : 0 ≤ bv) (b1 : bv ≤ 65536) (B : Option Addr) (al bc : Nat) (w : World) :
    Calls Tryd.prog 104 #[.agg #[.int .i64 15, .int .i64 wd, .slice B al bc, .int .i64 v], .agg #[.int .i64 aw, .int .i64 av, .int .i64 bw, .int .i64 bv, .int .i64 cw, .int .i64 cv]] w fun e w' => e = .returned (.int .i64 (av)) ∧ ∃ x : Aft w, w' = x.val := by
  go_enter Tryd.func104, Tryd.ntmps104
  go_wp2_with fail
  refine wp_region_kd [.quiet, .quiet, .quiet, .quiet, .quiet, .quiet, .new (.cells #[.int .i64 0, .int .i64 0] 123), .new (.cells #[.int .i64 0, .int .i64 0] 123), .new (.cells #[.int .i64 0, .int .i64 0] 123), .put (.tmp 5) (.tmp 9), .put (.tmp 6) (.tmp 11), .put (.tmp 7) (.tmp 13)] (by kernel_rfl) (by kernel_rfl) (by kernel_rfl) rfl (by kernel_rfl) ?hF ?_
  case hF =>
    simp only [FitsL, fit1, true_and, and_true]
    repeat' apply And.intro
    all_goals first | rfl | (simp [Op.operands]; done) | (intro a w; go_simp; done)
  repeat (first | (with_reducible refine wpQ_new ?_) | (with_reducible refine wpQ_put ?_) | (with_reducible refine wpQ_late ?_) | (refine wpQ_step (fun K hK => ?_); go_simp; first | (refine hK _ ?_; clear hK K) | (apply Exists.intro; refine ⟨fun _ => ?_, hK _ ?_⟩; (first | fail); clear hK K)))
  refine wpQ_nil ?_
  simp only [wpN]
  intro ga hga
  intro gb hgb
  have ngbga : ¬ gb = ga := by intro h; subst h; simp [Held.put, Held.nil] at hgb
  have ngagb : ¬ ga = gb := fun h => ngbga h.symm
  intro gc hgc
  have ngcga : ¬ gc = ga := by intro h; subst h; simp [Held.put, Held.nil] at hgc
  have ngagc : ¬ ga = gc := fun h => ngcga h.symm
  have ngcgb : ¬ gc = gb := by intro h; subst h; simp [Held.put, Held.nil] at hgc
  have ngbgc : ¬ gb = gc := fun h => ngcgb h.symm
  simp only [wpP]
  refine ⟨ga, _, by simp [go_sem], by simp [Held.put, Held.nil, ngagb, ngagc, ngbga, ngbgc, ngcga, ngcgb]; rfl, ?hx, ?_⟩
  case hx =>
    intro w' hw'
    have q0 := cell_block (i := 0) hw'; have f0 := free_block (i := 0) hw'
    have q1 := cell_block (i := 1) hw'; have f1 := free_block (i := 1) hw'
    simp at q0 q1
    go_simp
    simp only [upPut]
    refine (Setted.start hw' |>.step 0 _ |>.step 1 _).eq ?_
    simp [wrote, go_sem]
  refine ⟨gb, _, by simp [go_sem], by simp [Held.put, Held.nil, ngagb, ngagc, ngbga, ngbgc, ngcga, ngcgb]; rfl, ?hx, ?_⟩
  case hx =>
    intro w' hw'
    have q0 := cell_block (i := 0) hw'; have f0 := free_block (i := 0) hw'
    have q1 := cell_block (i := 1) hw'; have f1 := free_block (i := 1) hw'
    simp at q0 q1
    go_simp
    simp only [upPut]
    refine (Setted.start hw' |>.step 0 _ |>.step 1 _).eq ?_
    simp [wrote, go_sem]
  refine ⟨gc, _, by simp [go_sem], by simp [Held.put, Held.nil, ngagb, ngagc, ngbga, ngbgc, ngcga, ngcgb]; rfl, ?hx, ?_⟩
  case hx =>
    intro w' hw'
    have q0 := cell_block (i := 0) hw'; have f0 := free_block (i := 0) hw'
    have q1 := cell_block (i := 1) hw'; have f1 := free_block (i := 1) hw'
    simp at q0 q1
    go_simp
    simp only [upPut]
    refine (Setted.start hw' |>.step 0 _ |>.step 1 _).eq ?_
    simp [wrote, go_sem]
  repeat (with_reducible refine wpL_skip (by decide) ?_)
  refine wpL_nil ?_
  intro x1 hin
  obtain ⟨hc1, hc2⟩ := hin gc _ _ (Held.at_self _ _ _ _)
  obtain ⟨hb1, hb2⟩ := hin gb _ _ ((Held.at_ne _ _ _ ngbgc).trans (Held.at_self _ _ _ _))
  obtain ⟨ha1, ha2⟩ := hin ga _ _ ((Held.at_ne _ _ _ ngagc).trans ((Held.at_ne _ _ _ ngagb).trans (Held.at_self _ _ _ _)))
  clear hin hga hgb hgc
  have qa0 := cell_block (i := 0) ha2
  have qa1 := cell_block (i := 1) ha2
  have qb0 := cell_block (i := 0) hb2
  have qb1 := cell_block (i := 1) hb2
  have qc1 := cell_block (i := 1) hc2
  simp [wrote, go_sem] at qa0 qa1 qb0 qb1 qc1
  have la := lt_of_get ha2
  have lb := lt_of_get hb2
  have lc := lt_of_get hc2
  clear ha1 hb1 hc1 ha2 hb2 hc2
  have p0 := (x1.cell w.heap.size 0 (by simp; omega)).trans (by simp [go_sem]; rfl)
  have p1 := (x1.cell w.heap.size 1 (by simp; omega)).trans (by simp [go_sem]; rfl)
  have p3 := (x1.cell w.heap.size 3 (by simp; omega)).trans (by simp [go_sem]; rfl)
  have ln : w.heap.size < x1.val.heap.size := by have := x1.size; simp at this; omega
  have hbw : Below w.heap.size w x1.val := by (repeat' (first | (with_reducible exact Below.refl _ _) | (with_reducible refine Below.alloc ?_ ?_ _) | (with_reducible refine Below.drew ?_) | (with_reducible refine Aft.below _ ?_ ?_) | (with_reducible refine Below.setCell_new ?_ ?_ _ _) | (with_reducible exact Nat.le_refl _) | (with_reducible refine Aft.le _ ?_) | (with_reducible refine le_alloc ?_) | (with_reducible refine le_drew ?_) | (with_reducible refine le_setCell ?_) | omega))
  clear ngagb ngagc ngbgc ngbga ngcga ngcgb
  generalize x1.val = W1 at *
  go_wp2
  go_ret
  exact ⟨rfl, Below.aft hbw⟩

set_option maxRecDepth 100000 in
set_option maxHeartbeats 1600000 in
theorem exact_16 (wd v aw av bw bv cw cv : Int) (hw1 : 1 ≤ wd) (hw2 : wd ≤ 16) (a0 : 0 ≤ av) (a1 : av ≤ 65536) (b0 : 0 ≤ bv) (b1 : bv ≤ 65536) (aw1 : 1 ≤ aw) (aw2 : aw ≤ 16) (B : Option Addr) (al bc : Nat) (w : World) :
    Calls Tryd.prog 104 #[.agg #[.int .i64 16, .int .i64 wd, .slice B al bc, .int .i64 v], .agg #[.int .i64 aw, .int .i64 av, .int .i64 bw, .int .i64 bv, .int .i64 cw, .int .i64 cv]] w fun e w' => e = .returned (.int .i64 (sgG aw av)) ∧ ∃ x : Aft w, w' = x.val := by
  go_enter Tryd.func104, Tryd.ntmps104
  go_wp2_with fail
  refine wp_region_kd [.quiet, .quiet, .quiet, .quiet, .quiet, .quiet, .new (.cells #[.int .i64 0, .int .i64 0] 123), .new (.cells #[.int .i64 0, .int .i64 0] 123), .new (.cells #[.int .i64 0, .int .i64 0] 123), .put (.tmp 5) (.tmp 9), .put (.tmp 6) (.tmp 11), .put (.tmp 7) (.tmp 13)] (by kernel_rfl) (by kernel_rfl) (by kernel_rfl) rfl (by kernel_rfl) ?hF ?_
  case hF =>
    simp only [FitsL, fit1, true_and, and_true]
    repeat' apply And.intro
    all_goals first | rfl | (simp [Op.operands]; done) | (intro a w; go_simp; done)
  repeat (first | (with_reducible refine wpQ_new ?_) | (with_reducible refine wpQ_put ?_) | (with_reducible refine wpQ_late ?_) | (refine wpQ_step (fun K hK => ?_); go_simp; first | (refine hK _ ?_; clear hK K) | (apply Exists.intro; refine ⟨fun _ => ?_, hK _ ?_⟩; (first | fail); clear hK K)))
  refine wpQ_nil ?_
  simp only [wpN]
  intro ga hga
  intro gb hgb
  have ngbga : ¬ gb = ga := by intro h; subst h; simp [Held.put, Held.nil] at hgb
  have ngagb : ¬ ga = gb := fun h => ngbga h.symm
  intro gc hgc
  have ngcga : ¬ gc = ga := by intro h; subst h; simp [Held.put, Held.nil] at hgc
  have ngagc : ¬ ga = gc := fun h => ngcga h.symm
  have ngcgb : ¬ gc = gb := by intro h; subst h; simp [Held.put, Held.nil] at hgc
  have ngbgc : ¬ gb = gc := fun h => ngcgb h.symm
  simp only [wpP]
  refine ⟨ga, _, by simp [go_sem], by simp [Held.put, Held.nil, ngagb, ngagc, ngbga, ngbgc, ngcga, ngcgb]; rfl, ?hx, ?_⟩
  case hx =>
    intro w' hw'
    have q0 := cell_block (i := 0) hw'; have f0 := free_block (i := 0) hw'
    have q1 := cell_block (i := 1) hw'; have f1 := free_block (i := 1) hw'
    simp at q0 q1
    go_simp
    simp only [upPut]
    refine (Setted.start hw' |>.step 0 _ |>.step 1 _).eq ?_
    simp [wrote, go_sem]
  refine ⟨gb, _, by simp [go_sem], by simp [Held.put, Held.nil, ngagb, ngagc, ngbga, ngbgc, ngcga, ngcgb]; rfl, ?hx, ?_⟩
  case hx =>
    intro w' hw'
    have q0 := cell_block (i := 0) hw'; have f0 := free_block (i := 0) hw'
    have q1 := cell_block (i := 1) hw'; have f1 := free_block (i := 1) hw'
    simp at q0 q1
    go_simp
    simp only [upPut]
    refine (Setted.start hw' |>.step 0 _ |>.step 1 _).eq ?_
    simp [wrote, go_sem]
  refine ⟨gc, _, by simp [go_sem], by simp [Held.put, Held.nil, ngagb, ngagc, ngbga, ngbgc, ngcga, ngcgb]; rfl, ?hx, ?_⟩
  case hx =>
    intro w' hw'
    have q0 := cell_block (i := 0) hw'; have f0 := free_block (i := 0) hw'
    have q1 := cell_block (i := 1) hw'; have f1 := free_block (i := 1) hw'
    simp at q0 q1
    go_simp
    simp only [upPut]
    refine (Setted.start hw' |>.step 0 _ |>.step 1 _).eq ?_
    simp [wrote, go_sem]
  repeat (with_reducible refine wpL_skip (by decide) ?_)
  refine wpL_nil ?_
  intro x1 hin
  obtain ⟨hc1, hc2⟩ := hin gc _ _ (Held.at_self _ _ _ _)
  obtain ⟨hb1, hb2⟩ := hin gb _ _ ((Held.at_ne _ _ _ ngbgc).trans (Held.at_self _ _ _ _))
  obtain ⟨ha1, ha2⟩ := hin ga _ _ ((Held.at_ne _ _ _ ngagc).trans ((Held.at_ne _ _ _ ngagb).trans (Held.at_self _ _ _ _)))
  clear hin hga hgb hgc
  have qa0 := cell_block (i := 0) ha2
  have qa1 := cell_block (i := 1) ha2
  have qb0 := cell_block (i := 0) hb2
  have qb1 := cell_block (i := 1) hb2
  have qc1 := cell_block (i := 1) hc2
  simp [wrote, go_sem] at qa0 qa1 qb0 qb1 qc1
  have la := lt_of_get ha2
  have lb := lt_of_get hb2
  have lc := lt_of_get hc2
  clear ha1 hb1 hc1 ha2 hb2 hc2
  have p0 := (x1.cell w.heap.size 0 (by simp; omega)).trans (by simp [go_sem]; rfl)
  have p1 := (x1.cell w.heap.size 1 (by simp; omega)).trans (by simp [go_sem]; rfl)
  have p3 := (x1.cell w.heap.size 3 (by simp; omega)).trans (by simp [go_sem]; rfl)
  have ln : w.heap.size < x1.val.heap.size := by have := x1.size; simp at this; omega
  have hbw : Below w.heap.size w x1.val := by (repeat' (first | (with_reducible exact Below.refl _ _) | (with_reducible refine Below.alloc ?_ ?_ _) | (with_reducible refine Below.drew ?_) | (with_reducible refine Aft.below _ ?_ ?_) | (with_reducible refine Below.setCell_new ?_ ?_ _ _) | (with_reducible exact Nat.le_refl _) | (with_reducible refine Aft.le _ ?_) | (with_reducible refine le_alloc ?_) | (with_reducible refine le_drew ?_) | (with_reducible refine le_setCell ?_) | omega))
  clear ngagb ngagc ngbgc ngbga ngcga ngcgb
  generalize x1.val = W1 at *
  go_wp2_with (first | (go_at_call 109; refine (signed_c _ _ (by omega) (by omega) (by omega) (by omega) _).mono ?_; rintro e w' ⟨rfl, x2, rfl⟩))
  go_ret
  exact ⟨rfl, Below.aft (x2.below hbw hbw.size)⟩

set_option maxRecDepth 100000 in
set_option maxHeartbeats 1600000 in
theorem exact_17 (wd v aw av bw bv cw cv : Int) (hw1 : 1 ≤ wd) (hw2 : wd ≤ 16) (a0 : 0 ≤ av) (a1 : av ≤ 65536) (b0 : 0 ≤ bv) (b1 : bv ≤ 65536) (B : Option Addr) (al bc : Nat) (w : World) :
    Calls Tryd.prog 104 #[.agg #[.int .i64 17, .int .i64 wd, .slice B al bc, .int .i64 v], .agg #[.int .i64 aw, .int .i64 av, .int .i64 bw, .int .i64 bv, .int .i64 cw, .int .i64 cv]] w fun e w' => e = .returned (.int .i64 (av * pw (min bv wd))) ∧ ∃ x : Aft w, w' = x.val := by
  go_enter Tryd.func104, Tryd.ntmps104
  go_wp2_with fail
  refine wp_region_kd [.quiet, .quiet, .quiet, .quiet, .quiet, .quiet, .new (.cells #[.int .i64 0, .int .i64 0] 123), .new (.cells #[.int .i64 0, .int .i64 0] 123), .new (.cells #[.int .i64 0, .int .i64 0] 123), .put (.tmp 5) (.tmp 9), .put (.tmp 6) (.tmp 11), .put (.tmp 7) (.tmp 13)] (by kernel_rfl) (by kernel_rfl) (by kernel_rfl) rfl (by kernel_rfl) ?hF ?_
  case hF =>
    simp only [FitsL, fit1, true_and, and_true]
    repeat' apply And.intro
    all_goals first | rfl | (simp [Op.operands]; done) | (intro a w; go_simp; done)
  repeat (first | (with_reducible refine wpQ_new ?_) | (with_reducible refine wpQ_put ?_) | (with_reducible refine wpQ_late ?_) | (refine wpQ_step (fun K hK => ?_); go_simp; first | (refine hK _ ?_; clear hK K) | (apply Exists.intro; refine ⟨fun _ => ?_, hK _ ?_⟩; (first | fail); clear hK K)))
  refine wpQ_nil ?_
  simp only [wpN]
  intro ga hga
  intro gb hgb
  have ngbga : ¬ gb = ga := by intro h; subst h; simp [Held.put, Held.nil] at hgb
  have ngagb : ¬ ga = gb := fun h => ngbga h.symm
  intro gc hgc
  have ngcga : ¬ gc = ga := by intro h; subst h; simp [Held.put, Held.nil] at hgc
  have ngagc : ¬ ga = gc := fun h => ngcga h.symm
  have ngcgb : ¬ gc = gb := by intro h; subst h; simp [Held.put, Held.nil] at hgc
  have ngbgc : ¬ gb = gc := fun h => ngcgb h.symm
  simp only [wpP]
  refine ⟨ga, _, by simp [go_sem], by simp [Held.put, Held.nil, ngagb, ngagc, ngbga, ngbgc, ngcga, ngcgb]; rfl, ?hx, ?_⟩
  case hx =>
    intro w' hw'
    have q0 := cell_block (i := 0) hw'; have f0 := free_block (i := 0) hw'
    have q1 := cell_block (i := 1) hw'; have f1 := free_block (i := 1) hw'
    simp at q0 q1
    go_simp
    simp only [upPut]
    refine (Setted.start hw' |>.step 0 _ |>.step 1 _).eq ?_
    simp [wrote, go_sem]
  refine ⟨gb, _, by simp [go_sem], by simp [Held.put, Held.nil, ngagb, ngagc, ngbga, ngbgc, ngcga, ngcgb]; rfl, ?hx, ?_⟩
  case hx =>
    intro w' hw'
    have q0 := cell_block (i := 0) hw'; have f0 := free_block (i := 0) hw'
    have q1 := cell_block (i := 1) hw'; have f1 := free_block (i := 1) hw'
    simp at q0 q1
    go_simp
    simp only [upPut]
    refine (Setted.start hw' |>.step 0 _ |>.step 1 _).eq ?_
    simp [wrote, go_sem]
  refine ⟨gc, _, by simp [go_sem], by simp [Held.put, Held.nil, ngagb, ngagc, ngbga, ngbgc, ngcga, ngcgb]; rfl, ?hx, ?_⟩
  case hx =>
    intro w' hw'
    have q0 := cell_block (i := 0) hw'; have f0 := free_block (i := 0) hw'
    have q1 := cell_block (i := 1) hw'; have f1 := free_block (i := 1) hw'
    simp at q0 q1
    go_simp
    simp only [upPut]
    refine (Setted.start hw' |>.step 0 _ |>.step 1 _).eq ?_
    simp [wrote, go_sem]
  repeat (with_reducible refine wpL_skip (by decide) ?_)
  refine wpL_nil ?_
  intro x1 hin
  obtain ⟨hc1, hc2⟩ := hin gc _ _ (Held.at_self _ _ _ _)
  obtain ⟨hb1, hb2⟩ := hin gb _ _ ((Held.at_ne _ _ _ ngbgc).trans (Held.at_self _ _ _ _))
  obtain ⟨ha1, ha2⟩ := hin ga _ _ ((Held.at_ne _ _ _ ngagc).trans ((Held.at_ne _ _ _ ngagb).trans (Held.at_self _ _ _ _)))
  clear hin hga hgb hgc
  have qa0 := cell_block (i := 0) ha2
  have qa1 := cell_block (i := 1) ha2
  have qb0 := cell_block (i := 0) hb2
  have qb1 := cell_block (i := 1) hb2
  have qc1 := cell_block (i := 1) hc2
  simp [wrote, go_sem] at qa0 qa1 qb0 qb1 qc1
  have la := lt_of_get ha2
  have lb := lt_of_get hb2
  have lc := lt_of_get hc2
  clear ha1 hb1 hc1 ha2 hb2 hc2
  have p0 := (x1.cell w.heap.size 0 (by simp; omega)).trans (by simp [go_sem]; rfl)
  have p1 := (x1.cell w.heap.size 1 (by simp; omega)).trans (by simp [go_sem]; rfl)
  have p3 := (x1.cell w.heap.size 3 (by simp; omega)).trans (by simp [go_sem]; rfl)
  have ln : w.heap.size < x1.val.heap.size := by have := x1.size; simp at this; omega
  have hbw : Below w.heap.size w x1.val := by (repeat' (first | (with_reducible exact Below.refl _ _) | (with_reducible refine Below.alloc ?_ ?_ _) | (with_reducible refine Below.drew ?_) | (with_reducible refine Aft.below _ ?_ ?_) | (with_reducible refine Below.setCell_new ?_ ?_ _ _) | (with_reducible exact Nat.le_refl _) | (with_reducible refine Aft.le _ ?_) | (with_reducible refine le_alloc ?_) | (with_reducible refine le_drew ?_) | (with_reducible refine le_setCell ?_) | omega))
  clear ngagb ngagc ngbgc ngbga ngcga ngcgb
  generalize x1.val = W1 at *
  have HM1 := Lib.hid (show bv ≤ wd → min bv wd = bv from fun h => Int.min_eq_left h)
  have HM2 := Lib.hid (show wd ≤ bv → min bv wd = wd from fun h => Int.min_eq_right h)
  by_cases h : bv ≤ wd
  · go_wp2
    all_goals
      go_ret
      exact ⟨retI (by rw [HM1.out h]; exact wrapM a0 a1 b0 (by omega)), Below.aft hbw⟩
  · have h2 : wd ≤ bv := by omega
    go_wp2
    all_goals
      go_ret
      exact ⟨retI (by rw [HM2.out h2]; exact wrapM a0 a1 (by omega) hw2), Below.aft hbw⟩

set_option maxRecDepth 100000 in
set_option maxHeartbeats 1600000 in
theorem exact_18 (wd v aw av bw bv cw cv : Int) (hw1 : 1 ≤ wd) (hw2 : wd ≤ 16) (a0 : 0 ≤ av) (a1 : av ≤ 65536) (b0 : 0 ≤ bv) (b1 : bv ≤ 65536) (B : Option Addr) (al bc : Nat) (w : World) :
    Calls Tryd.prog 104 #[.agg #[.int .i64 18, .int .i64 wd, .slice B al bc, .int .i64 v], .agg #[.int .i64 aw, .int .i64 av, .int .i64 bw, .int .i64 bv, .int .i64 cw, .int .i64 cv]] w fun e w' => e = .returned (.int .i64 (av / pw (min bv wd))) ∧ ∃ x : Aft w, w' = x.val := by
  go_enter Tryd.func104, Tryd.ntmps104
  go_wp2_with fail
  refine wp_region_kd [.quiet, .quiet, .quiet, .quiet, .quiet, .quiet, .new (.cells #[.int .i64 0, .int .i64 0] 123), .new (.cells #[.int .i64 0, .int .i64 0] 123), .new (.cells #[.int .i64 0, .int .i64 0] 123), .put (.tmp 5) (.tmp 9), .put (.tmp 6) (.tmp 11), .put (.tmp 7) (.tmp 13)] (by kernel_rfl) (by kernel_rfl) (by kernel_rfl) rfl (by kernel_rfl) ?hF ?_
  case hF =>
    simp only [FitsL, fit1, true_and, and_true]
    repeat' apply And.intro
    all_goals first | rfl | (simp [Op.operands]; done) | (intro a w; go_simp; done)
  repeat (first | (with_reducible refine wpQ_new ?_) | (with_reducible refine wpQ_put ?_) | (with_reducible refine wpQ_late ?_) | (refine wpQ_step (fun K hK => ?_); go_simp; first | (refine hK _ ?_; clear hK K) | (apply Exists.intro; refine ⟨fun _ => ?_, hK _ ?_⟩; (first | fail); clear hK K)))
  refine wpQ_nil ?_
  simp only [wpN]
  intro ga hga
  intro gb hgb
  have ngbga : ¬ gb = ga := by intro h; subst h; simp [Held.put, Held.nil] at hgb
  have ngagb : ¬ ga = gb := fun h => ngbga h.symm
  intro gc hgc
  have ngcga : ¬ gc = ga := by intro h; subst h; simp [Held.put, Held.nil] at hgc
  have ngagc : ¬ ga = gc := fun h => ngcga h.symm
  have ngcgb : ¬ gc = gb := by intro h; subst h; simp [Held.put, Held.nil] at hgc
  have ngbgc : ¬ gb = gc := fun h => ngcgb h.symm
  simp only [wpP]
  refine ⟨ga, _, by simp [go_sem], by simp [Held.put, Held.nil, ngagb, ngagc, ngbga, ngbgc, ngcga, ngcgb]; rfl, ?hx, ?_⟩
  case hx =>
    intro w' hw'
    have q0 := cell_block (i := 0) hw'; have f0 := free_block (i := 0) hw'
    have q1 := cell_block (i := 1) hw'; have f1 := free_block (i := 1) hw'
    simp at q0 q1
    go_simp
    simp only [upPut]
    refine (Setted.start hw' |>.step 0 _ |>.step 1 _).eq ?_
    simp [wrote, go_sem]
  refine ⟨gb, _, by simp [go_sem], by simp [Held.put, Held.nil, ngagb, ngagc, ngbga, ngbgc, ngcga, ngcgb]; rfl, ?hx, ?_⟩
  case hx =>
    intro w' hw'
    have q0 := cell_block (i := 0) hw'; have f0 := free_block (i := 0) hw'
    have q1 := cell_block (i := 1) hw'; have f1 := free_block (i := 1) hw'
    simp at q0 q1
    go_simp
    simp only [upPut]
    refine (Setted.start hw' |>.step 0 _ |>.step 1 _).eq ?_
    simp [wrote, go_sem]
  refine ⟨gc, _, by simp [go_sem], by simp [Held.put, Held.nil, ngagb, ngagc, ngbga, ngbgc, ngcga, ngcgb]; rfl, ?hx, ?_⟩
  case hx =>
    intro w' hw'
    have q0 := cell_block (i := 0) hw'; have f0 := free_block (i := 0) hw'
    have q1 := cell_block (i := 1) hw'; have f1 := free_block (i := 1) hw'
    simp at q0 q1
    go_simp
    simp only [upPut]
    refine (Setted.start hw' |>.step 0 _ |>.step 1 _).eq ?_
    simp [wrote, go_sem]
  repeat (with_reducible refine wpL_skip (by decide) ?_)
  refine wpL_nil ?_
  intro x1 hin
  obtain ⟨hc1, hc2⟩ := hin gc _ _ (Held.at_self _ _ _ _)
  obtain ⟨hb1, hb2⟩ := hin gb _ _ ((Held.at_ne _ _ _ ngbgc).trans (Held.at_self _ _ _ _))
  obtain ⟨ha1, ha2⟩ := hin ga _ _ ((Held.at_ne _ _ _ ngagc).trans ((Held.at_ne _ _ _ ngagb).trans (Held.at_self _ _ _ _)))
  clear hin hga hgb hgc
  have qa0 := cell_block (i := 0) ha2
  have qa1 := cell_block (i := 1) ha2
  have qb0 := cell_block (i := 0) hb2
  have qb1 := cell_block (i := 1) hb2
  have qc1 := cell_block (i := 1) hc2
  simp [wrote, go_sem] at qa0 qa1 qb0 qb1 qc1
  have la := lt_of_get ha2
  have lb := lt_of_get hb2
  have lc := lt_of_get hc2
  clear ha1 hb1 hc1 ha2 hb2 hc2
  have p0 := (x1.cell w.heap.size 0 (by simp; omega)).trans (by simp [go_sem]; rfl)
  have p1 := (x1.cell w.heap.size 1 (by simp; omega)).trans (by simp [go_sem]; rfl)
  have p3 := (x1.cell w.heap.size 3 (by simp; omega)).trans (by simp [go_sem]; rfl)
  have ln : w.heap.size < x1.val.heap.size := by have := x1.size; simp at this; omega
  have hbw : Below w.heap.size w x1.val := by (repeat' (first | (with_reducible exact Below.refl _ _) | (with_reducible refine Below.alloc ?_ ?_ _) | (with_reducible refine Below.drew ?_) | (with_reducible refine Aft.below _ ?_ ?_) | (with_reducible refine Below.setCell_new ?_ ?_ _ _) | (with_reducible exact Nat.le_refl _) | (with_reducible refine Aft.le _ ?_) | (with_reducible refine le_alloc ?_) | (with_reducible refine le_drew ?_) | (with_reducible refine le_setCell ?_) | omega))
  clear ngagb ngagc ngbgc ngbga ngcga ngcgb
  generalize x1.val = W1 at *
  have HM1 := Lib.hid (show bv ≤ wd → min bv wd = bv from fun h => Int.min_eq_left h)
  have HM2 := Lib.hid (show wd ≤ bv → min bv wd = wd from fun h => Int.min_eq_right h)
  by_cases h : bv ≤ wd
  · go_wp2
    all_goals
      go_ret
      exact ⟨retI (by rw [HM1.out h]; rfl), Below.aft hbw⟩
  · have h2 : wd ≤ bv := by omega
    go_wp2
    all_goals
      go_ret
      exact ⟨retI (by rw [HM2.out h2]; rfl), Below.aft hbw⟩

end Go.Proofs.YtkdonapgonegkaaDoor
