/-
  Contracts of chapter 2 (graph): the exact value of a node by those of its arguments.
-/
import Derived.Test.YtkdonapgonegkaaGreatDoorZc
import Derived.Test.YtkdonapgonegkaaGreatDoorZb
import Derived.Laws.OwnMore
set_option linter.unusedSimpArgs false
set_option linter.unusedVariables false
namespace Go.Proofs.YtkdonapgonegkaaGreatDoor
open Go.RowKit Go.BigFrame

theorem flag_c (b : Bool) (w : World) : Calls Tryz.prog 121 #[.bool b] w fun e w' => e = .returned (.int .i64 (fl b)) ∧ w = w' := by
  cases b
  all_goals
    go_enter Tryz.func121, Tryz.ntmps121
    go_wp2
    go_ret
    exact ⟨rfl, rfl⟩

/-- A value as a two's complement. -/
def sgG (wd v : Int) : Int := if pw (wd - 1) - 1 < v then v - (pw wd - 1) - 1 else v

set_option maxRecDepth 100000 in
set_option maxHeartbeats 1600000 in
theorem signed_c (aw av : Int) (h1 : 1 ≤ aw) (h2 : aw ≤ 16) (a0 : 0 ≤ av) (a1 : av ≤ 65536) (w : World) : Calls Tryz.prog 122 #[.agg #[.int .i64 aw, .int .i64 av]] w fun e w' => e = .returned (.int .i64 (sgG aw av)) ∧ ∃ x : Aft w, w' = x.val := by
  have hp := pw_bd (n := aw) (by omega) h2
  by_cases h : pw (aw - 1) - 1 < av
  · have HR := Lib.hid (show sgG aw av = av - (pw aw - 1) - 1 by unfold sgG; rw [if_pos h])
    go_enter Tryz.func122, Tryz.ntmps122
    go_wp2_with fail
    refine wp_region_aft (by kernel_rfl) (by kernel_rfl) ?_
    repeat (go_big_quiet_step (first | (go_at_call 98; exact Calls.qs (highest_c _ (by omega) (by omega) _))))
    refine wpQuiet_nil ?_
    intro x
    have hx : w.heap.size < x.val.heap.size := by have := x.size; simp at this; omega
    go_wp2_with fail
    refine wp_region_aft (by kernel_rfl) (by kernel_rfl) ?_
    repeat (go_big_quiet_step (first | (go_at_call 98; exact Calls.qs (highest_c _ (by omega) (by omega) _))))
    refine wpQuiet_nil ?_
    intro y
    go_wp2
    go_ret
    exact ⟨retI (by rw [HR.out]), Below.aft (by (repeat' (first | (with_reducible exact Below.refl _ _) | (with_reducible assumption) | (with_reducible refine Below.alloc ?_ ?_ _) | (with_reducible refine Below.drew ?_) | (with_reducible refine Aft.below _ ?_ ?_) | (with_reducible refine Below.setCell_new ?_ ?_ _ _) | (with_reducible exact Nat.le_refl _) | (with_reducible refine Aft.le _ ?_) | (with_reducible refine le_alloc ?_) | (with_reducible refine le_drew ?_) | (with_reducible refine le_setCell ?_) | omega)))⟩
  · have HR := Lib.hid (show sgG aw av = av by unfold sgG; rw [if_neg h])
    go_enter Tryz.func122, Tryz.ntmps122
    go_wp2_with fail
    refine wp_region_aft (by kernel_rfl) (by kernel_rfl) ?_
    repeat (go_big_quiet_step (first | (go_at_call 98; exact Calls.qs (highest_c _ (by omega) (by omega) _))))
    refine wpQuiet_nil ?_
    intro x
    have hx : w.heap.size < x.val.heap.size := by have := x.size; simp at this; omega
    go_wp2
    go_ret
    exact ⟨retI (by rw [HR.out]), Below.aft (by (repeat' (first | (with_reducible exact Below.refl _ _) | (with_reducible assumption) | (with_reducible refine Below.alloc ?_ ?_ _) | (with_reducible refine Below.drew ?_) | (with_reducible refine Aft.below _ ?_ ?_) | (with_reducible refine Below.setCell_new ?_ ?_ _ _) | (with_reducible exact Nat.le_refl _) | (with_reducible refine Aft.le _ ?_) | (with_reducible refine le_alloc ?_) | (with_reducible refine le_drew ?_) | (with_reducible refine le_setCell ?_) | omega)))⟩

set_option maxRecDepth 100000 in
set_option maxHeartbeats 1600000 in
theorem exact_0 (wd v aw av bw bv cw cv : Int) (hw1 : 1 ≤ wd) (hw2 : wd ≤ 16) (a0 : 0 ≤ av) (a1 : av ≤ 65536) (b0 : 0 ≤ bv) (b1 : bv ≤ 65536) (B : Option Addr) (al bc : Nat) (w : World) :
    Calls Tryz.prog 108 #[.agg #[.int .i64 0, .int .i64 wd, .slice B al bc, .int .i64 v], .agg #[.int .i64 aw, .int .i64 av, .int .i64 bw, .int .i64 bv, .int .i64 cw, .int .i64 cv]] w fun e w' => e = .returned (.int .i64 (v)) ∧ ∃ x : Aft w, w' = x.val := by
  go_enter Tryz.func108, Tryz.ntmps108
  go_wp2_with fail
  refine wp_region_kd [.quiet, .quiet, .quiet, .quiet, .quiet, .quiet, .new (.cells #[.int .i64 0, .int .i64 0] 114), .new (.cells #[.int .i64 0, .int .i64 0] 114), .new (.cells #[.int .i64 0, .int .i64 0] 114), .put (.tmp 5) (.tmp 9), .put (.tmp 6) (.tmp 11), .put (.tmp 7) (.tmp 13)] (by kernel_rfl) (by kernel_rfl) (by kernel_rfl) rfl (by kernel_rfl) ?hF ?_
  case hF =>
    simp only [FitsL, fit1, true_and, and_true]
    repeat' apply And.intro
    all_goals first | rfl | (simp [Op.operands]; done) | (intro a w; go_simp; done)
  repeat (first | (with_reducible refine wpQ_new ?_) | (with_reducible refine wpQ_put ?_) | (with_reducible refine wpQ_late ?_) | (refine wpQ_step (fun K hK => ?_); go_simp; first | (refine hK _ ?_; clear hK K) | (apply Exists.intro; refine ⟨fun _ => ?_, hK _ ?_⟩; (first | fail); clear hK K)))
  refine wpQ_nil ?_
  simp only [wpN]
  intro ga hga
  intro gb hgb
  have ngbga : ¬ gb = ga := by intro h; subst h; simp [Held.put, Held.nil] at hgb
  have ngagb : ¬ ga = gb := fun h => ngbga h.symm
  intro gc hgc
  have ngcga : ¬ gc = ga := by intro h; subst h; simp [Held.put, Held.nil] at hgc
  have ngagc : ¬ ga = gc := fun h => ngcga h.symm
  have ngcgb : ¬ gc = gb := by intro h; subst h; simp [Held.put, Held.nil] at hgc
  have ngbgc : ¬ gb = gc := fun h => ngcgb h.symm
  simp only [wpP]
  refine ⟨ga, _, by simp [go_sem], by simp [Held.put, Held.nil, ngagb, ngagc, ngbga, ngbgc, ngcga, ngcgb]; rfl, ?hx, ?_⟩
  case hx =>
    intro w' hw'
    have q0 := cell_block (i := 0) hw'; have f0 := free_block (i := 0) hw'
    have q1 := cell_block (i := 1) hw'; have f1 := free_block (i := 1) hw'
    simp at q0 q1
    go_simp
    simp only [upPut]
    refine (Setted.start hw' |>.step 0 _ |>.step 1 _).eq ?_
    simp [wrote, go_sem]
  refine ⟨gb, _, by simp [go_sem], by simp [Held.put, Held.nil, ngagb, ngagc, ngbga, ngbgc, ngcga, ngcgb]; rfl, ?hx, ?_⟩
  case hx =>
    intro w' hw'
    have q0 := cell_block (i := 0) hw'; have f0 := free_block (i := 0) hw'
    have q1 := cell_block (i := 1) hw'; have f1 := free_block (i := 1) hw'
    simp at q0 q1
    go_simp
    simp only [upPut]
    refine (Setted.start hw' |>.step 0 _ |>.step 1 _).eq ?_
    simp [wrote, go_sem]
  refine ⟨gc, _, by simp [go_sem], by simp [Held.put, Held.nil, ngagb, ngagc, ngbga, ngbgc, ngcga, ngcgb]; rfl, ?hx, ?_⟩
  case hx =>
    intro w' hw'
    have q0 := cell_block (i := 0) hw'; have f0 := free_block (i := 0) hw'
    have q1 := cell_block (i := 1) hw'; have f1 := free_block (i := 1) hw'
    simp at q0 q1
    go_simp
    simp only [upPut]
    refine (Setted.start hw' |>.step 0 _ |>.step 1 _).eq ?_
    simp [wrote, go_sem]
  repeat (with_reducible refine wpL_skip (by decide) ?_)
  refine wpL_nil ?_
  intro x1 hin
  obtain ⟨hc1, hc2⟩ := hin gc _ _ (Held.at_self _ _ _ _)
  obtain ⟨hb1, hb2⟩ := hin gb _ _ ((Held.at_ne _ _ _ ngbgc).trans (Held.at_self _ _ _ _))
  obtain ⟨ha1, ha2⟩ := hin ga _ _ ((Held.at_ne _ _ _ ngagc).trans ((Held.at_ne _ _ _ ngagb).trans (Held.at_self _ _ _ _)))
  clear hin hga hgb hgc
  have qa0 := cell_block (i := 0) ha2
  have qa1 := cell_block (i := 1) ha2
  have qb0 := cell_block (i := 0) hb2
  have qb1 := cell_block (i := 1) hb2
  have qc1 := cell_block (i := 1) hc2
  simp [wrote, go_sem] at qa0 qa1 qb0 qb1 qc1
  have la := lt_of_get ha2
  have lb := lt_of_get hb2
  have lc := lt_of_get hc2
  clear ha1 hb1 hc1 ha2 hb2 hc2
  have p0 := (x1.cell w.heap.size 0 (by simp; omega)).trans (by simp [go_sem]; rfl)
  have p1 := (x1.cell w.heap.size 1 (by simp; omega)).trans (by simp [go_sem]; rfl)
  have p3 := (x1.cell w.heap.size 3 (by simp; omega)).trans (by simp [go_sem]; rfl)
  have ln : w.heap.size < x1.val.heap.size := by have := x1.size; simp at this; omega
  have hbw : Below w.heap.size w x1.val := by (repeat' (first | (with_reducible exact Below.refl _ _) | (with_reducible refine Below.alloc ?_ ?_ _) | (with_reducible refine Below.drew ?_) | (with_reducible refine Aft.below _ ?_ ?_) | (with_reducible refine Below.setCell_new ?_ ?_ _ _) | (with_reducible exact Nat.le_refl _) | (with_reducible refine Aft.le _ ?_) | (with_reducible refine le_alloc ?_) | (with_reducible refine le_drew ?_) | (with_reducible refine le_setCell ?_) | omega))
  clear ngagb ngagc ngbgc ngbga ngcga ngcgb
  generalize x1.val = W1 at *
  go_wp2
  go_ret
  exact ⟨rfl, Below.aft hbw⟩

set_option maxRecDepth 100000 in
set_option maxHeartbeats 1600000 in
theorem exact_1 (wd v aw av bw bv cw cv : Int) (hw1 : 1 ≤ wd) (hw2 : wd ≤ 16) (a0 : 0 ≤ av) (a1 : av ≤ 65536) (b0 : 0 ≤ bv) (b1 : bv ≤ 65536) (B : Option Addr) (al bc : Nat) (w : World) :
    Calls Tryz.prog 108 #[.agg #[.int .i64 1, .int .i64 wd, .slice B al bc, .int .i64 v], .agg #[.int .i64 aw, .int .i64 av, .int .i64 bw, .int .i64 bv, .int .i64 cw, .int .i64 cv]] w fun e w' => e = .returned (.int .i64 (v)) ∧ ∃ x : Aft w, w' = x.val := by
  go_enter Tryz.func108, Tryz.ntmps108
  go_wp2_with fail
  refine wp_region_kd [.quiet, .quiet, .quiet, .quiet, .quiet, .quiet, .new (.cells #[.int .i64 0, .int .i64 0] 114), .new (.cells #[.int .i64 0, .int .i64 0] 114), .new (.cells #[.int .i64 0, .int .i64 0] 114), .put (.tmp 5) (.tmp 9), .put (.tmp 6) (.tmp 11), .put (.tmp 7) (.tmp 13)] (by kernel_rfl) (by kernel_rfl) (by kernel_rfl) rfl (by kernel_rfl) ?hF ?_
  case hF =>
    simp only [FitsL, fit1, true_and, and_true]
    repeat' apply And.intro
    all_goals first | rfl | (simp [Op.operands]; done) | (intro a w; go_simp; done)
  repeat (first | (with_reducible refine wpQ_new ?_) | (with_reducible refine wpQ_put ?_) | (with_reducible refine wpQ_late ?_) | (refine wpQ_step (fun K hK => ?_); go_simp; first | (refine hK _ ?_; clear hK K) | (apply Exists.intro; refine ⟨fun _ => ?_, hK _ ?_⟩; (first | fail); clear hK K)))
  refine wpQ_nil ?_
  simp only [wpN]
  intro ga hga
  intro gb hgb
  have ngbga : ¬ gb = ga := by intro h; subst h; simp [Held.put, Held.nil] at hgb
  have ngagb : ¬ ga = gb := fun h => ngbga h.symm
  intro gc hgc
  have ngcga : ¬ gc = ga := by intro h; subst h; simp [Held.put, Held.nil] at hgc
  have ngagc : ¬ ga = gc := fun h => ngcga h.symm
  have ngcgb : ¬ gc = gb := by intro h; subst h; simp [Held.put, Held.nil] at hgc
  have ngbgc : ¬ gb = gc := fun h => ngcgb h.symm
  simp only [wpP]
  refine ⟨ga, _, by simp [go_sem], by simp [Held.put, Held.nil, ngagb, ngagc, ngbga, ngbgc, ngcga, ngcgb]; rfl, ?hx, ?_⟩
  case hx =>
    intro w' hw'
    have q0 := cell_block (i := 0) hw'; have f0 := free_block (i := 0) hw'
    have q1 := cell_block (i := 1) hw'; have f1 := free_block (i := 1) hw'
    simp at q0 q1
    go_simp
    simp only [upPut]
    refine (Setted.start hw' |>.step 0 _ |>.step 1 _).eq ?_
    simp [wrote, go_sem]
  refine ⟨gb, _, by simp [go_sem], by simp [Held.put, Held.nil, ngagb, ngagc, ngbga, ngbgc, ngcga, ngcgb]; rfl, ?hx, ?_⟩
  case hx =>
    intro w' hw'
    have q0 := cell_block (i := 0) hw'; have f0 := free_block (i := 0) hw'
    have q1 := cell_block (i := 1) hw'; have f1 := free_block (i := 1) hw'
    simp at q0 q1
    go_simp
    simp only [upPut]
    refine (Setted.start hw' |>.step 0 _ |>.step 1 _).eq ?_
    simp [wrote, go_sem]
  refine ⟨gc, _, by simp [go_sem], by simp [Held.put, Held.nil, ngagb, ngagc, ngbga, ngbgc, ngcga, ngcgb]; rfl, ?hx, ?_⟩
  case hx =>
    intro w' hw'
    have q0 := cell_block (i := 0) hw'; have f0 := free_block (i := 0) hw'
    have q1 := cell_block (i := 1) hw'; have f1 := free_block (i := 1) hw'
    simp at q0 q1
    go_simp
    simp only [upPut]
    refine (Setted.start hw' |>.step 0 _ |>.step 1 _).eq ?_
    simp [wrote, go_sem]
  repeat (with_reducible refine wpL_skip (by decide) ?_)
  refine wpL_nil ?_
  intro x1 hin
  obtain ⟨hc1, hc2⟩ := hin gc _ _ (Held.at_self _ _ _ _)
  obtain ⟨hb1, hb2⟩ := hin gb _ _ ((Held.at_ne _ _ _ ngbgc).trans (Held.at_self _ _ _ _))
  obtain ⟨ha1, ha2⟩ := hin ga _ _ ((Held.at_ne _ _ _ ngagc).trans ((Held.at_ne _ _ _ ngagb).trans (Held.at_self _ _ _ _)))
  clear hin hga hgb hgc
  have qa0 := cell_block (i := 0) ha2
  have qa1 := cell_block (i := 1) ha2
  have qb0 := cell_block (i := 0) hb2
  have qb1 := cell_block (i := 1) hb2
  have qc1 := cell_block (i := 1) hc2
  simp [wrote, go_sem] at qa0 qa1 qb0 qb1 qc1
  have la := lt_of_get ha2
  have lb := lt_of_get hb2
  have lc := lt_of_get hc2
  clear ha1 hb1 hc1 ha2 hb2 hc2
  have p0 := (x1.cell w.heap.size 0 (by simp; omega)).trans (by simp [go_sem]; rfl)
  have p1 := (x1.cell w.heap.size 1 (by simp; omega)).trans (by simp [go_sem]; rfl)
  have p3 := (x1.cell w.heap.size 3 (by simp; omega)).trans (by simp [go_sem]; rfl)
  have ln : w.heap.size < x1.val.heap.size := by have := x1.size; simp at this; omega
  have hbw : Below w.heap.size w x1.val := by (repeat' (first | (with_reducible exact Below.refl _ _) | (with_reducible refine Below.alloc ?_ ?_ _) | (with_reducible refine Below.drew ?_) | (with_reducible refine Aft.below _ ?_ ?_) | (with_reducible refine Below.setCell_new ?_ ?_ _ _) | (with_reducible exact Nat.le_refl _) | (with_reducible refine Aft.le _ ?_) | (with_reducible refine le_alloc ?_) | (with_reducible refine le_drew ?_) | (with_reducible refine le_setCell ?_) | omega))
  clear ngagb ngagc ngbgc ngbga ngcga ngcgb
  generalize x1.val = W1 at *
  go_wp2
  go_ret
  exact ⟨rfl, Below.aft hbw⟩

set_option maxRecDepth 100000 in
set_option maxHeartbeats 1600000 in
theorem exact_2 (wd v aw av bw bv cw cv : Int) (hw1 : 1 ≤ wd) (hw2 : wd ≤ 16) (a0 : 0 ≤ av) (a1 : av ≤ 65536) (b0 : 0 ≤ bv) (b1 : bv ≤ 65536) (B : Option Addr) (al bc : Nat) (w : World) :
    Calls Tryz.prog 108 #[.agg #[.int .i64 2, .int .i64 wd, .slice B al bc, .int .i64 v], .agg #[.int .i64 aw, .int .i64 av, .int .i64 bw, .int .i64 bv, .int .i64 cw, .int .i64 cv]] w fun e w' => e = .returned (.int .i64 (bits .xor .i64 (-1) av)) ∧ ∃ x : Aft w, w' = x.val := by
  go_enter Tryz.func108, Tryz.ntmps108
  go_wp2_with fail
  refine wp_region_kd [.quiet, .quiet, .quiet, .quiet, .quiet, .quiet, .new (.cells #[.int .i64 0, .int .i64 0] 114), .new (.cells #[.int .i64 0, .int .i64 0] 114), .new (.cells #[.int .i64 0, .int .i64 0] 114), .put (.tmp 5) (.tmp 9), .put (.tmp 6) (.tmp 11), .put (.tmp 7) (.tmp 13)] (by kernel_rfl) (by kernel_rfl) (by kernel_rfl) rfl (by kernel_rfl) ?hF ?_
  case hF =>
    simp only [FitsL, fit1, true_and, and_true]
    repeat' apply And.intro
    all_goals first | rfl | (simp [Op.operands]; done) | (intro a w; go_simp; done)
  repeat (first | (with_reducible refine wpQ_new ?_) | (with_reducible refine wpQ_put ?_) | (with_reducible refine wpQ_late ?_) | (refine wpQ_step (fun K hK => ?_); go_simp; first | (refine hK _ ?_; clear hK K) | (apply Exists.intro; refine ⟨fun _ => ?_, hK _ ?_⟩; (first | fail); clear hK K)))
  refine wpQ_nil ?_
  simp only [wpN]
  intro ga hga
  intro gb hgb
  have ngbga : ¬ gb = ga := by intro h; subst h; simp [Held.put, Held.nil] at hgb
  have ngagb : ¬ ga = gb := fun h => ngbga h.symm
  intro gc hgc
  have ngcga : ¬ gc = ga := by intro h; subst h; simp [Held.put, Held.nil] at hgc
  have ngagc : ¬ ga = gc := fun h => ngcga h.symm
  have ngcgb : ¬ gc = gb := by intro h; subst h; simp [Held.put, Held.nil] at hgc
  have ngbgc : ¬ gb = gc := fun h => ngcgb h.symm
  simp only [wpP]
  refine ⟨ga, _, by simp [go_sem], by simp [Held.put, Held.nil, ngagb, ngagc, ngbga, ngbgc, ngcga, ngcgb]; rfl, ?hx, ?_⟩
  case hx =>
    intro w' hw'
    have q0 := cell_block (i := 0) hw'; have f0 := free_block (i := 0) hw'
    have q1 := cell_block (i := 1) hw'; have f1 := free_block (i := 1) hw'
    simp at q0 q1
    go_simp
    simp only [upPut]
    refine (Setted.start hw' |>.step 0 _ |>.step 1 _).eq ?_
    simp [wrote, go_sem]
  refine ⟨gb, _, by simp [go_sem], by simp [Held.put, Held.nil, ngagb, ngagc, ngbga, ngbgc, ngcga, ngcgb]; rfl, ?hx, ?_⟩
  case hx =>
    intro w' hw'
    have q0 := cell_block (i := 0) hw'; have f0 := free_block (i := 0) hw'
    have q1 := cell_block (i := 1) hw'; have f1 := free_block (i := 1) hw'
    simp at q0 q1
    go_simp
    simp only [upPut]
    refine (Setted.start hw' |>.step 0 _ |>.step 1 _).eq ?_
    simp [wrote, go_sem]
  refine ⟨gc, _, by simp [go_sem], by simp [Held.put, Held.nil, ngagb, ngagc, ngbga, ngbgc, ngcga, ngcgb]; rfl, ?hx, ?_⟩
  case hx =>
    intro w' hw'
    have q0 := cell_block (i := 0) hw'; have f0 := free_block (i := 0) hw'
    have q1 := cell_block (i := 1) hw'; have f1 := free_block (i := 1) hw'
    simp at q0 q1
    go_simp
    simp only [upPut]
    refine (Setted.start hw' |>.step 0 _ |>.step 1 _).eq ?_
    simp [wrote, go_sem]
  repeat (with_reducible refine wpL_skip (by decide) ?_)
  refine wpL_nil ?_
  intro x1 hin
  obtain ⟨hc1, hc2⟩ := hin gc _ _ (Held.at_self _ _ _ _)
  obtain ⟨hb1, hb2⟩ := hin gb _ _ ((Held.at_ne _ _ _ ngbgc).trans (Held.at_self _ _ _ _))
  obtain ⟨ha1, ha2⟩ := hin ga _ _ ((Held.at_ne _ _ _ ngagc).trans ((Held.at_ne _ _ _ ngagb).trans (Held.at_self _ _ _ _)))
  clear hin hga hgb hgc
  have qa0 := cell_block (i := 0) ha2
  have qa1 := cell_block (i := 1) ha2
  have qb0 := cell_block (i := 0) hb2
  have qb1 := cell_block (i := 1) hb2
  have qc1 := cell_block (i := 1) hc2
  simp [wrote, go_sem] at qa0 qa1 qb0 qb1 qc1
  have la := lt_of_get ha2
  have lb := lt_of_get hb2
  have lc := lt_of_get hc2
  clear ha1 hb1 hc1 ha2 hb2 hc2
  have p0 := (x1.cell w.heap.size 0 (by simp; omega)).trans (by simp [go_sem]; rfl)
  have p1 := (x1.cell w.heap.size 1 (by simp; omega)).trans (by simp [go_sem]; rfl)
  have p3 := (x1.cell w.heap.size 3 (by simp; omega)).trans (by simp [go_sem]; rfl)
  have ln : w.heap.size < x1.val.heap.size := by have := x1.size; simp at this; omega
  have hbw : Below w.heap.size w x1.val := by (repeat' (first | (with_reducible exact Below.refl _ _) | (with_reducible refine Below.alloc ?_ ?_ _) | (with_reducible refine Below.drew ?_) | (with_reducible refine Aft.below _ ?_ ?_) | (with_reducible refine Below.setCell_new ?_ ?_ _ _) | (with_reducible exact Nat.le_refl _) | (with_reducible refine Aft.le _ ?_) | (with_reducible refine le_alloc ?_) | (with_reducible refine le_drew ?_) | (with_reducible refine le_setCell ?_) | omega))
  clear ngagb ngagc ngbgc ngbga ngcga ngcgb
  generalize x1.val = W1 at *
  go_wp2
  go_ret
  exact ⟨rfl, Below.aft hbw⟩

set_option maxRecDepth 100000 in
set_option maxHeartbeats 1600000 in
theorem exact_3 (wd v aw av bw bv cw cv : Int) (hw1 : 1 ≤ wd) (hw2 : wd ≤ 16) (a0 : 0 ≤ av) (a1 : av ≤ 65536) (b0 : 0 ≤ bv) (b1 : bv ≤ 65536) (B : Option Addr) (al bc : Nat) (w : World) :
    Calls Tryz.prog 108 #[.agg #[.int .i64 3, .int .i64 wd, .slice B al bc, .int .i64 v], .agg #[.int .i64 aw, .int .i64 av, .int .i64 bw, .int .i64 bv, .int .i64 cw, .int .i64 cv]] w fun e w' => e = .returned (.int .i64 (bits .and .i64 av bv)) ∧ ∃ x : Aft w, w' = x.val := by
  go_enter Tryz.func108, Tryz.ntmps108
  go_wp2_with fail
  refine wp_region_kd [.quiet, .quiet, .quiet, .quiet, .quiet, .quiet, .new (.cells #[.int .i64 0, .int .i64 0] 114), .new (.cells #[.int .i64 0, .int .i64 0] 114), .new (.cells #[.int .i64 0, .int .i64 0] 114), .put (.tmp 5) (.tmp 9), .put (.tmp 6) (.tmp 11), .put (.tmp 7) (.tmp 13)] (by kernel_rfl) (by kernel_rfl) (by kernel_rfl) rfl (by kernel_rfl) ?hF ?_
  case hF =>
    simp only [FitsL, fit1, true_and, and_true]
    repeat' apply And.intro
    all_goals first | rfl | (simp [Op.operands]; done) | (intro a w; go_simp; done)
  repeat (first | (with_reducible refine wpQ_new ?_) | (with_reducible refine wpQ_put ?_) | (with_reducible refine wpQ_late ?_) | (refine wpQ_step (fun K hK => ?_); go_simp; first | (refine hK _ ?_; clear hK K) | (apply Exists.intro; refine ⟨fun _ => ?_, hK _ ?_⟩; (first | fail); clear hK K)))
  refine wpQ_nil ?_
  simp only [wpN]
  intro ga hga
  intro gb hgb
  have ngbga : ¬ gb = ga := by intro h; subst h; simp [Held.put, Held.nil] at hgb
  have ngagb : ¬ ga = gb := fun h => ngbga h.symm
  intro gc hgc
  have ngcga : ¬ gc = ga := by intro h; subst h; simp [Held.put, Held.nil] at hgc
  have ngagc : ¬ ga = gc := fun h => ngcga h.symm
  have ngcgb : ¬ gc = gb := by intro h; subst h; simp [Held.put, Held.nil] at hgc
  have ngbgc : ¬ gb = gc := fun h => ngcgb h.symm
  simp only [wpP]
  refine ⟨ga, _, by simp [go_sem], by simp [Held.put, Held.nil, ngagb, ngagc, ngbga, ngbgc, ngcga, ngcgb]; rfl, ?hx, ?_⟩
  case hx =>
    intro w' hw'
    have q0 := cell_block (i := 0) hw'; have f0 := free_block (i := 0) hw'
    have q1 := cell_block (i := 1) hw'; have f1 := free_block (i := 1) hw'
    simp at q0 q1
    go_simp
    simp only [upPut]
    refine (Setted.start hw' |>.step 0 _ |>.step 1 _).eq ?_
    simp [wrote, go_sem]
  refine ⟨gb, _, by simp [go_sem], by simp [Held.put, Held.nil, ngagb, ngagc, ngbga, ngbgc, ngcga, ngcgb]; rfl, ?hx, ?_⟩
  case hx =>
    intro w' hw'
    have q0 := cell_block (i := 0) hw'; have f0 := free_block (i := 0) hw'
    have q1 := cell_block (i := 1) hw'; have f1 := free_block (i := 1) hw'
    simp at q0 q1
    go_simp
    simp only [upPut]
    refine (Setted.start hw' |>.step 0 _ |>.step 1 _).eq ?_
    simp [wrote, go_sem]
  refine ⟨gc, _, by simp [go_sem], by simp [Held.put, Held.nil, ngagb, ngagc, ngbga, ngbgc, ngcga, ngcgb]; rfl, ?hx, ?_⟩
  case hx =>
    intro w' hw'
    have q0 := cell_block (i := 0) hw'; have f0 := free_block (i := 0) hw'
    have q1 := cell_block (i := 1) hw'; have f1 := free_block (i := 1) hw'
    simp at q0 q1
    go_simp
    simp only [upPut]
    refine (Setted.start hw' |>.step 0 _ |>.step 1 _).eq ?_
    simp [wrote, go_sem]
  repeat (with_reducible refine wpL_skip (by decide) ?_)
  refine wpL_nil ?_
  intro x1 hin
  obtain ⟨hc1, hc2⟩ := hin gc _ _ (Held.at_self _ _ _ _)
  obtain ⟨hb1, hb2⟩ := hin gb _ _ ((Held.at_ne _ _ _ ngbgc).trans (Held.at_self _ _ _ _))
  obtain ⟨ha1, ha2⟩ := hin ga _ _ ((Held.at_ne _ _ _ ngagc).trans ((Held.at_ne _ _ _ ngagb).trans (Held.at_self _ _ _ _)))
  clear hin hga hgb hgc
  have qa0 := cell_block (i := 0) ha2
  have qa1 := cell_block (i := 1) ha2
  have qb0 := cell_block (i := 0) hb2
  have qb1 := cell_block (i := 1) hb2
  have qc1 := cell_block (i := 1) hc2
  simp [wrote, go_sem] at qa0 qa1 qb0 qb1 qc1
  have la := lt_of_get ha2
  have lb := lt_of_get hb2
  have lc := lt_of_get hc2
  clear ha1 hb1 hc1 ha2 hb2 hc2
  have p0 := (x1.cell w.heap.size 0 (by simp; omega)).trans (by simp [go_sem]; rfl)
  have p1 := (x1.cell w.heap.size 1 (by simp; omega)).trans (by simp [go_sem]; rfl)
  have p3 := (x1.cell w.heap.size 3 (by simp; omega)).trans (by simp [go_sem]; rfl)
  have ln : w.heap.size < x1.val.heap.size := by have := x1.size; simp at this; omega
  have hbw : Below w.heap.size w x1.val := by (repeat' (first | (with_reducible exact Below.refl _ _) | (with_reducible refine Below.alloc ?_ ?_ _) | (with_reducible refine Below.drew ?_) | (with_reducible refine Aft.below _ ?_ ?_) | (with_reducible refine Below.setCell_new ?_ ?_ _ _) | (with_reducible exact Nat.le_refl _) | (with_reducible refine Aft.le _ ?_) | (with_reducible refine le_alloc ?_) | (with_reducible refine le_drew ?_) | (with_reducible refine le_setCell ?_) | omega))
  clear ngagb ngagc ngbgc ngbga ngcga ngcgb
  generalize x1.val = W1 at *
  go_wp2
  go_ret
  exact ⟨rfl, Below.aft hbw⟩

set_option maxRecDepth 100000 in
set_option maxHeartbeats 1600000 in
theorem exact_4 (wd v aw av bw bv cw cv : Int) (hw1 : 1 ≤ wd) (hw2 : wd ≤ 16) (a0 : 0 ≤ av) (a1 : av ≤ 65536) (b0 : 0 ≤ bv) (b1 : bv ≤ 65536) (B : Option Addr) (al bc : Nat) (w : World) :
    Calls Tryz.prog 108 #[.agg #[.int .i64 4, .int .i64 wd, .slice B al bc, .int .i64 v], .agg #[.int .i64 aw, .int .i64 av, .int .i64 bw, .int .i64 bv, .int .i64 cw, .int .i64 cv]] w fun e w' => e = .returned (.int .i64 (bits .or .i64 av bv)) ∧ ∃ x : Aft w, w' = x.val := by
  go_enter Tryz.func108, Tryz.ntmps108
  go_wp2_with fail
  refine wp_region_kd [.quiet, .quiet, .quiet, .quiet, .quiet, .quiet, .new (.cells #[.int .i64 0, .int .i64 0] 114), .new (.cells #[.int .i64 0, .int .i64 0] 114), .new (.cells #[.int .i64 0, .int .i64 0] 114), .put (.tmp 5) (.tmp 9), .put (.tmp 6) (.tmp 11), .put (.tmp 7) (.tmp 13)] (by kernel_rfl) (by kernel_rfl) (by kernel_rfl) rfl (by kernel_rfl) ?hF ?_
  case hF =>
    simp only [FitsL, fit1, true_and, and_true]
    repeat' apply And.intro
    all_goals first | rfl | (simp [Op.operands]; done) | (intro a w; go_simp; done)
  repeat (first | (with_reducible refine wpQ_new ?_) | (with_reducible refine wpQ_put ?_) | (with_reducible refine wpQ_late ?_) | (refine wpQ_step (fun K hK => ?_); go_simp; first | (refine hK _ ?_; clear hK K) | (apply Exists.intro; refine ⟨fun _ => ?_, hK _ ?_⟩; (first | fail); clear hK K)))
  refine wpQ_nil ?_
  simp only [wpN]
  intro ga hga
  intro gb hgb
  have ngbga : ¬ gb = ga := by intro h; subst h; simp [Held.put, Held.nil] at hgb
  have ngagb : ¬ ga = gb := fun h => ngbga h.symm
  intro gc hgc
  have ngcga : ¬ gc = ga := by intro h; subst h; simp [Held.put, Held.nil] at hgc
  have ngagc : ¬ ga = gc := fun h => ngcga h.symm
  have ngcgb : ¬ gc = gb := by intro h; subst h; simp [Held.put, Held.nil] at hgc
  have ngbgc : ¬ gb = gc := fun h => ngcgb h.symm
  simp only [wpP]
  refine ⟨ga, _, by simp [go_sem], by simp [Held.put, Held.nil, ngagb, ngagc, ngbga, ngbgc, ngcga, ngcgb]; rfl, ?hx, ?_⟩
  case hx =>
    intro w' hw'
    have q0 := cell_block (i := 0) hw'; have f0 := free_block (i := 0) hw'
    have q1 := cell_block (i := 1) hw'; have f1 := free_block (i := 1) hw'
    simp at q0 q1
    go_simp
    simp only [upPut]
    refine (Setted.start hw' |>.step 0 _ |>.step 1 _).eq ?_
    simp [wrote, go_sem]
  refine ⟨gb, _, by simp [go_sem], by simp [Held.put, Held.nil, ngagb, ngagc, ngbga, ngbgc, ngcga, ngcgb]; rfl, ?hx, ?_⟩
  case hx =>
    intro w' hw'
    have q0 := cell_block (i := 0) hw'; have f0 := free_block (i := 0) hw'
    have q1 := cell_block (i := 1) hw'; have f1 := free_block (i := 1) hw'
    simp at q0 q1
    go_simp
    simp only [upPut]
    refine (Setted.start hw' |>.step 0 _ |>.step 1 _).eq ?_
    simp [wrote, go_sem]
  refine ⟨gc, _, by simp [go_sem], by simp [Held.put, Held.nil, ngagb, ngagc, ngbga, ngbgc, ngcga, ngcgb]; rfl, ?hx, ?_⟩
  case hx =>
    intro w' hw'
    have q0 := cell_block (i := 0) hw'; have f0 := free_block (i := 0) hw'
    have q1 := cell_block (i := 1) hw'; have f1 := free_block (i := 1) hw'
    simp at q0 q1
    go_simp
    simp only [upPut]
    refine (Setted.start hw' |>.step 0 _ |>.step 1 _).eq ?_
    simp [wrote, go_sem]
  repeat (with_reducible refine wpL_skip (by decide) ?_)
  refine wpL_nil ?_
  intro x1 hin
  obtain ⟨hc1, hc2⟩ := hin gc _ _ (Held.at_self _ _ _ _)
  obtain ⟨hb1, hb2⟩ := hin gb _ _ ((Held.at_ne _ _ _ ngbgc).trans (Held.at_self _ _ _ _))
  obtain ⟨ha1, ha2⟩ := hin ga _ _ ((Held.at_ne _ _ _ ngagc).trans ((Held.at_ne _ _ _ ngagb).trans (Held.at_self _ _ _ _)))
  clear hin hga hgb hgc
  have qa0 := cell_block (i := 0) ha2
  have qa1 := cell_block (i := 1) ha2
  have qb0 := cell_block (i := 0) hb2
  have qb1 := cell_block (i := 1) hb2
  have qc1 := cell_block (i := 1) hc2
  simp [wrote, go_sem] at qa0 qa1 qb0 qb1 qc1
  have la := lt_of_get ha2
  have lb := lt_of_get hb2
  have lc := lt_of_get hc2
  clear ha1 hb1 hc1 ha2 hb2 hc2
  have p0 := (x1.cell w.heap.size 0 (by simp; omega)).trans (by simp [go_sem]; rfl)
  have p1 := (x1.cell w.heap.size 1 (by simp; omega)).trans (by simp [go_sem]; rfl)
  have p3 := (x1.cell w.heap.size 3 (by simp; omega)).trans (by simp [go_sem]; rfl)
  have ln : w.heap.size < x1.val.heap.size := by have := x1.size; simp at this; omega
  have hbw : Below w.heap.size w x1.val := by (repeat' (first | (with_reducible exact Below.refl _ _) | (with_reducible refine Below.alloc ?_ ?_ _) | (with_reducible refine Below.drew ?_) | (with_reducible refine Aft.below _ ?_ ?_) | (with_reducible refine Below.setCell_new ?_ ?_ _ _) | (with_reducible exact Nat.le_refl _) | (with_reducible refine Aft.le _ ?_) | (with_reducible refine le_alloc ?_) | (with_reducible refine le_drew ?_) | (with_reducible refine le_setCell ?_) | omega))
  clear ngagb ngagc ngbgc ngbga ngcga ngcgb
  generalize x1.val = W1 at *
  go_wp2
  go_ret
  exact ⟨rfl, Below.aft hbw⟩

set_option maxRecDepth 100000 in
set_option maxHeartbeats 1600000 in
theorem exact_5 (wd v aw av bw bv cw cv : Int) (hw1 : 1 ≤ wd) (hw2 : wd ≤ 16) (a0 : 0 ≤ av) (a1 : av ≤ 65536) (b0 : 0 ≤ bv) (b1 : bv ≤ 65536) (B : Option Addr) (al bc : Nat) (w : World) :
    Calls Tryz.prog 108 #[.agg #[.int .i64 5, .int .i64 wd, .slice B al bc, .int .i64 v], .agg #[.int .i64 aw, .int .i64 av, .int .i64 bw, .int .i64 bv, .int .i64 cw, .int .i64 cv]] w fun e w' => e = .returned (.int .i64 (bits .xor .i64 av bv)) ∧ ∃ x : Aft w, w' = x.val := by
  go_enter Tryz.func108, Tryz.ntmps108
  go_wp2_with fail
  refine wp_region_kd [.quiet, .quiet, .quiet, .quiet, .quiet, .quiet, .new (.cells #[.int .i64 0, .int .i64 0] 114), .new (.cells #[.int .i64 0, .int .i64 0] 114), .new (.cells #[.int .i64 0, .int .i64 0] 114), .put (.tmp 5) (.tmp 9), .put (.tmp 6) (.tmp 11), .put (.tmp 7) (.tmp 13)] (by kernel_rfl) (by kernel_rfl) (by kernel_rfl) rfl (by kernel_rfl) ?hF ?_
  case hF =>
    simp only [FitsL, fit1, true_and, and_true]
    repeat' apply And.intro
    all_goals first | rfl | (simp [Op.operands]; done) | (intro a w; go_simp; done)
  repeat (first | (with_reducible refine wpQ_new ?_) | (with_reducible refine wpQ_put ?_) | (with_reducible refine wpQ_late ?_) | (refine wpQ_step (fun K hK => ?_); go_simp; first | (refine hK _ ?_; clear hK K) | (apply Exists.intro; refine ⟨fun _ => ?_, hK _ ?_⟩; (first | fail); clear hK K)))
  refine wpQ_nil ?_
  simp only [wpN]
  intro ga hga
  intro gb hgb
  have ngbga : ¬ gb = ga := by intro h; subst h; simp [Held.put, Held.nil] at hgb
  have ngagb : ¬ ga = gb := fun h => ngbga h.symm
  intro gc hgc
  have ngcga : ¬ gc = ga := by intro h; subst h; simp [Held.put, Held.nil] at hgc
  have ngagc : ¬ ga = gc := fun h => ngcga h.symm
  have ngcgb : ¬ gc = gb := by intro h; subst h; simp [Held.put, Held.nil] at hgc
  have ngbgc : ¬ gb = gc := fun h => ngcgb h.symm
  simp only [wpP]
  refine ⟨ga, _, by simp [go_sem], by simp [Held.put, Held.nil, ngagb, ngagc, ngbga, ngbgc, ngcga, ngcgb]; rfl, ?hx, ?_⟩
  case hx =>
    intro w' hw'
    have q0 := cell_block (i := 0) hw'; have f0 := free_block (i := 0) hw'
    have q1 := cell_block (i := 1) hw'; have f1 := free_block (i := 1) hw'
    simp at q0 q1
    go_simp
    simp only [upPut]
    refine (Setted.start hw' |>.step 0 _ |>.step 1 _).eq ?_
    simp [wrote, go_sem]
  refine ⟨gb, _, by simp [go_sem], by simp [Held.put, Held.nil, ngagb, ngagc, ngbga, ngbgc, ngcga, ngcgb]; rfl, ?hx, ?_⟩
  case hx =>
    intro w' hw'
    have q0 := cell_block (i := 0) hw'; have f0 := free_block (i := 0) hw'
    have q1 := cell_block (i := 1) hw'; have f1 := free_block (i := 1) hw'
    simp at q0 q1
    go_simp
    simp only [upPut]
    refine (Setted.start hw' |>.step 0 _ |>.step 1 _).eq ?_
    simp [wrote, go_sem]
  refine ⟨gc, _, by simp [go_sem], by simp [Held.put, Held.nil, ngagb, ngagc, ngbga, ngbgc, ngcga, ngcgb]; rfl, ?hx, ?_⟩
  case hx =>
    intro w' hw'
    have q0 := cell_block (i := 0) hw'; have f0 := free_block (i := 0) hw'
    have q1 := cell_block (i := 1) hw'; have f1 := free_block (i := 1) hw'
    simp at q0 q1
    go_simp
    simp only [upPut]
    refine (Setted.start hw' |>.step 0 _ |>.step 1 _).eq ?_
    simp [wrote, go_sem]
  repeat (with_reducible refine wpL_skip (by decide) ?_)
  refine wpL_nil ?_
  intro x1 hin
  obtain ⟨hc1, hc2⟩ := hin gc _ _ (Held.at_self _ _ _ _)
  obtain ⟨hb1, hb2⟩ := hin gb _ _ ((Held.at_ne _ _ _ ngbgc).trans (Held.at_self _ _ _ _))
  obtain ⟨ha1, ha2⟩ := hin ga _ _ ((Held.at_ne _ _ _ ngagc).trans ((Held.at_ne _ _ _ ngagb).trans (Held.at_self _ _ _ _)))
  clear hin hga hgb hgc
  have qa0 := cell_block (i := 0) ha2
  have qa1 := cell_block (i := 1) ha2
  have qb0 := cell_block (i := 0) hb2
  have qb1 := cell_block (i := 1) hb2
  have qc1 := cell_block (i := 1) hc2
  simp [wrote, go_sem] at qa0 qa1 qb0 qb1 qc1
  have la := lt_of_get ha2
  have lb := lt_of_get hb2
  have lc := lt_of_get hc2
  clear ha1 hb1 hc1 ha2 hb2 hc2
  have p0 := (x1.cell w.heap.size 0 (by simp; omega)).trans (by simp [go_sem]; rfl)
  have p1 := (x1.cell w.heap.size 1 (by simp; omega)).trans (by simp [go_sem]; rfl)
  have p3 := (x1.cell w.heap.size 3 (by simp; omega)).trans (by simp [go_sem]; rfl)
  have ln : w.heap.size < x1.val.heap.size := by have := x1.size; simp at this; omega
  have hbw : Below w.heap.size w x1.val := by (repeat' (first | (with_reducible exact Below.refl _ _) | (with_reducible refine Below.alloc ?_ ?_ _) | (with_reducible refine Below.drew ?_) | (with_reducible refine Aft.below _ ?_ ?_) | (with_reducible refine Below.setCell_new ?_ ?_ _ _) | (with_reducible exact Nat.le_refl _) | (with_reducible refine Aft.le _ ?_) | (with_reducible refine le_alloc ?_) | (with_reducible refine le_drew ?_) | (with_reducible refine le_setCell ?_) | omega))
  clear ngagb ngagc ngbgc ngbga ngcga ngcgb
  generalize x1.val = W1 at *
  go_wp2
  go_ret
  exact ⟨rfl, Below.aft hbw⟩

set_option maxRecDepth 100000 in
set_option maxHeartbeats 1600000 in
theorem exact_6 (wd v aw av bw bv cw cv : Int) (hw1 : 1 ≤ wd) (hw2 : wd ≤ 16) (a0 : 0 ≤ av) (a1 : av ≤ 65536) (b0 : 0 ≤ bv) (b1 : bv ≤ 65536) (B : Option Addr) (al bc : Nat) (w : World) :
    Calls Tryz.prog 108 #[.agg #[.int .i64 6, .int .i64 wd, .slice B al bc, .int .i64 v], .agg #[.int .i64 aw, .int .i64 av, .int .i64 bw, .int .i64 bv, .int .i64 cw, .int .i64 cv]] w fun e w' => e = .returned (.int .i64 (av + bv)) ∧ ∃ x : Aft w, w' = x.val := by
  go_enter Tryz.func108, Tryz.ntmps108
  go_wp2_with fail
  refine wp_region_kd [.quiet, .quiet, .quiet, .quiet, .quiet, .quiet, .new (.cells #[.int .i64 0, .int .i64 0] 114), .new (.cells #[.int .i64 0, .int .i64 0] 114), .new (.cells #[.int .i64 0, .int .i64 0] 114), .put (.tmp 5) (.tmp 9), .put (.tmp 6) (.tmp 11), .put (.tmp 7) (.tmp 13)] (by kernel_rfl) (by kernel_rfl) (by kernel_rfl) rfl (by kernel_rfl) ?hF ?_
  case hF =>
    simp only [FitsL, fit1, true_and, and_true]
    repeat' apply And.intro
    all_goals first | rfl | (simp [Op.operands]; done) | (intro a w; go_simp; done)
  repeat (first | (with_reducible refine wpQ_new ?_) | (with_reducible refine wpQ_put ?_) | (with_reducible refine wpQ_late ?_) | (refine wpQ_step (fun K hK => ?_); go_simp; first | (refine hK _ ?_; clear hK K) | (apply Exists.intro; refine ⟨fun _ => ?_, hK _ ?_⟩; (first | fail); clear hK K)))
  refine wpQ_nil ?_
  simp only [wpN]
  intro ga hga
  intro gb hgb
  have ngbga : ¬ gb = ga := by intro h; subst h; simp [Held.put, Held.nil] at hgb
  have ngagb : ¬ ga = gb := fun h => ngbga h.symm
  intro gc hgc
  have ngcga : ¬ gc = ga := by intro h; subst h; simp [Held.put, Held.nil] at hgc
  have ngagc : ¬ ga = gc := fun h => ngcga h.symm
  have ngcgb : ¬ gc = gb := by intro h; subst h; simp [Held.put, Held.nil] at hgc
  have ngbgc : ¬ gb = gc := fun h => ngcgb h.symm
  simp only [wpP]
  refine ⟨ga, _, by simp [go_sem], by simp [Held.put, Held.nil, ngagb, ngagc, ngbga, ngbgc, ngcga, ngcgb]; rfl, ?hx, ?_⟩
  case hx =>
    intro w' hw'
    have q0 := cell_block (i := 0) hw'; have f0 := free_block (i := 0) hw'
    have q1 := cell_block (i := 1) hw'; have f1 := free_block (i := 1) hw'
    simp at q0 q1
    go_simp
    simp only [upPut]
    refine (Setted.start hw' |>.step 0 _ |>.step 1 _).eq ?_
    simp [wrote, go_sem]
  refine ⟨gb, _, by simp [go_sem], by simp [Held.put, Held.nil, ngagb, ngagc, ngbga, ngbgc, ngcga, ngcgb]; rfl, ?hx, ?_⟩
  case hx =>
    intro w' hw'
    have q0 := cell_block (i := 0) hw'; have f0 := free_block (i := 0) hw'
    have q1 := cell_block (i := 1) hw'; have f1 := free_block (i := 1) hw'
    simp at q0 q1
    go_simp
    simp only [upPut]
    refine (Setted.start hw' |>.step 0 _ |>.step 1 _).eq ?_
    simp [wrote, go_sem]
  refine ⟨gc, _, by simp [go_sem], by simp [Held.put, Held.nil, ngagb, ngagc, ngbga, ngbgc, ngcga, ngcgb]; rfl, ?hx, ?_⟩
  case hx =>
    intro w' hw'
    have q0 := cell_block (i := 0) hw'; have f0 := free_block (i := 0) hw'
    have q1 := cell_block (i := 1) hw'; have f1 := free_block (i := 1) hw'
    simp at q0 q1
    go_simp
    simp only [upPut]
    refine (Setted.start hw' |>.step 0 _ |>.step 1 _).eq ?_
    simp [wrote, go_sem]
  repeat (with_reducible refine wpL_skip (by decide) ?_)
  refine wpL_nil ?_
  intro x1 hin
  obtain ⟨hc1, hc2⟩ := hin gc _ _ (Held.at_self _ _ _ _)
  obtain ⟨hb1, hb2⟩ := hin gb _ _ ((Held.at_ne _ _ _ ngbgc).trans (Held.at_self _ _ _ _))
  obtain ⟨ha1, ha2⟩ := hin ga _ _ ((Held.at_ne _ _ _ ngagc).trans ((Held.at_ne _ _ _ ngagb).trans (Held.at_self _ _ _ _)))
  clear hin hga hgb hgc
  have qa0 := cell_block (i := 0) ha2
  have qa1 := cell_block (i := 1) ha2
  have qb0 := cell_block (i := 0) hb2
  have qb1 := cell_block (i := 1) hb2
  have qc1 := cell_block (i := 1) hc2
  simp [wrote, go_sem] at qa0 qa1 qb0 qb1 qc1
  have la := lt_of_get ha2
  have lb := lt_of_get hb2
  have lc := lt_of_get hc2
  clear ha1 hb1 hc1 ha2 hb2 hc2
  have p0 := (x1.cell w.heap.size 0 (by simp; omega)).trans (by simp [go_sem]; rfl)
  have p1 := (x1.cell w.heap.size 1 (by simp; omega)).trans (by simp [go_sem]; rfl)
  have p3 := (x1.cell w.heap.size 3 (by simp; omega)).trans (by simp [go_sem]; rfl)
  have ln : w.heap.size < x1.val.heap.size := by have := x1.size; simp at this; omega
  have hbw : Below w.heap.size w x1.val := by (repeat' (first | (with_reducible exact Below.refl _ _) | (with_reducible refine Below.alloc ?_ ?_ _) | (with_reducible refine Below.drew ?_) | (with_reducible refine Aft.below _ ?_ ?_) | (with_reducible refine Below.setCell_new ?_ ?_ _ _) | (with_reducible exact Nat.le_refl _) | (with_reducible refine Aft.le _ ?_) | (with_reducible refine le_alloc ?_) | (with_reducible refine le_drew ?_) | (with_reducible refine le_setCell ?_) | omega))
  clear ngagb ngagc ngbgc ngbga ngcga ngcgb
  generalize x1.val = W1 at *
  go_wp2
  go_ret
  exact ⟨rfl, Below.aft hbw⟩

set_option maxRecDepth 100000 in
set_option maxHeartbeats 1600000 in
theorem exact_7 (wd v aw av bw bv cw cv : Int) (hw1 : 1 ≤ wd) (hw2 : wd ≤ 16) (a0 : 0 ≤ av) (a1 : av ≤ 65536) (b0 : 0 ≤ bv) (b1 : bv ≤ 65536) (B : Option Addr) (al bc : Nat) (w : World) :
    Calls Tryz.prog 108 #[.agg #[.int .i64 7, .int .i64 wd, .slice B al bc, .int .i64 v], .agg #[.int .i64 aw, .int .i64 av, .int .i64 bw, .int .i64 bv, .int .i64 cw, .int .i64 cv]] w fun e w' => e = .returned (.int .i64 (av - bv)) ∧ ∃ x : Aft w, w' = x.val := by
  go_enter Tryz.func108, Tryz.ntmps108
  go_wp2_with fail
  refine wp_region_kd [.quiet, .quiet, .quiet, .quiet, .quiet, .quiet, .new (.cells #[.int .i64 0, .int .i64 0] 114), .new (.cells #[.int .i64 0, .int .i64 0] 114), .new (.cells #[.int .i64 0, .int .i64 0] 114), .put (.tmp 5) (.tmp 9), .put (.tmp 6) (.tmp 11), .put (.tmp 7) (.tmp 13)] (by kernel_rfl) (by kernel_rfl) (by kernel_rfl) rfl (by kernel_rfl) ?hF ?_
  case hF =>
    simp only [FitsL, fit1, true_and, and_true]
    repeat' apply And.intro
    all_goals first | rfl | (simp [Op.operands]; done) | (intro a w; go_simp; done)
  repeat (first | (with_reducible refine wpQ_new ?_) | (with_reducible refine wpQ_put ?_) | (with_reducible refine wpQ_late ?_) | (refine wpQ_step (fun K hK => ?_); go_simp; first | (refine hK _ ?_; clear hK K) | (apply Exists.intro; refine ⟨fun _ => ?_, hK _ ?_⟩; (first | fail); clear hK K)))
  refine wpQ_nil ?_
  simp only [wpN]
  intro ga hga
  intro gb hgb
  have ngbga : ¬ gb = ga := by intro h; subst h; simp [Held.put, Held.nil] at hgb
  have ngagb : ¬ ga = gb := fun h => ngbga h.symm
  intro gc hgc
  have ngcga : ¬ gc = ga := by intro h; subst h; simp [Held.put, Held.nil] at hgc
  have ngagc : ¬ ga = gc := fun h => ngcga h.symm
  have ngcgb : ¬ gc = gb := by intro h; subst h; simp [Held.put, Held.nil] at hgc
  have ngbgc : ¬ gb = gc := fun h => ngcgb h.symm
  simp only [wpP]
  refine ⟨ga, _, by simp [go_sem], by simp [Held.put, Held.nil, ngagb, ngagc, ngbga, ngbgc, ngcga, ngcgb]; rfl, ?hx, ?_⟩
  case hx =>
    intro w' hw'
    have q0 := cell_block (i := 0) hw'; have f0 := free_block (i := 0) hw'
    have q1 := cell_block (i := 1) hw'; have f1 := free_block (i := 1) hw'
    simp at q0 q1
    go_simp
    simp only [upPut]
    refine (Setted.start hw' |>.step 0 _ |>.step 1 _).eq ?_
    simp [wrote, go_sem]
  refine ⟨gb, _, by simp [go_sem], by simp [Held.put, Held.nil, ngagb, ngagc, ngbga, ngbgc, ngcga, ngcgb]; rfl, ?hx, ?_⟩
  case hx =>
    intro w' hw'
    have q0 := cell_block (i := 0) hw'; have f0 := free_block (i := 0) hw'
    have q1 := cell_block (i := 1) hw'; have f1 := free_block (i := 1) hw'
    simp at q0 q1
    go_simp
    simp only [upPut]
    refine (Setted.start hw' |>.step 0 _ |>.step 1 _).eq ?_
    simp [wrote, go_sem]
  refine ⟨gc, _, by simp [go_sem], by simp [Held.put, Held.nil, ngagb, ngagc, ngbga, ngbgc, ngcga, ngcgb]; rfl, ?hx, ?_⟩
  case hx =>
    intro w' hw'
    have q0 := cell_block (i := 0) hw'; have f0 := free_block (i := 0) hw'
    have q1 := cell_block (i := 1) hw'; have f1 := free_block (i := 1) hw'
    simp at q0 q1
    go_simp
    simp only [upPut]
    refine (Setted.start hw' |>.step 0 _ |>.step 1 _).eq ?_
    simp [wrote, go_sem]
  repeat (with_reducible refine wpL_skip (by decide) ?_)
  refine wpL_nil ?_
  intro x1 hin
  obtain ⟨hc1, hc2⟩ := hin gc _ _ (Held.at_self _ _ _ _)
  obtain ⟨hb1, hb2⟩ := hin gb _ _ ((Held.at_ne _ _ _ ngbgc).trans (Held.at_self _ _ _ _))
  obtain ⟨ha1, ha2⟩ := hin ga _ _ ((Held.at_ne _ _ _ ngagc).trans ((Held.at_ne _ _ _ ngagb).trans (Held.at_self _ _ _ _)))
  clear hin hga hgb hgc
  have qa0 := cell_block (i := 0) ha2
  have qa1 := cell_block (i := 1) ha2
  have qb0 := cell_block (i := 0) hb2
  have qb1 := cell_block (i := 1) hb2
  have qc1 := cell_block (i := 1) hc2
  simp [wrote, go_sem] at qa0 qa1 qb0 qb1 qc1
  have la := lt_of_get ha2
  have lb := lt_of_get hb2
  have lc := lt_of_get hc2
  clear ha1 hb1 hc1 ha2 hb2 hc2
  have p0 := (x1.cell w.heap.size 0 (by simp; omega)).trans (by simp [go_sem]; rfl)
  have p1 := (x1.cell w.heap.size 1 (by simp; omega)).trans (by simp [go_sem]; rfl)
  have p3 := (x1.cell w.heap.size 3 (by simp; omega)).trans (by simp [go_sem]; rfl)
  have ln : w.heap.size < x1.val.heap.size := by have := x1.size; simp at this; omega
  have hbw : Below w.heap.size w x1.val := by (repeat' (first | (with_reducible exact Below.refl _ _) | (with_reducible refine Below.alloc ?_ ?_ _) | (with_reducible refine Below.drew ?_) | (with_reducible refine Aft.below _ ?_ ?_) | (with_reducible refine Below.setCell_new ?_ ?_ _ _) | (with_reducible exact Nat.le_refl _) | (with_reducible refine Aft.le _ ?_) | (with_reducible refine le_alloc ?_) | (with_reducible refine le_drew ?_) | (with_reducible refine le_setCell ?_) | omega))
  clear ngagb ngagc ngbgc ngbga ngcga ngcgb
  generalize x1.val = W1 at *
  go_wp2
  go_ret
  exact ⟨rfl, Below.aft hbw⟩

set_option maxRecDepth 100000 in
set_option maxHeartbeats 1600000 in
theorem exact_8 (wd v aw av bw bv cw cv : Int) (hw1 : 1 ≤ wd) (hw2 : wd ≤ 16) (a0 : 0 ≤ av) (a1 : av ≤ 65536) (b0 : 0 ≤ bv) (b1 : bv ≤ 65536) (hm : -9223372036854775808 ≤ av * bv ∧ av * bv ≤ 9223372036854775807) (B : Option Addr) (al bc : Nat) (w : World) :
    Calls Tryz.prog 108 #[.agg #[.int .i64 8, .int .i64 wd, .slice B al bc, .int .i64 v], .agg #[.int .i64 aw, .int .i64 av, .int .i64 bw, .int .i64 bv, .int .i64 cw, .int .i64 cv]] w fun e w' => e = .returned (.int .i64 (av * bv)) ∧ ∃ x : Aft w, w' = x.val := by
  go_enter Tryz.func108, Tryz.ntmps108
  go_wp2_with fail
  refine wp_region_kd [.quiet, .quiet, .quiet, .quiet, .quiet, .quiet, .new (.cells #[.int .i64 0, .int .i64 0] 114), .new (.cells #[.int .i64 0, .int .i64 0] 114), .new (.cells #[.int .i64 0, .int .i64 0] 114), .put (.tmp 5) (.tmp 9), .put (.tmp 6) (.tmp 11), .put (.tmp 7) (.tmp 13)] (by kernel_rfl) (by kernel_rfl) (by kernel_rfl) rfl (by kernel_rfl) ?hF ?_
  case hF =>
    simp only [FitsL, fit1, true_and, and_true]
    repeat' apply And.intro
    all_goals first | rfl | (simp [Op.operands]; done) | (intro a w; go_simp; done)
  repeat (first | (with_reducible refine wpQ_new ?_) | (with_reducible refine wpQ_put ?_) | (with_reducible refine wpQ_late ?_) | (refine wpQ_step (fun K hK => ?_); go_simp; first | (refine hK _ ?_; clear hK K) | (apply Exists.intro; refine ⟨fun _ => ?_, hK _ ?_⟩; (first | fail); clear hK K)))
  refine wpQ_nil ?_
  simp only [wpN]
  intro ga hga
  intro gb hgb
  have ngbga : ¬ gb = ga := by intro h; subst h; simp [Held.put, Held.nil] at hgb
  have ngagb : ¬ ga = gb := fun h => ngbga h.symm
  intro gc hgc
  have ngcga : ¬ gc = ga := by intro h; subst h; simp [Held.put, Held.nil] at hgc
  have ngagc : ¬ ga = gc := fun h => ngcga h.symm
  have ngcgb : ¬ gc = gb := by intro h; subst h; simp [Held.put, Held.nil] at hgc
  have ngbgc : ¬ gb = gc := fun h => ngcgb h.symm
  simp only [wpP]
  refine ⟨ga, _, by simp [go_sem], by simp [Held.put, Held.nil, ngagb, ngagc, ngbga, ngbgc, ngcga, ngcgb]; rfl, ?hx, ?_⟩
  case hx =>
    intro w' hw'
    have q0 := cell_block (i := 0) hw'; have f0 := free_block (i := 0) hw'
    have q1 := cell_block (i := 1) hw'; have f1 := free_block (i := 1) hw'
    simp at q0 q1
    go_simp
    simp only [upPut]
    refine (Setted.start hw' |>.step 0 _ |>.step 1 _).eq ?_
    simp [wrote, go_sem]
  refine ⟨gb, _, by simp [go_sem], by simp [Held.put, Held.nil, ngagb, ngagc, ngbga, ngbgc, ngcga, ngcgb]; rfl, ?hx, ?_⟩
  case hx =>
    intro w' hw'
    have q0 := cell_block (i := 0) hw'; have f0 := free_block (i := 0) hw'
    have q1 := cell_block (i := 1) hw'; have f1 := free_block (i := 1) hw'
    simp at q0 q1
    go_simp
    simp only [upPut]
    refine (Setted.start hw' |>.step 0 _ |>.step 1 _).eq ?_
    simp [wrote, go_sem]
  refine ⟨gc, _, by simp [go_sem], by simp [Held.put, Held.nil, ngagb, ngagc, ngbga, ngbgc, ngcga, ngcgb]; rfl, ?hx, ?_⟩
  case hx =>
    intro w' hw'
    have q0 := cell_block (i := 0) hw'; have f0 := free_block (i := 0) hw'
    have q1 := cell_block (i := 1) hw'; have f1 := free_block (i := 1) hw'
    simp at q0 q1
    go_simp
    simp only [upPut]
    refine (Setted.start hw' |>.step 0 _ |>.step 1 _).eq ?_
    simp [wrote, go_sem]
  repeat (with_reducible refine wpL_skip (by decide) ?_)
  refine wpL_nil ?_
  intro x1 hin
  obtain ⟨hc1, hc2⟩ := hin gc _ _ (Held.at_self _ _ _ _)
  obtain ⟨hb1, hb2⟩ := hin gb _ _ ((Held.at_ne _ _ _ ngbgc).trans (Held.at_self _ _ _ _))
  obtain ⟨ha1, ha2⟩ := hin ga _ _ ((Held.at_ne _ _ _ ngagc).trans ((Held.at_ne _ _ _ ngagb).trans (Held.at_self _ _ _ _)))
  clear hin hga hgb hgc
  have qa0 := cell_block (i := 0) ha2
  have qa1 := cell_block (i := 1) ha2
  have qb0 := cell_block (i := 0) hb2
  have qb1 := cell_block (i := 1) hb2
  have qc1 := cell_block (i := 1) hc2
  simp [wrote, go_sem] at qa0 qa1 qb0 qb1 qc1
  have la := lt_of_get ha2
  have lb := lt_of_get hb2
  have lc := lt_of_get hc2
  clear ha1 hb1 hc1 ha2 hb2 hc2
  have p0 := (x1.cell w.heap.size 0 (by simp; omega)).trans (by simp [go_sem]; rfl)
  have p1 := (x1.cell w.heap.size 1 (by simp; omega)).trans (by simp [go_sem]; rfl)
  have p3 := (x1.cell w.heap.size 3 (by simp; omega)).trans (by simp [go_sem]; rfl)
  have ln : w.heap.size < x1.val.heap.size := by have := x1.size; simp at this; omega
  have hbw : Below w.heap.size w x1.val := by (repeat' (first | (with_reducible exact Below.refl _ _) | (with_reducible refine Below.alloc ?_ ?_ _) | (with_reducible refine Below.drew ?_) | (with_reducible refine Aft.below _ ?_ ?_) | (with_reducible refine Below.setCell_new ?_ ?_ _ _) | (with_reducible exact Nat.le_refl _) | (with_reducible refine Aft.le _ ?_) | (with_reducible refine le_alloc ?_) | (with_reducible refine le_drew ?_) | (with_reducible refine le_setCell ?_) | omega))
  clear ngagb ngagc ngbgc ngbga ngcga ngcgb
  generalize x1.val = W1 at *
  obtain ⟨hm1, hm2⟩ := hm
  go_wp2_with (fail)
  go_ret
  exact ⟨rfl, Below.aft hbw⟩

set_option maxRecDepth 100000 in
set_option maxHeartbeats 1600000 in
theorem exact_9 (wd v aw av bw bv cw cv : Int) (hw1 : 1 ≤ wd) (hw2 : wd ≤ 16) (a0 : 0 ≤ av) (a1 : av ≤ 65536) (b0 : 0 ≤ bv) (b1 : bv ≤ 65536) (B : Option Addr) (al bc : Nat) (w : World) :
    Calls Tryz.prog 108 #[.agg #[.int .i64 9, .int .i64 wd, .slice B al bc, .int .i64 v], .agg #[.int .i64 aw, .int .i64 av, .int .i64 bw, .int .i64 bv, .int .i64 cw, .int .i64 cv]] w fun e w' => e = .returned (.int .i64 (fl (av == bv))) ∧ ∃ x : Aft w, w' = x.val := by
  go_enter Tryz.func108, Tryz.ntmps108
  go_wp2_with fail
  refine wp_region_kd [.quiet, .quiet, .quiet, .quiet, .quiet, .quiet, .new (.cells #[.int .i64 0, .int .i64 0] 114), .new (.cells #[.int .i64 0, .int .i64 0] 114), .new (.cells #[.int .i64 0, .int .i64 0] 114), .put (.tmp 5) (.tmp 9), .put (.tmp 6) (.tmp 11), .put (.tmp 7) (.tmp 13)] (by kernel_rfl) (by kernel_rfl) (by kernel_rfl) rfl (by kernel_rfl) ?hF ?_
  case hF =>
    simp only [FitsL, fit1, true_and, and_true]
    repeat' apply And.intro
    all_goals first | rfl | (simp [Op.operands]; done) | (intro a w; go_simp; done)
  repeat (first | (with_reducible refine wpQ_new ?_) | (with_reducible refine wpQ_put ?_) | (with_reducible refine wpQ_late ?_) | (refine wpQ_step (fun K hK => ?_); go_simp; first | (refine hK _ ?_; clear hK K) | (apply Exists.intro; refine ⟨fun _ => ?_, hK _ ?_⟩; (first | fail); clear hK K)))
  refine wpQ_nil ?_
  simp only [wpN]
  intro ga hga
  intro gb hgb
  have ngbga : ¬ gb = ga := by intro h; subst h; simp [Held.put, Held.nil] at hgb
  have ngagb : ¬ ga = gb := fun h => ngbga h.symm
  intro gc hgc
  have ngcga : ¬ gc = ga := by intro h; subst h; simp [Held.put, Held.nil] at hgc
  have ngagc : ¬ ga = gc := fun h => ngcga h.symm
  have ngcgb : ¬ gc = gb := by intro h; subst h; simp [Held.put, Held.nil] at hgc
  have ngbgc : ¬ gb = gc := fun h => ngcgb h.symm
  simp only [wpP]
  refine ⟨ga, _, by simp [go_sem], by simp [Held.put, Held.nil, ngagb, ngagc, ngbga, ngbgc, ngcga, ngcgb]; rfl, ?hx, ?_⟩
  case hx =>
    intro w' hw'
    have q0 := cell_block (i := 0) hw'; have f0 := free_block (i := 0) hw'
    have q1 := cell_block (i := 1) hw'; have f1 := free_block (i := 1) hw'
    simp at q0 q1
    go_simp
    simp only [upPut]
    refine (Setted.start hw' |>.step 0 _ |>.step 1 _).eq ?_
    simp [wrote, go_sem]
  refine ⟨gb, _, by simp [go_sem], by simp [Held.put, Held.nil, ngagb, ngagc, ngbga, ngbgc, ngcga, ngcgb]; rfl, ?hx, ?_⟩
  case hx =>
    intro w' hw'
    have q0 := cell_block (i := 0) hw'; have f0 := free_block (i := 0) hw'
    have q1 := cell_block (i := 1) hw'; have f1 := free_block (i := 1) hw'
    simp at q0 q1
    go_simp
    simp only [upPut]
    refine (Setted.start hw' |>.step 0 _ |>.step 1 _).eq ?_
    simp [wrote, go_sem]
  refine ⟨gc, _, by simp [go_sem], by simp [Held.put, Held.nil, ngagb, ngagc, ngbga, ngbgc, ngcga, ngcgb]; rfl, ?hx, ?_⟩
  case hx =>
    intro w' hw'
    have q0 := cell_block (i := 0) hw'; have f0 := free_block (i := 0) hw'
    have q1 := cell_block (i := 1) hw'; have f1 := free_block (i := 1) hw'
    simp at q0 q1
    go_simp
    simp only [upPut]
    refine (Setted.start hw' |>.step 0 _ |>.step 1 _).eq ?_
    simp [wrote, go_sem]
  repeat (with_reducible refine wpL_skip (by decide) ?_)
  refine wpL_nil ?_
  intro x1 hin
  obtain ⟨hc1, hc2⟩ := hin gc _ _ (Held.at_self _ _ _ _)
  obtain ⟨hb1, hb2⟩ := hin gb _ _ ((Held.at_ne _ _ _ ngbgc).trans (Held.at_self _ _ _ _))
  obtain ⟨ha1, ha2⟩ := hin ga _ _ ((Held.at_ne _ _ _ ngagc).trans ((Held.at_ne _ _ _ ngagb).trans (Held.at_self _ _ _ _)))
  clear hin hga hgb hgc
  have qa0 := cell_block (i := 0) ha2
  have qa1 := cell_block (i := 1) ha2
  have qb0 := cell_block (i := 0) hb2
  have qb1 := cell_block (i := 1) hb2
  have qc1 := cell_block (i := 1) hc2
  simp [wrote, go_sem] at qa0 qa1 qb0 qb1 qc1
  have la := lt_of_get ha2
  have lb := lt_of_get hb2
  have lc := lt_of_get hc2
  clear ha1 hb1 hc1 ha2 hb2 hc2
  have p0 := (x1.cell w.heap.size 0 (by simp; omega)).trans (by simp [go_sem]; rfl)
  have p1 := (x1.cell w.heap.size 1 (by simp; omega)).trans (by simp [go_sem]; rfl)
  have p3 := (x1.cell w.heap.size 3 (by simp; omega)).trans (by simp [go_sem]; rfl)
  have ln : w.heap.size < x1.val.heap.size := by have := x1.size; simp at this; omega
  have hbw : Below w.heap.size w x1.val := by (repeat' (first | (with_reducible exact Below.refl _ _) | (with_reducible refine Below.alloc ?_ ?_ _) | (with_reducible refine Below.drew ?_) | (with_reducible refine Aft.below _ ?_ ?_) | (with_reducible refine Below.setCell_new ?_ ?_ _ _) | (with_reducible exact Nat.le_refl _) | (with_reducible refine Aft.le _ ?_) | (with_reducible refine le_alloc ?_) | (with_reducible refine le_drew ?_) | (with_reducible refine le_setCell ?_) | omega))
  clear ngagb ngagc ngbgc ngbga ngcga ngcgb
  generalize x1.val = W1 at *
  go_wp2_with (first | (go_at_call 121; refine (flag_c _ _).mono ?_; rintro e w' ⟨rfl, rfl⟩))
  go_ret
  exact ⟨rfl, Below.aft hbw⟩

set_option maxRecDepth 100000 in
set_option maxHeartbeats 1600000 in
theorem exact_10 (wd v aw av bw bv cw cv : Int) (hw1 : 1 ≤ wd) (hw2 : wd ≤ 16) (a0 : 0 ≤ av) (a1 : av ≤ 65536) (b0 : 0 ≤ bv) (b1 : bv ≤ 65536) (B : Option Addr) (al bc : Nat) (w : World) :
    Calls Tryz.prog 108 #[.agg #[.int .i64 10, .int .i64 wd, .slice B al bc, .int .i64 v], .agg #[.int .i64 aw, .int .i64 av, .int .i64 bw, .int .i64 bv, .int .i64 cw, .int .i64 cv]] w fun e w' => e = .returned (.int .i64 (fl (decide (av < bv)))) ∧ ∃ x : Aft w, w' = x.val := by
  go_enter Tryz.func108, Tryz.ntmps108
  go_wp2_with fail
  refine wp_region_kd [.quiet, .quiet, .quiet, .quiet, .quiet, .quiet, .new (.cells #[.int .i64 0, .int .i64 0] 114), .new (.cells #[.int .i64 0, .int .i64 0] 114), .new (.cells #[.int .i64 0, .int .i64 0] 114), .put (.tmp 5) (.tmp 9), .put (.tmp 6) (.tmp 11), .put (.tmp 7) (.tmp 13)] (by kernel_rfl) (by kernel_rfl) (by kernel_rfl) rfl (by kernel_rfl) ?hF ?_
  case hF =>
    simp only [FitsL, fit1, true_and, and_true]
    repeat' apply And.intro
    all_goals first | rfl | (simp [Op.operands]; done) | (intro a w; go_simp; done)
  repeat (first | (with_reducible refine wpQ_new ?_) | (with_reducible refine wpQ_put ?_) | (with_reducible refine wpQ_late ?_) | (refine wpQ_step (fun K hK => ?_); go_simp; first | (refine hK _ ?_; clear hK K) | (apply Exists.intro; refine ⟨fun _ => ?_, hK _ ?_⟩; (first | fail); clear hK K)))
  refine wpQ_nil ?_
  simp only [wpN]
  intro ga hga
  intro gb hgb
  have ngbga : ¬ gb = ga := by intro h; subst h; simp [Held.put, Held.nil] at hgb
  have ngagb : ¬ ga = gb := fun h => ngbga h.symm
  intro gc hgc
  have ngcga : ¬ gc = ga := by intro h; subst h; simp [Held.put, Held.nil] at hgc
  have ngagc : ¬ ga = gc := fun h => ngcga h.symm
  have ngcgb : ¬ gc = gb := by intro h; subst h; simp [Held.put, Held.nil] at hgc
  have ngbgc : ¬ gb = gc := fun h => ngcgb h.symm
  simp only [wpP]
  refine ⟨ga, _, by simp [go_sem], by simp [Held.put, Held.nil, ngagb, ngagc, ngbga, ngbgc, ngcga, ngcgb]; rfl, ?hx, ?_⟩
  case hx =>
    intro w' hw'
    have q0 := cell_block (i := 0) hw'; have f0 := free_block (i := 0) hw'
    have q1 := cell_block (i := 1) hw'; have f1 := free_block (i := 1) hw'
    simp at q0 q1
    go_simp
    simp only [upPut]
    refine (Setted.start hw' |>.step 0 _ |>.step 1 _).eq ?_
    simp [wrote, go_sem]
  refine ⟨gb, _, by simp [go_sem], by simp [Held.put, Held.nil, ngagb, ngagc, ngbga, ngbgc, ngcga, ngcgb]; rfl, ?hx, ?_⟩
  case hx =>
    intro w' hw'
    have q0 := cell_block (i := 0) hw'; have f0 := free_block (i := 0) hw'
    have q1 := cell_block (i := 1) hw'; have f1 := free_block (i := 1) hw'
    simp at q0 q1
    go_simp
    simp only [upPut]
    refine (Setted.start hw' |>.step 0 _ |>.step 1 _).eq ?_
    simp [wrote, go_sem]
  refine ⟨gc, _, by simp [go_sem], by simp [Held.put, Held.nil, ngagb, ngagc, ngbga, ngbgc, ngcga, ngcgb]; rfl, ?hx, ?_⟩
  case hx =>
    intro w' hw'
    have q0 := cell_block (i := 0) hw'; have f0 := free_block (i := 0) hw'
    have q1 := cell_block (i := 1) hw'; have f1 := free_block (i := 1) hw'
    simp at q0 q1
    go_simp
    simp only [upPut]
    refine (Setted.start hw' |>.step 0 _ |>.step 1 _).eq ?_
    simp [wrote, go_sem]
  repeat (with_reducible refine wpL_skip (by decide) ?_)
  refine wpL_nil ?_
  intro x1 hin
  obtain ⟨hc1, hc2⟩ := hin gc _ _ (Held.at_self _ _ _ _)
  obtain ⟨hb1, hb2⟩ := hin gb _ _ ((Held.at_ne _ _ _ ngbgc).trans (Held.at_self _ _ _ _))
  obtain ⟨ha1, ha2⟩ := hin ga _ _ ((Held.at_ne _ _ _ ngagc).trans ((Held.at_ne _ _ _ ngagb).trans (Held.at_self _ _ _ _)))
  clear hin hga hgb hgc
  have qa0 := cell_block (i := 0) ha2
  have qa1 := cell_block (i := 1) ha2
  have qb0 := cell_block (i := 0) hb2
  have qb1 := cell_block (i := 1) hb2
  have qc1 := cell_block (i := 1) hc2
  simp [wrote, go_sem] at qa0 qa1 qb0 qb1 qc1
  have la := lt_of_get ha2
  have lb := lt_of_get hb2
  have lc := lt_of_get hc2
  clear ha1 hb1 hc1 ha2 hb2 hc2
  have p0 := (x1.cell w.heap.size 0 (by simp; omega)).trans (by simp [go_sem]; rfl)
  have p1 := (x1.cell w.heap.size 1 (by simp; omega)).trans (by simp [go_sem]; rfl)
  have p3 := (x1.cell w.heap.size 3 (by simp; omega)).trans (by simp [go_sem]; rfl)
  have ln : w.heap.size < x1.val.heap.size := by have := x1.size; simp at this; omega
  have hbw : Below w.heap.size w x1.val := by (repeat' (first | (with_reducible exact Below.refl _ _) | (with_reducible refine Below.alloc ?_ ?_ _) | (with_reducible refine Below.drew ?_) | (with_reducible refine Aft.below _ ?_ ?_) | (with_reducible refine Below.setCell_new ?_ ?_ _ _) | (with_reducible exact Nat.le_refl _) | (with_reducible refine Aft.le _ ?_) | (with_reducible refine le_alloc ?_) | (with_reducible refine le_drew ?_) | (with_reducible refine le_setCell ?_) | omega))
  clear ngagb ngagc ngbgc ngbga ngcga ngcgb
  generalize x1.val = W1 at *
  go_wp2_with (first | (go_at_call 121; refine (flag_c _ _).mono ?_; rintro e w' ⟨rfl, rfl⟩))
  go_ret
  exact ⟨rfl, Below.aft hbw⟩

set_option maxRecDepth 100000 in
set_option maxHeartbeats 1600000 in
theorem exact_11 (wd v aw av bw bv cw cv : Int) (hw1 : 1 ≤ wd) (hw2 : wd ≤ 16) (a0 : 0 ≤ av) (a1 : av ≤ 65536) (b0 : 0 ≤ bv) (b1 : bv ≤ 65536) (aw1 : 1 ≤ aw) (aw2 : aw ≤ 16) (bw1 : 1 ≤ bw) (bw2 : bw ≤ 16) (B : Option Addr) (al bc : Nat) (w : World) :
    Calls Tryz.prog 108 #[.agg #[.int .i64 11, .int .i64 wd, .slice B al bc, .int .i64 v], .agg #[.int .i64 aw, .int .i64 av, .int .i64 bw, .int .i64 bv, .int .i64 cw, .int .i64 cv]] w fun e w' => e = .returned (.int .i64 (fl (decide (sgG aw av < sgG bw bv)))) ∧ ∃ x : Aft w, w' = x.val := by
  go_enter Tryz.func108, Tryz.ntmps108
  go_wp2_with fail
  refine wp_region_kd [.quiet, .quiet, .quiet, .quiet, .quiet, .quiet, .new (.cells #[.int .i64 0, .int .i64 0] 114), .new (.cells #[.int .i64 0, .int .i64 0] 114), .new (.cells #[.int .i64 0, .int .i64 0] 114), .put (.tmp 5) (.tmp 9), .put (.tmp 6) (.tmp 11), .put (.tmp 7) (.tmp 13)] (by kernel_rfl) (by kernel_rfl) (by kernel_rfl) rfl (by kernel_rfl) ?hF ?_
  case hF =>
    simp only [FitsL, fit1, true_and, and_true]
    repeat' apply And.intro
    all_goals first | rfl | (simp [Op.operands]; done) | (intro a w; go_simp; done)
  repeat (first | (with_reducible refine wpQ_new ?_) | (with_reducible refine wpQ_put ?_) | (with_reducible refine wpQ_late ?_) | (refine wpQ_step (fun K hK => ?_); go_simp; first | (refine hK _ ?_; clear hK K) | (apply Exists.intro; refine ⟨fun _ => ?_, hK _ ?_⟩; (first | fail); clear hK K)))
  refine wpQ_nil ?_
  simp only [wpN]
  intro ga hga
  intro gb hgb
  have ngbga : ¬ gb = ga := by intro h; subst h; simp [Held.put, Held.nil] at hgb
  have ngagb : ¬ ga = gb := fun h => ngbga h.symm
  intro gc hgc
  have ngcga : ¬ gc = ga := by intro h; subst h; simp [Held.put, Held.nil] at hgc
  have ngagc : ¬ ga = gc := fun h => ngcga h.symm
  have ngcgb : ¬ gc = gb := by intro h; subst h; simp [Held.put, Held.nil] at hgc
  have ngbgc : ¬ gb = gc := fun h => ngcgb h.symm
  simp only [wpP]
  refine ⟨ga, _, by simp [go_sem], by simp [Held.put, Held.nil, ngagb, ngagc, ngbga, ngbgc, ngcga, ngcgb]; rfl, ?hx, ?_⟩
  case hx =>
    intro w' hw'
    have q0 := cell_block (i := 0) hw'; have f0 := free_block (i := 0) hw'
    have q1 := cell_block (i := 1) hw'; have f1 := free_block (i := 1) hw'
    simp at q0 q1
    go_simp
    simp only [upPut]
    refine (Setted.start hw' |>.step 0 _ |>.step 1 _).eq ?_
    simp [wrote, go_sem]
  refine ⟨gb, _, by simp [go_sem], by simp [Held.put, Held.nil, ngagb, ngagc, ngbga, ngbgc, ngcga, ngcgb]; rfl, ?hx, ?_⟩
  case hx =>
    intro w' hw'
    have q0 := cell_block (i := 0) hw'; have f0 := free_block (i := 0) hw'
    have q1 := cell_block (i := 1) hw'; have f1 := free_block (i := 1) hw'
    simp at q0 q1
    go_simp
    simp only [upPut]
    refine (Setted.start hw' |>.step 0 _ |>.step 1 _).eq ?_
    simp [wrote, go_sem]
  refine ⟨gc, _, by simp [go_sem], by simp [Held.put, Held.nil, ngagb, ngagc, ngbga, ngbgc, ngcga, ngcgb]; rfl, ?hx, ?_⟩
  case hx =>
    intro w' hw'
    have q0 := cell_block (i := 0) hw'; have f0 := free_block (i := 0) hw'
    have q1 := cell_block (i := 1) hw'; have f1 := free_block (i := 1) hw'
    simp at q0 q1
    go_simp
    simp only [upPut]
    refine (Setted.start hw' |>.step 0 _ |>.step 1 _).eq ?_
    simp [wrote, go_sem]
  repeat (with_reducible refine wpL_skip (by decide) ?_)
  refine wpL_nil ?_
  intro x1 hin
  obtain ⟨hc1, hc2⟩ := hin gc _ _ (Held.at_self _ _ _ _)
  obtain ⟨hb1, hb2⟩ := hin gb _ _ ((Held.at_ne _ _ _ ngbgc).trans (Held.at_self _ _ _ _))
  obtain ⟨ha1, ha2⟩ := hin ga _ _ ((Held.at_ne _ _ _ ngagc).trans ((Held.at_ne _ _ _ ngagb).trans (Held.at_self _ _ _ _)))
  clear hin hga hgb hgc
  have qa0 := cell_block (i := 0) ha2
  have qa1 := cell_block (i := 1) ha2
  have qb0 := cell_block (i := 0) hb2
  have qb1 := cell_block (i := 1) hb2
  have qc1 := cell_block (i := 1) hc2
  simp [wrote, go_sem] at qa0 qa1 qb0 qb1 qc1
  have la := lt_of_get ha2
  have lb := lt_of_get hb2
  have lc := lt_of_get hc2
  clear ha1 hb1 hc1 ha2 hb2 hc2
  have p0 := (x1.cell w.heap.size 0 (by simp; omega)).trans (by simp [go_sem]; rfl)
  have p1 := (x1.cell w.heap.size 1 (by simp; omega)).trans (by simp [go_sem]; rfl)
  have p3 := (x1.cell w.heap.size 3 (by simp; omega)).trans (by simp [go_sem]; rfl)
  have ln : w.heap.size < x1.val.heap.size := by have := x1.size; simp at this; omega
  have hbw : Below w.heap.size w x1.val := by (repeat' (first | (with_reducible exact Below.refl _ _) | (with_reducible refine Below.alloc ?_ ?_ _) | (with_reducible refine Below.drew ?_) | (with_reducible refine Aft.below _ ?_ ?_) | (with_reducible refine Below.setCell_new ?_ ?_ _ _) | (with_reducible exact Nat.le_refl _) | (with_reducible refine Aft.le _ ?_) | (with_reducible refine le_alloc ?_) | (with_reducible refine le_drew ?_) | (with_reducible refine le_setCell ?_) | omega))
  clear ngagb ngagc ngbgc ngbga ngcga ngcgb
  generalize x1.val = W1 at *
  go_wp2_with fail
  refine wp_region_aft (by kernel_rfl) (by kernel_rfl) ?_
  repeat (go_big_quiet_step (first | (go_at_call 122; exact Calls.qa (signed_c _ _ (by omega) (by omega) (by omega) (by omega) _)) | (go_at_call 121; exact Calls.qs (flag_c _ _))))
  refine wpQuiet_nil ?_
  intro y
  go_wp2
  go_ret
  exact ⟨rfl, Below.aft (y.below hbw hbw.size)⟩

/-- The choice by a bit. -/
def muxG (a b c : Int) : Int := if a = 1 then b else c
theorem mulS {a b : Int} (ha : 0 ≤ a) (ha2 : a ≤ 65536) (hb : 0 ≤ b) (hb2 : b ≤ 65536) : 0 ≤ a * b ∧ a * b ≤ 4294967296 := by
  refine ⟨Int.mul_nonneg ha hb, ?_⟩
  calc a * b ≤ 65536 * b := Int.mul_le_mul_of_nonneg_right ha2 hb
    _ ≤ 65536 * 65536 := Int.mul_le_mul_of_nonneg_left hb2 (by decide)
    _ = 4294967296 := by decide
theorem wrapM {a b : Int} (ha : 0 ≤ a) (ha2 : a ≤ 65536) (hb : 0 ≤ b) (hb2 : b ≤ 16) : wrap64 (a * 2 ^ b.toNat) = a * pw b := by
  have hp := pw_bd hb hb2
  have := mulS ha ha2 (b := pw b) (by omega) (by omega)
  exact IntWalk.wrap64_in _ (by show -9223372036854775808 ≤ a * pw b ∧ a * pw b ≤ 9223372036854775807; omega)

set_option maxRecDepth 100000 in
set_option maxHeartbeats 1600000 in
theorem exact_12 (wd v aw av bw bv cw cv : Int) (hw1 : 1 ≤ wd) (hw2 : wd ≤ 16) (a0 : 0 ≤ av) (a1 : av ≤ 65536) (b0 : 0 ≤ bv) (b1 : bv ≤ 65536) (B : Option Addr) (al bc : Nat) (w : World) :
    Calls Tryz.prog 108 #[.agg #[.int .i64 12, .int .i64 wd, .slice B al bc, .int .i64 v], .agg #[.int .i64 aw, .int .i64 av, .int .i64 bw, .int .i64 bv, .int .i64 cw, .int .i64 cv]] w fun e w' => e = .returned (.int .i64 (muxG av bv cv)) ∧ ∃ x : Aft w, w' = x.val := by
  go_enter Tryz.func108, Tryz.ntmps108
  go_wp2_with fail
  refine wp_region_kd [.quiet, .quiet, .quiet, .quiet, .quiet, .quiet, .new (.cells #[.int .i64 0, .int .i64 0] 114), .new (.cells #[.int .i64 0, .int .i64 0] 114), .new (.cells #[.int .i64 0, .int .i64 0] 114), .put (.tmp 5) (.tmp 9), .put (.tmp 6) (.tmp 11), .put (.tmp 7) (.tmp 13)] (by kernel_rfl) (by kernel_rfl) (by kernel_rfl) rfl (by kernel_rfl) ?hF ?_
  case hF =>
    simp only [FitsL, fit1, true_and, and_true]
    repeat' apply And.intro
    all_goals first | rfl | (simp [Op.operands]; done) | (intro a w; go_simp; done)
  repeat (first | (with_reducible refine wpQ_new ?_) | (with_reducible refine wpQ_put ?_) | (with_reducible refine wpQ_late ?_) | (refine wpQ_step (fun K hK => ?_); go_simp; first | (refine hK _ ?_; clear hK K) | (apply Exists.intro; refine ⟨fun _ => ?_, hK _ ?_⟩; (first | fail); clear hK K)))
  refine wpQ_nil ?_
  simp only [wpN]
  intro ga hga
  intro gb hgb
  have ngbga : ¬ gb = ga := by intro h; subst h; simp [Held.put, Held.nil] at hgb
  have ngagb : ¬ ga = gb := fun h => ngbga h.symm
  intro gc hgc
  have ngcga : ¬ gc = ga := by intro h; subst h; simp [Held.put, Held.nil] at hgc
  have ngagc : ¬ ga = gc := fun h => ngcga h.symm
  have ngcgb : ¬ gc = gb := by intro h; subst h; simp [Held.put, Held.nil] at hgc
  have ngbgc : ¬ gb = gc := fun h => ngcgb h.symm
  simp only [wpP]
  refine ⟨ga, _, by simp [go_sem], by simp [Held.put, Held.nil, ngagb, ngagc, ngbga, ngbgc, ngcga, ngcgb]; rfl, ?hx, ?_⟩
  case hx =>
    intro w' hw'
    have q0 := cell_block (i := 0) hw'; have f0 := free_block (i := 0) hw'
    have q1 := cell_block (i := 1) hw'; have f1 := free_block (i := 1) hw'
    simp at q0 q1
    go_simp
    simp only [upPut]
    refine (Setted.start hw' |>.step 0 _ |>.step 1 _).eq ?_
    simp [wrote, go_sem]
  refine ⟨gb, _, by simp [go_sem], by simp [Held.put, Held.nil, ngagb, ngagc, ngbga, ngbgc, ngcga, ngcgb]; rfl, ?hx, ?_⟩
  case hx =>
    intro w' hw'
    have q0 := cell_block (i := 0) hw'; have f0 := free_block (i := 0) hw'
    have q1 := cell_block (i := 1) hw'; have f1 := free_block (i := 1) hw'
    simp at q0 q1
    go_simp
    simp only [upPut]
    refine (Setted.start hw' |>.step 0 _ |>.step 1 _).eq ?_
    simp [wrote, go_sem]
  refine ⟨gc, _, by simp [go_sem], by simp [Held.put, Held.nil, ngagb, ngagc, ngbga, ngbgc, ngcga, ngcgb]; rfl, ?hx, ?_⟩
  case hx =>
    intro w' hw'
    have q0 := cell_block (i := 0) hw'; have f0 := free_block (i := 0) hw'
    have q1 := cell_block (i := 1) hw'; have f1 := free_block (i := 1) hw'
    simp at q0 q1
    go_simp
    simp only [upPut]
    refine (Setted.start hw' |>.step 0 _ |>.step 1 _).eq ?_
    simp [wrote, go_sem]
  repeat (with_reducible refine wpL_skip (by decide) ?_)
  refine wpL_nil ?_
  intro x1 hin
  obtain ⟨hc1, hc2⟩ := hin gc _ _ (Held.at_self _ _ _ _)
  obtain ⟨hb1, hb2⟩ := hin gb _ _ ((Held.at_ne _ _ _ ngbgc).trans (Held.at_self _ _ _ _))
  obtain ⟨ha1, ha2⟩ := hin ga _ _ ((Held.at_ne _ _ _ ngagc).trans ((Held.at_ne _ _ _ ngagb).trans (Held.at_self _ _ _ _)))
  clear hin hga hgb hgc
  have qa0 := cell_block (i := 0) ha2
  have qa1 := cell_block (i := 1) ha2
  have qb0 := cell_block (i := 0) hb2
  have qb1 := cell_block (i := 1) hb2
  have qc1 := cell_block (i := 1) hc2
  simp [wrote, go_sem] at qa0 qa1 qb0 qb1 qc1
  have la := lt_of_get ha2
  have lb := lt_of_get hb2
  have lc := lt_of_get hc2
  clear ha1 hb1 hc1 ha2 hb2 hc2
  have p0 := (x1.cell w.heap.size 0 (by simp; omega)).trans (by simp [go_sem]; rfl)
  have p1 := (x1.cell w.heap.size 1 (by simp; omega)).trans (by simp [go_sem]; rfl)
  have p3 := (x1.cell w.heap.size 3 (by simp; omega)).trans (by simp [go_sem]; rfl)
  have ln : w.heap.size < x1.val.heap.size := by have := x1.size; simp at this; omega
  have hbw : Below w.heap.size w x1.val := by (repeat' (first | (with_reducible exact Below.refl _ _) | (with_reducible refine Below.alloc ?_ ?_ _) | (with_reducible refine Below.drew ?_) | (with_reducible refine Aft.below _ ?_ ?_) | (with_reducible refine Below.setCell_new ?_ ?_ _ _) | (with_reducible exact Nat.le_refl _) | (with_reducible refine Aft.le _ ?_) | (with_reducible refine le_alloc ?_) | (with_reducible refine le_drew ?_) | (with_reducible refine le_setCell ?_) | omega))
  clear ngagb ngagc ngbgc ngbga ngcga ngcgb
  generalize x1.val = W1 at *
  by_cases h : av = 1
  · have HR := Lib.hid (show muxG av bv cv = bv from if_pos h)
    subst h
    go_wp2
    go_ret
    exact ⟨retI HR.out.symm, Below.aft hbw⟩
  · have HR := Lib.hid (show muxG av bv cv = cv from if_neg h)
    have h1 : (av == 1) = false := by simpa using h
    clear h
    go_wp2
    go_ret
    exact ⟨retI HR.out.symm, Below.aft hbw⟩

set_option maxRecDepth 100000 in
set_option maxHeartbeats 1600000 in
theorem exact_13 (wd v aw av bw bv cw cv : Int) (hw1 : 1 ≤ wd) (hw2 : wd ≤ 16) (a0 : 0 ≤ av) (a1 : av ≤ 65536) (b0 : 0 ≤ bv) (b1 : bv ≤ 65536) (bw1 : 0 ≤ bw) (bw2 : bw ≤ 16) (B : Option Addr) (al bc : Nat) (w : World) :
    Calls Tryz.prog 108 #[.agg #[.int .i64 13, .int .i64 wd, .slice B al bc, .int .i64 v], .agg #[.int .i64 aw, .int .i64 av, .int .i64 bw, .int .i64 bv, .int .i64 cw, .int .i64 cv]] w fun e w' => e = .returned (.int .i64 (bits .or .i64 (av * pw bw) bv)) ∧ ∃ x : Aft w, w' = x.val := by
  go_enter Tryz.func108, Tryz.ntmps108
  go_wp2_with fail
  refine wp_region_kd [.quiet, .quiet, .quiet, .quiet, .quiet, .quiet, .new (.cells #[.int .i64 0, .int .i64 0] 114), .new (.cells #[.int .i64 0, .int .i64 0] 114), .new (.cells #[.int .i64 0, .int .i64 0] 114), .put (.tmp 5) (.tmp 9), .put (.tmp 6) (.tmp 11), .put (.tmp 7) (.tmp 13)] (by kernel_rfl) (by kernel_rfl) (by kernel_rfl) rfl (by kernel_rfl) ?hF ?_
  case hF =>
    simp only [FitsL, fit1, true_and, and_true]
    repeat' apply And.intro
    all_goals first | rfl | (simp [Op.operands]; done) | (intro a w; go_simp; done)
  repeat (first | (with_reducible refine wpQ_new ?_) | (with_reducible refine wpQ_put ?_) | (with_reducible refine wpQ_late ?_) | (refine wpQ_step (fun K hK => ?_); go_simp; first | (refine hK _ ?_; clear hK K) | (apply Exists.intro; refine ⟨fun _ => ?_, hK _ ?_⟩; (first | fail); clear hK K)))
  refine wpQ_nil ?_
  simp only [wpN]
  intro ga hga
  intro gb hgb
  have ngbga : ¬ gb = ga := by intro h; subst h; simp [Held.put, Held.nil] at hgb
  have ngagb : ¬ ga = gb := fun h => ngbga h.symm
  intro gc hgc
  have ngcga : ¬ gc = ga := by intro h; subst h; simp [Held.put, Held.nil] at hgc
  have ngagc : ¬ ga = gc := fun h => ngcga h.symm
  have ngcgb : ¬ gc = gb := by intro h; subst h; simp [Held.put, Held.nil] at hgc
  have ngbgc : ¬ gb = gc := fun h => ngcgb h.symm
  simp only [wpP]
  refine ⟨ga, _, by simp [go_sem], by simp [Held.put, Held.nil, ngagb, ngagc, ngbga, ngbgc, ngcga, ngcgb]; rfl, ?hx, ?_⟩
  case hx =>
    intro w' hw'
    have q0 := cell_block (i := 0) hw'; have f0 := free_block (i := 0) hw'
    have q1 := cell_block (i := 1) hw'; have f1 := free_block (i := 1) hw'
    simp at q0 q1
    go_simp
    simp only [upPut]
    refine (Setted.start hw' |>.step 0 _ |>.step 1 _).eq ?_
    simp [wrote, go_sem]
  refine ⟨gb, _, by simp [go_sem], by simp [Held.put, Held.nil, ngagb, ngagc, ngbga, ngbgc, ngcga, ngcgb]; rfl, ?hx, ?_⟩
  case hx =>
    intro w' hw'
    have q0 := cell_block (i := 0) hw'; have f0 := free_block (i := 0) hw'
    have q1 := cell_block (i := 1) hw'; have f1 := free_block (i := 1) hw'
    simp at q0 q1
    go_simp
    simp only [upPut]
    refine (Setted.start hw' |>.step 0 _ |>.step 1 _).eq ?_
    simp [wrote, go_sem]
  refine ⟨gc, _, by simp [go_sem], by simp [Held.put, Held.nil, ngagb, ngagc, ngbga, ngbgc, ngcga, ngcgb]; rfl, ?hx, ?_⟩
  case hx =>
    intro w' hw'
    have q0 := cell_block (i := 0) hw'; have f0 := free_block (i := 0) hw'
    have q1 := cell_block (i := 1) hw'; have f1 := free_block (i := 1) hw'
    simp at q0 q1
    go_simp
    simp only [upPut]
    refine (Setted.start hw' |>.step 0 _ |>.step 1 _).eq ?_
    simp [wrote, go_sem]
  repeat (with_reducible refine wpL_skip (by decide) ?_)
  refine wpL_nil ?_
  intro x1 hin
  obtain ⟨hc1, hc2⟩ := hin gc _ _ (Held.at_self _ _ _ _)
  obtain ⟨hb1, hb2⟩ := hin gb _ _ ((Held.at_ne _ _ _ ngbgc).trans (Held.at_self _ _ _ _))
  obtain ⟨ha1, ha2⟩ := hin ga _ _ ((Held.at_ne _ _ _ ngagc).trans ((Held.at_ne _ _ _ ngagb).trans (Held.at_self _ _ _ _)))
  clear hin hga hgb hgc
  have qa0 := cell_block (i := 0) ha2
  have qa1 := cell_block (i := 1) ha2
  have qb0 := cell_block (i := 0) hb2
  have qb1 := cell_block (i := 1) hb2
  have qc1 := cell_block (i := 1) hc2
  simp [wrote, go_sem] at qa0 qa1 qb0 qb1 qc1
  have la := lt_of_get ha2
  have lb := lt_of_get hb2
  have lc := lt_of_get hc2
  clear ha1 hb1 hc1 ha2 hb2 hc2
  have p0 := (x1.cell w.heap.size 0 (by simp; omega)).trans (by simp [go_sem]; rfl)
  have p1 := (x1.cell w.heap.size 1 (by simp; omega)).trans (by simp [go_sem]; rfl)
  have p3 := (x1.cell w.heap.size 3 (by simp; omega)).trans (by simp [go_sem]; rfl)
  have ln : w.heap.size < x1.val.heap.size := by have := x1.size; simp at this; omega
  have hbw : Below w.heap.size w x1.val := by (repeat' (first | (with_reducible exact Below.refl _ _) | (with_reducible refine Below.alloc ?_ ?_ _) | (with_reducible refine Below.drew ?_) | (with_reducible refine Aft.below _ ?_ ?_) | (with_reducible refine Below.setCell_new ?_ ?_ _ _) | (with_reducible exact Nat.le_refl _) | (with_reducible refine Aft.le _ ?_) | (with_reducible refine le_alloc ?_) | (with_reducible refine le_drew ?_) | (with_reducible refine le_setCell ?_) | omega))
  clear ngagb ngagc ngbgc ngbga ngcga ngcgb
  generalize x1.val = W1 at *
  go_wp2_with fail
  refine wp_region_aft (by kernel_rfl) (by kernel_rfl) ?_
  repeat (go_big_quiet_step (fail))
  refine wpQuiet_nil ?_
  intro y
  go_wp2
  go_ret
  exact ⟨retI (by rw [wrapM a0 a1 bw1 bw2]), Below.aft (y.below hbw hbw.size)⟩

set_option maxRecDepth 100000 in
set_option maxHeartbeats 1600000 in
theorem exact_14 (wd v aw av bw bv cw cv : Int) (hw1 : 1 ≤ wd) (hw2 : wd ≤ 16) (a0 : 0 ≤ av) (a1 : av ≤ 65536) (b0 : 0 ≤ bv) (b1 : bv ≤ 65536) (v0 : 0 ≤ v) (v1 : v ≤ 16) (B : Option Addr) (al bc : Nat) (w : World) :
    Calls Tryz.prog 108 #[.agg #[.int .i64 14, .int .i64 wd, .slice B al bc, .int .i64 v], .agg #[.int .i64 aw, .int .i64 av, .int .i64 bw, .int .i64 bv, .int .i64 cw, .int .i64 cv]] w fun e w' => e = .returned (.int .i64 (av / pw v)) ∧ ∃ x : Aft w, w' = x.val := by
  go_enter Tryz.func108, Tryz.ntmps108
  go_wp2_with fail
  refine wp_region_kd [.quiet, .quiet, .quiet, .quiet, .quiet, .quiet, .new (.cells #[.int .i64 0, .int .i64 0] 114), .new (.cells #[.int .i64 0, .int .i64 0] 114), .new (.cells #[.int .i64 0, .int .i64 0] 114), .put (.tmp 5) (.tmp 9), .put (.tmp 6) (.tmp 11), .put (.tmp 7) (.tmp 13)] (by kernel_rfl) (by kernel_rfl) (by kernel_rfl) rfl (by kernel_rfl) ?hF ?_
  case hF =>
    simp only [FitsL, fit1, true_and, and_true]
    repeat' apply And.intro
    all_goals first | rfl | (simp [Op.operands]; done) | (intro a w; go_simp; done)
  repeat (first | (with_reducible refine wpQ_new ?_) | (with_reducible refine wpQ_put ?_) | (with_reducible refine wpQ_late ?_) | (refine wpQ_step (fun K hK => ?_); go_simp; first | (refine hK _ ?_; clear hK K) | (apply Exists.intro; refine ⟨fun _ => ?_, hK _ ?_⟩; (first | fail); clear hK K)))
  refine wpQ_nil ?_
  simp only [wpN]
  intro ga hga
  intro gb hgb
  have ngbga : ¬ gb = ga := by intro h; subst h; simp [Held.put, Held.nil] at hgb
  have ngagb : ¬ ga = gb := fun h => ngbga h.symm
  intro gc hgc
  have ngcga : ¬ gc = ga := by intro h; subst h; simp [Held.put, Held.nil] at hgc
  have ngagc : ¬ ga = gc := fun h => ngcga h.symm
  have ngcgb : ¬ gc = gb := by intro h; subst h; simp [Held.put, Held.nil] at hgc
  have ngbgc : ¬ gb = gc := fun h => ngcgb h.symm
  simp only [wpP]
  refine ⟨ga, _, by simp [go_sem], by simp [Held.put, Held.nil, ngagb, ngagc, ngbga, ngbgc, ngcga, ngcgb]; rfl, ?hx, ?_⟩
  case hx =>
    intro w' hw'
    have q0 := cell_block (i := 0) hw'; have f0 := free_block (i := 0) hw'
    have q1 := cell_block (i := 1) hw'; have f1 := free_block (i := 1) hw'
    simp at q0 q1
    go_simp
    simp only [upPut]
    refine (Setted.start hw' |>.step 0 _ |>.step 1 _).eq ?_
    simp [wrote, go_sem]
  refine ⟨gb, _, by simp [go_sem], by simp [Held.put, Held.nil, ngagb, ngagc, ngbga, ngbgc, ngcga, ngcgb]; rfl, ?hx, ?_⟩
  case hx =>
    intro w' hw'
    have q0 := cell_block (i := 0) hw'; have f0 := free_block (i := 0) hw'
    have q1 := cell_block (i := 1) hw'; have f1 := free_block (i := 1) hw'
    simp at q0 q1
    go_simp
    simp only [upPut]
    refine (Setted.start hw' |>.step 0 _ |>.step 1 _).eq ?_
    simp [wrote, go_sem]
  refine ⟨gc, _, by simp [go_sem], by simp [Held.put, Held.nil, ngagb, ngagc, ngbga, ngbgc, ngcga, ngcgb]; rfl, ?hx, ?_⟩
  case hx =>
    intro w' hw'
    have q0 := cell_block (i := 0) hw'; have f0 := free_block (i := 0) hw'
    have q1 := cell_block (i := 1) hw'; have f1 := free_block (i := 1) hw'
    simp at q0 q1
    go_simp
    simp only [upPut]
    refine (Setted.start hw' |>.step 0 _ |>.step 1 _).eq ?_
    simp [wrote, go_sem]
  repeat (with_reducible refine wpL_skip (by decide) ?_)
  refine wpL_nil ?_
  intro x1 hin
  obtain ⟨hc1, hc2⟩ := hin gc _ _ (Held.at_self _ _ _ _)
  obtain ⟨hb1, hb2⟩ := hin gb _ _ ((Held.at_ne _ _ _ ngbgc).trans (Held.at_self _ _ _ _))
  obtain ⟨ha1, ha2⟩ := hin ga _ _ ((Held.at_ne _ _ _ ngagc).trans ((Held.at_ne _ _ _ ngagb).trans (Held.at_self _ _ _ _)))
  clear hin hga hgb hgc
  have qa0 := cell_block (i := 0) ha2
  have qa1 := cell_block (i := 1) ha2
  have qb0 := cell_block (i := 0) hb2
  have qb1 := cell_block (i := 1) hb2
  have qc1 := cell_block (i := 1) hc2
  simp [wrote, go_sem] at qa0 qa1 qb0 qb1 qc1
  have la := lt_of_get ha2
  have lb := lt_of_get hb2
  have lc := lt_of_get hc2
  clear ha1 hb1 hc1 ha2 hb2 hc2
  have p0 := (x1.cell w.heap.size 0 (by simp; omega)).trans (by simp [go_sem]; rfl)
  have p1 := (x1.cell w.heap.size 1 (by simp; omega)).trans (by simp [go_sem]; rfl)
  have p3 := (x1.cell w.heap.size 3 (by simp; omega)).trans (by simp [go_sem]; rfl)
  have ln : w.heap.size < x1.val.heap.size := by have := x1.size; simp at this; omega
  have hbw : Below w.heap.size w x1.val := by (repeat' (first | (with_reducible exact Below.refl _ _) | (with_reducible refine Below.alloc ?_ ?_ _) | (with_reducible refine Below.drew ?_) | (with_reducible refine Aft.below _ ?_ ?_) | (with_reducible refine Below.setCell_new ?_ ?_ _ _) | (with_reducible exact Nat.le_refl _) | (with_reducible refine Aft.le _ ?_) | (with_reducible refine le_alloc ?_) | (with_reducible refine le_drew ?_) | (with_reducible refine le_setCell ?_) | omega))
  clear ngagb ngagc ngbgc ngbga ngcga ngcgb
  generalize x1.val = W1 at *
  go_wp2
  go_ret
  exact ⟨rfl, Below.aft hbw⟩

set_option maxRecDepth 100000 in
set_option maxHeartbeats 1600000 in
theorem exact_15 (wd v aw av bw bv cw cv : Int) (hw1 : 1 ≤ wd) (hw2 : wd ≤ 16) (a0 : 0 ≤ av) (a1 : av ≤ 65536) (b0 : 0 ≤ bv) (b1 : bv ≤ 65536) (B : Option Addr) (al bc : Nat) (w : World) :
    Calls Tryz.prog 108 #[.agg #[.int .i64 15, .int .i64 wd, .slice B al bc, .int .i64 v], .agg #[.int .i64 aw, .int .i64 av, .int .i64 bw, .int .i64 bv, .int .i64 cw, .int .i64 cv]] w fun e w' => e = .returned (.int .i64 (av)) ∧ ∃ x : Aft w, w' = x.val := by
  go_enter Tryz.func108, Tryz.ntmps108
  go_wp2_with fail
  refine wp_region_kd [.quiet, .quiet, .quiet, .quiet, .quiet, .quiet, .new (.cells #[.int .i64 0, .int .i64 0] 114), .new (.cells #[.int .i64 0, .int .i64 0] 114), .new (.cells #[.int .i64 0, .int .i64 0] 114), .put (.tmp 5) (.tmp 9), .put (.tmp 6) (.tmp 11), .put (.tmp 7) (.tmp 13)] (by kernel_rfl) (by kernel_rfl) (by kernel_rfl) rfl (by kernel_rfl) ?hF ?_
  case hF =>
    simp only [FitsL, fit1, true_and, and_true]
    repeat' apply And.intro
    all_goals first | rfl | (simp [Op.operands]; done) | (intro a w; go_simp; done)
  repeat (first | (with_reducible refine wpQ_new ?_) | (with_reducible refine wpQ_put ?_) | (with_reducible refine wpQ_late ?_) | (refine wpQ_step (fun K hK => ?_); go_simp; first | (refine hK _ ?_; clear hK K) | (apply Exists.intro; refine ⟨fun _ => ?_, hK _ ?_⟩; (first | fail); clear hK K)))
  refine wpQ_nil ?_
  simp only [wpN]
  intro ga hga
  intro gb hgb
  have ngbga : ¬ gb = ga := by intro h; subst h; simp [Held.put, Held.nil] at hgb
  have ngagb : ¬ ga = gb := fun h => ngbga h.symm
  intro gc hgc
  have ngcga : ¬ gc = ga := by intro h; subst h; simp [Held.put, Held.nil] at hgc
  have ngagc : ¬ ga = gc := fun h => ngcga h.symm
  have ngcgb : ¬ gc = gb := by intro h; subst h; simp [Held.put, Held.nil] at hgc
  have ngbgc : ¬ gb = gc := fun h => ngcgb h.symm
  simp only [wpP]
  refine ⟨ga, _, by simp [go_sem], by simp [Held.put, Held.nil, ngagb, ngagc, ngbga, ngbgc, ngcga, ngcgb]; rfl, ?hx, ?_⟩
  case hx =>
    intro w' hw'
    have q0 := cell_block (i := 0) hw'; have f0 := free_block (i := 0) hw'
    have q1 := cell_block (i := 1) hw'; have f1 := free_block (i := 1) hw'
    simp at q0 q1
    go_simp
    simp only [upPut]
    refine (Setted.start hw' |>.step 0 _ |>.step 1 _).eq ?_
    simp [wrote, go_sem]
  refine ⟨gb, _, by simp [go_sem], by simp [Held.put, Held.nil, ngagb, ngagc, ngbga, ngbgc, ngcga, ngcgb]; rfl, ?hx, ?_⟩
  case hx =>
    intro w' hw'
    have q0 := cell_block (i := 0) hw'; have f0 := free_block (i := 0) hw'
    have q1 := cell_block (i := 1) hw'; have f1 := free_block (i := 1) hw'
    simp at q0 q1
    go_simp
    simp only [upPut]
    refine (Setted.start hw' |>.step 0 _ |>.step 1 _).eq ?_
    simp [wrote, go_sem]
  refine ⟨gc, _, by simp [go_sem], by simp [Held.put, Held.nil, ngagb, ngagc, ngbga, ngbgc, ngcga, ngcgb]; rfl, ?hx, ?_⟩
  case hx =>
    intro w' hw'
    have q0 := cell_block (i := 0) hw'; have f0 := free_block (i := 0) hw'
    have q1 := cell_block (i := 1) hw'; have f1 := free_block (i := 1) hw'
    simp at q0 q1
    go_simp
    simp only [upPut]
    refine (Setted.start hw' |>.step 0 _ |>.step 1 _).eq ?_
    simp [wrote, go_sem]
  repeat (with_reducible refine wpL_skip (by decide) ?_)
  refine wpL_nil ?_
  intro x1 hin
  obtain ⟨hc1, hc2⟩ := hin gc _ _ (Held.at_self _ _ _ _)
  obtain ⟨hb1, hb2⟩ := hin gb _ _ ((Held.at_ne _ _ _ ngbgc).trans (Held.at_self _ _ _ _))
  obtain ⟨ha1, ha2⟩ := hin ga _ _ ((Held.at_ne _ _ _ ngagc).trans ((Held.at_ne _ _ _ ngagb).trans (Held.at_self _ _ _ _)))
  clear hin hga hgb hgc
  have qa0 := cell_block (i := 0) ha2
  have qa1 := cell_block (i := 1) ha2
  have qb0 := cell_block (i := 0) hb2
  have qb1 := cell_block (i := 1) hb2
  have qc1 := cell_block (i := 1) hc2
  simp [wrote, go_sem] at qa0 qa1 qb0 qb1 qc1
  have la := lt_of_get ha2
  have lb := lt_of_get hb2
  have lc := lt_of_get hc2
  clear ha1 hb1 hc1 ha2 hb2 hc2
  have p0 := (x1.cell w.heap.size 0 (by simp; omega)).trans (by simp [go_sem]; rfl)
  have p1 := (x1.cell w.heap.size 1 (by simp; omega)).trans (by simp [go_sem]; rfl)
  have p3 := (x1.cell w.heap.size 3 (by simp; omega)).trans (by simp [go_sem]; rfl)
  have ln : w.heap.size < x1.val.heap.size := by have := x1.size; simp at this; omega
  have hbw : Below w.heap.size w x1.val := by (repeat' (first | (with_reducible exact Below.refl _ _) | (with_reducible refine Below.alloc ?_ ?_ _) | (with_reducible refine Below.drew ?_) | (with_reducible refine Aft.below _ ?_ ?_) | (with_reducible refine Below.setCell_new ?_ ?_ _ _) | (with_reducible exact Nat.le_refl _) | (with_reducible refine Aft.le _ ?_) | (with_reducible refine le_alloc ?_) | (with_reducible refine le_drew ?_) | (with_reducible refine le_setCell ?_) | omega))
  clear ngagb ngagc ngbgc ngbga ngcga ngcgb
  generalize x1.val = W1 at *
  go_wp2
  go_ret
  exact ⟨rfl, Below.aft hbw⟩

set_option maxRecDepth 100000 in
set_option maxHeartbeats 1600000 in
theorem exact_16 (wd v aw av bw bv cw cv : Int) (hw1 : 1 ≤ wd) (hw2 : wd ≤ 16) (a0 : 0 ≤ av) (a1 : av ≤ 65536) (b0 : 0 ≤ bv) (b1 : bv ≤ 65536) (aw1 : 1 ≤ aw) (aw2 : aw ≤ 16) (B : Option Addr) (al bc : Nat) (w : World) :
    Calls Tryz.prog 108 #[.agg #[.int .i64 16, .int .i64 wd, .slice B al bc, .int .i64 v], .agg #[.int .i64 aw, .int .i64 av, .int .i64 bw, .int .i64 bv, .int .i64 cw, .int .i64 cv]] w fun e w' => e = .returned (.int .i64 (sgG aw av)) ∧ ∃ x : Aft w, w' = x.val := by
  go_enter Tryz.func108, Tryz.ntmps108
  go_wp2_with fail
  refine wp_region_kd [.quiet, .quiet, .quiet, .quiet, .quiet, .quiet, .new (.cells #[.int .i64 0, .int .i64 0] 114), .new (.cells #[.int .i64 0, .int .i64 0] 114), .new (.cells #[.int .i64 0, .int .i64 0] 114), .put (.tmp 5) (.tmp 9), .put (.tmp 6) (.tmp 11), .put (.tmp 7) (.tmp 13)] (by kernel_rfl) (by kernel_rfl) (by kernel_rfl) rfl (by kernel_rfl) ?hF ?_
  case hF =>
    simp only [FitsL, fit1, true_and, and_true]
    repeat' apply And.intro
    all_goals first | rfl | (simp [Op.operands]; done) | (intro a w; go_simp; done)
  repeat (first | (with_reducible refine wpQ_new ?_) | (with_reducible refine wpQ_put ?_) | (with_reducible refine wpQ_late ?_) | (refine wpQ_step (fun K hK => ?_); go_simp; first | (refine hK _ ?_; clear hK K) | (apply Exists.intro; refine ⟨fun _ => ?_, hK _ ?_⟩; (first | fail); clear hK K)))
  refine wpQ_nil ?_
  simp only [wpN]
  intro ga hga
  intro gb hgb
  have ngbga : ¬ gb = ga := by intro h; subst h; simp [Held.put, Held.nil] at hgb
  have ngagb : ¬ ga = gb := fun h => ngbga h.symm
  intro gc hgc
  have ngcga : ¬ gc = ga := by intro h; subst h; simp [Held.put, Held.nil] at hgc
  have ngagc : ¬ ga = gc := fun h => ngcga h.symm
  have ngcgb : ¬ gc = gb := by intro h; subst h; simp [Held.put, Held.nil] at hgc
  have ngbgc : ¬ gb = gc := fun h => ngcgb h.symm
  simp only [wpP]
  refine ⟨ga, _, by simp [go_sem], by simp [Held.put, Held.nil, ngagb, ngagc, ngbga, ngbgc, ngcga, ngcgb]; rfl, ?hx, ?_⟩
  case hx =>
    intro w' hw'
    have q0 := cell_block (i := 0) hw'; have f0 := free_block (i := 0) hw'
    have q1 := cell_block (i := 1) hw'; have f1 := free_block (i := 1) hw'
    simp at q0 q1
    go_simp
    simp only [upPut]
    refine (Setted.start hw' |>.step 0 _ |>.step 1 _).eq ?_
    simp [wrote, go_sem]
  refine ⟨gb, _, by simp [go_sem], by simp [Held.put, Held.nil, ngagb, ngagc, ngbga, ngbgc, ngcga, ngcgb]; rfl, ?hx, ?_⟩
  case hx =>
    intro w' hw'
    have q0 := cell_block (i := 0) hw'; have f0 := free_block (i := 0) hw'
    have q1 := cell_block (i := 1) hw'; have f1 := free_block (i := 1) hw'
    simp at q0 q1
    go_simp
    simp only [upPut]
    refine (Setted.start hw' |>.step 0 _ |>.step 1 _).eq ?_
    simp [wrote, go_sem]
  refine ⟨gc, _, by simp [go_sem], by simp [Held.put, Held.nil, ngagb, ngagc, ngbga, ngbgc, ngcga, ngcgb]; rfl, ?hx, ?_⟩
  case hx =>
    intro w' hw'
    have q0 := cell_block (i := 0) hw'; have f0 := free_block (i := 0) hw'
    have q1 := cell_block (i := 1) hw'; have f1 := free_block (i := 1) hw'
    simp at q0 q1
    go_simp
    simp only [upPut]
    refine (Setted.start hw' |>.step 0 _ |>.step 1 _).eq ?_
    simp [wrote, go_sem]
  repeat (with_reducible refine wpL_skip (by decide) ?_)
  refine wpL_nil ?_
  intro x1 hin
  obtain ⟨hc1, hc2⟩ := hin gc _ _ (Held.at_self _ _ _ _)
  obtain ⟨hb1, hb2⟩ := hin gb _ _ ((Held.at_ne _ _ _ ngbgc).trans (Held.at_self _ _ _ _))
  obtain ⟨ha1, ha2⟩ := hin ga _ _ ((Held.at_ne _ _ _ ngagc).trans ((Held.at_ne _ _ _ ngagb).trans (Held.at_self _ _ _ _)))
  clear hin hga hgb hgc
  have qa0 := cell_block (i := 0) ha2
  have qa1 := cell_block (i := 1) ha2
  have qb0 := cell_block (i := 0) hb2
  have qb1 := cell_block (i := 1) hb2
  have qc1 := cell_block (i := 1) hc2
  simp [wrote, go_sem] at qa0 qa1 qb0 qb1 qc1
  have la := lt_of_get ha2
  have lb := lt_of_get hb2
  have lc := lt_of_get hc2
  clear ha1 hb1 hc1 ha2 hb2 hc2
  have p0 := (x1.cell w.heap.size 0 (by simp; omega)).trans (by simp [go_sem]; rfl)
  have p1 := (x1.cell w.heap.size 1 (by simp; omega)).trans (by simp [go_sem]; rfl)
  have p3 := (x1.cell w.heap.size 3 (by simp; omega)).trans (by simp [go_sem]; rfl)
  have ln : w.heap.size < x1.val.heap.size := by have := x1.size; simp at this; omega
  have hbw : Below w.heap.size w x1.val := by (repeat' (first | (with_reducible exact Below.refl _ _) | (with_reducible refine Below.alloc ?_ ?_ _) | (with_reducible refine Below.drew ?_) | (with_reducible refine Aft.below _ ?_ ?_) | (with_reducible refine Below.setCell_new ?_ ?_ _ _) | (with_reducible exact Nat.le_refl _) | (with_reducible refine Aft.le _ ?_) | (with_reducible refine le_alloc ?_) | (with_reducible refine le_drew ?_) | (with_reducible refine le_setCell ?_) | omega))
  clear ngagb ngagc ngbgc ngbga ngcga ngcgb
  generalize x1.val = W1 at *
  go_wp2_with (first | (go_at_call 122; refine (signed_c _ _ (by omega) (by omega) (by omega) (by omega) _).mono ?_; rintro e w' ⟨rfl, x2, rfl⟩))
  go_ret
  exact ⟨rfl, Below.aft (x2.below hbw hbw.size)⟩

set_option maxRecDepth 100000 in
set_option maxHeartbeats 1600000 in
theorem exact_17 (wd v aw av bw bv cw cv : Int) (hw1 : 1 ≤ wd) (hw2 : wd ≤ 16) (a0 : 0 ≤ av) (a1 : av ≤ 65536) (b0 : 0 ≤ bv) (b1 : bv ≤ 65536) (B : Option Addr) (al bc : Nat) (w : World) :
    Calls Tryz.prog 108 #[.agg #[.int .i64 17, .int .i64 wd, .slice B al bc, .int .i64 v], .agg #[.int .i64 aw, .int .i64 av, .int .i64 bw, .int .i64 bv, .int .i64 cw, .int .i64 cv]] w fun e w' => e = .returned (.int .i64 (av * pw (min bv wd))) ∧ ∃ x : Aft w, w' = x.val := by
  go_enter Tryz.func108, Tryz.ntmps108
  go_wp2_with fail
  refine wp_region_kd [.quiet, .quiet, .quiet, .quiet, .quiet, .quiet, .new (.cells #[.int .i64 0, .int .i64 0] 114), .new (.cells #[.int .i64 0, .int .i64 0] 114), .new (.cells #[.int .i64 0, .int .i64 0] 114), .put (.tmp 5) (.tmp 9), .put (.tmp 6) (.tmp 11), .put (.tmp 7) (.tmp 13)] (by kernel_rfl) (by kernel_rfl) (by kernel_rfl) rfl (by kernel_rfl) ?hF ?_
  case hF =>
    simp only [FitsL, fit1, true_and, and_true]
    repeat' apply And.intro
    all_goals first | rfl | (simp [Op.operands]; done) | (intro a w; go_simp; done)
  repeat (first | (with_reducible refine wpQ_new ?_) | (with_reducible refine wpQ_put ?_) | (with_reducible refine wpQ_late ?_) | (refine wpQ_step (fun K hK => ?_); go_simp; first | (refine hK _ ?_; clear hK K) | (apply Exists.intro; refine ⟨fun _ => ?_, hK _ ?_⟩; (first | fail); clear hK K)))
  refine wpQ_nil ?_
  simp only [wpN]
  intro ga hga
  intro gb hgb
  have ngbga : ¬ gb = ga := by intro h; subst h; simp [Held.put, Held.nil] at hgb
  have ngagb : ¬ ga = gb := fun h => ngbga h.symm
  intro gc hgc
  have ngcga : ¬ gc = ga := by intro h; subst h; simp [Held.put, Held.nil] at hgc
  have ngagc : ¬ ga = gc := fun h => ngcga h.symm
  have ngcgb : ¬ gc = gb := by intro h; subst h; simp [Held.put, Held.nil] at hgc
  have ngbgc : ¬ gb = gc := fun h => ngcgb h.symm
  simp only [wpP]
  refine ⟨ga, _, by simp [go_sem], by simp [Held.put, Held.nil, ngagb, ngagc, ngbga, ngbgc, ngcga, ngcgb]; rfl, ?hx, ?_⟩
  case hx =>
    intro w' hw'
    have q0 := cell_block (i := 0) hw'; have f0 := free_block (i := 0) hw'
    have q1 := cell_block (i := 1) hw'; have f1 := free_block (i := 1) hw'
    simp at q0 q1
    go_simp
    simp only [upPut]
    refine (Setted.start hw' |>.step 0 _ |>.step 1 _).eq ?_
    simp [wrote, go_sem]
  refine ⟨gb, _, by simp [go_sem], by simp [Held.put, Held.nil, ngagb, ngagc, ngbga, ngbgc, ngcga, ngcgb]; rfl, ?hx, ?_⟩
  case hx =>
    intro w' hw'
    have q0 := cell_block (i := 0) hw'; have f0 := free_block (i := 0) hw'
    have q1 := cell_block (i := 1) hw'; have f1 := free_block (i := 1) hw'
    simp at q0 q1
    go_simp
    simp only [upPut]
    refine (Setted.start hw' |>.step 0 _ |>.step 1 _).eq ?_
    simp [wrote, go_sem]
  refine ⟨gc, _, by simp [go_sem], by simp [Held.put, Held.nil, ngagb, ngagc, ngbga, ngbgc, ngcga, ngcgb]; rfl, ?hx, ?_⟩
  case hx =>
    intro w' hw'
    have q0 := cell_block (i := 0) hw'; have f0 := free_block (i := 0) hw'
    have q1 := cell_block (i := 1) hw'; have f1 := free_block (i := 1) hw'
    simp at q0 q1
    go_simp
    simp only [upPut]
    refine (Setted.start hw' |>.step 0 _ |>.step 1 _).eq ?_
    simp [wrote, go_sem]
  repeat (with_reducible refine wpL_skip (by decide) ?_)
  refine wpL_nil ?_
  intro x1 hin
  obtain ⟨hc1, hc2⟩ := hin gc _ _ (Held.at_self _ _ _ _)
  obtain ⟨hb1, hb2⟩ := hin gb _ _ ((Held.at_ne _ _ _ ngbgc).trans (Held.at_self _ _ _ _))
  obtain ⟨ha1, ha2⟩ := hin ga _ _ ((Held.at_ne _ _ _ ngagc).trans ((Held.at_ne _ _ _ ngagb).trans (Held.at_self _ _ _ _)))
  clear hin hga hgb hgc
  have qa0 := cell_block (i := 0) ha2
  have qa1 := cell_block (i := 1) ha2
  have qb0 := cell_block (i := 0) hb2
  have qb1 := cell_block (i := 1) hb2
  have qc1 := cell_block (i := 1) hc2
  simp [wrote, go_sem] at qa0 qa1 qb0 qb1 qc1
  have la := lt_of_get ha2
  have lb := lt_of_get hb2
  have lc := lt_of_get hc2
  clear ha1 hb1 hc1 ha2 hb2 hc2
  have p0 := (x1.cell w.heap.size 0 (by simp; omega)).trans (by simp [go_sem]; rfl)
  have p1 := (x1.cell w.heap.size 1 (by simp; omega)).trans (by simp [go_sem]; rfl)
  have p3 := (x1.cell w.heap.size 3 (by simp; omega)).trans (by simp [go_sem]; rfl)
  have ln : w.heap.size < x1.val.heap.size := by have := x1.size; simp at this; omega
  have hbw : Below w.heap.size w x1.val := by (repeat' (first | (with_reducible exact Below.refl _ _) | (with_reducible refine Below.alloc ?_ ?_ _) | (with_reducible refine Below.drew ?_) | (with_reducible refine Aft.below _ ?_ ?_) | (with_reducible refine Below.setCell_new ?_ ?_ _ _) | (with_reducible exact Nat.le_refl _) | (with_reducible refine Aft.le _ ?_) | (with_reducible refine le_alloc ?_) | (with_reducible refine le_drew ?_) | (with_reducible refine le_setCell ?_) | omega))
  clear ngagb ngagc ngbgc ngbga ngcga ngcgb
  generalize x1.val = W1 at *
  have HM1 := Lib.hid (show bv ≤ wd → min bv wd = bv from fun h => Int.min_eq_left h)
  have HM2 := Lib.hid (show wd ≤ bv → min bv wd = wd from fun h => Int.min_eq_right h)
  by_cases h : bv ≤ wd
  · go_wp2
    all_goals
      go_ret
      exact ⟨retI (by rw [HM1.out h]; exact wrapM a0 a1 b0 (by omega)), Below.aft hbw⟩
  · have h2 : wd ≤ bv := by omega
    go_wp2
    all_goals
      go_ret
      exact ⟨retI (by rw [HM2.out h2]; exact wrapM a0 a1 (by omega) hw2), Below.aft hbw⟩

set_option maxRecDepth 100000 in
set_option maxHeartbeats 1600000 in
theorem exact_18 (wd v aw av bw bv cw cv : Int) (hw1 : 1 ≤ wd) (hw2 : wd ≤ 16) (a0 : 0 ≤ av) (a1 : av ≤ 65536) (b0 : 0 ≤ bv) (b1 : bv ≤ 65536) (B : Option Addr) (al bc : Nat) (w : World) :
    Calls Tryz.prog 108 #[.agg #[.int .i64 18, .int .i64 wd, .slice B al bc, .int .i64 v], .agg #[.int .i64 aw, .int .i64 av, .int .i64 bw, .int .i64 bv, .int .i64 cw, .int .i64 cv]] w fun e w' => e = .returned (.int .i64 (av / pw (min bv wd))) ∧ ∃ x : Aft w, w' = x.val := by
  go_enter Tryz.func108, Tryz.ntmps108
  go_wp2_with fail
  refine wp_region_kd [.quiet, .quiet, .quiet, .quiet, .quiet, .quiet, .new (.cells #[.int .i64 0, .int .i64 0] 114), .new (.cells #[.int .i64 0, .int .i64 0] 114), .new (.cells #[.int .i64 0, .int .i64 0] 114), .put (.tmp 5) (.tmp 9), .put (.tmp 6) (.tmp 11), .put (.tmp 7) (.tmp 13)] (by kernel_rfl) (by kernel_rfl) (by kernel_rfl) rfl (by kernel_rfl) ?hF ?_
  case hF =>
    simp only [FitsL, fit1, true_and, and_true]
    repeat' apply And.intro
    all_goals first | rfl | (simp [Op.operands]; done) | (intro a w; go_simp; done)
  repeat (first | (with_reducible refine wpQ_new ?_) | (with_reducible refine wpQ_put ?_) | (with_reducible refine wpQ_late ?_) | (refine wpQ_step (fun K hK => ?_); go_simp; first | (refine hK _ ?_; clear hK K) | (apply Exists.intro; refine ⟨fun _ => ?_, hK _ ?_⟩; (first | fail); clear hK K)))
  refine wpQ_nil ?_
  simp only [wpN]
  intro ga hga
  intro gb hgb
  have ngbga : ¬ gb = ga := by intro h; subst h; simp [Held.put, Held.nil] at hgb
  have ngagb : ¬ ga = gb := fun h => ngbga h.symm
  intro gc hgc
  have ngcga : ¬ gc = ga := by intro h; subst h; simp [Held.put, Held.nil] at hgc
  have ngagc : ¬ ga = gc := fun h => ngcga h.symm
  have ngcgb : ¬ gc = gb := by intro h; subst h; simp [Held.put, Held.nil] at hgc
  have ngbgc : ¬ gb = gc := fun h => ngcgb h.symm
  simp only [wpP]
  refine ⟨ga, _, by simp [go_sem], by simp [Held.put, Held.nil, ngagb, ngagc, ngbga, ngbgc, ngcga, ngcgb]; rfl, ?hx, ?_⟩
  case hx =>
    intro w' hw'
    have q0 := cell_block (i := 0) hw'; have f0 := free_block (i := 0) hw'
    have q1 := cell_block (i := 1) hw'; have f1 := free_block (i := 1) hw'
    simp at q0 q1
    go_simp
    simp only [upPut]
    refine (Setted.start hw' |>.step 0 _ |>.step 1 _).eq ?_
    simp [wrote, go_sem]
  refine ⟨gb, _, by simp [go_sem], by simp [Held.put, Held.nil, ngagb, ngagc, ngbga, ngbgc, ngcga, ngcgb]; rfl, ?hx, ?_⟩
  case hx =>
    intro w' hw'
    have q0 := cell_block (i := 0) hw'; have f0 := free_block (i := 0) hw'
    have q1 := cell_block (i := 1) hw'; have f1 := free_block (i := 1) hw'
    simp at q0 q1
    go_simp
    simp only [upPut]
    refine (Setted.start hw' |>.step 0 _ |>.step 1 _).eq ?_
    simp [wrote, go_sem]
  refine ⟨gc, _, by simp [go_sem], by simp [Held.put, Held.nil, ngagb, ngagc, ngbga, ngbgc, ngcga, ngcgb]; rfl, ?hx, ?_⟩
  case hx =>
    intro w' hw'
    have q0 := cell_block (i := 0) hw'; have f0 := free_block (i := 0) hw'
    have q1 := cell_block (i := 1) hw'; have f1 := free_block (i := 1) hw'
    simp at q0 q1
    go_simp
    simp only [upPut]
    refine (Setted.start hw' |>.step 0 _ |>.step 1 _).eq ?_
    simp [wrote, go_sem]
  repeat (with_reducible refine wpL_skip (by decide) ?_)
  refine wpL_nil ?_
  intro x1 hin
  obtain ⟨hc1, hc2⟩ := hin gc _ _ (Held.at_self _ _ _ _)
  obtain ⟨hb1, hb2⟩ := hin gb _ _ ((Held.at_ne _ _ _ ngbgc).trans (Held.at_self _ _ _ _))
  obtain ⟨ha1, ha2⟩ := hin ga _ _ ((Held.at_ne _ _ _ ngagc).trans ((Held.at_ne _ _ _ ngagb).trans (Held.at_self _ _ _ _)))
  clear hin hga hgb hgc
  have qa0 := cell_block (i := 0) ha2
  have qa1 := cell_block (i := 1) ha2
  have qb0 := cell_block (i := 0) hb2
  have qb1 := cell_block (i := 1) hb2
  have qc1 := cell_block (i := 1) hc2
  simp [wrote, go_sem] at qa0 qa1 qb0 qb1 qc1
  have la := lt_of_get ha2
  have lb := lt_of_get hb2
  have lc := lt_of_get hc2
  clear ha1 hb1 hc1 ha2 hb2 hc2
  have p0 := (x1.cell w.heap.size 0 (by simp; omega)).trans (by simp [go_sem]; rfl)
  have p1 := (x1.cell w.heap.size 1 (by simp; omega)).trans (by simp [go_sem]; rfl)
  have p3 := (x1.cell w.heap.size 3 (by simp; omega)).trans (by simp [go_sem]; rfl)
  have ln : w.heap.size < x1.val.heap.size := by have := x1.size; simp at this; omega
  have hbw : Below w.heap.size w x1.val := by (repeat' (first | (with_reducible exact Below.refl _ _) | (with_reducible refine Below.alloc ?_ ?_ _) | (with_reducible refine Below.drew ?_) | (with_reducible refine Aft.below _ ?_ ?_) | (with_reducible refine Below.setCell_new ?_ ?_ _ _) | (with_reducible exact Nat.le_refl _) | (with_reducible refine Aft.le _ ?_) | (with_reducible refine le_alloc ?_) | (with_reducible refine le_drew ?_) | (with_reducible refine le_setCell ?_) | omega))
  clear ngagb ngagc ngbgc ngbga ngcga ngcgb
  generalize x1.val = W1 at *
  have HM1 := Lib.hid (show bv ≤ wd → min bv wd = bv from fun h => Int.min_eq_left h)
  have HM2 := Lib.hid (show wd ≤ bv → min bv wd = wd from fun h => Int.min_eq_right h)
  by_cases h : bv ≤ wd
  · go_wp2
    all_goals
      go_ret
      exact ⟨retI (by rw [HM1.out h]; rfl), Below.aft hbw⟩
  · have h2 : wd ≤ bv := by omega
    go_wp2
    all_goals
      go_ret
      exact ⟨retI (by rw [HM2.out h2]; rfl), Below.aft hbw⟩

end Go.Proofs.YtkdonapgonegkaaGreatDoor

set_option linter.unusedSimpArgs false
set_option linter.unusedVariables false
namespace Go.Proofs.YtkdonapgonegkaaGreatDoor
open Go.RowKit Go.BigFrame

/-- The exact value of a node, and modulo 2 to the power of its width. -/
def exG (op wd v aw av bw bv cv : Int) : Int :=
  if op = 0 then v
  else if op = 1 then v
  else if op = 2 then bits .xor .i64 (-1) av
  else if op = 3 then bits .and .i64 av bv
  else if op = 4 then bits .or .i64 av bv
  else if op = 5 then bits .xor .i64 av bv
  else if op = 6 then av + bv
  else if op = 7 then av - bv
  else if op = 8 then av * bv
  else if op = 9 then fl (av == bv)
  else if op = 10 then fl (decide (av < bv))
  else if op = 11 then fl (decide (sgG aw av < sgG bw bv))
  else if op = 12 then muxG av bv cv
  else if op = 13 then bits .or .i64 (av * pw bw) bv
  else if op = 14 then av / pw v
  else if op = 15 then av
  else if op = 16 then sgG aw av
  else if op = 17 then av * pw (min bv wd)
  else av / pw (min bv wd)
def resG (op wd v aw av bw bv cv : Int) : Int := exG op wd v aw av bw bv cv % pw wd
theorem mask_res {op wd v aw av bw bv cv : Int} (h1 : 0 ≤ wd) (h2 : wd ≤ 16) : bits .and .i64 (exG op wd v aw av bw bv cv) (pw wd - 1) = resG op wd v aw av bw bv cv := by
  obtain ⟨k, rfl⟩ := Int.eq_ofNat_of_zero_le h1
  exact and_mask _ k (by omega)
theorem resG_bd {op wd v aw av bw bv cv : Int} : 0 ≤ resG op wd v aw av bw bv cv ∧ resG op wd v aw av bw bv cv < pw wd :=
  ⟨Int.emod_nonneg _ (Int.ne_of_gt (pw_pos wd)), Int.emod_lt_of_pos _ (pw_pos wd)⟩
/-- What the operations ask of their arguments. -/
structure Fit3 (op wd v aw av bw bv : Int) : Prop where
  o0 : 0 ≤ op
  o1 : op ≤ 18
  w1 : 1 ≤ wd
  w2 : wd ≤ 16
  a0 : 0 ≤ av
  a1 : av ≤ 65536
  b0 : 0 ≤ bv
  b1 : bv ≤ 65536
  aw1 : (op = 11 ∨ op = 16) → 1 ≤ aw
  aw2 : aw ≤ 16
  bw0 : 0 ≤ bw
  bw1 : op = 11 → 1 ≤ bw
  bw2 : bw ≤ 16
  v0 : op = 14 → 0 ≤ v ∧ v ≤ 16

theorem exactOf_c (op wd v aw av bw bv cw cv : Int) (h : Fit3 op wd v aw av bw bv) (B : Option Addr) (al bc : Nat) (w : World) :
    Calls Tryz.prog 108 #[.agg #[.int .i64 op, .int .i64 wd, .slice B al bc, .int .i64 v], .agg #[.int .i64 aw, .int .i64 av, .int .i64 bw, .int .i64 bv, .int .i64 cw, .int .i64 cv]] w fun e w' => e = .returned (.int .i64 (exG op wd v aw av bw bv cv)) ∧ ∃ x : Aft w, w' = x.val := by
  have hcase : op = 0 ∨ op = 1 ∨ op = 2 ∨ op = 3 ∨ op = 4 ∨ op = 5 ∨ op = 6 ∨ op = 7 ∨ op = 8 ∨ op = 9 ∨ op = 10 ∨ op = 11 ∨ op = 12 ∨ op = 13 ∨ op = 14 ∨ op = 15 ∨ op = 16 ∨ op = 17 ∨ op = 18 := by have := h.o0; have := h.o1; omega
  rcases hcase with rfl | rfl | rfl | rfl | rfl | rfl | rfl | rfl | rfl | rfl | rfl | rfl | rfl | rfl | rfl | rfl | rfl | rfl | rfl
  · exact exact_0 wd v aw av bw bv cw cv h.w1 h.w2 h.a0 h.a1 h.b0 h.b1 B al bc w
  · exact exact_1 wd v aw av bw bv cw cv h.w1 h.w2 h.a0 h.a1 h.b0 h.b1 B al bc w
  · exact exact_2 wd v aw av bw bv cw cv h.w1 h.w2 h.a0 h.a1 h.b0 h.b1 B al bc w
  · exact exact_3 wd v aw av bw bv cw cv h.w1 h.w2 h.a0 h.a1 h.b0 h.b1 B al bc w
  · exact exact_4 wd v aw av bw bv cw cv h.w1 h.w2 h.a0 h.a1 h.b0 h.b1 B al bc w
  · exact exact_5 wd v aw av bw bv cw cv h.w1 h.w2 h.a0 h.a1 h.b0 h.b1 B al bc w
  · exact exact_6 wd v aw av bw bv cw cv h.w1 h.w2 h.a0 h.a1 h.b0 h.b1 B al bc w
  · exact exact_7 wd v aw av bw bv cw cv h.w1 h.w2 h.a0 h.a1 h.b0 h.b1 B al bc w
  · exact exact_8 wd v aw av bw bv cw cv h.w1 h.w2 h.a0 h.a1 h.b0 h.b1 (by have := mulS h.a0 h.a1 h.b0 h.b1; omega) B al bc w
  · exact exact_9 wd v aw av bw bv cw cv h.w1 h.w2 h.a0 h.a1 h.b0 h.b1 B al bc w
  · exact exact_10 wd v aw av bw bv cw cv h.w1 h.w2 h.a0 h.a1 h.b0 h.b1 B al bc w
  · exact exact_11 wd v aw av bw bv cw cv h.w1 h.w2 h.a0 h.a1 h.b0 h.b1 (h.aw1 (.inl rfl)) h.aw2 (h.bw1 rfl) h.bw2 B al bc w
  · exact exact_12 wd v aw av bw bv cw cv h.w1 h.w2 h.a0 h.a1 h.b0 h.b1 B al bc w
  · exact exact_13 wd v aw av bw bv cw cv h.w1 h.w2 h.a0 h.a1 h.b0 h.b1 h.bw0 h.bw2 B al bc w
  · exact exact_14 wd v aw av bw bv cw cv h.w1 h.w2 h.a0 h.a1 h.b0 h.b1 (h.v0 rfl).1 (h.v0 rfl).2 B al bc w
  · exact exact_15 wd v aw av bw bv cw cv h.w1 h.w2 h.a0 h.a1 h.b0 h.b1 B al bc w
  · exact exact_16 wd v aw av bw bv cw cv h.w1 h.w2 h.a0 h.a1 h.b0 h.b1 (h.aw1 (.inr rfl)) h.aw2 B al bc w
  · exact exact_17 wd v aw av bw bv cw cv h.w1 h.w2 h.a0 h.a1 h.b0 h.b1 B al bc w
  · exact exact_18 wd v aw av bw bv cw cv h.w1 h.w2 h.a0 h.a1 h.b0 h.b1 B al bc w

set_option maxRecDepth 100000 in
set_option maxHeartbeats 1600000 in
theorem resultOf_c (op wd v aw av bw bv cw cv : Int) (h : Fit3 op wd v aw av bw bv) (B : Option Addr) (al bc : Nat) (w : World) :
    Calls Tryz.prog 69 #[.agg #[.int .i64 op, .int .i64 wd, .slice B al bc, .int .i64 v], .agg #[.int .i64 aw, .int .i64 av, .int .i64 bw, .int .i64 bv, .int .i64 cw, .int .i64 cv]] w fun e w' => e = .returned (.int .i64 (resG op wd v aw av bw bv cv)) ∧ ∃ x : Aft w, w' = x.val := by
  have hw1 := h.w1
  have hw2 := h.w2
  have hh := Lib.hid h
  have HR := Lib.hid (mask_res (op := op) (wd := wd) (v := v) (aw := aw) (av := av) (bw := bw) (bv := bv) (cv := cv) (by omega) hw2)
  clear h
  go_enter Tryz.func69, Tryz.ntmps69
  go_wp2_with fail
  refine wp_region_aft (by kernel_rfl) (by kernel_rfl) ?_
  repeat (go_big_quiet_step (first | (go_at_call 108; exact Calls.qa (exactOf_c op wd v aw av bw bv cw cv hh.out B al bc _)) | (go_at_call 98; exact Calls.qs (highest_c _ (by omega) (by omega) _))))
  refine wpQuiet_nil ?_
  intro y
  go_wp2
  go_ret
  exact ⟨retI HR.out, Below.aft (by (repeat' (first | (with_reducible exact Below.refl _ _) | (with_reducible assumption) | (with_reducible refine Below.alloc ?_ ?_ _) | (with_reducible refine Below.drew ?_) | (with_reducible refine Aft.below _ ?_ ?_) | (with_reducible refine Below.setCell_new ?_ ?_ _ _) | (with_reducible exact Nat.le_refl _) | (with_reducible refine Aft.le _ ?_) | (with_reducible refine le_alloc ?_) | (with_reducible refine le_drew ?_) | (with_reducible refine le_setCell ?_) | omega)))⟩

end Go.Proofs.YtkdonapgonegkaaGreatDoor

set_option linter.unusedSimpArgs false
set_option linter.unusedVariables false
namespace Go.Proofs.YtkdonapgonegkaaGreatDoor
open Go.RowKit Go.BigFrame

set_option maxRecDepth 100000 in
set_option maxHeartbeats 1600000 in
theorem valuesOf1_c (k : Nat) (x : Int) (P Q g vl vc : Nat) (A : Option Addr) (cap : Nat) (ns : List Nd) (n : Nd) (hn : ns[k]? = some n) (hl : ns.length ≤ 65536) (hk : k < vl) (hvl : vl ≤ 65536) (w : World) (lP : P < w.heap.size) (lQ : Q < w.heap.size) (lg : g < w.heap.size)
    (c0 : w.cell? ⟨P, 0, none⟩ = some (.slice A ns.length cap)) (c1 : w.cell? ⟨Q, 0, none⟩ = some (.slice (some ⟨g, 0, none⟩) vl vc)) (c2 : w.cell? ⟨g, k, none⟩ = some (.int .i64 x)) (h : LiesN w A ns) :
    Calls Tryz.prog 96 #[.int .i64 k, .pointer (some ⟨P, 0, none⟩), .pointer (some ⟨Q, 0, none⟩)] w fun e w' => e = .returned (.agg #[.int .i64 n.wd, .int .i64 x]) ∧ ∃ y : Aft w, w' = y.val := by
  obtain ⟨ad, rfl, hb, h0, h1, _⟩ := h.cells hn
  have hk := (List.getElem?_eq_some_iff.1 hn).1
  have hkk : (k : Int) < ns.length := by omega
  have h1' : w.cell? ⟨(ad.add (k * 4)).block, (ad.add (k * 4)).off + 1, none⟩ = some (.int .i64 n.wd) := h1
  have hbk : (ad.add (k * 4)).block < w.heap.size := by rw [addB]; exact hb
  clear hn h h0 h1
  go_enter Tryz.func96, Tryz.ntmps96
  go_wp2_with fail
  have hb0 : Below w.heap.size w (w.alloc (.cells #[.int .i64 0, .int .i64 0] 114)) := (Below.refl _ _).alloc (Nat.le_refl _) _
  have d0 := (hb0.cell (p := ⟨P, 0, none⟩) lP).trans c0
  have d1 := (hb0.cell (p := ⟨Q, 0, none⟩) lQ).trans c1
  have d2 := (hb0.cell (p := ⟨g, k, none⟩) lg).trans c2
  have d3 := (hb0.cell (p := ⟨(ad.add (k * 4)).block, (ad.add (k * 4)).off + 1, none⟩) hbk).trans h1'
  have rr : (w.alloc (.cells #[.int .i64 0, .int .i64 0] 114)).heap[w.heap.size]? = some (.cells #[.int .i64 0, .int .i64 0] 114) := heap_alloc_new _ _
  have lr := lt_of_get rr
  clear c0 c1 c2 h1'
  have lP' : P < (w.alloc (.cells #[.int .i64 0, .int .i64 0] 114)).heap.size := by simp; omega
  have lQ' : Q < (w.alloc (.cells #[.int .i64 0, .int .i64 0] 114)).heap.size := by simp; omega
  have lg' : g < (w.alloc (.cells #[.int .i64 0, .int .i64 0] 114)).heap.size := by simp; omega
  have lb' : (ad.add (k * 4)).block < (w.alloc (.cells #[.int .i64 0, .int .i64 0] 114)).heap.size := by simp; omega
  generalize w.alloc (.cells #[.int .i64 0, .int .i64 0] 114) = W1 at *
  have hx : ∀ z : Aft W1, z.val.cell? ⟨(ad.add (k * 4)).block, (ad.add (k * 4)).off + 1, none⟩ = some (.int .i64 n.wd) := fun z => (z.cell _ _ lb').trans d3
  refine wp_region_aft_tail 10 (by kernel_rfl) (by kernel_rfl) ?_
  simp only [List.take_succ_cons, List.take_zero, List.drop_succ_cons, List.drop_zero]
  repeat (go_big_quiet_step (fail))
  refine wpQuiet_nil ?_
  intro y
  have r2 := heap_aft y lr rr
  have q0 := cell_block (i := 0) r2
  have q1 := cell_block (i := 1) r2
  have f0 := free_block (i := 0) r2
  have f1 := free_block (i := 1) r2
  simp at q0 q1
  have hby := y.below hb0 hb0.size
  clear rr r2 hx d0 d1 d2 d3
  generalize y.val = W2 at *
  go_wp2
  refine bodyPost_ret (by simp [results, Tryz.results96, go_sem, q0, q1]; try rfl) rfl ?_
  exact ⟨rfl, Below.aft (by (repeat' (first | (with_reducible exact Below.refl _ _) | (with_reducible assumption) | (with_reducible refine Below.alloc ?_ ?_ _) | (with_reducible refine Below.drew ?_) | (with_reducible refine Aft.below _ ?_ ?_) | (with_reducible refine Below.setCell_new ?_ ?_ _ _) | (with_reducible exact Nat.le_refl _) | (with_reducible refine Aft.le _ ?_) | (with_reducible refine le_alloc ?_) | (with_reducible refine le_drew ?_) | (with_reducible refine le_setCell ?_) | omega)))⟩

set_option maxRecDepth 100000 in
set_option maxHeartbeats 1600000 in
theorem bargs0 (op wd v : Int) (B : Option Addr) (bc : Nat) (P Q gv vl vc : Nat) (A : Option Addr) (cap : Nat) (ns : List Nd) (hl : ns.length ≤ 65536) (hvl : vl ≤ 65536) (w : World) (lP : P < w.heap.size) (lQ : Q < w.heap.size) (lg : gv < w.heap.size) 
    (c0 : w.cell? ⟨P, 0, none⟩ = some (.slice A ns.length cap)) (c1 : w.cell? ⟨Q, 0, none⟩ = some (.slice (some ⟨gv, 0, none⟩) vl vc)) (h : LiesN w A ns) (hB : LiesI w B []) :
    Calls Tryz.prog 70 #[.agg #[.int .i64 op, .int .i64 wd, .slice B 0 bc, .int .i64 v], .func (.func 96) #[] #[.pointer (some ⟨P, 0, none⟩), .pointer (some ⟨Q, 0, none⟩)]] w fun e w' => e = .returned (.agg #[.int .i64 0, .int .i64 0, .int .i64 0, .int .i64 0, .int .i64 0, .int .i64 0]) ∧ ∃ x : Aft w, w' = x.val := by
  clear h hB c0 c1 
  go_enter Tryz.func70, Tryz.ntmps70
  go_wp2_with fail
  have rL : (((w.alloc (.cells #[.int .i64 op, .int .i64 wd, .slice B 0 bc, .int .i64 v] 61)).alloc (.cells #[.int .i64 0, .int .i64 0, .int .i64 0, .int .i64 0, .int .i64 0, .int .i64 0] 115)).alloc (.cells #[.int .i64 0, .int .i64 0, .int .i64 0, .int .i64 0, .int .i64 0, .int .i64 0] 115)).heap[w.heap.size + 2]? = some (.cells #[.int .i64 0, .int .i64 0, .int .i64 0, .int .i64 0, .int .i64 0, .int .i64 0] 115) := by
    exact heap_alloc_at (by simp)
  have rR : (((w.alloc (.cells #[.int .i64 op, .int .i64 wd, .slice B 0 bc, .int .i64 v] 61)).alloc (.cells #[.int .i64 0, .int .i64 0, .int .i64 0, .int .i64 0, .int .i64 0, .int .i64 0] 115)).alloc (.cells #[.int .i64 0, .int .i64 0, .int .i64 0, .int .i64 0, .int .i64 0, .int .i64 0] 115)).heap[w.heap.size + 1]? = some (.cells #[.int .i64 0, .int .i64 0, .int .i64 0, .int .i64 0, .int .i64 0, .int .i64 0] 115) := by
    exact heap_alloc' (by simp) (heap_alloc_at (by simp))
  have rN : (((w.alloc (.cells #[.int .i64 op, .int .i64 wd, .slice B 0 bc, .int .i64 v] 61)).alloc (.cells #[.int .i64 0, .int .i64 0, .int .i64 0, .int .i64 0, .int .i64 0, .int .i64 0] 115)).alloc (.cells #[.int .i64 0, .int .i64 0, .int .i64 0, .int .i64 0, .int .i64 0, .int .i64 0] 115)).heap[w.heap.size]? = some (.cells #[.int .i64 op, .int .i64 wd, .slice B 0 bc, .int .i64 v] 61) := heap_alloc' (by simp; omega) (heap_alloc' (by simp) (heap_alloc_new _ _))
  have hb0 : Below w.heap.size w (((w.alloc (.cells #[.int .i64 op, .int .i64 wd, .slice B 0 bc, .int .i64 v] 61)).alloc (.cells #[.int .i64 0, .int .i64 0, .int .i64 0, .int .i64 0, .int .i64 0, .int .i64 0] 115)).alloc (.cells #[.int .i64 0, .int .i64 0, .int .i64 0, .int .i64 0, .int .i64 0, .int .i64 0] 115)) := (((Below.refl _ _).alloc (Nat.le_refl _) _).alloc (by simp) _).alloc (by simp; omega) _
  have qN := cell_block (i := 2) rN
  simp at qN
  clear rN
  generalize (((w.alloc (.cells #[.int .i64 op, .int .i64 wd, .slice B 0 bc, .int .i64 v] 61)).alloc (.cells #[.int .i64 0, .int .i64 0, .int .i64 0, .int .i64 0, .int .i64 0, .int .i64 0] 115)).alloc (.cells #[.int .i64 0, .int .i64 0, .int .i64 0, .int .i64 0, .int .i64 0, .int .i64 0] 115)) = W0 at *
  refine wp_loop_rounds 1 ?_
  rw [rounds_succ]
  have u0 := cell_block (i := 0) rL
  have p0 := cell_block (i := 0) rR
  have f0 := free_block (i := 0) rR
  have u1 := cell_block (i := 1) rL
  have p1 := cell_block (i := 1) rR
  have f1 := free_block (i := 1) rR
  have u2 := cell_block (i := 2) rL
  have p2 := cell_block (i := 2) rR
  have f2 := free_block (i := 2) rR
  have u3 := cell_block (i := 3) rL
  have p3 := cell_block (i := 3) rR
  have f3 := free_block (i := 3) rR
  have u4 := cell_block (i := 4) rL
  have p4 := cell_block (i := 4) rR
  have f4 := free_block (i := 4) rR
  have u5 := cell_block (i := 5) rL
  have p5 := cell_block (i := 5) rR
  have f5 := free_block (i := 5) rR
  simp at u0 u1 u2 u3 u4 u5 p0 p1 p2 p3 p4 p5
  go_wp2
  refine bodyPost_ret (by simp [results, Tryz.results70, go_sem, p0, p1, p2, p3, p4, p5]; try rfl) rfl ?_
  exact ⟨rfl, Below.aft (by (repeat' (first | (with_reducible exact Below.refl _ _) | (with_reducible assumption) | (with_reducible refine Below.alloc ?_ ?_ _) | (with_reducible refine Below.drew ?_) | (with_reducible refine Aft.below _ ?_ ?_) | (with_reducible refine Below.setCell_new ?_ ?_ _ _) | (with_reducible exact Nat.le_refl _) | (with_reducible refine Aft.le _ ?_) | (with_reducible refine le_alloc ?_) | (with_reducible refine le_drew ?_) | (with_reducible refine le_setCell ?_) | omega)))⟩

set_option maxRecDepth 100000 in
set_option maxHeartbeats 1600000 in
theorem bargs1 (op wd v : Int) (B : Option Addr) (bc : Nat) (P Q gv vl vc : Nat) (A : Option Addr) (cap : Nat) (ns : List Nd) (hl : ns.length ≤ 65536) (hvl : vl ≤ 65536) (w : World) (lP : P < w.heap.size) (lQ : Q < w.heap.size) (lg : gv < w.heap.size) (k0 : Nat) (n0 : Nd) (x0 : Int) (g0 : ns[k0]? = some n0) (lk0 : k0 < vl) (e0 : w.cell? ⟨gv, k0, none⟩ = some (.int .i64 x0))
    (c0 : w.cell? ⟨P, 0, none⟩ = some (.slice A ns.length cap)) (c1 : w.cell? ⟨Q, 0, none⟩ = some (.slice (some ⟨gv, 0, none⟩) vl vc)) (h : LiesN w A ns) (hB : LiesI w B [(k0 : Int)]) :
    Calls Tryz.prog 70 #[.agg #[.int .i64 op, .int .i64 wd, .slice B 1 bc, .int .i64 v], .func (.func 96) #[] #[.pointer (some ⟨P, 0, none⟩), .pointer (some ⟨Q, 0, none⟩)]] w fun e w' => e = .returned (.agg #[.int .i64 n0.wd, .int .i64 x0, .int .i64 0, .int .i64 0, .int .i64 0, .int .i64 0]) ∧ ∃ x : Aft w, w' = x.val := by
  have HC0 := Lib.hid (fun (W : World) (hb : Below w.heap.size w W) => valuesOf1_c k0 x0 P Q gv vl vc A cap ns n0 g0 hl lk0 hvl W (Nat.lt_of_lt_of_le lP hb.size) (Nat.lt_of_lt_of_le lQ hb.size) (Nat.lt_of_lt_of_le lg hb.size) ((hb.cell (p := ⟨P, 0, none⟩) lP).trans c0) ((hb.cell (p := ⟨Q, 0, none⟩) lQ).trans c1) ((hb.cell (p := ⟨gv, k0, none⟩) lg).trans e0) (h.below hb))
  obtain ⟨ad, rfl, hbk, hcell⟩ := hB (by simp)
  have hx0 := hcell 0 k0 (by rfl)
  have HX := Lib.hid (fun (W : World) (hb : Below w.heap.size w W) (i : Nat) => (hb.cell (p := ad.add i) (by rw [addB]; exact hbk)))
  clear h hB c0 c1 hcell e0
  go_enter Tryz.func70, Tryz.ntmps70
  go_wp2_with fail
  have rL : (((w.alloc (.cells #[.int .i64 op, .int .i64 wd, .slice (some ad) 1 bc, .int .i64 v] 61)).alloc (.cells #[.int .i64 0, .int .i64 0, .int .i64 0, .int .i64 0, .int .i64 0, .int .i64 0] 115)).alloc (.cells #[.int .i64 0, .int .i64 0, .int .i64 0, .int .i64 0, .int .i64 0, .int .i64 0] 115)).heap[w.heap.size + 2]? = some (.cells #[.int .i64 0, .int .i64 0, .int .i64 0, .int .i64 0, .int .i64 0, .int .i64 0] 115) := by
    exact heap_alloc_at (by simp)
  have rR : (((w.alloc (.cells #[.int .i64 op, .int .i64 wd, .slice (some ad) 1 bc, .int .i64 v] 61)).alloc (.cells #[.int .i64 0, .int .i64 0, .int .i64 0, .int .i64 0, .int .i64 0, .int .i64 0] 115)).alloc (.cells #[.int .i64 0, .int .i64 0, .int .i64 0, .int .i64 0, .int .i64 0, .int .i64 0] 115)).heap[w.heap.size + 1]? = some (.cells #[.int .i64 0, .int .i64 0, .int .i64 0, .int .i64 0, .int .i64 0, .int .i64 0] 115) := by
    exact heap_alloc' (by simp) (heap_alloc_at (by simp))
  have rN : (((w.alloc (.cells #[.int .i64 op, .int .i64 wd, .slice (some ad) 1 bc, .int .i64 v] 61)).alloc (.cells #[.int .i64 0, .int .i64 0, .int .i64 0, .int .i64 0, .int .i64 0, .int .i64 0] 115)).alloc (.cells #[.int .i64 0, .int .i64 0, .int .i64 0, .int .i64 0, .int .i64 0, .int .i64 0] 115)).heap[w.heap.size]? = some (.cells #[.int .i64 op, .int .i64 wd, .slice (some ad) 1 bc, .int .i64 v] 61) := heap_alloc' (by simp; omega) (heap_alloc' (by simp) (heap_alloc_new _ _))
  have hb0 : Below w.heap.size w (((w.alloc (.cells #[.int .i64 op, .int .i64 wd, .slice (some ad) 1 bc, .int .i64 v] 61)).alloc (.cells #[.int .i64 0, .int .i64 0, .int .i64 0, .int .i64 0, .int .i64 0, .int .i64 0] 115)).alloc (.cells #[.int .i64 0, .int .i64 0, .int .i64 0, .int .i64 0, .int .i64 0, .int .i64 0] 115)) := (((Below.refl _ _).alloc (Nat.le_refl _) _).alloc (by simp) _).alloc (by simp; omega) _
  have qN := cell_block (i := 2) rN
  simp at qN
  clear rN
  generalize (((w.alloc (.cells #[.int .i64 op, .int .i64 wd, .slice (some ad) 1 bc, .int .i64 v] 61)).alloc (.cells #[.int .i64 0, .int .i64 0, .int .i64 0, .int .i64 0, .int .i64 0, .int .i64 0] 115)).alloc (.cells #[.int .i64 0, .int .i64 0, .int .i64 0, .int .i64 0, .int .i64 0, .int .i64 0] 115)) = W0 at *
  have cc0 : W0.cell? ad = some (.int .i64 k0) := (HX.out _ hb0 0).trans hx0
  refine wp_loop_rounds 2 ?_
  rw [rounds_succ]
  go_wp2_with fail
  refine (HC0.out _ hb0).mono ?_
  rintro e w' ⟨rfl, y0, rfl⟩
  have rLy := heap_aft y0 (lt_of_get rL) rL
  have rRy := heap_aft y0 (lt_of_get rR) rR
  have hby := y0.below hb0 hb0.size
  have qL0 := cell_block (i := 0) rLy
  have qL1 := cell_block (i := 1) rLy
  have fL0 := free_block (i := 0) rLy
  have fL1 := free_block (i := 1) rLy
  simp at qL0 qL1
  have rL1 : ((y0.val.setCell ⟨w.heap.size + 2, 0, none⟩ (.int .i64 n0.wd)).setCell ⟨w.heap.size + 2, 1, none⟩ (.int .i64 x0)).heap[w.heap.size + 2]? = some (.cells #[.int .i64 n0.wd, .int .i64 x0, .int .i64 0, .int .i64 0, .int .i64 0, .int .i64 0] 115) := heap_set (heap_set rLy)
  have rR1 : ((y0.val.setCell ⟨w.heap.size + 2, 0, none⟩ (.int .i64 n0.wd)).setCell ⟨w.heap.size + 2, 1, none⟩ (.int .i64 x0)).heap[w.heap.size + 1]? = some (.cells #[.int .i64 0, .int .i64 0, .int .i64 0, .int .i64 0, .int .i64 0, .int .i64 0] 115) := heap_set_ne (heap_set_ne rRy (by omega)) (by omega)
  have hb1 : Below w.heap.size w ((y0.val.setCell ⟨w.heap.size + 2, 0, none⟩ (.int .i64 n0.wd)).setCell ⟨w.heap.size + 2, 1, none⟩ (.int .i64 x0)) := (hby.setCell (by first | omega | (simp; done) | (simp; omega)) _).setCell (by first | omega | (simp; done) | (simp; omega)) _
  clear cc0
  go_wp2_with fail
  clear rL rR rLy rRy qL0 qL1 fL0 fL1 hby
  have rL := rL1
  have rR := rR1
  clear rL1 rR1
  generalize ((y0.val.setCell ⟨w.heap.size + 2, 0, none⟩ (.int .i64 n0.wd)).setCell ⟨w.heap.size + 2, 1, none⟩ (.int .i64 x0)) = W1 at *
  rw [rounds_succ]
  have u0 := cell_block (i := 0) rL
  have p0 := cell_block (i := 0) rR
  have f0 := free_block (i := 0) rR
  have u1 := cell_block (i := 1) rL
  have p1 := cell_block (i := 1) rR
  have f1 := free_block (i := 1) rR
  have u2 := cell_block (i := 2) rL
  have p2 := cell_block (i := 2) rR
  have f2 := free_block (i := 2) rR
  have u3 := cell_block (i := 3) rL
  have p3 := cell_block (i := 3) rR
  have f3 := free_block (i := 3) rR
  have u4 := cell_block (i := 4) rL
  have p4 := cell_block (i := 4) rR
  have f4 := free_block (i := 4) rR
  have u5 := cell_block (i := 5) rL
  have p5 := cell_block (i := 5) rR
  have f5 := free_block (i := 5) rR
  simp at u0 u1 u2 u3 u4 u5 p0 p1 p2 p3 p4 p5
  go_wp2
  refine bodyPost_ret (by simp [results, Tryz.results70, go_sem, p0, p1, p2, p3, p4, p5]; try rfl) rfl ?_
  exact ⟨rfl, Below.aft (by (repeat' (first | (with_reducible exact Below.refl _ _) | (with_reducible assumption) | (with_reducible refine Below.alloc ?_ ?_ _) | (with_reducible refine Below.drew ?_) | (with_reducible refine Aft.below _ ?_ ?_) | (with_reducible refine Below.setCell_new ?_ ?_ _ _) | (with_reducible exact Nat.le_refl _) | (with_reducible refine Aft.le _ ?_) | (with_reducible refine le_alloc ?_) | (with_reducible refine le_drew ?_) | (with_reducible refine le_setCell ?_) | omega)))⟩

set_option maxRecDepth 100000 in
set_option maxHeartbeats 1600000 in
theorem bargs2 (op wd v : Int) (B : Option Addr) (bc : Nat) (P Q gv vl vc : Nat) (A : Option Addr) (cap : Nat) (ns : List Nd) (hl : ns.length ≤ 65536) (hvl : vl ≤ 65536) (w : World) (lP : P < w.heap.size) (lQ : Q < w.heap.size) (lg : gv < w.heap.size) (k0 : Nat) (n0 : Nd) (x0 : Int) (g0 : ns[k0]? = some n0) (lk0 : k0 < vl) (e0 : w.cell? ⟨gv, k0, none⟩ = some (.int .i64 x0)) (k1 : Nat) (n1 : Nd) (x1 : Int) (g1 : ns[k1]? = some n1) (lk1 : k1 < vl) (e1 : w.cell? ⟨gv, k1, none⟩ = some (.int .i64 x1))
    (c0 : w.cell? ⟨P, 0, none⟩ = some (.slice A ns.length cap)) (c1 : w.cell? ⟨Q, 0, none⟩ = some (.slice (some ⟨gv, 0, none⟩) vl vc)) (h : LiesN w A ns) (hB : LiesI w B [(k0 : Int), (k1 : Int)]) :
    Calls Tryz.prog 70 #[.agg #[.int .i64 op, .int .i64 wd, .slice B 2 bc, .int .i64 v], .func (.func 96) #[] #[.pointer (some ⟨P, 0, none⟩), .pointer (some ⟨Q, 0, none⟩)]] w fun e w' => e = .returned (.agg #[.int .i64 n0.wd, .int .i64 x0, .int .i64 n1.wd, .int .i64 x1, .int .i64 0, .int .i64 0]) ∧ ∃ x : Aft w, w' = x.val := by
  have HC0 := Lib.hid (fun (W : World) (hb : Below w.heap.size w W) => valuesOf1_c k0 x0 P Q gv vl vc A cap ns n0 g0 hl lk0 hvl W (Nat.lt_of_lt_of_le lP hb.size) (Nat.lt_of_lt_of_le lQ hb.size) (Nat.lt_of_lt_of_le lg hb.size) ((hb.cell (p := ⟨P, 0, none⟩) lP).trans c0) ((hb.cell (p := ⟨Q, 0, none⟩) lQ).trans c1) ((hb.cell (p := ⟨gv, k0, none⟩) lg).trans e0) (h.below hb))
  have HC1 := Lib.hid (fun (W : World) (hb : Below w.heap.size w W) => valuesOf1_c k1 x1 P Q gv vl vc A cap ns n1 g1 hl lk1 hvl W (Nat.lt_of_lt_of_le lP hb.size) (Nat.lt_of_lt_of_le lQ hb.size) (Nat.lt_of_lt_of_le lg hb.size) ((hb.cell (p := ⟨P, 0, none⟩) lP).trans c0) ((hb.cell (p := ⟨Q, 0, none⟩) lQ).trans c1) ((hb.cell (p := ⟨gv, k1, none⟩) lg).trans e1) (h.below hb))
  obtain ⟨ad, rfl, hbk, hcell⟩ := hB (by simp)
  have hx0 := hcell 0 k0 (by rfl)
  have hx1 := hcell 1 k1 (by rfl)
  have HX := Lib.hid (fun (W : World) (hb : Below w.heap.size w W) (i : Nat) => (hb.cell (p := ad.add i) (by rw [addB]; exact hbk)))
  clear h hB c0 c1 hcell e0 e1
  go_enter Tryz.func70, Tryz.ntmps70
  go_wp2_with fail
  have rL : (((w.alloc (.cells #[.int .i64 op, .int .i64 wd, .slice (some ad) 2 bc, .int .i64 v] 61)).alloc (.cells #[.int .i64 0, .int .i64 0, .int .i64 0, .int .i64 0, .int .i64 0, .int .i64 0] 115)).alloc (.cells #[.int .i64 0, .int .i64 0, .int .i64 0, .int .i64 0, .int .i64 0, .int .i64 0] 115)).heap[w.heap.size + 2]? = some (.cells #[.int .i64 0, .int .i64 0, .int .i64 0, .int .i64 0, .int .i64 0, .int .i64 0] 115) := by
    exact heap_alloc_at (by simp)
  have rR : (((w.alloc (.cells #[.int .i64 op, .int .i64 wd, .slice (some ad) 2 bc, .int .i64 v] 61)).alloc (.cells #[.int .i64 0, .int .i64 0, .int .i64 0, .int .i64 0, .int .i64 0, .int .i64 0] 115)).alloc (.cells #[.int .i64 0, .int .i64 0, .int .i64 0, .int .i64 0, .int .i64 0, .int .i64 0] 115)).heap[w.heap.size + 1]? = some (.cells #[.int .i64 0, .int .i64 0, .int .i64 0, .int .i64 0, .int .i64 0, .int .i64 0] 115) := by
    exact heap_alloc' (by simp) (heap_alloc_at (by simp))
  have rN : (((w.alloc (.cells #[.int .i64 op, .int .i64 wd, .slice (some ad) 2 bc, .int .i64 v] 61)).alloc (.cells #[.int .i64 0, .int .i64 0, .int .i64 0, .int .i64 0, .int .i64 0, .int .i64 0] 115)).alloc (.cells #[.int .i64 0, .int .i64 0, .int .i64 0, .int .i64 0, .int .i64 0, .int .i64 0] 115)).heap[w.heap.size]? = some (.cells #[.int .i64 op, .int .i64 wd, .slice (some ad) 2 bc, .int .i64 v] 61) := heap_alloc' (by simp; omega) (heap_alloc' (by simp) (heap_alloc_new _ _))
  have hb0 : Below w.heap.size w (((w.alloc (.cells #[.int .i64 op, .int .i64 wd, .slice (some ad) 2 bc, .int .i64 v] 61)).alloc (.cells #[.int .i64 0, .int .i64 0, .int .i64 0, .int .i64 0, .int .i64 0, .int .i64 0] 115)).alloc (.cells #[.int .i64 0, .int .i64 0, .int .i64 0, .int .i64 0, .int .i64 0, .int .i64 0] 115)) := (((Below.refl _ _).alloc (Nat.le_refl _) _).alloc (by simp) _).alloc (by simp; omega) _
  have qN := cell_block (i := 2) rN
  simp at qN
  clear rN
  generalize (((w.alloc (.cells #[.int .i64 op, .int .i64 wd, .slice (some ad) 2 bc, .int .i64 v] 61)).alloc (.cells #[.int .i64 0, .int .i64 0, .int .i64 0, .int .i64 0, .int .i64 0, .int .i64 0] 115)).alloc (.cells #[.int .i64 0, .int .i64 0, .int .i64 0, .int .i64 0, .int .i64 0, .int .i64 0] 115)) = W0 at *
  have cc0 : W0.cell? ad = some (.int .i64 k0) := (HX.out _ hb0 0).trans hx0
  refine wp_loop_rounds 3 ?_
  rw [rounds_succ]
  go_wp2_with fail
  refine (HC0.out _ hb0).mono ?_
  rintro e w' ⟨rfl, y0, rfl⟩
  have rLy := heap_aft y0 (lt_of_get rL) rL
  have rRy := heap_aft y0 (lt_of_get rR) rR
  have hby := y0.below hb0 hb0.size
  have qL0 := cell_block (i := 0) rLy
  have qL1 := cell_block (i := 1) rLy
  have fL0 := free_block (i := 0) rLy
  have fL1 := free_block (i := 1) rLy
  simp at qL0 qL1
  have rL1 : ((y0.val.setCell ⟨w.heap.size + 2, 0, none⟩ (.int .i64 n0.wd)).setCell ⟨w.heap.size + 2, 1, none⟩ (.int .i64 x0)).heap[w.heap.size + 2]? = some (.cells #[.int .i64 n0.wd, .int .i64 x0, .int .i64 0, .int .i64 0, .int .i64 0, .int .i64 0] 115) := heap_set (heap_set rLy)
  have rR1 : ((y0.val.setCell ⟨w.heap.size + 2, 0, none⟩ (.int .i64 n0.wd)).setCell ⟨w.heap.size + 2, 1, none⟩ (.int .i64 x0)).heap[w.heap.size + 1]? = some (.cells #[.int .i64 0, .int .i64 0, .int .i64 0, .int .i64 0, .int .i64 0, .int .i64 0] 115) := heap_set_ne (heap_set_ne rRy (by omega)) (by omega)
  have hb1 : Below w.heap.size w ((y0.val.setCell ⟨w.heap.size + 2, 0, none⟩ (.int .i64 n0.wd)).setCell ⟨w.heap.size + 2, 1, none⟩ (.int .i64 x0)) := (hby.setCell (by first | omega | (simp; done) | (simp; omega)) _).setCell (by first | omega | (simp; done) | (simp; omega)) _
  clear cc0
  go_wp2_with fail
  clear rL rR rLy rRy qL0 qL1 fL0 fL1 hby
  have rL := rL1
  have rR := rR1
  clear rL1 rR1
  generalize ((y0.val.setCell ⟨w.heap.size + 2, 0, none⟩ (.int .i64 n0.wd)).setCell ⟨w.heap.size + 2, 1, none⟩ (.int .i64 x0)) = W1 at *
  have cc1 : W1.cell? ⟨ad.block, ad.off + 1, none⟩ = some (.int .i64 k1) := (HX.out _ hb1 1).trans hx1
  rw [rounds_succ]
  go_wp2_with fail
  refine (HC1.out _ hb1).mono ?_
  rintro e w' ⟨rfl, y1, rfl⟩
  have rLy := heap_aft y1 (lt_of_get rL) rL
  have rRy := heap_aft y1 (lt_of_get rR) rR
  have hby := y1.below hb1 hb1.size
  have qL0 := cell_block (i := 2) rLy
  have qL1 := cell_block (i := 3) rLy
  have fL0 := free_block (i := 2) rLy
  have fL1 := free_block (i := 3) rLy
  simp at qL0 qL1
  have rL1 : ((y1.val.setCell ⟨w.heap.size + 2, 2, none⟩ (.int .i64 n1.wd)).setCell ⟨w.heap.size + 2, 3, none⟩ (.int .i64 x1)).heap[w.heap.size + 2]? = some (.cells #[.int .i64 n0.wd, .int .i64 x0, .int .i64 n1.wd, .int .i64 x1, .int .i64 0, .int .i64 0] 115) := heap_set (heap_set rLy)
  have rR1 : ((y1.val.setCell ⟨w.heap.size + 2, 2, none⟩ (.int .i64 n1.wd)).setCell ⟨w.heap.size + 2, 3, none⟩ (.int .i64 x1)).heap[w.heap.size + 1]? = some (.cells #[.int .i64 0, .int .i64 0, .int .i64 0, .int .i64 0, .int .i64 0, .int .i64 0] 115) := heap_set_ne (heap_set_ne rRy (by omega)) (by omega)
  have hb2 : Below w.heap.size w ((y1.val.setCell ⟨w.heap.size + 2, 2, none⟩ (.int .i64 n1.wd)).setCell ⟨w.heap.size + 2, 3, none⟩ (.int .i64 x1)) := (hby.setCell (by first | omega | (simp; done) | (simp; omega)) _).setCell (by first | omega | (simp; done) | (simp; omega)) _
  clear cc1
  go_wp2_with fail
  clear rL rR rLy rRy qL0 qL1 fL0 fL1 hby
  have rL := rL1
  have rR := rR1
  clear rL1 rR1
  generalize ((y1.val.setCell ⟨w.heap.size + 2, 2, none⟩ (.int .i64 n1.wd)).setCell ⟨w.heap.size + 2, 3, none⟩ (.int .i64 x1)) = W2 at *
  rw [rounds_succ]
  have u0 := cell_block (i := 0) rL
  have p0 := cell_block (i := 0) rR
  have f0 := free_block (i := 0) rR
  have u1 := cell_block (i := 1) rL
  have p1 := cell_block (i := 1) rR
  have f1 := free_block (i := 1) rR
  have u2 := cell_block (i := 2) rL
  have p2 := cell_block (i := 2) rR
  have f2 := free_block (i := 2) rR
  have u3 := cell_block (i := 3) rL
  have p3 := cell_block (i := 3) rR
  have f3 := free_block (i := 3) rR
  have u4 := cell_block (i := 4) rL
  have p4 := cell_block (i := 4) rR
  have f4 := free_block (i := 4) rR
  have u5 := cell_block (i := 5) rL
  have p5 := cell_block (i := 5) rR
  have f5 := free_block (i := 5) rR
  simp at u0 u1 u2 u3 u4 u5 p0 p1 p2 p3 p4 p5
  go_wp2
  refine bodyPost_ret (by simp [results, Tryz.results70, go_sem, p0, p1, p2, p3, p4, p5]; try rfl) rfl ?_
  exact ⟨rfl, Below.aft (by (repeat' (first | (with_reducible exact Below.refl _ _) | (with_reducible assumption) | (with_reducible refine Below.alloc ?_ ?_ _) | (with_reducible refine Below.drew ?_) | (with_reducible refine Aft.below _ ?_ ?_) | (with_reducible refine Below.setCell_new ?_ ?_ _ _) | (with_reducible exact Nat.le_refl _) | (with_reducible refine Aft.le _ ?_) | (with_reducible refine le_alloc ?_) | (with_reducible refine le_drew ?_) | (with_reducible refine le_setCell ?_) | omega)))⟩

set_option maxRecDepth 100000 in
set_option maxHeartbeats 1600000 in
theorem bargs3 (op wd v : Int) (B : Option Addr) (bc : Nat) (P Q gv vl vc : Nat) (A : Option Addr) (cap : Nat) (ns : List Nd) (hl : ns.length ≤ 65536) (hvl : vl ≤ 65536) (w : World) (lP : P < w.heap.size) (lQ : Q < w.heap.size) (lg : gv < w.heap.size) (k0 : Nat) (n0 : Nd) (x0 : Int) (g0 : ns[k0]? = some n0) (lk0 : k0 < vl) (e0 : w.cell? ⟨gv, k0, none⟩ = some (.int .i64 x0)) (k1 : Nat) (n1 : Nd) (x1 : Int) (g1 : ns[k1]? = some n1) (lk1 : k1 < vl) (e1 : w.cell? ⟨gv, k1, none⟩ = some (.int .i64 x1)) (k2 : Nat) (n2 : Nd) (x2 : Int) (g2 : ns[k2]? = some n2) (lk2 : k2 < vl) (e2 : w.cell? ⟨gv, k2, none⟩ = some (.int .i64 x2))
    (c0 : w.cell? ⟨P, 0, none⟩ = some (.slice A ns.length cap)) (c1 : w.cell? ⟨Q, 0, none⟩ = some (.slice (some ⟨gv, 0, none⟩) vl vc)) (h : LiesN w A ns) (hB : LiesI w B [(k0 : Int), (k1 : Int), (k2 : Int)]) :
    Calls Tryz.prog 70 #[.agg #[.int .i64 op, .int .i64 wd, .slice B 3 bc, .int .i64 v], .func (.func 96) #[] #[.pointer (some ⟨P, 0, none⟩), .pointer (some ⟨Q, 0, none⟩)]] w fun e w' => e = .returned (.agg #[.int .i64 n0.wd, .int .i64 x0, .int .i64 n1.wd, .int .i64 x1, .int .i64 n2.wd, .int .i64 x2]) ∧ ∃ x : Aft w, w' = x.val := by
  have HC0 := Lib.hid (fun (W : World) (hb : Below w.heap.size w W) => valuesOf1_c k0 x0 P Q gv vl vc A cap ns n0 g0 hl lk0 hvl W (Nat.lt_of_lt_of_le lP hb.size) (Nat.lt_of_lt_of_le lQ hb.size) (Nat.lt_of_lt_of_le lg hb.size) ((hb.cell (p := ⟨P, 0, none⟩) lP).trans c0) ((hb.cell (p := ⟨Q, 0, none⟩) lQ).trans c1) ((hb.cell (p := ⟨gv, k0, none⟩) lg).trans e0) (h.below hb))
  have HC1 := Lib.hid (fun (W : World) (hb : Below w.heap.size w W) => valuesOf1_c k1 x1 P Q gv vl vc A cap ns n1 g1 hl lk1 hvl W (Nat.lt_of_lt_of_le lP hb.size) (Nat.lt_of_lt_of_le lQ hb.size) (Nat.lt_of_lt_of_le lg hb.size) ((hb.cell (p := ⟨P, 0, none⟩) lP).trans c0) ((hb.cell (p := ⟨Q, 0, none⟩) lQ).trans c1) ((hb.cell (p := ⟨gv, k1, none⟩) lg).trans e1) (h.below hb))
  have HC2 := Lib.hid (fun (W : World) (hb : Below w.heap.size w W) => valuesOf1_c k2 x2 P Q gv vl vc A cap ns n2 g2 hl lk2 hvl W (Nat.lt_of_lt_of_le lP hb.size) (Nat.lt_of_lt_of_le lQ hb.size) (Nat.lt_of_lt_of_le lg hb.size) ((hb.cell (p := ⟨P, 0, none⟩) lP).trans c0) ((hb.cell (p := ⟨Q, 0, none⟩) lQ).trans c1) ((hb.cell (p := ⟨gv, k2, none⟩) lg).trans e2) (h.below hb))
  obtain ⟨ad, rfl, hbk, hcell⟩ := hB (by simp)
  have hx0 := hcell 0 k0 (by rfl)
  have hx1 := hcell 1 k1 (by rfl)
  have hx2 := hcell 2 k2 (by rfl)
  have HX := Lib.hid (fun (W : World) (hb : Below w.heap.size w W) (i : Nat) => (hb.cell (p := ad.add i) (by rw [addB]; exact hbk)))
  clear h hB c0 c1 hcell e0 e1 e2
  go_enter Tryz.func70, Tryz.ntmps70
  go_wp2_with fail
  have rL : (((w.alloc (.cells #[.int .i64 op, .int .i64 wd, .slice (some ad) 3 bc, .int .i64 v] 61)).alloc (.cells #[.int .i64 0, .int .i64 0, .int .i64 0, .int .i64 0, .int .i64 0, .int .i64 0] 115)).alloc (.cells #[.int .i64 0, .int .i64 0, .int .i64 0, .int .i64 0, .int .i64 0, .int .i64 0] 115)).heap[w.heap.size + 2]? = some (.cells #[.int .i64 0, .int .i64 0, .int .i64 0, .int .i64 0, .int .i64 0, .int .i64 0] 115) := by
    exact heap_alloc_at (by simp)
  have rR : (((w.alloc (.cells #[.int .i64 op, .int .i64 wd, .slice (some ad) 3 bc, .int .i64 v] 61)).alloc (.cells #[.int .i64 0, .int .i64 0, .int .i64 0, .int .i64 0, .int .i64 0, .int .i64 0] 115)).alloc (.cells #[.int .i64 0, .int .i64 0, .int .i64 0, .int .i64 0, .int .i64 0, .int .i64 0] 115)).heap[w.heap.size + 1]? = some (.cells #[.int .i64 0, .int .i64 0, .int .i64 0, .int .i64 0, .int .i64 0, .int .i64 0] 115) := by
    exact heap_alloc' (by simp) (heap_alloc_at (by simp))
  have rN : (((w.alloc (.cells #[.int .i64 op, .int .i64 wd, .slice (some ad) 3 bc, .int .i64 v] 61)).alloc (.cells #[.int .i64 0, .int .i64 0, .int .i64 0, .int .i64 0, .int .i64 0, .int .i64 0] 115)).alloc (.cells #[.int .i64 0, .int .i64 0, .int .i64 0, .int .i64 0, .int .i64 0, .int .i64 0] 115)).heap[w.heap.size]? = some (.cells #[.int .i64 op, .int .i64 wd, .slice (some ad) 3 bc, .int .i64 v] 61) := heap_alloc' (by simp; omega) (heap_alloc' (by simp) (heap_alloc_new _ _))
  have hb0 : Below w.heap.size w (((w.alloc (.cells #[.int .i64 op, .int .i64 wd, .slice (some ad) 3 bc, .int .i64 v] 61)).alloc (.cells #[.int .i64 0, .int .i64 0, .int .i64 0, .int .i64 0, .int .i64 0, .int .i64 0] 115)).alloc (.cells #[.int .i64 0, .int .i64 0, .int .i64 0, .int .i64 0, .int .i64 0, .int .i64 0] 115)) := (((Below.refl _ _).alloc (Nat.le_refl _) _).alloc (by simp) _).alloc (by simp; omega) _
  have qN := cell_block (i := 2) rN
  simp at qN
  clear rN
  generalize (((w.alloc (.cells #[.int .i64 op, .int .i64 wd, .slice (some ad) 3 bc, .int .i64 v] 61)).alloc (.cells #[.int .i64 0, .int .i64 0, .int .i64 0, .int .i64 0, .int .i64 0, .int .i64 0] 115)).alloc (.cells #[.int .i64 0, .int .i64 0, .int .i64 0, .int .i64 0, .int .i64 0, .int .i64 0] 115)) = W0 at *
  have cc0 : W0.cell? ad = some (.int .i64 k0) := (HX.out _ hb0 0).trans hx0
  refine wp_loop_rounds 4 ?_
  rw [rounds_succ]
  go_wp2_with fail
  refine (HC0.out _ hb0).mono ?_
  rintro e w' ⟨rfl, y0, rfl⟩
  have rLy := heap_aft y0 (lt_of_get rL) rL
  have rRy := heap_aft y0 (lt_of_get rR) rR
  have hby := y0.below hb0 hb0.size
  have qL0 := cell_block (i := 0) rLy
  have qL1 := cell_block (i := 1) rLy
  have fL0 := free_block (i := 0) rLy
  have fL1 := free_block (i := 1) rLy
  simp at qL0 qL1
  have rL1 : ((y0.val.setCell ⟨w.heap.size + 2, 0, none⟩ (.int .i64 n0.wd)).setCell ⟨w.heap.size + 2, 1, none⟩ (.int .i64 x0)).heap[w.heap.size + 2]? = some (.cells #[.int .i64 n0.wd, .int .i64 x0, .int .i64 0, .int .i64 0, .int .i64 0, .int .i64 0] 115) := heap_set (heap_set rLy)
  have rR1 : ((y0.val.setCell ⟨w.heap.size + 2, 0, none⟩ (.int .i64 n0.wd)).setCell ⟨w.heap.size + 2, 1, none⟩ (.int .i64 x0)).heap[w.heap.size + 1]? = some (.cells #[.int .i64 0, .int .i64 0, .int .i64 0, .int .i64 0, .int .i64 0, .int .i64 0] 115) := heap_set_ne (heap_set_ne rRy (by omega)) (by omega)
  have hb1 : Below w.heap.size w ((y0.val.setCell ⟨w.heap.size + 2, 0, none⟩ (.int .i64 n0.wd)).setCell ⟨w.heap.size + 2, 1, none⟩ (.int .i64 x0)) := (hby.setCell (by first | omega | (simp; done) | (simp; omega)) _).setCell (by first | omega | (simp; done) | (simp; omega)) _
  clear cc0
  go_wp2_with fail
  clear rL rR rLy rRy qL0 qL1 fL0 fL1 hby
  have rL := rL1
  have rR := rR1
  clear rL1 rR1
  generalize ((y0.val.setCell ⟨w.heap.size + 2, 0, none⟩ (.int .i64 n0.wd)).setCell ⟨w.heap.size + 2, 1, none⟩ (.int .i64 x0)) = W1 at *
  have cc1 : W1.cell? ⟨ad.block, ad.off + 1, none⟩ = some (.int .i64 k1) := (HX.out _ hb1 1).trans hx1
  rw [rounds_succ]
  go_wp2_with fail
  refine (HC1.out _ hb1).mono ?_
  rintro e w' ⟨rfl, y1, rfl⟩
  have rLy := heap_aft y1 (lt_of_get rL) rL
  have rRy := heap_aft y1 (lt_of_get rR) rR
  have hby := y1.below hb1 hb1.size
  have qL0 := cell_block (i := 2) rLy
  have qL1 := cell_block (i := 3) rLy
  have fL0 := free_block (i := 2) rLy
  have fL1 := free_block (i := 3) rLy
  simp at qL0 qL1
  have rL1 : ((y1.val.setCell ⟨w.heap.size + 2, 2, none⟩ (.int .i64 n1.wd)).setCell ⟨w.heap.size + 2, 3, none⟩ (.int .i64 x1)).heap[w.heap.size + 2]? = some (.cells #[.int .i64 n0.wd, .int .i64 x0, .int .i64 n1.wd, .int .i64 x1, .int .i64 0, .int .i64 0] 115) := heap_set (heap_set rLy)
  have rR1 : ((y1.val.setCell ⟨w.heap.size + 2, 2, none⟩ (.int .i64 n1.wd)).setCell ⟨w.heap.size + 2, 3, none⟩ (.int .i64 x1)).heap[w.heap.size + 1]? = some (.cells #[.int .i64 0, .int .i64 0, .int .i64 0, .int .i64 0, .int .i64 0, .int .i64 0] 115) := heap_set_ne (heap_set_ne rRy (by omega)) (by omega)
  have hb2 : Below w.heap.size w ((y1.val.setCell ⟨w.heap.size + 2, 2, none⟩ (.int .i64 n1.wd)).setCell ⟨w.heap.size + 2, 3, none⟩ (.int .i64 x1)) := (hby.setCell (by first | omega | (simp; done) | (simp; omega)) _).setCell (by first | omega | (simp; done) | (simp; omega)) _
  clear cc1
  go_wp2_with fail
  clear rL rR rLy rRy qL0 qL1 fL0 fL1 hby
  have rL := rL1
  have rR := rR1
  clear rL1 rR1
  generalize ((y1.val.setCell ⟨w.heap.size + 2, 2, none⟩ (.int .i64 n1.wd)).setCell ⟨w.heap.size + 2, 3, none⟩ (.int .i64 x1)) = W2 at *
  have cc2 : W2.cell? ⟨ad.block, ad.off + 2, none⟩ = some (.int .i64 k2) := (HX.out _ hb2 2).trans hx2
  rw [rounds_succ]
  go_wp2_with fail
  refine (HC2.out _ hb2).mono ?_
  rintro e w' ⟨rfl, y2, rfl⟩
  have rLy := heap_aft y2 (lt_of_get rL) rL
  have rRy := heap_aft y2 (lt_of_get rR) rR
  have hby := y2.below hb2 hb2.size
  have qL0 := cell_block (i := 4) rLy
  have qL1 := cell_block (i := 5) rLy
  have fL0 := free_block (i := 4) rLy
  have fL1 := free_block (i := 5) rLy
  simp at qL0 qL1
  have rL1 : ((y2.val.setCell ⟨w.heap.size + 2, 4, none⟩ (.int .i64 n2.wd)).setCell ⟨w.heap.size + 2, 5, none⟩ (.int .i64 x2)).heap[w.heap.size + 2]? = some (.cells #[.int .i64 n0.wd, .int .i64 x0, .int .i64 n1.wd, .int .i64 x1, .int .i64 n2.wd, .int .i64 x2] 115) := heap_set (heap_set rLy)
  have rR1 : ((y2.val.setCell ⟨w.heap.size + 2, 4, none⟩ (.int .i64 n2.wd)).setCell ⟨w.heap.size + 2, 5, none⟩ (.int .i64 x2)).heap[w.heap.size + 1]? = some (.cells #[.int .i64 0, .int .i64 0, .int .i64 0, .int .i64 0, .int .i64 0, .int .i64 0] 115) := heap_set_ne (heap_set_ne rRy (by omega)) (by omega)
  have hb3 : Below w.heap.size w ((y2.val.setCell ⟨w.heap.size + 2, 4, none⟩ (.int .i64 n2.wd)).setCell ⟨w.heap.size + 2, 5, none⟩ (.int .i64 x2)) := (hby.setCell (by first | omega | (simp; done) | (simp; omega)) _).setCell (by first | omega | (simp; done) | (simp; omega)) _
  clear cc2
  go_wp2_with fail
  clear rL rR rLy rRy qL0 qL1 fL0 fL1 hby
  have rL := rL1
  have rR := rR1
  clear rL1 rR1
  generalize ((y2.val.setCell ⟨w.heap.size + 2, 4, none⟩ (.int .i64 n2.wd)).setCell ⟨w.heap.size + 2, 5, none⟩ (.int .i64 x2)) = W3 at *
  rw [rounds_succ]
  have u0 := cell_block (i := 0) rL
  have p0 := cell_block (i := 0) rR
  have f0 := free_block (i := 0) rR
  have u1 := cell_block (i := 1) rL
  have p1 := cell_block (i := 1) rR
  have f1 := free_block (i := 1) rR
  have u2 := cell_block (i := 2) rL
  have p2 := cell_block (i := 2) rR
  have f2 := free_block (i := 2) rR
  have u3 := cell_block (i := 3) rL
  have p3 := cell_block (i := 3) rR
  have f3 := free_block (i := 3) rR
  have u4 := cell_block (i := 4) rL
  have p4 := cell_block (i := 4) rR
  have f4 := free_block (i := 4) rR
  have u5 := cell_block (i := 5) rL
  have p5 := cell_block (i := 5) rR
  have f5 := free_block (i := 5) rR
  simp at u0 u1 u2 u3 u4 u5 p0 p1 p2 p3 p4 p5
  go_wp2
  refine bodyPost_ret (by simp [results, Tryz.results70, go_sem, p0, p1, p2, p3, p4, p5]; try rfl) rfl ?_
  exact ⟨rfl, Below.aft (by (repeat' (first | (with_reducible exact Below.refl _ _) | (with_reducible assumption) | (with_reducible refine Below.alloc ?_ ?_ _) | (with_reducible refine Below.drew ?_) | (with_reducible refine Aft.below _ ?_ ?_) | (with_reducible refine Below.setCell_new ?_ ?_ _ _) | (with_reducible exact Nat.le_refl _) | (with_reducible refine Aft.le _ ?_) | (with_reducible refine le_alloc ?_) | (with_reducible refine le_drew ?_) | (with_reducible refine le_setCell ?_) | omega)))⟩

end Go.Proofs.YtkdonapgonegkaaGreatDoor

set_option linter.unusedSimpArgs false
set_option linter.unusedVariables false
namespace Go.Proofs.YtkdonapgonegkaaGreatDoor
open Go.RowKit Go.BigFrame

/-- A row of numbers. -/
def rowA (xs : List Int) : Array Value := (xs.map (Value.int .i64)).toArray
theorem rowA_at (xs : List Int) (k : Nat) : (rowA xs)[k]? = (xs[k]?).map (Value.int .i64) := by simp [rowA]
theorem rowA_in {xs : List Int} {k : Nat} {x : Int} (h : xs[k]? = some x) : (rowA xs)[k]? = some (.int .i64 x) := by rw [rowA_at, h]; rfl
theorem rowA_set (xs : List Int) (k : Nat) (x : Int) : (rowA xs).setIfInBounds k (.int .i64 x) = rowA (xs.set k x) := by
  simp [rowA, List.setIfInBounds_toArray, List.map_set]
theorem row_block {w : World} {base g n m : Nat} {e : TypeId} {xs : List Value} (h : w.ownsRow base e 1 (.slice (some ⟨g, 0, none⟩) n m) n xs) (hm : m = n) : w.heap[g]? = some (.cells xs.toArray e) := by
  obtain ⟨h1, h2⟩ := h
  rcases h2 with ⟨h2, _⟩ | ⟨g', cap, cur, h2, _, h4, _, _, h7, h8⟩
  · cases h2
  · simp only [Value.slice.injEq, Option.some.injEq, Addr.mk.injEq] at h2
    obtain ⟨⟨rfl, -⟩, -, rfl⟩ := h2
    rw [h4]
    have : cur.toList = xs := by rw [← h8, List.take_of_length_le (by simp; omega)]
    rw [← this]
theorem row_made (n : Nat) : ((madeCells (Value.int .i64 0).cells (n * 1)).toList).toArray = rowA (List.replicate n 0) := by
  rw [show (Value.int .i64 0).cells = #[Value.int .i64 0] from rfl, Nat.mul_one, toList_madeCells_one]
  simp [rowA]

/-- The value of an argument. -/
def vAt (vs args : List Int) (i : Nat) : Int := match args[i]? with | none => 0 | some a => vs.getD a.toNat 0
theorem vAt_in {vs args : List Int} {k i : Nat} {x : Int} (ha : args[i]? = some (k : Int)) (hx : vs[k]? = some x) : vAt vs args i = x := by
  unfold vAt; rw [ha]; simp [List.getD, hx]
theorem vAt_out {vs args : List Int} {i : Nat} (ha : args.length ≤ i) : vAt vs args i = 0 := by
  unfold vAt; rw [List.getElem?_eq_none ha]
/-- The value of a node, by those of the nodes before it. -/
def valN (ns : List Nd) (ls vs : List Int) (n : Nd) : Int :=
  if n.op = 1 then ls.getD n.v.toNat 0 else resG n.op n.wd n.v (wAt ns n.args 0) (vAt vs n.args 0) (wAt ns n.args 1) (vAt vs n.args 1) (vAt vs n.args 2)
/-- The values of the first nodes. -/
def valsK (ns : List Nd) (ls : List Int) : Nat → List Int
  | 0 => []
  | k + 1 => valsK ns ls k ++ (match ns[k]? with | none => [] | some n => [valN ns ls (valsK ns ls k) n])
def valsL (ns : List Nd) (ls : List Int) : List Int := valsK ns ls ns.length
theorem valsK_step {ns : List Nd} {ls : List Int} {k : Nat} {n : Nd} (h : ns[k]? = some n) : valsK ns ls (k + 1) = valsK ns ls k ++ [valN ns ls (valsK ns ls k) n] := by
  simp only [valsK, h]
theorem valsK_len {ns : List Nd} {ls : List Int} : ∀ {k : Nat}, k ≤ ns.length → (valsK ns ls k).length = k := by
  intro k
  induction k with
  | zero => intro _; rfl
  | succ k ih =>
    intro h
    rw [valsK_step (List.getElem?_eq_getElem (by omega)), List.length_append, ih (by omega)]; rfl
theorem valsL_len (ns : List Nd) (ls : List Int) : (valsL ns ls).length = ns.length := valsK_len (Nat.le_refl _)
/-- What is known of a node without an error. -/
structure NodeOK (ns : List Nd) (L : Nat) (k : Nat) (n : Nd) : Prop where
  o0 : 0 ≤ n.op
  o1 : n.op ≤ 18
  w1 : 1 ≤ n.wd
  w2 : n.wd ≤ 16
  al : n.args.length ≤ 3
  ai : ∀ (i : Nat) (a : Int), n.args[i]? = some a → 0 ≤ a ∧ a < k
  a11 : n.op = 11 → n.args.length = 2
  a16 : n.op = 16 → n.args.length = 1
  lf : n.op = 1 → 0 ≤ n.v ∧ n.v < L
  sl : n.op = 14 → 0 ≤ n.v ∧ n.v ≤ 16
theorem NodeOK.arg {ns : List Nd} {L k : Nat} {n : Nd} (h : NodeOK ns L k n) (hk : k < ns.length) {i : Nat} (hi : i < n.args.length) : ∃ (j : Nat) (m : Nd), n.args[i]? = some (j : Int) ∧ j < k ∧ ns[j]? = some m := by
  have h1 := List.getElem?_eq_getElem hi
  obtain ⟨a0, a1⟩ := h.ai i _ h1
  obtain ⟨j, hj⟩ := Int.eq_ofNat_of_zero_le a0
  rw [hj] at h1 a1
  exact ⟨j, _, h1, by omega, List.getElem?_eq_getElem (by omega)⟩
theorem wAt_ok {ns : List Nd} {L k : Nat} {n : Nd} (hall : ∀ k n, ns[k]? = some n → NodeOK ns L k n) (hn : ns[k]? = some n) (i : Nat) : 0 ≤ wAt ns n.args i ∧ wAt ns n.args i ≤ 16 ∧ (i < n.args.length → 1 ≤ wAt ns n.args i) := by
  by_cases hi : i < n.args.length
  · obtain ⟨j, m, h1, _, h3⟩ := (hall k n hn).arg (List.getElem?_eq_some_iff.1 hn).1 hi
    rw [wAt_in h1 h3]
    have := (hall j m h3).w1; have := (hall j m h3).w2
    omega
  · rw [wAt_out (by omega)]; omega
theorem valsK_bd {ns : List Nd} {ls : List Int} (hls : ∀ x ∈ ls, 0 ≤ x ∧ x ≤ 65536) (hw : ∀ n ∈ ns, 1 ≤ n.wd ∧ n.wd ≤ 16) : ∀ (k : Nat) x, x ∈ valsK ns ls k → 0 ≤ x ∧ x ≤ 65536 := by
  intro k
  induction k with
  | zero => intro x hx; simp [valsK] at hx
  | succ k ih =>
    intro x hx
    simp only [valsK, List.mem_append] at hx
    rcases hx with hx | hx
    · exact ih x hx
    · cases hn : ns[k]? with
      | none => rw [hn] at hx; simp at hx
      | some n =>
        rw [hn] at hx
        have hx := List.mem_singleton.1 hx
        subst hx
        have hwn := hw n (List.mem_of_getElem? hn)
        unfold valN
        split
        · by_cases hv : n.v.toNat < ls.length
          · simp only [List.getD, List.getElem?_eq_getElem hv, Option.getD_some]
            exact hls _ (List.getElem_mem hv)
          · simp only [List.getD, List.getElem?_eq_none (Nat.le_of_not_lt (by assumption)), Option.getD_none]; omega
        · have hp := pw_bd (n := n.wd) (by omega) hwn.2
          have := resG_bd (op := n.op) (wd := n.wd) (v := n.v) (aw := wAt ns n.args 0) (av := vAt (valsK ns ls k) n.args 0) (bw := wAt ns n.args 1) (bv := vAt (valsK ns ls k) n.args 1) (cv := vAt (valsK ns ls k) n.args 2)
          omega
theorem vAt_bd {vs args : List Int} (hv : ∀ x ∈ vs, 0 ≤ x ∧ x ≤ 65536) (i : Nat) : 0 ≤ vAt vs args i ∧ vAt vs args i ≤ 65536 := by
  unfold vAt
  split
  · omega
  · rename_i a h
    by_cases ha : a.toNat < vs.length
    · simp only [List.getD, List.getElem?_eq_getElem ha, Option.getD_some]; exact hv _ (List.getElem_mem ha)
    · simp only [List.getD, List.getElem?_eq_none (Nat.le_of_not_lt (by assumption)), Option.getD_none]; omega
theorem fit3 {ns : List Nd} {L k : Nat} {n : Nd} {vs : List Int} (hall : ∀ k n, ns[k]? = some n → NodeOK ns L k n) (hn : ns[k]? = some n) (hv : ∀ x ∈ vs, 0 ≤ x ∧ x ≤ 65536) :
    Fit3 n.op n.wd n.v (wAt ns n.args 0) (vAt vs n.args 0) (wAt ns n.args 1) (vAt vs n.args 1) := by
  have h := hall k n hn
  have w0 := wAt_ok hall hn 0
  have w1 := wAt_ok hall hn 1
  refine ⟨h.o0, h.o1, h.w1, h.w2, (vAt_bd hv 0).1, (vAt_bd hv 0).2, (vAt_bd hv 1).1, (vAt_bd hv 1).2, ?_, w0.2.1, w1.1, ?_, w1.2.1, h.sl⟩
  · rintro (e | e)
    · exact w0.2.2 (by rw [h.a11 e]; decide)
    · exact w0.2.2 (by rw [h.a16 e]; decide)
  · intro e
    exact w1.2.2 (by rw [h.a11 e]; decide)

theorem bargs_c (n : Nd) (k L : Nat) (B : Option Addr) (bc : Nat) (P Q gv vl vc : Nat) (A : Option Addr) (cap : Nat) (ns : List Nd) (vs : List Int) (hl : ns.length ≤ 65536) (hvl : vl ≤ 65536) (w : World) (lP : P < w.heap.size) (lQ : Q < w.heap.size) (lg : gv < w.heap.size)
    (hall : ∀ k n, ns[k]? = some n → NodeOK ns L k n) (hn : ns[k]? = some n) (hk : k ≤ vl) (hvs : ∀ j, j < k → ∃ x, vs[j]? = some x ∧ w.cell? ⟨gv, j, none⟩ = some (.int .i64 x))
    (c0 : w.cell? ⟨P, 0, none⟩ = some (.slice A ns.length cap)) (c1 : w.cell? ⟨Q, 0, none⟩ = some (.slice (some ⟨gv, 0, none⟩) vl vc)) (h : LiesN w A ns) (hB : LiesI w B n.args) :
    Calls Tryz.prog 70 #[.agg #[.int .i64 n.op, .int .i64 n.wd, .slice B n.args.length bc, .int .i64 n.v], .func (.func 96) #[] #[.pointer (some ⟨P, 0, none⟩), .pointer (some ⟨Q, 0, none⟩)]] w fun e w' => e = .returned (.agg #[.int .i64 (wAt ns n.args 0), .int .i64 (vAt vs n.args 0), .int .i64 (wAt ns n.args 1), .int .i64 (vAt vs n.args 1), .int .i64 (wAt ns n.args 2), .int .i64 (vAt vs n.args 2)]) ∧ ∃ x : Aft w, w' = x.val := by
  have ok := hall k n hn
  have hkn := (List.getElem?_eq_some_iff.1 hn).1
  have al := ok.al
  have harg : ∀ i, i < n.args.length → ∃ (j : Nat) (m : Nd) (x : Int), n.args[i]? = some (j : Int) ∧ ns[j]? = some m ∧ j < vl ∧ vs[j]? = some x ∧ w.cell? ⟨gv, j, none⟩ = some (.int .i64 x) := by
    intro i hi
    obtain ⟨j, m, h1, h2, h3⟩ := ok.arg hkn hi
    obtain ⟨x, h4, h5⟩ := hvs j h2
    exact ⟨j, m, x, h1, h3, by omega, h4, h5⟩
  clear hvs ok
  obtain ⟨op, wd, args, v⟩ := n
  simp only at *
  match args, al with
  | [], _ =>
    rw [wAt_out (i := 0) (by simp), wAt_out (i := 1) (by simp), wAt_out (i := 2) (by simp), vAt_out (i := 0) (by simp), vAt_out (i := 1) (by simp), vAt_out (i := 2) (by simp)]
    exact bargs0 op wd v B bc P Q gv vl vc A cap ns hl hvl w lP lQ lg c0 c1 h hB
  | [a0], _ =>
    obtain ⟨j0, m0, x0, p0, q0, r0, s0, t0⟩ := harg 0 (by simp)
    rw [wAt_in p0 q0, vAt_in p0 s0]
    obtain rfl : a0 = (j0 : Int) := by simpa using p0
    rw [wAt_out (i := 1) (by simp), vAt_out (i := 1) (by simp), wAt_out (i := 2) (by simp), vAt_out (i := 2) (by simp)]
    exact bargs1 op wd v B bc P Q gv vl vc A cap ns hl hvl w lP lQ lg j0 m0 x0 q0 r0 t0 c0 c1 h hB
  | [a0, a1], _ =>
    obtain ⟨j0, m0, x0, p0, q0, r0, s0, t0⟩ := harg 0 (by simp)
    rw [wAt_in p0 q0, vAt_in p0 s0]
    obtain rfl : a0 = (j0 : Int) := by simpa using p0
    obtain ⟨j1, m1, x1, p1, q1, r1, s1, t1⟩ := harg 1 (by simp)
    rw [wAt_in p1 q1, vAt_in p1 s1]
    obtain rfl : a1 = (j1 : Int) := by simpa using p1
    rw [wAt_out (i := 2) (by simp), vAt_out (i := 2) (by simp)]
    exact bargs2 op wd v B bc P Q gv vl vc A cap ns hl hvl w lP lQ lg j0 m0 x0 q0 r0 t0 j1 m1 x1 q1 r1 t1 c0 c1 h hB
  | [a0, a1, a2], _ =>
    obtain ⟨j0, m0, x0, p0, q0, r0, s0, t0⟩ := harg 0 (by simp)
    rw [wAt_in p0 q0, vAt_in p0 s0]
    obtain rfl : a0 = (j0 : Int) := by simpa using p0
    obtain ⟨j1, m1, x1, p1, q1, r1, s1, t1⟩ := harg 1 (by simp)
    rw [wAt_in p1 q1, vAt_in p1 s1]
    obtain rfl : a1 = (j1 : Int) := by simpa using p1
    obtain ⟨j2, m2, x2, p2, q2, r2, s2, t2⟩ := harg 2 (by simp)
    rw [wAt_in p2 q2, vAt_in p2 s2]
    obtain rfl : a2 = (j2 : Int) := by simpa using p2
    exact bargs3 op wd v B bc P Q gv vl vc A cap ns hl hvl w lP lQ lg j0 m0 x0 q0 r0 t0 j1 m1 x1 q1 r1 t1 j2 m2 x2 q2 r2 t2 c0 c1 h hB

end Go.Proofs.YtkdonapgonegkaaGreatDoor

set_option linter.unusedSimpArgs false
set_option linter.unusedVariables false
namespace Go.Proofs.YtkdonapgonegkaaGreatDoor
open Go.RowKit Go.BigFrame

theorem row_next {vs : List Int} {n k : Nat} {x : Int} (hv : vs.length = k) (hk : k < n) : (vs ++ List.replicate (n - k) 0).set k x = (vs ++ [x]) ++ List.replicate (n - (k + 1)) 0 := by
  rw [List.set_append_right _ _ (by omega), hv, Nat.sub_self, show n - k = (n - (k + 1)) + 1 by omega, List.replicate_succ, List.set_cons_zero, List.append_assoc]
  rfl
theorem row_here {vs : List Int} {n k : Nat} (hv : vs.length = k) (hk : k < n) : (vs ++ List.replicate (n - k) (0 : Int))[k]? = some 0 := by
  rw [List.getElem?_append_right (by omega), hv, Nat.sub_self, show n - k = (n - (k + 1)) + 1 by omega, List.replicate_succ]
  rfl
theorem row_before {vs : List Int} {m k : Nat} (h : k < vs.length) : ∃ x, vs[k]? = some x ∧ (vs ++ List.replicate m (0 : Int))[k]? = some x :=
  ⟨vs[k], List.getElem?_eq_getElem h, by rw [List.getElem?_append_left h]; exact List.getElem?_eq_getElem h⟩
theorem CopiedI.mk' {w w' : World} {g : Nat} {T : TypeId} {n : Nat} {xs : List Int} (hn : xs.length = n) (h : w'.heap[g]? = some (.cells (rowA xs) T)) (hb : Below w.heap.size w w') : CopiedI w xs (.returned (.slice (some ⟨g, 0, none⟩) n n)) w' :=
  ⟨_, n, by rw [hn], LiesI.block h, hb⟩

set_option maxRecDepth 100000 in
set_option maxHeartbeats 1600000 in
theorem valuesOf_c (N : Option Addr) (capN : Nat) (ns : List Nd) (hns : ns.length ≤ 65536) (A : Option Addr) (cap : Nat) (ls : List Int) (hls : ls.length ≤ 65536) (hlv : ∀ x ∈ ls, 0 ≤ x ∧ x ≤ 65536)
    (hall : ∀ k n, ns[k]? = some n → NodeOK ns ls.length k n) (w : World) (hN : LiesN w N ns) (hA : LiesI w A ls) :
    Calls Tryz.prog 56 #[.slice N ns.length capN, .slice A ls.length cap] w (CopiedI w (valsL ns ls)) := by
  obtain ⟨i0, hi, hz0, hz1, hz2⟩ := info_parts int_info
  have HN := Lib.hid hN
  have HA := Lib.hid hA
  have HALL := Lib.hid hall
  have HLV := Lib.hid hlv
  clear hN hA hall hlv
  go_enter Tryz.func56, Tryz.ntmps56
  go_wp2_with (refine wpList_make_full _ rfl _ _ 22 rfl w.heap.size 3 i0 _ 1 Tryz.underlying22 hi hz0 hz1 .i64 .i64 _ _ ns.length rfl rfl rfl rfl (by rw [hz2]; omega) (by unfold maxLen; omega) (by simp) ?_; intro W1 hown hgr; have hb2 := (Below.refl (w.alloc (.cells #[.slice N ns.length capN] 23)).heap.size (w.alloc (.cells #[.slice N ns.length capN] 23))).grown hgr (Nat.le_refl _) (fun q hq => by cases hq); have rP := (hb2.block w.heap.size (by simp)).trans (heap_alloc_new w (.cells #[.slice N ns.length capN] 23)); have qP := cell_block (i := 0) rP; simp at qP; have rg : W1.heap[w.heap.size + 1]? = some (.cells (rowA (List.replicate ns.length 0)) 3) := (by have := row_block hown rfl; rw [row_made] at this; simpa using this); have lg := lt_of_get rg; have lP := lt_of_get rP; have hb1 : Below w.heap.size w W1 := ((Below.refl _ _).alloc (Nat.le_refl _) _).trans (hb2.mono (by simp)); clear hown hgr hb2)
  have rQ2 : (W1.alloc (.cells #[.slice (some ⟨w.heap.size + 1, 0, none⟩) ns.length ns.length] 22)).heap[W1.heap.size]? = some (.cells #[.slice (some ⟨w.heap.size + 1, 0, none⟩) ns.length ns.length] 22) := heap_alloc_new _ _
  have rP2 := heap_alloc' (o := .cells #[.slice (some ⟨w.heap.size + 1, 0, none⟩) ns.length ns.length] 22) lP rP
  have rg2 := heap_alloc' (o := .cells #[.slice (some ⟨w.heap.size + 1, 0, none⟩) ns.length ns.length] 22) lg rg
  have hb2 := hb1.alloc (by omega) (.cells #[.slice (some ⟨w.heap.size + 1, 0, none⟩) ns.length ns.length] 22)
  generalize W1.alloc (.cells #[.slice (some ⟨w.heap.size + 1, 0, none⟩) ns.length ns.length] 22) = W2 at *
  clear rP qP rg hb1
  generalize W1.heap.size = q at *
  go_loopw [13] (fun v13 wr => ∃ k : Nat, k ≤ ns.length ∧ v13 = .int .i64 k ∧ wr.heap[w.heap.size]? = some (.cells #[.slice N ns.length capN] 23) ∧ wr.heap[w.heap.size + 1]? = some (.cells (rowA (valsK ns ls k ++ List.replicate (ns.length - k) 0)) 3) ∧ wr.heap[q]? = some (.cells #[.slice (some ⟨w.heap.size + 1, 0, none⟩) ns.length ns.length] 22) ∧ Below w.heap.size w wr) (fun v13 _ => ns.length - (intOf v13).toNat)
  case atStart => exact ⟨0, by omega, rfl, rP2, rg2, rQ2, hb2⟩
  case round =>
    clear rP2 rg2 rQ2 hb2
    obtain ⟨k, hk, rfl, rP, rg, rQ, hb⟩ := hrel
    have qP := cell_block (i := 0) rP
    have qQ := cell_block (i := 0) rQ
    simp at qP qQ
    have lP1 := lt_of_get rP
    have lg1 := lt_of_get rg
    have lQ1 := lt_of_get rQ
    have HVL := Lib.hid (valsK_len (ns := ns) (ls := ls) hk)
    by_cases hlt : k < ns.length
    · have hkk : (k : Int) < ns.length := by omega
      have HX := Lib.hid (List.getElem?_eq_getElem hlt)
      generalize ns[k] = x at *
      have HS := Lib.hid (valsK_step (ls := ls) HX.out)
      obtain ⟨ad, rfl, hbl, c0, c1, c3, B, bc, c2, hB⟩ := HN.out.cells HX.out
      have hbk : ∀ p : Addr, p.block = ad.block → wr.cell? p = w.cell? p := fun p hp => hb.cell (p := p) (by rw [hp]; exact hbl)
      have a0 := (hbk (ad.add (k * 4)) (by rw [addB])).trans c0
      have a1 : wr.cell? ⟨(ad.add (k * 4)).block, (ad.add (k * 4)).off + 1, none⟩ = some (.int .i64 x.wd) := (hbk ((ad.add (k * 4)).add 1) (by rw [addB, addB])).trans c1
      have a2 : wr.cell? ⟨(ad.add (k * 4)).block, (ad.add (k * 4)).off + 2, none⟩ = some (.slice B x.args.length bc) := (hbk ((ad.add (k * 4)).add 2) (by rw [addB, addB])).trans c2
      have a3 : wr.cell? ⟨(ad.add (k * 4)).block, (ad.add (k * 4)).off + 3, none⟩ = some (.int .i64 x.v) := (hbk ((ad.add (k * 4)).add 3) (by rw [addB, addB])).trans c3
      have HBL := Lib.hid hB
      clear c0 c1 c2 c3 hbk hB
      have HOK := Lib.hid (HALL.out k x HX.out)
      obtain ⟨op, wd, args, v⟩ := x
      simp only at a0 a1 a2 a3 HBL
      by_cases ho : op = 1
      · subst ho
        have HV := Lib.hid (show valN ns ls (valsK ns ls k) ⟨1, wd, args, v⟩ = ls.getD v.toNat 0 from if_pos rfl)
        obtain ⟨v0, v1⟩ := HOK.out.lf rfl
        simp only at v0 v1
        obtain ⟨j, rfl⟩ := Int.eq_ofNat_of_zero_le v0
        have hj : j < ls.length := by omega
        have HY := Lib.hid (List.getElem?_eq_getElem hj)
        have HG := Lib.hid (show ls.getD ((j : Nat) : Int).toNat 0 = ls[j] by simp [hj])
        generalize ls[j] = u at *
        obtain ⟨aa, rfl, hal, e0⟩ := HA.out.cell HY.out
        go_wp2_with fail
        have rn3 : (wr.alloc (.cells #[.int .i64 1, .int .i64 wd, .slice B args.length bc, .int .i64 ((j : Nat) : Int)] 61)).heap[wr.heap.size]? = some (.cells #[.int .i64 1, .int .i64 wd, .slice B args.length bc, .int .i64 ((j : Nat) : Int)] 61) := heap_alloc_new _ _
        have rP3 := heap_alloc' (o := .cells #[.int .i64 1, .int .i64 wd, .slice B args.length bc, .int .i64 ((j : Nat) : Int)] 61) lP1 rP
        have rg3 := heap_alloc' (o := .cells #[.int .i64 1, .int .i64 wd, .slice B args.length bc, .int .i64 ((j : Nat) : Int)] 61) lg1 rg
        have rQ3 := heap_alloc' (o := .cells #[.int .i64 1, .int .i64 wd, .slice B args.length bc, .int .i64 ((j : Nat) : Int)] 61) lQ1 rQ
        have hb3 := hb.alloc hb.size (.cells #[.int .i64 1, .int .i64 wd, .slice B args.length bc, .int .i64 ((j : Nat) : Int)] 61)
        generalize wr.alloc (.cells #[.int .i64 1, .int .i64 wd, .slice B args.length bc, .int .i64 ((j : Nat) : Int)] 61) = W3 at *
        have s0 := cell_block (i := 0) rn3
        have s1 := cell_block (i := 1) rn3
        have s2 := cell_block (i := 2) rn3
        have s3 := cell_block (i := 3) rn3
        have qQ3 := cell_block (i := 0) rQ3
        simp at s0 s1 s2 s3 qQ3
        have ln3 := lt_of_get rn3
        have lQ3 := lt_of_get rQ3
        clear a0 a1 a2 a3 qP qQ rP rg rQ hb
        generalize wr.heap.size = nn at *
        have ex : ∀ z : Aft W3, z.val.cell? (aa.add j) = some (.int .i64 u) := fun z => ((z.below hb3 hb3.size).cell (p := aa.add j) (by rw [addB]; exact hal)).trans e0
        clear e0
        refine wp_region_aft_tail 8 (by kernel_rfl) (by kernel_rfl) ?_
        simp only [List.take_succ_cons, List.take_zero, List.drop_succ_cons, List.drop_zero]
        repeat (go_big_quiet_step (fail))
        refine wpQuiet_nil ?_
        intro y
        have rgy := heap_aft y (lt_of_get rg3) rg3
        have rPy := heap_aft y (lt_of_get rP3) rP3
        have rQy := heap_aft y (lt_of_get rQ3) rQ3
        have hby := y.below hb3 hb3.size
        have qk := (cell_block (i := k) rgy).trans (rowA_in (row_here HVL.out hlt))
        have fk := free_block (i := k) rgy
        have HFIN := Lib.hid (show (y.val.setCell ⟨w.heap.size + 1, k, none⟩ (.int .i64 u)).heap[w.heap.size]? = some (.cells #[.slice (some ad) ns.length capN] 23) ∧ (y.val.setCell ⟨w.heap.size + 1, k, none⟩ (.int .i64 u)).heap[w.heap.size + 1]? = some (.cells (rowA (valsK ns ls (k + 1) ++ List.replicate (ns.length - (k + 1)) 0)) 3) ∧ (y.val.setCell ⟨w.heap.size + 1, k, none⟩ (.int .i64 u)).heap[q]? = some (.cells #[.slice (some ⟨w.heap.size + 1, 0, none⟩) ns.length ns.length] 22) ∧ Below w.heap.size w (y.val.setCell ⟨w.heap.size + 1, k, none⟩ (.int .i64 u)) from
          ⟨heap_set_ne rPy (by omega), by rw [heap_set rgy, rowA_set, row_next HVL.out hlt, HS.out, HV.out, HG.out], heap_set_ne rQy (by omega), hby.setCell (by simp) _⟩)
        generalize y.val = W4 at *
        clear rgy rPy rQy hby rn3 rP3 rg3 rQ3 hb3 s0 s1 s2 s3 qQ3
        go_wp2
        go_roundw
        case rel => exact ⟨k + 1, by omega, by go_num, HFIN.out.1, HFIN.out.2.1, HFIN.out.2.2.1, HFIN.out.2.2.2⟩
        case measure => simp [intOf]; omega
      · have HV := Lib.hid (show valN ns ls (valsK ns ls k) ⟨op, wd, args, v⟩ = resG op wd v (wAt ns args 0) (vAt (valsK ns ls k) args 0) (wAt ns args 1) (vAt (valsK ns ls k) args 1) (vAt (valsK ns ls k) args 2) from if_neg ho)
        have ho1 : (op == 1) = false := by simpa using ho
        go_wp2_with fail
        have rn3 : (wr.alloc (.cells #[.int .i64 op, .int .i64 wd, .slice B args.length bc, .int .i64 v] 61)).heap[wr.heap.size]? = some (.cells #[.int .i64 op, .int .i64 wd, .slice B args.length bc, .int .i64 v] 61) := heap_alloc_new _ _
        have rP3 := heap_alloc' (o := .cells #[.int .i64 op, .int .i64 wd, .slice B args.length bc, .int .i64 v] 61) lP1 rP
        have rg3 := heap_alloc' (o := .cells #[.int .i64 op, .int .i64 wd, .slice B args.length bc, .int .i64 v] 61) lg1 rg
        have rQ3 := heap_alloc' (o := .cells #[.int .i64 op, .int .i64 wd, .slice B args.length bc, .int .i64 v] 61) lQ1 rQ
        have hb3 := hb.alloc hb.size (.cells #[.int .i64 op, .int .i64 wd, .slice B args.length bc, .int .i64 v] 61)
        generalize wr.alloc (.cells #[.int .i64 op, .int .i64 wd, .slice B args.length bc, .int .i64 v] 61) = W3 at *
        have s0 := cell_block (i := 0) rn3
        have s1 := cell_block (i := 1) rn3
        have s2 := cell_block (i := 2) rn3
        have s3 := cell_block (i := 3) rn3
        have qQ3 := cell_block (i := 0) rQ3
        simp at s0 s1 s2 s3 qQ3
        have ln3 := lt_of_get rn3
        have lQ3 := lt_of_get rQ3
        clear a0 a1 a2 a3 qP qQ rP rg rQ hb
        generalize wr.heap.size = nn at *
        have HBA : Hid (∀ z : Aft W3, Calls Tryz.prog 70 #[.agg #[.int .i64 op, .int .i64 wd, .slice B args.length bc, .int .i64 v], .func (.func 96) #[] #[.pointer (some ⟨w.heap.size, 0, none⟩), .pointer (some ⟨q, 0, none⟩)]] z.val fun e w' => e = .returned (.agg #[.int .i64 (wAt ns args 0), .int .i64 (vAt (valsK ns ls k) args 0), .int .i64 (wAt ns args 1), .int .i64 (vAt (valsK ns ls k) args 1), .int .i64 (wAt ns args 2), .int .i64 (vAt (valsK ns ls k) args 2)]) ∧ ∃ x : Aft z.val, w' = x.val) :=
          Lib.hid (fun z => bargs_c ⟨op, wd, args, v⟩ k ls.length B bc w.heap.size q (w.heap.size + 1) ns.length ns.length (some ad) capN ns (valsK ns ls k) hns hns z.val (z.lt' (lt_of_get rP3)) (z.lt' (lt_of_get rQ3)) (z.lt' (lt_of_get rg3)) HALL.out HX.out hk (fun j hj => by
            obtain ⟨u, h1, h2⟩ := row_before (m := ns.length - k) (vs := valsK ns ls k) (k := j) (by rw [HVL.out]; exact hj)
            exact ⟨u, h1, (cell_block (heap_aft z (lt_of_get rg3) rg3)).trans (rowA_in h2)⟩)
            (by have := cell_block (i := 0) (heap_aft z (lt_of_get rP3) rP3); simpa using this) (by have := cell_block (i := 0) (heap_aft z (lt_of_get rQ3) rQ3); simpa using this) (HN.out.below (z.below hb3 hb3.size)) (HBL.out.below (z.below hb3 hb3.size)))
        have HF := Lib.hid (fit3 HALL.out HX.out (valsK_bd HLV.out (fun n hn => by obtain ⟨i, hi, rfl⟩ := List.mem_iff_getElem.1 hn; exact ⟨(HALL.out i _ (List.getElem?_eq_getElem hi)).w1, (HALL.out i _ (List.getElem?_eq_getElem hi)).w2⟩) k))
        simp only at HF
        generalize wAt ns args 0 = aw at *
        generalize wAt ns args 1 = bw at *
        generalize wAt ns args 2 = cw at *
        generalize vAt (valsK ns ls k) args 0 = av at *
        generalize vAt (valsK ns ls k) args 1 = bv at *
        generalize vAt (valsK ns ls k) args 2 = cv at *
        refine wp_region_aft_tail 8 (by kernel_rfl) (by kernel_rfl) ?_
        simp only [List.take_succ_cons, List.take_zero, List.drop_succ_cons, List.drop_zero]
        repeat (go_big_quiet_step (first | (go_at_call 70; exact Calls.qa (HBA.out _)) | (go_at_call 69; exact Calls.qa (resultOf_c op wd v aw av bw bv cw cv HF.out B _ bc _))))
        refine wpQuiet_nil ?_
        intro y
        have rgy := heap_aft y (lt_of_get rg3) rg3
        have rPy := heap_aft y (lt_of_get rP3) rP3
        have rQy := heap_aft y (lt_of_get rQ3) rQ3
        have hby := y.below hb3 hb3.size
        have qk := (cell_block (i := k) rgy).trans (rowA_in (row_here HVL.out hlt))
        have fk := free_block (i := k) rgy
        have HFIN := Lib.hid (show (y.val.setCell ⟨w.heap.size + 1, k, none⟩ (.int .i64 (resG op wd v aw av bw bv cv))).heap[w.heap.size]? = some (.cells #[.slice (some ad) ns.length capN] 23) ∧ (y.val.setCell ⟨w.heap.size + 1, k, none⟩ (.int .i64 (resG op wd v aw av bw bv cv))).heap[w.heap.size + 1]? = some (.cells (rowA (valsK ns ls (k + 1) ++ List.replicate (ns.length - (k + 1)) 0)) 3) ∧ (y.val.setCell ⟨w.heap.size + 1, k, none⟩ (.int .i64 (resG op wd v aw av bw bv cv))).heap[q]? = some (.cells #[.slice (some ⟨w.heap.size + 1, 0, none⟩) ns.length ns.length] 22) ∧ Below w.heap.size w (y.val.setCell ⟨w.heap.size + 1, k, none⟩ (.int .i64 (resG op wd v aw av bw bv cv))) from
          ⟨heap_set_ne rPy (by omega), by rw [heap_set rgy, rowA_set, row_next HVL.out hlt, HS.out, HV.out], heap_set_ne rQy (by omega), hby.setCell (by simp) _⟩)
        generalize y.val = W4 at *
        clear rgy rPy rQy hby rn3 rP3 rg3 rQ3 hb3 s0 s1 s2 s3 qQ3
        go_wp2
        go_roundw
        case rel => exact ⟨k + 1, by omega, by go_num, HFIN.out.1, HFIN.out.2.1, HFIN.out.2.2.1, HFIN.out.2.2.2⟩
        case measure => simp [intOf]; omega
    · obtain rfl : k = ns.length := by omega
      have HF := Lib.hid (show CopiedI w (valsL ns ls) (.returned (.slice (some ⟨w.heap.size + 1, 0, none⟩) ns.length ns.length)) wr from CopiedI.mk' (valsL_len ns ls) (by rw [Nat.sub_self, List.replicate_zero, List.append_nil] at rg; exact rg) hb)
      go_wp2
      go_ret
      exact HF.out

end Go.Proofs.YtkdonapgonegkaaGreatDoor
