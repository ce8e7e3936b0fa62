/-
  Contracts of the functions of chapter 1 (sixteenth part: the references of Gray codes).
-/
import Derived.Test.YtlplphigjejahaaBu
set_option linter.unusedSimpArgs false
set_option linter.unusedVariables false
namespace Go.Proofs.Ytlplphigjejahaa
open Go.RowKit Go.BigFrame

theorem Bit_c (b : Bool) (w : World) : Calls Try.prog 55 #[.bool b] w fun e w' => e = .returned (.int .i64 (fl b)) ∧ w = w' := by
  cases b
  all_goals
    go_enter Try.func55, Try.ntmps55
    go_wp2
    go_ret
    exact ⟨rfl, rfl⟩
theorem low_bvals {n : Nat} {v : Int} : lowL v n ++ [.int .i64 0] = bvals (bitI n v) (n + 1) := by
  rw [bvals_succ, bitI_out (by omega)]
  congr 1
  unfold lowL bvals
  refine List.map_congr_left fun i hi => ?_
  have := List.mem_range.1 hi
  rw [bitI_in (by omega) (by omega), Int.toNat_natCast]
theorem below_grown {w w1 w2 : World} {B : Nat} {v : Value} (h : Below B w w1) (hg : w1.grownBy w2 v.ownBlock) (hb : B ≤ w1.heap.size) (hv : ∀ q, v.ownBlock = some q → B ≤ q) : Below B w w2 := h.grown hg hb hv


set_option maxRecDepth 20000 in
set_option maxHeartbeats 1600000 in
theorem Gray_c (n : Nat) (v : Int) (w : World) (h1 : 1 ≤ n) (h2 : n ≤ 16) (h3 : 0 ≤ v) (h4 : v ≤ 65535) :
    Calls Try.prog 51 #[.agg #[.int .i64 n, .int .i64 v]] w fun e w' => e = .returned (.agg #[.int .i64 n, .int .i64 (bw (fun i => gB n v i) n)]) ∧ ∃ x : Aft w, w' = x.val := by
  obtain ⟨i0, hi, hz0, hz1, hz2⟩ := info_parts int_info
  go_enter Try.func51, Try.ntmps51
  go_wp2_with fail
  refine (low_c v n h3 h4 (by omega) _).mono ?_
  rintro e W1 ⟨Lv, rfl, hownL, hbL⟩
  have hs1 : w.heap.size + 1 < W1.heap.size := by have := hbL.size; simp at this; omega
  have e0 : W1.cell? ⟨w.heap.size, 0, none⟩ = some (.int .i64 n) := by rw [hbL.cell (p := ⟨w.heap.size, 0, none⟩) (by simp; omega)]; simp [go_sem]
  have e2 : W1.heap[w.heap.size + 1]? = some (.cells #[.int .i64 0, .int .i64 0] 23) := by rw [hbL.block _ (by simp)]; (repeat' (first | (with_reducible assumption) | omega | (simp only [World.size_alloc, World.size_drew, World.size_setCell]; omega) | (refine heap_alloc_at ?_; (first | rfl | (simp; done))) | (with_reducible refine heap_aft _ ?_ ?_) | (with_reducible refine heap_alloc' ?_ ?_) | (with_reducible refine heap_drew ?_)))
  have hbw : Below w.heap.size w W1 := ((((Below.refl _ _).alloc (Nat.le_refl _) _).alloc (by simp) _).trans (hbL.mono (by simp; omega)))
  go_wp2_with (at_builtin; refine wpList_append_own _ rfl _ _ 58 rfl _ 3 i0 (.int .i64 0) 1 8 Try.underlying58 hi hz0 hz1 hz2 rfl (by decide) _ _ _ rfl (hownL.alloc _) ⟨_, 0, none⟩ 1 1 [.int .i64 _] rfl rfl (cell_one_new _ _ _) (fun x hx => by simp at hx; subst hx; rfl) (by unfold maxLen; omega) (by omega) (by first | omega | (simp; omega) | (simp at *; omega)) ?_; intro v1 W2 hownL' hgL hnnL)
  have hbL2 := (hbL.alloc hbL.size (.cells #[.int .i64 0] 3)).grown hgL (by simp; have := hbL.size; simp at this; omega) (fun q hq => (hownL.lt q hq).1)
  rw [low_bvals] at hownL'
  have k0 : W2.cell? ⟨w.heap.size, 0, none⟩ = some (.int .i64 n) := by rw [hbL2.cell (p := ⟨w.heap.size, 0, none⟩) (by simp; omega)]; simp [go_sem]
  have k2 : W2.heap[w.heap.size + 1]? = some (.cells #[.int .i64 0, .int .i64 0] 23) := by rw [hbL2.block _ (by simp)]; (repeat' (first | (with_reducible assumption) | omega | (simp only [World.size_alloc, World.size_drew, World.size_setCell]; omega) | (refine heap_alloc_at ?_; (first | rfl | (simp; done))) | (with_reducible refine heap_aft _ ?_ ?_) | (with_reducible refine heap_alloc' ?_ ?_) | (with_reducible refine heap_drew ?_)))
  have ks : w.heap.size + 1 < W2.heap.size := by have := hbL2.size; simp at this; omega
  have kb : Below w.heap.size w W2 := ((((Below.refl _ _).alloc (Nat.le_refl _) _).alloc (by simp) _).trans (hbL2.mono (by simp; omega)))
  obtain ⟨gl, cap, rfl, hg1, hg2⟩ := hownL'.form (by omega)
  have hcl := own_cells hownL'
  have hgl : gl < W2.heap.size := by simpa using hg2
  clear hownL hbL hownL' hbL2 hgL hg1 hg2 e0 e2 hbw hs1 hnnL
  go_wp2
  go_loopw [4, 5] (fun v4 v5 wr => ∃ j : Nat, j ≤ n ∧ v5 = .int .i64 j ∧ wr.ownsRow W2.heap.size 3 1 v4 j (bvals (gB n v) j) ∧ Below W2.heap.size W2 wr) (fun _ v5 _ => n - (intOf v5).toNat)
  case atStart => exact ⟨0, by omega, rfl, World.ownsRow_nil _ _ _ _, Below.refl _ _⟩
  case round =>
    obtain ⟨j, hj, rfl, hown, hb⟩ := hrel
    have hbs := hb.size
    have c0 : wr.cell? ⟨w.heap.size, 0, none⟩ = some (.int .i64 n) := by rw [hb.cell (p := ⟨w.heap.size, 0, none⟩) (by simp; omega)]; exact k0
    have hl := Lib.hid (bvals_succ (gB n v) j)
    have lw : w.heap.size < wr.heap.size := by omega
    have lgl : gl < wr.heap.size := by omega
    by_cases hlt : j < n
    · have cl0 : wr.cell? ⟨gl, j, none⟩ = some (.int .i64 (bitI n v j)) := by rw [hb.cell (p := ⟨gl, j, none⟩) hgl]; exact hcl j (by omega)
      have cl1 : wr.cell? ⟨gl, j + 1, none⟩ = some (.int .i64 (bitI n v (j + 1))) := by rw [hb.cell (p := ⟨gl, j + 1, none⟩) hgl]; exact hcl (j + 1) (by omega)
      have hw1 : IntKind.i64.wrap ((j : Int) + 1) = ((j + 1 : Nat) : Int) := by rw [IntWalk.i64_in _ (by omega)]; omega
      have hw2 : ((j + 1 : Nat) : Int).toNat = j + 1 := by omega
      have hw3 : (j : Int) < (n : Int) + 1 := by omega
      have hw4 : (j : Int) < n := by omega
      have hw5 : (j : Int) + 1 < (n : Int) + 1 := by omega
      have hw6 : (0 : Int) ≤ (j : Int) + 1 := by omega
      clear k0 k2 hcl
      go_wp2_with fail
      refine wp_region_kn 13 [.quiet, .quiet, .quiet, .quiet, .quiet, .quiet, .quiet, .quiet, .quiet, .quiet, .quiet, .quiet, .new] rfl (by kernel_rfl) (by kernel_rfl) (by kernel_rfl) rfl (by kernel_rfl) (by kernel_rfl) ?hF ?_
      case hF =>
        simp only [List.take_succ_cons, List.take_zero, FitzL, fit2, true_and, and_true]
        repeat' apply And.intro
        all_goals first | trivial | rfl | (simp [Op.operands]; done)
      simp only [List.take_succ_cons, List.take_zero, List.drop_succ_cons, List.drop_zero]
      repeat (first | (with_reducible refine wqQ_new ?_) | (with_reducible refine wqQ_put ?_) | (with_reducible refine wqQ_late ?_) | (refine wqQ_step (fun K hK => ?_); go_simp; first | (refine hK _ ?_; clear hK K) | (apply Exists.intro; refine ⟨fun _ => ?_, hK _ ?_⟩; (first | (go_at_call 55; exact Calls.q0 (Bit_c _ _))); clear hK K)))
      refine wqQ_nil ?_
      repeat (with_reducible refine wqN_skip (by decide) ?_)
      refine wqN_step (.cells #[.int .i64 (fl (bitI n v j != bitI n v (j + 1)))] 3) (fun g => .slice (some ⟨g, 0, none⟩) 1 1) (fun w => by go_simp) ?_
      intro gs hgs
      repeat (with_reducible refine wqN_skip (by decide) ?_)
      refine wqN_nil ?_
      repeat (with_reducible refine wqP_skip (by decide) ?_)
      refine wqP_nil ?_
      repeat (with_reducible refine wqL_skip (by decide) ?_)
      refine wqL_nil ?_
      intro x hin
      have hgs := (hin gs _ _ (Held.at_self _ _ _ _)).2
      clear hin
      have ho := own_below hown x.pf
      have hxz : W2.heap.size ≤ x.val.heap.size := by have := x.pf.size; omega
      have hb' := hb.trans (x.pf.mono (by omega))
      go_wp2_with (at_builtin; refine wpList_append_own _ rfl _ _ 58 rfl W2.heap.size 3 i0 (.int .i64 0) 1 8 Try.underlying58 hi hz0 hz1 hz2 rfl (by decide) _ _ _ rfl ho ⟨_, 0, none⟩ 1 1 [.int .i64 _] rfl rfl (cell_one hgs) (fun x hx => by simp at hx; subst hx; rfl) (by unfold maxLen; omega) (by omega) (by first | omega | (simp; omega) | (simp at *; omega)) ?_; intro v' w3 hown' hgrow3 hnn)
      go_wp2
      go_roundw
      case rel => exact ⟨j + 1, by omega, by go_num, by rw [hl.out]; exact hown', hb'.grown hgrow3 (by omega) (fun q hq => (hown.lt q hq).1)⟩
      case measure => simp [intOf]; omega
    · obtain rfl : j = n := by omega
      have hB : Below w.heap.size w wr := kb.trans (hb.mono (by omega))
      have hwl := Lib.hid (wl_bw (fun i => gB j v i) j)
      rw [bvals_ints] at hown
      have hlen : ((List.range (j)).map fun i : Nat => (gB j v (i : Int) : Int)).length = j := by simp
      have hall : ∀ q ∈ ((List.range (j)).map fun i : Nat => (gB j v (i : Int) : Int)), 0 ≤ q ∧ q ≤ 1 := by
        intro q hq
        obtain ⟨i, _, rfl⟩ := List.mem_map.1 hq
        exact gB_bd _ _ _
      have r2 : wr.heap[w.heap.size + 1]? = some (.cells #[.int .i64 0, .int .i64 0] 23) := by rw [hb.block _ ks]; exact k2
      have lr : w.heap.size + 1 < wr.heap.size := by omega
      have qr0 := cell_block (i := 0) r2
      have qr1 := cell_block (i := 1) r2
      have fr0 := free_block (i := 0) r2
      have fr1 := free_block (i := 1) r2
      simp at qr0 qr1
      have hwh : ∀ x : Aft wr, Calls Try.prog 78 #[u4] x.val fun e w' => e = .returned (.int .i64 (bw (fun i => gB j v i) j)) ∧ x.val = w' := by
        intro x
        have ho := own_below hown x.pf
        have h0 := whole_c _ (by rw [hlen]; omega) (by rw [hlen]; omega) hall u4 _ x.val (by rw [hlen]; exact ho)
        rw [hwl.out] at h0
        exact h0
      have HW := Lib.hid hwh
      clear hwh hall hlen hown k0 k2 hcl hl 
      go_wp2_with fail
      refine wp_region_aft_tail 5 (by kernel_rfl) (by kernel_rfl) ?_
      simp only [List.take_succ_cons, List.take_zero, List.drop_succ_cons, List.drop_zero]
      repeat (go_big_quiet_step ((go_at_call 78; exact Calls.qs (HW.out _))))
      refine wpQuiet_nil ?_
      intro x
      have px0 := (x.cell _ _ lr).trans qr0
      have px1 := (x.cell _ _ lr).trans qr1
      have gx0 := (x.frozen _ 0 lr).trans fr0
      have gx1 := (x.frozen _ 1 lr).trans fr1
      have hB' : Below w.heap.size w x.val := x.below hB (by omega)
      generalize x.val = W3 at *
      clear HW qr0 qr1 fr0 fr1 hB hb
      go_wp2
      refine bodyPost_ret (by simp [results, Try.results51, go_sem, px0, px1]; try rfl) rfl ?_
      exact ⟨rfl, Below.aft (by (repeat' (first | (with_reducible exact Below.refl _ _) | (with_reducible assumption) | (with_reducible refine Below.alloc ?_ ?_ _) | (with_reducible refine Below.drew ?_) | (with_reducible refine Aft.below _ ?_ ?_) | (with_reducible refine Below.setCell_new ?_ ?_ _ _) | (with_reducible exact Nat.le_refl _) | (with_reducible refine Aft.le _ ?_) | (with_reducible refine le_alloc ?_) | (with_reducible refine le_drew ?_) | (with_reducible refine le_setCell ?_) | omega)))⟩

end Go.Proofs.Ytlplphigjejahaa
