/-
  Contracts of the functions of chapter 1 (thirteenth part: the reference of shifts).
-/
import Derived.Test.YtlplphigjejahaaBc
import Derived.Test.YtlplphigjejahaaBq
set_option linter.unusedSimpArgs false
set_option linter.unusedVariables false
namespace Go.Proofs.Ytlplphigjejahaa
open Go.RowKit Go.BigFrame

theorem lt_of_get' {w : World} {g : Nat} {ob : Obj} (h : w.heap[g]? = some ob) : g < w.heap.size := (Array.getElem?_eq_some_iff.1 h).1
theorem own_below {w w' : World} {B : Nat} {e : TypeId} {k : Nat} {v : Value} {n : Nat} {xs : List Value} (h : w.ownsRow B e k v n xs) (hb : Below w.heap.size w w') : w'.ownsRow B e k v n xs := by
  refine ⟨h.1, h.2.imp id ?_⟩
  rintro ⟨g, cap, cur, h1, h2, h3, h4⟩
  exact ⟨g, cap, cur, h1, h2, (hb.block g (lt_of_get' h3)).trans h3, h4⟩
theorem own_cells {w : World} {base : Nat} {e : TypeId} {g cap n : Nat} {f : Nat → Value} (h : w.ownsRow base e 1 (.slice (some ⟨g, 0, none⟩) n cap) n ((List.range n).map f)) : ∀ m, m < n → w.cell? ⟨g, m, none⟩ = some (f m) := by
  intro m hm
  have := h.cells (g := g) rfl m (f m) (by simp [hm])
  rwa [Addr.add_lit, Nat.zero_add] at this
theorem bitI_in {wd v i : Int} (h1 : 0 ≤ i) (h2 : i < wd) : bitI wd v i = v / 2 ^ i.toNat % 2 := by
  unfold bitI; rw [if_neg (by simp; omega)]
theorem bitI_out {wd v i : Int} (h : i < 0 ∨ wd ≤ i) : bitI wd v i = 0 := by
  unfold bitI; rw [if_pos (by simp; omega)]
theorem md_sub_md (j b wd : Int) : md (j + wd - md b wd) wd = md (j - b) wd := by
  unfold md
  have e := Int.mul_ediv_add_emod b wd
  have e2 : j + wd - b % wd = (j - b) + wd * (1 + b / wd) := by rw [Int.mul_add]; omega
  rw [e2, Int.add_mul_emod_self_left]
/-- The bits of a list, the lowest one first. -/
def bvals (f : Int → Int) (j : Nat) : List Value := (List.range j).map fun i : Nat => .int .i64 (f i)
theorem bvals_succ (f : Int → Int) (j : Nat) : bvals f (j + 1) = bvals f j ++ [.int .i64 (f j)] := by
  unfold bvals; rw [List.range_succ, List.map_append]; rfl
theorem bvals_ints (f : Int → Int) (j : Nat) : bvals f j = (((List.range j).map fun i : Nat => f i).map (.int .i64)) := by
  unfold bvals; rw [List.map_map]; rfl


set_option maxRecDepth 20000 in
set_option maxHeartbeats 1600000 in
theorem Shift_0 (n : Nat) (v b : Int) (w : World) (h1 : 1 ≤ n) (h2 : n ≤ 16) (h3 : 0 ≤ v) (h4 : v ≤ 65535) (h5 : 0 ≤ b) (h6 : b ≤ 16) :
    Calls Try.prog 27 #[.agg #[.int .i64 n, .int .i64 v], .int .i64 0, .int .i64 b] w fun e w' => e = .returned (.agg #[.int .i64 n, .int .i64 (bw (fun i => bitI n v (srcI 0 i b n)) n)]) ∧ ∃ x : Aft w, w' = x.val := by
  obtain ⟨i0, hi, hz0, hz1, hz2⟩ := info_parts int_info
  have hf : ∀ i, 0 ≤ (fun i => bitI n v (srcI 0 i b n)) i ∧ (fun i => bitI n v (srcI 0 i b n)) i ≤ 1 := fun i => bitI_bd _ _ _
  go_enter Try.func27, Try.ntmps27
  go_wp2_with fail
  refine (low_c v n h3 h4 (by omega) _).mono ?_
  rintro e W2 ⟨Lv, rfl, hownL, hbL⟩
  obtain ⟨gl, cap, rfl, hg1, hg2⟩ := hownL.form (by omega)
  have hcl := own_cells hownL
  have e0 : W2.cell? ⟨w.heap.size, 0, none⟩ = some (.int .i64 n) := by rw [hbL.cell (p := ⟨w.heap.size, 0, none⟩) (by simp; omega)]; simp [go_sem]
  have e1 : W2.cell? ⟨w.heap.size, 1, none⟩ = some (.int .i64 v) := by rw [hbL.cell (p := ⟨w.heap.size, 1, none⟩) (by simp; omega)]; simp [go_sem]
  have e2 : W2.heap[w.heap.size + 1]? = some (.cells #[.int .i64 0, .int .i64 0] 23) := by rw [hbL.block _ (by simp)]; (repeat' (first | (with_reducible assumption) | omega | (simp only [World.size_alloc, World.size_drew, World.size_setCell]; omega) | (refine heap_alloc_at ?_; (first | rfl | (simp; done))) | (with_reducible refine heap_aft _ ?_ ?_) | (with_reducible refine heap_alloc' ?_ ?_) | (with_reducible refine heap_drew ?_)))
  have hs2 : w.heap.size + 1 < W2.heap.size := by have := hbL.size; simp at this; omega
  have hgl : gl < W2.heap.size := by simpa using hg2
  have hbw : Below w.heap.size w W2 := ((((Below.refl _ _).alloc (Nat.le_refl _) _).alloc (by simp) _).trans (hbL.mono (by simp; omega)))
  clear hownL hbL hg1 hg2
  go_wp2
  go_loopw [8, 9] (fun v8 v9 wr => ∃ j : Nat, j ≤ n ∧ v9 = .int .i64 j ∧ wr.ownsRow W2.heap.size 3 1 v8 j (bvals (fun i => bitI n v (srcI 0 i b n)) j) ∧ Below W2.heap.size W2 wr) (fun _ v9 _ => n - (intOf v9).toNat)
  case atStart => exact ⟨0, by omega, rfl, World.ownsRow_nil _ _ _ _, Below.refl _ _⟩
  case round =>
    obtain ⟨j, hj, rfl, hown, hb⟩ := hrel
    have hbs := hb.size
    have c0 : wr.cell? ⟨w.heap.size, 0, none⟩ = some (.int .i64 n) := by rw [hb.cell (p := ⟨w.heap.size, 0, none⟩) (by simp; omega)]; exact e0
    have cl : ∀ m, m < n → wr.cell? ⟨gl, m, none⟩ = some (.int .i64 (v / 2 ^ m % 2)) := fun m hm => by rw [hb.cell (p := ⟨gl, m, none⟩) hgl]; exact hcl m hm
    have hl := Lib.hid (bvals_succ (fun i => bitI n v (srcI 0 i b n)) j)
    have lw : w.heap.size < wr.heap.size := by omega
    by_cases hlt : j < n
    · clear e0 e1 e2 hcl
      by_cases hge : b ≤ j
      · have hx1 : (0 : Int) ≤ j - b := by omega
        have hx2 : (j : Int) - b < n := by omega
        have hk := cl ((j : Int) - b).toNat (by omega)
        have hbit := Lib.hid (show bitI n v (srcI 0 j b n) = v / 2 ^ ((j : Int) - b).toNat % 2 from bitI_in (by simp only [srcI]; omega) (by simp only [srcI]; omega))
        clear cl
        go_wp2_with (first | (at_builtin; refine wpList_append_own _ rfl _ _ 58 rfl W2.heap.size 3 i0 (.int .i64 0) 1 8 Try.underlying58 hi hz0 hz1 hz2 rfl (by decide) _ _ _ rfl (hown.alloc _) ⟨_, 0, none⟩ 1 1 [.int .i64 _] rfl rfl (cell_one_new _ _ _) (fun x hx => by simp at hx; subst hx; rfl) (by unfold maxLen; omega) (by omega) (by simp; omega) ?_; intro v' w3 hown' hgrow3 hnn) | (go_at_call 53; refine (Mod_c _ _ (by omega) (by omega) _).mono ?_; rintro e w' ⟨rfl, rfl⟩))
        go_wp2
        go_roundw
        case rel => exact ⟨j + 1, by omega, by go_num, by rw [hl.out, hbit.out]; exact hown', (hb.alloc hbs _).grown hgrow3 (by simp; omega) (fun q hq => (hown.lt q hq).1)⟩
        case measure => simp [intOf]; omega
      · have hbit := Lib.hid (show bitI n v (srcI 0 j b n) = 0 from bitI_out (by simp only [srcI]; omega))
        clear cl
        go_wp2_with (first | (at_builtin; refine wpList_append_own _ rfl _ _ 58 rfl W2.heap.size 3 i0 (.int .i64 0) 1 8 Try.underlying58 hi hz0 hz1 hz2 rfl (by decide) _ _ _ rfl (hown.alloc _) ⟨_, 0, none⟩ 1 1 [.int .i64 _] rfl rfl (cell_one_new _ _ _) (fun x hx => by simp at hx; subst hx; rfl) (by unfold maxLen; omega) (by omega) (by simp; omega) ?_; intro v' w3 hown' hgrow3 hnn) | (go_at_call 53; refine (Mod_c _ _ (by omega) (by omega) _).mono ?_; rintro e w' ⟨rfl, rfl⟩))
        go_wp2
        go_roundw
        case rel => exact ⟨j + 1, by omega, by go_num, by rw [hl.out, hbit.out]; exact hown', (hb.alloc hbs _).grown hgrow3 (by simp; omega) (fun q hq => (hown.lt q hq).1)⟩
        case measure => simp [intOf]; omega
    · obtain rfl : j = n := by omega
      have hB : Below w.heap.size w wr := hbw.trans (hb.mono (by omega))
      have hwl := Lib.hid (wl_bw (fun i => bitI j v (srcI 0 i b j)) j)
      rw [bvals_ints] at hown
      have hlen : ((List.range j).map fun i : Nat => (fun i => bitI j v (srcI 0 i b j)) (i : Int)).length = j := by simp
      have hall : ∀ q ∈ ((List.range j).map fun i : Nat => (fun i => bitI j v (srcI 0 i b j)) (i : Int)), 0 ≤ q ∧ q ≤ 1 := by
        intro q hq
        obtain ⟨i, _, rfl⟩ := List.mem_map.1 hq
        exact hf _
      have r2 : wr.heap[w.heap.size + 1]? = some (.cells #[.int .i64 0, .int .i64 0] 23) := by rw [hb.block _ hs2]; exact e2
      have lr : w.heap.size + 1 < wr.heap.size := by omega
      have qr0 := cell_block (i := 0) r2
      have qr1 := cell_block (i := 1) r2
      have fr0 := free_block (i := 0) r2
      have fr1 := free_block (i := 1) r2
      simp at qr0 qr1
      have hwh : ∀ x : Aft wr, Calls Try.prog 78 #[u8] x.val fun e w' => e = .returned (.int .i64 (bw (fun i => bitI j v (srcI 0 i b j)) j)) ∧ x.val = w' := by
        intro x
        have ho := own_below hown x.pf
        have h0 := whole_c _ (by rw [hlen]; omega) (by rw [hlen]; omega) hall u8 _ x.val (by rw [hlen]; exact ho)
        rw [hwl.out] at h0
        exact h0
      have HW := Lib.hid hwh
      clear hwh hf hcl hall hlen hown e0 e1 e2 cl hl
      go_wp2_with fail
      refine wp_region_aft_tail 5 (by kernel_rfl) (by kernel_rfl) ?_
      simp only [List.take_succ_cons, List.take_zero, List.drop_succ_cons, List.drop_zero]
      repeat (go_big_quiet_step ((go_at_call 78; exact Calls.qs (HW.out _))))
      refine wpQuiet_nil ?_
      intro x
      have px0 := (x.cell _ _ lr).trans qr0
      have px1 := (x.cell _ _ lr).trans qr1
      have gx0 := (x.frozen _ 0 lr).trans fr0
      have gx1 := (x.frozen _ 1 lr).trans fr1
      have hB' : Below w.heap.size w x.val := x.below hB (by omega)
      generalize x.val = W3 at *
      clear HW qr0 qr1 fr0 fr1 hB hb
      go_wp2
      refine bodyPost_ret (by simp [results, Try.results27, go_sem, px0, px1]; try rfl) rfl ?_
      exact ⟨rfl, Below.aft (by (repeat' (first | (with_reducible exact Below.refl _ _) | (with_reducible assumption) | (with_reducible refine Below.alloc ?_ ?_ _) | (with_reducible refine Below.drew ?_) | (with_reducible refine Aft.below _ ?_ ?_) | (with_reducible refine Below.setCell_new ?_ ?_ _ _) | (with_reducible exact Nat.le_refl _) | (with_reducible refine Aft.le _ ?_) | (with_reducible refine le_alloc ?_) | (with_reducible refine le_drew ?_) | (with_reducible refine le_setCell ?_) | omega)))⟩


set_option maxRecDepth 20000 in
set_option maxHeartbeats 1600000 in
theorem Shift_1 (n : Nat) (v b : Int) (w : World) (h1 : 1 ≤ n) (h2 : n ≤ 16) (h3 : 0 ≤ v) (h4 : v ≤ 65535) (h5 : 0 ≤ b) (h6 : b ≤ 16) :
    Calls Try.prog 27 #[.agg #[.int .i64 n, .int .i64 v], .int .i64 1, .int .i64 b] w fun e w' => e = .returned (.agg #[.int .i64 n, .int .i64 (bw (fun i => bitI n v (srcI 1 i b n)) n)]) ∧ ∃ x : Aft w, w' = x.val := by
  obtain ⟨i0, hi, hz0, hz1, hz2⟩ := info_parts int_info
  have hf : ∀ i, 0 ≤ (fun i => bitI n v (srcI 1 i b n)) i ∧ (fun i => bitI n v (srcI 1 i b n)) i ≤ 1 := fun i => bitI_bd _ _ _
  go_enter Try.func27, Try.ntmps27
  go_wp2_with fail
  refine (low_c v n h3 h4 (by omega) _).mono ?_
  rintro e W2 ⟨Lv, rfl, hownL, hbL⟩
  obtain ⟨gl, cap, rfl, hg1, hg2⟩ := hownL.form (by omega)
  have hcl := own_cells hownL
  have e0 : W2.cell? ⟨w.heap.size, 0, none⟩ = some (.int .i64 n) := by rw [hbL.cell (p := ⟨w.heap.size, 0, none⟩) (by simp; omega)]; simp [go_sem]
  have e1 : W2.cell? ⟨w.heap.size, 1, none⟩ = some (.int .i64 v) := by rw [hbL.cell (p := ⟨w.heap.size, 1, none⟩) (by simp; omega)]; simp [go_sem]
  have e2 : W2.heap[w.heap.size + 1]? = some (.cells #[.int .i64 0, .int .i64 0] 23) := by rw [hbL.block _ (by simp)]; (repeat' (first | (with_reducible assumption) | omega | (simp only [World.size_alloc, World.size_drew, World.size_setCell]; omega) | (refine heap_alloc_at ?_; (first | rfl | (simp; done))) | (with_reducible refine heap_aft _ ?_ ?_) | (with_reducible refine heap_alloc' ?_ ?_) | (with_reducible refine heap_drew ?_)))
  have hs2 : w.heap.size + 1 < W2.heap.size := by have := hbL.size; simp at this; omega
  have hgl : gl < W2.heap.size := by simpa using hg2
  have hbw : Below w.heap.size w W2 := ((((Below.refl _ _).alloc (Nat.le_refl _) _).alloc (by simp) _).trans (hbL.mono (by simp; omega)))
  clear hownL hbL hg1 hg2
  go_wp2
  go_loopw [8, 9] (fun v8 v9 wr => ∃ j : Nat, j ≤ n ∧ v9 = .int .i64 j ∧ wr.ownsRow W2.heap.size 3 1 v8 j (bvals (fun i => bitI n v (srcI 1 i b n)) j) ∧ Below W2.heap.size W2 wr) (fun _ v9 _ => n - (intOf v9).toNat)
  case atStart => exact ⟨0, by omega, rfl, World.ownsRow_nil _ _ _ _, Below.refl _ _⟩
  case round =>
    obtain ⟨j, hj, rfl, hown, hb⟩ := hrel
    have hbs := hb.size
    have c0 : wr.cell? ⟨w.heap.size, 0, none⟩ = some (.int .i64 n) := by rw [hb.cell (p := ⟨w.heap.size, 0, none⟩) (by simp; omega)]; exact e0
    have cl : ∀ m, m < n → wr.cell? ⟨gl, m, none⟩ = some (.int .i64 (v / 2 ^ m % 2)) := fun m hm => by rw [hb.cell (p := ⟨gl, m, none⟩) hgl]; exact hcl m hm
    have hl := Lib.hid (bvals_succ (fun i => bitI n v (srcI 1 i b n)) j)
    have lw : w.heap.size < wr.heap.size := by omega
    by_cases hlt : j < n
    · clear e0 e1 e2 hcl
      by_cases hge : (j : Int) + b < n
      · have hx1 : (0 : Int) ≤ j + b := by omega
        have hk := cl ((j : Int) + b).toNat (by omega)
        have hbit := Lib.hid (show bitI n v (srcI 1 j b n) = v / 2 ^ ((j : Int) + b).toNat % 2 from bitI_in (by simp only [srcI]; omega) (by simp only [srcI]; omega))
        clear cl
        go_wp2_with (first | (at_builtin; refine wpList_append_own _ rfl _ _ 58 rfl W2.heap.size 3 i0 (.int .i64 0) 1 8 Try.underlying58 hi hz0 hz1 hz2 rfl (by decide) _ _ _ rfl (hown.alloc _) ⟨_, 0, none⟩ 1 1 [.int .i64 _] rfl rfl (cell_one_new _ _ _) (fun x hx => by simp at hx; subst hx; rfl) (by unfold maxLen; omega) (by omega) (by simp; omega) ?_; intro v' w3 hown' hgrow3 hnn) | (go_at_call 53; refine (Mod_c _ _ (by omega) (by omega) _).mono ?_; rintro e w' ⟨rfl, rfl⟩))
        go_wp2
        go_roundw
        case rel => exact ⟨j + 1, by omega, by go_num, by rw [hl.out, hbit.out]; exact hown', (hb.alloc hbs _).grown hgrow3 (by simp; omega) (fun q hq => (hown.lt q hq).1)⟩
        case measure => simp [intOf]; omega
      · have hbit := Lib.hid (show bitI n v (srcI 1 j b n) = 0 from bitI_out (by simp only [srcI]; omega))
        clear cl
        go_wp2_with (first | (at_builtin; refine wpList_append_own _ rfl _ _ 58 rfl W2.heap.size 3 i0 (.int .i64 0) 1 8 Try.underlying58 hi hz0 hz1 hz2 rfl (by decide) _ _ _ rfl (hown.alloc _) ⟨_, 0, none⟩ 1 1 [.int .i64 _] rfl rfl (cell_one_new _ _ _) (fun x hx => by simp at hx; subst hx; rfl) (by unfold maxLen; omega) (by omega) (by simp; omega) ?_; intro v' w3 hown' hgrow3 hnn) | (go_at_call 53; refine (Mod_c _ _ (by omega) (by omega) _).mono ?_; rintro e w' ⟨rfl, rfl⟩))
        go_wp2
        go_roundw
        case rel => exact ⟨j + 1, by omega, by go_num, by rw [hl.out, hbit.out]; exact hown', (hb.alloc hbs _).grown hgrow3 (by simp; omega) (fun q hq => (hown.lt q hq).1)⟩
        case measure => simp [intOf]; omega
    · obtain rfl : j = n := by omega
      have hB : Below w.heap.size w wr := hbw.trans (hb.mono (by omega))
      have hwl := Lib.hid (wl_bw (fun i => bitI j v (srcI 1 i b j)) j)
      rw [bvals_ints] at hown
      have hlen : ((List.range j).map fun i : Nat => (fun i => bitI j v (srcI 1 i b j)) (i : Int)).length = j := by simp
      have hall : ∀ q ∈ ((List.range j).map fun i : Nat => (fun i => bitI j v (srcI 1 i b j)) (i : Int)), 0 ≤ q ∧ q ≤ 1 := by
        intro q hq
        obtain ⟨i, _, rfl⟩ := List.mem_map.1 hq
        exact hf _
      have r2 : wr.heap[w.heap.size + 1]? = some (.cells #[.int .i64 0, .int .i64 0] 23) := by rw [hb.block _ hs2]; exact e2
      have lr : w.heap.size + 1 < wr.heap.size := by omega
      have qr0 := cell_block (i := 0) r2
      have qr1 := cell_block (i := 1) r2
      have fr0 := free_block (i := 0) r2
      have fr1 := free_block (i := 1) r2
      simp at qr0 qr1
      have hwh : ∀ x : Aft wr, Calls Try.prog 78 #[u8] x.val fun e w' => e = .returned (.int .i64 (bw (fun i => bitI j v (srcI 1 i b j)) j)) ∧ x.val = w' := by
        intro x
        have ho := own_below hown x.pf
        have h0 := whole_c _ (by rw [hlen]; omega) (by rw [hlen]; omega) hall u8 _ x.val (by rw [hlen]; exact ho)
        rw [hwl.out] at h0
        exact h0
      have HW := Lib.hid hwh
      clear hwh hf hcl hall hlen hown e0 e1 e2 cl hl
      go_wp2_with fail
      refine wp_region_aft_tail 5 (by kernel_rfl) (by kernel_rfl) ?_
      simp only [List.take_succ_cons, List.take_zero, List.drop_succ_cons, List.drop_zero]
      repeat (go_big_quiet_step ((go_at_call 78; exact Calls.qs (HW.out _))))
      refine wpQuiet_nil ?_
      intro x
      have px0 := (x.cell _ _ lr).trans qr0
      have px1 := (x.cell _ _ lr).trans qr1
      have gx0 := (x.frozen _ 0 lr).trans fr0
      have gx1 := (x.frozen _ 1 lr).trans fr1
      have hB' : Below w.heap.size w x.val := x.below hB (by omega)
      generalize x.val = W3 at *
      clear HW qr0 qr1 fr0 fr1 hB hb
      go_wp2
      refine bodyPost_ret (by simp [results, Try.results27, go_sem, px0, px1]; try rfl) rfl ?_
      exact ⟨rfl, Below.aft (by (repeat' (first | (with_reducible exact Below.refl _ _) | (with_reducible assumption) | (with_reducible refine Below.alloc ?_ ?_ _) | (with_reducible refine Below.drew ?_) | (with_reducible refine Aft.below _ ?_ ?_) | (with_reducible refine Below.setCell_new ?_ ?_ _ _) | (with_reducible exact Nat.le_refl _) | (with_reducible refine Aft.le _ ?_) | (with_reducible refine le_alloc ?_) | (with_reducible refine le_drew ?_) | (with_reducible refine le_setCell ?_) | omega)))⟩


set_option maxRecDepth 20000 in
set_option maxHeartbeats 1600000 in
theorem Shift_2 (n : Nat) (v b : Int) (w : World) (h1 : 1 ≤ n) (h2 : n ≤ 16) (h3 : 0 ≤ v) (h4 : v ≤ 65535) (h5 : 0 ≤ b) (h6 : b ≤ 16) :
    Calls Try.prog 27 #[.agg #[.int .i64 n, .int .i64 v], .int .i64 2, .int .i64 b] w fun e w' => e = .returned (.agg #[.int .i64 n, .int .i64 (bw (fun i => bitI n v (srcI 2 i b n)) n)]) ∧ ∃ x : Aft w, w' = x.val := by
  obtain ⟨i0, hi, hz0, hz1, hz2⟩ := info_parts int_info
  have hf : ∀ i, 0 ≤ (fun i => bitI n v (srcI 2 i b n)) i ∧ (fun i => bitI n v (srcI 2 i b n)) i ≤ 1 := fun i => bitI_bd _ _ _
  go_enter Try.func27, Try.ntmps27
  go_wp2_with fail
  refine (low_c v n h3 h4 (by omega) _).mono ?_
  rintro e W2 ⟨Lv, rfl, hownL, hbL⟩
  obtain ⟨gl, cap, rfl, hg1, hg2⟩ := hownL.form (by omega)
  have hcl := own_cells hownL
  have e0 : W2.cell? ⟨w.heap.size, 0, none⟩ = some (.int .i64 n) := by rw [hbL.cell (p := ⟨w.heap.size, 0, none⟩) (by simp; omega)]; simp [go_sem]
  have e1 : W2.cell? ⟨w.heap.size, 1, none⟩ = some (.int .i64 v) := by rw [hbL.cell (p := ⟨w.heap.size, 1, none⟩) (by simp; omega)]; simp [go_sem]
  have e2 : W2.heap[w.heap.size + 1]? = some (.cells #[.int .i64 0, .int .i64 0] 23) := by rw [hbL.block _ (by simp)]; (repeat' (first | (with_reducible assumption) | omega | (simp only [World.size_alloc, World.size_drew, World.size_setCell]; omega) | (refine heap_alloc_at ?_; (first | rfl | (simp; done))) | (with_reducible refine heap_aft _ ?_ ?_) | (with_reducible refine heap_alloc' ?_ ?_) | (with_reducible refine heap_drew ?_)))
  have hs2 : w.heap.size + 1 < W2.heap.size := by have := hbL.size; simp at this; omega
  have hgl : gl < W2.heap.size := by simpa using hg2
  have hbw : Below w.heap.size w W2 := ((((Below.refl _ _).alloc (Nat.le_refl _) _).alloc (by simp) _).trans (hbL.mono (by simp; omega)))
  clear hownL hbL hg1 hg2
  go_wp2
  go_loopw [8, 9] (fun v8 v9 wr => ∃ j : Nat, j ≤ n ∧ v9 = .int .i64 j ∧ wr.ownsRow W2.heap.size 3 1 v8 j (bvals (fun i => bitI n v (srcI 2 i b n)) j) ∧ Below W2.heap.size W2 wr) (fun _ v9 _ => n - (intOf v9).toNat)
  case atStart => exact ⟨0, by omega, rfl, World.ownsRow_nil _ _ _ _, Below.refl _ _⟩
  case round =>
    obtain ⟨j, hj, rfl, hown, hb⟩ := hrel
    have hbs := hb.size
    have c0 : wr.cell? ⟨w.heap.size, 0, none⟩ = some (.int .i64 n) := by rw [hb.cell (p := ⟨w.heap.size, 0, none⟩) (by simp; omega)]; exact e0
    have cl : ∀ m, m < n → wr.cell? ⟨gl, m, none⟩ = some (.int .i64 (v / 2 ^ m % 2)) := fun m hm => by rw [hb.cell (p := ⟨gl, m, none⟩) hgl]; exact hcl m hm
    have hl := Lib.hid (bvals_succ (fun i => bitI n v (srcI 2 i b n)) j)
    have lw : w.heap.size < wr.heap.size := by omega
    by_cases hlt : j < n
    · clear e0 e1 e2 hcl
      by_cases hge : (j : Int) + b ≤ n - 1
      · have hx1 : (0 : Int) ≤ j + b := by omega
        have hmin : min ((j : Int) + b) (n - 1) = j + b := by omega
        have hmin' := hmin
        have hk := cl ((j : Int) + b).toNat (by omega)
        have hbit := Lib.hid (show bitI n v (srcI 2 j b n) = v / 2 ^ ((j : Int) + b).toNat % 2 from (by show bitI n v (min ((j : Int) + b) (n - 1)) = _; rw [hmin']; exact bitI_in (by omega) (by omega)))
        clear cl
        go_wp2_with (first | (at_builtin; refine wpList_append_own _ rfl _ _ 58 rfl W2.heap.size 3 i0 (.int .i64 0) 1 8 Try.underlying58 hi hz0 hz1 hz2 rfl (by decide) _ _ _ rfl (hown.alloc _) ⟨_, 0, none⟩ 1 1 [.int .i64 _] rfl rfl (cell_one_new _ _ _) (fun x hx => by simp at hx; subst hx; rfl) (by unfold maxLen; omega) (by omega) (by simp; omega) ?_; intro v' w3 hown' hgrow3 hnn) | (go_at_call 53; refine (Mod_c _ _ (by omega) (by omega) _).mono ?_; rintro e w' ⟨rfl, rfl⟩))
        go_wp2
        go_roundw
        case rel => exact ⟨j + 1, by omega, by go_num, by rw [hl.out, hbit.out]; exact hown', (hb.alloc hbs _).grown hgrow3 (by simp; omega) (fun q hq => (hown.lt q hq).1)⟩
        case measure => simp [intOf]; omega
      · have hx1 : (0 : Int) ≤ (n : Int) - 1 := by omega
        have hmin : min ((j : Int) + b) (n - 1) = (n : Int) - 1 := by omega
        have hmin' := hmin
        have hk2 := cl (n - 1) (by omega)
        have hx3 : n - 1 < n := by omega
        have hk := cl ((n : Int) - 1).toNat (by omega)
        have hbit := Lib.hid (show bitI n v (srcI 2 j b n) = v / 2 ^ ((n : Int) - 1).toNat % 2 from (by show bitI n v (min ((j : Int) + b) (n - 1)) = _; rw [hmin']; exact bitI_in (by omega) (by omega)))
        clear cl
        go_wp2_with (first | (at_builtin; refine wpList_append_own _ rfl _ _ 58 rfl W2.heap.size 3 i0 (.int .i64 0) 1 8 Try.underlying58 hi hz0 hz1 hz2 rfl (by decide) _ _ _ rfl (hown.alloc _) ⟨_, 0, none⟩ 1 1 [.int .i64 _] rfl rfl (cell_one_new _ _ _) (fun x hx => by simp at hx; subst hx; rfl) (by unfold maxLen; omega) (by omega) (by simp; omega) ?_; intro v' w3 hown' hgrow3 hnn) | (go_at_call 53; refine (Mod_c _ _ (by omega) (by omega) _).mono ?_; rintro e w' ⟨rfl, rfl⟩))
        go_wp2
        (try rw [show ((n : Int) - 1).toNat = n - 1 by omega] at hbit)
        go_roundw
        case rel => exact ⟨j + 1, by omega, by go_num, by rw [hl.out, hbit.out]; exact hown', (hb.alloc hbs _).grown hgrow3 (by simp; omega) (fun q hq => (hown.lt q hq).1)⟩
        case measure => simp [intOf]; omega
    · obtain rfl : j = n := by omega
      have hB : Below w.heap.size w wr := hbw.trans (hb.mono (by omega))
      have hwl := Lib.hid (wl_bw (fun i => bitI j v (srcI 2 i b j)) j)
      rw [bvals_ints] at hown
      have hlen : ((List.range j).map fun i : Nat => (fun i => bitI j v (srcI 2 i b j)) (i : Int)).length = j := by simp
      have hall : ∀ q ∈ ((List.range j).map fun i : Nat => (fun i => bitI j v (srcI 2 i b j)) (i : Int)), 0 ≤ q ∧ q ≤ 1 := by
        intro q hq
        obtain ⟨i, _, rfl⟩ := List.mem_map.1 hq
        exact hf _
      have r2 : wr.heap[w.heap.size + 1]? = some (.cells #[.int .i64 0, .int .i64 0] 23) := by rw [hb.block _ hs2]; exact e2
      have lr : w.heap.size + 1 < wr.heap.size := by omega
      have qr0 := cell_block (i := 0) r2
      have qr1 := cell_block (i := 1) r2
      have fr0 := free_block (i := 0) r2
      have fr1 := free_block (i := 1) r2
      simp at qr0 qr1
      have hwh : ∀ x : Aft wr, Calls Try.prog 78 #[u8] x.val fun e w' => e = .returned (.int .i64 (bw (fun i => bitI j v (srcI 2 i b j)) j)) ∧ x.val = w' := by
        intro x
        have ho := own_below hown x.pf
        have h0 := whole_c _ (by rw [hlen]; omega) (by rw [hlen]; omega) hall u8 _ x.val (by rw [hlen]; exact ho)
        rw [hwl.out] at h0
        exact h0
      have HW := Lib.hid hwh
      clear hwh hf hcl hall hlen hown e0 e1 e2 cl hl
      go_wp2_with fail
      refine wp_region_aft_tail 5 (by kernel_rfl) (by kernel_rfl) ?_
      simp only [List.take_succ_cons, List.take_zero, List.drop_succ_cons, List.drop_zero]
      repeat (go_big_quiet_step ((go_at_call 78; exact Calls.qs (HW.out _))))
      refine wpQuiet_nil ?_
      intro x
      have px0 := (x.cell _ _ lr).trans qr0
      have px1 := (x.cell _ _ lr).trans qr1
      have gx0 := (x.frozen _ 0 lr).trans fr0
      have gx1 := (x.frozen _ 1 lr).trans fr1
      have hB' : Below w.heap.size w x.val := x.below hB (by omega)
      generalize x.val = W3 at *
      clear HW qr0 qr1 fr0 fr1 hB hb
      go_wp2
      refine bodyPost_ret (by simp [results, Try.results27, go_sem, px0, px1]; try rfl) rfl ?_
      exact ⟨rfl, Below.aft (by (repeat' (first | (with_reducible exact Below.refl _ _) | (with_reducible assumption) | (with_reducible refine Below.alloc ?_ ?_ _) | (with_reducible refine Below.drew ?_) | (with_reducible refine Aft.below _ ?_ ?_) | (with_reducible refine Below.setCell_new ?_ ?_ _ _) | (with_reducible exact Nat.le_refl _) | (with_reducible refine Aft.le _ ?_) | (with_reducible refine le_alloc ?_) | (with_reducible refine le_drew ?_) | (with_reducible refine le_setCell ?_) | omega)))⟩


set_option maxRecDepth 20000 in
set_option maxHeartbeats 1600000 in
theorem Shift_3 (n : Nat) (v b : Int) (w : World) (h1 : 1 ≤ n) (h2 : n ≤ 16) (h3 : 0 ≤ v) (h4 : v ≤ 65535) (h5 : 0 ≤ b) (h6 : b ≤ 16) :
    Calls Try.prog 27 #[.agg #[.int .i64 n, .int .i64 v], .int .i64 3, .int .i64 b] w fun e w' => e = .returned (.agg #[.int .i64 n, .int .i64 (bw (fun i => bitI n v (srcI 3 i b n)) n)]) ∧ ∃ x : Aft w, w' = x.val := by
  obtain ⟨i0, hi, hz0, hz1, hz2⟩ := info_parts int_info
  have hf : ∀ i, 0 ≤ (fun i => bitI n v (srcI 3 i b n)) i ∧ (fun i => bitI n v (srcI 3 i b n)) i ≤ 1 := fun i => bitI_bd _ _ _
  go_enter Try.func27, Try.ntmps27
  go_wp2_with fail
  refine (low_c v n h3 h4 (by omega) _).mono ?_
  rintro e W2 ⟨Lv, rfl, hownL, hbL⟩
  obtain ⟨gl, cap, rfl, hg1, hg2⟩ := hownL.form (by omega)
  have hcl := own_cells hownL
  have e0 : W2.cell? ⟨w.heap.size, 0, none⟩ = some (.int .i64 n) := by rw [hbL.cell (p := ⟨w.heap.size, 0, none⟩) (by simp; omega)]; simp [go_sem]
  have e1 : W2.cell? ⟨w.heap.size, 1, none⟩ = some (.int .i64 v) := by rw [hbL.cell (p := ⟨w.heap.size, 1, none⟩) (by simp; omega)]; simp [go_sem]
  have e2 : W2.heap[w.heap.size + 1]? = some (.cells #[.int .i64 0, .int .i64 0] 23) := by rw [hbL.block _ (by simp)]; (repeat' (first | (with_reducible assumption) | omega | (simp only [World.size_alloc, World.size_drew, World.size_setCell]; omega) | (refine heap_alloc_at ?_; (first | rfl | (simp; done))) | (with_reducible refine heap_aft _ ?_ ?_) | (with_reducible refine heap_alloc' ?_ ?_) | (with_reducible refine heap_drew ?_)))
  have hs2 : w.heap.size + 1 < W2.heap.size := by have := hbL.size; simp at this; omega
  have hgl : gl < W2.heap.size := by simpa using hg2
  have hbw : Below w.heap.size w W2 := ((((Below.refl _ _).alloc (Nat.le_refl _) _).alloc (by simp) _).trans (hbL.mono (by simp; omega)))
  clear hownL hbL hg1 hg2
  go_wp2
  go_loopw [8, 9] (fun v8 v9 wr => ∃ j : Nat, j ≤ n ∧ v9 = .int .i64 j ∧ wr.ownsRow W2.heap.size 3 1 v8 j (bvals (fun i => bitI n v (srcI 3 i b n)) j) ∧ Below W2.heap.size W2 wr) (fun _ v9 _ => n - (intOf v9).toNat)
  case atStart => exact ⟨0, by omega, rfl, World.ownsRow_nil _ _ _ _, Below.refl _ _⟩
  case round =>
    obtain ⟨j, hj, rfl, hown, hb⟩ := hrel
    have hbs := hb.size
    have c0 : wr.cell? ⟨w.heap.size, 0, none⟩ = some (.int .i64 n) := by rw [hb.cell (p := ⟨w.heap.size, 0, none⟩) (by simp; omega)]; exact e0
    have cl : ∀ m, m < n → wr.cell? ⟨gl, m, none⟩ = some (.int .i64 (v / 2 ^ m % 2)) := fun m hm => by rw [hb.cell (p := ⟨gl, m, none⟩) hgl]; exact hcl m hm
    have hl := Lib.hid (bvals_succ (fun i => bitI n v (srcI 3 i b n)) j)
    have lw : w.heap.size < wr.heap.size := by omega
    by_cases hlt : j < n
    · clear e0 e1 e2 hcl
      have hx := md_bd ((j : Int) - b) (m := n) (by omega)
      have hx1 := hx.1
      have hx2 := hx.2
      clear hx
      have hk := cl (md ((j : Int) - b) n).toNat (by omega)
      have hbit := Lib.hid (show bitI n v (srcI 3 j b n) = v / 2 ^ (md ((j : Int) - b) n).toNat % 2 from (by show bitI n v (md ((j : Int) + n - md b n) n) = _; rw [md_sub_md]; exact bitI_in hx1 hx2))
      clear cl
      go_wp2_with (first | (at_builtin; refine wpList_append_own _ rfl _ _ 58 rfl W2.heap.size 3 i0 (.int .i64 0) 1 8 Try.underlying58 hi hz0 hz1 hz2 rfl (by decide) _ _ _ rfl (hown.alloc _) ⟨_, 0, none⟩ 1 1 [.int .i64 _] rfl rfl (cell_one_new _ _ _) (fun x hx => by simp at hx; subst hx; rfl) (by unfold maxLen; omega) (by omega) (by simp; omega) ?_; intro v' w3 hown' hgrow3 hnn) | (go_at_call 53; refine (Mod_c _ _ (by omega) (by omega) _).mono ?_; rintro e w' ⟨rfl, rfl⟩))
      go_wp2
      go_roundw
      case rel => exact ⟨j + 1, by omega, by go_num, by rw [hl.out, hbit.out]; exact hown', (hb.alloc hbs _).grown hgrow3 (by simp; omega) (fun q hq => (hown.lt q hq).1)⟩
      case measure => simp [intOf]; omega
    · obtain rfl : j = n := by omega
      have hB : Below w.heap.size w wr := hbw.trans (hb.mono (by omega))
      have hwl := Lib.hid (wl_bw (fun i => bitI j v (srcI 3 i b j)) j)
      rw [bvals_ints] at hown
      have hlen : ((List.range j).map fun i : Nat => (fun i => bitI j v (srcI 3 i b j)) (i : Int)).length = j := by simp
      have hall : ∀ q ∈ ((List.range j).map fun i : Nat => (fun i => bitI j v (srcI 3 i b j)) (i : Int)), 0 ≤ q ∧ q ≤ 1 := by
        intro q hq
        obtain ⟨i, _, rfl⟩ := List.mem_map.1 hq
        exact hf _
      have r2 : wr.heap[w.heap.size + 1]? = some (.cells #[.int .i64 0, .int .i64 0] 23) := by rw [hb.block _ hs2]; exact e2
      have lr : w.heap.size + 1 < wr.heap.size := by omega
      have qr0 := cell_block (i := 0) r2
      have qr1 := cell_block (i := 1) r2
      have fr0 := free_block (i := 0) r2
      have fr1 := free_block (i := 1) r2
      simp at qr0 qr1
      have hwh : ∀ x : Aft wr, Calls Try.prog 78 #[u8] x.val fun e w' => e = .returned (.int .i64 (bw (fun i => bitI j v (srcI 3 i b j)) j)) ∧ x.val = w' := by
        intro x
        have ho := own_below hown x.pf
        have h0 := whole_c _ (by rw [hlen]; omega) (by rw [hlen]; omega) hall u8 _ x.val (by rw [hlen]; exact ho)
        rw [hwl.out] at h0
        exact h0
      have HW := Lib.hid hwh
      clear hwh hf hcl hall hlen hown e0 e1 e2 cl hl
      go_wp2_with fail
      refine wp_region_aft_tail 5 (by kernel_rfl) (by kernel_rfl) ?_
      simp only [List.take_succ_cons, List.take_zero, List.drop_succ_cons, List.drop_zero]
      repeat (go_big_quiet_step ((go_at_call 78; exact Calls.qs (HW.out _))))
      refine wpQuiet_nil ?_
      intro x
      have px0 := (x.cell _ _ lr).trans qr0
      have px1 := (x.cell _ _ lr).trans qr1
      have gx0 := (x.frozen _ 0 lr).trans fr0
      have gx1 := (x.frozen _ 1 lr).trans fr1
      have hB' : Below w.heap.size w x.val := x.below hB (by omega)
      generalize x.val = W3 at *
      clear HW qr0 qr1 fr0 fr1 hB hb
      go_wp2
      refine bodyPost_ret (by simp [results, Try.results27, go_sem, px0, px1]; try rfl) rfl ?_
      exact ⟨rfl, Below.aft (by (repeat' (first | (with_reducible exact Below.refl _ _) | (with_reducible assumption) | (with_reducible refine Below.alloc ?_ ?_ _) | (with_reducible refine Below.drew ?_) | (with_reducible refine Aft.below _ ?_ ?_) | (with_reducible refine Below.setCell_new ?_ ?_ _ _) | (with_reducible exact Nat.le_refl _) | (with_reducible refine Aft.le _ ?_) | (with_reducible refine le_alloc ?_) | (with_reducible refine le_drew ?_) | (with_reducible refine le_setCell ?_) | omega)))⟩


set_option maxRecDepth 20000 in
set_option maxHeartbeats 1600000 in
theorem Shift_4 (n : Nat) (v b : Int) (w : World) (h1 : 1 ≤ n) (h2 : n ≤ 16) (h3 : 0 ≤ v) (h4 : v ≤ 65535) (h5 : 0 ≤ b) (h6 : b ≤ 16) :
    Calls Try.prog 27 #[.agg #[.int .i64 n, .int .i64 v], .int .i64 4, .int .i64 b] w fun e w' => e = .returned (.agg #[.int .i64 n, .int .i64 (bw (fun i => bitI n v (srcI 4 i b n)) n)]) ∧ ∃ x : Aft w, w' = x.val := by
  obtain ⟨i0, hi, hz0, hz1, hz2⟩ := info_parts int_info
  have hf : ∀ i, 0 ≤ (fun i => bitI n v (srcI 4 i b n)) i ∧ (fun i => bitI n v (srcI 4 i b n)) i ≤ 1 := fun i => bitI_bd _ _ _
  go_enter Try.func27, Try.ntmps27
  go_wp2_with fail
  refine (low_c v n h3 h4 (by omega) _).mono ?_
  rintro e W2 ⟨Lv, rfl, hownL, hbL⟩
  obtain ⟨gl, cap, rfl, hg1, hg2⟩ := hownL.form (by omega)
  have hcl := own_cells hownL
  have e0 : W2.cell? ⟨w.heap.size, 0, none⟩ = some (.int .i64 n) := by rw [hbL.cell (p := ⟨w.heap.size, 0, none⟩) (by simp; omega)]; simp [go_sem]
  have e1 : W2.cell? ⟨w.heap.size, 1, none⟩ = some (.int .i64 v) := by rw [hbL.cell (p := ⟨w.heap.size, 1, none⟩) (by simp; omega)]; simp [go_sem]
  have e2 : W2.heap[w.heap.size + 1]? = some (.cells #[.int .i64 0, .int .i64 0] 23) := by rw [hbL.block _ (by simp)]; (repeat' (first | (with_reducible assumption) | omega | (simp only [World.size_alloc, World.size_drew, World.size_setCell]; omega) | (refine heap_alloc_at ?_; (first | rfl | (simp; done))) | (with_reducible refine heap_aft _ ?_ ?_) | (with_reducible refine heap_alloc' ?_ ?_) | (with_reducible refine heap_drew ?_)))
  have hs2 : w.heap.size + 1 < W2.heap.size := by have := hbL.size; simp at this; omega
  have hgl : gl < W2.heap.size := by simpa using hg2
  have hbw : Below w.heap.size w W2 := ((((Below.refl _ _).alloc (Nat.le_refl _) _).alloc (by simp) _).trans (hbL.mono (by simp; omega)))
  clear hownL hbL hg1 hg2
  go_wp2
  go_loopw [8, 9] (fun v8 v9 wr => ∃ j : Nat, j ≤ n ∧ v9 = .int .i64 j ∧ wr.ownsRow W2.heap.size 3 1 v8 j (bvals (fun i => bitI n v (srcI 4 i b n)) j) ∧ Below W2.heap.size W2 wr) (fun _ v9 _ => n - (intOf v9).toNat)
  case atStart => exact ⟨0, by omega, rfl, World.ownsRow_nil _ _ _ _, Below.refl _ _⟩
  case round =>
    obtain ⟨j, hj, rfl, hown, hb⟩ := hrel
    have hbs := hb.size
    have c0 : wr.cell? ⟨w.heap.size, 0, none⟩ = some (.int .i64 n) := by rw [hb.cell (p := ⟨w.heap.size, 0, none⟩) (by simp; omega)]; exact e0
    have cl : ∀ m, m < n → wr.cell? ⟨gl, m, none⟩ = some (.int .i64 (v / 2 ^ m % 2)) := fun m hm => by rw [hb.cell (p := ⟨gl, m, none⟩) hgl]; exact hcl m hm
    have hl := Lib.hid (bvals_succ (fun i => bitI n v (srcI 4 i b n)) j)
    have lw : w.heap.size < wr.heap.size := by omega
    by_cases hlt : j < n
    · clear e0 e1 e2 hcl
      have hx := md_bd ((j : Int) + b) (m := n) (by omega)
      have hx1 := hx.1
      have hx2 := hx.2
      clear hx
      have hk := cl (md ((j : Int) + b) n).toNat (by omega)
      have hbit := Lib.hid (show bitI n v (srcI 4 j b n) = v / 2 ^ (md ((j : Int) + b) n).toNat % 2 from bitI_in hx1 hx2)
      clear cl
      go_wp2_with (first | (at_builtin; refine wpList_append_own _ rfl _ _ 58 rfl W2.heap.size 3 i0 (.int .i64 0) 1 8 Try.underlying58 hi hz0 hz1 hz2 rfl (by decide) _ _ _ rfl (hown.alloc _) ⟨_, 0, none⟩ 1 1 [.int .i64 _] rfl rfl (cell_one_new _ _ _) (fun x hx => by simp at hx; subst hx; rfl) (by unfold maxLen; omega) (by omega) (by simp; omega) ?_; intro v' w3 hown' hgrow3 hnn) | (go_at_call 53; refine (Mod_c _ _ (by omega) (by omega) _).mono ?_; rintro e w' ⟨rfl, rfl⟩))
      go_wp2
      go_roundw
      case rel => exact ⟨j + 1, by omega, by go_num, by rw [hl.out, hbit.out]; exact hown', (hb.alloc hbs _).grown hgrow3 (by simp; omega) (fun q hq => (hown.lt q hq).1)⟩
      case measure => simp [intOf]; omega
    · obtain rfl : j = n := by omega
      have hB : Below w.heap.size w wr := hbw.trans (hb.mono (by omega))
      have hwl := Lib.hid (wl_bw (fun i => bitI j v (srcI 4 i b j)) j)
      rw [bvals_ints] at hown
      have hlen : ((List.range j).map fun i : Nat => (fun i => bitI j v (srcI 4 i b j)) (i : Int)).length = j := by simp
      have hall : ∀ q ∈ ((List.range j).map fun i : Nat => (fun i => bitI j v (srcI 4 i b j)) (i : Int)), 0 ≤ q ∧ q ≤ 1 := by
        intro q hq
        obtain ⟨i, _, rfl⟩ := List.mem_map.1 hq
        exact hf _
      have r2 : wr.heap[w.heap.size + 1]? = some (.cells #[.int .i64 0, .int .i64 0] 23) := by rw [hb.block _ hs2]; exact e2
      have lr : w.heap.size + 1 < wr.heap.size := by omega
      have qr0 := cell_block (i := 0) r2
      have qr1 := cell_block (i := 1) r2
      have fr0 := free_block (i := 0) r2
      have fr1 := free_block (i := 1) r2
      simp at qr0 qr1
      have hwh : ∀ x : Aft wr, Calls Try.prog 78 #[u8] x.val fun e w' => e = .returned (.int .i64 (bw (fun i => bitI j v (srcI 4 i b j)) j)) ∧ x.val = w' := by
        intro x
        have ho := own_below hown x.pf
        have h0 := whole_c _ (by rw [hlen]; omega) (by rw [hlen]; omega) hall u8 _ x.val (by rw [hlen]; exact ho)
        rw [hwl.out] at h0
        exact h0
      have HW := Lib.hid hwh
      clear hwh hf hcl hall hlen hown e0 e1 e2 cl hl
      go_wp2_with fail
      refine wp_region_aft_tail 5 (by kernel_rfl) (by kernel_rfl) ?_
      simp only [List.take_succ_cons, List.take_zero, List.drop_succ_cons, List.drop_zero]
      repeat (go_big_quiet_step ((go_at_call 78; exact Calls.qs (HW.out _))))
      refine wpQuiet_nil ?_
      intro x
      have px0 := (x.cell _ _ lr).trans qr0
      have px1 := (x.cell _ _ lr).trans qr1
      have gx0 := (x.frozen _ 0 lr).trans fr0
      have gx1 := (x.frozen _ 1 lr).trans fr1
      have hB' : Below w.heap.size w x.val := x.below hB (by omega)
      generalize x.val = W3 at *
      clear HW qr0 qr1 fr0 fr1 hB hb
      go_wp2
      refine bodyPost_ret (by simp [results, Try.results27, go_sem, px0, px1]; try rfl) rfl ?_
      exact ⟨rfl, Below.aft (by (repeat' (first | (with_reducible exact Below.refl _ _) | (with_reducible assumption) | (with_reducible refine Below.alloc ?_ ?_ _) | (with_reducible refine Below.drew ?_) | (with_reducible refine Aft.below _ ?_ ?_) | (with_reducible refine Below.setCell_new ?_ ?_ _ _) | (with_reducible exact Nat.le_refl _) | (with_reducible refine Aft.le _ ?_) | (with_reducible refine le_alloc ?_) | (with_reducible refine le_drew ?_) | (with_reducible refine le_setCell ?_) | omega)))⟩

end Go.Proofs.Ytlplphigjejahaa
