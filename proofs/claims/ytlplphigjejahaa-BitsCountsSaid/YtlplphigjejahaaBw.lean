/-
  Contracts of the functions of chapter 1 (seventeenth part: the reference of the values of Gray codes, lists of bits).
-/
import Derived.Test.YtlplphigjejahaaBv
import Derived.Deep.OwnRows
set_option linter.unusedSimpArgs false
set_option linter.unusedVariables false
namespace Go.Proofs.Ytlplphigjejahaa
open Go.RowKit Go.BigFrame

theorem set_map_range {α : Type} (f : Nat → α) (n m : Nat) (u : α) : ((List.range n).map f).set m u = (List.range n).map fun i => if i = m then u else f i := by
  refine List.ext_getElem (by simp) fun i h1 h2 => ?_
  simp only [List.getElem_set, List.getElem_map, List.getElem_range]
  by_cases h : m = i
  · subst h; simp
  · rw [if_neg h, if_neg (fun e => h e.symm)]
theorem map_range_congr {α : Type} {f g : Nat → α} {n : Nat} (h : ∀ i, i < n → f i = g i) : (List.range n).map f = (List.range n).map g := List.map_congr_left fun i hi => h i (List.mem_range.1 hi)

set_option maxRecDepth 20000 in
set_option maxHeartbeats 800000 in
theorem CopyInts_c (n cap gl : Nat) (fv : Nat → Value) (w : World) (hn : n ≤ 65536) (h1 : ∀ m, (fv m).oneCell' = true) (hc : ∀ m, m < n → w.cell? ⟨gl, m, none⟩ = some (fv m)) (hg : gl < w.heap.size) :
    Calls Try.prog 43 #[.slice (some ⟨gl, 0, none⟩) n cap] w fun e w' => ∃ v, e = .returned v ∧ w'.ownsRow w.heap.size 3 1 v n ((List.range n).map fv) ∧ Below w.heap.size w w' := by
  obtain ⟨i0, hi, hz0, hz1, hz2⟩ := info_parts int_info
  have hown0 := World.ownsRow_lit (base := w.heap.size) (e := 3) (size := 1) w #[] 0 (Nat.le_refl _) (by unfold maxLen; omega) rfl
  have hcells : ∀ j u, ((List.range n).map fv)[j]? = some u → (w.alloc (.cells #[] 3)).cell? ((⟨gl, 0, none⟩ : Addr).add j) = some u := by
    intro j u hj
    rw [List.getElem?_map] at hj
    have hjn : j < n := by
      rcases Nat.lt_or_ge j n with h | h
      · exact h
      · rw [List.getElem?_eq_none (by simpa using h)] at hj; cases hj
    rw [List.getElem?_range hjn] at hj
    injection hj with hj
    subst hj
    rw [Addr.add_lit, Nat.zero_add]
    exact cell_alloc hg (hc j hjn)
  have HC := Lib.hid hcells
  have HO : Hid (∀ u ∈ (List.range n).map fv, u.oneCell' = true) := Lib.hid (by
    intro u hu
    obtain ⟨i, _, rfl⟩ := List.mem_map.1 hu
    exact h1 i)
  have hm1 : 0 + n ≤ maxLen := by unfold maxLen; omega
  have hm2 : (0 + n) * 8 ≤ 140737488355328 := by omega
  clear hc hcells h1
  go_enter Try.func43, Try.ntmps43
  go_wp2_with (at_builtin; refine wpList_append_own _ rfl _ _ 58 rfl w.heap.size 3 i0 (.int .i64 0) 1 8 Try.underlying58 hi hz0 hz1 hz2 rfl (by decide) _ _ _ rfl hown0 ⟨gl, 0, none⟩ n cap ((List.range n).map fv) rfl (by simp) HC.out HO.out hm1 hm2 (by simp) ?_; intro v' w3 hown' hgrow3 hnn)
  go_wp2
  go_ret
  refine ⟨_, rfl, by simpa using hown', (((Below.refl _ _).alloc (Nat.le_refl _) _).grown hgrow3 (by simp) (fun q hq => ?_))⟩
  have hq' : some w.heap.size = some q := hq
  injection hq' with hq'
  omega

set_option maxRecDepth 20000 in
set_option maxHeartbeats 1600000 in
theorem BitsOf_c (N : Int) (n : Nat) (h0 : 0 ≤ N) (h1 : N ≤ 65535) (hn : n ≤ 16) (w : World) :
    Calls Try.prog 54 #[.int .i64 N, .int .i64 n] w fun e w' => ∃ v, e = .returned v ∧ w'.ownsRow w.heap.size 3 1 v n ((List.range n).map fun i => .int .i64 (N / 2 ^ (n - 1 - i) % 2)) ∧ Below w.heap.size w w' := by
  have hmk := run_make_row' (P := Try.prog) 58 3 (.int .i64 0) 8 Try.underlying58 int_info rfl .i64 .i64 n (by omega) (by omega)
  go_enter Try.func54, Try.ntmps54
  go_wp2
  clear hmk
  go_loopw [0, 6] (fun v0 v6 wr => ∃ j : Nat, j ≤ n ∧ v6 = .int .i64 ((j : Int) - 1) ∧ v0 = .int .i64 (N / 2 ^ (n - j)) ∧ wr.ownsRow w.heap.size 3 1 (.slice (some ⟨w.heap.size, 0, none⟩) n n) n ((List.range n).map fun i => .int .i64 (if j ≤ i then N / 2 ^ (n - 1 - i) % 2 else 0)) ∧ Below w.heap.size w wr) (fun _ v6 _ => (intOf v6 + 1).toNat)
  case atStart =>
    refine ⟨n, Nat.le_refl _, by go_num, by simp, ?_, (Below.refl _ _).alloc (Nat.le_refl _) _⟩
    have h := World.ownsRow_made (base := w.heap.size) (e := 3) (size := 1) w (madeCells #[.int .i64 0] n) n (Nat.le_refl _) (by unfold maxLen; omega) (by simp [size_madeCells])
    have h2 := World.ownsRow_lit (base := w.heap.size) (e := 3) (size := 1) w (madeCells #[.int .i64 0] n) n (Nat.le_refl _) (by unfold maxLen; omega) (by simp [size_madeCells])
    have e : (madeCells #[Value.int .i64 0] n).toList = (List.range n).map fun i => Value.int .i64 (if n ≤ i then N / 2 ^ (n - 1 - i) % 2 else 0) := by
      refine List.ext_getElem (by simp [size_madeCells]) fun i hi1 hi2 => ?_
      have : i < n := by simpa [size_madeCells] using hi1
      have hni : ¬ n ≤ i := by omega
      simp [madeCells, hni, Nat.mod_one]
    rw [← e]; exact h2
  case round =>
    obtain ⟨j, hj, e6, rfl, hown, hb⟩ := hrel
    have hbs := hb.size
    rcases j with _ | m
    · subst e6
      go_wp2
      go_ret
      exact ⟨_, rfl, by simpa using hown, hb⟩
    · rw [show (((m + 1 : Nat) : Int) - 1) = (m : Int) by omega] at e6
      subst e6
      have cm := own_cells hown m (by omega)
      have fm := hown.frozenAt m
      have hh := Lib.hid (half_at N (n - (m + 1)) h0)
      have hd0 : 0 ≤ N / 2 ^ (n - (m + 1)) := Int.ediv_nonneg h0 (Int.le_of_lt (Int.pow_pos (by decide)))
      have hd1 : N / 2 ^ (n - (m + 1)) ≤ 65535 := Int.le_trans (Int.ediv_le_self _ h0) h1
      have hst := Lib.hid (fun u => (hown.stored m u).1)
      have hmn : (m : Int) < n := by omega
      have hng : w.heap.size < wr.heap.size := (hown.lt w.heap.size rfl).2
      have hnm : n - (m + 1) + 1 = n - m := by omega
      have hnm2 : n - 1 - m = n - (m + 1) := by omega
      generalize hD : N / 2 ^ (n - (m + 1)) = D at *
      have HD := Lib.hid hD
      clear hD hown
      go_wp2
      go_roundw
      case rel =>
        refine ⟨m, by omega, rfl, by rw [hh.out, hnm], ?_, hb.setCell (Nat.le_refl _) _⟩
        have h := hst.out (.int .i64 (D % 2))
        rw [set_map_range] at h
        refine cast (congrArg _ (map_range_congr fun i hi => ?_)) h
        by_cases e : i = m
        · subst e; rw [if_pos rfl, if_pos (Nat.le_refl _), hnm2, HD.out]
        · rw [if_neg e]
          by_cases e2 : m + 1 ≤ i
          · rw [if_pos e2, if_pos (by omega)]
          · rw [if_neg e2, if_neg (by omega)]
      case measure => simp [intOf]


/-- The bits of the value with a Gray code. -/
def ubI (n v : Nat) (i : Int) : Int := ((ug n v : Nat) : Int) / 2 ^ i.toNat % 2
theorem ubI_nat (n v i : Nat) : ubI n v i = fl ((ug n v).testBit i) := by unfold ubI; rw [Int.toNat_natCast, nbit]
theorem ubI_bd (n v : Nat) (i : Int) : 0 ≤ ubI n v i ∧ ubI n v i ≤ 1 := by unfold ubI; omega
theorem ubI_step {n v m : Nat} (h : v < 2 ^ n) : fl (bitI n v m != ubI n v (m + 1)) = ubI n v m := by
  rw [show (m : Int) + 1 = ((m + 1 : Nat) : Int) by omega, ubI_nat, ubI_nat, bitI_nat h, fl_eq, ← ug_bit h]
theorem ubI_top {n v : Nat} (h : v < 2 ^ n) : ubI n v n = 0 := by
  rw [ubI_nat, Nat.testBit_lt_two_pow (ug_lt h)]; rfl
theorem bw_ubI {n v : Nat} (h : v < 2 ^ n) : bw (fun i => ubI n v i) (n + 1) = ((ug n v : Nat) : Int) := by
  have hg : ((ug n v : Nat) : Int) < 2 ^ (n + 1) := by
    have := ug_lt h
    have e : ((2 : Int) ^ (n + 1)) = ((2 ^ (n + 1) : Nat) : Int) := by simp
    rw [e, Nat.pow_succ]; omega
  exact bw_self (v := ((ug n v : Nat) : Int)) (by omega) hg
/-- The row while it is filled: from j on the bits of the value. -/
def rowI (n v j : Nat) (i : Nat) : Int := if i < j then bitI n v i else ubI n v i

set_option maxRecDepth 20000 in
set_option maxHeartbeats 1600000 in
theorem Ungray_c (n v : Nat) (w : World) (h1 : 1 ≤ n) (h2 : n ≤ 16) (hv : v < 2 ^ n) :
    Calls Try.prog 52 #[.agg #[.int .i64 n, .int .i64 (v : Int)]] w fun e w' => e = .returned (.agg #[.int .i64 n, .int .i64 ((ug n v : Nat) : Int)]) ∧ ∃ x : Aft w, w' = x.val := by
  have h3 : (0 : Int) ≤ (v : Int) := by omega
  have h4 : (v : Int) ≤ 65535 := by have := pow_16 h2; omega
  have HV := Lib.hid hv
  obtain ⟨i0, hi, hz0, hz1, hz2⟩ := info_parts int_info
  go_enter Try.func52, Try.ntmps52
  go_wp2_with fail
  refine (low_c (v : Int) n h3 h4 (by omega) _).mono ?_
  rintro e W1 ⟨Lv, rfl, hownL, hbL⟩
  have hs1 : w.heap.size + 1 < W1.heap.size := by have := hbL.size; simp at this; omega
  have e0 : W1.cell? ⟨w.heap.size, 0, none⟩ = some (.int .i64 n) := by rw [hbL.cell (p := ⟨w.heap.size, 0, none⟩) (by simp; omega)]; simp [go_sem]
  have e2 : W1.heap[w.heap.size + 1]? = some (.cells #[.int .i64 0, .int .i64 0] 23) := by rw [hbL.block _ (by simp)]; (repeat' (first | (with_reducible assumption) | omega | (simp only [World.size_alloc, World.size_drew, World.size_setCell]; omega) | (refine heap_alloc_at ?_; (first | rfl | (simp; done))) | (with_reducible refine heap_aft _ ?_ ?_) | (with_reducible refine heap_alloc' ?_ ?_) | (with_reducible refine heap_drew ?_)))
  have hbw : Below w.heap.size w W1 := ((((Below.refl _ _).alloc (Nat.le_refl _) _).alloc (by simp) _).trans (hbL.mono (by simp; omega)))
  obtain ⟨gl, cap, rfl, hg1, hg2⟩ := hownL.form (by omega)
  have hcl := own_cells hownL
  have hgl : gl < W1.heap.size := by simpa using hg2
  go_wp2_with fail
  refine (CopyInts_c n cap gl _ _ (by omega) (fun _ => rfl) hcl hgl).mono ?_
  rintro e W2 ⟨v2, rfl, hown2, hb2⟩
  have hs2 := hb2.size
  go_wp2_with (at_builtin; refine wpList_append_own _ rfl _ _ 58 rfl _ 3 i0 (.int .i64 0) 1 8 Try.underlying58 hi hz0 hz1 hz2 rfl (by decide) _ _ _ rfl (hown2.alloc _) ⟨_, 0, none⟩ 1 1 [.int .i64 _] rfl rfl (cell_one_new _ _ _) (fun x hx => by simp at hx; subst hx; rfl) (by unfold maxLen; omega) (by omega) (by first | omega | (simp; omega) | (simp at *; omega)) ?_; intro v3 W3 hown3 hgL hnnL; have hb3 := (hb2.alloc hs2 (.cells #[.int .i64 0] 3)).grown hgL (by simp; omega) (fun q hq => (hown2.lt q hq).1); have k0 : W3.cell? ⟨w.heap.size, 0, none⟩ = some (.int .i64 n) := by (rw [hb3.cell (p := ⟨w.heap.size, 0, none⟩) (by simp; omega)]; exact e0))
  have hs3 := hb3.size
  have hrow : ((List.range n).map fun i => Value.int .i64 ((v : Int) / 2 ^ i % 2)) ++ [.int .i64 0] = (List.range (n + 1)).map fun i => .int .i64 (rowI n v n i) := by
    rw [List.range_succ, List.map_append]
    refine congr (congrArg _ (map_range_congr fun i hi => ?_)) ?_
    · unfold rowI; rw [if_pos hi, bitI_in (by omega) (by omega), Int.toNat_natCast]
    · show [Value.int .i64 0] = [.int .i64 (rowI n v n n)]
      unfold rowI; rw [if_neg (by omega), ubI_top hv]
  rw [hrow] at hown3
  obtain ⟨go, cap3, rfl, hg3, hg4⟩ := hown3.form (by omega)
  have k2 : W3.heap[w.heap.size + 1]? = some (.cells #[.int .i64 0, .int .i64 0] 23) := by rw [hb3.block _ hs1]; exact e2
  have ks : w.heap.size + 1 < W1.heap.size := hs1
  have kl : ∀ m, m < n → W3.cell? ⟨gl, m, none⟩ = some (.int .i64 ((v : Int) / 2 ^ m % 2)) := fun m hm => by rw [hb3.cell (p := ⟨gl, m, none⟩) hgl]; exact hcl m hm
  have kb : Below w.heap.size w W3 := hbw.trans (hb3.mono (by omega))
  have K := Lib.hid kl
  have HX : Hid (W3.ownsRow W1.heap.size 3 1 (.slice (some ⟨go, 0, none⟩) (n + 1) cap3) (n + 1) ((List.range (n + 1)).map fun i => .int .i64 (rowI n v n i))) := Lib.hid hown3
  clear hownL hown2 hown3 hbL hcl e0 e2 hb2 hgL hnnL hrow hg2 hg4 kl
  go_wp2
  go_loopw [5] (fun v5 wr => ∃ j : Nat, j ≤ n ∧ v5 = .int .i64 ((j : Int) - 1) ∧ wr.ownsRow W1.heap.size 3 1 (.slice (some ⟨go, 0, none⟩) (n + 1) cap3) (n + 1) ((List.range (n + 1)).map fun i => .int .i64 (rowI n v j i)) ∧ Below W1.heap.size W3 wr) (fun v5 _ => (intOf v5 + 1).toNat)
  case atStart => exact ⟨n, by omega, by go_num, HX.out, Below.refl _ _⟩
  case round =>
    obtain ⟨j, hj, e5, hown, hb⟩ := hrel
    have hbs := hb.size
    have c0 : wr.cell? ⟨w.heap.size, 0, none⟩ = some (.int .i64 n) := by rw [hb.cell (p := ⟨w.heap.size, 0, none⟩) (by simp; omega)]; exact k0
    have lw : w.heap.size < wr.heap.size := by omega
    have lgl : gl < wr.heap.size := by omega
    have lgo : go < wr.heap.size := (hown.lt go rfl).2
    rcases j with _ | m
    · subst e5
      have hrl : ((List.range (n + 1)).map fun i => Value.int .i64 (rowI n v 0 i)) = bvals (ubI n v) (n + 1) := map_range_congr fun i hi => by unfold rowI; rw [if_neg (by omega)]
      rw [hrl] at hown
      have hB : Below w.heap.size w wr := kb.trans (hb.mono (by omega))
      have hwl := Lib.hid (wl_bw (fun i => ubI n v i) (n + 1))
      rw [bvals_ints] at hown
      have hlen : ((List.range ((n + 1))).map fun i : Nat => (ubI n v (i : Int) : Int)).length = (n + 1) := by simp
      have hall : ∀ q ∈ ((List.range ((n + 1))).map fun i : Nat => (ubI n v (i : Int) : Int)), 0 ≤ q ∧ q ≤ 1 := by
        intro q hq
        obtain ⟨i, _, rfl⟩ := List.mem_map.1 hq
        exact ubI_bd n v _
      have r2 : wr.heap[w.heap.size + 1]? = some (.cells #[.int .i64 0, .int .i64 0] 23) := by rw [hb.block _ ks]; exact k2
      have lr : w.heap.size + 1 < wr.heap.size := by omega
      have qr0 := cell_block (i := 0) r2
      have qr1 := cell_block (i := 1) r2
      have fr0 := free_block (i := 0) r2
      have fr1 := free_block (i := 1) r2
      simp at qr0 qr1
      have hwh : ∀ x : Aft wr, Calls Try.prog 78 #[(.slice (some ⟨go, 0, none⟩) (n + 1) cap3)] x.val fun e w' => e = .returned (.int .i64 (((ug n v : Nat) : Int))) ∧ x.val = w' := by
        intro x
        have ho := own_below hown x.pf
        have h0 := whole_c _ (by rw [hlen]; omega) (by rw [hlen]; omega) hall (.slice (some ⟨go, 0, none⟩) (n + 1) cap3) _ x.val (by rw [hlen]; exact ho)
        rw [hwl.out] at h0
        exact (by rw [bw_ubI HV.out] at h0; exact h0)
      have HW := Lib.hid hwh
      clear hwh hall hlen hown hrl k0 k2 lgo
      go_wp2_with fail
      refine wp_region_aft_tail 5 (by kernel_rfl) (by kernel_rfl) ?_
      simp only [List.take_succ_cons, List.take_zero, List.drop_succ_cons, List.drop_zero]
      repeat (go_big_quiet_step ((go_at_call 78; exact Calls.qs (HW.out _))))
      refine wpQuiet_nil ?_
      intro x
      have px0 := (x.cell _ _ lr).trans qr0
      have px1 := (x.cell _ _ lr).trans qr1
      have gx0 := (x.frozen _ 0 lr).trans fr0
      have gx1 := (x.frozen _ 1 lr).trans fr1
      have hB' : Below w.heap.size w x.val := x.below hB (by omega)
      generalize x.val = W3 at *
      clear HW qr0 qr1 fr0 fr1 hB hb
      go_wp2
      refine bodyPost_ret (by simp [results, Try.results52, go_sem, px0, px1]; try rfl) rfl ?_
      exact ⟨rfl, Below.aft (by (repeat' (first | (with_reducible exact Below.refl _ _) | (with_reducible assumption) | (with_reducible refine Below.alloc ?_ ?_ _) | (with_reducible refine Below.drew ?_) | (with_reducible refine Aft.below _ ?_ ?_) | (with_reducible refine Below.setCell_new ?_ ?_ _ _) | (with_reducible exact Nat.le_refl _) | (with_reducible refine Aft.le _ ?_) | (with_reducible refine le_alloc ?_) | (with_reducible refine le_drew ?_) | (with_reducible refine le_setCell ?_) | omega)))⟩
    · rw [show (((m + 1 : Nat) : Int) - 1) = (m : Int) by omega] at e5
      subst e5
      have cl0 : wr.cell? ⟨gl, m, none⟩ = some (.int .i64 (bitI n v m)) := by
        rw [hb.cell (p := ⟨gl, m, none⟩) hgl, K.out m (by omega), bitI_in (by omega) (by omega), Int.toNat_natCast]
      have cl1 : wr.cell? ⟨go, m + 1, none⟩ = some (.int .i64 (ubI n v (m + 1))) := by
        have h := own_cells hown (m + 1) (by omega)
        rw [h]; unfold rowI; rw [if_neg (by omega)]; rfl
      have cl2 : wr.cell? ⟨go, m, none⟩ = some (.int .i64 (rowI n v (m + 1) m)) := own_cells hown m (by omega)
      have fl2 := hown.frozenAt m
      have hw1 : IntKind.i64.wrap ((m : Int) + 1) = ((m + 1 : Nat) : Int) := by rw [IntWalk.i64_in _ (by omega)]; omega
      have hw2 : ((m + 1 : Nat) : Int).toNat = m + 1 := by omega
      have hw3 : (m : Int) < (n : Int) + 1 := by omega
      have hw4 : (m : Int) < n := by omega
      have hw5 : (m : Int) + 1 < (n : Int) + 1 := by omega
      have hw6 : (0 : Int) ≤ (m : Int) + 1 := by omega
      clear k0 k2
      go_wp2_with fail
      refine wp_region_kn 14 [.quiet, .quiet, .quiet, .quiet, .quiet, .quiet, .quiet, .quiet, .quiet, .quiet, .quiet, .quiet, .quiet, .quiet] rfl (by kernel_rfl) (by kernel_rfl) (by kernel_rfl) rfl (by kernel_rfl) (by kernel_rfl) ?hF ?_
      case hF =>
        simp only [List.take_succ_cons, List.take_zero, FitzL, fit2, true_and, and_true]
        repeat' apply And.intro
        all_goals first | trivial | rfl | (simp [Op.operands]; done)
      simp only [List.take_succ_cons, List.take_zero, List.drop_succ_cons, List.drop_zero]
      repeat (first | (with_reducible refine wqQ_new ?_) | (with_reducible refine wqQ_put ?_) | (with_reducible refine wqQ_late ?_) | (refine wqQ_step (fun K hK => ?_); go_simp; first | (refine hK _ ?_; clear hK K) | (apply Exists.intro; refine ⟨fun _ => ?_, hK _ ?_⟩; (first | (go_at_call 55; exact Calls.q0 (Bit_c _ _))); clear hK K)))
      refine wqQ_nil ?_
      repeat (with_reducible refine wqN_skip (by decide) ?_)
      refine wqN_nil ?_
      repeat (with_reducible refine wqP_skip (by decide) ?_)
      refine wqP_nil ?_
      repeat (with_reducible refine wqL_skip (by decide) ?_)
      refine wqL_nil ?_
      intro x hin
      clear hin
      have hst := ((own_below hown x.pf).stored m (.int .i64 (fl (bitI n v m != ubI n v (m + 1))))).1
      have hb' := hb.trans (x.pf.mono (by omega))
      have xc2 := (x.cell _ _ lgo).trans cl2
      have xf2 := (x.frozen _ m lgo).trans fl2
      generalize x.val = W4 at *
      have HS := Lib.hid hst
      clear hst cl0 cl1 cl2 fl2
      go_wp2
      go_roundw
      case rel =>
        refine ⟨m, by omega, rfl, ?_, hb'.setCell hg3 _⟩
        have h := HS.out
        rw [set_map_range] at h
        refine cast (congrArg _ (map_range_congr fun i hi => ?_)) h
        unfold rowI
        by_cases e : i = m
        · subst e; rw [if_pos rfl, if_neg (by omega), ubI_step HV.out]
        · rw [if_neg e]
          by_cases e2 : i < m
          · rw [if_pos e2, if_pos (by omega)]
          · rw [if_neg e2, if_neg (by omega)]
      case measure => simp [intOf]

end Go.Proofs.Ytlplphigjejahaa
