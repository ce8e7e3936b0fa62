/-
  Contracts of the functions of chapter 1 (twenty-fifth part: permuted values).
-/
import Derived.Test.YtlplphigjejahaaBH
set_option linter.unusedSimpArgs false
set_option linter.unusedVariables false
namespace Go.Proofs.Ytlplphigjejahaa
open Go.RowKit Go.BigFrame

theorem scan_ok (n : Int) : ∀ (l seen : List Int), scan n seen l = 0 → ∀ x ∈ l, 0 ≤ x ∧ x ≤ n - 1
  | [], _, _, x, hx => by cases hx
  | y :: r, seen, h, x, hx => by
    unfold scan at h
    by_cases hw : win y 0 (n - 1) = true
    · rw [if_pos hw] at h
      by_cases hs : hasI seen y = true
      · rw [if_pos hs] at h; exact absurd h (by decide)
      · rw [if_neg hs] at h
        rcases List.mem_cons.1 hx with rfl | hx
        · simpa [win] using hw
        · exact scan_ok n r _ h x hx
    · rw [if_neg hw] at h; exact absurd h (by decide)
theorem permE_ok {wd v : Int} {ns : List Int} (h : permE wd v ns = 0) : bErr wd v = 0 ∧ (ns.length : Int) = wd ∧ ∀ x ∈ ns, 0 ≤ x ∧ x ≤ wd - 1 := by
  unfold permE at h
  by_cases h1 : bErr wd v = 0
  · rw [if_pos h1] at h
    unfold ordE at h
    by_cases h2 : (ns.length : Int) = wd
    · rw [if_pos h2] at h
      exact ⟨h1, h2, scan_ok wd _ _ (by unfold scanAt at h; simpa using h)⟩
    · rw [if_neg h2] at h; exact absurd h (by decide)
  · rw [if_neg h1] at h; exact absurd h h1
theorem permE_first (wd v : Int) (ns : List Int) : firstE [bErr wd v, ordE wd ns] = permE wd v ns := by
  unfold permE
  by_cases h1 : bErr wd v = 0
  · by_cases h2 : ordE wd ns = 0
    · simp [firstE, h1, h2]
    · simp [firstE, h1, h2]
  · simp [firstE, h1]
theorem LiesI.of_own {w : World} {base g cap : Nat} {e : TypeId} {ns : List Int} (h : w.ownsRow base e 1 (.slice (some ⟨g, 0, none⟩) ns.length cap) ns.length (ns.map (.int .i64))) : LiesI w (some ⟨g, 0, none⟩) ns := by
  intro hp
  refine ⟨_, rfl, (h.lt g rfl).2, fun i x hi => ?_⟩
  exact h.cells (g := g) rfl i (.int .i64 x) (by simp [hi])
def CopiedI (w : World) (ns : List Int) (e : Ending) (w' : World) : Prop := ∃ A' cap', e = .returned (.slice A' ns.length cap') ∧ LiesI w' A' ns ∧ Below w.heap.size w w'

set_option maxRecDepth 20000 in
set_option maxHeartbeats 3200000 in
theorem CopyIntsI_c (A : Option Addr) (cap : Nat) (ns : List Int) (w : World) (h : LiesI w A ns) (hA : ns.length = 0 → A = none ∧ cap = 0 ∨ ∃ ad, A = some ad) (h16 : ns.length ≤ 18) :
    Calls Try.prog 43 #[.slice A ns.length cap] w (CopiedI w ns) := by
  obtain ⟨i0, hi, hz0, hz1, hz2⟩ := info_parts int_info
  have hown0 := World.ownsRow_lit (base := w.heap.size) (e := 3) (size := 1) w #[] 0 (Nat.le_refl _) (by unfold maxLen; omega) rfl
  have fin : ∀ (v' : Value) (w3 : World), w3.ownsRow w.heap.size 3 1 v' (0 + ns.length) ([] ++ ns.map (.int .i64)) → ∃ A' cap', Ending.returned v' = .returned (.slice A' ns.length cap') ∧ LiesI w3 A' ns := by
    intro v' w3 ho
    rw [Nat.zero_add, List.nil_append] at ho
    rcases ho.2 with ⟨rfl, h0⟩ | ⟨g, cap', cur, rfl, _⟩
    · exact ⟨none, 0, by rw [h0], fun hp => by omega⟩
    · exact ⟨_, cap', rfl, LiesI.of_own ho⟩
  have HF := Lib.hid fin
  have HO : Hid (∀ u ∈ ns.map (Value.int .i64), u.oneCell' = true) := Lib.hid (by
    intro u hu
    obtain ⟨x, _, rfl⟩ := List.mem_map.1 hu
    rfl)
  have hm1 : 0 + ns.length ≤ maxLen := by unfold maxLen; omega
  have hm2 : (0 + ns.length) * 8 ≤ 140737488355328 := by omega
  have HL : Hid ((ns.map (Value.int .i64)).length = ns.length * 1) := Lib.hid (by simp)
  clear fin
  have way : ∀ ad : Addr, A = some ad → (0 < ns.length → ad.block < w.heap.size) → (∀ i x, ns[i]? = some x → w.cell? (ad.add i) = some (.int .i64 x)) →
      Calls Try.prog 43 #[.slice A ns.length cap] w (CopiedI w ns) := by
    rintro ad rfl hb hc
    have hcells : ∀ j u, (ns.map (Value.int .i64))[j]? = some u → (w.alloc (.cells #[] 3)).cell? (ad.add j) = some u := by
      intro j u hj
      rw [List.getElem?_map] at hj
      cases hx : ns[j]? with
      | none => rw [hx] at hj; cases hj
      | some x =>
        rw [hx] at hj
        injection hj with hj
        subst hj
        have hb' := hb (by have := (List.getElem?_eq_some_iff.1 hx).1; omega)
        rw [World.cell?_alloc_lt _ _ _ (by rw [addB]; exact hb')]
        exact hc j x hx
    have HC := Lib.hid hcells
    clear hcells hc h hA
    go_enter Try.func43, Try.ntmps43
    go_wp2_with (at_builtin; refine wpList_append_own _ rfl _ _ 58 rfl w.heap.size 3 i0 (.int .i64 0) 1 8 Try.underlying58 hi hz0 hz1 hz2 rfl (by decide) _ _ _ rfl hown0 ad ns.length cap (ns.map (.int .i64)) rfl HL.out HC.out HO.out hm1 hm2 (by simp) ?_; intro v' w3 hown' hgrow3 hnn)
    go_wp2
    go_ret
    obtain ⟨A', cap', h1, h2⟩ := HF.out v' w3 hown'
    refine ⟨A', cap', h1, h2, ((Below.refl _ _).alloc (Nat.le_refl _) _).grown hgrow3 (by simp) (fun q hq => ?_)⟩
    have hq' : some w.heap.size = some q := hq
    injection hq' with hq'
    omega
  by_cases h0 : 0 < ns.length
  · obtain ⟨ad, e, hb, hc⟩ := h h0
    exact way ad e (fun _ => hb) hc
  · rcases hA (by omega) with ⟨rfl, rfl⟩ | ⟨ad, e⟩
    · obtain rfl : ns = [] := List.eq_nil_of_length_eq_zero (by omega)
      have hown1 := hown0
      clear way hown0 HF HO HL h hA
      go_enter Try.func43, Try.ntmps43
      go_wp2_with (at_builtin; refine wpList_append_own_none rfl _ _ 58 rfl w.heap.size 3 i0 1 Try.underlying58 hi _ _ _ rfl hown1 rfl ?_)
      go_wp2
      go_ret
      exact ⟨some ⟨w.heap.size, 0, none⟩, 0, rfl, fun hp => by simp at hp, (Below.refl _ _).alloc (Nat.le_refl _) _⟩
    · exact way ad e (fun h => absurd h h0) fun i p hp => by rw [List.getElem?_eq_none (by omega)] at hp; cases hp

set_option maxRecDepth 20000 in
set_option maxHeartbeats 3200000 in
theorem Permuted_bad (A : Option Addr) (cap : Nat) (ns : List Int) (wd v er : Int) (w : World) (h : LiesI w A ns) (hl : ns.length ≤ 18) (hwf : ∀ x ∈ ns, (Lit.int .i64 x).wf = true) (hn : er ≠ 0) (h9 : permE wd v ns = er) :
    Calls Try.prog 42 #[.agg #[.int .i64 wd, .int .i64 v], .slice A ns.length cap] w fun e w' => e = .returned (.tuple #[.agg #[.int .i64 0, .int .i64 0], .int .i64 er]) ∧ ∃ x : Aft w, w' = x.val := by
  have hn' : (er == 0) = false := by simpa using hn
  have hb_ : (er != 0) = true := by simpa using hn
  have h9' : Hid (firstE [bErr wd v, ordE wd ns] = er) := Lib.hid (by rw [permE_first, h9])
  have hEO := Lib.hid fun (W : World) (hb : Below w.heap.size w W) => errorOfOrder_c A cap ns wd W (h.aft ⟨W, hb⟩) hl hwf
  clear hn h9 h hwf
  go_enter Try.func42, Try.ntmps42
  go_wp2_with fail
  refine wp_region_aft_tail 6 (by kernel_rfl) (by kernel_rfl) ?_
  simp only [List.take_succ_cons, List.take_zero, List.drop_succ_cons, List.drop_zero]
  repeat (go_big_quiet_step (first | (go_at_call 14; exact Calls.qa (CheckBits_c _ _ _)) | (go_at_call 86; exact Calls.qa (hEO.out _ (by (repeat' (first | (with_reducible exact Below.refl _ _) | (with_reducible assumption) | (with_reducible exact Aft.pf _) | (with_reducible refine Below.alloc ?_ ?_ _) | (with_reducible refine Below.drew ?_) | (with_reducible refine Aft.below _ ?_ ?_) | (with_reducible refine Below.setCell_new ?_ ?_ _ _) | (with_reducible exact Nat.le_refl _) | (with_reducible refine Aft.le _ ?_) | (with_reducible refine le_alloc ?_) | (with_reducible refine le_drew ?_) | (with_reducible refine le_setCell ?_) | omega)))))))
  refine wpQuiet_nil ?_
  intro x1
  have zx1_0 : w.heap.size < x1.val.heap.size := by have := x1.size; (try simp at this); omega
  have zx1_1 : w.heap.size + 1 < x1.val.heap.size := by have := x1.size; (try simp at this); omega
  have zx1_2 : w.heap.size + 1 + 1 < x1.val.heap.size := by have := x1.size; (try simp at this); omega
  go_wp2_with fail
  refine (firstError2 _ _ _ _ _ _ (by exact heap_alloc_at (by simp [go_sem]))).mono ?_
  rw [h9'.out]
  rintro e w' ⟨rfl, rfl⟩
  go_wp2
  refine bodyPost_ret (by simp [results, Try.results42, go_sem]; try rfl) rfl ?_
  exact ⟨rfl, Below.aft (by (repeat' (first | (with_reducible exact Below.refl _ _) | (with_reducible refine Below.alloc ?_ ?_ _) | (with_reducible refine Below.drew ?_) | (with_reducible refine Aft.below _ ?_ ?_) | (with_reducible refine Below.setCell_new ?_ ?_ _ _) | (with_reducible exact Nat.le_refl _) | (with_reducible refine Aft.le _ ?_) | (with_reducible refine le_alloc ?_) | (with_reducible refine le_drew ?_) | (with_reducible refine le_setCell ?_) | omega)))⟩

set_option maxRecDepth 20000 in
set_option maxHeartbeats 3200000 in
theorem Permuted_c (A : Option Addr) (cap : Nat) (ns : List Int) (n : Nat) (v : Int) (w : World) (h : LiesI w A ns) (hl : ns.length ≤ 18) (hwf : ∀ x ∈ ns, (Lit.int .i64 x).wf = true) (h1 : 1 ≤ n) (h2 : n ≤ 16) (h9 : permE n v ns = 0) :
    Calls Try.prog 42 #[.agg #[.int .i64 n, .int .i64 v], .slice A ns.length cap] w fun e w' => e = .returned (.tuple #[.agg #[.int .i64 n, .int .i64 (bw (fun i => bitI n v (nth ns i)) n)], .int .i64 0]) ∧ ∃ x : Aft w, w' = x.val := by
  obtain ⟨e1, e2, e3⟩ := permE_ok h9
  obtain ⟨ad, rfl, _, _⟩ := h (by omega)
  have h9' : Hid (firstE [bErr n v, ordE n ns] = 0) := Lib.hid (by rw [permE_first, h9])
  have HLI := Lib.hid h
  have hEO := Lib.hid fun (W : World) (hb : Below w.heap.size w W) => errorOfOrder_c (some ad) cap ns n W (h.aft ⟨W, hb⟩) hl hwf
  clear h9 h hwf e1 e3
  go_enter Try.func42, Try.ntmps42
  go_wp2_with fail
  refine wp_region_aft_tail 6 (by kernel_rfl) (by kernel_rfl) ?_
  simp only [List.take_succ_cons, List.take_zero, List.drop_succ_cons, List.drop_zero]
  repeat (go_big_quiet_step (first | (go_at_call 14; exact Calls.qa (CheckBits_c _ _ _)) | (go_at_call 86; exact Calls.qa (hEO.out _ (by (repeat' (first | (with_reducible exact Below.refl _ _) | (with_reducible assumption) | (with_reducible exact Aft.pf _) | (with_reducible refine Below.alloc ?_ ?_ _) | (with_reducible refine Below.drew ?_) | (with_reducible refine Aft.below _ ?_ ?_) | (with_reducible refine Below.setCell_new ?_ ?_ _ _) | (with_reducible exact Nat.le_refl _) | (with_reducible refine Aft.le _ ?_) | (with_reducible refine le_alloc ?_) | (with_reducible refine le_drew ?_) | (with_reducible refine le_setCell ?_) | omega)))))))
  refine wpQuiet_nil ?_
  intro x1
  have zx1_0 : w.heap.size < x1.val.heap.size := by have := x1.size; (try simp at this); omega
  have zx1_1 : w.heap.size + 1 < x1.val.heap.size := by have := x1.size; (try simp at this); omega
  have zx1_2 : w.heap.size + 1 + 1 < x1.val.heap.size := by have := x1.size; (try simp at this); omega
  go_wp2_with fail
  refine (firstError2 _ _ _ _ _ _ (by exact heap_alloc_at (by simp [go_sem]))).mono ?_
  rw [h9'.out]
  rintro e w' ⟨rfl, rfl⟩
  have ca : x1.val.cell? ⟨w.heap.size, 0, none⟩ = some (.int .i64 n) := by (repeat' (first | (with_reducible assumption) | omega | (simp only [World.size_alloc, World.size_drew, World.size_setCell]; omega) | (simp [go_sem]; done) | (with_reducible refine Aft.lt' _ ?_) | (with_reducible refine lt_alloc ?_) | (with_reducible refine lt_drew ?_) | (with_reducible refine lt_setCell ?_) | (with_reducible refine cell_aft _ ?_ ?_) | (with_reducible refine cell_alloc ?_ ?_) | (with_reducible refine cell_drew' ?_) | (with_reducible refine cell_setCell ?_ ?_)))
  have cv : x1.val.cell? ⟨w.heap.size, 1, none⟩ = some (.int .i64 v) := by (repeat' (first | (with_reducible assumption) | omega | (simp only [World.size_alloc, World.size_drew, World.size_setCell]; omega) | (simp [go_sem]; done) | (with_reducible refine Aft.lt' _ ?_) | (with_reducible refine lt_alloc ?_) | (with_reducible refine lt_drew ?_) | (with_reducible refine lt_setCell ?_) | (with_reducible refine cell_aft _ ?_ ?_) | (with_reducible refine cell_alloc ?_ ?_) | (with_reducible refine cell_drew' ?_) | (with_reducible refine cell_setCell ?_ ?_)))
  have co : x1.val.cell? ⟨w.heap.size + 1, 0, none⟩ = some (.slice (some ad) ns.length cap) := by (repeat' (first | (with_reducible assumption) | omega | (simp only [World.size_alloc, World.size_drew, World.size_setCell]; omega) | (simp [go_sem]; done) | (with_reducible refine Aft.lt' _ ?_) | (with_reducible refine lt_alloc ?_) | (with_reducible refine lt_drew ?_) | (with_reducible refine lt_setCell ?_) | (with_reducible refine cell_aft _ ?_ ?_) | (with_reducible refine cell_alloc ?_ ?_) | (with_reducible refine cell_drew' ?_) | (with_reducible refine cell_setCell ?_ ?_)))
  have hbx : Below w.heap.size w x1.val := by (repeat' (first | (with_reducible exact Below.refl _ _) | (with_reducible assumption) | (with_reducible exact Aft.pf _) | (with_reducible refine Below.alloc ?_ ?_ _) | (with_reducible refine Below.drew ?_) | (with_reducible refine Aft.below _ ?_ ?_) | (with_reducible refine Below.setCell_new ?_ ?_ _ _) | (with_reducible exact Nat.le_refl _) | (with_reducible refine Aft.le _ ?_) | (with_reducible refine le_alloc ?_) | (with_reducible refine le_drew ?_) | (with_reducible refine le_setCell ?_) | omega))
  go_wp2_with fail
  clear hEO
  refine (bitwise_Permuted n v w.heap.size (w.heap.size + 1) cap ad ns (x1.val.alloc (.cells #[.int .i64 (bErr n v), .int .i64 (ordE n ns)] 27)) h1 h2 (by omega) ?c1 ?c2 ?c3 ?c4 ?c5 ?c6).mono ?_
  case c1 => exact cell_alloc (by omega) ca
  case c2 => exact cell_alloc (by omega) cv
  case c3 => exact cell_alloc (by omega) co
  case c4 => exact HLI.out.aft ⟨x1.val.alloc (.cells #[.int .i64 (bErr n v), .int .i64 (ordE n ns)] 27), hbx.alloc hbx.size _⟩
  case c5 => (simp; omega)
  case c6 => (simp; omega)
  clear ca cv co
  rintro e w' ⟨rfl, x2, rfl⟩
  have zx2_0 : w.heap.size < x2.val.heap.size := by have := x2.size; (try simp at this); omega
  have zx2_1 : w.heap.size + 1 < x2.val.heap.size := by have := x2.size; (try simp at this); omega
  have zx2_2 : w.heap.size + 1 + 1 < x2.val.heap.size := by have := x2.size; (try simp at this); omega
  have rr : x2.val.heap[w.heap.size + 1 + 1]? = some (.cells #[.int .i64 0, .int .i64 0] 23) := by (repeat' (first | (with_reducible assumption) | omega | (simp only [World.size_alloc, World.size_drew, World.size_setCell]; omega) | exact heap_alloc_at (by first | rfl | (simp; done)) | (with_reducible refine heap_aft _ ?_ ?_) | (with_reducible refine heap_alloc' ?_ ?_) | (with_reducible refine heap_drew ?_)))
  have q0 := cell_block (i := 0) rr
  have f0 := free_block (i := 0) rr
  have q1 := cell_block (i := 1) rr
  have f1 := free_block (i := 1) rr
  simp at q0 q1
  have hb0' : Below w.heap.size w x2.val := by (repeat' (first | (with_reducible exact Below.refl _ _) | (with_reducible refine Below.alloc ?_ ?_ _) | (with_reducible refine Below.drew ?_) | (with_reducible refine Aft.below _ ?_ ?_) | (with_reducible refine Below.setCell_new ?_ ?_ _ _) | (with_reducible exact Nat.le_refl _) | (with_reducible refine Aft.le _ ?_) | (with_reducible refine le_alloc ?_) | (with_reducible refine le_drew ?_) | (with_reducible refine le_setCell ?_) | omega))
  clear rr
  generalize x2.val = W' at *
  go_wp2
  refine bodyPost_ret (by simp [results, Try.results42, go_sem, q0, q1]; try rfl) rfl ?_
  exact ⟨rfl, Below.aft (by (repeat' (first | (with_reducible exact Below.refl _ _) | (with_reducible assumption) | (with_reducible refine Below.alloc ?_ ?_ _) | (with_reducible refine Below.drew ?_) | (with_reducible refine Aft.below _ ?_ ?_) | (with_reducible refine Below.setCell_new ?_ ?_ _ _) | (with_reducible exact Nat.le_refl _) | (with_reducible refine Aft.le _ ?_) | (with_reducible refine le_alloc ?_) | (with_reducible refine le_drew ?_) | (with_reducible refine le_setCell ?_) | omega)))⟩


theorem bvals_snoc (F : Int → Int) (j : Nat) : bvals F j ++ [.int .i64 (F j)] = bvals F (j + 1) := (bvals_succ F j).symm
set_option maxRecDepth 20000 in
set_option maxHeartbeats 3200000 in
theorem Permute_c (A : Option Addr) (cap : Nat) (ns : List Int) (n : Nat) (v : Int) (w : World) (h : LiesI w A ns) (hl : ns.length = n) (hr : ∀ x ∈ ns, 0 ≤ x ∧ x ≤ (n : Int) - 1) (h1 : 1 ≤ n) (h2 : n ≤ 16) (h3 : 0 ≤ v) (h4 : v ≤ 65535) :
    Calls Try.prog 48 #[.agg #[.int .i64 n, .int .i64 v], .slice A ns.length cap] w fun e w' => e = .returned (.agg #[.int .i64 n, .int .i64 (bw (fun i => bitI n v (nth ns i)) n)]) ∧ ∃ x : Aft w, w' = x.val := by
  obtain ⟨ad, rfl, hbk, hc⟩ := h (by omega)
  have HC := Lib.hid hc
  have HRG := Lib.hid hr
  rw [hl]
  clear h hc hr
  obtain ⟨i0, hi, hz0, hz1, hz2⟩ := info_parts int_info
  go_enter Try.func48, Try.ntmps48
  go_wp2_with fail
  refine (low_c v n h3 h4 (by omega) _).mono ?_
  rintro e W1 ⟨Lv, rfl, hownL, hbL⟩
  have hs1 : w.heap.size + 1 < W1.heap.size := by have := hbL.size; simp at this; omega
  have e0 : W1.cell? ⟨w.heap.size, 0, none⟩ = some (.int .i64 n) := by rw [hbL.cell (p := ⟨w.heap.size, 0, none⟩) (by simp; omega)]; simp [go_sem]
  have e2 : W1.heap[w.heap.size + 1]? = some (.cells #[.int .i64 0, .int .i64 0] 23) := by rw [hbL.block _ (by simp)]; (repeat' (first | (with_reducible assumption) | omega | (simp only [World.size_alloc, World.size_drew, World.size_setCell]; omega) | (refine heap_alloc_at ?_; (first | rfl | (simp; done))) | (with_reducible refine heap_aft _ ?_ ?_) | (with_reducible refine heap_alloc' ?_ ?_) | (with_reducible refine heap_drew ?_)))
  have hbw : Below w.heap.size w W1 := ((((Below.refl _ _).alloc (Nat.le_refl _) _).alloc (by simp) _).trans (hbL.mono (by simp; omega)))
  obtain ⟨gl, capL, rfl, hg1, hg2⟩ := hownL.form (by omega)
  have hcl := own_cells hownL
  have hgl : gl < W1.heap.size := by simpa using hg2
  have K := Lib.hid hcl
  have k0 := e0
  have k2 := e2
  have ks : w.heap.size + 1 < W1.heap.size := hs1
  have kb : Below w.heap.size w W1 := hbw
  clear hownL hbL hcl e0 e2 hbw hg1 hg2
  go_wp2
  go_loopw [6, 7] (fun v6 v7 wr => ∃ j : Nat, j ≤ n ∧ v7 = .int .i64 j ∧ wr.ownsRow W1.heap.size 3 1 v6 j (bvals (fun i => bitI n v (nth ns i)) j) ∧ Below W1.heap.size W1 wr) (fun _ v7 _ => n - (intOf v7).toNat)
  case atStart => exact ⟨0, by omega, rfl, World.ownsRow_nil _ _ _ _, Below.refl _ _⟩
  case round =>
    obtain ⟨j, hj, rfl, hown, hb⟩ := hrel
    have hbs := hb.size
    have c0 : wr.cell? ⟨w.heap.size, 0, none⟩ = some (.int .i64 n) := by rw [hb.cell (p := ⟨w.heap.size, 0, none⟩) (by simp; omega)]; exact k0
    have lw : w.heap.size < wr.heap.size := by omega
    have lgl : gl < wr.heap.size := by omega
    by_cases hlt : j < n
    · have hx : ns[j]? = some (nth ns j) := by have := nth_at (ns := ns) (k := j) (by omega); rwa [Int.toNat_natCast] at this
      obtain ⟨r0, r1⟩ := HRG.out _ (List.mem_of_getElem? hx)
      have cx : wr.cell? (ad.add j) = some (.int .i64 (nth ns j)) := (hb.cell (p := ad.add j) (by rw [addB]; exact Nat.lt_of_lt_of_le hbk kb.size)).trans ((kb.cell (p := ad.add j) (by rw [addB]; exact hbk)).trans (HC.out _ _ hx))
      clear hx
      have HS := Lib.hid (bvals_snoc (fun i => bitI n v (nth ns i)) j)
      generalize nth ns j = X at *
      have cl : wr.cell? ⟨gl, X.toNat, none⟩ = some (.int .i64 (bitI n v X)) := by
        rw [hb.cell (p := ⟨gl, X.toNat, none⟩) hgl, K.out X.toNat (by omega), bitI_in (by omega) (by omega)]
      have hjn : (j : Int) < n := by omega
      have hxn : X < n := by omega
      clear k0 k2
      go_wp2_with (at_builtin; refine wpList_append_own _ rfl _ _ 58 rfl _ 3 i0 (.int .i64 0) 1 8 Try.underlying58 hi hz0 hz1 hz2 rfl (by decide) _ _ _ rfl (hown.alloc _) ⟨_, 0, none⟩ 1 1 [.int .i64 _] rfl rfl (cell_one_new _ _ _) (fun x hx => by simp at hx; subst hx; rfl) (by unfold maxLen; omega) (by omega) (by first | omega | (simp; omega) | (simp at *; omega)) ?_; intro v' w3 hown' hgrow3 hnn)
      go_wp2
      go_roundw
      case rel => exact ⟨j + 1, by omega, by go_num, by rw [← HS.out]; exact hown', (hb.alloc hbs (.cells #[.int .i64 (bitI n v X)] 3)).grown hgrow3 (by simp; omega) (fun q hq => (hown.lt q hq).1)⟩
      case measure => simp [intOf]; omega
    · obtain rfl : j = n := by omega
      have hB : Below w.heap.size w wr := kb.trans (hb.mono (by omega))
      have hwl := Lib.hid (wl_bw (fun i => (fun i => bitI j v (nth ns i)) i) j)
      rw [bvals_ints] at hown
      have hlen : ((List.range (j)).map fun i : Nat => ((fun i => bitI j v (nth ns i)) (i : Int) : Int)).length = j := by simp
      have hall : ∀ q ∈ ((List.range (j)).map fun i : Nat => ((fun i => bitI j v (nth ns i)) (i : Int) : Int)), 0 ≤ q ∧ q ≤ 1 := by
        intro q hq
        obtain ⟨i, _, rfl⟩ := List.mem_map.1 hq
        exact bitI_bd _ _ _
      have r2 : wr.heap[w.heap.size + 1]? = some (.cells #[.int .i64 0, .int .i64 0] 23) := by rw [hb.block _ ks]; exact k2
      have lr : w.heap.size + 1 < wr.heap.size := by omega
      have qr0 := cell_block (i := 0) r2
      have qr1 := cell_block (i := 1) r2
      have fr0 := free_block (i := 0) r2
      have fr1 := free_block (i := 1) r2
      simp at qr0 qr1
      have hwh : ∀ x : Aft wr, Calls Try.prog 78 #[u6] x.val fun e w' => e = .returned (.int .i64 (bw (fun i => bitI j v (nth ns i)) j)) ∧ x.val = w' := by
        intro x
        have ho := own_below hown x.pf
        have h0 := whole_c _ (by rw [hlen]; omega) (by rw [hlen]; omega) hall u6 _ x.val (by rw [hlen]; exact ho)
        rw [hwl.out] at h0
        exact h0
      have HW := Lib.hid hwh
      clear hwh hall hlen hown k0 k2
      go_wp2_with fail
      refine wp_region_aft_tail 5 (by kernel_rfl) (by kernel_rfl) ?_
      simp only [List.take_succ_cons, List.take_zero, List.drop_succ_cons, List.drop_zero]
      repeat (go_big_quiet_step ((go_at_call 78; exact Calls.qs (HW.out _))))
      refine wpQuiet_nil ?_
      intro x
      have px0 := (x.cell _ _ lr).trans qr0
      have px1 := (x.cell _ _ lr).trans qr1
      have gx0 := (x.frozen _ 0 lr).trans fr0
      have gx1 := (x.frozen _ 1 lr).trans fr1
      have hB' : Below w.heap.size w x.val := x.below hB (by omega)
      generalize x.val = W3 at *
      clear HW qr0 qr1 fr0 fr1 hB hb
      go_wp2
      refine bodyPost_ret (by simp [results, Try.results48, go_sem, px0, px1]; try rfl) rfl ?_
      exact ⟨rfl, Below.aft (by (repeat' (first | (with_reducible exact Below.refl _ _) | (with_reducible assumption) | (with_reducible refine Below.alloc ?_ ?_ _) | (with_reducible refine Below.drew ?_) | (with_reducible refine Aft.below _ ?_ ?_) | (with_reducible refine Below.setCell_new ?_ ?_ _ _) | (with_reducible exact Nat.le_refl _) | (with_reducible refine Aft.le _ ?_) | (with_reducible refine le_alloc ?_) | (with_reducible refine le_drew ?_) | (with_reducible refine le_setCell ?_) | omega)))⟩

end Go.Proofs.Ytlplphigjejahaa
