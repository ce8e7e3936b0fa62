/-
  Contracts of chapter 2 (graph): copies, the examples, the errors of graphs and of values.
-/
import Derived.Test.YtkdonapgonegkaaDoorGm
set_option linter.unusedSimpArgs false
set_option linter.unusedVariables false
namespace Go.Proofs.YtkdonapgonegkaaDoor
open Go.RowKit Go.BigFrame

theorem LiesI.of_own {w : World} {base g cap : Nat} {e : TypeId} {ns : List Int} (h : w.ownsRow base e 1 (.slice (some ⟨g, 0, none⟩) ns.length cap) ns.length (ns.map (.int .i64))) : LiesI w (some ⟨g, 0, none⟩) ns := by
  intro hp
  refine ⟨_, rfl, (h.lt g rfl).2, fun i x hi => ?_⟩
  exact h.cells (g := g) rfl i (.int .i64 x) (by simp [hi])
def CopiedI (w : World) (ns : List Int) (e : Ending) (w' : World) : Prop := ∃ A' cap', e = .returned (.slice A' ns.length cap') ∧ LiesI w' A' ns ∧ Below w.heap.size w w'

set_option maxRecDepth 100000 in
set_option maxHeartbeats 1600000 in
theorem CopyIntsI_c (A : Option Addr) (cap : Nat) (ns : List Int) (w : World) (h : LiesI w A ns) (hA : ns.length = 0 → A = none ∧ cap = 0 ∨ ∃ ad, A = some ad) (h16 : ns.length ≤ 65536) :
    Calls Tryd.prog 11 #[.slice A ns.length cap] w (CopiedI w ns) := by
  obtain ⟨i0, hi, hz0, hz1, hz2⟩ := info_parts int_info
  have hown0 := World.ownsRow_lit (base := w.heap.size) (e := 3) (size := 1) w #[] 0 (Nat.le_refl _) (by unfold maxLen; omega) rfl
  have fin : ∀ (v' : Value) (w3 : World), w3.ownsRow w.heap.size 3 1 v' (0 + ns.length) ([] ++ ns.map (.int .i64)) → ∃ A' cap', Ending.returned v' = .returned (.slice A' ns.length cap') ∧ LiesI w3 A' ns := by
    intro v' w3 ho
    rw [Nat.zero_add, List.nil_append] at ho
    rcases ho.2 with ⟨rfl, h0⟩ | ⟨g, cap', cur, rfl, _⟩
    · exact ⟨none, 0, by rw [h0], fun hp => by omega⟩
    · exact ⟨_, cap', rfl, LiesI.of_own ho⟩
  have HF := Lib.hid fin
  have HO : Hid (∀ u ∈ ns.map (Value.int .i64), u.oneCell' = true) := Lib.hid (by
    intro u hu
    obtain ⟨x, _, rfl⟩ := List.mem_map.1 hu
    rfl)
  have hm1 : 0 + ns.length ≤ maxLen := by unfold maxLen; omega
  have hm2 : (0 + ns.length) * 8 ≤ 140737488355328 := by omega
  have HL : Hid ((ns.map (Value.int .i64)).length = ns.length * 1) := Lib.hid (by simp)
  clear fin
  have way : ∀ ad : Addr, A = some ad → (0 < ns.length → ad.block < w.heap.size) → (∀ i x, ns[i]? = some x → w.cell? (ad.add i) = some (.int .i64 x)) →
      Calls Tryd.prog 11 #[.slice A ns.length cap] w (CopiedI w ns) := by
    rintro ad rfl hb hc
    have hcells : ∀ j u, (ns.map (Value.int .i64))[j]? = some u → (w.alloc (.cells #[] 3)).cell? (ad.add j) = some u := by
      intro j u hj
      rw [List.getElem?_map] at hj
      cases hx : ns[j]? with
      | none => rw [hx] at hj; cases hj
      | some x =>
        rw [hx] at hj
        injection hj with hj
        subst hj
        have hb' := hb (by have := (List.getElem?_eq_some_iff.1 hx).1; omega)
        rw [World.cell?_alloc_lt _ _ _ (by rw [addB]; exact hb')]
        exact hc j x hx
    have HC := Lib.hid hcells
    clear hcells hc h hA
    go_enter Tryd.func11, Tryd.ntmps11
    go_wp2_with (at_builtin; refine wpList_append_own _ rfl _ _ 22 rfl w.heap.size 3 i0 (.int .i64 0) 1 8 Tryd.underlying22 hi hz0 hz1 hz2 rfl (by decide) _ _ _ rfl hown0 ad ns.length cap (ns.map (.int .i64)) rfl HL.out HC.out HO.out hm1 hm2 (by simp) ?_; intro v' w3 hown' hgrow3 hnn)
    go_wp2
    go_ret
    obtain ⟨A', cap', h1, h2⟩ := HF.out v' w3 hown'
    refine ⟨A', cap', h1, h2, ((Below.refl _ _).alloc (Nat.le_refl _) _).grown hgrow3 (by simp) (fun q hq => ?_)⟩
    have hq' : some w.heap.size = some q := hq
    injection hq' with hq'
    omega
  by_cases h0 : 0 < ns.length
  · obtain ⟨ad, e, hb, hc⟩ := h h0
    exact way ad e (fun _ => hb) hc
  · rcases hA (by omega) with ⟨rfl, rfl⟩ | ⟨ad, e⟩
    · obtain rfl : ns = [] := List.eq_nil_of_length_eq_zero (by omega)
      have hown1 := hown0
      clear way hown0 HF HO HL h hA
      go_enter Tryd.func11, Tryd.ntmps11
      go_wp2_with (at_builtin; refine wpList_append_own_none rfl _ _ 22 rfl w.heap.size 3 i0 1 Tryd.underlying22 hi _ _ _ rfl hown1 rfl ?_)
      go_wp2
      go_ret
      exact ⟨some ⟨w.heap.size, 0, none⟩, 0, rfl, fun hp => by simp at hp, (Below.refl _ _).alloc (Nat.le_refl _) _⟩
    · exact way ad e (fun h => absurd h h0) fun i p hp => by rw [List.getElem?_eq_none (by omega)] at hp; cases hp

def CopiedN (w : World) (ns : List Nd) (e : Ending) (w' : World) : Prop := ∃ A' cap', e = .returned (.slice A' ns.length cap') ∧ ns.length ≤ cap' ∧ LiesN w' A' ns ∧ Below w.heap.size w w'
def exL : List Int := [4, 1]
def exN : List Nd := [⟨1, 4, [], 0⟩, ⟨0, 4, [], 3⟩, ⟨6, 4, [0, 1], 0⟩, ⟨1, 1, [], 1⟩, ⟨12, 4, [3, 2, 0], 0⟩, ⟨10, 1, [4, 1], 0⟩]
theorem chk_ex : chk exL exN = (0, 0) := by decide
theorem LiesI.block {w : World} {g : Nat} {T : TypeId} {ns : List Int} (h : w.heap[g]? = some (.cells (ns.map (Value.int .i64)).toArray T)) : LiesI w (some ⟨g, 0, none⟩) ns := fun _ => by
  refine ⟨_, rfl, (Array.getElem?_eq_some_iff.1 h).1, fun i x hi => ?_⟩
  have := cell_block (i := i) h
  rw [Addr.add_lit, Nat.zero_add, this]
  simp [hi]

set_option maxRecDepth 100000 in
set_option maxHeartbeats 1600000 in
theorem Leaves_c (w : World) : Calls Tryd.prog 42 #[] w (CopiedI w exL) := by
  go_enter Tryd.func42, Tryd.ntmps42
  go_wp2
  go_ret
  exact ⟨_, 2, rfl, LiesI.block (T := 3) (heap_alloc_new _ _), (Below.refl _ _).alloc (Nat.le_refl _) _⟩

set_option maxRecDepth 100000 in
set_option maxHeartbeats 1600000 in
theorem Nodes_c (w : World) : Calls Tryd.prog 43 #[] w (CopiedN w exN) := by
  go_enter Tryd.func43, Tryd.ntmps43
  go_wp2
  go_ret
  refine ⟨_, 6, rfl, by decide, ?_, (((((Below.refl _ _).alloc (Nat.le_refl _) _).alloc (by simp) _).alloc (by simp; omega) _).alloc (by simp; omega) _)⟩
  intro _
  refine ⟨_, rfl, by simp, fun i n hi => ?_⟩
  have hi6 : i < 6 := (List.getElem?_eq_some_iff.1 hi).1
  have hc : i = 0 ∨ i = 1 ∨ i = 2 ∨ i = 3 ∨ i = 4 ∨ i = 5 := by omega
  rcases hc with rfl | rfl | rfl | rfl | rfl | rfl
  all_goals
    obtain rfl := Option.some.inj hi
    refine ⟨by simp [go_sem], by simp [go_sem], by simp [go_sem], _, _, by simp [go_sem]; exact ⟨rfl, rfl⟩, ?_⟩
  all_goals first | (intro h; cases h; done) | exact LiesI.block (T := 3) (by (repeat' (first | omega | exact heap_alloc_new _ _ | exact heap_alloc_at (by simp; done) | (simp; omega) | (simp; done) | (refine heap_alloc' ?_ ?_))))

set_option maxRecDepth 100000 in
set_option maxHeartbeats 1600000 in
theorem errorOfGraph_c (A : Option Addr) (cap : Nat) (ls : List Int) (hls : ls.length ≤ 65536) (N : Option Addr) (capN : Nat) (ns : List Nd) (hns : ns.length ≤ 65536) (hcap : ns.length ≤ capN) (hla : ∀ n ∈ ns, n.args.length ≤ 65536) (w : World) (hA : LiesI w A ls) (hN : LiesN w N ns) (ht : TabOps w) :
    Calls Tryd.prog 54 #[.slice A ls.length cap, .slice N ns.length capN] w fun e w' => e = .returned (.int .i64 (chk ls ns).2) ∧ ∃ x : Aft w, w' = x.val := by
  have HC := Lib.hid (CheckNodes_c A cap ls hls N capN ns hns hcap hla w hA hN ht)
  clear hA hN ht hla hcap
  go_enter Tryd.func54, Tryd.ntmps54
  go_wp2_with fail
  refine HC.out.mono ?_
  rintro e w' ⟨rfl, y, rfl⟩
  go_wp2
  go_ret
  exact ⟨rfl, y, rfl⟩

/-- Two lists of numbers are the same. -/
def eqL (a b : List Int) : Bool := decide (a = b)
theorem eqL_at {a b : List Int} (hl : a.length = b.length) {k : Nat} {x y : Int} (hx : a[k]? = some x) (hy : b[k]? = some y) (hn : ¬ x = y) : eqL a b = false := by
  unfold eqL
  apply decide_eq_false
  rintro rfl
  rw [hx] at hy
  exact hn (Option.some.inj hy)
theorem eqL_all {a b : List Int} (hl : a.length = b.length) (h : a.take a.length = b.take a.length) : eqL a b = true := by
  unfold eqL
  apply decide_eq_true
  rwa [List.take_length, hl, List.take_length] at h

set_option maxRecDepth 100000 in
set_option maxHeartbeats 1600000 in
theorem Ints_c (A : Option Addr) (ca : Nat) (a : List Int) (ha : a.length ≤ 65536) (B : Option Addr) (cb : Nat) (b : List Int) (hb : b.length ≤ 65536) (w : World) (hA : LiesI w A a) (hB : LiesI w B b) :
    Calls Tryd.prog 19 #[.slice A a.length ca, .slice B b.length cb] w fun e w' => e = .returned (.bool (eqL a b)) ∧ ∃ z : Aft w, w' = z.val := by
  by_cases hl : a.length = b.length
  case neg =>
    have hl' : ((a.length : Int) == b.length) = false := by simpa using (by omega : ¬ (a.length : Int) = b.length)
    have HR := Lib.hid (show eqL a b = false by unfold eqL; apply decide_eq_false; rintro rfl; exact hl rfl)
    clear hA hB hl
    go_enter Tryd.func19, Tryd.ntmps19
    go_wp2
    go_ret
    exact ⟨retB HR.out.symm, Below.aft (Below.refl _ _)⟩
  have HA := Lib.hid hA
  have HB := Lib.hid hB
  have HL := Lib.hid hl
  rw [← hl]
  clear hA hB hl
  go_enter Tryd.func19, Tryd.ntmps19
  go_wp2
  go_loopw [5] (fun v5 wr => ∃ k : Nat, k ≤ a.length ∧ v5 = .int .i64 k ∧ a.take k = b.take k ∧ Below w.heap.size w wr) (fun v5 _ => a.length - (intOf v5).toNat)
  case atStart => exact ⟨0, by omega, rfl, by simp, Below.refl _ _⟩
  case round =>
    obtain ⟨k, hk, rfl, ht, hbw⟩ := hrel
    have HT := Lib.hid ht
    clear ht
    by_cases hlt : k < a.length
    · have hkk : (k : Int) < a.length := by omega
      have hlt2 : k < b.length := by have := HL.out; omega
      have HX := Lib.hid (List.getElem?_eq_getElem hlt)
      have HY := Lib.hid (List.getElem?_eq_getElem hlt2)
      have HTA := Lib.hid (List.take_succ_eq_append_getElem hlt)
      have HTB := Lib.hid (List.take_succ_eq_append_getElem hlt2)
      generalize a[k] = x at *
      generalize b[k] = y at *
      obtain ⟨aa, rfl, la, cx⟩ := (HA.out.below hbw).cell HX.out
      have hx : ∀ x' : Aft wr, x'.val.cell? (aa.add k) = some (.int .i64 x) := fun x' => (x'.pf.cell (p := aa.add k) (by rw [addB]; exact la)).trans cx
      obtain ⟨ab, rfl, lb, cy⟩ := (HB.out.below hbw).cell HY.out
      have hy : ∀ x' : Aft wr, x'.val.cell? (ab.add k) = some (.int .i64 y) := fun x' => (x'.pf.cell (p := ab.add k) (by rw [addB]; exact lb)).trans cy
      by_cases hxy : x = y
      · subst hxy
        go_wp2_with fail
        refine wp_region_aft (by kernel_rfl) (by kernel_rfl) ?_
        repeat (go_big_quiet_step (fail))
        refine wpQuiet_nil ?_
        intro z
        have hbz : Below w.heap.size w z.val := z.below hbw hbw.size
        go_wp2
        go_roundw
        case rel => exact ⟨k + 1, by omega, by go_num, by rw [HTA.out, HTB.out, HT.out], hbz⟩
        case measure => simp [intOf]; omega
      · have n1 : (x == y) = false := by simpa using hxy
        have HR := Lib.hid (eqL_at HL.out HX.out HY.out hxy)
        clear hxy
        go_wp2_with fail
        refine wp_region_aft (by kernel_rfl) (by kernel_rfl) ?_
        repeat (go_big_quiet_step (fail))
        refine wpQuiet_nil ?_
        intro z
        have hbz : Below w.heap.size w z.val := z.below hbw hbw.size
        go_wp2
        go_ret
        exact ⟨retB HR.out.symm, Below.aft hbz⟩
    · have HR := Lib.hid (show eqL a b = true from eqL_all HL.out (by
        have h := HT.out
        have e : k = a.length := by omega
        rw [e] at h; exact h))
      go_wp2
      go_ret
      exact ⟨retB HR.out.symm, Below.aft hbw⟩

end Go.Proofs.YtkdonapgonegkaaDoor
