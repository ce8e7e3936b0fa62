/-
  Contracts of chapter 2 (graph): the references' ArgCount and widthsFit.
-/
import Derived.Test.YtkdonapgonegkaaDoorGh
import Derived.Deep.AppendLies
import Derived.Deep.LoopGhost
import Derived.OwnWalk
set_option linter.unusedSimpArgs false
set_option linter.unusedVariables false
namespace Go.Proofs.YtkdonapgonegkaaDoor
open Go.RowKit Go.BigFrame

theorem int_info : (Tryd.prog.info? 3).map (fun i => (i.zero, i.size, i.bytes)) = some (some (.int .i64 0), 1, 8) := by kernel_rfl

theorem lt_of_get' {w : World} {g : Nat} {ob : Obj} (h : w.heap[g]? = some ob) : g < w.heap.size := (Array.getElem?_eq_some_iff.1 h).1
theorem own_below {w w' : World} {B : Nat} {e : TypeId} {k : Nat} {v : Value} {n : Nat} {xs : List Value} (h : w.ownsRow B e k v n xs) (hb : Below w.heap.size w w') : w'.ownsRow B e k v n xs := by
  refine ⟨h.1, h.2.imp id ?_⟩
  rintro ⟨g, cap, cur, h1, h2, h3, h4⟩
  exact ⟨g, cap, cur, h1, h2, (hb.block g (lt_of_get' h3)).trans h3, h4⟩
theorem own_cells {w : World} {base : Nat} {e : TypeId} {g cap n : Nat} {f : Nat → Value} (h : w.ownsRow base e 1 (.slice (some ⟨g, 0, none⟩) n cap) n ((List.range n).map f)) : ∀ m, m < n → w.cell? ⟨g, m, none⟩ = some (f m) := by
  intro m hm
  have := h.cells (g := g) rfl m (f m) (by simp [hm])
  rwa [Addr.add_lit, Nat.zero_add] at this

set_option maxRecDepth 100000 in
set_option maxHeartbeats 1600000 in
theorem ArgCount_c (op : Int) (w : World) : Calls Tryd.prog 102 #[.int .i64 op] w fun e w' => e = .returned (.int .i64 (argN op)) ∧ w = w' := by
  by_cases o0 : op = 0
  · subst o0
    have HR := Lib.hid (show argN 0 = 0 from rfl)
    rw [HR.out]
    go_enter Tryd.func102, Tryd.ntmps102
    go_wp2
    go_ret
    exact ⟨rfl, rfl⟩
  by_cases o1 : op = 1
  · subst o1
    have HR := Lib.hid (show argN 1 = 0 from rfl)
    rw [HR.out]
    go_enter Tryd.func102, Tryd.ntmps102
    go_wp2
    go_ret
    exact ⟨rfl, rfl⟩
  by_cases o2 : op = 2
  · subst o2
    have HR := Lib.hid (show argN 2 = 1 from rfl)
    rw [HR.out]
    go_enter Tryd.func102, Tryd.ntmps102
    go_wp2
    go_ret
    exact ⟨rfl, rfl⟩
  by_cases o14 : op = 14
  · subst o14
    have HR := Lib.hid (show argN 14 = 1 from rfl)
    rw [HR.out]
    go_enter Tryd.func102, Tryd.ntmps102
    go_wp2
    go_ret
    exact ⟨rfl, rfl⟩
  by_cases o15 : op = 15
  · subst o15
    have HR := Lib.hid (show argN 15 = 1 from rfl)
    rw [HR.out]
    go_enter Tryd.func102, Tryd.ntmps102
    go_wp2
    go_ret
    exact ⟨rfl, rfl⟩
  by_cases o16 : op = 16
  · subst o16
    have HR := Lib.hid (show argN 16 = 1 from rfl)
    rw [HR.out]
    go_enter Tryd.func102, Tryd.ntmps102
    go_wp2
    go_ret
    exact ⟨rfl, rfl⟩
  by_cases o12 : op = 12
  · subst o12
    have HR := Lib.hid (show argN 12 = 3 from rfl)
    rw [HR.out]
    go_enter Tryd.func102, Tryd.ntmps102
    go_wp2
    go_ret
    exact ⟨rfl, rfl⟩
  have HR := Lib.hid (show argN op = 2 by unfold argN; rw [if_neg (by omega), if_neg (by omega), if_neg (by omega)])
  rw [HR.out]
  have n0 : (op == 0) = false := by simpa using o0
  have n1 : (op == 1) = false := by simpa using o1
  have n2 : (op == 2) = false := by simpa using o2
  have n14 : (op == 14) = false := by simpa using o14
  have n15 : (op == 15) = false := by simpa using o15
  have n16 : (op == 16) = false := by simpa using o16
  have n12 : (op == 12) = false := by simpa using o12
  clear o0 o1 o2 o14 o15 o16 o12
  go_enter Tryd.func102, Tryd.ntmps102
  go_wp2
  go_ret
  exact ⟨rfl, rfl⟩

theorem snoc_at {ws : List Int} {j : Nat} {x : Int} (h : ws[j]? = some x) : ((ws.take j).map fun q => Value.int .i64 q) ++ [.int .i64 x] = (ws.take (j + 1)).map fun q => Value.int .i64 q := by
  obtain ⟨hj, e⟩ := List.getElem?_eq_some_iff.1 h
  rw [List.take_succ_eq_append_getElem hj, e, List.map_append]; rfl
/-- Each of a node's arguments is a node, and here are their widths. -/
def Wid (ns : List Nd) (args ws : List Int) : Prop := ∀ j : Nat, j < args.length → ∃ (k : Nat) (n : Nd), args[j]? = some (k : Int) ∧ ns[k]? = some n ∧ ws[j]? = some n.wd

set_option maxRecDepth 100000 in
set_option maxHeartbeats 1600000 in
theorem rfit_2 (wd v a b c : Int) (hw1 : 1 ≤ wd) (hw2 : wd ≤ 16) (a0 : 0 ≤ a) (a1 : a ≤ 16) (b0 : 0 ≤ b) (b1 : b ≤ 16) (B : Option Addr) (bc : Nat) (args : List Int) (hla : args.length = 1) (N : Option Addr) (capN : Nat) (ns : List Nd) (hns : ns.length ≤ 65536) (w : World) (hN : LiesN w N ns) (hB : LiesI w B args) (hW : Wid ns args [a]) :
    Calls Tryd.prog 103 #[.slice N ns.length capN, .agg #[.int .i64 2, .int .i64 wd, .slice B args.length bc, .int .i64 v]] w fun e w' => e = .returned (.bool (fitW 2 wd v a b c)) ∧ ∃ x : Aft w, w' = x.val := by
  obtain ⟨i0, hi, hz0, hz1, hz2⟩ := info_parts int_info
  have HLA := Lib.hid hla
  have HN := Lib.hid hN
  have HB := Lib.hid hB
  have HV := Lib.hid hW
  clear hN hB hW hla
  go_enter Tryd.func103, Tryd.ntmps103
  go_wp2_with fail
  have r0 : (w.alloc (.cells #[.int .i64 2, .int .i64 wd, .slice B args.length bc, .int .i64 v] 65)).heap[w.heap.size]? = some (.cells #[.int .i64 2, .int .i64 wd, .slice B args.length bc, .int .i64 v] 65) := heap_alloc_new _ _
  have hb0 : Below w.heap.size w (w.alloc (.cells #[.int .i64 2, .int .i64 wd, .slice B args.length bc, .int .i64 v] 65)) := (Below.refl _ _).alloc (Nat.le_refl _) _
  have z0 : w.heap.size < (w.alloc (.cells #[.int .i64 2, .int .i64 wd, .slice B args.length bc, .int .i64 v] 65)).heap.size := by simp
  generalize (w.alloc (.cells #[.int .i64 2, .int .i64 wd, .slice B args.length bc, .int .i64 v] 65)) = W0 at *
  have R0 := Lib.hid r0
  clear r0
  go_loopw [5, 6] (fun v5 v6 wr => ∃ j : Nat, j ≤ args.length ∧ v6 = .int .i64 j ∧ wr.ownsRow W0.heap.size 3 1 v5 j (([a].take j).map fun q => Value.int .i64 q) ∧ Below W0.heap.size W0 wr) (fun _ v6 _ => args.length - (intOf v6).toNat)
  case atStart => exact ⟨0, by omega, rfl, World.ownsRow_nil _ _ _ _, Below.refl _ _⟩
  case round =>
    obtain ⟨j, hj, rfl, hown, hb⟩ := hrel
    have hbs := hb.size
    have r0 : wr.heap[w.heap.size]? = some (.cells #[.int .i64 2, .int .i64 wd, .slice B args.length bc, .int .i64 v] 65) := by rw [hb.block _ z0]; exact R0.out
    have q0 := cell_block (i := 0) r0
    have q1 := cell_block (i := 1) r0
    have q2 := cell_block (i := 2) r0
    have q3 := cell_block (i := 3) r0
    simp at q0 q1 q2 q3
    have lw : w.heap.size < wr.heap.size := by omega
    have hB' : Below w.heap.size w wr := hb0.trans (hb.mono (by omega))
    by_cases hlt : j < args.length
    · obtain ⟨k, n, g1, g2, g3⟩ := HV.out j hlt
      obtain ⟨ad, rfl, hbk, hc⟩ := (HB.out.below hB').cell g1
      obtain ⟨an, rfl, hbn, _, h1, _⟩ := (HN.out.below hB').cells g2
      have hkl := (List.getElem?_eq_some_iff.1 g2).1
      have hkk : (k : Int) < ns.length := by omega
      have hjj : (j : Int) < args.length := by omega
      have hj3 : j < 4 := by have := HLA.out; omega
      have h1' : wr.cell? ⟨(an.add (k * 4)).block, (an.add (k * 4)).off + 1, none⟩ = some (.int .i64 n.wd) := h1
      have HS := Lib.hid (snoc_at g3)
      clear h1 g1 g2 g3 r0 q0 q1 q3 hbk hbn hb0
      generalize n.wd = X at *
      go_wp2_with (at_builtin; refine wpList_append_own _ rfl _ _ 22 rfl _ 3 i0 (.int .i64 0) 1 8 Tryd.underlying22 hi hz0 hz1 hz2 rfl (by decide) _ _ _ rfl (hown.alloc _) ⟨_, 0, none⟩ 1 1 [.int .i64 _] rfl rfl (cell_one_new _ _ _) (fun x hx => by simp at hx; subst hx; rfl) (by unfold maxLen; omega) (by omega) (by first | omega | (simp; omega) | (simp at *; omega)) ?_; intro v' w3 hown' hgrow3 hnn)
      go_wp2
      go_roundw
      case rel => exact ⟨j + 1, by omega, by go_num, by rw [← HS.out]; exact hown', (hb.alloc hbs (.cells #[.int .i64 X] 3)).grown hgrow3 (by simp; omega) (fun q hq => (hown.lt q hq).1)⟩
      case measure => simp [intOf]; omega
    · obtain rfl : j = args.length := by omega
      obtain ⟨g, cap, rfl, hg1, hg2⟩ := hown.form (by have := HLA.out; omega)
      have w0 : wr.cell? ⟨g, 0, none⟩ = some (.int .i64 a) := by
        have := hown.cells (g := g) rfl 0 (.int .i64 a) (by simp [HLA.out])
        rwa [Addr.add_lit, Nat.zero_add] at this
      have lg : g < wr.heap.size := by simpa using hg2
      have hla := HLA.out
      have hlm : (args.length : Int) = 1 := by omega
      clear hown hg1 hg2 r0 hb0 hb hla
      have HR := Lib.hid (show fitW 2 wd v a b c = (a == wd) from rfl)
      go_wp2_with fail
      refine wp_region_aft (by kernel_rfl) (by kernel_rfl) ?_
      repeat (go_big_quiet_step (fail))
      refine wpQuiet_nil ?_
      intro y
      go_wp2
      go_ret
      exact ⟨retB HR.out.symm, Below.aft (y.below hB' hB'.size)⟩

set_option maxRecDepth 100000 in
set_option maxHeartbeats 1600000 in
theorem rfit_3 (wd v a b c : Int) (hw1 : 1 ≤ wd) (hw2 : wd ≤ 16) (a0 : 0 ≤ a) (a1 : a ≤ 16) (b0 : 0 ≤ b) (b1 : b ≤ 16) (B : Option Addr) (bc : Nat) (args : List Int) (hla : args.length = 2) (N : Option Addr) (capN : Nat) (ns : List Nd) (hns : ns.length ≤ 65536) (w : World) (hN : LiesN w N ns) (hB : LiesI w B args) (hW : Wid ns args [a, b]) :
    Calls Tryd.prog 103 #[.slice N ns.length capN, .agg #[.int .i64 3, .int .i64 wd, .slice B args.length bc, .int .i64 v]] w fun e w' => e = .returned (.bool (fitW 3 wd v a b c)) ∧ ∃ x : Aft w, w' = x.val := by
  obtain ⟨i0, hi, hz0, hz1, hz2⟩ := info_parts int_info
  have HLA := Lib.hid hla
  have HN := Lib.hid hN
  have HB := Lib.hid hB
  have HV := Lib.hid hW
  clear hN hB hW hla
  go_enter Tryd.func103, Tryd.ntmps103
  go_wp2_with fail
  have r0 : (w.alloc (.cells #[.int .i64 3, .int .i64 wd, .slice B args.length bc, .int .i64 v] 65)).heap[w.heap.size]? = some (.cells #[.int .i64 3, .int .i64 wd, .slice B args.length bc, .int .i64 v] 65) := heap_alloc_new _ _
  have hb0 : Below w.heap.size w (w.alloc (.cells #[.int .i64 3, .int .i64 wd, .slice B args.length bc, .int .i64 v] 65)) := (Below.refl _ _).alloc (Nat.le_refl _) _
  have z0 : w.heap.size < (w.alloc (.cells #[.int .i64 3, .int .i64 wd, .slice B args.length bc, .int .i64 v] 65)).heap.size := by simp
  generalize (w.alloc (.cells #[.int .i64 3, .int .i64 wd, .slice B args.length bc, .int .i64 v] 65)) = W0 at *
  have R0 := Lib.hid r0
  clear r0
  go_loopw [5, 6] (fun v5 v6 wr => ∃ j : Nat, j ≤ args.length ∧ v6 = .int .i64 j ∧ wr.ownsRow W0.heap.size 3 1 v5 j (([a, b].take j).map fun q => Value.int .i64 q) ∧ Below W0.heap.size W0 wr) (fun _ v6 _ => args.length - (intOf v6).toNat)
  case atStart => exact ⟨0, by omega, rfl, World.ownsRow_nil _ _ _ _, Below.refl _ _⟩
  case round =>
    obtain ⟨j, hj, rfl, hown, hb⟩ := hrel
    have hbs := hb.size
    have r0 : wr.heap[w.heap.size]? = some (.cells #[.int .i64 3, .int .i64 wd, .slice B args.length bc, .int .i64 v] 65) := by rw [hb.block _ z0]; exact R0.out
    have q0 := cell_block (i := 0) r0
    have q1 := cell_block (i := 1) r0
    have q2 := cell_block (i := 2) r0
    have q3 := cell_block (i := 3) r0
    simp at q0 q1 q2 q3
    have lw : w.heap.size < wr.heap.size := by omega
    have hB' : Below w.heap.size w wr := hb0.trans (hb.mono (by omega))
    by_cases hlt : j < args.length
    · obtain ⟨k, n, g1, g2, g3⟩ := HV.out j hlt
      obtain ⟨ad, rfl, hbk, hc⟩ := (HB.out.below hB').cell g1
      obtain ⟨an, rfl, hbn, _, h1, _⟩ := (HN.out.below hB').cells g2
      have hkl := (List.getElem?_eq_some_iff.1 g2).1
      have hkk : (k : Int) < ns.length := by omega
      have hjj : (j : Int) < args.length := by omega
      have hj3 : j < 4 := by have := HLA.out; omega
      have h1' : wr.cell? ⟨(an.add (k * 4)).block, (an.add (k * 4)).off + 1, none⟩ = some (.int .i64 n.wd) := h1
      have HS := Lib.hid (snoc_at g3)
      clear h1 g1 g2 g3 r0 q0 q1 q3 hbk hbn hb0
      generalize n.wd = X at *
      go_wp2_with (at_builtin; refine wpList_append_own _ rfl _ _ 22 rfl _ 3 i0 (.int .i64 0) 1 8 Tryd.underlying22 hi hz0 hz1 hz2 rfl (by decide) _ _ _ rfl (hown.alloc _) ⟨_, 0, none⟩ 1 1 [.int .i64 _] rfl rfl (cell_one_new _ _ _) (fun x hx => by simp at hx; subst hx; rfl) (by unfold maxLen; omega) (by omega) (by first | omega | (simp; omega) | (simp at *; omega)) ?_; intro v' w3 hown' hgrow3 hnn)
      go_wp2
      go_roundw
      case rel => exact ⟨j + 1, by omega, by go_num, by rw [← HS.out]; exact hown', (hb.alloc hbs (.cells #[.int .i64 X] 3)).grown hgrow3 (by simp; omega) (fun q hq => (hown.lt q hq).1)⟩
      case measure => simp [intOf]; omega
    · obtain rfl : j = args.length := by omega
      obtain ⟨g, cap, rfl, hg1, hg2⟩ := hown.form (by have := HLA.out; omega)
      have w0 : wr.cell? ⟨g, 0, none⟩ = some (.int .i64 a) := by
        have := hown.cells (g := g) rfl 0 (.int .i64 a) (by simp [HLA.out])
        rwa [Addr.add_lit, Nat.zero_add] at this
      have w1 : wr.cell? ⟨g, 1, none⟩ = some (.int .i64 b) := by
        have := hown.cells (g := g) rfl 1 (.int .i64 b) (by simp [HLA.out])
        rwa [Addr.add_lit, Nat.zero_add] at this
      have lg : g < wr.heap.size := by simpa using hg2
      have hla := HLA.out
      have hlm : (args.length : Int) = 2 := by omega
      clear hown hg1 hg2 r0 hb0 hb hla
      cases hE : (a == wd)
      · have HR := Lib.hid (show fitW 3 wd v a b c = false by show (a == wd && b == wd) = false; rw [hE]; rfl)
        go_wp2_with fail
        refine wp_region_aft (by kernel_rfl) (by kernel_rfl) ?_
        repeat (go_big_quiet_step (fail))
        refine wpQuiet_nil ?_
        intro y
        go_wp2
        go_ret
        exact ⟨retB HR.out.symm, Below.aft (y.below hB' hB'.size)⟩
      · have HR := Lib.hid (show fitW 3 wd v a b c = (b == wd) by show (a == wd && b == wd) = _; rw [hE]; rfl)
        go_wp2_with fail
        refine wp_region_aft (by kernel_rfl) (by kernel_rfl) ?_
        repeat (go_big_quiet_step (fail))
        refine wpQuiet_nil ?_
        intro y
        go_wp2
        go_ret
        exact ⟨retB HR.out.symm, Below.aft (y.below hB' hB'.size)⟩

set_option maxRecDepth 100000 in
set_option maxHeartbeats 1600000 in
theorem rfit_4 (wd v a b c : Int) (hw1 : 1 ≤ wd) (hw2 : wd ≤ 16) (a0 : 0 ≤ a) (a1 : a ≤ 16) (b0 : 0 ≤ b) (b1 : b ≤ 16) (B : Option Addr) (bc : Nat) (args : List Int) (hla : args.length = 2) (N : Option Addr) (capN : Nat) (ns : List Nd) (hns : ns.length ≤ 65536) (w : World) (hN : LiesN w N ns) (hB : LiesI w B args) (hW : Wid ns args [a, b]) :
    Calls Tryd.prog 103 #[.slice N ns.length capN, .agg #[.int .i64 4, .int .i64 wd, .slice B args.length bc, .int .i64 v]] w fun e w' => e = .returned (.bool (fitW 4 wd v a b c)) ∧ ∃ x : Aft w, w' = x.val := by
  obtain ⟨i0, hi, hz0, hz1, hz2⟩ := info_parts int_info
  have HLA := Lib.hid hla
  have HN := Lib.hid hN
  have HB := Lib.hid hB
  have HV := Lib.hid hW
  clear hN hB hW hla
  go_enter Tryd.func103, Tryd.ntmps103
  go_wp2_with fail
  have r0 : (w.alloc (.cells #[.int .i64 4, .int .i64 wd, .slice B args.length bc, .int .i64 v] 65)).heap[w.heap.size]? = some (.cells #[.int .i64 4, .int .i64 wd, .slice B args.length bc, .int .i64 v] 65) := heap_alloc_new _ _
  have hb0 : Below w.heap.size w (w.alloc (.cells #[.int .i64 4, .int .i64 wd, .slice B args.length bc, .int .i64 v] 65)) := (Below.refl _ _).alloc (Nat.le_refl _) _
  have z0 : w.heap.size < (w.alloc (.cells #[.int .i64 4, .int .i64 wd, .slice B args.length bc, .int .i64 v] 65)).heap.size := by simp
  generalize (w.alloc (.cells #[.int .i64 4, .int .i64 wd, .slice B args.length bc, .int .i64 v] 65)) = W0 at *
  have R0 := Lib.hid r0
  clear r0
  go_loopw [5, 6] (fun v5 v6 wr => ∃ j : Nat, j ≤ args.length ∧ v6 = .int .i64 j ∧ wr.ownsRow W0.heap.size 3 1 v5 j (([a, b].take j).map fun q => Value.int .i64 q) ∧ Below W0.heap.size W0 wr) (fun _ v6 _ => args.length - (intOf v6).toNat)
  case atStart => exact ⟨0, by omega, rfl, World.ownsRow_nil _ _ _ _, Below.refl _ _⟩
  case round =>
    obtain ⟨j, hj, rfl, hown, hb⟩ := hrel
    have hbs := hb.size
    have r0 : wr.heap[w.heap.size]? = some (.cells #[.int .i64 4, .int .i64 wd, .slice B args.length bc, .int .i64 v] 65) := by rw [hb.block _ z0]; exact R0.out
    have q0 := cell_block (i := 0) r0
    have q1 := cell_block (i := 1) r0
    have q2 := cell_block (i := 2) r0
    have q3 := cell_block (i := 3) r0
    simp at q0 q1 q2 q3
    have lw : w.heap.size < wr.heap.size := by omega
    have hB' : Below w.heap.size w wr := hb0.trans (hb.mono (by omega))
    by_cases hlt : j < args.length
    · obtain ⟨k, n, g1, g2, g3⟩ := HV.out j hlt
      obtain ⟨ad, rfl, hbk, hc⟩ := (HB.out.below hB').cell g1
      obtain ⟨an, rfl, hbn, _, h1, _⟩ := (HN.out.below hB').cells g2
      have hkl := (List.getElem?_eq_some_iff.1 g2).1
      have hkk : (k : Int) < ns.length := by omega
      have hjj : (j : Int) < args.length := by omega
      have hj3 : j < 4 := by have := HLA.out; omega
      have h1' : wr.cell? ⟨(an.add (k * 4)).block, (an.add (k * 4)).off + 1, none⟩ = some (.int .i64 n.wd) := h1
      have HS := Lib.hid (snoc_at g3)
      clear h1 g1 g2 g3 r0 q0 q1 q3 hbk hbn hb0
      generalize n.wd = X at *
      go_wp2_with (at_builtin; refine wpList_append_own _ rfl _ _ 22 rfl _ 3 i0 (.int .i64 0) 1 8 Tryd.underlying22 hi hz0 hz1 hz2 rfl (by decide) _ _ _ rfl (hown.alloc _) ⟨_, 0, none⟩ 1 1 [.int .i64 _] rfl rfl (cell_one_new _ _ _) (fun x hx => by simp at hx; subst hx; rfl) (by unfold maxLen; omega) (by omega) (by first | omega | (simp; omega) | (simp at *; omega)) ?_; intro v' w3 hown' hgrow3 hnn)
      go_wp2
      go_roundw
      case rel => exact ⟨j + 1, by omega, by go_num, by rw [← HS.out]; exact hown', (hb.alloc hbs (.cells #[.int .i64 X] 3)).grown hgrow3 (by simp; omega) (fun q hq => (hown.lt q hq).1)⟩
      case measure => simp [intOf]; omega
    · obtain rfl : j = args.length := by omega
      obtain ⟨g, cap, rfl, hg1, hg2⟩ := hown.form (by have := HLA.out; omega)
      have w0 : wr.cell? ⟨g, 0, none⟩ = some (.int .i64 a) := by
        have := hown.cells (g := g) rfl 0 (.int .i64 a) (by simp [HLA.out])
        rwa [Addr.add_lit, Nat.zero_add] at this
      have w1 : wr.cell? ⟨g, 1, none⟩ = some (.int .i64 b) := by
        have := hown.cells (g := g) rfl 1 (.int .i64 b) (by simp [HLA.out])
        rwa [Addr.add_lit, Nat.zero_add] at this
      have lg : g < wr.heap.size := by simpa using hg2
      have hla := HLA.out
      have hlm : (args.length : Int) = 2 := by omega
      clear hown hg1 hg2 r0 hb0 hb hla
      cases hE : (a == wd)
      · have HR := Lib.hid (show fitW 4 wd v a b c = false by show (a == wd && b == wd) = false; rw [hE]; rfl)
        go_wp2_with fail
        refine wp_region_aft (by kernel_rfl) (by kernel_rfl) ?_
        repeat (go_big_quiet_step (fail))
        refine wpQuiet_nil ?_
        intro y
        go_wp2
        go_ret
        exact ⟨retB HR.out.symm, Below.aft (y.below hB' hB'.size)⟩
      · have HR := Lib.hid (show fitW 4 wd v a b c = (b == wd) by show (a == wd && b == wd) = _; rw [hE]; rfl)
        go_wp2_with fail
        refine wp_region_aft (by kernel_rfl) (by kernel_rfl) ?_
        repeat (go_big_quiet_step (fail))
        refine wpQuiet_nil ?_
        intro y
        go_wp2
        go_ret
        exact ⟨retB HR.out.symm, Below.aft (y.below hB' hB'.size)⟩

set_option maxRecDepth 100000 in
set_option maxHeartbeats 1600000 in
theorem rfit_5 (wd v a b c : Int) (hw1 : 1 ≤ wd) (hw2 : wd ≤ 16) (a0 : 0 ≤ a) (a1 : a ≤ 16) (b0 : 0 ≤ b) (b1 : b ≤ 16) (B : Option Addr) (bc : Nat) (args : List Int) (hla : args.length = 2) (N : Option Addr) (capN : Nat) (ns : List Nd) (hns : ns.length ≤ 65536) (w : World) (hN : LiesN w N ns) (hB : LiesI w B args) (hW : Wid ns args [a, b]) :
    Calls Tryd.prog 103 #[.slice N ns.length capN, .agg #[.int .i64 5, .int .i64 wd, .slice B args.length bc, .int .i64 v]] w fun e w' => e = .returned (.bool (fitW 5 wd v a b c)) ∧ ∃ x : Aft w, w' = x.val := by
  obtain ⟨i0, hi, hz0, hz1, hz2⟩ := info_parts int_info
  have HLA := Lib.hid hla
  have HN := Lib.hid hN
  have HB := Lib.hid hB
  have HV := Lib.hid hW
  clear hN hB hW hla
  go_enter Tryd.func103, Tryd.ntmps103
  go_wp2_with fail
  have r0 : (w.alloc (.cells #[.int .i64 5, .int .i64 wd, .slice B args.length bc, .int .i64 v] 65)).heap[w.heap.size]? = some (.cells #[.int .i64 5, .int .i64 wd, .slice B args.length bc, .int .i64 v] 65) := heap_alloc_new _ _
  have hb0 : Below w.heap.size w (w.alloc (.cells #[.int .i64 5, .int .i64 wd, .slice B args.length bc, .int .i64 v] 65)) := (Below.refl _ _).alloc (Nat.le_refl _) _
  have z0 : w.heap.size < (w.alloc (.cells #[.int .i64 5, .int .i64 wd, .slice B args.length bc, .int .i64 v] 65)).heap.size := by simp
  generalize (w.alloc (.cells #[.int .i64 5, .int .i64 wd, .slice B args.length bc, .int .i64 v] 65)) = W0 at *
  have R0 := Lib.hid r0
  clear r0
  go_loopw [5, 6] (fun v5 v6 wr => ∃ j : Nat, j ≤ args.length ∧ v6 = .int .i64 j ∧ wr.ownsRow W0.heap.size 3 1 v5 j (([a, b].take j).map fun q => Value.int .i64 q) ∧ Below W0.heap.size W0 wr) (fun _ v6 _ => args.length - (intOf v6).toNat)
  case atStart => exact ⟨0, by omega, rfl, World.ownsRow_nil _ _ _ _, Below.refl _ _⟩
  case round =>
    obtain ⟨j, hj, rfl, hown, hb⟩ := hrel
    have hbs := hb.size
    have r0 : wr.heap[w.heap.size]? = some (.cells #[.int .i64 5, .int .i64 wd, .slice B args.length bc, .int .i64 v] 65) := by rw [hb.block _ z0]; exact R0.out
    have q0 := cell_block (i := 0) r0
    have q1 := cell_block (i := 1) r0
    have q2 := cell_block (i := 2) r0
    have q3 := cell_block (i := 3) r0
    simp at q0 q1 q2 q3
    have lw : w.heap.size < wr.heap.size := by omega
    have hB' : Below w.heap.size w wr := hb0.trans (hb.mono (by omega))
    by_cases hlt : j < args.length
    · obtain ⟨k, n, g1, g2, g3⟩ := HV.out j hlt
      obtain ⟨ad, rfl, hbk, hc⟩ := (HB.out.below hB').cell g1
      obtain ⟨an, rfl, hbn, _, h1, _⟩ := (HN.out.below hB').cells g2
      have hkl := (List.getElem?_eq_some_iff.1 g2).1
      have hkk : (k : Int) < ns.length := by omega
      have hjj : (j : Int) < args.length := by omega
      have hj3 : j < 4 := by have := HLA.out; omega
      have h1' : wr.cell? ⟨(an.add (k * 4)).block, (an.add (k * 4)).off + 1, none⟩ = some (.int .i64 n.wd) := h1
      have HS := Lib.hid (snoc_at g3)
      clear h1 g1 g2 g3 r0 q0 q1 q3 hbk hbn hb0
      generalize n.wd = X at *
      go_wp2_with (at_builtin; refine wpList_append_own _ rfl _ _ 22 rfl _ 3 i0 (.int .i64 0) 1 8 Tryd.underlying22 hi hz0 hz1 hz2 rfl (by decide) _ _ _ rfl (hown.alloc _) ⟨_, 0, none⟩ 1 1 [.int .i64 _] rfl rfl (cell_one_new _ _ _) (fun x hx => by simp at hx; subst hx; rfl) (by unfold maxLen; omega) (by omega) (by first | omega | (simp; omega) | (simp at *; omega)) ?_; intro v' w3 hown' hgrow3 hnn)
      go_wp2
      go_roundw
      case rel => exact ⟨j + 1, by omega, by go_num, by rw [← HS.out]; exact hown', (hb.alloc hbs (.cells #[.int .i64 X] 3)).grown hgrow3 (by simp; omega) (fun q hq => (hown.lt q hq).1)⟩
      case measure => simp [intOf]; omega
    · obtain rfl : j = args.length := by omega
      obtain ⟨g, cap, rfl, hg1, hg2⟩ := hown.form (by have := HLA.out; omega)
      have w0 : wr.cell? ⟨g, 0, none⟩ = some (.int .i64 a) := by
        have := hown.cells (g := g) rfl 0 (.int .i64 a) (by simp [HLA.out])
        rwa [Addr.add_lit, Nat.zero_add] at this
      have w1 : wr.cell? ⟨g, 1, none⟩ = some (.int .i64 b) := by
        have := hown.cells (g := g) rfl 1 (.int .i64 b) (by simp [HLA.out])
        rwa [Addr.add_lit, Nat.zero_add] at this
      have lg : g < wr.heap.size := by simpa using hg2
      have hla := HLA.out
      have hlm : (args.length : Int) = 2 := by omega
      clear hown hg1 hg2 r0 hb0 hb hla
      cases hE : (a == wd)
      · have HR := Lib.hid (show fitW 5 wd v a b c = false by show (a == wd && b == wd) = false; rw [hE]; rfl)
        go_wp2_with fail
        refine wp_region_aft (by kernel_rfl) (by kernel_rfl) ?_
        repeat (go_big_quiet_step (fail))
        refine wpQuiet_nil ?_
        intro y
        go_wp2
        go_ret
        exact ⟨retB HR.out.symm, Below.aft (y.below hB' hB'.size)⟩
      · have HR := Lib.hid (show fitW 5 wd v a b c = (b == wd) by show (a == wd && b == wd) = _; rw [hE]; rfl)
        go_wp2_with fail
        refine wp_region_aft (by kernel_rfl) (by kernel_rfl) ?_
        repeat (go_big_quiet_step (fail))
        refine wpQuiet_nil ?_
        intro y
        go_wp2
        go_ret
        exact ⟨retB HR.out.symm, Below.aft (y.below hB' hB'.size)⟩

set_option maxRecDepth 100000 in
set_option maxHeartbeats 1600000 in
theorem rfit_6 (wd v a b c : Int) (hw1 : 1 ≤ wd) (hw2 : wd ≤ 16) (a0 : 0 ≤ a) (a1 : a ≤ 16) (b0 : 0 ≤ b) (b1 : b ≤ 16) (B : Option Addr) (bc : Nat) (args : List Int) (hla : args.length = 2) (N : Option Addr) (capN : Nat) (ns : List Nd) (hns : ns.length ≤ 65536) (w : World) (hN : LiesN w N ns) (hB : LiesI w B args) (hW : Wid ns args [a, b]) :
    Calls Tryd.prog 103 #[.slice N ns.length capN, .agg #[.int .i64 6, .int .i64 wd, .slice B args.length bc, .int .i64 v]] w fun e w' => e = .returned (.bool (fitW 6 wd v a b c)) ∧ ∃ x : Aft w, w' = x.val := by
  obtain ⟨i0, hi, hz0, hz1, hz2⟩ := info_parts int_info
  have HLA := Lib.hid hla
  have HN := Lib.hid hN
  have HB := Lib.hid hB
  have HV := Lib.hid hW
  clear hN hB hW hla
  go_enter Tryd.func103, Tryd.ntmps103
  go_wp2_with fail
  have r0 : (w.alloc (.cells #[.int .i64 6, .int .i64 wd, .slice B args.length bc, .int .i64 v] 65)).heap[w.heap.size]? = some (.cells #[.int .i64 6, .int .i64 wd, .slice B args.length bc, .int .i64 v] 65) := heap_alloc_new _ _
  have hb0 : Below w.heap.size w (w.alloc (.cells #[.int .i64 6, .int .i64 wd, .slice B args.length bc, .int .i64 v] 65)) := (Below.refl _ _).alloc (Nat.le_refl _) _
  have z0 : w.heap.size < (w.alloc (.cells #[.int .i64 6, .int .i64 wd, .slice B args.length bc, .int .i64 v] 65)).heap.size := by simp
  generalize (w.alloc (.cells #[.int .i64 6, .int .i64 wd, .slice B args.length bc, .int .i64 v] 65)) = W0 at *
  have R0 := Lib.hid r0
  clear r0
  go_loopw [5, 6] (fun v5 v6 wr => ∃ j : Nat, j ≤ args.length ∧ v6 = .int .i64 j ∧ wr.ownsRow W0.heap.size 3 1 v5 j (([a, b].take j).map fun q => Value.int .i64 q) ∧ Below W0.heap.size W0 wr) (fun _ v6 _ => args.length - (intOf v6).toNat)
  case atStart => exact ⟨0, by omega, rfl, World.ownsRow_nil _ _ _ _, Below.refl _ _⟩
  case round =>
    obtain ⟨j, hj, rfl, hown, hb⟩ := hrel
    have hbs := hb.size
    have r0 : wr.heap[w.heap.size]? = some (.cells #[.int .i64 6, .int .i64 wd, .slice B args.length bc, .int .i64 v] 65) := by rw [hb.block _ z0]; exact R0.out
    have q0 := cell_block (i := 0) r0
    have q1 := cell_block (i := 1) r0
    have q2 := cell_block (i := 2) r0
    have q3 := cell_block (i := 3) r0
    simp at q0 q1 q2 q3
    have lw : w.heap.size < wr.heap.size := by omega
    have hB' : Below w.heap.size w wr := hb0.trans (hb.mono (by omega))
    by_cases hlt : j < args.length
    · obtain ⟨k, n, g1, g2, g3⟩ := HV.out j hlt
      obtain ⟨ad, rfl, hbk, hc⟩ := (HB.out.below hB').cell g1
      obtain ⟨an, rfl, hbn, _, h1, _⟩ := (HN.out.below hB').cells g2
      have hkl := (List.getElem?_eq_some_iff.1 g2).1
      have hkk : (k : Int) < ns.length := by omega
      have hjj : (j : Int) < args.length := by omega
      have hj3 : j < 4 := by have := HLA.out; omega
      have h1' : wr.cell? ⟨(an.add (k * 4)).block, (an.add (k * 4)).off + 1, none⟩ = some (.int .i64 n.wd) := h1
      have HS := Lib.hid (snoc_at g3)
      clear h1 g1 g2 g3 r0 q0 q1 q3 hbk hbn hb0
      generalize n.wd = X at *
      go_wp2_with (at_builtin; refine wpList_append_own _ rfl _ _ 22 rfl _ 3 i0 (.int .i64 0) 1 8 Tryd.underlying22 hi hz0 hz1 hz2 rfl (by decide) _ _ _ rfl (hown.alloc _) ⟨_, 0, none⟩ 1 1 [.int .i64 _] rfl rfl (cell_one_new _ _ _) (fun x hx => by simp at hx; subst hx; rfl) (by unfold maxLen; omega) (by omega) (by first | omega | (simp; omega) | (simp at *; omega)) ?_; intro v' w3 hown' hgrow3 hnn)
      go_wp2
      go_roundw
      case rel => exact ⟨j + 1, by omega, by go_num, by rw [← HS.out]; exact hown', (hb.alloc hbs (.cells #[.int .i64 X] 3)).grown hgrow3 (by simp; omega) (fun q hq => (hown.lt q hq).1)⟩
      case measure => simp [intOf]; omega
    · obtain rfl : j = args.length := by omega
      obtain ⟨g, cap, rfl, hg1, hg2⟩ := hown.form (by have := HLA.out; omega)
      have w0 : wr.cell? ⟨g, 0, none⟩ = some (.int .i64 a) := by
        have := hown.cells (g := g) rfl 0 (.int .i64 a) (by simp [HLA.out])
        rwa [Addr.add_lit, Nat.zero_add] at this
      have w1 : wr.cell? ⟨g, 1, none⟩ = some (.int .i64 b) := by
        have := hown.cells (g := g) rfl 1 (.int .i64 b) (by simp [HLA.out])
        rwa [Addr.add_lit, Nat.zero_add] at this
      have lg : g < wr.heap.size := by simpa using hg2
      have hla := HLA.out
      have hlm : (args.length : Int) = 2 := by omega
      clear hown hg1 hg2 r0 hb0 hb hla
      cases hE : (a == wd)
      · have HR := Lib.hid (show fitW 6 wd v a b c = false by show (a == wd && b == wd) = false; rw [hE]; rfl)
        go_wp2_with fail
        refine wp_region_aft (by kernel_rfl) (by kernel_rfl) ?_
        repeat (go_big_quiet_step (fail))
        refine wpQuiet_nil ?_
        intro y
        go_wp2
        go_ret
        exact ⟨retB HR.out.symm, Below.aft (y.below hB' hB'.size)⟩
      · have HR := Lib.hid (show fitW 6 wd v a b c = (b == wd) by show (a == wd && b == wd) = _; rw [hE]; rfl)
        go_wp2_with fail
        refine wp_region_aft (by kernel_rfl) (by kernel_rfl) ?_
        repeat (go_big_quiet_step (fail))
        refine wpQuiet_nil ?_
        intro y
        go_wp2
        go_ret
        exact ⟨retB HR.out.symm, Below.aft (y.below hB' hB'.size)⟩

set_option maxRecDepth 100000 in
set_option maxHeartbeats 1600000 in
theorem rfit_7 (wd v a b c : Int) (hw1 : 1 ≤ wd) (hw2 : wd ≤ 16) (a0 : 0 ≤ a) (a1 : a ≤ 16) (b0 : 0 ≤ b) (b1 : b ≤ 16) (B : Option Addr) (bc : Nat) (args : List Int) (hla : args.length = 2) (N : Option Addr) (capN : Nat) (ns : List Nd) (hns : ns.length ≤ 65536) (w : World) (hN : LiesN w N ns) (hB : LiesI w B args) (hW : Wid ns args [a, b]) :
    Calls Tryd.prog 103 #[.slice N ns.length capN, .agg #[.int .i64 7, .int .i64 wd, .slice B args.length bc, .int .i64 v]] w fun e w' => e = .returned (.bool (fitW 7 wd v a b c)) ∧ ∃ x : Aft w, w' = x.val := by
  obtain ⟨i0, hi, hz0, hz1, hz2⟩ := info_parts int_info
  have HLA := Lib.hid hla
  have HN := Lib.hid hN
  have HB := Lib.hid hB
  have HV := Lib.hid hW
  clear hN hB hW hla
  go_enter Tryd.func103, Tryd.ntmps103
  go_wp2_with fail
  have r0 : (w.alloc (.cells #[.int .i64 7, .int .i64 wd, .slice B args.length bc, .int .i64 v] 65)).heap[w.heap.size]? = some (.cells #[.int .i64 7, .int .i64 wd, .slice B args.length bc, .int .i64 v] 65) := heap_alloc_new _ _
  have hb0 : Below w.heap.size w (w.alloc (.cells #[.int .i64 7, .int .i64 wd, .slice B args.length bc, .int .i64 v] 65)) := (Below.refl _ _).alloc (Nat.le_refl _) _
  have z0 : w.heap.size < (w.alloc (.cells #[.int .i64 7, .int .i64 wd, .slice B args.length bc, .int .i64 v] 65)).heap.size := by simp
  generalize (w.alloc (.cells #[.int .i64 7, .int .i64 wd, .slice B args.length bc, .int .i64 v] 65)) = W0 at *
  have R0 := Lib.hid r0
  clear r0
  go_loopw [5, 6] (fun v5 v6 wr => ∃ j : Nat, j ≤ args.length ∧ v6 = .int .i64 j ∧ wr.ownsRow W0.heap.size 3 1 v5 j (([a, b].take j).map fun q => Value.int .i64 q) ∧ Below W0.heap.size W0 wr) (fun _ v6 _ => args.length - (intOf v6).toNat)
  case atStart => exact ⟨0, by omega, rfl, World.ownsRow_nil _ _ _ _, Below.refl _ _⟩
  case round =>
    obtain ⟨j, hj, rfl, hown, hb⟩ := hrel
    have hbs := hb.size
    have r0 : wr.heap[w.heap.size]? = some (.cells #[.int .i64 7, .int .i64 wd, .slice B args.length bc, .int .i64 v] 65) := by rw [hb.block _ z0]; exact R0.out
    have q0 := cell_block (i := 0) r0
    have q1 := cell_block (i := 1) r0
    have q2 := cell_block (i := 2) r0
    have q3 := cell_block (i := 3) r0
    simp at q0 q1 q2 q3
    have lw : w.heap.size < wr.heap.size := by omega
    have hB' : Below w.heap.size w wr := hb0.trans (hb.mono (by omega))
    by_cases hlt : j < args.length
    · obtain ⟨k, n, g1, g2, g3⟩ := HV.out j hlt
      obtain ⟨ad, rfl, hbk, hc⟩ := (HB.out.below hB').cell g1
      obtain ⟨an, rfl, hbn, _, h1, _⟩ := (HN.out.below hB').cells g2
      have hkl := (List.getElem?_eq_some_iff.1 g2).1
      have hkk : (k : Int) < ns.length := by omega
      have hjj : (j : Int) < args.length := by omega
      have hj3 : j < 4 := by have := HLA.out; omega
      have h1' : wr.cell? ⟨(an.add (k * 4)).block, (an.add (k * 4)).off + 1, none⟩ = some (.int .i64 n.wd) := h1
      have HS := Lib.hid (snoc_at g3)
      clear h1 g1 g2 g3 r0 q0 q1 q3 hbk hbn hb0
      generalize n.wd = X at *
      go_wp2_with (at_builtin; refine wpList_append_own _ rfl _ _ 22 rfl _ 3 i0 (.int .i64 0) 1 8 Tryd.underlying22 hi hz0 hz1 hz2 rfl (by decide) _ _ _ rfl (hown.alloc _) ⟨_, 0, none⟩ 1 1 [.int .i64 _] rfl rfl (cell_one_new _ _ _) (fun x hx => by simp at hx; subst hx; rfl) (by unfold maxLen; omega) (by omega) (by first | omega | (simp; omega) | (simp at *; omega)) ?_; intro v' w3 hown' hgrow3 hnn)
      go_wp2
      go_roundw
      case rel => exact ⟨j + 1, by omega, by go_num, by rw [← HS.out]; exact hown', (hb.alloc hbs (.cells #[.int .i64 X] 3)).grown hgrow3 (by simp; omega) (fun q hq => (hown.lt q hq).1)⟩
      case measure => simp [intOf]; omega
    · obtain rfl : j = args.length := by omega
      obtain ⟨g, cap, rfl, hg1, hg2⟩ := hown.form (by have := HLA.out; omega)
      have w0 : wr.cell? ⟨g, 0, none⟩ = some (.int .i64 a) := by
        have := hown.cells (g := g) rfl 0 (.int .i64 a) (by simp [HLA.out])
        rwa [Addr.add_lit, Nat.zero_add] at this
      have w1 : wr.cell? ⟨g, 1, none⟩ = some (.int .i64 b) := by
        have := hown.cells (g := g) rfl 1 (.int .i64 b) (by simp [HLA.out])
        rwa [Addr.add_lit, Nat.zero_add] at this
      have lg : g < wr.heap.size := by simpa using hg2
      have hla := HLA.out
      have hlm : (args.length : Int) = 2 := by omega
      clear hown hg1 hg2 r0 hb0 hb hla
      cases hE : (a == wd)
      · have HR := Lib.hid (show fitW 7 wd v a b c = false by show (a == wd && b == wd) = false; rw [hE]; rfl)
        go_wp2_with fail
        refine wp_region_aft (by kernel_rfl) (by kernel_rfl) ?_
        repeat (go_big_quiet_step (fail))
        refine wpQuiet_nil ?_
        intro y
        go_wp2
        go_ret
        exact ⟨retB HR.out.symm, Below.aft (y.below hB' hB'.size)⟩
      · have HR := Lib.hid (show fitW 7 wd v a b c = (b == wd) by show (a == wd && b == wd) = _; rw [hE]; rfl)
        go_wp2_with fail
        refine wp_region_aft (by kernel_rfl) (by kernel_rfl) ?_
        repeat (go_big_quiet_step (fail))
        refine wpQuiet_nil ?_
        intro y
        go_wp2
        go_ret
        exact ⟨retB HR.out.symm, Below.aft (y.below hB' hB'.size)⟩

set_option maxRecDepth 100000 in
set_option maxHeartbeats 1600000 in
theorem rfit_8 (wd v a b c : Int) (hw1 : 1 ≤ wd) (hw2 : wd ≤ 16) (a0 : 0 ≤ a) (a1 : a ≤ 16) (b0 : 0 ≤ b) (b1 : b ≤ 16) (B : Option Addr) (bc : Nat) (args : List Int) (hla : args.length = 2) (N : Option Addr) (capN : Nat) (ns : List Nd) (hns : ns.length ≤ 65536) (w : World) (hN : LiesN w N ns) (hB : LiesI w B args) (hW : Wid ns args [a, b]) :
    Calls Tryd.prog 103 #[.slice N ns.length capN, .agg #[.int .i64 8, .int .i64 wd, .slice B args.length bc, .int .i64 v]] w fun e w' => e = .returned (.bool (fitW 8 wd v a b c)) ∧ ∃ x : Aft w, w' = x.val := by
  obtain ⟨i0, hi, hz0, hz1, hz2⟩ := info_parts int_info
  have HLA := Lib.hid hla
  have HN := Lib.hid hN
  have HB := Lib.hid hB
  have HV := Lib.hid hW
  clear hN hB hW hla
  go_enter Tryd.func103, Tryd.ntmps103
  go_wp2_with fail
  have r0 : (w.alloc (.cells #[.int .i64 8, .int .i64 wd, .slice B args.length bc, .int .i64 v] 65)).heap[w.heap.size]? = some (.cells #[.int .i64 8, .int .i64 wd, .slice B args.length bc, .int .i64 v] 65) := heap_alloc_new _ _
  have hb0 : Below w.heap.size w (w.alloc (.cells #[.int .i64 8, .int .i64 wd, .slice B args.length bc, .int .i64 v] 65)) := (Below.refl _ _).alloc (Nat.le_refl _) _
  have z0 : w.heap.size < (w.alloc (.cells #[.int .i64 8, .int .i64 wd, .slice B args.length bc, .int .i64 v] 65)).heap.size := by simp
  generalize (w.alloc (.cells #[.int .i64 8, .int .i64 wd, .slice B args.length bc, .int .i64 v] 65)) = W0 at *
  have R0 := Lib.hid r0
  clear r0
  go_loopw [5, 6] (fun v5 v6 wr => ∃ j : Nat, j ≤ args.length ∧ v6 = .int .i64 j ∧ wr.ownsRow W0.heap.size 3 1 v5 j (([a, b].take j).map fun q => Value.int .i64 q) ∧ Below W0.heap.size W0 wr) (fun _ v6 _ => args.length - (intOf v6).toNat)
  case atStart => exact ⟨0, by omega, rfl, World.ownsRow_nil _ _ _ _, Below.refl _ _⟩
  case round =>
    obtain ⟨j, hj, rfl, hown, hb⟩ := hrel
    have hbs := hb.size
    have r0 : wr.heap[w.heap.size]? = some (.cells #[.int .i64 8, .int .i64 wd, .slice B args.length bc, .int .i64 v] 65) := by rw [hb.block _ z0]; exact R0.out
    have q0 := cell_block (i := 0) r0
    have q1 := cell_block (i := 1) r0
    have q2 := cell_block (i := 2) r0
    have q3 := cell_block (i := 3) r0
    simp at q0 q1 q2 q3
    have lw : w.heap.size < wr.heap.size := by omega
    have hB' : Below w.heap.size w wr := hb0.trans (hb.mono (by omega))
    by_cases hlt : j < args.length
    · obtain ⟨k, n, g1, g2, g3⟩ := HV.out j hlt
      obtain ⟨ad, rfl, hbk, hc⟩ := (HB.out.below hB').cell g1
      obtain ⟨an, rfl, hbn, _, h1, _⟩ := (HN.out.below hB').cells g2
      have hkl := (List.getElem?_eq_some_iff.1 g2).1
      have hkk : (k : Int) < ns.length := by omega
      have hjj : (j : Int) < args.length := by omega
      have hj3 : j < 4 := by have := HLA.out; omega
      have h1' : wr.cell? ⟨(an.add (k * 4)).block, (an.add (k * 4)).off + 1, none⟩ = some (.int .i64 n.wd) := h1
      have HS := Lib.hid (snoc_at g3)
      clear h1 g1 g2 g3 r0 q0 q1 q3 hbk hbn hb0
      generalize n.wd = X at *
      go_wp2_with (at_builtin; refine wpList_append_own _ rfl _ _ 22 rfl _ 3 i0 (.int .i64 0) 1 8 Tryd.underlying22 hi hz0 hz1 hz2 rfl (by decide) _ _ _ rfl (hown.alloc _) ⟨_, 0, none⟩ 1 1 [.int .i64 _] rfl rfl (cell_one_new _ _ _) (fun x hx => by simp at hx; subst hx; rfl) (by unfold maxLen; omega) (by omega) (by first | omega | (simp; omega) | (simp at *; omega)) ?_; intro v' w3 hown' hgrow3 hnn)
      go_wp2
      go_roundw
      case rel => exact ⟨j + 1, by omega, by go_num, by rw [← HS.out]; exact hown', (hb.alloc hbs (.cells #[.int .i64 X] 3)).grown hgrow3 (by simp; omega) (fun q hq => (hown.lt q hq).1)⟩
      case measure => simp [intOf]; omega
    · obtain rfl : j = args.length := by omega
      obtain ⟨g, cap, rfl, hg1, hg2⟩ := hown.form (by have := HLA.out; omega)
      have w0 : wr.cell? ⟨g, 0, none⟩ = some (.int .i64 a) := by
        have := hown.cells (g := g) rfl 0 (.int .i64 a) (by simp [HLA.out])
        rwa [Addr.add_lit, Nat.zero_add] at this
      have w1 : wr.cell? ⟨g, 1, none⟩ = some (.int .i64 b) := by
        have := hown.cells (g := g) rfl 1 (.int .i64 b) (by simp [HLA.out])
        rwa [Addr.add_lit, Nat.zero_add] at this
      have lg : g < wr.heap.size := by simpa using hg2
      have hla := HLA.out
      have hlm : (args.length : Int) = 2 := by omega
      clear hown hg1 hg2 r0 hb0 hb hla
      cases hE : (a == wd)
      · have HR := Lib.hid (show fitW 8 wd v a b c = false by show (a == wd && b == wd) = false; rw [hE]; rfl)
        go_wp2_with fail
        refine wp_region_aft (by kernel_rfl) (by kernel_rfl) ?_
        repeat (go_big_quiet_step (fail))
        refine wpQuiet_nil ?_
        intro y
        go_wp2
        go_ret
        exact ⟨retB HR.out.symm, Below.aft (y.below hB' hB'.size)⟩
      · have HR := Lib.hid (show fitW 8 wd v a b c = (b == wd) by show (a == wd && b == wd) = _; rw [hE]; rfl)
        go_wp2_with fail
        refine wp_region_aft (by kernel_rfl) (by kernel_rfl) ?_
        repeat (go_big_quiet_step (fail))
        refine wpQuiet_nil ?_
        intro y
        go_wp2
        go_ret
        exact ⟨retB HR.out.symm, Below.aft (y.below hB' hB'.size)⟩

set_option maxRecDepth 100000 in
set_option maxHeartbeats 1600000 in
theorem rfit_9 (wd v a b c : Int) (hw1 : 1 ≤ wd) (hw2 : wd ≤ 16) (a0 : 0 ≤ a) (a1 : a ≤ 16) (b0 : 0 ≤ b) (b1 : b ≤ 16) (B : Option Addr) (bc : Nat) (args : List Int) (hla : args.length = 2) (N : Option Addr) (capN : Nat) (ns : List Nd) (hns : ns.length ≤ 65536) (w : World) (hN : LiesN w N ns) (hB : LiesI w B args) (hW : Wid ns args [a, b]) :
    Calls Tryd.prog 103 #[.slice N ns.length capN, .agg #[.int .i64 9, .int .i64 wd, .slice B args.length bc, .int .i64 v]] w fun e w' => e = .returned (.bool (fitW 9 wd v a b c)) ∧ ∃ x : Aft w, w' = x.val := by
  obtain ⟨i0, hi, hz0, hz1, hz2⟩ := info_parts int_info
  have HLA := Lib.hid hla
  have HN := Lib.hid hN
  have HB := Lib.hid hB
  have HV := Lib.hid hW
  clear hN hB hW hla
  go_enter Tryd.func103, Tryd.ntmps103
  go_wp2_with fail
  have r0 : (w.alloc (.cells #[.int .i64 9, .int .i64 wd, .slice B args.length bc, .int .i64 v] 65)).heap[w.heap.size]? = some (.cells #[.int .i64 9, .int .i64 wd, .slice B args.length bc, .int .i64 v] 65) := heap_alloc_new _ _
  have hb0 : Below w.heap.size w (w.alloc (.cells #[.int .i64 9, .int .i64 wd, .slice B args.length bc, .int .i64 v] 65)) := (Below.refl _ _).alloc (Nat.le_refl _) _
  have z0 : w.heap.size < (w.alloc (.cells #[.int .i64 9, .int .i64 wd, .slice B args.length bc, .int .i64 v] 65)).heap.size := by simp
  generalize (w.alloc (.cells #[.int .i64 9, .int .i64 wd, .slice B args.length bc, .int .i64 v] 65)) = W0 at *
  have R0 := Lib.hid r0
  clear r0
  go_loopw [5, 6] (fun v5 v6 wr => ∃ j : Nat, j ≤ args.length ∧ v6 = .int .i64 j ∧ wr.ownsRow W0.heap.size 3 1 v5 j (([a, b].take j).map fun q => Value.int .i64 q) ∧ Below W0.heap.size W0 wr) (fun _ v6 _ => args.length - (intOf v6).toNat)
  case atStart => exact ⟨0, by omega, rfl, World.ownsRow_nil _ _ _ _, Below.refl _ _⟩
  case round =>
    obtain ⟨j, hj, rfl, hown, hb⟩ := hrel
    have hbs := hb.size
    have r0 : wr.heap[w.heap.size]? = some (.cells #[.int .i64 9, .int .i64 wd, .slice B args.length bc, .int .i64 v] 65) := by rw [hb.block _ z0]; exact R0.out
    have q0 := cell_block (i := 0) r0
    have q1 := cell_block (i := 1) r0
    have q2 := cell_block (i := 2) r0
    have q3 := cell_block (i := 3) r0
    simp at q0 q1 q2 q3
    have lw : w.heap.size < wr.heap.size := by omega
    have hB' : Below w.heap.size w wr := hb0.trans (hb.mono (by omega))
    by_cases hlt : j < args.length
    · obtain ⟨k, n, g1, g2, g3⟩ := HV.out j hlt
      obtain ⟨ad, rfl, hbk, hc⟩ := (HB.out.below hB').cell g1
      obtain ⟨an, rfl, hbn, _, h1, _⟩ := (HN.out.below hB').cells g2
      have hkl := (List.getElem?_eq_some_iff.1 g2).1
      have hkk : (k : Int) < ns.length := by omega
      have hjj : (j : Int) < args.length := by omega
      have hj3 : j < 4 := by have := HLA.out; omega
      have h1' : wr.cell? ⟨(an.add (k * 4)).block, (an.add (k * 4)).off + 1, none⟩ = some (.int .i64 n.wd) := h1
      have HS := Lib.hid (snoc_at g3)
      clear h1 g1 g2 g3 r0 q0 q1 q3 hbk hbn hb0
      generalize n.wd = X at *
      go_wp2_with (at_builtin; refine wpList_append_own _ rfl _ _ 22 rfl _ 3 i0 (.int .i64 0) 1 8 Tryd.underlying22 hi hz0 hz1 hz2 rfl (by decide) _ _ _ rfl (hown.alloc _) ⟨_, 0, none⟩ 1 1 [.int .i64 _] rfl rfl (cell_one_new _ _ _) (fun x hx => by simp at hx; subst hx; rfl) (by unfold maxLen; omega) (by omega) (by first | omega | (simp; omega) | (simp at *; omega)) ?_; intro v' w3 hown' hgrow3 hnn)
      go_wp2
      go_roundw
      case rel => exact ⟨j + 1, by omega, by go_num, by rw [← HS.out]; exact hown', (hb.alloc hbs (.cells #[.int .i64 X] 3)).grown hgrow3 (by simp; omega) (fun q hq => (hown.lt q hq).1)⟩
      case measure => simp [intOf]; omega
    · obtain rfl : j = args.length := by omega
      obtain ⟨g, cap, rfl, hg1, hg2⟩ := hown.form (by have := HLA.out; omega)
      have w0 : wr.cell? ⟨g, 0, none⟩ = some (.int .i64 a) := by
        have := hown.cells (g := g) rfl 0 (.int .i64 a) (by simp [HLA.out])
        rwa [Addr.add_lit, Nat.zero_add] at this
      have w1 : wr.cell? ⟨g, 1, none⟩ = some (.int .i64 b) := by
        have := hown.cells (g := g) rfl 1 (.int .i64 b) (by simp [HLA.out])
        rwa [Addr.add_lit, Nat.zero_add] at this
      have lg : g < wr.heap.size := by simpa using hg2
      have hla := HLA.out
      have hlm : (args.length : Int) = 2 := by omega
      clear hown hg1 hg2 r0 hb0 hb hla
      cases hE : (a == b)
      · have HR := Lib.hid (show fitW 9 wd v a b c = false by show (a == b && wd == 1) = false; rw [hE]; rfl)
        go_wp2_with fail
        refine wp_region_aft (by kernel_rfl) (by kernel_rfl) ?_
        repeat (go_big_quiet_step (fail))
        refine wpQuiet_nil ?_
        intro y
        go_wp2
        go_ret
        exact ⟨retB HR.out.symm, Below.aft (y.below hB' hB'.size)⟩
      · have HR := Lib.hid (show fitW 9 wd v a b c = (wd == 1) by show (a == b && wd == 1) = _; rw [hE]; rfl)
        go_wp2_with fail
        refine wp_region_aft (by kernel_rfl) (by kernel_rfl) ?_
        repeat (go_big_quiet_step (fail))
        refine wpQuiet_nil ?_
        intro y
        go_wp2
        go_ret
        exact ⟨retB HR.out.symm, Below.aft (y.below hB' hB'.size)⟩

set_option maxRecDepth 100000 in
set_option maxHeartbeats 1600000 in
theorem rfit_10 (wd v a b c : Int) (hw1 : 1 ≤ wd) (hw2 : wd ≤ 16) (a0 : 0 ≤ a) (a1 : a ≤ 16) (b0 : 0 ≤ b) (b1 : b ≤ 16) (B : Option Addr) (bc : Nat) (args : List Int) (hla : args.length = 2) (N : Option Addr) (capN : Nat) (ns : List Nd) (hns : ns.length ≤ 65536) (w : World) (hN : LiesN w N ns) (hB : LiesI w B args) (hW : Wid ns args [a, b]) :
    Calls Tryd.prog 103 #[.slice N ns.length capN, .agg #[.int .i64 10, .int .i64 wd, .slice B args.length bc, .int .i64 v]] w fun e w' => e = .returned (.bool (fitW 10 wd v a b c)) ∧ ∃ x : Aft w, w' = x.val := by
  obtain ⟨i0, hi, hz0, hz1, hz2⟩ := info_parts int_info
  have HLA := Lib.hid hla
  have HN := Lib.hid hN
  have HB := Lib.hid hB
  have HV := Lib.hid hW
  clear hN hB hW hla
  go_enter Tryd.func103, Tryd.ntmps103
  go_wp2_with fail
  have r0 : (w.alloc (.cells #[.int .i64 10, .int .i64 wd, .slice B args.length bc, .int .i64 v] 65)).heap[w.heap.size]? = some (.cells #[.int .i64 10, .int .i64 wd, .slice B args.length bc, .int .i64 v] 65) := heap_alloc_new _ _
  have hb0 : Below w.heap.size w (w.alloc (.cells #[.int .i64 10, .int .i64 wd, .slice B args.length bc, .int .i64 v] 65)) := (Below.refl _ _).alloc (Nat.le_refl _) _
  have z0 : w.heap.size < (w.alloc (.cells #[.int .i64 10, .int .i64 wd, .slice B args.length bc, .int .i64 v] 65)).heap.size := by simp
  generalize (w.alloc (.cells #[.int .i64 10, .int .i64 wd, .slice B args.length bc, .int .i64 v] 65)) = W0 at *
  have R0 := Lib.hid r0
  clear r0
  go_loopw [5, 6] (fun v5 v6 wr => ∃ j : Nat, j ≤ args.length ∧ v6 = .int .i64 j ∧ wr.ownsRow W0.heap.size 3 1 v5 j (([a, b].take j).map fun q => Value.int .i64 q) ∧ Below W0.heap.size W0 wr) (fun _ v6 _ => args.length - (intOf v6).toNat)
  case atStart => exact ⟨0, by omega, rfl, World.ownsRow_nil _ _ _ _, Below.refl _ _⟩
  case round =>
    obtain ⟨j, hj, rfl, hown, hb⟩ := hrel
    have hbs := hb.size
    have r0 : wr.heap[w.heap.size]? = some (.cells #[.int .i64 10, .int .i64 wd, .slice B args.length bc, .int .i64 v] 65) := by rw [hb.block _ z0]; exact R0.out
    have q0 := cell_block (i := 0) r0
    have q1 := cell_block (i := 1) r0
    have q2 := cell_block (i := 2) r0
    have q3 := cell_block (i := 3) r0
    simp at q0 q1 q2 q3
    have lw : w.heap.size < wr.heap.size := by omega
    have hB' : Below w.heap.size w wr := hb0.trans (hb.mono (by omega))
    by_cases hlt : j < args.length
    · obtain ⟨k, n, g1, g2, g3⟩ := HV.out j hlt
      obtain ⟨ad, rfl, hbk, hc⟩ := (HB.out.below hB').cell g1
      obtain ⟨an, rfl, hbn, _, h1, _⟩ := (HN.out.below hB').cells g2
      have hkl := (List.getElem?_eq_some_iff.1 g2).1
      have hkk : (k : Int) < ns.length := by omega
      have hjj : (j : Int) < args.length := by omega
      have hj3 : j < 4 := by have := HLA.out; omega
      have h1' : wr.cell? ⟨(an.add (k * 4)).block, (an.add (k * 4)).off + 1, none⟩ = some (.int .i64 n.wd) := h1
      have HS := Lib.hid (snoc_at g3)
      clear h1 g1 g2 g3 r0 q0 q1 q3 hbk hbn hb0
      generalize n.wd = X at *
      go_wp2_with (at_builtin; refine wpList_append_own _ rfl _ _ 22 rfl _ 3 i0 (.int .i64 0) 1 8 Tryd.underlying22 hi hz0 hz1 hz2 rfl (by decide) _ _ _ rfl (hown.alloc _) ⟨_, 0, none⟩ 1 1 [.int .i64 _] rfl rfl (cell_one_new _ _ _) (fun x hx => by simp at hx; subst hx; rfl) (by unfold maxLen; omega) (by omega) (by first | omega | (simp; omega) | (simp at *; omega)) ?_; intro v' w3 hown' hgrow3 hnn)
      go_wp2
      go_roundw
      case rel => exact ⟨j + 1, by omega, by go_num, by rw [← HS.out]; exact hown', (hb.alloc hbs (.cells #[.int .i64 X] 3)).grown hgrow3 (by simp; omega) (fun q hq => (hown.lt q hq).1)⟩
      case measure => simp [intOf]; omega
    · obtain rfl : j = args.length := by omega
      obtain ⟨g, cap, rfl, hg1, hg2⟩ := hown.form (by have := HLA.out; omega)
      have w0 : wr.cell? ⟨g, 0, none⟩ = some (.int .i64 a) := by
        have := hown.cells (g := g) rfl 0 (.int .i64 a) (by simp [HLA.out])
        rwa [Addr.add_lit, Nat.zero_add] at this
      have w1 : wr.cell? ⟨g, 1, none⟩ = some (.int .i64 b) := by
        have := hown.cells (g := g) rfl 1 (.int .i64 b) (by simp [HLA.out])
        rwa [Addr.add_lit, Nat.zero_add] at this
      have lg : g < wr.heap.size := by simpa using hg2
      have hla := HLA.out
      have hlm : (args.length : Int) = 2 := by omega
      clear hown hg1 hg2 r0 hb0 hb hla
      cases hE : (a == b)
      · have HR := Lib.hid (show fitW 10 wd v a b c = false by show (a == b && wd == 1) = false; rw [hE]; rfl)
        go_wp2_with fail
        refine wp_region_aft (by kernel_rfl) (by kernel_rfl) ?_
        repeat (go_big_quiet_step (fail))
        refine wpQuiet_nil ?_
        intro y
        go_wp2
        go_ret
        exact ⟨retB HR.out.symm, Below.aft (y.below hB' hB'.size)⟩
      · have HR := Lib.hid (show fitW 10 wd v a b c = (wd == 1) by show (a == b && wd == 1) = _; rw [hE]; rfl)
        go_wp2_with fail
        refine wp_region_aft (by kernel_rfl) (by kernel_rfl) ?_
        repeat (go_big_quiet_step (fail))
        refine wpQuiet_nil ?_
        intro y
        go_wp2
        go_ret
        exact ⟨retB HR.out.symm, Below.aft (y.below hB' hB'.size)⟩

set_option maxRecDepth 100000 in
set_option maxHeartbeats 1600000 in
theorem rfit_11 (wd v a b c : Int) (hw1 : 1 ≤ wd) (hw2 : wd ≤ 16) (a0 : 0 ≤ a) (a1 : a ≤ 16) (b0 : 0 ≤ b) (b1 : b ≤ 16) (B : Option Addr) (bc : Nat) (args : List Int) (hla : args.length = 2) (N : Option Addr) (capN : Nat) (ns : List Nd) (hns : ns.length ≤ 65536) (w : World) (hN : LiesN w N ns) (hB : LiesI w B args) (hW : Wid ns args [a, b]) :
    Calls Tryd.prog 103 #[.slice N ns.length capN, .agg #[.int .i64 11, .int .i64 wd, .slice B args.length bc, .int .i64 v]] w fun e w' => e = .returned (.bool (fitW 11 wd v a b c)) ∧ ∃ x : Aft w, w' = x.val := by
  obtain ⟨i0, hi, hz0, hz1, hz2⟩ := info_parts int_info
  have HLA := Lib.hid hla
  have HN := Lib.hid hN
  have HB := Lib.hid hB
  have HV := Lib.hid hW
  clear hN hB hW hla
  go_enter Tryd.func103, Tryd.ntmps103
  go_wp2_with fail
  have r0 : (w.alloc (.cells #[.int .i64 11, .int .i64 wd, .slice B args.length bc, .int .i64 v] 65)).heap[w.heap.size]? = some (.cells #[.int .i64 11, .int .i64 wd, .slice B args.length bc, .int .i64 v] 65) := heap_alloc_new _ _
  have hb0 : Below w.heap.size w (w.alloc (.cells #[.int .i64 11, .int .i64 wd, .slice B args.length bc, .int .i64 v] 65)) := (Below.refl _ _).alloc (Nat.le_refl _) _
  have z0 : w.heap.size < (w.alloc (.cells #[.int .i64 11, .int .i64 wd, .slice B args.length bc, .int .i64 v] 65)).heap.size := by simp
  generalize (w.alloc (.cells #[.int .i64 11, .int .i64 wd, .slice B args.length bc, .int .i64 v] 65)) = W0 at *
  have R0 := Lib.hid r0
  clear r0
  go_loopw [5, 6] (fun v5 v6 wr => ∃ j : Nat, j ≤ args.length ∧ v6 = .int .i64 j ∧ wr.ownsRow W0.heap.size 3 1 v5 j (([a, b].take j).map fun q => Value.int .i64 q) ∧ Below W0.heap.size W0 wr) (fun _ v6 _ => args.length - (intOf v6).toNat)
  case atStart => exact ⟨0, by omega, rfl, World.ownsRow_nil _ _ _ _, Below.refl _ _⟩
  case round =>
    obtain ⟨j, hj, rfl, hown, hb⟩ := hrel
    have hbs := hb.size
    have r0 : wr.heap[w.heap.size]? = some (.cells #[.int .i64 11, .int .i64 wd, .slice B args.length bc, .int .i64 v] 65) := by rw [hb.block _ z0]; exact R0.out
    have q0 := cell_block (i := 0) r0
    have q1 := cell_block (i := 1) r0
    have q2 := cell_block (i := 2) r0
    have q3 := cell_block (i := 3) r0
    simp at q0 q1 q2 q3
    have lw : w.heap.size < wr.heap.size := by omega
    have hB' : Below w.heap.size w wr := hb0.trans (hb.mono (by omega))
    by_cases hlt : j < args.length
    · obtain ⟨k, n, g1, g2, g3⟩ := HV.out j hlt
      obtain ⟨ad, rfl, hbk, hc⟩ := (HB.out.below hB').cell g1
      obtain ⟨an, rfl, hbn, _, h1, _⟩ := (HN.out.below hB').cells g2
      have hkl := (List.getElem?_eq_some_iff.1 g2).1
      have hkk : (k : Int) < ns.length := by omega
      have hjj : (j : Int) < args.length := by omega
      have hj3 : j < 4 := by have := HLA.out; omega
      have h1' : wr.cell? ⟨(an.add (k * 4)).block, (an.add (k * 4)).off + 1, none⟩ = some (.int .i64 n.wd) := h1
      have HS := Lib.hid (snoc_at g3)
      clear h1 g1 g2 g3 r0 q0 q1 q3 hbk hbn hb0
      generalize n.wd = X at *
      go_wp2_with (at_builtin; refine wpList_append_own _ rfl _ _ 22 rfl _ 3 i0 (.int .i64 0) 1 8 Tryd.underlying22 hi hz0 hz1 hz2 rfl (by decide) _ _ _ rfl (hown.alloc _) ⟨_, 0, none⟩ 1 1 [.int .i64 _] rfl rfl (cell_one_new _ _ _) (fun x hx => by simp at hx; subst hx; rfl) (by unfold maxLen; omega) (by omega) (by first | omega | (simp; omega) | (simp at *; omega)) ?_; intro v' w3 hown' hgrow3 hnn)
      go_wp2
      go_roundw
      case rel => exact ⟨j + 1, by omega, by go_num, by rw [← HS.out]; exact hown', (hb.alloc hbs (.cells #[.int .i64 X] 3)).grown hgrow3 (by simp; omega) (fun q hq => (hown.lt q hq).1)⟩
      case measure => simp [intOf]; omega
    · obtain rfl : j = args.length := by omega
      obtain ⟨g, cap, rfl, hg1, hg2⟩ := hown.form (by have := HLA.out; omega)
      have w0 : wr.cell? ⟨g, 0, none⟩ = some (.int .i64 a) := by
        have := hown.cells (g := g) rfl 0 (.int .i64 a) (by simp [HLA.out])
        rwa [Addr.add_lit, Nat.zero_add] at this
      have w1 : wr.cell? ⟨g, 1, none⟩ = some (.int .i64 b) := by
        have := hown.cells (g := g) rfl 1 (.int .i64 b) (by simp [HLA.out])
        rwa [Addr.add_lit, Nat.zero_add] at this
      have lg : g < wr.heap.size := by simpa using hg2
      have hla := HLA.out
      have hlm : (args.length : Int) = 2 := by omega
      clear hown hg1 hg2 r0 hb0 hb hla
      cases hE : (a == b)
      · have HR := Lib.hid (show fitW 11 wd v a b c = false by show (a == b && wd == 1) = false; rw [hE]; rfl)
        go_wp2_with fail
        refine wp_region_aft (by kernel_rfl) (by kernel_rfl) ?_
        repeat (go_big_quiet_step (fail))
        refine wpQuiet_nil ?_
        intro y
        go_wp2
        go_ret
        exact ⟨retB HR.out.symm, Below.aft (y.below hB' hB'.size)⟩
      · have HR := Lib.hid (show fitW 11 wd v a b c = (wd == 1) by show (a == b && wd == 1) = _; rw [hE]; rfl)
        go_wp2_with fail
        refine wp_region_aft (by kernel_rfl) (by kernel_rfl) ?_
        repeat (go_big_quiet_step (fail))
        refine wpQuiet_nil ?_
        intro y
        go_wp2
        go_ret
        exact ⟨retB HR.out.symm, Below.aft (y.below hB' hB'.size)⟩

set_option maxRecDepth 100000 in
set_option maxHeartbeats 1600000 in
theorem rfit_12 (wd v a b c : Int) (hw1 : 1 ≤ wd) (hw2 : wd ≤ 16) (a0 : 0 ≤ a) (a1 : a ≤ 16) (b0 : 0 ≤ b) (b1 : b ≤ 16) (B : Option Addr) (bc : Nat) (args : List Int) (hla : args.length = 3) (N : Option Addr) (capN : Nat) (ns : List Nd) (hns : ns.length ≤ 65536) (w : World) (hN : LiesN w N ns) (hB : LiesI w B args) (hW : Wid ns args [a, b, c]) :
    Calls Tryd.prog 103 #[.slice N ns.length capN, .agg #[.int .i64 12, .int .i64 wd, .slice B args.length bc, .int .i64 v]] w fun e w' => e = .returned (.bool (fitW 12 wd v a b c)) ∧ ∃ x : Aft w, w' = x.val := by
  obtain ⟨i0, hi, hz0, hz1, hz2⟩ := info_parts int_info
  have HLA := Lib.hid hla
  have HN := Lib.hid hN
  have HB := Lib.hid hB
  have HV := Lib.hid hW
  clear hN hB hW hla
  go_enter Tryd.func103, Tryd.ntmps103
  go_wp2_with fail
  have r0 : (w.alloc (.cells #[.int .i64 12, .int .i64 wd, .slice B args.length bc, .int .i64 v] 65)).heap[w.heap.size]? = some (.cells #[.int .i64 12, .int .i64 wd, .slice B args.length bc, .int .i64 v] 65) := heap_alloc_new _ _
  have hb0 : Below w.heap.size w (w.alloc (.cells #[.int .i64 12, .int .i64 wd, .slice B args.length bc, .int .i64 v] 65)) := (Below.refl _ _).alloc (Nat.le_refl _) _
  have z0 : w.heap.size < (w.alloc (.cells #[.int .i64 12, .int .i64 wd, .slice B args.length bc, .int .i64 v] 65)).heap.size := by simp
  generalize (w.alloc (.cells #[.int .i64 12, .int .i64 wd, .slice B args.length bc, .int .i64 v] 65)) = W0 at *
  have R0 := Lib.hid r0
  clear r0
  go_loopw [5, 6] (fun v5 v6 wr => ∃ j : Nat, j ≤ args.length ∧ v6 = .int .i64 j ∧ wr.ownsRow W0.heap.size 3 1 v5 j (([a, b, c].take j).map fun q => Value.int .i64 q) ∧ Below W0.heap.size W0 wr) (fun _ v6 _ => args.length - (intOf v6).toNat)
  case atStart => exact ⟨0, by omega, rfl, World.ownsRow_nil _ _ _ _, Below.refl _ _⟩
  case round =>
    obtain ⟨j, hj, rfl, hown, hb⟩ := hrel
    have hbs := hb.size
    have r0 : wr.heap[w.heap.size]? = some (.cells #[.int .i64 12, .int .i64 wd, .slice B args.length bc, .int .i64 v] 65) := by rw [hb.block _ z0]; exact R0.out
    have q0 := cell_block (i := 0) r0
    have q1 := cell_block (i := 1) r0
    have q2 := cell_block (i := 2) r0
    have q3 := cell_block (i := 3) r0
    simp at q0 q1 q2 q3
    have lw : w.heap.size < wr.heap.size := by omega
    have hB' : Below w.heap.size w wr := hb0.trans (hb.mono (by omega))
    by_cases hlt : j < args.length
    · obtain ⟨k, n, g1, g2, g3⟩ := HV.out j hlt
      obtain ⟨ad, rfl, hbk, hc⟩ := (HB.out.below hB').cell g1
      obtain ⟨an, rfl, hbn, _, h1, _⟩ := (HN.out.below hB').cells g2
      have hkl := (List.getElem?_eq_some_iff.1 g2).1
      have hkk : (k : Int) < ns.length := by omega
      have hjj : (j : Int) < args.length := by omega
      have hj3 : j < 4 := by have := HLA.out; omega
      have h1' : wr.cell? ⟨(an.add (k * 4)).block, (an.add (k * 4)).off + 1, none⟩ = some (.int .i64 n.wd) := h1
      have HS := Lib.hid (snoc_at g3)
      clear h1 g1 g2 g3 r0 q0 q1 q3 hbk hbn hb0
      generalize n.wd = X at *
      go_wp2_with (at_builtin; refine wpList_append_own _ rfl _ _ 22 rfl _ 3 i0 (.int .i64 0) 1 8 Tryd.underlying22 hi hz0 hz1 hz2 rfl (by decide) _ _ _ rfl (hown.alloc _) ⟨_, 0, none⟩ 1 1 [.int .i64 _] rfl rfl (cell_one_new _ _ _) (fun x hx => by simp at hx; subst hx; rfl) (by unfold maxLen; omega) (by omega) (by first | omega | (simp; omega) | (simp at *; omega)) ?_; intro v' w3 hown' hgrow3 hnn)
      go_wp2
      go_roundw
      case rel => exact ⟨j + 1, by omega, by go_num, by rw [← HS.out]; exact hown', (hb.alloc hbs (.cells #[.int .i64 X] 3)).grown hgrow3 (by simp; omega) (fun q hq => (hown.lt q hq).1)⟩
      case measure => simp [intOf]; omega
    · obtain rfl : j = args.length := by omega
      obtain ⟨g, cap, rfl, hg1, hg2⟩ := hown.form (by have := HLA.out; omega)
      have w0 : wr.cell? ⟨g, 0, none⟩ = some (.int .i64 a) := by
        have := hown.cells (g := g) rfl 0 (.int .i64 a) (by simp [HLA.out])
        rwa [Addr.add_lit, Nat.zero_add] at this
      have w1 : wr.cell? ⟨g, 1, none⟩ = some (.int .i64 b) := by
        have := hown.cells (g := g) rfl 1 (.int .i64 b) (by simp [HLA.out])
        rwa [Addr.add_lit, Nat.zero_add] at this
      have w2 : wr.cell? ⟨g, 2, none⟩ = some (.int .i64 c) := by
        have := hown.cells (g := g) rfl 2 (.int .i64 c) (by simp [HLA.out])
        rwa [Addr.add_lit, Nat.zero_add] at this
      have lg : g < wr.heap.size := by simpa using hg2
      have hla := HLA.out
      have hlm : (args.length : Int) = 3 := by omega
      clear hown hg1 hg2 r0 hb0 hb hla
      cases hE : (a == 1)
      · have HR := Lib.hid (show fitW 12 wd v a b c = false by show (a == 1 && b == wd && c == wd) = false; rw [hE]; rfl)
        go_wp2_with fail
        refine wp_region_aft (by kernel_rfl) (by kernel_rfl) ?_
        repeat (go_big_quiet_step (fail))
        refine wpQuiet_nil ?_
        intro y
        go_wp2
        go_ret
        exact ⟨retB HR.out.symm, Below.aft (y.below hB' hB'.size)⟩
      cases hF : (b == wd)
      · have HR := Lib.hid (show fitW 12 wd v a b c = false by show (a == 1 && b == wd && c == wd) = false; rw [hE, hF]; rfl)
        go_wp2_with fail
        refine wp_region_aft (by kernel_rfl) (by kernel_rfl) ?_
        repeat (go_big_quiet_step (fail))
        refine wpQuiet_nil ?_
        intro y
        go_wp2
        go_ret
        exact ⟨retB HR.out.symm, Below.aft (y.below hB' hB'.size)⟩
      · have HR := Lib.hid (show fitW 12 wd v a b c = (c == wd) by show (a == 1 && b == wd && c == wd) = _; rw [hE, hF]; rfl)
        go_wp2_with fail
        refine wp_region_aft (by kernel_rfl) (by kernel_rfl) ?_
        repeat (go_big_quiet_step (fail))
        refine wpQuiet_nil ?_
        intro y
        go_wp2
        go_ret
        exact ⟨retB HR.out.symm, Below.aft (y.below hB' hB'.size)⟩

set_option maxRecDepth 100000 in
set_option maxHeartbeats 1600000 in
theorem rfit_13 (wd v a b c : Int) (hw1 : 1 ≤ wd) (hw2 : wd ≤ 16) (a0 : 0 ≤ a) (a1 : a ≤ 16) (b0 : 0 ≤ b) (b1 : b ≤ 16) (B : Option Addr) (bc : Nat) (args : List Int) (hla : args.length = 2) (N : Option Addr) (capN : Nat) (ns : List Nd) (hns : ns.length ≤ 65536) (w : World) (hN : LiesN w N ns) (hB : LiesI w B args) (hW : Wid ns args [a, b]) :
    Calls Tryd.prog 103 #[.slice N ns.length capN, .agg #[.int .i64 13, .int .i64 wd, .slice B args.length bc, .int .i64 v]] w fun e w' => e = .returned (.bool (fitW 13 wd v a b c)) ∧ ∃ x : Aft w, w' = x.val := by
  obtain ⟨i0, hi, hz0, hz1, hz2⟩ := info_parts int_info
  have HLA := Lib.hid hla
  have HN := Lib.hid hN
  have HB := Lib.hid hB
  have HV := Lib.hid hW
  clear hN hB hW hla
  go_enter Tryd.func103, Tryd.ntmps103
  go_wp2_with fail
  have r0 : (w.alloc (.cells #[.int .i64 13, .int .i64 wd, .slice B args.length bc, .int .i64 v] 65)).heap[w.heap.size]? = some (.cells #[.int .i64 13, .int .i64 wd, .slice B args.length bc, .int .i64 v] 65) := heap_alloc_new _ _
  have hb0 : Below w.heap.size w (w.alloc (.cells #[.int .i64 13, .int .i64 wd, .slice B args.length bc, .int .i64 v] 65)) := (Below.refl _ _).alloc (Nat.le_refl _) _
  have z0 : w.heap.size < (w.alloc (.cells #[.int .i64 13, .int .i64 wd, .slice B args.length bc, .int .i64 v] 65)).heap.size := by simp
  generalize (w.alloc (.cells #[.int .i64 13, .int .i64 wd, .slice B args.length bc, .int .i64 v] 65)) = W0 at *
  have R0 := Lib.hid r0
  clear r0
  go_loopw [5, 6] (fun v5 v6 wr => ∃ j : Nat, j ≤ args.length ∧ v6 = .int .i64 j ∧ wr.ownsRow W0.heap.size 3 1 v5 j (([a, b].take j).map fun q => Value.int .i64 q) ∧ Below W0.heap.size W0 wr) (fun _ v6 _ => args.length - (intOf v6).toNat)
  case atStart => exact ⟨0, by omega, rfl, World.ownsRow_nil _ _ _ _, Below.refl _ _⟩
  case round =>
    obtain ⟨j, hj, rfl, hown, hb⟩ := hrel
    have hbs := hb.size
    have r0 : wr.heap[w.heap.size]? = some (.cells #[.int .i64 13, .int .i64 wd, .slice B args.length bc, .int .i64 v] 65) := by rw [hb.block _ z0]; exact R0.out
    have q0 := cell_block (i := 0) r0
    have q1 := cell_block (i := 1) r0
    have q2 := cell_block (i := 2) r0
    have q3 := cell_block (i := 3) r0
    simp at q0 q1 q2 q3
    have lw : w.heap.size < wr.heap.size := by omega
    have hB' : Below w.heap.size w wr := hb0.trans (hb.mono (by omega))
    by_cases hlt : j < args.length
    · obtain ⟨k, n, g1, g2, g3⟩ := HV.out j hlt
      obtain ⟨ad, rfl, hbk, hc⟩ := (HB.out.below hB').cell g1
      obtain ⟨an, rfl, hbn, _, h1, _⟩ := (HN.out.below hB').cells g2
      have hkl := (List.getElem?_eq_some_iff.1 g2).1
      have hkk : (k : Int) < ns.length := by omega
      have hjj : (j : Int) < args.length := by omega
      have hj3 : j < 4 := by have := HLA.out; omega
      have h1' : wr.cell? ⟨(an.add (k * 4)).block, (an.add (k * 4)).off + 1, none⟩ = some (.int .i64 n.wd) := h1
      have HS := Lib.hid (snoc_at g3)
      clear h1 g1 g2 g3 r0 q0 q1 q3 hbk hbn hb0
      generalize n.wd = X at *
      go_wp2_with (at_builtin; refine wpList_append_own _ rfl _ _ 22 rfl _ 3 i0 (.int .i64 0) 1 8 Tryd.underlying22 hi hz0 hz1 hz2 rfl (by decide) _ _ _ rfl (hown.alloc _) ⟨_, 0, none⟩ 1 1 [.int .i64 _] rfl rfl (cell_one_new _ _ _) (fun x hx => by simp at hx; subst hx; rfl) (by unfold maxLen; omega) (by omega) (by first | omega | (simp; omega) | (simp at *; omega)) ?_; intro v' w3 hown' hgrow3 hnn)
      go_wp2
      go_roundw
      case rel => exact ⟨j + 1, by omega, by go_num, by rw [← HS.out]; exact hown', (hb.alloc hbs (.cells #[.int .i64 X] 3)).grown hgrow3 (by simp; omega) (fun q hq => (hown.lt q hq).1)⟩
      case measure => simp [intOf]; omega
    · obtain rfl : j = args.length := by omega
      obtain ⟨g, cap, rfl, hg1, hg2⟩ := hown.form (by have := HLA.out; omega)
      have w0 : wr.cell? ⟨g, 0, none⟩ = some (.int .i64 a) := by
        have := hown.cells (g := g) rfl 0 (.int .i64 a) (by simp [HLA.out])
        rwa [Addr.add_lit, Nat.zero_add] at this
      have w1 : wr.cell? ⟨g, 1, none⟩ = some (.int .i64 b) := by
        have := hown.cells (g := g) rfl 1 (.int .i64 b) (by simp [HLA.out])
        rwa [Addr.add_lit, Nat.zero_add] at this
      have lg : g < wr.heap.size := by simpa using hg2
      have hla := HLA.out
      have hlm : (args.length : Int) = 2 := by omega
      clear hown hg1 hg2 r0 hb0 hb hla
      have HR := Lib.hid (show fitW 13 wd v a b c = (a + b == wd) from rfl)
      go_wp2_with fail
      refine wp_region_aft (by kernel_rfl) (by kernel_rfl) ?_
      repeat (go_big_quiet_step (fail))
      refine wpQuiet_nil ?_
      intro y
      go_wp2
      go_ret
      exact ⟨retB HR.out.symm, Below.aft (y.below hB' hB'.size)⟩

set_option maxRecDepth 100000 in
set_option maxHeartbeats 1600000 in
theorem rfit_14 (wd v a b c : Int) (hw1 : 1 ≤ wd) (hw2 : wd ≤ 16) (a0 : 0 ≤ a) (a1 : a ≤ 16) (b0 : 0 ≤ b) (b1 : b ≤ 16) (v0 : 0 ≤ v) (v1 : v ≤ 15) (B : Option Addr) (bc : Nat) (args : List Int) (hla : args.length = 1) (N : Option Addr) (capN : Nat) (ns : List Nd) (hns : ns.length ≤ 65536) (w : World) (hN : LiesN w N ns) (hB : LiesI w B args) (hW : Wid ns args [a]) :
    Calls Tryd.prog 103 #[.slice N ns.length capN, .agg #[.int .i64 14, .int .i64 wd, .slice B args.length bc, .int .i64 v]] w fun e w' => e = .returned (.bool (fitW 14 wd v a b c)) ∧ ∃ x : Aft w, w' = x.val := by
  obtain ⟨i0, hi, hz0, hz1, hz2⟩ := info_parts int_info
  have HLA := Lib.hid hla
  have HN := Lib.hid hN
  have HB := Lib.hid hB
  have HV := Lib.hid hW
  clear hN hB hW hla
  go_enter Tryd.func103, Tryd.ntmps103
  go_wp2_with fail
  have r0 : (w.alloc (.cells #[.int .i64 14, .int .i64 wd, .slice B args.length bc, .int .i64 v] 65)).heap[w.heap.size]? = some (.cells #[.int .i64 14, .int .i64 wd, .slice B args.length bc, .int .i64 v] 65) := heap_alloc_new _ _
  have hb0 : Below w.heap.size w (w.alloc (.cells #[.int .i64 14, .int .i64 wd, .slice B args.length bc, .int .i64 v] 65)) := (Below.refl _ _).alloc (Nat.le_refl _) _
  have z0 : w.heap.size < (w.alloc (.cells #[.int .i64 14, .int .i64 wd, .slice B args.length bc, .int .i64 v] 65)).heap.size := by simp
  generalize (w.alloc (.cells #[.int .i64 14, .int .i64 wd, .slice B args.length bc, .int .i64 v] 65)) = W0 at *
  have R0 := Lib.hid r0
  clear r0
  go_loopw [5, 6] (fun v5 v6 wr => ∃ j : Nat, j ≤ args.length ∧ v6 = .int .i64 j ∧ wr.ownsRow W0.heap.size 3 1 v5 j (([a].take j).map fun q => Value.int .i64 q) ∧ Below W0.heap.size W0 wr) (fun _ v6 _ => args.length - (intOf v6).toNat)
  case atStart => exact ⟨0, by omega, rfl, World.ownsRow_nil _ _ _ _, Below.refl _ _⟩
  case round =>
    obtain ⟨j, hj, rfl, hown, hb⟩ := hrel
    have hbs := hb.size
    have r0 : wr.heap[w.heap.size]? = some (.cells #[.int .i64 14, .int .i64 wd, .slice B args.length bc, .int .i64 v] 65) := by rw [hb.block _ z0]; exact R0.out
    have q0 := cell_block (i := 0) r0
    have q1 := cell_block (i := 1) r0
    have q2 := cell_block (i := 2) r0
    have q3 := cell_block (i := 3) r0
    simp at q0 q1 q2 q3
    have lw : w.heap.size < wr.heap.size := by omega
    have hB' : Below w.heap.size w wr := hb0.trans (hb.mono (by omega))
    by_cases hlt : j < args.length
    · obtain ⟨k, n, g1, g2, g3⟩ := HV.out j hlt
      obtain ⟨ad, rfl, hbk, hc⟩ := (HB.out.below hB').cell g1
      obtain ⟨an, rfl, hbn, _, h1, _⟩ := (HN.out.below hB').cells g2
      have hkl := (List.getElem?_eq_some_iff.1 g2).1
      have hkk : (k : Int) < ns.length := by omega
      have hjj : (j : Int) < args.length := by omega
      have hj3 : j < 4 := by have := HLA.out; omega
      have h1' : wr.cell? ⟨(an.add (k * 4)).block, (an.add (k * 4)).off + 1, none⟩ = some (.int .i64 n.wd) := h1
      have HS := Lib.hid (snoc_at g3)
      clear h1 g1 g2 g3 r0 q0 q1 q3 hbk hbn hb0
      generalize n.wd = X at *
      go_wp2_with (at_builtin; refine wpList_append_own _ rfl _ _ 22 rfl _ 3 i0 (.int .i64 0) 1 8 Tryd.underlying22 hi hz0 hz1 hz2 rfl (by decide) _ _ _ rfl (hown.alloc _) ⟨_, 0, none⟩ 1 1 [.int .i64 _] rfl rfl (cell_one_new _ _ _) (fun x hx => by simp at hx; subst hx; rfl) (by unfold maxLen; omega) (by omega) (by first | omega | (simp; omega) | (simp at *; omega)) ?_; intro v' w3 hown' hgrow3 hnn)
      go_wp2
      go_roundw
      case rel => exact ⟨j + 1, by omega, by go_num, by rw [← HS.out]; exact hown', (hb.alloc hbs (.cells #[.int .i64 X] 3)).grown hgrow3 (by simp; omega) (fun q hq => (hown.lt q hq).1)⟩
      case measure => simp [intOf]; omega
    · obtain rfl : j = args.length := by omega
      obtain ⟨g, cap, rfl, hg1, hg2⟩ := hown.form (by have := HLA.out; omega)
      have w0 : wr.cell? ⟨g, 0, none⟩ = some (.int .i64 a) := by
        have := hown.cells (g := g) rfl 0 (.int .i64 a) (by simp [HLA.out])
        rwa [Addr.add_lit, Nat.zero_add] at this
      have lg : g < wr.heap.size := by simpa using hg2
      have hla := HLA.out
      have hlm : (args.length : Int) = 1 := by omega
      clear hown hg1 hg2 r0 hb0 hb hla
      have HR := Lib.hid (show fitW 14 wd v a b c = (decide (v + wd ≤ a)) from rfl)
      go_wp2_with fail
      refine wp_region_aft (by kernel_rfl) (by kernel_rfl) ?_
      repeat (go_big_quiet_step (fail))
      refine wpQuiet_nil ?_
      intro y
      go_wp2
      go_ret
      exact ⟨retB HR.out.symm, Below.aft (y.below hB' hB'.size)⟩

set_option maxRecDepth 100000 in
set_option maxHeartbeats 1600000 in
theorem rfit_15 (wd v a b c : Int) (hw1 : 1 ≤ wd) (hw2 : wd ≤ 16) (a0 : 0 ≤ a) (a1 : a ≤ 16) (b0 : 0 ≤ b) (b1 : b ≤ 16) (B : Option Addr) (bc : Nat) (args : List Int) (hla : args.length = 1) (N : Option Addr) (capN : Nat) (ns : List Nd) (hns : ns.length ≤ 65536) (w : World) (hN : LiesN w N ns) (hB : LiesI w B args) (hW : Wid ns args [a]) :
    Calls Tryd.prog 103 #[.slice N ns.length capN, .agg #[.int .i64 15, .int .i64 wd, .slice B args.length bc, .int .i64 v]] w fun e w' => e = .returned (.bool (fitW 15 wd v a b c)) ∧ ∃ x : Aft w, w' = x.val := by
  obtain ⟨i0, hi, hz0, hz1, hz2⟩ := info_parts int_info
  have HLA := Lib.hid hla
  have HN := Lib.hid hN
  have HB := Lib.hid hB
  have HV := Lib.hid hW
  clear hN hB hW hla
  go_enter Tryd.func103, Tryd.ntmps103
  go_wp2_with fail
  have r0 : (w.alloc (.cells #[.int .i64 15, .int .i64 wd, .slice B args.length bc, .int .i64 v] 65)).heap[w.heap.size]? = some (.cells #[.int .i64 15, .int .i64 wd, .slice B args.length bc, .int .i64 v] 65) := heap_alloc_new _ _
  have hb0 : Below w.heap.size w (w.alloc (.cells #[.int .i64 15, .int .i64 wd, .slice B args.length bc, .int .i64 v] 65)) := (Below.refl _ _).alloc (Nat.le_refl _) _
  have z0 : w.heap.size < (w.alloc (.cells #[.int .i64 15, .int .i64 wd, .slice B args.length bc, .int .i64 v] 65)).heap.size := by simp
  generalize (w.alloc (.cells #[.int .i64 15, .int .i64 wd, .slice B args.length bc, .int .i64 v] 65)) = W0 at *
  have R0 := Lib.hid r0
  clear r0
  go_loopw [5, 6] (fun v5 v6 wr => ∃ j : Nat, j ≤ args.length ∧ v6 = .int .i64 j ∧ wr.ownsRow W0.heap.size 3 1 v5 j (([a].take j).map fun q => Value.int .i64 q) ∧ Below W0.heap.size W0 wr) (fun _ v6 _ => args.length - (intOf v6).toNat)
  case atStart => exact ⟨0, by omega, rfl, World.ownsRow_nil _ _ _ _, Below.refl _ _⟩
  case round =>
    obtain ⟨j, hj, rfl, hown, hb⟩ := hrel
    have hbs := hb.size
    have r0 : wr.heap[w.heap.size]? = some (.cells #[.int .i64 15, .int .i64 wd, .slice B args.length bc, .int .i64 v] 65) := by rw [hb.block _ z0]; exact R0.out
    have q0 := cell_block (i := 0) r0
    have q1 := cell_block (i := 1) r0
    have q2 := cell_block (i := 2) r0
    have q3 := cell_block (i := 3) r0
    simp at q0 q1 q2 q3
    have lw : w.heap.size < wr.heap.size := by omega
    have hB' : Below w.heap.size w wr := hb0.trans (hb.mono (by omega))
    by_cases hlt : j < args.length
    · obtain ⟨k, n, g1, g2, g3⟩ := HV.out j hlt
      obtain ⟨ad, rfl, hbk, hc⟩ := (HB.out.below hB').cell g1
      obtain ⟨an, rfl, hbn, _, h1, _⟩ := (HN.out.below hB').cells g2
      have hkl := (List.getElem?_eq_some_iff.1 g2).1
      have hkk : (k : Int) < ns.length := by omega
      have hjj : (j : Int) < args.length := by omega
      have hj3 : j < 4 := by have := HLA.out; omega
      have h1' : wr.cell? ⟨(an.add (k * 4)).block, (an.add (k * 4)).off + 1, none⟩ = some (.int .i64 n.wd) := h1
      have HS := Lib.hid (snoc_at g3)
      clear h1 g1 g2 g3 r0 q0 q1 q3 hbk hbn hb0
      generalize n.wd = X at *
      go_wp2_with (at_builtin; refine wpList_append_own _ rfl _ _ 22 rfl _ 3 i0 (.int .i64 0) 1 8 Tryd.underlying22 hi hz0 hz1 hz2 rfl (by decide) _ _ _ rfl (hown.alloc _) ⟨_, 0, none⟩ 1 1 [.int .i64 _] rfl rfl (cell_one_new _ _ _) (fun x hx => by simp at hx; subst hx; rfl) (by unfold maxLen; omega) (by omega) (by first | omega | (simp; omega) | (simp at *; omega)) ?_; intro v' w3 hown' hgrow3 hnn)
      go_wp2
      go_roundw
      case rel => exact ⟨j + 1, by omega, by go_num, by rw [← HS.out]; exact hown', (hb.alloc hbs (.cells #[.int .i64 X] 3)).grown hgrow3 (by simp; omega) (fun q hq => (hown.lt q hq).1)⟩
      case measure => simp [intOf]; omega
    · obtain rfl : j = args.length := by omega
      obtain ⟨g, cap, rfl, hg1, hg2⟩ := hown.form (by have := HLA.out; omega)
      have w0 : wr.cell? ⟨g, 0, none⟩ = some (.int .i64 a) := by
        have := hown.cells (g := g) rfl 0 (.int .i64 a) (by simp [HLA.out])
        rwa [Addr.add_lit, Nat.zero_add] at this
      have lg : g < wr.heap.size := by simpa using hg2
      have hla := HLA.out
      have hlm : (args.length : Int) = 1 := by omega
      clear hown hg1 hg2 r0 hb0 hb hla
      have HR := Lib.hid (show fitW 15 wd v a b c = (decide (a ≤ wd)) from rfl)
      go_wp2_with fail
      refine wp_region_aft (by kernel_rfl) (by kernel_rfl) ?_
      repeat (go_big_quiet_step (fail))
      refine wpQuiet_nil ?_
      intro y
      go_wp2
      go_ret
      exact ⟨retB HR.out.symm, Below.aft (y.below hB' hB'.size)⟩

set_option maxRecDepth 100000 in
set_option maxHeartbeats 1600000 in
theorem rfit_16 (wd v a b c : Int) (hw1 : 1 ≤ wd) (hw2 : wd ≤ 16) (a0 : 0 ≤ a) (a1 : a ≤ 16) (b0 : 0 ≤ b) (b1 : b ≤ 16) (B : Option Addr) (bc : Nat) (args : List Int) (hla : args.length = 1) (N : Option Addr) (capN : Nat) (ns : List Nd) (hns : ns.length ≤ 65536) (w : World) (hN : LiesN w N ns) (hB : LiesI w B args) (hW : Wid ns args [a]) :
    Calls Tryd.prog 103 #[.slice N ns.length capN, .agg #[.int .i64 16, .int .i64 wd, .slice B args.length bc, .int .i64 v]] w fun e w' => e = .returned (.bool (fitW 16 wd v a b c)) ∧ ∃ x : Aft w, w' = x.val := by
  obtain ⟨i0, hi, hz0, hz1, hz2⟩ := info_parts int_info
  have HLA := Lib.hid hla
  have HN := Lib.hid hN
  have HB := Lib.hid hB
  have HV := Lib.hid hW
  clear hN hB hW hla
  go_enter Tryd.func103, Tryd.ntmps103
  go_wp2_with fail
  have r0 : (w.alloc (.cells #[.int .i64 16, .int .i64 wd, .slice B args.length bc, .int .i64 v] 65)).heap[w.heap.size]? = some (.cells #[.int .i64 16, .int .i64 wd, .slice B args.length bc, .int .i64 v] 65) := heap_alloc_new _ _
  have hb0 : Below w.heap.size w (w.alloc (.cells #[.int .i64 16, .int .i64 wd, .slice B args.length bc, .int .i64 v] 65)) := (Below.refl _ _).alloc (Nat.le_refl _) _
  have z0 : w.heap.size < (w.alloc (.cells #[.int .i64 16, .int .i64 wd, .slice B args.length bc, .int .i64 v] 65)).heap.size := by simp
  generalize (w.alloc (.cells #[.int .i64 16, .int .i64 wd, .slice B args.length bc, .int .i64 v] 65)) = W0 at *
  have R0 := Lib.hid r0
  clear r0
  go_loopw [5, 6] (fun v5 v6 wr => ∃ j : Nat, j ≤ args.length ∧ v6 = .int .i64 j ∧ wr.ownsRow W0.heap.size 3 1 v5 j (([a].take j).map fun q => Value.int .i64 q) ∧ Below W0.heap.size W0 wr) (fun _ v6 _ => args.length - (intOf v6).toNat)
  case atStart => exact ⟨0, by omega, rfl, World.ownsRow_nil _ _ _ _, Below.refl _ _⟩
  case round =>
    obtain ⟨j, hj, rfl, hown, hb⟩ := hrel
    have hbs := hb.size
    have r0 : wr.heap[w.heap.size]? = some (.cells #[.int .i64 16, .int .i64 wd, .slice B args.length bc, .int .i64 v] 65) := by rw [hb.block _ z0]; exact R0.out
    have q0 := cell_block (i := 0) r0
    have q1 := cell_block (i := 1) r0
    have q2 := cell_block (i := 2) r0
    have q3 := cell_block (i := 3) r0
    simp at q0 q1 q2 q3
    have lw : w.heap.size < wr.heap.size := by omega
    have hB' : Below w.heap.size w wr := hb0.trans (hb.mono (by omega))
    by_cases hlt : j < args.length
    · obtain ⟨k, n, g1, g2, g3⟩ := HV.out j hlt
      obtain ⟨ad, rfl, hbk, hc⟩ := (HB.out.below hB').cell g1
      obtain ⟨an, rfl, hbn, _, h1, _⟩ := (HN.out.below hB').cells g2
      have hkl := (List.getElem?_eq_some_iff.1 g2).1
      have hkk : (k : Int) < ns.length := by omega
      have hjj : (j : Int) < args.length := by omega
      have hj3 : j < 4 := by have := HLA.out; omega
      have h1' : wr.cell? ⟨(an.add (k * 4)).block, (an.add (k * 4)).off + 1, none⟩ = some (.int .i64 n.wd) := h1
      have HS := Lib.hid (snoc_at g3)
      clear h1 g1 g2 g3 r0 q0 q1 q3 hbk hbn hb0
      generalize n.wd = X at *
      go_wp2_with (at_builtin; refine wpList_append_own _ rfl _ _ 22 rfl _ 3 i0 (.int .i64 0) 1 8 Tryd.underlying22 hi hz0 hz1 hz2 rfl (by decide) _ _ _ rfl (hown.alloc _) ⟨_, 0, none⟩ 1 1 [.int .i64 _] rfl rfl (cell_one_new _ _ _) (fun x hx => by simp at hx; subst hx; rfl) (by unfold maxLen; omega) (by omega) (by first | omega | (simp; omega) | (simp at *; omega)) ?_; intro v' w3 hown' hgrow3 hnn)
      go_wp2
      go_roundw
      case rel => exact ⟨j + 1, by omega, by go_num, by rw [← HS.out]; exact hown', (hb.alloc hbs (.cells #[.int .i64 X] 3)).grown hgrow3 (by simp; omega) (fun q hq => (hown.lt q hq).1)⟩
      case measure => simp [intOf]; omega
    · obtain rfl : j = args.length := by omega
      obtain ⟨g, cap, rfl, hg1, hg2⟩ := hown.form (by have := HLA.out; omega)
      have w0 : wr.cell? ⟨g, 0, none⟩ = some (.int .i64 a) := by
        have := hown.cells (g := g) rfl 0 (.int .i64 a) (by simp [HLA.out])
        rwa [Addr.add_lit, Nat.zero_add] at this
      have lg : g < wr.heap.size := by simpa using hg2
      have hla := HLA.out
      have hlm : (args.length : Int) = 1 := by omega
      clear hown hg1 hg2 r0 hb0 hb hla
      have HR := Lib.hid (show fitW 16 wd v a b c = (decide (a ≤ wd)) from rfl)
      go_wp2_with fail
      refine wp_region_aft (by kernel_rfl) (by kernel_rfl) ?_
      repeat (go_big_quiet_step (fail))
      refine wpQuiet_nil ?_
      intro y
      go_wp2
      go_ret
      exact ⟨retB HR.out.symm, Below.aft (y.below hB' hB'.size)⟩

set_option maxRecDepth 100000 in
set_option maxHeartbeats 1600000 in
theorem rfit_17 (wd v a b c : Int) (hw1 : 1 ≤ wd) (hw2 : wd ≤ 16) (a0 : 0 ≤ a) (a1 : a ≤ 16) (b0 : 0 ≤ b) (b1 : b ≤ 16) (B : Option Addr) (bc : Nat) (args : List Int) (hla : args.length = 2) (N : Option Addr) (capN : Nat) (ns : List Nd) (hns : ns.length ≤ 65536) (w : World) (hN : LiesN w N ns) (hB : LiesI w B args) (hW : Wid ns args [a, b]) :
    Calls Tryd.prog 103 #[.slice N ns.length capN, .agg #[.int .i64 17, .int .i64 wd, .slice B args.length bc, .int .i64 v]] w fun e w' => e = .returned (.bool (fitW 17 wd v a b c)) ∧ ∃ x : Aft w, w' = x.val := by
  obtain ⟨i0, hi, hz0, hz1, hz2⟩ := info_parts int_info
  have HLA := Lib.hid hla
  have HN := Lib.hid hN
  have HB := Lib.hid hB
  have HV := Lib.hid hW
  clear hN hB hW hla
  go_enter Tryd.func103, Tryd.ntmps103
  go_wp2_with fail
  have r0 : (w.alloc (.cells #[.int .i64 17, .int .i64 wd, .slice B args.length bc, .int .i64 v] 65)).heap[w.heap.size]? = some (.cells #[.int .i64 17, .int .i64 wd, .slice B args.length bc, .int .i64 v] 65) := heap_alloc_new _ _
  have hb0 : Below w.heap.size w (w.alloc (.cells #[.int .i64 17, .int .i64 wd, .slice B args.length bc, .int .i64 v] 65)) := (Below.refl _ _).alloc (Nat.le_refl _) _
  have z0 : w.heap.size < (w.alloc (.cells #[.int .i64 17, .int .i64 wd, .slice B args.length bc, .int .i64 v] 65)).heap.size := by simp
  generalize (w.alloc (.cells #[.int .i64 17, .int .i64 wd, .slice B args.length bc, .int .i64 v] 65)) = W0 at *
  have R0 := Lib.hid r0
  clear r0
  go_loopw [5, 6] (fun v5 v6 wr => ∃ j : Nat, j ≤ args.length ∧ v6 = .int .i64 j ∧ wr.ownsRow W0.heap.size 3 1 v5 j (([a, b].take j).map fun q => Value.int .i64 q) ∧ Below W0.heap.size W0 wr) (fun _ v6 _ => args.length - (intOf v6).toNat)
  case atStart => exact ⟨0, by omega, rfl, World.ownsRow_nil _ _ _ _, Below.refl _ _⟩
  case round =>
    obtain ⟨j, hj, rfl, hown, hb⟩ := hrel
    have hbs := hb.size
    have r0 : wr.heap[w.heap.size]? = some (.cells #[.int .i64 17, .int .i64 wd, .slice B args.length bc, .int .i64 v] 65) := by rw [hb.block _ z0]; exact R0.out
    have q0 := cell_block (i := 0) r0
    have q1 := cell_block (i := 1) r0
    have q2 := cell_block (i := 2) r0
    have q3 := cell_block (i := 3) r0
    simp at q0 q1 q2 q3
    have lw : w.heap.size < wr.heap.size := by omega
    have hB' : Below w.heap.size w wr := hb0.trans (hb.mono (by omega))
    by_cases hlt : j < args.length
    · obtain ⟨k, n, g1, g2, g3⟩ := HV.out j hlt
      obtain ⟨ad, rfl, hbk, hc⟩ := (HB.out.below hB').cell g1
      obtain ⟨an, rfl, hbn, _, h1, _⟩ := (HN.out.below hB').cells g2
      have hkl := (List.getElem?_eq_some_iff.1 g2).1
      have hkk : (k : Int) < ns.length := by omega
      have hjj : (j : Int) < args.length := by omega
      have hj3 : j < 4 := by have := HLA.out; omega
      have h1' : wr.cell? ⟨(an.add (k * 4)).block, (an.add (k * 4)).off + 1, none⟩ = some (.int .i64 n.wd) := h1
      have HS := Lib.hid (snoc_at g3)
      clear h1 g1 g2 g3 r0 q0 q1 q3 hbk hbn hb0
      generalize n.wd = X at *
      go_wp2_with (at_builtin; refine wpList_append_own _ rfl _ _ 22 rfl _ 3 i0 (.int .i64 0) 1 8 Tryd.underlying22 hi hz0 hz1 hz2 rfl (by decide) _ _ _ rfl (hown.alloc _) ⟨_, 0, none⟩ 1 1 [.int .i64 _] rfl rfl (cell_one_new _ _ _) (fun x hx => by simp at hx; subst hx; rfl) (by unfold maxLen; omega) (by omega) (by first | omega | (simp; omega) | (simp at *; omega)) ?_; intro v' w3 hown' hgrow3 hnn)
      go_wp2
      go_roundw
      case rel => exact ⟨j + 1, by omega, by go_num, by rw [← HS.out]; exact hown', (hb.alloc hbs (.cells #[.int .i64 X] 3)).grown hgrow3 (by simp; omega) (fun q hq => (hown.lt q hq).1)⟩
      case measure => simp [intOf]; omega
    · obtain rfl : j = args.length := by omega
      obtain ⟨g, cap, rfl, hg1, hg2⟩ := hown.form (by have := HLA.out; omega)
      have w0 : wr.cell? ⟨g, 0, none⟩ = some (.int .i64 a) := by
        have := hown.cells (g := g) rfl 0 (.int .i64 a) (by simp [HLA.out])
        rwa [Addr.add_lit, Nat.zero_add] at this
      have w1 : wr.cell? ⟨g, 1, none⟩ = some (.int .i64 b) := by
        have := hown.cells (g := g) rfl 1 (.int .i64 b) (by simp [HLA.out])
        rwa [Addr.add_lit, Nat.zero_add] at this
      have lg : g < wr.heap.size := by simpa using hg2
      have hla := HLA.out
      have hlm : (args.length : Int) = 2 := by omega
      clear hown hg1 hg2 r0 hb0 hb hla
      have HR := Lib.hid (show fitW 17 wd v a b c = (a == wd) from rfl)
      go_wp2_with fail
      refine wp_region_aft (by kernel_rfl) (by kernel_rfl) ?_
      repeat (go_big_quiet_step (fail))
      refine wpQuiet_nil ?_
      intro y
      go_wp2
      go_ret
      exact ⟨retB HR.out.symm, Below.aft (y.below hB' hB'.size)⟩

set_option maxRecDepth 100000 in
set_option maxHeartbeats 1600000 in
theorem rfit_18 (wd v a b c : Int) (hw1 : 1 ≤ wd) (hw2 : wd ≤ 16) (a0 : 0 ≤ a) (a1 : a ≤ 16) (b0 : 0 ≤ b) (b1 : b ≤ 16) (B : Option Addr) (bc : Nat) (args : List Int) (hla : args.length = 2) (N : Option Addr) (capN : Nat) (ns : List Nd) (hns : ns.length ≤ 65536) (w : World) (hN : LiesN w N ns) (hB : LiesI w B args) (hW : Wid ns args [a, b]) :
    Calls Tryd.prog 103 #[.slice N ns.length capN, .agg #[.int .i64 18, .int .i64 wd, .slice B args.length bc, .int .i64 v]] w fun e w' => e = .returned (.bool (fitW 18 wd v a b c)) ∧ ∃ x : Aft w, w' = x.val := by
  obtain ⟨i0, hi, hz0, hz1, hz2⟩ := info_parts int_info
  have HLA := Lib.hid hla
  have HN := Lib.hid hN
  have HB := Lib.hid hB
  have HV := Lib.hid hW
  clear hN hB hW hla
  go_enter Tryd.func103, Tryd.ntmps103
  go_wp2_with fail
  have r0 : (w.alloc (.cells #[.int .i64 18, .int .i64 wd, .slice B args.length bc, .int .i64 v] 65)).heap[w.heap.size]? = some (.cells #[.int .i64 18, .int .i64 wd, .slice B args.length bc, .int .i64 v] 65) := heap_alloc_new _ _
  have hb0 : Below w.heap.size w (w.alloc (.cells #[.int .i64 18, .int .i64 wd, .slice B args.length bc, .int .i64 v] 65)) := (Below.refl _ _).alloc (Nat.le_refl _) _
  have z0 : w.heap.size < (w.alloc (.cells #[.int .i64 18, .int .i64 wd, .slice B args.length bc, .int .i64 v] 65)).heap.size := by simp
  generalize (w.alloc (.cells #[.int .i64 18, .int .i64 wd, .slice B args.length bc, .int .i64 v] 65)) = W0 at *
  have R0 := Lib.hid r0
  clear r0
  go_loopw [5, 6] (fun v5 v6 wr => ∃ j : Nat, j ≤ args.length ∧ v6 = .int .i64 j ∧ wr.ownsRow W0.heap.size 3 1 v5 j (([a, b].take j).map fun q => Value.int .i64 q) ∧ Below W0.heap.size W0 wr) (fun _ v6 _ => args.length - (intOf v6).toNat)
  case atStart => exact ⟨0, by omega, rfl, World.ownsRow_nil _ _ _ _, Below.refl _ _⟩
  case round =>
    obtain ⟨j, hj, rfl, hown, hb⟩ := hrel
    have hbs := hb.size
    have r0 : wr.heap[w.heap.size]? = some (.cells #[.int .i64 18, .int .i64 wd, .slice B args.length bc, .int .i64 v] 65) := by rw [hb.block _ z0]; exact R0.out
    have q0 := cell_block (i := 0) r0
    have q1 := cell_block (i := 1) r0
    have q2 := cell_block (i := 2) r0
    have q3 := cell_block (i := 3) r0
    simp at q0 q1 q2 q3
    have lw : w.heap.size < wr.heap.size := by omega
    have hB' : Below w.heap.size w wr := hb0.trans (hb.mono (by omega))
    by_cases hlt : j < args.length
    · obtain ⟨k, n, g1, g2, g3⟩ := HV.out j hlt
      obtain ⟨ad, rfl, hbk, hc⟩ := (HB.out.below hB').cell g1
      obtain ⟨an, rfl, hbn, _, h1, _⟩ := (HN.out.below hB').cells g2
      have hkl := (List.getElem?_eq_some_iff.1 g2).1
      have hkk : (k : Int) < ns.length := by omega
      have hjj : (j : Int) < args.length := by omega
      have hj3 : j < 4 := by have := HLA.out; omega
      have h1' : wr.cell? ⟨(an.add (k * 4)).block, (an.add (k * 4)).off + 1, none⟩ = some (.int .i64 n.wd) := h1
      have HS := Lib.hid (snoc_at g3)
      clear h1 g1 g2 g3 r0 q0 q1 q3 hbk hbn hb0
      generalize n.wd = X at *
      go_wp2_with (at_builtin; refine wpList_append_own _ rfl _ _ 22 rfl _ 3 i0 (.int .i64 0) 1 8 Tryd.underlying22 hi hz0 hz1 hz2 rfl (by decide) _ _ _ rfl (hown.alloc _) ⟨_, 0, none⟩ 1 1 [.int .i64 _] rfl rfl (cell_one_new _ _ _) (fun x hx => by simp at hx; subst hx; rfl) (by unfold maxLen; omega) (by omega) (by first | omega | (simp; omega) | (simp at *; omega)) ?_; intro v' w3 hown' hgrow3 hnn)
      go_wp2
      go_roundw
      case rel => exact ⟨j + 1, by omega, by go_num, by rw [← HS.out]; exact hown', (hb.alloc hbs (.cells #[.int .i64 X] 3)).grown hgrow3 (by simp; omega) (fun q hq => (hown.lt q hq).1)⟩
      case measure => simp [intOf]; omega
    · obtain rfl : j = args.length := by omega
      obtain ⟨g, cap, rfl, hg1, hg2⟩ := hown.form (by have := HLA.out; omega)
      have w0 : wr.cell? ⟨g, 0, none⟩ = some (.int .i64 a) := by
        have := hown.cells (g := g) rfl 0 (.int .i64 a) (by simp [HLA.out])
        rwa [Addr.add_lit, Nat.zero_add] at this
      have w1 : wr.cell? ⟨g, 1, none⟩ = some (.int .i64 b) := by
        have := hown.cells (g := g) rfl 1 (.int .i64 b) (by simp [HLA.out])
        rwa [Addr.add_lit, Nat.zero_add] at this
      have lg : g < wr.heap.size := by simpa using hg2
      have hla := HLA.out
      have hlm : (args.length : Int) = 2 := by omega
      clear hown hg1 hg2 r0 hb0 hb hla
      have HR := Lib.hid (show fitW 18 wd v a b c = (a == wd) from rfl)
      go_wp2_with fail
      refine wp_region_aft (by kernel_rfl) (by kernel_rfl) ?_
      repeat (go_big_quiet_step (fail))
      refine wpQuiet_nil ?_
      intro y
      go_wp2
      go_ret
      exact ⟨retB HR.out.symm, Below.aft (y.below hB' hB'.size)⟩

end Go.Proofs.YtkdonapgonegkaaDoor
