/-
  Contracts of chapter 2 (graph): the references' ArgCount and widthsFit.
-/
import Derived.Test.YtkdonapgonegkaaDoorQB
import Derived.Deep.AppendLies
import Derived.Deep.LoopGhost
import Derived.OwnWalk
set_option linter.unusedSimpArgs false
set_option linter.unusedVariables false
namespace Go.Proofs.YtkdonapgonegkaaDoor
open Go.RowKit Go.BigFrame

theorem int_info : (Tryd.prog.info? 3).map (fun i => (i.zero, i.size, i.bytes)) = some (some (.int .i64 0), 1, 8) := by kernel_rfl

theorem lt_of_get' {w : World} {g : Nat} {ob : Obj} (h : w.heap[g]? = some ob) : g < w.heap.size := (Array.getElem?_eq_some_iff.1 h).1
theorem own_below {w w' : World} {B : Nat} {e : TypeId} {k : Nat} {v : Value} {n : Nat} {xs : List Value} (h : w.ownsRow B e k v n xs) (hb : Below w.heap.size w w') : w'.ownsRow B e k v n xs := by
  refine ⟨h.1, h.2.imp id ?_⟩
  rintro ⟨g, cap, cur, h1, h2, h3, h4⟩
  exact ⟨g, cap, cur, h1, h2, (hb.block g (lt_of_get' h3)).trans h3, h4⟩
set_option maxRecDepth 100000 in
set_option maxHeartbeats 1600000 in
theorem ArgCount_c (op : Int) (w : World) : Calls Tryd.prog 102 #[.int .i64 op] w fun e w' => e = .returned (.int .i64 (argN op)) ∧ w = w' := by
  by_cases o0 : op = 0
  · subst o0
    have HR := Lib.hid (show argN 0 = 0 from rfl)
    rw [HR.out]
    go_enter Tryd.func102, Tryd.ntmps102
    go_wp2
    go_ret
    exact ⟨rfl, rfl⟩
  by_cases o1 : op = 1
  · subst o1
    have HR := Lib.hid (show argN 1 = 0 from rfl)
    rw [HR.out]
    go_enter Tryd.func102, Tryd.ntmps102
    go_wp2
    go_ret
    exact ⟨rfl, rfl⟩
  by_cases o2 : op = 2
  · subst o2
    have HR := Lib.hid (show argN 2 = 1 from rfl)
    rw [HR.out]
    go_enter Tryd.func102, Tryd.ntmps102
    go_wp2
    go_ret
    exact ⟨rfl, rfl⟩
  by_cases o14 : op = 14
  · subst o14
    have HR := Lib.hid (show argN 14 = 1 from rfl)
    rw [HR.out]
    go_enter Tryd.func102, Tryd.ntmps102
    go_wp2
    go_ret
    exact ⟨rfl, rfl⟩
  by_cases o15 : op = 15
  · subst o15
    have HR := Lib.hid (show argN 15 = 1 from rfl)
    rw [HR.out]
    go_enter Tryd.func102, Tryd.ntmps102
    go_wp2
    go_ret
    exact ⟨rfl, rfl⟩
  by_cases o16 : op = 16
  · subst o16
    have HR := Lib.hid (show argN 16 = 1 from rfl)
    rw [HR.out]
    go_enter Tryd.func102, Tryd.ntmps102
    go_wp2
    go_ret
    exact ⟨rfl, rfl⟩
  by_cases o12 : op = 12
  · subst o12
    have HR := Lib.hid (show argN 12 = 3 from rfl)
    rw [HR.out]
    go_enter Tryd.func102, Tryd.ntmps102
    go_wp2
    go_ret
    exact ⟨rfl, rfl⟩
  have HR := Lib.hid (show argN op = 2 by unfold argN; rw [if_neg (by omega), if_neg (by omega), if_neg (by omega)])
  rw [HR.out]
  have n0 : (op == 0) = false := by simpa using o0
  have n1 : (op == 1) = false := by simpa using o1
  have n2 : (op == 2) = false := by simpa using o2
  have n14 : (op == 14) = false := by simpa using o14
  have n15 : (op == 15) = false := by simpa using o15
  have n16 : (op == 16) = false := by simpa using o16
  have n12 : (op == 12) = false := by simpa using o12
  clear o0 o1 o2 o14 o15 o16 o12
  go_enter Tryd.func102, Tryd.ntmps102
  go_wp2
  go_ret
  exact ⟨rfl, rfl⟩

theorem snoc_at {ws : List Int} {j : Nat} {x : Int} (h : ws[j]? = some x) : ((ws.take j).map fun q => Value.int .i64 q) ++ [.int .i64 x] = (ws.take (j + 1)).map fun q => Value.int .i64 q := by
  obtain ⟨hj, e⟩ := List.getElem?_eq_some_iff.1 h
  rw [List.take_succ_eq_append_getElem hj, e, List.map_append]; rfl
/-- Each of a node's arguments is a node, and here are their widths. -/
def Wid (ns : List Nd) (args ws : List Int) : Prop := ∀ j : Nat, j < args.length → ∃ (k : Nat) (n : Nd), args[j]? = some (k : Int) ∧ ns[k]? = some n ∧ ws[j]? = some n.wd

set_option maxRecDepth 100000 in
set_option maxHeartbeats 1600000 in
theorem rfit_2 (wd v a b c : Int) (hw1 : 1 ≤ wd) (hw2 : wd ≤ 16) (a0 : 0 ≤ a) (a1 : a ≤ 16) (b0 : 0 ≤ b) (b1 : b ≤ 16) (B : Option Addr) (bc : Nat) (args : List Int) (hla : args.length = 1) (N : Option Addr) (capN : Nat) (ns : List Nd) (hns : ns.length ≤ 65536) (w : World) (hN : LiesN w N ns) (hB : LiesI w B args) (hW : Wid ns args [a]) :
    Calls Tryd.prog 103 #[.slice N ns.length capN, .agg #[.int .i64 2, .int .i64 wd, .slice B args.length bc, .int .i64 v]] w fun e w' => e = .returned (.bool (fitW 2 wd v a b c)) ∧ ∃ x : Aft w, w' = x.val := by
  obtain ⟨i0, hi, hz0, hz1, hz2⟩ := info_parts int_info
  have HLA := Lib.hid hla
  have HN := Lib.hid hN
  have HB := Lib.hid hB
  have HV := Lib.hid hW
  clear hN hB hW hla
  go_enter Tryd.func103, Tryd.ntmps103
  go_wp2_with fail
  have r0 : (w.alloc (.cells #[.int .i64 2, .int .i64 wd, .slice B args.length bc, .int .i64 v] 65)).heap[w.heap.size]? = some (.cells #[.int .i64 2, .int .i64 wd, .slice B args.length bc, .int .i64 v] 65) := heap_alloc_new _ _
  have hb0 : Below w.heap.size w (w.alloc (.cells #[.int .i64 2, .int .i64 wd, .slice B args.length bc, .int .i64 v] 65)) := (Below.refl _ _).alloc (Nat.le_refl _) _
  have z0 : w.heap.size < (w.alloc (.cells #[.int .i64 2, .int .i64 wd, .slice B args.length bc, .int .i64 v] 65)).heap.size := by simp
  generalize (w.alloc (.cells #[.int .i64 2, .int .i64 wd, .slice B args.length bc, .int .i64 v] 65)) = W0 at *
  have R0 := Lib.hid r0
  clear r0
  go_loopw [5, 6] (fun v5 v6 wr => ∃ j : Nat, j ≤ args.length ∧ v6 = .int .i64 j ∧ wr.ownsRow W0.heap.size 3 1 v5 j (([a].take j).map fun q => Value.int .i64 q) ∧ Below W0.heap.size W0 wr) (fun _ v6 _ => args.length - (intOf v6).toNat)
  case atStart => exact ⟨0, by omega, rfl, World.ownsRow_nil _ _ _ _, Below.refl _ _⟩
  case round =>
    obtain ⟨j, hj, rfl, hown, hb⟩ := hrel
    have hbs := hb.size
    have r0 : wr.heap[w.heap.size]? = some (.cells #[.int .i64 2, .int .i64 wd, .slice B args.length bc, .int .i64 v] 65) := by rw [hb.block _ z0]; exact R0.out
    have q0 := cell_block (i := 0) r0
    have q1 := cell_block (i := 1) r0
    have q2 := cell_block (i := 2) r0
    have q3 := cell_block (i := 3) r0
    simp at q0 q1 q2 q3
    have lw : w.heap.size < wr.heap.size := by omega
    have hB' : Below w.heap.size w wr := hb0.trans (hb.mono (by omega))
    by_cases hlt : j < args.length
    · obtain ⟨k, n, g1, g2, g3⟩ := HV.out j hlt
      obtain ⟨ad, rfl, hbk, hc⟩ := (HB.out.below hB').cell g1
      obtain ⟨an, rfl, hbn, _, h1, _⟩ := (HN.out.below hB').cells g2
      have hkl := (List.getElem?_eq_some_iff.1 g2).1
      have hkk : (k : Int) < ns.length := by omega
      have hjj : (j : Int) < args.length := by omega
      have hj3 : j < 4 := by have := HLA.out; omega
      have h1' : wr.cell? ⟨(an.add (k * 4)).block, (an.add (k * 4)).off + 1, none⟩ = some (.int .i64 n.wd) := h1
      have HS := Lib.hid (snoc_at g3)
      clear h1 g1 g2 g3 r0 q0 q1 q3 hbk hbn hb0
      generalize n.wd = X at *
      go_wp2_with (at_builtin; refine wpList_append_own _ rfl _ _ 22 rfl _ 3 i0 (.int .i64 0) 1 8 Tryd.underlying22 hi hz0 hz1 hz2 rfl (by decide) _ _ _ rfl (hown.alloc _) ⟨_, 0, none⟩ 1 1 [.int .i64 _] rfl rfl (cell_one_new _ _ _) (fun x hx => by simp at hx; subst hx; rfl) (by unfold maxLen; omega) (by omega) (by first | omega | (simp; omega) | (simp at *; omega)) ?_; intro v' w3 hown' hgrow3 hnn)
      go_wp2
      go_roundw
      case rel => exact ⟨j + 1, by omega, by go_num, by rw [← HS.out]; exact hown', (hb.alloc hbs (.cells #[.int .i64 X] 3)).grown hgrow3 (by simp; omega) (fun q hq => (hown.lt q hq).1)⟩
      case measure => simp [intOf]; omega
    · obtain rfl : j = args.length := by omega
      obtain ⟨g, cap, rfl, hg1, hg2⟩ := hown.form (by have := HLA.out; omega)
      have w0 : wr.cell? ⟨g, 0, none⟩ = some (.int .i64 a) := by
        have := hown.cells (g := g) rfl 0 (.int .i64 a) (by simp [HLA.out])
        rwa [Addr.add_lit, Nat.zero_add] at this
      have lg : g < wr.heap.size := by simpa using hg2
      have hla := HLA.out
      have hlm : (args.length : Int) = 1 := by omega
      clear hown hg1 hg2 r0 hb0 hb hla
      have HR := Lib.hid (show fitW 2 wd v a b c = (a == wd) from rfl)
      go_wp2_with fail
      refine wp_region_aft (by kernel_rfl) (by kernel_rfl) ?_
      repeat (go_big_quiet_step (fail))
      refine wpQuiet_nil ?_
      intro y
      go_wp2
      go_ret
      exact ⟨retB HR.out.symm, Below.aft (y.below hB' hB'.size)⟩

set_option maxRecDepth 100000 in
set_option maxHeartbeats 1600000 in
theorem rfit_3 (wd v a b c : Int) (hw1 : 1 ≤ wd) (hw2 : wd ≤ 16) (a0 : 0 ≤ a) (a1 : a ≤ 16) (b0 : 0 ≤ b) (b1 : b ≤ 16) (B : Option Addr) (bc : Nat) (args : List Int) (hla : args.length = 2) (N : Option Addr) (capN : Nat) (ns : List Nd) (hns : ns.length ≤ 65536) (w : World) (hN : LiesN w N ns) (hB : LiesI w B args) (hW : Wid ns args [a, b]) :
    Calls Tryd.prog 103 #[.slice N ns.length capN, .agg #[.int .i64 3, .int .i64 wd, .slice B args.length bc, .int .i64 v]] w fun e w' => e = .returned (.bool (fitW 3 wd v a b c)) ∧ ∃ x : Aft w, w' = x.val := by
  obtain ⟨i0, hi, hz0, hz1, hz2⟩ := info_parts int_info
  have HLA := Lib.hid hla
  have HN := Lib.hid hN
  have HB := Lib.hid hB
  have HV := Lib.hid hW
  clear hN hB hW hla
  go_enter Tryd.func103, Tryd.ntmps103
  go_wp2_with fail
  have r0 : (w.alloc (.cells #[.int .i64 3, .int .i64 wd, .slice B args.length bc, .int .i64 v] 65)).heap[w.heap.size]? = some (.cells #[.int .i64 3, .int .i64 wd, .slice B args.length bc, .int .i64 v] 65) := heap_alloc_new _ _
  have hb0 : Below w.heap.size w (w.alloc (.cells #[.int .i64 3, .int .i64 wd, .slice B args.length bc, .int .i64 v] 65)) := (Below.refl _ _).alloc (Nat.le_refl _) _
  have z0 : w.heap.size < (w.alloc (.cells #[.int .i64 3, .int .i64 wd, .slice B args.length bc, .int .i64 v] 65)).heap.size := by simp
  generalize (w.alloc (.cells #[.int .i64 3, .int .i64 wd, .slice B args.length bc, .int .i64 v] 65)) = W0 at *
  have R0 := Lib.hid r0
  clear r0
  go_loopw [5, 6] (fun v5 v6 wr => ∃ j : Nat, j ≤ args.length ∧ v6 = .int .i64 j ∧ wr.ownsRow W0.heap.size 3 1 v5 j (([a, b].take j).map fun q => Value.int .i64 q) ∧ Below W0.heap.size W0 wr) (fun _ v6 _ => args.length - (intOf v6).toNat)
  case atStart => exact ⟨0, by omega, rfl, World.ownsRow_nil _ _ _ _, Below.refl _ _⟩
  case round =>
    obtain ⟨j, hj, rfl, hown, hb⟩ := hrel
    have hbs := hb.size
    have r0 : wr.heap[w.heap.size]? = some (.cells #[.int .i64 3, .int .i64 wd, .slice B args.length bc, .int .i64 v] 65) := by rw [hb.block _ z0]; exact R0.out
    have q0 := cell_block (i := 0) r0
    have q1 := cell_block (i := 1) r0
    have q2 := cell_block (i := 2) r0
    have q3 := cell_block (i := 3) r0
    simp at q0 q1 q2 q3
    have lw : w.heap.size < wr.heap.size := by omega
    have hB' : Below w.heap.size w wr := hb0.trans (hb.mono (by omega))
    by_cases hlt : j < args.length
    · obtain ⟨k, n, g1, g2, g3⟩ := HV.out j hlt
      obtain ⟨ad, rfl, hbk, hc⟩ := (HB.out.below hB').cell g1
      obtain ⟨an, rfl, hbn, _, h1, _⟩ := (HN.out.below hB').cells g2
      have hkl := (List.getElem?_eq_some_iff.1 g2).1
      have hkk : (k : Int) < ns.length := by omega
      have hjj : (j : Int) < args.length := by omega
      have hj3 : j < 4 := by have := HLA.out; omega
      have h1' : wr.cell? ⟨(an.add (k * 4)).block, (an.add (k * 4)).off + 1, none⟩ = some (.int .i64 n.wd) := h1
      have HS := Lib.hid (snoc_at g3)
      clear h1 g1 g2 g3 r0 q0 q1 q3 hbk hbn hb0
      generalize n.wd = X at *
      go_wp2_with (at_builtin; refine wpList_append_own _ rfl _ _ 22 rfl _ 3 i0 (.int .i64 0) 1 8 Tryd.underlying22 hi hz0 hz1 hz2 rfl (by decide) _ _ _ rfl (hown.alloc _) ⟨_, 0, none⟩ 1 1 [.int .i64 _] rfl rfl (cell_one_new _ _ _) (fun x hx => by simp at hx; subst hx; rfl) (by unfold maxLen; omega) (by omega) (by first | omega | (simp; omega) | (simp at *; omega)) ?_; intro v' w3 hown' hgrow3 hnn)
      go_wp2
      go_roundw
      case rel => exact ⟨j + 1, by omega, by go_num, by rw [← HS.out]; exact hown', (hb.alloc hbs (.cells #[.int .i64 X] 3)).grown hgrow3 (by simp; omega) (fun q hq => (hown.lt q hq).1)⟩
      case measure => simp [intOf]; omega
    · obtain rfl : j = args.length := by omega
      obtain ⟨g, cap, rfl, hg1, hg2⟩ := hown.form (by have := HLA.out; omega)
      have w0 : wr.cell? ⟨g, 0, none⟩ = some (.int .i64 a) := by
        have := hown.cells (g := g) rfl 0 (.int .i64 a) (by simp [HLA.out])
        rwa [Addr.add_lit, Nat.zero_add] at this
      have w1 : wr.cell? ⟨g, 1, none⟩ = some (.int .i64 b) := by
        have := hown.cells (g := g) rfl 1 (.int .i64 b) (by simp [HLA.out])
        rwa [Addr.add_lit, Nat.zero_add] at this
      have lg : g < wr.heap.size := by simpa using hg2
      have hla := HLA.out
      have hlm : (args.length : Int) = 2 := by omega
      clear hown hg1 hg2 r0 hb0 hb hla
      cases hE : (a == wd)
      · have HR := Lib.hid (show fitW 3 wd v a b c = false by show (a == wd && b == wd) = false; rw [hE]; rfl)
        go_wp2_with fail
        refine wp_region_aft (by kernel_rfl) (by kernel_rfl) ?_
        repeat (go_big_quiet_step (fail))
        refine wpQuiet_nil ?_
        intro y
        go_wp2
        go_ret
        exact ⟨retB HR.out.symm, Below.aft (y.below hB' hB'.size)⟩
      · have HR := Lib.hid (show fitW 3 wd v a b c = (b == wd) by show (a == wd && b == wd) = _; rw [hE]; rfl)
        go_wp2_with fail
        refine wp_region_aft (by kernel_rfl) (by kernel_rfl) ?_
        repeat (go_big_quiet_step (fail))
        refine wpQuiet_nil ?_
        intro y
        go_wp2
        go_ret
        exact ⟨retB HR.out.symm, Below.aft (y.below hB' hB'.size)⟩

set_option maxRecDepth 100000 in
set_option maxHeartbeats 1600000 in
theorem rfit_4 (wd v a b c : Int) (hw1 : 1 ≤ wd) (hw2 : wd ≤ 16) (a0 : 0 ≤ a) (a1 : a ≤ 16) (b0 : 0 ≤ b) (b1 : b ≤ 16) (B : Option Addr) (bc : Nat) (args : List Int) (hla : args.length = 2) (N : Option Addr) (capN : Nat) (ns : List Nd) (hns : ns.length ≤ 65536) (w : World) (hN : LiesN w N ns) (hB : LiesI w B args) (hW : Wid ns args [a, b]) :
    Calls Tryd.prog 103 #[.slice N ns.length capN, .agg #[.int .i64 4, .int .i64 wd, .slice B args.length bc, .int .i64 v]] w fun e w' => e = .returned (.bool (fitW 4 wd v a b c)) ∧ ∃ x : Aft w, w' = x.val := by
  obtain ⟨i0, hi, hz0, hz1, hz2⟩ := info_parts int_info
  have HLA := Lib.hid hla
  have HN := Lib.hid hN
  have HB := Lib.hid hB
  have HV := Lib.hid hW
  clear hN hB hW hla
  go_enter Tryd.func103, Tryd.ntmps103
  go_wp2_with fail
  have r0 : (w.alloc (.cells #[.int .i64 4, .int .i64 wd, .slice B args.length bc, .int .i64 v] 65)).heap[w.heap.size]? = some (.cells #[.int .i64 4, .int .i64 wd, .slice B args.length bc, .int .i64 v] 65) := heap_alloc_new _ _
  have hb0 : Below w.heap.size w (w.alloc (.cells #[.int .i64 4, .int .i64 wd, .slice B args.length bc, .int .i64 v] 65)) := (Below.refl _ _).alloc (Nat.le_refl _) _
  have z0 : w.heap.size < (w.alloc (.cells #[.int .i64 4, .int .i64 wd, .slice B args.length bc, .int .i64 v] 65)).heap.size := by simp
  generalize (w.alloc (.cells #[.int .i64 4, .int .i64 wd, .slice B args.length bc, .int .i64 v] 65)) = W0 at *
  have R0 := Lib.hid r0
  clear r0
  go_loopw [5, 6] (fun v5 v6 wr => ∃ j : Nat, j ≤ args.length ∧ v6 = .int .i64 j ∧ wr.ownsRow W0.heap.size 3 1 v5 j (([a, b].take j).map fun q => Value.int .i64 q) ∧ Below W0.heap.size W0 wr) (fun _ v6 _ => args.length - (intOf v6).toNat)
  case atStart => exact ⟨0, by omega, rfl, World.ownsRow_nil _ _ _ _, Below.refl _ _⟩
  case round =>
    obtain ⟨j, hj, rfl, hown, hb⟩ := hrel
    have hbs := hb.size
    have r0 : wr.heap[w.heap.size]? = some (.cells #[.int .i64 4, .int .i64 wd, .slice B args.length bc, .int .i64 v] 65) := by rw [hb.block _ z0]; exact R0.out
    have q0 := cell_block (i := 0) r0
    have q1 := cell_block (i := 1) r0
    have q2 := cell_block (i := 2) r0
    have q3 := cell_block (i := 3) r0
    simp at q0 q1 q2 q3
    have lw : w.heap.size < wr.heap.size := by omega
    have hB' : Below w.heap.size w wr := hb0.trans (hb.mono (by omega))
    by_cases hlt : j < args.length
    · obtain ⟨k, n, g1, g2, g3⟩ := HV.out j hlt
      obtain ⟨ad, rfl, hbk, hc⟩ := (HB.out.below hB').cell g1
      obtain ⟨an, rfl, hbn, _, h1, _⟩ := (HN.out.below hB').cells g2
      have hkl := (List.getElem?_eq_some_iff.1 g2).1
      have hkk : (k : Int) < ns.length := by omega
      have hjj : (j : Int) < args.length := by omega
      have hj3 : j < 4 := by have := HLA.out; omega
      have h1' : wr.cell? ⟨(an.add (k * 4)).block, (an.add (k * 4)).off + 1, none⟩ = some (.int .i64 n.wd) := h1
      have HS := Lib.hid (snoc_at g3)
      clear h1 g1 g2 g3 r0 q0 q1 q3 hbk hbn hb0
      generalize n.wd = X at *
      go_wp2_with (at_builtin; refine wpList_append_own _ rfl _ _ 22 rfl _ 3 i0 (.int .i64 0) 1 8 Tryd.underlying22 hi hz0 hz1 hz2 rfl (by decide) _ _ _ rfl (hown.alloc _) ⟨_, 0, none⟩ 1 1 [.int .i64 _] rfl rfl (cell_one_new _ _ _) (fun x hx => by simp at hx; subst hx; rfl) (by unfold maxLen; omega) (by omega) (by first | omega | (simp; omega) | (simp at *; omega)) ?_; intro v' w3 hown' hgrow3 hnn)
      go_wp2
      go_roundw
      case rel => exact ⟨j + 1, by omega, by go_num, by rw [← HS.out]; exact hown', (hb.alloc hbs (.cells #[.int .i64 X] 3)).grown hgrow3 (by simp; omega) (fun q hq => (hown.lt q hq).1)⟩
      case measure => simp [intOf]; omega
    · obtain rfl : j = args.length := by omega
      obtain ⟨g, cap, rfl, hg1, hg2⟩ := hown.form (by have := HLA.out; omega)
      have w0 : wr.cell? ⟨g, 0, none⟩ = some (.int .i64 a) := by
        have := hown.cells (g := g) rfl 0 (.int .i64 a) (by simp [HLA.out])
        rwa [Addr.add_lit, Nat.zero_add] at this
      have w1 : wr.cell? ⟨g, 1, none⟩ = some (.int .i64 b) := by
        have := hown.cells (g := g) rfl 1 (.int .i64 b) (by simp [HLA.out])
        rwa [Addr.add_lit, Nat.zero_add] at this
      have lg : g < wr.heap.size := by simpa using hg2
      have hla := HLA.out
      have hlm : (args.length : Int) = 2 := by omega
      clear hown hg1 hg2 r0 hb0 hb hla
      cases hE : (a == wd)
      · have HR := Lib.hid (show fitW 4 wd v a b c = false by show (a == wd && b == wd) = false; rw [hE]; rfl)
        go_wp2_with fail
        refine wp_region_aft (by kernel_rfl) (by kernel_rfl) ?_
        repeat (go_big_quiet_step (fail))
        refine wpQuiet_nil ?_
        intro y
        go_wp2
        go_ret
        exact ⟨retB HR.out.symm, Below.aft (y.below hB' hB'.size)⟩
      · have HR := Lib.hid (show fitW 4 wd v a b c = (b == wd) by show (a == wd && b == wd) = _; rw [hE]; rfl)
        go_wp2_with fail
        refine wp_region_aft (by kernel_rfl) (by kernel_rfl) ?_
        repeat (go_big_quiet_step (fail))
        refine wpQuiet_nil ?_
        intro y
        go_wp2
        go_ret
        exact ⟨retB HR.out.symm, Below.aft (y.below hB' hB'.size)⟩

set_option maxRecDepth 100000 in
set_option maxHeartbeats 1600000 in
theorem rfit_5 (wd v a b c : Int) (hw1 : 1 ≤ wd) (hw2 : wd ≤ 16) (a0 : 0 ≤ a) (a1 : a ≤ 16) (b0 : 0 ≤ b) (b1 : b ≤ 16) (B : Option Addr) (bc : Nat) (args : List Int) (hla : args.length = 2) (N : Option Addr) (capN : Nat) (ns : List Nd) (hns : ns.length ≤ 65536) (w : World) (hN : LiesN w N ns) (hB : LiesI w B args) (hW : Wid ns args [a, b]) :
    Calls Tryd.prog 103 #[.slice N ns.length capN, .agg #[.int .i64 5, .int .i64 wd, .slice B args.length bc, .int .i64 v]] w fun e w' => e = .returned (.bool (fitW 5 wd v a b c)) ∧ ∃ x : Aft w, w' = x.val := by
  obtain ⟨i0, hi, hz0, hz1, hz2⟩ := info_parts int_info
  have HLA := Lib.hid hla
  have HN := Lib.hid hN
  have HB := Lib.hid hB
  have HV := Lib.hid hW
  clear hN hB hW hla
  go_enter Tryd.func103, Tryd.ntmps103
  go_wp2_with fail
  have r0 : (w.alloc (.cells #[.int .i64 5, .int .i64 wd, .slice B args.length bc, .int .i64 v] 65)).heap[w.heap.size]? = some (.cells #[.int .i64 5, .int .i64 wd, .slice B args.length bc, .int .i64 v] 65) := heap_alloc_new _ _
  have hb0 : Below w.heap.size w (w.alloc (.cells #[.int .i64 5, .int .i64 wd, .slice B args.length bc, .int .i64 v] 65)) := (Below.refl _ _).alloc (Nat.le_refl _) _
  have z0 : w.heap.size < (w.alloc (.cells #[.int .i64 5, .int .i64 wd, .slice B args.length bc, .int .i64 v] 65)).heap.size := by simp
  generalize (w.alloc (.cells #[.int .i64 5, .int .i64 wd, .slice B args.length bc, .int .i64 v] 65)) = W0 at *
  have R0 := Lib.hid r0
  clear r0
  go_loopw [5, 6] (fun v5 v6 wr => ∃ j : Nat, j ≤ args.length ∧ v6 = .int .i64 j ∧ wr.ownsRow W0.heap.size 3 1 v5 j (([a, b].take j).map fun q => Value.int .i64 q) ∧ Below W0.heap.size W0 wr) (fun _ v6 _ => args.length - (intOf v6).toNat)
  case atStart => exact ⟨0, by omega, rfl, World.ownsRow_nil _ _ _ _, Below.refl _ _⟩
  case round =>
    obtain ⟨j, hj, rfl, hown, hb⟩ := hrel
    have hbs := hb.size
    have r0 : wr.heap[w.heap.size]? = some (.cells #[.int .i64 5, .int .i64 wd, .slice B args.length bc, .int .i64 v] 65) := by rw [hb.block _ z0]; exact R0.out
    have q0 := cell_block (i := 0) r0
    have q1 := cell_block (i := 1) r0
    have q2 := cell_block (i := 2) r0
    have q3 := cell_block (i := 3) r0
    simp at q0 q1 q2 q3
    have lw : w.heap.size < wr.heap.size := by omega
    have hB' : Below w.heap.size w wr := hb0.trans (hb.mono (by omega))
    by_cases hlt : j < args.length
    · obtain ⟨k, n, g1, g2, g3⟩ := HV.out j hlt
      obtain ⟨ad, rfl, hbk, hc⟩ := (HB.out.below hB').cell g1
      obtain ⟨an, rfl, hbn, _, h1, _⟩ := (HN.out.below hB').cells g2
      have hkl := (List.getElem?_eq_some_iff.1 g2).1
      have hkk : (k : Int) < ns.length := by omega
      have hjj : (j : Int) < args.length := by omega
      have hj3 : j < 4 := by have := HLA.out; omega
      have h1' : wr.cell? ⟨(an.add (k * 4)).block, (an.add (k * 4)).off + 1, none⟩ = some (.int .i64 n.wd) := h1
      have HS := Lib.hid (snoc_at g3)
      clear h1 g1 g2 g3 r0 q0 q1 q3 hbk hbn hb0
      generalize n.wd = X at *
      go_wp2_with (at_builtin; refine wpList_append_own _ rfl _ _ 22 rfl _ 3 i0 (.int .i64 0) 1 8 Tryd.underlying22 hi hz0 hz1 hz2 rfl (by decide) _ _ _ rfl (hown.alloc _) ⟨_, 0, none⟩ 1 1 [.int .i64 _] rfl rfl (cell_one_new _ _ _) (fun x hx => by simp at hx; subst hx; rfl) (by unfold maxLen; omega) (by omega) (by first | omega | (simp; omega) | (simp at *; omega)) ?_; intro v' w3 hown' hgrow3 hnn)
      go_wp2
      go_roundw
      case rel => exact ⟨j + 1, by omega, by go_num, by rw [← HS.out]; exact hown', (hb.alloc hbs (.cells #[.int .i64 X] 3)).grown hgrow3 (by simp; omega) (fun q hq => (hown.lt q hq).1)⟩
      case measure => simp [intOf]; omega
    · obtain rfl : j = args.length := by omega
      obtain ⟨g, cap, rfl, hg1, hg2⟩ := hown.form (by have := HLA.out; omega)
      have w0 : wr.cell? ⟨g, 0, none⟩ = some (.int .i64 a) := by
        have := hown.cells (g := g) rfl 0 (.int .i64 a) (by simp [HLA.out])
        rwa [Addr.add_lit, Nat.zero_add] at this
      have w1 : wr.cell? ⟨g, 1, none⟩ = some (.int .i64 b) := by
        have := hown.cells (g := g) rfl 1 (.int .i64 b) (by simp [HLA.out])
        rwa [Addr.add_lit, Nat.zero_add] at this
      have lg : g < wr.heap.size := by simpa using hg2
      have hla := HLA.out
      have hlm : (args.length : Int) = 2 := by omega
      clear hown hg1 hg2 r0 hb0 hb hla
      cases hE : (a == wd)
      · have HR := Lib.hid (show fitW 5 wd v a b c = false by show (a == wd && b == wd) = false; rw [hE]; rfl)
        go_wp2_with fail
        refine wp_region_aft (by kernel_rfl) (by kernel_rfl) ?_
        repeat (go_big_quiet_step (fail))
        refine wpQuiet_nil ?_
        intro y
        go_wp2
        go_ret
        exact ⟨retB HR.out.symm, Below.aft (y.below hB' hB'.size)⟩
      · have HR := Lib.hid (show fitW 5 wd v a b c = (b == wd) by show (a == wd && b == wd) = _; rw [hE]; rfl)
        go_wp2_with fail
        refine wp_region_aft (by kernel_rfl) (by kernel_rfl) ?_
        repeat (go_big_quiet_step (fail))
        refine wpQuiet_nil ?_
        intro y
        go_wp2
        go_ret
        exact ⟨retB HR.out.symm, Below.aft (y.below hB' hB'.size)⟩

set_option maxRecDepth 100000 in
set_option maxHeartbeats 1600000 in
theorem rfit_6 (wd v a b c : Int) (hw1 : 1 ≤ wd) (hw2 : wd ≤ 16) (a0 : 0 ≤ a) (a1 : a ≤ 16) (b0 : 0 ≤ b) (b1 : b ≤ 16) (B : Option Addr) (bc : Nat) (args : List Int) (hla : args.length = 2) (N : Option Addr) (capN : Nat) (ns : List Nd) (hns : ns.length ≤ 65536) (w : World) (hN : LiesN w N ns) (hB : LiesI w B args) (hW : Wid ns args [a, b]) :
    Calls Tryd.prog 103 #[.slice N ns.length capN, .agg #[.int .i64 6, .int .i64 wd, .slice B args.length bc, .int .i64 v]] w fun e w' => e = .returned (.bool (fitW 6 wd v a b c)) ∧ ∃ x : Aft w, w' = x.val := by
  obtain ⟨i0, hi, hz0, hz1, hz2⟩ := info_parts int_info
  have HLA := Lib.hid hla
  have HN := Lib.hid hN
  have HB := Lib.hid hB
  have HV := Lib.hid hW
  clear hN hB hW hla
  go_enter Tryd.func103, Tryd.ntmps103
  go_wp2_with fail
  have r0 : (w.alloc (.cells #[.int .i64 6, .int .i64 wd, .slice B args.length bc, .int .i64 v] 65)).heap[w.heap.size]? = some (.cells #[.int .i64 6, .int .i64 wd, .slice B args.length bc, .int .i64 v] 65) := heap_alloc_new _ _
  have hb0 : Below w.heap.size w (w.alloc (.cells #[.int .i64 6, .int .i64 wd, .slice B args.length bc, .int .i64 v] 65)) := (Below.refl _ _).alloc (Nat.le_refl _) _
  have z0 : w.heap.size < (w.alloc (.cells #[.int .i64 6, .int .i64 wd, .slice B args.length bc, .int .i64 v] 65)).heap.size := by simp
  generalize (w.alloc (.cells #[.int .i64 6, .int .i64 wd, .slice B args.length bc, .int .i64 v] 65)) = W0 at *
  have R0 := Lib.hid r0
  clear r0
  go_loopw [5, 6] (fun v5 v6 wr => ∃ j : Nat, j ≤ args.length ∧ v6 = .int .i64 j ∧ wr.ownsRow W0.heap.size 3 1 v5 j (([a, b].take j).map fun q => Value.int .i64 q) ∧ Below W0.heap.size W0 wr) (fun _ v6 _ => args.length - (intOf v6).toNat)
  case atStart => exact ⟨0, by omega, rfl, World.ownsRow_nil _ _ _ _, Below.refl _ _⟩
  case round =>
    obtain ⟨j, hj, rfl, hown, hb⟩ := hrel
    have hbs := hb.size
    have r0 : wr.heap[w.heap.size]? = some (.cells #[.int .i64 6, .int .i64 wd, .slice B args.length bc, .int .i64 v] 65) := by rw [hb.block _ z0]; exact R0.out
    have q0 := cell_block (i := 0) r0
    have q1 := cell_block (i := 1) r0
    have q2 := cell_block (i := 2) r0
    have q3 := cell_block (i := 3) r0
    simp at q0 q1 q2 q3
    have lw : w.heap.size < wr.heap.size := by omega
    have hB' : Below w.heap.size w wr := hb0.trans (hb.mono (by omega))
    by_cases hlt : j < args.length
    · obtain ⟨k, n, g1, g2, g3⟩ := HV.out j hlt
      obtain ⟨ad, rfl, hbk, hc⟩ := (HB.out.below hB').cell g1
      obtain ⟨an, rfl, hbn, _, h1, _⟩ := (HN.out.below hB').cells g2
      have hkl := (List.getElem?_eq_some_iff.1 g2).1
      have hkk : (k : Int) < ns.length := by omega
      have hjj : (j : Int) < args.length := by omega
      have hj3 : j < 4 := by have := HLA.out; omega
      have h1' : wr.cell? ⟨(an.add (k * 4)).block, (an.add (k * 4)).off + 1, none⟩ = some (.int .i64 n.wd) := h1
      have HS := Lib.hid (snoc_at g3)
      clear h1 g1 g2 g3 r0 q0 q1 q3 hbk hbn hb0
      generalize n.wd = X at *
      go_wp2_with (at_builtin; refine wpList_append_own _ rfl _ _ 22 rfl _ 3 i0 (.int .i64 0) 1 8 Tryd.underlying22 hi hz0 hz1 hz2 rfl (by decide) _ _ _ rfl (hown.alloc _) ⟨_, 0, none⟩ 1 1 [.int .i64 _] rfl rfl (cell_one_new _ _ _) (fun x hx => by simp at hx; subst hx; rfl) (by unfold maxLen; omega) (by omega) (by first | omega | (simp; omega) | (simp at *; omega)) ?_; intro v' w3 hown' hgrow3 hnn)
      go_wp2
      go_roundw
      case rel => exact ⟨j + 1, by omega, by go_num, by rw [← HS.out]; exact hown', (hb.alloc hbs (.cells #[.int .i64 X] 3)).grown hgrow3 (by simp; omega) (fun q hq => (hown.lt q hq).1)⟩
      case measure => simp [intOf]; omega
    · obtain rfl : j = args.length := by omega
      obtain ⟨g, cap, rfl, hg1, hg2⟩ := hown.form (by have := HLA.out; omega)
      have w0 : wr.cell? ⟨g, 0, none⟩ = some (.int .i64 a) := by
        have := hown.cells (g := g) rfl 0 (.int .i64 a) (by simp [HLA.out])
        rwa [Addr.add_lit, Nat.zero_add] at this
      have w1 : wr.cell? ⟨g, 1, none⟩ = some (.int .i64 b) := by
        have := hown.cells (g := g) rfl 1 (.int .i64 b) (by simp [HLA.out])
        rwa [Addr.add_lit, Nat.zero_add] at this
      have lg : g < wr.heap.size := by simpa using hg2
      have hla := HLA.out
      have hlm : (args.length : Int) = 2 := by omega
      clear hown hg1 hg2 r0 hb0 hb hla
      cases hE : (a == wd)
      · have HR := Lib.hid (show fitW 6 wd v a b c = false by show (a == wd && b == wd) = false; rw [hE]; rfl)
        go_wp2_with fail
        refine wp_region_aft (by kernel_rfl) (by kernel_rfl) ?_
        repeat (go_big_quiet_step (fail))
        refine wpQuiet_nil ?_
        intro y
        go_wp2
        go_ret
        exact ⟨retB HR.out.symm, Below.aft (y.below hB' hB'.size)⟩
      · have HR := Lib.hid (show fitW 6 wd v a b c = (b == wd) by show (a == wd && b == wd) = _; rw [hE]; rfl)
        go_wp2_with fail
        refine wp_region_aft (by kernel_rfl) (by kernel_rfl) ?_
        repeat (go_big_quiet_step (fail))
        refine wpQuiet_nil ?_
        intro y
        go_wp2
        go_ret
        exact ⟨retB HR.out.symm, Below.aft (y.below hB' hB'.size)⟩

set_option maxRecDepth 100000 in
set_option maxHeartbeats 1600000 in
theorem rfit_7 (wd v a b c : Int) (hw1 : 1 ≤ wd) (hw2 : wd ≤ 16) (a0 : 0 ≤ a) (a1 : a ≤ 16) (b0 : 0 ≤ b) (b1 : b ≤ 16) (B : Option Addr) (bc : Nat) (args : List Int) (hla : args.length = 2) (N : Option Addr) (capN : Nat) (ns : List Nd) (hns : ns.length ≤ 65536) (w : World) (hN : LiesN w N ns) (hB : LiesI w B args) (hW : Wid ns args [a, b]) :
    Calls Tryd.prog 103 #[.slice N ns.length capN, .agg #[.int .i64 7, .int .i64 wd, .slice B args.length bc, .int .i64 v]] w fun e w' => e = .returned (.bool (fitW 7 wd v a b c)) ∧ ∃ x : Aft w, w' = x.val := by
  obtain ⟨i0, hi, hz0, hz1, hz2⟩ := info_parts int_info
  have HLA := Lib.hid hla
  have HN := Lib.hid hN
  have HB := Lib.hid hB
  have HV := Lib.hid hW
  clear hN hB hW hla
  go_enter Tryd.func103, Tryd.ntmps103
  go_wp2_with fail
  have r0 : (w.alloc (.cells #[.int .i64 7, .int .i64 wd, .slice B args.length bc, .int .i64 v] 65)).heap[w.heap.size]? = some (.cells #[.int .i64 7, .int .i64 wd, .slice B args.length bc, .int .i64 v] 65) := heap_alloc_new _ _
  have hb0 : Below w.heap.size w (w.alloc (.cells #[.int .i64 7, .int .i64 wd, .slice B args.length bc, .int .i64 v] 65)) := (Below.refl _ _).alloc (Nat.le_refl _) _
  have z0 : w.heap.size < (w.alloc (.cells #[.int .i64 7, .int .i64 wd, .slice B args.length bc, .int .i64 v] 65)).heap.size := by simp
  generalize (w.alloc (.cells #[.int .i64 7, .int .i64 wd, .slice B args.length bc, .int .i64 v] 65)) = W0 at *
  have R0 := Lib.hid r0
  clear r0
  go_loopw [5, 6] (fun v5 v6 wr => ∃ j : Nat, j ≤ args.length ∧ v6 = .int .i64 j ∧ wr.ownsRow W0.heap.size 3 1 v5 j (([a, b].take j).map fun q => Value.int .i64 q) ∧ Below W0.heap.size W0 wr) (fun _ v6 _ => args.length - (intOf v6).toNat)
  case atStart => exact ⟨0, by omega, rfl, World.ownsRow_nil _ _ _ _, Below.refl _ _⟩
  case round =>
    obtain ⟨j, hj, rfl, hown, hb⟩ := hrel
    have hbs := hb.size
    have r0 : wr.heap[w.heap.size]? = some (.cells #[.int .i64 7, .int .i64 wd, .slice B args.length bc, .int .i64 v] 65) := by rw [hb.block _ z0]; exact R0.out
    have q0 := cell_block (i := 0) r0
    have q1 := cell_block (i := 1) r0
    have q2 := cell_block (i := 2) r0
    have q3 := cell_block (i := 3) r0
    simp at q0 q1 q2 q3
    have lw : w.heap.size < wr.heap.size := by omega
    have hB' : Below w.heap.size w wr := hb0.trans (hb.mono (by omega))
    by_cases hlt : j < args.length
    · obtain ⟨k, n, g1, g2, g3⟩ := HV.out j hlt
      obtain ⟨ad, rfl, hbk, hc⟩ := (HB.out.below hB').cell g1
      obtain ⟨an, rfl, hbn, _, h1, _⟩ := (HN.out.below hB').cells g2
      have hkl := (List.getElem?_eq_some_iff.1 g2).1
      have hkk : (k : Int) < ns.length := by omega
      have hjj : (j : Int) < args.length := by omega
      have hj3 : j < 4 := by have := HLA.out; omega
      have h1' : wr.cell? ⟨(an.add (k * 4)).block, (an.add (k * 4)).off + 1, none⟩ = some (.int .i64 n.wd) := h1
      have HS := Lib.hid (snoc_at g3)
      clear h1 g1 g2 g3 r0 q0 q1 q3 hbk hbn hb0
      generalize n.wd = X at *
      go_wp2_with (at_builtin; refine wpList_append_own _ rfl _ _ 22 rfl _ 3 i0 (.int .i64 0) 1 8 Tryd.underlying22 hi hz0 hz1 hz2 rfl (by decide) _ _ _ rfl (hown.alloc _) ⟨_, 0, none⟩ 1 1 [.int .i64 _] rfl rfl (cell_one_new _ _ _) (fun x hx => by simp at hx; subst hx; rfl) (by unfold maxLen; omega) (by omega) (by first | omega | (simp; omega) | (simp at *; omega)) ?_; intro v' w3 hown' hgrow3 hnn)
      go_wp2
      go_roundw
      case rel => exact ⟨j + 1, by omega, by go_num, by rw [← HS.out]; exact hown', (hb.alloc hbs (.cells #[.int .i64 X] 3)).grown hgrow3 (by simp; omega) (fun q hq => (hown.lt q hq).1)⟩
      case measure => simp [intOf]; omega
    · obtain rfl : j = args.length := by omega
      obtain ⟨g, cap, rfl, hg1, hg2⟩ := hown.form (by have := HLA.out; omega)
      have w0 : wr.cell? ⟨g, 0, none⟩ = some (.int .i64 a) := by
        have := hown.cells (g := g) rfl 0 (.int .i64 a) (by simp [HLA.out])
        rwa [Addr.add_lit, Nat.zero_add] at this
      have w1 : wr.cell? ⟨g, 1, none⟩ = some (.int .i64 b) := by
        have := hown.cells (g := g) rfl 1 (.int .i64 b) (by simp [HLA.out])
        rwa [Addr.add_lit, Nat.zero_add] at this
      have lg : g < wr.heap.size := by simpa using hg2
      have hla := HLA.out
      have hlm : (args.length : Int) = 2 := by omega
      clear hown hg1 hg2 r0 hb0 hb hla
      cases hE : (a == wd)
      · have HR := Lib.hid (show fitW 7 wd v a b c = false by show (a == wd && b == wd) = false; rw [hE]; rfl)
        go_wp2_with fail
        refine wp_region_aft (by kernel_rfl) (by kernel_rfl) ?_
        repeat (go_big_quiet_step (fail))
        refine wpQuiet_nil ?_
        intro y
        go_wp2
        go_ret
        exact ⟨retB HR.out.symm, Below.aft (y.below hB' hB'.size)⟩
      · have HR := Lib.hid (show fitW 7 wd v a b c = (b == wd) by show (a == wd && b == wd) = _; rw [hE]; rfl)
        go_wp2_with fail
        refine wp_region_aft (by kernel_rfl) (by kernel_rfl) ?_
        repeat (go_big_quiet_step (fail))
        refine wpQuiet_nil ?_
        intro y
        go_wp2
        go_ret
        exact ⟨retB HR.out.symm, Below.aft (y.below hB' hB'.size)⟩

set_option maxRecDepth 100000 in
set_option maxHeartbeats 1600000 in
theorem rfit_8 (wd v a b c : Int) (hw1 : 1 ≤ wd) (hw2 : wd ≤ 16) (a0 : 0 ≤ a) (a1 : a ≤ 16) (b0 : 0 ≤ b) (b1 : b ≤ 16) (B : Option Addr) (bc : Nat) (args : List Int) (hla : args.length = 2) (N : Option Addr) (capN : Nat) (ns : List Nd) (hns : ns.length ≤ 65536) (w : World) (hN : LiesN w N ns) (hB : LiesI w B args) (hW : Wid ns args [a, b]) :
    Calls Tryd.prog 103 #[.slice N ns.length capN, .agg #[.int .i64 8, .int .i64 wd, .slice B args.length bc, .int .i64 v]] w fun e w' => e = .returned (.bool (fitW 8 wd v a b c)) ∧ ∃ x : Aft w, w' = x.val := by
  obtain ⟨i0, hi, hz0, hz1, hz2⟩ := info_parts int_info
  have HLA := Lib.hid hla
  have HN := Lib.hid hN
  have HB := Lib.hid hB
  have HV := Lib.hid hW
  clear hN hB hW hla
  go_enter Tryd.func103, Tryd.ntmps103
  go_wp2_with fail
  have r0 : (w.alloc (.cells #[.int .i64 8, .int .i64 wd, .slice B args.length bc, .int .i64 v] 65)).heap[w.heap.size]? = some (.cells #[.int .i64 8, .int .i64 wd, .slice B args.length bc, .int .i64 v] 65) := heap_alloc_new _ _
  have hb0 : Below w.heap.size w (w.alloc (.cells #[.int .i64 8, .int .i64 wd, .slice B args.length bc, .int .i64 v] 65)) := (Below.refl _ _).alloc (Nat.le_refl _) _
  have z0 : w.heap.size < (w.alloc (.cells #[.int .i64 8, .int .i64 wd, .slice B args.length bc, .int .i64 v] 65)).heap.size := by simp
  generalize (w.alloc (.cells #[.int .i64 8, .int .i64 wd, .slice B args.length bc, .int .i64 v] 65)) = W0 at *
  have R0 := Lib.hid r0
  clear r0
  go_loopw [5, 6] (fun v5 v6 wr => ∃ j : Nat, j ≤ args.length ∧ v6 = .int .i64 j ∧ wr.ownsRow W0.heap.size 3 1 v5 j (([a, b].take j).map fun q => Value.int .i64 q) ∧ Below W0.heap.size W0 wr) (fun _ v6 _ => args.length - (intOf v6).toNat)
  case atStart => exact ⟨0, by omega, rfl, World.ownsRow_nil _ _ _ _, Below.refl _ _⟩
  case round =>
    obtain ⟨j, hj, rfl, hown, hb⟩ := hrel
    have hbs := hb.size
    have r0 : wr.heap[w.heap.size]? = some (.cells #[.int .i64 8, .int .i64 wd, .slice B args.length bc, .int .i64 v] 65) := by rw [hb.block _ z0]; exact R0.out
    have q0 := cell_block (i := 0) r0
    have q1 := cell_block (i := 1) r0
    have q2 := cell_block (i := 2) r0
    have q3 := cell_block (i := 3) r0
    simp at q0 q1 q2 q3
    have lw : w.heap.size < wr.heap.size := by omega
    have hB' : Below w.heap.size w wr := hb0.trans (hb.mono (by omega))
    by_cases hlt : j < args.length
    · obtain ⟨k, n, g1, g2, g3⟩ := HV.out j hlt
      obtain ⟨ad, rfl, hbk, hc⟩ := (HB.out.below hB').cell g1
      obtain ⟨an, rfl, hbn, _, h1, _⟩ := (HN.out.below hB').cells g2
      have hkl := (List.getElem?_eq_some_iff.1 g2).1
      have hkk : (k : Int) < ns.length := by omega
      have hjj : (j : Int) < args.length := by omega
      have hj3 : j < 4 := by have := HLA.out; omega
      have h1' : wr.cell? ⟨(an.add (k * 4)).block, (an.add (k * 4)).off + 1, none⟩ = some (.int .i64 n.wd) := h1
      have HS := Lib.hid (snoc_at g3)
      clear h1 g1 g2 g3 r0 q0 q1 q3 hbk hbn hb0
      generalize n.wd = X at *
      go_wp2_with (at_builtin; refine wpList_append_own _ rfl _ _ 22 rfl _ 3 i0 (.int .i64 0) 1 8 Tryd.underlying22 hi hz0 hz1 hz2 rfl (by decide) _ _ _ rfl (hown.alloc _) ⟨_, 0, none⟩ 1 1 [.int .i64 _] rfl rfl (cell_one_new _ _ _) (fun x hx => by simp at hx; subst hx; rfl) (by unfold maxLen; omega) (by omega) (by first | omega | (simp; omega) | (simp at *; omega)) ?_; intro v' w3 hown' hgrow3 hnn)
      go_wp2
      go_roundw
      case rel => exact ⟨j + 1, by omega, by go_num, by rw [← HS.out]; exact hown', (hb.alloc hbs (.cells #[.int .i64 X] 3)).grown hgrow3 (by simp; omega) (fun q hq => (hown.lt q hq).1)⟩
      case measure => simp [intOf]; omega
    · obtain rfl : j = args.length := by omega
      obtain ⟨g, cap, rfl, hg1, hg2⟩ := hown.form (by have := HLA.out; omega)
      have w0 : wr.cell? ⟨g, 0, none⟩ = some (.int .i64 a) := by
        have := hown.cells (g := g) rfl 0 (.int .i64 a) (by simp [HLA.out])
        rwa [Addr.add_lit, Nat.zero_add] at this
      have w1 : wr.cell? ⟨g, 1, none⟩ = some (.int .i64 b) := by
        have := hown.cells (g := g) rfl 1 (.int .i64 b) (by simp [HLA.out])
        rwa [Addr.add_lit, Nat.zero_add] at this
      have lg : g < wr.heap.size := by simpa using hg2
      have hla := HLA.out
      have hlm : (args.length : Int) = 2 := by omega
      clear hown hg1 hg2 r0 hb0 hb hla
      cases hE : (a == wd)
      · have HR := Lib.hid (show fitW 8 wd v a b c = false by show (a == wd && b == wd) = false; rw [hE]; rfl)
        go_wp2_with fail
        refine wp_region_aft (by kernel_rfl) (by kernel_rfl) ?_
        repeat (go_big_quiet_step (fail))
        refine wpQuiet_nil ?_
        intro y
        go_wp2
        go_ret
        exact ⟨retB HR.out.symm, Below.aft (y.below hB' hB'.size)⟩
      · have HR := Lib.hid (show fitW 8 wd v a b c = (b == wd) by show (a == wd && b == wd) = _; rw [hE]; rfl)
        go_wp2_with fail
        refine wp_region_aft (by kernel_rfl) (by kernel_rfl) ?_
        repeat (go_big_quiet_step (fail))
        refine wpQuiet_nil ?_
        intro y
        go_wp2
        go_ret
        exact ⟨retB HR.out.symm, Below.aft (y.below hB' hB'.size)⟩

set_option maxRecDepth 100000 in
set_option maxHeartbeats 1600000 in
theorem rfit_9 (wd v a b c : Int) (hw1 : 1 ≤ wd) (hw2 : wd ≤ 16) (a0 : 0 ≤ a) (a1 : a ≤ 16) (b0 : 0 ≤ b) (b1 : b ≤ 16) (B : Option Addr) (bc : Nat) (args : List Int) (hla : args.length = 2) (N : Option Addr) (capN : Nat) (ns : List Nd) (hns : ns.length ≤ 65536) (w : World) (hN : LiesN w N ns) (hB : LiesI w B args) (hW : Wid ns args [a, b]) :
    Calls Tryd.prog 103 #[.slice N ns.length capN, .agg #[.int .i64 9, .int .i64 wd, .slice B args.length bc, .int .i64 v]] w fun e w' => e = .returned (.bool (fitW 9 wd v a b c)) ∧ ∃ x : Aft w, w' = x.val := by
  obtain ⟨i0, hi, hz0, hz1, hz2⟩ := info_parts int_info
  have HLA := Lib.hid hla
  have HN := Lib.hid hN
  have HB := Lib.hid hB
  have HV := Lib.hid hW
  clear hN hB hW hla
  go_enter Tryd.func103, Tryd.ntmps103
  go_wp2_with fail
  have r0 : (w.alloc (.cells #[.int .i64 9, .int .i64 wd, .slice B args.length bc, .int .i64 v] 65)).heap[w.heap.size]? = some (.cells #[.int .i64 9, .int .i64 wd, .slice B args.length bc, .int .i64 v] 65) := heap_alloc_new _ _
  have hb0 : Below w.heap.size w (w.alloc (.cells #[.int .i64 9, .int .i64 wd, .slice B args.length bc, .int .i64 v] 65)) := (Below.refl _ _).alloc (Nat.le_refl _) _
  have z0 : w.heap.size < (w.alloc (.cells #[.int .i64 9, .int .i64 wd, .slice B args.length bc, .int .i64 v] 65)).heap.size := by simp
  generalize (w.alloc (.cells #[.int .i64 9, .int .i64 wd, .slice B args.length bc, .int .i64 v] 65)) = W0 at *
  have R0 := Lib.hid r0
  clear r0
  go_loopw [5, 6] (fun v5 v6 wr => ∃ j : Nat, j ≤ args.length ∧ v6 = .int .i64 j ∧ wr.ownsRow W0.heap.size 3 1 v5 j (([a, b].take j).map fun q => Value.int .i64 q) ∧ Below W0.heap.size W0 wr) (fun _ v6 _ => args.length - (intOf v6).toNat)
  case atStart => exact ⟨0, by omega, rfl, World.ownsRow_nil _ _ _ _, Below.refl _ _⟩
  case round =>
    obtain ⟨j, hj, rfl, hown, hb⟩ := hrel
    have hbs := hb.size
    have r0 : wr.heap[w.heap.size]? = some (.cells #[.int .i64 9, .int .i64 wd, .slice B args.length bc, .int .i64 v] 65) := by rw [hb.block _ z0]; exact R0.out
    have q0 := cell_block (i := 0) r0
    have q1 := cell_block (i := 1) r0
    have q2 := cell_block (i := 2) r0
    have q3 := cell_block (i := 3) r0
    simp at q0 q1 q2 q3
    have lw : w.heap.size < wr.heap.size := by omega
    have hB' : Below w.heap.size w wr := hb0.trans (hb.mono (by omega))
    by_cases hlt : j < args.length
    · obtain ⟨k, n, g1, g2, g3⟩ := HV.out j hlt
      obtain ⟨ad, rfl, hbk, hc⟩ := (HB.out.below hB').cell g1
      obtain ⟨an, rfl, hbn, _, h1, _⟩ := (HN.out.below hB').cells g2
      have hkl := (List.getElem?_eq_some_iff.1 g2).1
      have hkk : (k : Int) < ns.length := by omega
      have hjj : (j : Int) < args.length := by omega
      have hj3 : j < 4 := by have := HLA.out; omega
      have h1' : wr.cell? ⟨(an.add (k * 4)).block, (an.add (k * 4)).off + 1, none⟩ = some (.int .i64 n.wd) := h1
      have HS := Lib.hid (snoc_at g3)
      clear h1 g1 g2 g3 r0 q0 q1 q3 hbk hbn hb0
      generalize n.wd = X at *
      go_wp2_with (at_builtin; refine wpList_append_own _ rfl _ _ 22 rfl _ 3 i0 (.int .i64 0) 1 8 Tryd.underlying22 hi hz0 hz1 hz2 rfl (by decide) _ _ _ rfl (hown.alloc _) ⟨_, 0, none⟩ 1 1 [.int .i64 _] rfl rfl (cell_one_new _ _ _) (fun x hx => by simp at hx; subst hx; rfl) (by unfold maxLen; omega) (by omega) (by first | omega | (simp; omega) | (simp at *; omega)) ?_; intro v' w3 hown' hgrow3 hnn)
      go_wp2
      go_roundw
      case rel => exact ⟨j + 1, by omega, by go_num, by rw [← HS.out]; exact hown', (hb.alloc hbs (.cells #[.int .i64 X] 3)).grown hgrow3 (by simp; omega) (fun q hq => (hown.lt q hq).1)⟩
      case measure => simp [intOf]; omega
    · obtain rfl : j = args.length := by omega
      obtain ⟨g, cap, rfl, hg1, hg2⟩ := hown.form (by have := HLA.out; omega)
      have w0 : wr.cell? ⟨g, 0, none⟩ = some (.int .i64 a) := by
        have := hown.cells (g := g) rfl 0 (.int .i64 a) (by simp [HLA.out])
        rwa [Addr.add_lit, Nat.zero_add] at this
      have w1 : wr.cell? ⟨g, 1, none⟩ = some (.int .i64 b) := by
        have := hown.cells (g := g) rfl 1 (.int .i64 b) (by simp [HLA.out])
        rwa [Addr.add_lit, Nat.zero_add] at this
      have lg : g < wr.heap.size := by simpa using hg2
      have hla := HLA.out
      have hlm : (args.length : Int) = 2 := by omega
      clear hown hg1 hg2 r0 hb0 hb hla
      cases hE : (a == b)
      · have HR := Lib.hid (show fitW 9 wd v a b c = false by show (a == b && wd == 1) = false; rw [hE]; rfl)
        go_wp2_with fail
        refine wp_region_aft (by kernel_rfl) (by kernel_rfl) ?_
        repeat (go_big_quiet_step (fail))
        refine wpQuiet_nil ?_
        intro y
        go_wp2
        go_ret
        exact ⟨retB HR.out.symm, Below.aft (y.below hB' hB'.size)⟩
      · have HR := Lib.hid (show fitW 9 wd v a b c = (wd == 1) by show (a == b && wd == 1) = _; rw [hE]; rfl)
        go_wp2_with fail
        refine wp_region_aft (by kernel_rfl) (by kernel_rfl) ?_
        repeat (go_big_quiet_step (fail))
        refine wpQuiet_nil ?_
        intro y
        go_wp2
        go_ret
        exact ⟨retB HR.out.symm, Below.aft (y.below hB' hB'.size)⟩

set_option maxRecDepth 100000 in
set_option maxHeartbeats 1600000 in
theorem rfit_10 (wd v a b c : Int) (hw1 : 1 ≤ wd) (hw2 : wd ≤ 16) (a0 : 0 ≤ a) (a1 : a ≤ 16) (b0 : 0 ≤ b) (b1 : b ≤ 16) (B : Option Addr) (bc : Nat) (args : List Int) (hla : args.length = 2) (N : Option Addr) (capN : Nat) (ns : List Nd) (hns : ns.length ≤ 65536) (w : World) (hN : LiesN w N ns) (hB : LiesI w B args) (hW : Wid ns args [a, b]) :
    Calls Tryd.prog 103 #[.slice N ns.length capN, .agg #[.int .i64 10, .int .i64 wd, .slice B args.length bc, .int .i64 v]] w fun e w' => e = .returned (.bool (fitW 10 wd v a b c)) ∧ ∃ x : Aft w, w' = x.val := by
  obtain ⟨i0, hi, hz0, hz1, hz2⟩ := info_parts int_info
  have HLA := Lib.hid hla
  have HN := Lib.hid hN
  have HB := Lib.hid hB
  have HV := Lib.hid hW
  clear hN hB hW hla
  go_enter Tryd.func103, Tryd.ntmps103
  go_wp2_with fail
  have r0 : (w.alloc (.cells #[.int .i64 10, .int .i64 wd, .slice B args.length bc, .int .i64 v] 65)).heap[w.heap.size]? = some (.cells #[.int .i64 10, .int .i64 wd, .slice B args.length bc, .int .i64 v] 65) := heap_alloc_new _ _
  have hb0 : Below w.heap.size w (w.alloc (.cells #[.int .i64 10, .int .i64 wd, .slice B args.length bc, .int .i64 v] 65)) := (Below.refl _ _).alloc (Nat.le_refl _) _
  have z0 : w.heap.size < (w.alloc (.cells #[.int .i64 10, .int .i64 wd, .slice B args.length bc, .int .i64 v] 65)).heap.size := by simp
  generalize (w.alloc (.cells #[.int .i64 10, .int .i64 wd, .slice B args.length bc, .int .i64 v] 65)) = W0 at *
  have R0 := Lib.hid r0
  clear r0
  go_loopw [5, 6] (fun v5 v6 wr => ∃ j : Nat, j ≤ args.length ∧ v6 = .int .i64 j ∧ wr.ownsRow W0.heap.size 3 1 v5 j (([a, b].take j).map fun q => Value.int .i64 q) ∧ Below W0.heap.size W0 wr) (fun _ v6 _ => args.length - (intOf v6).toNat)
  case atStart => exact ⟨0, by omega, rfl, World.ownsRow_nil _ _ _ _, Below.refl _ _⟩
  case round =>
    obtain ⟨j, hj, rfl, hown, hb⟩ := hrel
    have hbs := hb.size
    have r0 : wr.heap[w.heap.size]? = some (.cells #[.int .i64 10, .int .i64 wd, .slice B args.length bc, .int .i64 v] 65) := by rw [hb.block _ z0]; exact R0.out
    have q0 := cell_block (i := 0) r0
    have q1 := cell_block (i := 1) r0
    have q2 := cell_block (i := 2) r0
    have q3 := cell_block (i := 3) r0
    simp at q0 q1 q2 q3
    have lw : w.heap.size < wr.heap.size := by omega
    have hB' : Below w.heap.size w wr := hb0.trans (hb.mono (by omega))
    by_cases hlt : j < args.length
    · obtain ⟨k, n, g1, g2, g3⟩ := HV.out j hlt
      obtain ⟨ad, rfl, hbk, hc⟩ := (HB.out.below hB').cell g1
      obtain ⟨an, rfl, hbn, _, h1, _⟩ := (HN.out.below hB').cells g2
      have hkl := (List.getElem?_eq_some_iff.1 g2).1
      have hkk : (k : Int) < ns.length := by omega
      have hjj : (j : Int) < args.length := by omega
      have hj3 : j < 4 := by have := HLA.out; omega
      have h1' : wr.cell? ⟨(an.add (k * 4)).block, (an.add (k * 4)).off + 1, none⟩ = some (.int .i64 n.wd) := h1
      have HS := Lib.hid (snoc_at g3)
      clear h1 g1 g2 g3 r0 q0 q1 q3 hbk hbn hb0
      generalize n.wd = X at *
      go_wp2_with (at_builtin; refine wpList_append_own _ rfl _ _ 22 rfl _ 3 i0 (.int .i64 0) 1 8 Tryd.underlying22 hi hz0 hz1 hz2 rfl (by decide) _ _ _ rfl (hown.alloc _) ⟨_, 0, none⟩ 1 1 [.int .i64 _] rfl rfl (cell_one_new _ _ _) (fun x hx => by simp at hx; subst hx; rfl) (by unfold maxLen; omega) (by omega) (by first | omega | (simp; omega) | (simp at *; omega)) ?_; intro v' w3 hown' hgrow3 hnn)
      go_wp2
      go_roundw
      case rel => exact ⟨j + 1, by omega, by go_num, by rw [← HS.out]; exact hown', (hb.alloc hbs (.cells #[.int .i64 X] 3)).grown hgrow3 (by simp; omega) (fun q hq => (hown.lt q hq).1)⟩
      case measure => simp [intOf]; omega
    · obtain rfl : j = args.length := by omega
      obtain ⟨g, cap, rfl, hg1, hg2⟩ := hown.form (by have := HLA.out; omega)
      have w0 : wr.cell? ⟨g, 0, none⟩ = some (.int .i64 a) := by
        have := hown.cells (g := g) rfl 0 (.int .i64 a) (by simp [HLA.out])
        rwa [Addr.add_lit, Nat.zero_add] at this
      have w1 : wr.cell? ⟨g, 1, none⟩ = some (.int .i64 b) := by
        have := hown.cells (g := g) rfl 1 (.int .i64 b) (by simp [HLA.out])
        rwa [Addr.add_lit, Nat.zero_add] at this
      have lg : g < wr.heap.size := by simpa using hg2
      have hla := HLA.out
      have hlm : (args.length : Int) = 2 := by omega
      clear hown hg1 hg2 r0 hb0 hb hla
      cases hE : (a == b)
      · have HR := Lib.hid (show fitW 10 wd v a b c = false by show (a == b && wd == 1) = false; rw [hE]; rfl)
        go_wp2_with fail
        refine wp_region_aft (by kernel_rfl) (by kernel_rfl) ?_
        repeat (go_big_quiet_step (fail))
        refine wpQuiet_nil ?_
        intro y
        go_wp2
        go_ret
        exact ⟨retB HR.out.symm, Below.aft (y.below hB' hB'.size)⟩
      · have HR := Lib.hid (show fitW 10 wd v a b c = (wd == 1) by show (a == b && wd == 1) = _; rw [hE]; rfl)
        go_wp2_with fail
        refine wp_region_aft (by kernel_rfl) (by kernel_rfl) ?_
        repeat (go_big_quiet_step (fail))
        refine wpQuiet_nil ?_
        intro y
        go_wp2
        go_ret
        exact ⟨retB HR.out.symm, Below.aft (y.below hB' hB'.size)⟩

set_option maxRecDepth 100000 in
set_option maxHeartbeats 1600000 in
theorem rfit_11 (wd v a b c : Int) (hw1 : 1 ≤ wd) (hw2 : wd ≤ 16) (a0 : 0 ≤ a) (a1 : a ≤ 16) (b0 : 0 ≤ b) (b1 : b ≤ 16) (B : Option Addr) (bc : Nat) (args : List Int) (hla : args.length = 2) (N : Option Addr) (capN : Nat) (ns : List Nd) (hns : ns.length ≤ 65536) (w : World) (hN : LiesN w N ns) (hB : LiesI w B args) (hW : Wid ns args [a, b]) :
    Calls Tryd.prog 103 #[.slice N ns.length capN, .agg #[.int .i64 11, .int .i64 wd, .slice B args.length bc, .int .i64 v]] w fun e w' => e = .returned (.bool (fitW 11 wd v a b c)) ∧ ∃ x : Aft w, w' = x.val := by
  obtain ⟨i0, hi, hz0, hz1, hz2⟩ := info_parts int_info
  have HLA := Lib.hid hla
  have HN := Lib.hid hN
  have HB := Lib.hid hB
  have HV := Lib.hid hW
  clear hN hB hW hla
  go_enter Tryd.func103, Tryd.ntmps103
  go_wp2_with fail
  have r0 : (w.alloc (.cells #[.int .i64 11, .int .i64 wd, .slice B args.length bc, .int .i64 v] 65)).heap[w.heap.size]? = some (.cells #[.int .i64 11, .int .i64 wd, .slice B args.length bc, .int .i64 v] 65) := heap_alloc_new _ _
  have hb0 : Below w.heap.size w (w.alloc (.cells #[.int .i64 11, .int .i64 wd, .slice B args.length bc, .int .i64 v] 65)) := (Below.refl _ _).alloc (Nat.le_refl _) _
  have z0 : w.heap.size < (w.alloc (.cells #[.int .i64 11, .int .i64 wd, .slice B args.length bc, .int .i64 v] 65)).heap.size := by simp
  generalize (w.alloc (.cells #[.int .i64 11, .int .i64 wd, .slice B args.length bc, .int .i64 v] 65)) = W0 at *
  have R0 := Lib.hid r0
  clear r0
  go_loopw [5, 6] (fun v5 v6 wr => ∃ j : Nat, j ≤ args.length ∧ v6 = .int .i64 j ∧ wr.ownsRow W0.heap.size 3 1 v5 j (([a, b].take j).map fun q => Value.int .i64 q) ∧ Below W0.heap.size W0 wr) (fun _ v6 _ => args.length - (intOf v6).toNat)
  case atStart => exact ⟨0, by omega, rfl, World.ownsRow_nil _ _ _ _, Below.refl _ _⟩
  case round =>
    obtain ⟨j, hj, rfl, hown, hb⟩ := hrel
    have hbs := hb.size
    have r0 : wr.heap[w.heap.size]? = some (.cells #[.int .i64 11, .int .i64 wd, .slice B args.length bc, .int .i64 v] 65) := by rw [hb.block _ z0]; exact R0.out
    have q0 := cell_block (i := 0) r0
    have q1 := cell_block (i := 1) r0
    have q2 := cell_block (i := 2) r0
    have q3 := cell_block (i := 3) r0
    simp at q0 q1 q2 q3
    have lw : w.heap.size < wr.heap.size := by omega
    have hB' : Below w.heap.size w wr := hb0.trans (hb.mono (by omega))
    by_cases hlt : j < args.length
    · obtain ⟨k, n, g1, g2, g3⟩ := HV.out j hlt
      obtain ⟨ad, rfl, hbk, hc⟩ := (HB.out.below hB').cell g1
      obtain ⟨an, rfl, hbn, _, h1, _⟩ := (HN.out.below hB').cells g2
      have hkl := (List.getElem?_eq_some_iff.1 g2).1
      have hkk : (k : Int) < ns.length := by omega
      have hjj : (j : Int) < args.length := by omega
      have hj3 : j < 4 := by have := HLA.out; omega
      have h1' : wr.cell? ⟨(an.add (k * 4)).block, (an.add (k * 4)).off + 1, none⟩ = some (.int .i64 n.wd) := h1
      have HS := Lib.hid (snoc_at g3)
      clear h1 g1 g2 g3 r0 q0 q1 q3 hbk hbn hb0
      generalize n.wd = X at *
      go_wp2_with (at_builtin; refine wpList_append_own _ rfl _ _ 22 rfl _ 3 i0 (.int .i64 0) 1 8 Tryd.underlying22 hi hz0 hz1 hz2 rfl (by decide) _ _ _ rfl (hown.alloc _) ⟨_, 0, none⟩ 1 1 [.int .i64 _] rfl rfl (cell_one_new _ _ _) (fun x hx => by simp at hx; subst hx; rfl) (by unfold maxLen; omega) (by omega) (by first | omega | (simp; omega) | (simp at *; omega)) ?_; intro v' w3 hown' hgrow3 hnn)
      go_wp2
      go_roundw
      case rel => exact ⟨j + 1, by omega, by go_num, by rw [← HS.out]; exact hown', (hb.alloc hbs (.cells #[.int .i64 X] 3)).grown hgrow3 (by simp; omega) (fun q hq => (hown.lt q hq).1)⟩
      case measure => simp [intOf]; omega
    · obtain rfl : j = args.length := by omega
      obtain ⟨g, cap, rfl, hg1, hg2⟩ := hown.form (by have := HLA.out; omega)
      have w0 : wr.cell? ⟨g, 0, none⟩ = some (.int .i64 a) := by
        have := hown.cells (g := g) rfl 0 (.int .i64 a) (by simp [HLA.out])
        rwa [Addr.add_lit, Nat.zero_add] at this
      have w1 : wr.cell? ⟨g, 1, none⟩ = some (.int .i64 b) := by
        have := hown.cells (g := g) rfl 1 (.int .i64 b) (by simp [HLA.out])
        rwa [Addr.add_lit, Nat.zero_add] at this
      have lg : g < wr.heap.size := by simpa using hg2
      have hla := HLA.out
      have hlm : (args.length : Int) = 2 := by omega
      clear hown hg1 hg2 r0 hb0 hb hla
      cases hE : (a == b)
      · have HR := Lib.hid (show fitW 11 wd v a b c = false by show (a == b && wd == 1) = false; rw [hE]; rfl)
        go_wp2_with fail
        refine wp_region_aft (by kernel_rfl) (by kernel_rfl) ?_
        repeat (go_big_quiet_step (fail))
        refine wpQuiet_nil ?_
        intro y
        go_wp2
        go_ret
        exact ⟨retB HR.out.symm, Below.aft (y.below hB' hB'.size)⟩
      · have HR := Lib.hid (show fitW 11 wd v a b c = (wd == 1) by show (a == b && wd == 1) = _; rw [hE]; rfl)
        go_wp2_with fail
        refine wp_region_aft (by kernel_rfl) (by kernel_rfl) ?_
        repeat (go_big_quiet_step (fail))
        refine wpQuiet_nil ?_
        intro y
        go_wp2
        go_ret
        exact ⟨retB HR.out.symm, Below.aft (y.below hB' hB'.size)⟩

set_option maxRecDepth 100000 in
set_option maxHeartbeats 1600000 in
theorem rfit_12 (wd v a b c : Int) (hw1 : 1 ≤ wd) (hw2 : wd ≤ 16) (a0 : 0 ≤ a) (a1 : a ≤ 16) (b0 : 0 ≤ b) (b1 : b ≤ 16) (B : Option Addr) (bc : Nat) (args : List Int) (hla : args.length = 3) (N : Option Addr) (capN : Nat) (ns : List Nd) (hns : ns.length ≤ 65536) (w : World) (hN : LiesN w N ns) (hB : LiesI w B args) (hW : Wid ns args [a, b, c]) :
    Calls Tryd.prog 103 #[.slice N ns.length capN, .agg #[.int .i64 12, .int .i64 wd, .slice B args.length bc, .int .i64 v]] w fun e w' => e = .returned (.bool (fitW 12 wd v a b c)) ∧ ∃ x : Aft w, w' = x.val := by
  obtain ⟨i0, hi, hz0, hz1, hz2⟩ := info_parts int_info
  have HLA := Lib.hid hla
  have HN := Lib.hid hN
  have HB := Lib.hid hB
  have HV := Lib.hid hW
  clear hN hB hW hla
  go_enter Tryd.func103, Tryd.ntmps103
  go_wp2_with fail
  have r0 : (w.alloc (.cells #[.int .i64 12, .int .i64 wd, .slice B args.length bc, .int .i64 v] 65)).heap[w.heap.size]? = some (.cells #[.int .i64 12, .int .i64 wd, .slice B args.length bc, .int .i64 v] 65) := heap_alloc_new _ _
  have hb0 : Below w.heap.size w (w.alloc (.cells #[.int .i64 12, .int .i64 wd, .slice B args.length bc, .int .i64 v] 65)) := (Below.refl _ _).alloc (Nat.le_refl _) _
  have z0 : w.heap.size < (w.alloc (.cells #[.int .i64 12, .int .i64 wd, .slice B args.length bc, .int .i64 v] 65)).heap.size := by simp
  generalize (w.alloc (.cells #[.int .i64 12, .int .i64 wd, .slice B args.length bc, .int .i64 v] 65)) = W0 at *
  have R0 := Lib.hid r0
  clear r0
  go_loopw [5, 6] (fun v5 v6 wr => ∃ j : Nat, j ≤ args.length ∧ v6 = .int .i64 j ∧ wr.ownsRow W0.heap.size 3 1 v5 j (([a, b, c].take j).map fun q => Value.int .i64 q) ∧ Below W0.heap.size W0 wr) (fun _ v6 _ => args.length - (intOf v6).toNat)
  case atStart => exact ⟨0, by omega, rfl, World.ownsRow_nil _ _ _ _, Below.refl _ _⟩
  case round =>
    obtain ⟨j, hj, rfl, hown, hb⟩ := hrel
    have hbs := hb.size
    have r0 : wr.heap[w.heap.size]? = some (.cells #[.int .i64 12, .int .i64 wd, .slice B args.length bc, .int .i64 v] 65) := by rw [hb.block _ z0]; exact R0.out
    have q0 := cell_block (i := 0) r0
    have q1 := cell_block (i := 1) r0
    have q2 := cell_block (i := 2) r0
    have q3 := cell_block (i := 3) r0
    simp at q0 q1 q2 q3
    have lw : w.heap.size < wr.heap.size := by omega
    have hB' : Below w.heap.size w wr := hb0.trans (hb.mono (by omega))
    by_cases hlt : j < args.length
    · obtain ⟨k, n, g1, g2, g3⟩ := HV.out j hlt
      obtain ⟨ad, rfl, hbk, hc⟩ := (HB.out.below hB').cell g1
      obtain ⟨an, rfl, hbn, _, h1, _⟩ := (HN.out.below hB').cells g2
      have hkl := (List.getElem?_eq_some_iff.1 g2).1
      have hkk : (k : Int) < ns.length := by omega
      have hjj : (j : Int) < args.length := by omega
      have hj3 : j < 4 := by have := HLA.out; omega
      have h1' : wr.cell? ⟨(an.add (k * 4)).block, (an.add (k * 4)).off + 1, none⟩ = some (.int .i64 n.wd) := h1
      have HS := Lib.hid (snoc_at g3)
      clear h1 g1 g2 g3 r0 q0 q1 q3 hbk hbn hb0
      generalize n.wd = X at *
      go_wp2_with (at_builtin; refine wpList_append_own _ rfl _ _ 22 rfl _ 3 i0 (.int .i64 0) 1 8 Tryd.underlying22 hi hz0 hz1 hz2 rfl (by decide) _ _ _ rfl (hown.alloc _) ⟨_, 0, none⟩ 1 1 [.int .i64 _] rfl rfl (cell_one_new _ _ _) (fun x hx => by simp at hx; subst hx; rfl) (by unfold maxLen; omega) (by omega) (by first | omega | (simp; omega) | (simp at *; omega)) ?_; intro v' w3 hown' hgrow3 hnn)
      go_wp2
      go_roundw
      case rel => exact ⟨j + 1, by omega, by go_num, by rw [← HS.out]; exact hown', (hb.alloc hbs (.cells #[.int .i64 X] 3)).grown hgrow3 (by simp; omega) (fun q hq => (hown.lt q hq).1)⟩
      case measure => simp [intOf]; omega
    · obtain rfl : j = args.length := by omega
      obtain ⟨g, cap, rfl, hg1, hg2⟩ := hown.form (by have := HLA.out; omega)
      have w0 : wr.cell? ⟨g, 0, none⟩ = some (.int .i64 a) := by
        have := hown.cells (g := g) rfl 0 (.int .i64 a) (by simp [HLA.out])
        rwa [Addr.add_lit, Nat.zero_add] at this
      have w1 : wr.cell? ⟨g, 1, none⟩ = some (.int .i64 b) := by
        have := hown.cells (g := g) rfl 1 (.int .i64 b) (by simp [HLA.out])
        rwa [Addr.add_lit, Nat.zero_add] at this
      have w2 : wr.cell? ⟨g, 2, none⟩ = some (.int .i64 c) := by
        have := hown.cells (g := g) rfl 2 (.int .i64 c) (by simp [HLA.out])
        rwa [Addr.add_lit, Nat.zero_add] at this
      have lg : g < wr.heap.size := by simpa using hg2
      have hla := HLA.out
      have hlm : (args.length : Int) = 3 := by omega
      clear hown hg1 hg2 r0 hb0 hb hla
      cases hE : (a == 1)
      · have HR := Lib.hid (show fitW 12 wd v a b c = false by show (a == 1 && b == wd && c == wd) = false; rw [hE]; rfl)
        go_wp2_with fail
        refine wp_region_aft (by kernel_rfl) (by kernel_rfl) ?_
        repeat (go_big_quiet_step (fail))
        refine wpQuiet_nil ?_
        intro y
        go_wp2
        go_ret
        exact ⟨retB HR.out.symm, Below.aft (y.below hB' hB'.size)⟩
      cases hF : (b == wd)
      · have HR := Lib.hid (show fitW 12 wd v a b c = false by show (a == 1 && b == wd && c == wd) = false; rw [hE, hF]; rfl)
        go_wp2_with fail
        refine wp_region_aft (by kernel_rfl) (by kernel_rfl) ?_
        repeat (go_big_quiet_step (fail))
        refine wpQuiet_nil ?_
        intro y
        go_wp2
        go_ret
        exact ⟨retB HR.out.symm, Below.aft (y.below hB' hB'.size)⟩
      · have HR := Lib.hid (show fitW 12 wd v a b c = (c == wd) by show (a == 1 && b == wd && c == wd) = _; rw [hE, hF]; rfl)
        go_wp2_with fail
        refine wp_region_aft (by kernel_rfl) (by kernel_rfl) ?_
        repeat (go_big_quiet_step (fail))
        refine wpQuiet_nil ?_
        intro y
        go_wp2
        go_ret
        exact ⟨retB HR.out.symm, Below.aft (y.below hB' hB'.size)⟩

set_option maxRecDepth 100000 in
set_option maxHeartbeats 1600000 in
theorem rfit_13 (wd v a b c : Int) (hw1 : 1 ≤ wd) (hw2 : wd ≤ 16) (a0 : 0 ≤ a) (a1 : a ≤ 16) (b0 : 0 ≤ b) (b1 : b ≤ 16) (B : Option Addr) (bc : Nat) (args : List Int) (hla : args.length = 2) (N : Option Addr) (capN : Nat) (ns : List Nd) (hns : ns.length ≤ 65536) (w : World) (hN : LiesN w N ns) (hB : LiesI w B args) (hW : Wid ns args [a, b]) :
    Calls Tryd.prog 103 #[.slice N ns.length capN, .agg #[.int .i64 13, .int .i64 wd, .slice B args.length bc, .int .i64 v]] w fun e w' => e = .returned (.bool (fitW 13 wd v a b c)) ∧ ∃ x : Aft w, w' = x.val := by
  obtain ⟨i0, hi, hz0, hz1, hz2⟩ := info_parts int_info
  have HLA := Lib.hid hla
  have HN := Lib.hid hN
  have HB := Lib.hid hB
  have HV := Lib.hid hW
  clear hN hB hW hla
  go_enter Tryd.func103, Tryd.ntmps103
  go_wp2_with fail
  have r0 : (w.alloc (.cells #[.int .i64 13, .int .i64 wd, .slice B args.length bc, .int .i64 v] 65)).heap[w.heap.size]? = some (.cells #[.int .i64 13, .int .i64 wd, .slice B args.length bc, .int .i64 v] 65) := heap_alloc_new _ _
  have hb0 : Below w.heap.size w (w.alloc (.cells #[.int .i64 13, .int .i64 wd, .slice B args.length bc, .int .i64 v] 65)) := (Below.refl _ _).alloc (Nat.le_refl _) _
  have z0 : w.heap.size < (w.alloc (.cells #[.int .i64 13, .int .i64 wd, .slice B args.length bc, .int .i64 v] 65)).heap.size := by simp
  generalize (w.alloc (.cells #[.int .i64 13, .int .i64 wd, .slice B args.length bc, .int .i64 v] 65)) = W0 at *
  have R0 := Lib.hid r0
  clear r0
  go_loopw [5, 6] (fun v5 v6 wr => ∃ j : Nat, j ≤ args.length ∧ v6 = .int .i64 j ∧ wr.ownsRow W0.heap.size 3 1 v5 j (([a, b].take j).map fun q => Value.int .i64 q) ∧ Below W0.heap.size W0 wr) (fun _ v6 _ => args.length - (intOf v6).toNat)
  case atStart => exact ⟨0, by omega, rfl, World.ownsRow_nil _ _ _ _, Below.refl _ _⟩
  case round =>
    obtain ⟨j, hj, rfl, hown, hb⟩ := hrel
    have hbs := hb.size
    have r0 : wr.heap[w.heap.size]? = some (.cells #[.int .i64 13, .int .i64 wd, .slice B args.length bc, .int .i64 v] 65) := by rw [hb.block _ z0]; exact R0.out
    have q0 := cell_block (i := 0) r0
    have q1 := cell_block (i := 1) r0
    have q2 := cell_block (i := 2) r0
    have q3 := cell_block (i := 3) r0
    simp at q0 q1 q2 q3
    have lw : w.heap.size < wr.heap.size := by omega
    have hB' : Below w.heap.size w wr := hb0.trans (hb.mono (by omega))
    by_cases hlt : j < args.length
    · obtain ⟨k, n, g1, g2, g3⟩ := HV.out j hlt
      obtain ⟨ad, rfl, hbk, hc⟩ := (HB.out.below hB').cell g1
      obtain ⟨an, rfl, hbn, _, h1, _⟩ := (HN.out.below hB').cells g2
      have hkl := (List.getElem?_eq_some_iff.1 g2).1
      have hkk : (k : Int) < ns.length := by omega
      have hjj : (j : Int) < args.length := by omega
      have hj3 : j < 4 := by have := HLA.out; omega
      have h1' : wr.cell? ⟨(an.add (k * 4)).block, (an.add (k * 4)).off + 1, none⟩ = some (.int .i64 n.wd) := h1
      have HS := Lib.hid (snoc_at g3)
      clear h1 g1 g2 g3 r0 q0 q1 q3 hbk hbn hb0
      generalize n.wd = X at *
      go_wp2_with (at_builtin; refine wpList_append_own _ rfl _ _ 22 rfl _ 3 i0 (.int .i64 0) 1 8 Tryd.underlying22 hi hz0 hz1 hz2 rfl (by decide) _ _ _ rfl (hown.alloc _) ⟨_, 0, none⟩ 1 1 [.int .i64 _] rfl rfl (cell_one_new _ _ _) (fun x hx => by simp at hx; subst hx; rfl) (by unfold maxLen; omega) (by omega) (by first | omega | (simp; omega) | (simp at *; omega)) ?_; intro v' w3 hown' hgrow3 hnn)
      go_wp2
      go_roundw
      case rel => exact ⟨j + 1, by omega, by go_num, by rw [← HS.out]; exact hown', (hb.alloc hbs (.cells #[.int .i64 X] 3)).grown hgrow3 (by simp; omega) (fun q hq => (hown.lt q hq).1)⟩
      case measure => simp [intOf]; omega
    · obtain rfl : j = args.length := by omega
      obtain ⟨g, cap, rfl, hg1, hg2⟩ := hown.form (by have := HLA.out; omega)
      have w0 : wr.cell? ⟨g, 0, none⟩ = some (.int .i64 a) := by
        have := hown.cells (g := g) rfl 0 (.int .i64 a) (by simp [HLA.out])
        rwa [Addr.add_lit, Nat.zero_add] at this
      have w1 : wr.cell? ⟨g, 1, none⟩ = some (.int .i64 b) := by
        have := hown.cells (g := g) rfl 1 (.int .i64 b) (by simp [HLA.out])
        rwa [Addr.add_lit, Nat.zero_add] at this
      have lg : g < wr.heap.size := by simpa using hg2
      have hla := HLA.out
      have hlm : (args.length : Int) = 2 := by omega
      clear hown hg1 hg2 r0 hb0 hb hla
      have HR := Lib.hid (show fitW 13 wd v a b c = (a + b == wd) from rfl)
      go_wp2_with fail
      refine wp_region_aft (by kernel_rfl) (by kernel_rfl) ?_
      repeat (go_big_quiet_step (fail))
      refine wpQuiet_nil ?_
      intro y
      go_wp2
      go_ret
      exact ⟨retB HR.out.symm, Below.aft (y.below hB' hB'.size)⟩

set_option maxRecDepth 100000 in
set_option maxHeartbeats 1600000 in
theorem rfit_14 (wd v a b c : Int) (hw1 : 1 ≤ wd) (hw2 : wd ≤ 16) (a0 : 0 ≤ a) (a1 : a ≤ 16) (b0 : 0 ≤ b) (b1 : b ≤ 16) (v0 : 0 ≤ v) (v1 : v ≤ 15) (B : Option Addr) (bc : Nat) (args : List Int) (hla : args.length = 1) (N : Option Addr) (capN : Nat) (ns : List Nd) (hns : ns.length ≤ 65536) (w : World) (hN : LiesN w N ns) (hB : LiesI w B args) (hW : Wid ns args [a]) :
    Calls Tryd.prog 103 #[.slice N ns.length capN, .agg #[.int .i64 14, .int .i64 wd, .slice B args.length bc, .int .i64 v]] w fun e w' => e = .returned (.bool (fitW 14 wd v a b c)) ∧ ∃ x : Aft w, w' = x.val := by
  obtain ⟨i0, hi, hz0, hz1, hz2⟩ := info_parts int_info
  have HLA := Lib.hid hla
  have HN := Lib.hid hN
  have HB := Lib.hid hB
  have HV := Lib.hid hW
  clear hN hB hW hla
  go_enter Tryd.func103, Tryd.ntmps103
  go_wp2_with fail
  have r0 : (w.alloc (.cells #[.int .i64 14, .int .i64 wd, .slice B args.length bc, .int .i64 v] 65)).heap[w.heap.size]? = some (.cells #[.int .i64 14, .int .i64 wd, .slice B args.length bc, .int .i64 v] 65) := heap_alloc_new _ _
  have hb0 : Below w.heap.size w (w.alloc (.cells #[.int .i64 14, .int .i64 wd, .slice B args.length bc, .int .i64 v] 65)) := (Below.refl _ _).alloc (Nat.le_refl _) _
  have z0 : w.heap.size < (w.alloc (.cells #[.int .i64 14, .int .i64 wd, .slice B args.length bc, .int .i64 v] 65)).heap.size := by simp
  generalize (w.alloc (.cells #[.int .i64 14, .int .i64 wd, .slice B args.length bc, .int .i64 v] 65)) = W0 at *
  have R0 := Lib.hid r0
  clear r0
  go_loopw [5, 6] (fun v5 v6 wr => ∃ j : Nat, j ≤ args.length ∧ v6 = .int .i64 j ∧ wr.ownsRow W0.heap.size 3 1 v5 j (([a].take j).map fun q => Value.int .i64 q) ∧ Below W0.heap.size W0 wr) (fun _ v6 _ => args.length - (intOf v6).toNat)
  case atStart => exact ⟨0, by omega, rfl, World.ownsRow_nil _ _ _ _, Below.refl _ _⟩
  case round =>
    obtain ⟨j, hj, rfl, hown, hb⟩ := hrel
    have hbs := hb.size
    have r0 : wr.heap[w.heap.size]? = some (.cells #[.int .i64 14, .int .i64 wd, .slice B args.length bc, .int .i64 v] 65) := by rw [hb.block _ z0]; exact R0.out
    have q0 := cell_block (i := 0) r0
    have q1 := cell_block (i := 1) r0
    have q2 := cell_block (i := 2) r0
    have q3 := cell_block (i := 3) r0
    simp at q0 q1 q2 q3
    have lw : w.heap.size < wr.heap.size := by omega
    have hB' : Below w.heap.size w wr := hb0.trans (hb.mono (by omega))
    by_cases hlt : j < args.length
    · obtain ⟨k, n, g1, g2, g3⟩ := HV.out j hlt
      obtain ⟨ad, rfl, hbk, hc⟩ := (HB.out.below hB').cell g1
      obtain ⟨an, rfl, hbn, _, h1, _⟩ := (HN.out.below hB').cells g2
      have hkl := (List.getElem?_eq_some_iff.1 g2).1
      have hkk : (k : Int) < ns.length := by omega
      have hjj : (j : Int) < args.length := by omega
      have hj3 : j < 4 := by have := HLA.out; omega
      have h1' : wr.cell? ⟨(an.add (k * 4)).block, (an.add (k * 4)).off + 1, none⟩ = some (.int .i64 n.wd) := h1
      have HS := Lib.hid (snoc_at g3)
      clear h1 g1 g2 g3 r0 q0 q1 q3 hbk hbn hb0
      generalize n.wd = X at *
      go_wp2_with (at_builtin; refine wpList_append_own _ rfl _ _ 22 rfl _ 3 i0 (.int .i64 0) 1 8 Tryd.underlying22 hi hz0 hz1 hz2 rfl (by decide) _ _ _ rfl (hown.alloc _) ⟨_, 0, none⟩ 1 1 [.int .i64 _] rfl rfl (cell_one_new _ _ _) (fun x hx => by simp at hx; subst hx; rfl) (by unfold maxLen; omega) (by omega) (by first | omega | (simp; omega) | (simp at *; omega)) ?_; intro v' w3 hown' hgrow3 hnn)
      go_wp2
      go_roundw
      case rel => exact ⟨j + 1, by omega, by go_num, by rw [← HS.out]; exact hown', (hb.alloc hbs (.cells #[.int .i64 X] 3)).grown hgrow3 (by simp; omega) (fun q hq => (hown.lt q hq).1)⟩
      case measure => simp [intOf]; omega
    · obtain rfl : j = args.length := by omega
      obtain ⟨g, cap, rfl, hg1, hg2⟩ := hown.form (by have := HLA.out; omega)
      have w0 : wr.cell? ⟨g, 0, none⟩ = some (.int .i64 a) := by
        have := hown.cells (g := g) rfl 0 (.int .i64 a) (by simp [HLA.out])
        rwa [Addr.add_lit, Nat.zero_add] at this
      have lg : g < wr.heap.size := by simpa using hg2
      have hla := HLA.out
      have hlm : (args.length : Int) = 1 := by omega
      clear hown hg1 hg2 r0 hb0 hb hla
      have HR := Lib.hid (show fitW 14 wd v a b c = (decide (v + wd ≤ a)) from rfl)
      go_wp2_with fail
      refine wp_region_aft (by kernel_rfl) (by kernel_rfl) ?_
      repeat (go_big_quiet_step (fail))
      refine wpQuiet_nil ?_
      intro y
      go_wp2
      go_ret
      exact ⟨retB HR.out.symm, Below.aft (y.below hB' hB'.size)⟩

set_option maxRecDepth 100000 in
set_option maxHeartbeats 1600000 in
theorem rfit_15 (wd v a b c : Int) (hw1 : 1 ≤ wd) (hw2 : wd ≤ 16) (a0 : 0 ≤ a) (a1 : a ≤ 16) (b0 : 0 ≤ b) (b1 : b ≤ 16) (B : Option Addr) (bc : Nat) (args : List Int) (hla : args.length = 1) (N : Option Addr) (capN : Nat) (ns : List Nd) (hns : ns.length ≤ 65536) (w : World) (hN : LiesN w N ns) (hB : LiesI w B args) (hW : Wid ns args [a]) :
    Calls Tryd.prog 103 #[.slice N ns.length capN, .agg #[.int .i64 15, .int .i64 wd, .slice B args.length bc, .int .i64 v]] w fun e w' => e = .returned (.bool (fitW 15 wd v a b c)) ∧ ∃ x : Aft w, w' = x.val := by
  obtain ⟨i0, hi, hz0, hz1, hz2⟩ := info_parts int_info
  have HLA := Lib.hid hla
  have HN := Lib.hid hN
  have HB := Lib.hid hB
  have HV := Lib.hid hW
  clear hN hB hW hla
  go_enter Tryd.func103, Tryd.ntmps103
  go_wp2_with fail
  have r0 : (w.alloc (.cells #[.int .i64 15, .int .i64 wd, .slice B args.length bc, .int .i64 v] 65)).heap[w.heap.size]? = some (.cells #[.int .i64 15, .int .i64 wd, .slice B args.length bc, .int .i64 v] 65) := heap_alloc_new _ _
  have hb0 : Below w.heap.size w (w.alloc (.cells #[.int .i64 15, .int .i64 wd, .slice B args.length bc, .int .i64 v] 65)) := (Below.refl _ _).alloc (Nat.le_refl _) _
  have z0 : w.heap.size < (w.alloc (.cells #[.int .i64 15, .int .i64 wd, .slice B args.length bc, .int .i64 v] 65)).heap.size := by simp
  generalize (w.alloc (.cells #[.int .i64 15, .int .i64 wd, .slice B args.length bc, .int .i64 v] 65)) = W0 at *
  have R0 := Lib.hid r0
  clear r0
  go_loopw [5, 6] (fun v5 v6 wr => ∃ j : Nat, j ≤ args.length ∧ v6 = .int .i64 j ∧ wr.ownsRow W0.heap.size 3 1 v5 j (([a].take j).map fun q => Value.int .i64 q) ∧ Below W0.heap.size W0 wr) (fun _ v6 _ => args.length - (intOf v6).toNat)
  case atStart => exact ⟨0, by omega, rfl, World.ownsRow_nil _ _ _ _, Below.refl _ _⟩
  case round =>
    obtain ⟨j, hj, rfl, hown, hb⟩ := hrel
    have hbs := hb.size
    have r0 : wr.heap[w.heap.size]? = some (.cells #[.int .i64 15, .int .i64 wd, .slice B args.length bc, .int .i64 v] 65) := by rw [hb.block _ z0]; exact R0.out
    have q0 := cell_block (i := 0) r0
    have q1 := cell_block (i := 1) r0
    have q2 := cell_block (i := 2) r0
    have q3 := cell_block (i := 3) r0
    simp at q0 q1 q2 q3
    have lw : w.heap.size < wr.heap.size := by omega
    have hB' : Below w.heap.size w wr := hb0.trans (hb.mono (by omega))
    by_cases hlt : j < args.length
    · obtain ⟨k, n, g1, g2, g3⟩ := HV.out j hlt
      obtain ⟨ad, rfl, hbk, hc⟩ := (HB.out.below hB').cell g1
      obtain ⟨an, rfl, hbn, _, h1, _⟩ := (HN.out.below hB').cells g2
      have hkl := (List.getElem?_eq_some_iff.1 g2).1
      have hkk : (k : Int) < ns.length := by omega
      have hjj : (j : Int) < args.length := by omega
      have hj3 : j < 4 := by have := HLA.out; omega
      have h1' : wr.cell? ⟨(an.add (k * 4)).block, (an.add (k * 4)).off + 1, none⟩ = some (.int .i64 n.wd) := h1
      have HS := Lib.hid (snoc_at g3)
      clear h1 g1 g2 g3 r0 q0 q1 q3 hbk hbn hb0
      generalize n.wd = X at *
      go_wp2_with (at_builtin; refine wpList_append_own _ rfl _ _ 22 rfl _ 3 i0 (.int .i64 0) 1 8 Tryd.underlying22 hi hz0 hz1 hz2 rfl (by decide) _ _ _ rfl (hown.alloc _) ⟨_, 0, none⟩ 1 1 [.int .i64 _] rfl rfl (cell_one_new _ _ _) (fun x hx => by simp at hx; subst hx; rfl) (by unfold maxLen; omega) (by omega) (by first | omega | (simp; omega) | (simp at *; omega)) ?_; intro v' w3 hown' hgrow3 hnn)
      go_wp2
      go_roundw
      case rel => exact ⟨j + 1, by omega, by go_num, by rw [← HS.out]; exact hown', (hb.alloc hbs (.cells #[.int .i64 X] 3)).grown hgrow3 (by simp; omega) (fun q hq => (hown.lt q hq).1)⟩
      case measure => simp [intOf]; omega
    · obtain rfl : j = args.length := by omega
      obtain ⟨g, cap, rfl, hg1, hg2⟩ := hown.form (by have := HLA.out; omega)
      have w0 : wr.cell? ⟨g, 0, none⟩ = some (.int .i64 a) := by
        have := hown.cells (g := g) rfl 0 (.int .i64 a) (by simp [HLA.out])
        rwa [Addr.add_lit, Nat.zero_add] at this
      have lg : g < wr.heap.size := by simpa using hg2
      have hla := HLA.out
      have hlm : (args.length : Int) = 1 := by omega
      clear hown hg1 hg2 r0 hb0 hb hla
      have HR := Lib.hid (show fitW 15 wd v a b c = (decide (a ≤ wd)) from rfl)
      go_wp2_with fail
      refine wp_region_aft (by kernel_rfl) (by kernel_rfl) ?_
      repeat (go_big_quiet_step (fail))
      refine wpQuiet_nil ?_
      intro y
      go_wp2
      go_ret
      exact ⟨retB HR.out.symm, Below.aft (y.below hB' hB'.size)⟩

set_option maxRecDepth 100000 in
set_option maxHeartbeats 1600000 in
theorem rfit_16 (wd v a b c : Int) (hw1 : 1 ≤ wd) (hw2 : wd ≤ 16) (a0 : 0 ≤ a) (a1 : a ≤ 16) (b0 : 0 ≤ b) (b1 : b ≤ 16) (B : Option Addr) (bc : Nat) (args : List Int) (hla : args.length = 1) (N : Option Addr) (capN : Nat) (ns : List Nd) (hns : ns.length ≤ 65536) (w : World) (hN : LiesN w N ns) (hB : LiesI w B args) (hW : Wid ns args [a]) :
    Calls Tryd.prog 103 #[.slice N ns.length capN, .agg #[.int .i64 16, .int .i64 wd, .slice B args.length bc, .int .i64 v]] w fun e w' => e = .returned (.bool (fitW 16 wd v a b c)) ∧ ∃ x : Aft w, w' = x.val := by
  obtain ⟨i0, hi, hz0, hz1, hz2⟩ := info_parts int_info
  have HLA := Lib.hid hla
  have HN := Lib.hid hN
  have HB := Lib.hid hB
  have HV := Lib.hid hW
  clear hN hB hW hla
  go_enter Tryd.func103, Tryd.ntmps103
  go_wp2_with fail
  have r0 : (w.alloc (.cells #[.int .i64 16, .int .i64 wd, .slice B args.length bc, .int .i64 v] 65)).heap[w.heap.size]? = some (.cells #[.int .i64 16, .int .i64 wd, .slice B args.length bc, .int .i64 v] 65) := heap_alloc_new _ _
  have hb0 : Below w.heap.size w (w.alloc (.cells #[.int .i64 16, .int .i64 wd, .slice B args.length bc, .int .i64 v] 65)) := (Below.refl _ _).alloc (Nat.le_refl _) _
  have z0 : w.heap.size < (w.alloc (.cells #[.int .i64 16, .int .i64 wd, .slice B args.length bc, .int .i64 v] 65)).heap.size := by simp
  generalize (w.alloc (.cells #[.int .i64 16, .int .i64 wd, .slice B args.length bc, .int .i64 v] 65)) = W0 at *
  have R0 := Lib.hid r0
  clear r0
  go_loopw [5, 6] (fun v5 v6 wr => ∃ j : Nat, j ≤ args.length ∧ v6 = .int .i64 j ∧ wr.ownsRow W0.heap.size 3 1 v5 j (([a].take j).map fun q => Value.int .i64 q) ∧ Below W0.heap.size W0 wr) (fun _ v6 _ => args.length - (intOf v6).toNat)
  case atStart => exact ⟨0, by omega, rfl, World.ownsRow_nil _ _ _ _, Below.refl _ _⟩
  case round =>
    obtain ⟨j, hj, rfl, hown, hb⟩ := hrel
    have hbs := hb.size
    have r0 : wr.heap[w.heap.size]? = some (.cells #[.int .i64 16, .int .i64 wd, .slice B args.length bc, .int .i64 v] 65) := by rw [hb.block _ z0]; exact R0.out
    have q0 := cell_block (i := 0) r0
    have q1 := cell_block (i := 1) r0
    have q2 := cell_block (i := 2) r0
    have q3 := cell_block (i := 3) r0
    simp at q0 q1 q2 q3
    have lw : w.heap.size < wr.heap.size := by omega
    have hB' : Below w.heap.size w wr := hb0.trans (hb.mono (by omega))
    by_cases hlt : j < args.length
    · obtain ⟨k, n, g1, g2, g3⟩ := HV.out j hlt
      obtain ⟨ad, rfl, hbk, hc⟩ := (HB.out.below hB').cell g1
      obtain ⟨an, rfl, hbn, _, h1, _⟩ := (HN.out.below hB').cells g2
      have hkl := (List.getElem?_eq_some_iff.1 g2).1
      have hkk : (k : Int) < ns.length := by omega
      have hjj : (j : Int) < args.length := by omega
      have hj3 : j < 4 := by have := HLA.out; omega
      have h1' : wr.cell? ⟨(an.add (k * 4)).block, (an.add (k * 4)).off + 1, none⟩ = some (.int .i64 n.wd) := h1
      have HS := Lib.hid (snoc_at g3)
      clear h1 g1 g2 g3 r0 q0 q1 q3 hbk hbn hb0
      generalize n.wd = X at *
      go_wp2_with (at_builtin; refine wpList_append_own _ rfl _ _ 22 rfl _ 3 i0 (.int .i64 0) 1 8 Tryd.underlying22 hi hz0 hz1 hz2 rfl (by decide) _ _ _ rfl (hown.alloc _) ⟨_, 0, none⟩ 1 1 [.int .i64 _] rfl rfl (cell_one_new _ _ _) (fun x hx => by simp at hx; subst hx; rfl) (by unfold maxLen; omega) (by omega) (by first | omega | (simp; omega) | (simp at *; omega)) ?_; intro v' w3 hown' hgrow3 hnn)
      go_wp2
      go_roundw
      case rel => exact ⟨j + 1, by omega, by go_num, by rw [← HS.out]; exact hown', (hb.alloc hbs (.cells #[.int .i64 X] 3)).grown hgrow3 (by simp; omega) (fun q hq => (hown.lt q hq).1)⟩
      case measure => simp [intOf]; omega
    · obtain rfl : j = args.length := by omega
      obtain ⟨g, cap, rfl, hg1, hg2⟩ := hown.form (by have := HLA.out; omega)
      have w0 : wr.cell? ⟨g, 0, none⟩ = some (.int .i64 a) := by
        have := hown.cells (g := g) rfl 0 (.int .i64 a) (by simp [HLA.out])
        rwa [Addr.add_lit, Nat.zero_add] at this
      have lg : g < wr.heap.size := by simpa using hg2
      have hla := HLA.out
      have hlm : (args.length : Int) = 1 := by omega
      clear hown hg1 hg2 r0 hb0 hb hla
      have HR := Lib.hid (show fitW 16 wd v a b c = (decide (a ≤ wd)) from rfl)
      go_wp2_with fail
      refine wp_region_aft (by kernel_rfl) (by kernel_rfl) ?_
      repeat (go_big_quiet_step (fail))
      refine wpQuiet_nil ?_
      intro y
      go_wp2
      go_ret
      exact ⟨retB HR.out.symm, Below.aft (y.below hB' hB'.size)⟩

set_option maxRecDepth 100000 in
set_option maxHeartbeats 1600000 in
theorem rfit_17 (wd v a b c : Int) (hw1 : 1 ≤ wd) (hw2 : wd ≤ 16) (a0 : 0 ≤ a) (a1 : a ≤ 16) (b0 : 0 ≤ b) (b1 : b ≤ 16) (B : Option Addr) (bc : Nat) (args : List Int) (hla : args.length = 2) (N : Option Addr) (capN : Nat) (ns : List Nd) (hns : ns.length ≤ 65536) (w : World) (hN : LiesN w N ns) (hB : LiesI w B args) (hW : Wid ns args [a, b]) :
    Calls Tryd.prog 103 #[.slice N ns.length capN, .agg #[.int .i64 17, .int .i64 wd, .slice B args.length bc, .int .i64 v]] w fun e w' => e = .returned (.bool (fitW 17 wd v a b c)) ∧ ∃ x : Aft w, w' = x.val := by
  obtain ⟨i0, hi, hz0, hz1, hz2⟩ := info_parts int_info
  have HLA := Lib.hid hla
  have HN := Lib.hid hN
  have HB := Lib.hid hB
  have HV := Lib.hid hW
  clear hN hB hW hla
  go_enter Tryd.func103, Tryd.ntmps103
  go_wp2_with fail
  have r0 : (w.alloc (.cells #[.int .i64 17, .int .i64 wd, .slice B args.length bc, .int .i64 v] 65)).heap[w.heap.size]? = some (.cells #[.int .i64 17, .int .i64 wd, .slice B args.length bc, .int .i64 v] 65) := heap_alloc_new _ _
  have hb0 : Below w.heap.size w (w.alloc (.cells #[.int .i64 17, .int .i64 wd, .slice B args.length bc, .int .i64 v] 65)) := (Below.refl _ _).alloc (Nat.le_refl _) _
  have z0 : w.heap.size < (w.alloc (.cells #[.int .i64 17, .int .i64 wd, .slice B args.length bc, .int .i64 v] 65)).heap.size := by simp
  generalize (w.alloc (.cells #[.int .i64 17, .int .i64 wd, .slice B args.length bc, .int .i64 v] 65)) = W0 at *
  have R0 := Lib.hid r0
  clear r0
  go_loopw [5, 6] (fun v5 v6 wr => ∃ j : Nat, j ≤ args.length ∧ v6 = .int .i64 j ∧ wr.ownsRow W0.heap.size 3 1 v5 j (([a, b].take j).map fun q => Value.int .i64 q) ∧ Below W0.heap.size W0 wr) (fun _ v6 _ => args.length - (intOf v6).toNat)
  case atStart => exact ⟨0, by omega, rfl, World.ownsRow_nil _ _ _ _, Below.refl _ _⟩
  case round =>
    obtain ⟨j, hj, rfl, hown, hb⟩ := hrel
    have hbs := hb.size
    have r0 : wr.heap[w.heap.size]? = some (.cells #[.int .i64 17, .int .i64 wd, .slice B args.length bc, .int .i64 v] 65) := by rw [hb.block _ z0]; exact R0.out
    have q0 := cell_block (i := 0) r0
    have q1 := cell_block (i := 1) r0
    have q2 := cell_block (i := 2) r0
    have q3 := cell_block (i := 3) r0
    simp at q0 q1 q2 q3
    have lw : w.heap.size < wr.heap.size := by omega
    have hB' : Below w.heap.size w wr := hb0.trans (hb.mono (by omega))
    by_cases hlt : j < args.length
    · obtain ⟨k, n, g1, g2, g3⟩ := HV.out j hlt
      obtain ⟨ad, rfl, hbk, hc⟩ := (HB.out.below hB').cell g1
      obtain ⟨an, rfl, hbn, _, h1, _⟩ := (HN.out.below hB').cells g2
      have hkl := (List.getElem?_eq_some_iff.1 g2).1
      have hkk : (k : Int) < ns.length := by omega
      have hjj : (j : Int) < args.length := by omega
      have hj3 : j < 4 := by have := HLA.out; omega
      have h1' : wr.cell? ⟨(an.add (k * 4)).block, (an.add (k * 4)).off + 1, none⟩ = some (.int .i64 n.wd) := h1
      have HS := Lib.hid (snoc_at g3)
      clear h1 g1 g2 g3 r0 q0 q1 q3 hbk hbn hb0
      generalize n.wd = X at *
      go_wp2_with (at_builtin; refine wpList_append_own _ rfl _ _ 22 rfl _ 3 i0 (.int .i64 0) 1 8 Tryd.underlying22 hi hz0 hz1 hz2 rfl (by decide) _ _ _ rfl (hown.alloc _) ⟨_, 0, none⟩ 1 1 [.int .i64 _] rfl rfl (cell_one_new _ _ _) (fun x hx => by simp at hx; subst hx; rfl) (by unfold maxLen; omega) (by omega) (by first | omega | (simp; omega) | (simp at *; omega)) ?_; intro v' w3 hown' hgrow3 hnn)
      go_wp2
      go_roundw
      case rel => exact ⟨j + 1, by omega, by go_num, by rw [← HS.out]; exact hown', (hb.alloc hbs (.cells #[.int .i64 X] 3)).grown hgrow3 (by simp; omega) (fun q hq => (hown.lt q hq).1)⟩
      case measure => simp [intOf]; omega
    · obtain rfl : j = args.length := by omega
      obtain ⟨g, cap, rfl, hg1, hg2⟩ := hown.form (by have := HLA.out; omega)
      have w0 : wr.cell? ⟨g, 0, none⟩ = some (.int .i64 a) := by
        have := hown.cells (g := g) rfl 0 (.int .i64 a) (by simp [HLA.out])
        rwa [Addr.add_lit, Nat.zero_add] at this
      have w1 : wr.cell? ⟨g, 1, none⟩ = some (.int .i64 b) := by
        have := hown.cells (g := g) rfl 1 (.int .i64 b) (by simp [HLA.out])
        rwa [Addr.add_lit, Nat.zero_add] at this
      have lg : g < wr.heap.size := by simpa using hg2
      have hla := HLA.out
      have hlm : (args.length : Int) = 2 := by omega
      clear hown hg1 hg2 r0 hb0 hb hla
      have HR := Lib.hid (show fitW 17 wd v a b c = (a == wd) from rfl)
      go_wp2_with fail
      refine wp_region_aft (by kernel_rfl) (by kernel_rfl) ?_
      repeat (go_big_quiet_step (fail))
      refine wpQuiet_nil ?_
      intro y
      go_wp2
      go_ret
      exact ⟨retB HR.out.symm, Below.aft (y.below hB' hB'.size)⟩

set_option maxRecDepth 100000 in
set_option maxHeartbeats 1600000 in
theorem rfit_18 (wd v a b c : Int) (hw1 : 1 ≤ wd) (hw2 : wd ≤ 16) (a0 : 0 ≤ a) (a1 : a ≤ 16) (b0 : 0 ≤ b) (b1 : b ≤ 16) (B : Option Addr) (bc : Nat) (args : List Int) (hla : args.length = 2) (N : Option Addr) (capN : Nat) (ns : List Nd) (hns : ns.length ≤ 65536) (w : World) (hN : LiesN w N ns) (hB : LiesI w B args) (hW : Wid ns args [a, b]) :
    Calls Tryd.prog 103 #[.slice N ns.length capN, .agg #[.int .i64 18, .int .i64 wd, .slice B args.length bc, .int .i64 v]] w fun e w' => e = .returned (.bool (fitW 18 wd v a b c)) ∧ ∃ x : Aft w, w' = x.val := by
  obtain ⟨i0, hi, hz0, hz1, hz2⟩ := info_parts int_info
  have HLA := Lib.hid hla
  have HN := Lib.hid hN
  have HB := Lib.hid hB
  have HV := Lib.hid hW
  clear hN hB hW hla
  go_enter Tryd.func103, Tryd.ntmps103
  go_wp2_with fail
  have r0 : (w.alloc (.cells #[.int .i64 18, .int .i64 wd, .slice B args.length bc, .int .i64 v] 65)).heap[w.heap.size]? = some (.cells #[.int .i64 18, .int .i64 wd, .slice B args.length bc, .int .i64 v] 65) := heap_alloc_new _ _
  have hb0 : Below w.heap.size w (w.alloc (.cells #[.int .i64 18, .int .i64 wd, .slice B args.length bc, .int .i64 v] 65)) := (Below.refl _ _).alloc (Nat.le_refl _) _
  have z0 : w.heap.size < (w.alloc (.cells #[.int .i64 18, .int .i64 wd, .slice B args.length bc, .int .i64 v] 65)).heap.size := by simp
  generalize (w.alloc (.cells #[.int .i64 18, .int .i64 wd, .slice B args.length bc, .int .i64 v] 65)) = W0 at *
  have R0 := Lib.hid r0
  clear r0
  go_loopw [5, 6] (fun v5 v6 wr => ∃ j : Nat, j ≤ args.length ∧ v6 = .int .i64 j ∧ wr.ownsRow W0.heap.size 3 1 v5 j (([a, b].take j).map fun q => Value.int .i64 q) ∧ Below W0.heap.size W0 wr) (fun _ v6 _ => args.length - (intOf v6).toNat)
  case atStart => exact ⟨0, by omega, rfl, World.ownsRow_nil _ _ _ _, Below.refl _ _⟩
  case round =>
    obtain ⟨j, hj, rfl, hown, hb⟩ := hrel
    have hbs := hb.size
    have r0 : wr.heap[w.heap.size]? = some (.cells #[.int .i64 18, .int .i64 wd, .slice B args.length bc, .int .i64 v] 65) := by rw [hb.block _ z0]; exact R0.out
    have q0 := cell_block (i := 0) r0
    have q1 := cell_block (i := 1) r0
    have q2 := cell_block (i := 2) r0
    have q3 := cell_block (i := 3) r0
    simp at q0 q1 q2 q3
    have lw : w.heap.size < wr.heap.size := by omega
    have hB' : Below w.heap.size w wr := hb0.trans (hb.mono (by omega))
    by_cases hlt : j < args.length
    · obtain ⟨k, n, g1, g2, g3⟩ := HV.out j hlt
      obtain ⟨ad, rfl, hbk, hc⟩ := (HB.out.below hB').cell g1
      obtain ⟨an, rfl, hbn, _, h1, _⟩ := (HN.out.below hB').cells g2
      have hkl := (List.getElem?_eq_some_iff.1 g2).1
      have hkk : (k : Int) < ns.length := by omega
      have hjj : (j : Int) < args.length := by omega
      have hj3 : j < 4 := by have := HLA.out; omega
      have h1' : wr.cell? ⟨(an.add (k * 4)).block, (an.add (k * 4)).off + 1, none⟩ = some (.int .i64 n.wd) := h1
      have HS := Lib.hid (snoc_at g3)
      clear h1 g1 g2 g3 r0 q0 q1 q3 hbk hbn hb0
      generalize n.wd = X at *
      go_wp2_with (at_builtin; refine wpList_append_own _ rfl _ _ 22 rfl _ 3 i0 (.int .i64 0) 1 8 Tryd.underlying22 hi hz0 hz1 hz2 rfl (by decide) _ _ _ rfl (hown.alloc _) ⟨_, 0, none⟩ 1 1 [.int .i64 _] rfl rfl (cell_one_new _ _ _) (fun x hx => by simp at hx; subst hx; rfl) (by unfold maxLen; omega) (by omega) (by first | omega | (simp; omega) | (simp at *; omega)) ?_; intro v' w3 hown' hgrow3 hnn)
      go_wp2
      go_roundw
      case rel => exact ⟨j + 1, by omega, by go_num, by rw [← HS.out]; exact hown', (hb.alloc hbs (.cells #[.int .i64 X] 3)).grown hgrow3 (by simp; omega) (fun q hq => (hown.lt q hq).1)⟩
      case measure => simp [intOf]; omega
    · obtain rfl : j = args.length := by omega
      obtain ⟨g, cap, rfl, hg1, hg2⟩ := hown.form (by have := HLA.out; omega)
      have w0 : wr.cell? ⟨g, 0, none⟩ = some (.int .i64 a) := by
        have := hown.cells (g := g) rfl 0 (.int .i64 a) (by simp [HLA.out])
        rwa [Addr.add_lit, Nat.zero_add] at this
      have w1 : wr.cell? ⟨g, 1, none⟩ = some (.int .i64 b) := by
        have := hown.cells (g := g) rfl 1 (.int .i64 b) (by simp [HLA.out])
        rwa [Addr.add_lit, Nat.zero_add] at this
      have lg : g < wr.heap.size := by simpa using hg2
      have hla := HLA.out
      have hlm : (args.length : Int) = 2 := by omega
      clear hown hg1 hg2 r0 hb0 hb hla
      have HR := Lib.hid (show fitW 18 wd v a b c = (a == wd) from rfl)
      go_wp2_with fail
      refine wp_region_aft (by kernel_rfl) (by kernel_rfl) ?_
      repeat (go_big_quiet_step (fail))
      refine wpQuiet_nil ?_
      intro y
      go_wp2
      go_ret
      exact ⟨retB HR.out.symm, Below.aft (y.below hB' hB'.size)⟩

end Go.Proofs.YtkdonapgonegkaaDoor

set_option linter.unusedSimpArgs false
set_option linter.unusedVariables false
namespace Go.Proofs.YtkdonapgonegkaaDoor
open Go.RowKit Go.BigFrame

theorem wAt_bd {before : List Nd} {args : List Int} (hv : ∀ n ∈ before, isW n.wd = true) (j : Nat) : 0 ≤ wAt before args j ∧ wAt before args j ≤ 16 := by
  unfold wAt
  split
  · decide
  · split
    · decide
    · rename_i n hn
      have := isW_iff.1 (hv n (List.mem_of_getElem? hn))
      omega
theorem take_at {ns : List Nd} {i k : Nat} {n : Nd} (h : (ns.take i)[k]? = some n) : ns[k]? = some n := by
  rw [List.getElem?_take] at h
  split at h
  · exact h
  · cases h
theorem Wid_of {ns : List Nd} {i : Nat} {args : List Int} (h : ∀ x ∈ args, isIx x (ns.take i).length = true) (j : Nat) (hj : j < args.length) : ∃ (k : Nat) (n : Nd), args[j]? = some (k : Int) ∧ ns[k]? = some n ∧ wAt (ns.take i) args j = n.wd := by
  have e := List.getElem?_eq_getElem hj
  obtain ⟨k, n, e2, g⟩ := idx_nat (h args[j] (List.getElem_mem hj))
  rw [e2] at e
  exact ⟨k, n, e, take_at g, wAt_in e g⟩
theorem Wid1 {ns : List Nd} {i : Nat} {args : List Int} (h : ∀ x ∈ args, isIx x (ns.take i).length = true) (hl : args.length = 1) : Wid ns args [wAt (ns.take i) args 0] := fun j hj => by
  obtain rfl : j = 0 := by omega
  obtain ⟨k, n, a, b, c⟩ := Wid_of h 0 hj
  exact ⟨k, n, a, b, by rw [c]; rfl⟩
theorem Wid2 {ns : List Nd} {i : Nat} {args : List Int} (h : ∀ x ∈ args, isIx x (ns.take i).length = true) (hl : args.length = 2) : Wid ns args [wAt (ns.take i) args 0, wAt (ns.take i) args 1] := fun j hj => by
  obtain ⟨k, n, a, b, c⟩ := Wid_of h j hj
  have hc : j = 0 ∨ j = 1 := by omega
  rcases hc with rfl | rfl
  all_goals exact ⟨k, n, a, b, by rw [← c]; rfl⟩
theorem Wid3 {ns : List Nd} {i : Nat} {args : List Int} (h : ∀ x ∈ args, isIx x (ns.take i).length = true) (hl : args.length = 3) : Wid ns args [wAt (ns.take i) args 0, wAt (ns.take i) args 1, wAt (ns.take i) args 2] := fun j hj => by
  obtain ⟨k, n, a, b, c⟩ := Wid_of h j hj
  have hc : j = 0 ∨ j = 1 ∨ j = 2 := by omega
  rcases hc with rfl | rfl | rfl
  all_goals exact ⟨k, n, a, b, by rw [← c]; rfl⟩

theorem rwidthsFit_c (op wd v : Int) (ho : 2 ≤ op) (ho2 : op ≤ 18) (hw1 : 1 ≤ wd) (hw2 : wd ≤ 16) (hv : op = 14 → 0 ≤ v ∧ v ≤ 15) (B : Option Addr) (bc : Nat) (args : List Int) (hla : (args.length : Int) = argN op) (N : Option Addr) (capN : Nat) (ns : List Nd) (hns : ns.length ≤ 65536) (i : Nat) (hb : ∀ n ∈ ns.take i, isW n.wd = true) (hx : ∀ x ∈ args, isIx x (ns.take i).length = true) (w : World) (hN : LiesN w N ns) (hB : LiesI w B args) :
    Calls Tryd.prog 103 #[.slice N ns.length capN, .agg #[.int .i64 op, .int .i64 wd, .slice B args.length bc, .int .i64 v]] w fun e w' => e = .returned (.bool (fitW op wd v (wAt (ns.take i) args 0) (wAt (ns.take i) args 1) (wAt (ns.take i) args 2))) ∧ ∃ x : Aft w, w' = x.val := by
  obtain ⟨a0, a1⟩ := wAt_bd (args := args) hb 0
  obtain ⟨b0, b1⟩ := wAt_bd (args := args) hb 1
  have hcase : op = 2 ∨ op = 3 ∨ op = 4 ∨ op = 5 ∨ op = 6 ∨ op = 7 ∨ op = 8 ∨ op = 9 ∨ op = 10 ∨ op = 11 ∨ op = 12 ∨ op = 13 ∨ op = 14 ∨ op = 15 ∨ op = 16 ∨ op = 17 ∨ op = 18 := by omega
  rcases hcase with rfl | rfl | rfl | rfl | rfl | rfl | rfl | rfl | rfl | rfl | rfl | rfl | rfl | rfl | rfl | rfl | rfl
  · have hl : (args.length : Int) = 1 := hla
    have hl' : args.length = 1 := by omega
    exact rfit_2 wd v _ _ _ hw1 hw2 a0 a1 b0 b1 B bc args hl' N capN ns hns w hN hB (Wid1 hx hl')
  · have hl : (args.length : Int) = 2 := hla
    have hl' : args.length = 2 := by omega
    exact rfit_3 wd v _ _ _ hw1 hw2 a0 a1 b0 b1 B bc args hl' N capN ns hns w hN hB (Wid2 hx hl')
  · have hl : (args.length : Int) = 2 := hla
    have hl' : args.length = 2 := by omega
    exact rfit_4 wd v _ _ _ hw1 hw2 a0 a1 b0 b1 B bc args hl' N capN ns hns w hN hB (Wid2 hx hl')
  · have hl : (args.length : Int) = 2 := hla
    have hl' : args.length = 2 := by omega
    exact rfit_5 wd v _ _ _ hw1 hw2 a0 a1 b0 b1 B bc args hl' N capN ns hns w hN hB (Wid2 hx hl')
  · have hl : (args.length : Int) = 2 := hla
    have hl' : args.length = 2 := by omega
    exact rfit_6 wd v _ _ _ hw1 hw2 a0 a1 b0 b1 B bc args hl' N capN ns hns w hN hB (Wid2 hx hl')
  · have hl : (args.length : Int) = 2 := hla
    have hl' : args.length = 2 := by omega
    exact rfit_7 wd v _ _ _ hw1 hw2 a0 a1 b0 b1 B bc args hl' N capN ns hns w hN hB (Wid2 hx hl')
  · have hl : (args.length : Int) = 2 := hla
    have hl' : args.length = 2 := by omega
    exact rfit_8 wd v _ _ _ hw1 hw2 a0 a1 b0 b1 B bc args hl' N capN ns hns w hN hB (Wid2 hx hl')
  · have hl : (args.length : Int) = 2 := hla
    have hl' : args.length = 2 := by omega
    exact rfit_9 wd v _ _ _ hw1 hw2 a0 a1 b0 b1 B bc args hl' N capN ns hns w hN hB (Wid2 hx hl')
  · have hl : (args.length : Int) = 2 := hla
    have hl' : args.length = 2 := by omega
    exact rfit_10 wd v _ _ _ hw1 hw2 a0 a1 b0 b1 B bc args hl' N capN ns hns w hN hB (Wid2 hx hl')
  · have hl : (args.length : Int) = 2 := hla
    have hl' : args.length = 2 := by omega
    exact rfit_11 wd v _ _ _ hw1 hw2 a0 a1 b0 b1 B bc args hl' N capN ns hns w hN hB (Wid2 hx hl')
  · have hl : (args.length : Int) = 3 := hla
    have hl' : args.length = 3 := by omega
    exact rfit_12 wd v _ _ _ hw1 hw2 a0 a1 b0 b1 B bc args hl' N capN ns hns w hN hB (Wid3 hx hl')
  · have hl : (args.length : Int) = 2 := hla
    have hl' : args.length = 2 := by omega
    exact rfit_13 wd v _ _ _ hw1 hw2 a0 a1 b0 b1 B bc args hl' N capN ns hns w hN hB (Wid2 hx hl')
  · have hl : (args.length : Int) = 1 := hla
    have hl' : args.length = 1 := by omega
    exact rfit_14 wd v _ _ _ hw1 hw2 a0 a1 b0 b1 (hv rfl).1 (hv rfl).2 B bc args hl' N capN ns hns w hN hB (Wid1 hx hl')
  · have hl : (args.length : Int) = 1 := hla
    have hl' : args.length = 1 := by omega
    exact rfit_15 wd v _ _ _ hw1 hw2 a0 a1 b0 b1 B bc args hl' N capN ns hns w hN hB (Wid1 hx hl')
  · have hl : (args.length : Int) = 1 := hla
    have hl' : args.length = 1 := by omega
    exact rfit_16 wd v _ _ _ hw1 hw2 a0 a1 b0 b1 B bc args hl' N capN ns hns w hN hB (Wid1 hx hl')
  · have hl : (args.length : Int) = 2 := hla
    have hl' : args.length = 2 := by omega
    exact rfit_17 wd v _ _ _ hw1 hw2 a0 a1 b0 b1 B bc args hl' N capN ns hns w hN hB (Wid2 hx hl')
  · have hl : (args.length : Int) = 2 := hla
    have hl' : args.length = 2 := by omega
    exact rfit_18 wd v _ _ _ hw1 hw2 a0 a1 b0 b1 B bc args hl' N capN ns hns w hN hB (Wid2 hx hl')

theorem nodeR_10 {ls : List Int} {before : List Nd} {op wd v : Int} {args : List Int} (h1 : isIx op 19 = true) (h2 : isW wd = true) (h3 : ¬ (args.length : Int) = argN op) : nodeE ls before ⟨op, wd, args, v⟩ = 10 := by
  have k : ((args.length : Int) != argN op) = true := by simpa using h3
  have e : node3 ls before ⟨op, wd, args, v⟩ = 10 := by unfold node3; simp only; rw [k]; rfl
  rw [nodeE_3 (n := ⟨op, wd, args, v⟩) h1 h2 (by rw [e]; decide), e]
theorem node3_len {ls : List Int} {before : List Nd} {op wd v : Int} {args : List Int} (h3 : (args.length : Int) = argN op) : node3 ls before ⟨op, wd, args, v⟩ = firstE [argsE args before.length 9, numE ls op wd v] := by
  have k : ((args.length : Int) != argN op) = false := by simpa using h3
  unfold node3; simp only; rw [k]; rfl
theorem nodeR_9 {ls : List Int} {before : List Nd} {op wd v : Int} {args : List Int} (h1 : isIx op 19 = true) (h2 : isW wd = true) (h3 : (args.length : Int) = argN op) {x : Int} (hx : x ∈ args) (h4 : isIx x before.length = false) : nodeE ls before ⟨op, wd, args, v⟩ = 9 := by
  have k : argsE args before.length 9 = 9 := by
    unfold argsE
    rw [if_neg]
    intro h
    have := List.all_eq_true.1 h x hx
    rw [h4] at this; cases this
  have e : node3 ls before ⟨op, wd, args, v⟩ = 9 := by rw [node3_len h3, k]; rfl
  rw [nodeE_3 (n := ⟨op, wd, args, v⟩) h1 h2 (by rw [e]; decide), e]
theorem node3_num {ls : List Int} {before : List Nd} {op wd v : Int} {args : List Int} (h3 : (args.length : Int) = argN op) (h4 : ∀ x ∈ args, isIx x before.length = true) : node3 ls before ⟨op, wd, args, v⟩ = numE ls op wd v := by
  have k : argsE args before.length 9 = 0 := by unfold argsE; rw [if_pos (List.all_eq_true.2 h4)]
  rw [node3_len h3, k, firstE_cons, if_pos rfl, firstE_one]
theorem nodeR_n {ls : List Int} {before : List Nd} {op wd v : Int} {args : List Int} (h1 : isIx op 19 = true) (h2 : isW wd = true) (h3 : (args.length : Int) = argN op) (h4 : ∀ x ∈ args, isIx x before.length = true) {c : Int} (h5 : numE ls op wd v = c) (h6 : ¬ c = 0) : nodeE ls before ⟨op, wd, args, v⟩ = c := by
  have e := node3_num (ls := ls) (before := before) (wd := wd) (v := v) h3 h4
  rw [nodeE_3 (n := ⟨op, wd, args, v⟩) h1 h2 (by rw [e, h5]; exact h6), e, h5]
theorem nodeR_0 {ls : List Int} {before : List Nd} {op wd v : Int} {args : List Int} (h1 : isIx op 19 = true) (h2 : isW wd = true) (h3 : (args.length : Int) = argN op) (h4 : ∀ x ∈ args, isIx x before.length = true) (h5 : numE ls op wd v = 0) : nodeE ls before ⟨op, wd, args, v⟩ = eIf (!fitW op wd v (wAt before args 0) (wAt before args 1) (wAt before args 2)) 25 :=
  nodeE_4 (n := ⟨op, wd, args, v⟩) h1 h2 ((node3_num h3 h4).trans h5)

set_option maxRecDepth 100000 in
set_option maxHeartbeats 1600000 in
theorem nodeErr_15 (A : Option Addr) (cap : Nat) (ls : List Int) (hls : ls.length ≤ 65536) (ad : Addr) (capN : Nat) (ns : List Nd) (hns : ns.length ≤ 65536) (i : Nat) (op wd v : Int) (args : List Int) (hla : args.length ≤ 65536) (hi : ns[i]? = some ⟨op, wd, args, v⟩) (w : World) (hA : LiesI w A ls) (hN : LiesN w (some ad) ns) (h1 : isIx op 19 = false) :
    Calls Tryd.prog 84 #[.slice A ls.length cap, .slice (some ad) ns.length capN, .int .i64 i] w fun e w' => e = .returned (.int .i64 (nodeE ls (ns.take i) ⟨op, wd, args, v⟩)) ∧ ∃ x : Aft w, w' = x.val := by
  obtain ⟨ad', had, hbk, c0, c1, c3, B, bc, c2, hB⟩ := hN.cells hi
  obtain rfl : ad = ad' := Option.some.inj had
  have hil := (List.getElem?_eq_some_iff.1 hi).1
  have hik : (i : Int) < ns.length := by omega
  have c1' : w.cell? ⟨(ad.add (i * 4)).block, (ad.add (i * 4)).off + 1, none⟩ = some (.int .i64 wd) := c1
  have c2' : w.cell? ⟨(ad.add (i * 4)).block, (ad.add (i * 4)).off + 2, none⟩ = some (.slice B args.length bc) := c2
  have c3' : w.cell? ⟨(ad.add (i * 4)).block, (ad.add (i * 4)).off + 3, none⟩ = some (.int .i64 v) := c3
  have hlk : (ns.take i).length = i := by simp; omega
  clear c1 c2 c3 had
  have HR := Lib.hid (nodeE_15 (ls := ls) (before := ns.take i) (n := ⟨op, wd, args, v⟩) h1)
  have HI := Lib.hid (fun w => by have k := Within_c op 0 18 w; rw [show win op 0 18 = false by rw [← h1]; exact (isIx_win op 19).symm] at k; exact k)
  clear hA hN hB h1 hi hlk
  go_enter Tryd.func84, Tryd.ntmps84
  go_wp2_with (first | (go_at_call 31; ((with_reducible refine (HI.out _).mono ?_); rintro e w' ⟨rfl, rfl⟩)))
  go_ret
  exact ⟨retI HR.out.symm, Below.aft (by (repeat' (first | (with_reducible exact Below.refl _ _) | (with_reducible assumption) | (with_reducible refine Below.alloc ?_ ?_ _) | (with_reducible refine Below.drew ?_) | (with_reducible refine Aft.below _ ?_ ?_) | (with_reducible refine Below.setCell_new ?_ ?_ _ _) | (with_reducible exact Nat.le_refl _) | (with_reducible refine Aft.le _ ?_) | (with_reducible refine le_alloc ?_) | (with_reducible refine le_drew ?_) | (with_reducible refine le_setCell ?_) | omega)))⟩

set_option maxRecDepth 100000 in
set_option maxHeartbeats 1600000 in
theorem nodeErr_2 (A : Option Addr) (cap : Nat) (ls : List Int) (hls : ls.length ≤ 65536) (ad : Addr) (capN : Nat) (ns : List Nd) (hns : ns.length ≤ 65536) (i : Nat) (op wd v : Int) (args : List Int) (hla : args.length ≤ 65536) (hi : ns[i]? = some ⟨op, wd, args, v⟩) (w : World) (hA : LiesI w A ls) (hN : LiesN w (some ad) ns) (h1 : isIx op 19 = true) (h2 : isW wd = false) :
    Calls Tryd.prog 84 #[.slice A ls.length cap, .slice (some ad) ns.length capN, .int .i64 i] w fun e w' => e = .returned (.int .i64 (nodeE ls (ns.take i) ⟨op, wd, args, v⟩)) ∧ ∃ x : Aft w, w' = x.val := by
  obtain ⟨ad', had, hbk, c0, c1, c3, B, bc, c2, hB⟩ := hN.cells hi
  obtain rfl : ad = ad' := Option.some.inj had
  have hil := (List.getElem?_eq_some_iff.1 hi).1
  have hik : (i : Int) < ns.length := by omega
  have c1' : w.cell? ⟨(ad.add (i * 4)).block, (ad.add (i * 4)).off + 1, none⟩ = some (.int .i64 wd) := c1
  have c2' : w.cell? ⟨(ad.add (i * 4)).block, (ad.add (i * 4)).off + 2, none⟩ = some (.slice B args.length bc) := c2
  have c3' : w.cell? ⟨(ad.add (i * 4)).block, (ad.add (i * 4)).off + 3, none⟩ = some (.int .i64 v) := c3
  have hlk : (ns.take i).length = i := by simp; omega
  clear c1 c2 c3 had
  have HR := Lib.hid (nodeE_2 (ls := ls) (before := ns.take i) (n := ⟨op, wd, args, v⟩) h1 h2)
  have HI := Lib.hid (fun w => by have k := Within_c op 0 18 w; rw [show win op 0 18 = true by rw [← h1]; exact (isIx_win op 19).symm] at k; exact k)
  have HW := Lib.hid (fun w => by have k := IsWidth_c wd w; rw [h2] at k; exact k)
  clear hA hN hB h1 h2 hi hlk
  go_enter Tryd.func84, Tryd.ntmps84
  go_wp2_with (first | (go_at_call 31; ((with_reducible refine (HI.out _).mono ?_); rintro e w' ⟨rfl, rfl⟩)) | (go_at_call 52; ((with_reducible refine (HW.out _).mono ?_); rintro e w' ⟨rfl, rfl⟩)))
  go_ret
  exact ⟨retI HR.out.symm, Below.aft (by (repeat' (first | (with_reducible exact Below.refl _ _) | (with_reducible assumption) | (with_reducible refine Below.alloc ?_ ?_ _) | (with_reducible refine Below.drew ?_) | (with_reducible refine Aft.below _ ?_ ?_) | (with_reducible refine Below.setCell_new ?_ ?_ _ _) | (with_reducible exact Nat.le_refl _) | (with_reducible refine Aft.le _ ?_) | (with_reducible refine le_alloc ?_) | (with_reducible refine le_drew ?_) | (with_reducible refine le_setCell ?_) | omega)))⟩

set_option maxRecDepth 100000 in
set_option maxHeartbeats 1600000 in
theorem nodeErr_10 (A : Option Addr) (cap : Nat) (ls : List Int) (hls : ls.length ≤ 65536) (ad : Addr) (capN : Nat) (ns : List Nd) (hns : ns.length ≤ 65536) (i : Nat) (op wd v : Int) (args : List Int) (hla : args.length ≤ 65536) (hi : ns[i]? = some ⟨op, wd, args, v⟩) (w : World) (hA : LiesI w A ls) (hN : LiesN w (some ad) ns) (h1 : isIx op 19 = true) (h2 : isW wd = true) (h3 : ¬ (args.length : Int) = argN op) :
    Calls Tryd.prog 84 #[.slice A ls.length cap, .slice (some ad) ns.length capN, .int .i64 i] w fun e w' => e = .returned (.int .i64 (nodeE ls (ns.take i) ⟨op, wd, args, v⟩)) ∧ ∃ x : Aft w, w' = x.val := by
  obtain ⟨ad', had, hbk, c0, c1, c3, B, bc, c2, hB⟩ := hN.cells hi
  obtain rfl : ad = ad' := Option.some.inj had
  have hil := (List.getElem?_eq_some_iff.1 hi).1
  have hik : (i : Int) < ns.length := by omega
  have c1' : w.cell? ⟨(ad.add (i * 4)).block, (ad.add (i * 4)).off + 1, none⟩ = some (.int .i64 wd) := c1
  have c2' : w.cell? ⟨(ad.add (i * 4)).block, (ad.add (i * 4)).off + 2, none⟩ = some (.slice B args.length bc) := c2
  have c3' : w.cell? ⟨(ad.add (i * 4)).block, (ad.add (i * 4)).off + 3, none⟩ = some (.int .i64 v) := c3
  have hlk : (ns.take i).length = i := by simp; omega
  clear c1 c2 c3 had
  have HR := Lib.hid (nodeR_10 (ls := ls) (before := ns.take i) (v := v) h1 h2 h3)
  have HI := Lib.hid (fun w => by have k := Within_c op 0 18 w; rw [show win op 0 18 = true by rw [← h1]; exact (isIx_win op 19).symm] at k; exact k)
  have HW := Lib.hid (fun w => by have k := IsWidth_c wd w; rw [h2] at k; exact k)
  have n3 : ((args.length : Int) == argN op) = false := by simpa using h3
  clear hA hN hB h1 h2 hi hlk h3
  go_enter Tryd.func84, Tryd.ntmps84
  go_wp2_with (first | (go_at_call 31; ((with_reducible refine (HI.out _).mono ?_); rintro e w' ⟨rfl, rfl⟩)) | (go_at_call 52; ((with_reducible refine (HW.out _).mono ?_); rintro e w' ⟨rfl, rfl⟩)))
  have r0 : (w.alloc (.cells #[.int .i64 op, .int .i64 wd, .slice B args.length bc, .int .i64 v] 65)).heap[w.heap.size]? = some (.cells #[.int .i64 op, .int .i64 wd, .slice B args.length bc, .int .i64 v] 65) := heap_alloc_new _ _
  have z0 : w.heap.size < (w.alloc (.cells #[.int .i64 op, .int .i64 wd, .slice B args.length bc, .int .i64 v] 65)).heap.size := by simp
  have hb0 : Below w.heap.size w (w.alloc (.cells #[.int .i64 op, .int .i64 wd, .slice B args.length bc, .int .i64 v] 65)) := (Below.refl _ _).alloc (Nat.le_refl _) _
  generalize (w.alloc (.cells #[.int .i64 op, .int .i64 wd, .slice B args.length bc, .int .i64 v] 65)) = W0 at *
  have q0 := cell_block (i := 0) r0
  have q1 := cell_block (i := 1) r0
  have q2 := cell_block (i := 2) r0
  have q3 := cell_block (i := 3) r0
  simp at q0 q1 q2 q3
  refine wp_region_aft (by kernel_rfl) (by kernel_rfl) ?_
  repeat (go_big_quiet_step ((go_at_call 102; exact Calls.qs (ArgCount_c _ _))))
  refine wpQuiet_nil ?_
  intro y
  go_wp2
  go_ret
  exact ⟨retI HR.out.symm, Below.aft (y.below hb0 hb0.size)⟩

theorem isIx_w {x : Int} {i : Nat} : win x 0 ((i : Int) - 1) = isIx x i := (isIx_win x i).symm

set_option maxRecDepth 100000 in
set_option maxHeartbeats 1600000 in
theorem nodeErr_9 (A : Option Addr) (cap : Nat) (ls : List Int) (hls : ls.length ≤ 65536) (ad : Addr) (capN : Nat) (ns : List Nd) (hns : ns.length ≤ 65536) (i : Nat) (op wd v : Int) (args : List Int) (hla : args.length ≤ 65536) (hi : ns[i]? = some ⟨op, wd, args, v⟩) (w : World) (hA : LiesI w A ls) (hN : LiesN w (some ad) ns) (h1 : isIx op 19 = true) (h2 : isW wd = true) (h3 : (args.length : Int) = argN op) (h4 : ¬ ∀ x ∈ args, isIx x (ns.take i).length = true) :
    Calls Tryd.prog 84 #[.slice A ls.length cap, .slice (some ad) ns.length capN, .int .i64 i] w fun e w' => e = .returned (.int .i64 (nodeE ls (ns.take i) ⟨op, wd, args, v⟩)) ∧ ∃ x : Aft w, w' = x.val := by
  obtain ⟨ad', had, hbk, c0, c1, c3, B, bc, c2, hB⟩ := hN.cells hi
  obtain rfl : ad = ad' := Option.some.inj had
  have hil := (List.getElem?_eq_some_iff.1 hi).1
  have hik : (i : Int) < ns.length := by omega
  have c1' : w.cell? ⟨(ad.add (i * 4)).block, (ad.add (i * 4)).off + 1, none⟩ = some (.int .i64 wd) := c1
  have c2' : w.cell? ⟨(ad.add (i * 4)).block, (ad.add (i * 4)).off + 2, none⟩ = some (.slice B args.length bc) := c2
  have c3' : w.cell? ⟨(ad.add (i * 4)).block, (ad.add (i * 4)).off + 3, none⟩ = some (.int .i64 v) := c3
  have hlk : (ns.take i).length = i := by simp; omega
  clear c1 c2 c3 had
  rw [hlk] at h4
  have HR := Lib.hid (fun x (hx : x ∈ args) (hb : isIx x i = false) => nodeR_9 (ls := ls) (before := ns.take i) (v := v) h1 h2 h3 hx (by rw [hlk]; exact hb))
  have HI := Lib.hid (fun w => by have k := Within_c op 0 18 w; rw [show win op 0 18 = true by rw [← h1]; exact (isIx_win op 19).symm] at k; exact k)
  have HW := Lib.hid (fun w => by have k := IsWidth_c wd w; rw [h2] at k; exact k)
  have HAC := Lib.hid (fun w => by have k := ArgCount_c op w; rw [← h3] at k; exact k)
  have HB := Lib.hid hB
  have H4 := Lib.hid h4
  clear hA hN hB h1 h2 hi hlk h3 h4
  go_enter Tryd.func84, Tryd.ntmps84
  go_wp2_with (first | (go_at_call 31; ((with_reducible refine (HI.out _).mono ?_); rintro e w' ⟨rfl, rfl⟩)) | (go_at_call 52; ((with_reducible refine (HW.out _).mono ?_); rintro e w' ⟨rfl, rfl⟩)))
  have r0 : (w.alloc (.cells #[.int .i64 op, .int .i64 wd, .slice B args.length bc, .int .i64 v] 65)).heap[w.heap.size]? = some (.cells #[.int .i64 op, .int .i64 wd, .slice B args.length bc, .int .i64 v] 65) := heap_alloc_new _ _
  have z0 : w.heap.size < (w.alloc (.cells #[.int .i64 op, .int .i64 wd, .slice B args.length bc, .int .i64 v] 65)).heap.size := by simp
  have hb0 : Below w.heap.size w (w.alloc (.cells #[.int .i64 op, .int .i64 wd, .slice B args.length bc, .int .i64 v] 65)) := (Below.refl _ _).alloc (Nat.le_refl _) _
  generalize (w.alloc (.cells #[.int .i64 op, .int .i64 wd, .slice B args.length bc, .int .i64 v] 65)) = W0 at *
  have q0 := cell_block (i := 0) r0
  have q1 := cell_block (i := 1) r0
  have q2 := cell_block (i := 2) r0
  have q3 := cell_block (i := 3) r0
  simp at q0 q1 q2 q3
  refine wp_region_aft (by kernel_rfl) (by kernel_rfl) ?_
  repeat (go_big_quiet_step ((go_at_call 102; exact Calls.qs (HAC.out _))))
  refine wpQuiet_nil ?_
  intro y
  have R0 := Lib.hid (show y.val.heap[w.heap.size]? = some (.cells #[.int .i64 op, .int .i64 wd, .slice B args.length bc, .int .i64 v] 65) by rw [y.pf.block _ z0]; exact r0)
  have hbw : Below w.heap.size w y.val := y.below hb0 hb0.size
  have zy : w.heap.size < y.val.heap.size := y.lt' z0
  clear r0 q0 q1 q2 q3 hb0 z0
  generalize y.val = W1 at *
  have r0 := R0.out
  have q0 := cell_block (i := 0) r0
  have q1 := cell_block (i := 1) r0
  have q2 := cell_block (i := 2) r0
  have q3 := cell_block (i := 3) r0
  simp at q0 q1 q2 q3
  clear r0
  go_wp2
  go_loop [8] (fun v8 => ∃ j : Nat, j ≤ args.length ∧ v8 = .int .i64 j ∧ (∀ x ∈ args.take j, isIx x i = true)) (fun v8 => args.length - (intOf v8).toNat)
  case atStart => exact ⟨0, by omega, rfl, by simp⟩
  case round =>
    obtain ⟨j, hj, rfl, hall⟩ := hrel
    by_cases hlt : j < args.length
    · have hjj : (j : Int) < args.length := by omega
      have HX := Lib.hid (List.getElem?_eq_getElem hlt)
      have HM := Lib.hid (List.getElem_mem hlt)
      have HT := Lib.hid (List.take_succ_eq_append_getElem hlt)
      generalize args[j] = x at *
      obtain ⟨ab, rfl, hbb, hcx⟩ := (HB.out.below hbw).cell HX.out
      cases hx : isIx x i
      · have HV := Lib.hid (fun w => by have k := Within_c x 0 ((i : Int) - 1) w; rw [isIx_w, hx] at k; exact k)
        have HE := Lib.hid (HR.out x HM.out hx)
        clear hx hall
        go_wp2_with (go_at_call 31; ((with_reducible refine (HV.out _).mono ?_); rintro e w' ⟨rfl, rfl⟩))
        go_ret
        exact ⟨retI HE.out.symm, Below.aft hbw⟩
      · have HV := Lib.hid (fun w => by have k := Within_c x 0 ((i : Int) - 1) w; rw [isIx_w, hx] at k; exact k)
        have HA := Lib.hid hall
        have HX1 := Lib.hid hx
        clear hx hall
        go_wp2_with (go_at_call 31; ((with_reducible refine (HV.out _).mono ?_); rintro e w' ⟨rfl, rfl⟩))
        go_round
        case rel => exact ⟨j + 1, by omega, by go_num, fun z hz => by
          rw [HT.out, List.mem_append] at hz
          rcases hz with hz | hz
          · exact HA.out z hz
          · rw [List.mem_singleton.1 hz]; exact HX1.out⟩
        case measure => simp [intOf]; omega
    · exact absurd (fun z hz => hall z (by rw [List.take_of_length_le (by omega)]; exact hz)) H4.out

end Go.Proofs.YtkdonapgonegkaaDoor

set_option linter.unusedSimpArgs false
set_option linter.unusedVariables false
namespace Go.Proofs.YtkdonapgonegkaaDoor
open Go.RowKit Go.BigFrame

set_option maxRecDepth 100000 in
set_option maxHeartbeats 1600000 in
theorem nodeErr_0F (A : Option Addr) (cap : Nat) (ls : List Int) (hls : ls.length ≤ 65536) (ad : Addr) (capN : Nat) (ns : List Nd) (hns : ns.length ≤ 65536) (i : Nat) (wd v : Int) (args : List Int) (hla : args.length ≤ 65536) (hi : ns[i]? = some ⟨0, wd, args, v⟩) (w : World) (hA : LiesI w A ls) (hN : LiesN w (some ad) ns) (h1 : isIx 0 19 = true) (h2 : isW wd = true) (h3 : (args.length : Int) = argN 0) (h4 : ∀ x ∈ args, isIx x (ns.take i).length = true) (h5 : isV v wd = false) :
    Calls Tryd.prog 84 #[.slice A ls.length cap, .slice (some ad) ns.length capN, .int .i64 i] w fun e w' => e = .returned (.int .i64 2) ∧ ∃ x : Aft w, w' = x.val := by
  obtain ⟨ad', had, hbk, c0, c1, c3, B, bc, c2, hB⟩ := hN.cells hi
  obtain rfl : ad = ad' := Option.some.inj had
  have hil := (List.getElem?_eq_some_iff.1 hi).1
  have hik : (i : Int) < ns.length := by omega
  have c1' : w.cell? ⟨(ad.add (i * 4)).block, (ad.add (i * 4)).off + 1, none⟩ = some (.int .i64 wd) := c1
  have c2' : w.cell? ⟨(ad.add (i * 4)).block, (ad.add (i * 4)).off + 2, none⟩ = some (.slice B args.length bc) := c2
  have c3' : w.cell? ⟨(ad.add (i * 4)).block, (ad.add (i * 4)).off + 3, none⟩ = some (.int .i64 v) := c3
  have hlk : (ns.take i).length = i := by simp; omega
  clear c1 c2 c3 had
  have HI := Lib.hid (fun w => by have k := Within_c 0 0 18 w; rw [show win 0 0 18 = true by rw [← h1]; exact (isIx_win 0 19).symm] at k; exact k)
  have HW := Lib.hid (fun w => by have k := IsWidth_c wd w; rw [h2] at k; exact k)
  have HAC := Lib.hid (fun w => by have k := ArgCount_c 0 w; rw [← h3] at k; exact k)
  have HB := Lib.hid hB
  have HU := Lib.hid (fun w => by have k := Fits_c v wd (by have := isW_iff.1 h2; omega) (by have := isW_iff.1 h2; omega) w; rw [show fits v wd = false from h5] at k; exact k)
  rw [hlk] at h4
  have H4 := Lib.hid h4
  clear hA hN hB h1 h2 hi hlk h3 h4 h5
  go_enter Tryd.func84, Tryd.ntmps84
  go_wp2_with (first | (go_at_call 31; ((with_reducible refine (HI.out _).mono ?_); rintro e w' ⟨rfl, rfl⟩)) | (go_at_call 52; ((with_reducible refine (HW.out _).mono ?_); rintro e w' ⟨rfl, rfl⟩)))
  have r0 : (w.alloc (.cells #[.int .i64 0, .int .i64 wd, .slice B args.length bc, .int .i64 v] 65)).heap[w.heap.size]? = some (.cells #[.int .i64 0, .int .i64 wd, .slice B args.length bc, .int .i64 v] 65) := heap_alloc_new _ _
  have z0 : w.heap.size < (w.alloc (.cells #[.int .i64 0, .int .i64 wd, .slice B args.length bc, .int .i64 v] 65)).heap.size := by simp
  have hb0 : Below w.heap.size w (w.alloc (.cells #[.int .i64 0, .int .i64 wd, .slice B args.length bc, .int .i64 v] 65)) := (Below.refl _ _).alloc (Nat.le_refl _) _
  generalize (w.alloc (.cells #[.int .i64 0, .int .i64 wd, .slice B args.length bc, .int .i64 v] 65)) = W0 at *
  have q0 := cell_block (i := 0) r0
  have q1 := cell_block (i := 1) r0
  have q2 := cell_block (i := 2) r0
  have q3 := cell_block (i := 3) r0
  simp at q0 q1 q2 q3
  refine wp_region_aft (by kernel_rfl) (by kernel_rfl) ?_
  repeat (go_big_quiet_step ((go_at_call 102; exact Calls.qs (HAC.out _))))
  refine wpQuiet_nil ?_
  intro y
  have R0 := Lib.hid (show y.val.heap[w.heap.size]? = some (.cells #[.int .i64 0, .int .i64 wd, .slice B args.length bc, .int .i64 v] 65) by rw [y.pf.block _ z0]; exact r0)
  have hbw : Below w.heap.size w y.val := y.below hb0 hb0.size
  have zy : w.heap.size < y.val.heap.size := y.lt' z0
  clear r0 q0 q1 q2 q3 hb0 z0
  generalize y.val = W1 at *
  have r0 := R0.out
  have q0 := cell_block (i := 0) r0
  have q1 := cell_block (i := 1) r0
  have q2 := cell_block (i := 2) r0
  have q3 := cell_block (i := 3) r0
  simp at q0 q1 q2 q3
  clear r0
  go_wp2
  go_loop [8] (fun v8 => ∃ j : Nat, j ≤ args.length ∧ v8 = .int .i64 j ∧ (∀ x ∈ args.take j, isIx x i = true)) (fun v8 => args.length - (intOf v8).toNat)
  case atStart => exact ⟨0, by omega, rfl, by simp⟩
  case round =>
    obtain ⟨j, hj, rfl, hall⟩ := hrel
    by_cases hlt : j < args.length
    · have hjj : (j : Int) < args.length := by omega
      have HX := Lib.hid (List.getElem?_eq_getElem hlt)
      have HM := Lib.hid (List.getElem_mem hlt)
      have HT := Lib.hid (List.take_succ_eq_append_getElem hlt)
      generalize args[j] = x at *
      obtain ⟨ab, rfl, hbb, hcx⟩ := (HB.out.below hbw).cell HX.out
      have HV := Lib.hid (fun w => by have k := Within_c x 0 ((i : Int) - 1) w; rw [isIx_w, H4.out x HM.out] at k; exact k)
      have HA := Lib.hid hall
      clear hall
      go_wp2_with (go_at_call 31; ((with_reducible refine (HV.out _).mono ?_); rintro e w' ⟨rfl, rfl⟩))
      go_round
      case rel => exact ⟨j + 1, by omega, by go_num, fun z hz => by
        rw [HT.out, List.mem_append] at hz
        rcases hz with hz | hz
        · exact HA.out z hz
        · rw [List.mem_singleton.1 hz]; exact H4.out _ HM.out⟩
      case measure => simp [intOf]; omega
    · obtain rfl : j = args.length := by omega
      clear hall
      go_wp2_with (go_at_call 32; ((with_reducible refine (HU.out _).mono ?_); rintro e w' ⟨rfl, rfl⟩))
      go_ret
      exact ⟨rfl, Below.aft hbw⟩

set_option maxRecDepth 100000 in
set_option maxHeartbeats 1600000 in
theorem nodeErr_0T (A : Option Addr) (cap : Nat) (ls : List Int) (hls : ls.length ≤ 65536) (ad : Addr) (capN : Nat) (ns : List Nd) (hns : ns.length ≤ 65536) (i : Nat) (wd v : Int) (args : List Int) (hla : args.length ≤ 65536) (hi : ns[i]? = some ⟨0, wd, args, v⟩) (w : World) (hA : LiesI w A ls) (hN : LiesN w (some ad) ns) (h1 : isIx 0 19 = true) (h2 : isW wd = true) (h3 : (args.length : Int) = argN 0) (h4 : ∀ x ∈ args, isIx x (ns.take i).length = true) (h5 : isV v wd = true) :
    Calls Tryd.prog 84 #[.slice A ls.length cap, .slice (some ad) ns.length capN, .int .i64 i] w fun e w' => e = .returned (.int .i64 0) ∧ ∃ x : Aft w, w' = x.val := by
  obtain ⟨ad', had, hbk, c0, c1, c3, B, bc, c2, hB⟩ := hN.cells hi
  obtain rfl : ad = ad' := Option.some.inj had
  have hil := (List.getElem?_eq_some_iff.1 hi).1
  have hik : (i : Int) < ns.length := by omega
  have c1' : w.cell? ⟨(ad.add (i * 4)).block, (ad.add (i * 4)).off + 1, none⟩ = some (.int .i64 wd) := c1
  have c2' : w.cell? ⟨(ad.add (i * 4)).block, (ad.add (i * 4)).off + 2, none⟩ = some (.slice B args.length bc) := c2
  have c3' : w.cell? ⟨(ad.add (i * 4)).block, (ad.add (i * 4)).off + 3, none⟩ = some (.int .i64 v) := c3
  have hlk : (ns.take i).length = i := by simp; omega
  clear c1 c2 c3 had
  have HI := Lib.hid (fun w => by have k := Within_c 0 0 18 w; rw [show win 0 0 18 = true by rw [← h1]; exact (isIx_win 0 19).symm] at k; exact k)
  have HW := Lib.hid (fun w => by have k := IsWidth_c wd w; rw [h2] at k; exact k)
  have HAC := Lib.hid (fun w => by have k := ArgCount_c 0 w; rw [← h3] at k; exact k)
  have HB := Lib.hid hB
  have HU := Lib.hid (fun w => by have k := Fits_c v wd (by have := isW_iff.1 h2; omega) (by have := isW_iff.1 h2; omega) w; rw [show fits v wd = true from h5] at k; exact k)
  rw [hlk] at h4
  have H4 := Lib.hid h4
  clear hA hN hB h1 h2 hi hlk h3 h4 h5
  go_enter Tryd.func84, Tryd.ntmps84
  go_wp2_with (first | (go_at_call 31; ((with_reducible refine (HI.out _).mono ?_); rintro e w' ⟨rfl, rfl⟩)) | (go_at_call 52; ((with_reducible refine (HW.out _).mono ?_); rintro e w' ⟨rfl, rfl⟩)))
  have r0 : (w.alloc (.cells #[.int .i64 0, .int .i64 wd, .slice B args.length bc, .int .i64 v] 65)).heap[w.heap.size]? = some (.cells #[.int .i64 0, .int .i64 wd, .slice B args.length bc, .int .i64 v] 65) := heap_alloc_new _ _
  have z0 : w.heap.size < (w.alloc (.cells #[.int .i64 0, .int .i64 wd, .slice B args.length bc, .int .i64 v] 65)).heap.size := by simp
  have hb0 : Below w.heap.size w (w.alloc (.cells #[.int .i64 0, .int .i64 wd, .slice B args.length bc, .int .i64 v] 65)) := (Below.refl _ _).alloc (Nat.le_refl _) _
  generalize (w.alloc (.cells #[.int .i64 0, .int .i64 wd, .slice B args.length bc, .int .i64 v] 65)) = W0 at *
  have q0 := cell_block (i := 0) r0
  have q1 := cell_block (i := 1) r0
  have q2 := cell_block (i := 2) r0
  have q3 := cell_block (i := 3) r0
  simp at q0 q1 q2 q3
  refine wp_region_aft (by kernel_rfl) (by kernel_rfl) ?_
  repeat (go_big_quiet_step ((go_at_call 102; exact Calls.qs (HAC.out _))))
  refine wpQuiet_nil ?_
  intro y
  have R0 := Lib.hid (show y.val.heap[w.heap.size]? = some (.cells #[.int .i64 0, .int .i64 wd, .slice B args.length bc, .int .i64 v] 65) by rw [y.pf.block _ z0]; exact r0)
  have hbw : Below w.heap.size w y.val := y.below hb0 hb0.size
  have zy : w.heap.size < y.val.heap.size := y.lt' z0
  clear r0 q0 q1 q2 q3 hb0 z0
  generalize y.val = W1 at *
  have r0 := R0.out
  have q0 := cell_block (i := 0) r0
  have q1 := cell_block (i := 1) r0
  have q2 := cell_block (i := 2) r0
  have q3 := cell_block (i := 3) r0
  simp at q0 q1 q2 q3
  clear r0
  go_wp2
  go_loop [8] (fun v8 => ∃ j : Nat, j ≤ args.length ∧ v8 = .int .i64 j ∧ (∀ x ∈ args.take j, isIx x i = true)) (fun v8 => args.length - (intOf v8).toNat)
  case atStart => exact ⟨0, by omega, rfl, by simp⟩
  case round =>
    obtain ⟨j, hj, rfl, hall⟩ := hrel
    by_cases hlt : j < args.length
    · have hjj : (j : Int) < args.length := by omega
      have HX := Lib.hid (List.getElem?_eq_getElem hlt)
      have HM := Lib.hid (List.getElem_mem hlt)
      have HT := Lib.hid (List.take_succ_eq_append_getElem hlt)
      generalize args[j] = x at *
      obtain ⟨ab, rfl, hbb, hcx⟩ := (HB.out.below hbw).cell HX.out
      have HV := Lib.hid (fun w => by have k := Within_c x 0 ((i : Int) - 1) w; rw [isIx_w, H4.out x HM.out] at k; exact k)
      have HA := Lib.hid hall
      clear hall
      go_wp2_with (go_at_call 31; ((with_reducible refine (HV.out _).mono ?_); rintro e w' ⟨rfl, rfl⟩))
      go_round
      case rel => exact ⟨j + 1, by omega, by go_num, fun z hz => by
        rw [HT.out, List.mem_append] at hz
        rcases hz with hz | hz
        · exact HA.out z hz
        · rw [List.mem_singleton.1 hz]; exact H4.out _ HM.out⟩
      case measure => simp [intOf]; omega
    · obtain rfl : j = args.length := by omega
      clear hall
      go_wp2_with (go_at_call 32; ((with_reducible refine (HU.out _).mono ?_); rintro e w' ⟨rfl, rfl⟩))
      go_ret
      exact ⟨rfl, Below.aft hbw⟩

set_option maxRecDepth 100000 in
set_option maxHeartbeats 1600000 in
theorem nodeErr_1A (A : Option Addr) (cap : Nat) (ls : List Int) (hls : ls.length ≤ 65536) (ad : Addr) (capN : Nat) (ns : List Nd) (hns : ns.length ≤ 65536) (i : Nat) (wd v : Int) (args : List Int) (hla : args.length ≤ 65536) (hi : ns[i]? = some ⟨1, wd, args, v⟩) (w : World) (hA : LiesI w A ls) (hN : LiesN w (some ad) ns) (h1 : isIx 1 19 = true) (h2 : isW wd = true) (h3 : (args.length : Int) = argN 1) (h4 : ∀ x ∈ args, isIx x (ns.take i).length = true) (h5 : isIx v ls.length = false) :
    Calls Tryd.prog 84 #[.slice A ls.length cap, .slice (some ad) ns.length capN, .int .i64 i] w fun e w' => e = .returned (.int .i64 6) ∧ ∃ x : Aft w, w' = x.val := by
  obtain ⟨ad', had, hbk, c0, c1, c3, B, bc, c2, hB⟩ := hN.cells hi
  obtain rfl : ad = ad' := Option.some.inj had
  have hil := (List.getElem?_eq_some_iff.1 hi).1
  have hik : (i : Int) < ns.length := by omega
  have c1' : w.cell? ⟨(ad.add (i * 4)).block, (ad.add (i * 4)).off + 1, none⟩ = some (.int .i64 wd) := c1
  have c2' : w.cell? ⟨(ad.add (i * 4)).block, (ad.add (i * 4)).off + 2, none⟩ = some (.slice B args.length bc) := c2
  have c3' : w.cell? ⟨(ad.add (i * 4)).block, (ad.add (i * 4)).off + 3, none⟩ = some (.int .i64 v) := c3
  have hlk : (ns.take i).length = i := by simp; omega
  clear c1 c2 c3 had
  have HI := Lib.hid (fun w => by have k := Within_c 1 0 18 w; rw [show win 1 0 18 = true by rw [← h1]; exact (isIx_win 1 19).symm] at k; exact k)
  have HW := Lib.hid (fun w => by have k := IsWidth_c wd w; rw [h2] at k; exact k)
  have HAC := Lib.hid (fun w => by have k := ArgCount_c 1 w; rw [← h3] at k; exact k)
  have HB := Lib.hid hB
  have HU := Lib.hid (fun w => by have k := Within_c v 0 (((ls.length : Nat) : Int) - 1) w; rw [isIx_w, h5] at k; exact k)
  rw [hlk] at h4
  have H4 := Lib.hid h4
  clear hA hN hB h1 h2 hi hlk h3 h4 h5
  go_enter Tryd.func84, Tryd.ntmps84
  go_wp2_with (first | (go_at_call 31; ((with_reducible refine (HI.out _).mono ?_); rintro e w' ⟨rfl, rfl⟩)) | (go_at_call 52; ((with_reducible refine (HW.out _).mono ?_); rintro e w' ⟨rfl, rfl⟩)))
  have r0 : (w.alloc (.cells #[.int .i64 1, .int .i64 wd, .slice B args.length bc, .int .i64 v] 65)).heap[w.heap.size]? = some (.cells #[.int .i64 1, .int .i64 wd, .slice B args.length bc, .int .i64 v] 65) := heap_alloc_new _ _
  have z0 : w.heap.size < (w.alloc (.cells #[.int .i64 1, .int .i64 wd, .slice B args.length bc, .int .i64 v] 65)).heap.size := by simp
  have hb0 : Below w.heap.size w (w.alloc (.cells #[.int .i64 1, .int .i64 wd, .slice B args.length bc, .int .i64 v] 65)) := (Below.refl _ _).alloc (Nat.le_refl _) _
  generalize (w.alloc (.cells #[.int .i64 1, .int .i64 wd, .slice B args.length bc, .int .i64 v] 65)) = W0 at *
  have q0 := cell_block (i := 0) r0
  have q1 := cell_block (i := 1) r0
  have q2 := cell_block (i := 2) r0
  have q3 := cell_block (i := 3) r0
  simp at q0 q1 q2 q3
  refine wp_region_aft (by kernel_rfl) (by kernel_rfl) ?_
  repeat (go_big_quiet_step ((go_at_call 102; exact Calls.qs (HAC.out _))))
  refine wpQuiet_nil ?_
  intro y
  have R0 := Lib.hid (show y.val.heap[w.heap.size]? = some (.cells #[.int .i64 1, .int .i64 wd, .slice B args.length bc, .int .i64 v] 65) by rw [y.pf.block _ z0]; exact r0)
  have hbw : Below w.heap.size w y.val := y.below hb0 hb0.size
  have zy : w.heap.size < y.val.heap.size := y.lt' z0
  clear r0 q0 q1 q2 q3 hb0 z0
  generalize y.val = W1 at *
  have r0 := R0.out
  have q0 := cell_block (i := 0) r0
  have q1 := cell_block (i := 1) r0
  have q2 := cell_block (i := 2) r0
  have q3 := cell_block (i := 3) r0
  simp at q0 q1 q2 q3
  clear r0
  go_wp2
  go_loop [8] (fun v8 => ∃ j : Nat, j ≤ args.length ∧ v8 = .int .i64 j ∧ (∀ x ∈ args.take j, isIx x i = true)) (fun v8 => args.length - (intOf v8).toNat)
  case atStart => exact ⟨0, by omega, rfl, by simp⟩
  case round =>
    obtain ⟨j, hj, rfl, hall⟩ := hrel
    by_cases hlt : j < args.length
    · have hjj : (j : Int) < args.length := by omega
      have HX := Lib.hid (List.getElem?_eq_getElem hlt)
      have HM := Lib.hid (List.getElem_mem hlt)
      have HT := Lib.hid (List.take_succ_eq_append_getElem hlt)
      generalize args[j] = x at *
      obtain ⟨ab, rfl, hbb, hcx⟩ := (HB.out.below hbw).cell HX.out
      have HV := Lib.hid (fun w => by have k := Within_c x 0 ((i : Int) - 1) w; rw [isIx_w, H4.out x HM.out] at k; exact k)
      have HA := Lib.hid hall
      clear hall
      go_wp2_with (go_at_call 31; ((with_reducible refine (HV.out _).mono ?_); rintro e w' ⟨rfl, rfl⟩))
      go_round
      case rel => exact ⟨j + 1, by omega, by go_num, fun z hz => by
        rw [HT.out, List.mem_append] at hz
        rcases hz with hz | hz
        · exact HA.out z hz
        · rw [List.mem_singleton.1 hz]; exact H4.out _ HM.out⟩
      case measure => simp [intOf]; omega
    · obtain rfl : j = args.length := by omega
      clear hall
      go_wp2_with (go_at_call 31; ((with_reducible refine (HU.out _).mono ?_); rintro e w' ⟨rfl, rfl⟩))
      go_ret
      exact ⟨rfl, Below.aft hbw⟩

set_option maxRecDepth 100000 in
set_option maxHeartbeats 1600000 in
theorem nodeErr_1B (k : Nat) (lw : Int) (A : Option Addr) (cap : Nat) (ls : List Int) (hls : ls.length ≤ 65536) (ad : Addr) (capN : Nat) (ns : List Nd) (hns : ns.length ≤ 65536) (i : Nat) (wd : Int) (args : List Int) (hla : args.length ≤ 65536) (hi : ns[i]? = some ⟨1, wd, args, (k : Int)⟩) (w : World) (hA : LiesI w A ls) (hN : LiesN w (some ad) ns) (h1 : isIx 1 19 = true) (h2 : isW wd = true) (h3 : (args.length : Int) = argN 1) (h4 : ∀ x ∈ args, isIx x (ns.take i).length = true) (h5 : isIx (k : Int) ls.length = true) (hy : ls[k]? = some lw) (h6 : ¬ lw = wd) :
    Calls Tryd.prog 84 #[.slice A ls.length cap, .slice (some ad) ns.length capN, .int .i64 i] w fun e w' => e = .returned (.int .i64 25) ∧ ∃ x : Aft w, w' = x.val := by
  obtain ⟨ad', had, hbk, c0, c1, c3, B, bc, c2, hB⟩ := hN.cells hi
  obtain rfl : ad = ad' := Option.some.inj had
  have hil := (List.getElem?_eq_some_iff.1 hi).1
  have hik : (i : Int) < ns.length := by omega
  have c1' : w.cell? ⟨(ad.add (i * 4)).block, (ad.add (i * 4)).off + 1, none⟩ = some (.int .i64 wd) := c1
  have c2' : w.cell? ⟨(ad.add (i * 4)).block, (ad.add (i * 4)).off + 2, none⟩ = some (.slice B args.length bc) := c2
  have c3' : w.cell? ⟨(ad.add (i * 4)).block, (ad.add (i * 4)).off + 3, none⟩ = some (.int .i64 (k : Int)) := c3
  have hlk : (ns.take i).length = i := by simp; omega
  clear c1 c2 c3 had
  have HI := Lib.hid (fun w => by have k := Within_c 1 0 18 w; rw [show win 1 0 18 = true by rw [← h1]; exact (isIx_win 1 19).symm] at k; exact k)
  have HW := Lib.hid (fun w => by have k := IsWidth_c wd w; rw [h2] at k; exact k)
  have HAC := Lib.hid (fun w => by have k := ArgCount_c 1 w; rw [← h3] at k; exact k)
  have HB := Lib.hid hB
  have HU := Lib.hid (fun w => by have kk := Within_c (k : Int) 0 (((ls.length : Nat) : Int) - 1) w; rw [isIx_w, h5] at kk; exact kk)
  obtain ⟨al, rfl, hbl, hcl⟩ := hA.cell hy
  have HC := Lib.hid hcl
  have hkl : (k : Int) < ls.length := (isIx_iff.1 h5).2
  have n6 : (lw == wd) = false := by simpa using h6
  rw [hlk] at h4
  have H4 := Lib.hid h4
  clear hA hN hB h1 h2 hi hlk h3 h4 h5 h6 hcl hy
  go_enter Tryd.func84, Tryd.ntmps84
  go_wp2_with (first | (go_at_call 31; ((with_reducible refine (HI.out _).mono ?_); rintro e w' ⟨rfl, rfl⟩)) | (go_at_call 52; ((with_reducible refine (HW.out _).mono ?_); rintro e w' ⟨rfl, rfl⟩)))
  have r0 : (w.alloc (.cells #[.int .i64 1, .int .i64 wd, .slice B args.length bc, .int .i64 (k : Int)] 65)).heap[w.heap.size]? = some (.cells #[.int .i64 1, .int .i64 wd, .slice B args.length bc, .int .i64 (k : Int)] 65) := heap_alloc_new _ _
  have z0 : w.heap.size < (w.alloc (.cells #[.int .i64 1, .int .i64 wd, .slice B args.length bc, .int .i64 (k : Int)] 65)).heap.size := by simp
  have hb0 : Below w.heap.size w (w.alloc (.cells #[.int .i64 1, .int .i64 wd, .slice B args.length bc, .int .i64 (k : Int)] 65)) := (Below.refl _ _).alloc (Nat.le_refl _) _
  generalize (w.alloc (.cells #[.int .i64 1, .int .i64 wd, .slice B args.length bc, .int .i64 (k : Int)] 65)) = W0 at *
  have q0 := cell_block (i := 0) r0
  have q1 := cell_block (i := 1) r0
  have q2 := cell_block (i := 2) r0
  have q3 := cell_block (i := 3) r0
  simp at q0 q1 q2 q3
  refine wp_region_aft (by kernel_rfl) (by kernel_rfl) ?_
  repeat (go_big_quiet_step ((go_at_call 102; exact Calls.qs (HAC.out _))))
  refine wpQuiet_nil ?_
  intro y
  have R0 := Lib.hid (show y.val.heap[w.heap.size]? = some (.cells #[.int .i64 1, .int .i64 wd, .slice B args.length bc, .int .i64 (k : Int)] 65) by rw [y.pf.block _ z0]; exact r0)
  have hbw : Below w.heap.size w y.val := y.below hb0 hb0.size
  have zy : w.heap.size < y.val.heap.size := y.lt' z0
  clear r0 q0 q1 q2 q3 hb0 z0
  generalize y.val = W1 at *
  have r0 := R0.out
  have q0 := cell_block (i := 0) r0
  have q1 := cell_block (i := 1) r0
  have q2 := cell_block (i := 2) r0
  have q3 := cell_block (i := 3) r0
  simp at q0 q1 q2 q3
  clear r0
  go_wp2
  go_loop [8] (fun v8 => ∃ j : Nat, j ≤ args.length ∧ v8 = .int .i64 j ∧ (∀ x ∈ args.take j, isIx x i = true)) (fun v8 => args.length - (intOf v8).toNat)
  case atStart => exact ⟨0, by omega, rfl, by simp⟩
  case round =>
    obtain ⟨j, hj, rfl, hall⟩ := hrel
    by_cases hlt : j < args.length
    · have hjj : (j : Int) < args.length := by omega
      have HX := Lib.hid (List.getElem?_eq_getElem hlt)
      have HM := Lib.hid (List.getElem_mem hlt)
      have HT := Lib.hid (List.take_succ_eq_append_getElem hlt)
      generalize args[j] = x at *
      obtain ⟨ab, rfl, hbb, hcx⟩ := (HB.out.below hbw).cell HX.out
      have HV := Lib.hid (fun w => by have k := Within_c x 0 ((i : Int) - 1) w; rw [isIx_w, H4.out x HM.out] at k; exact k)
      have HA := Lib.hid hall
      clear hall
      go_wp2_with (go_at_call 31; ((with_reducible refine (HV.out _).mono ?_); rintro e w' ⟨rfl, rfl⟩))
      go_round
      case rel => exact ⟨j + 1, by omega, by go_num, fun z hz => by
        rw [HT.out, List.mem_append] at hz
        rcases hz with hz | hz
        · exact HA.out z hz
        · rw [List.mem_singleton.1 hz]; exact H4.out _ HM.out⟩
      case measure => simp [intOf]; omega
    · obtain rfl : j = args.length := by omega
      clear hall
      have c : W1.cell? (al.add k) = some (.int .i64 lw) := (hbw.cell (p := al.add k) (by rw [addB]; exact hbl)).trans HC.out
      have hlw : al.block < W1.heap.size := Nat.lt_of_lt_of_le hbl hbw.size
      have cx : ∀ x' : Aft W1, x'.val.cell? (al.add k) = some (.int .i64 lw) := fun x' => (x'.pf.cell (p := al.add k) (by rw [addB]; exact hlw)).trans c
      go_wp2_with (go_at_call 31; ((with_reducible refine (HU.out _).mono ?_); rintro e w' ⟨rfl, rfl⟩))
      refine wp_region_aft (by kernel_rfl) (by kernel_rfl) ?_
      repeat (go_big_quiet_step (fail))
      refine wpQuiet_nil ?_
      intro z
      go_wp2
      go_ret
      exact ⟨rfl, Below.aft (z.below hbw hbw.size)⟩

set_option maxRecDepth 100000 in
set_option maxHeartbeats 1600000 in
theorem nodeErr_1C (k : Nat) (lw : Int) (A : Option Addr) (cap : Nat) (ls : List Int) (hls : ls.length ≤ 65536) (ad : Addr) (capN : Nat) (ns : List Nd) (hns : ns.length ≤ 65536) (i : Nat) (wd : Int) (args : List Int) (hla : args.length ≤ 65536) (hi : ns[i]? = some ⟨1, wd, args, (k : Int)⟩) (w : World) (hA : LiesI w A ls) (hN : LiesN w (some ad) ns) (h1 : isIx 1 19 = true) (h2 : isW wd = true) (h3 : (args.length : Int) = argN 1) (h4 : ∀ x ∈ args, isIx x (ns.take i).length = true) (h5 : isIx (k : Int) ls.length = true) (hy : ls[k]? = some lw) (h6 : lw = wd) :
    Calls Tryd.prog 84 #[.slice A ls.length cap, .slice (some ad) ns.length capN, .int .i64 i] w fun e w' => e = .returned (.int .i64 0) ∧ ∃ x : Aft w, w' = x.val := by
  obtain ⟨ad', had, hbk, c0, c1, c3, B, bc, c2, hB⟩ := hN.cells hi
  obtain rfl : ad = ad' := Option.some.inj had
  have hil := (List.getElem?_eq_some_iff.1 hi).1
  have hik : (i : Int) < ns.length := by omega
  have c1' : w.cell? ⟨(ad.add (i * 4)).block, (ad.add (i * 4)).off + 1, none⟩ = some (.int .i64 wd) := c1
  have c2' : w.cell? ⟨(ad.add (i * 4)).block, (ad.add (i * 4)).off + 2, none⟩ = some (.slice B args.length bc) := c2
  have c3' : w.cell? ⟨(ad.add (i * 4)).block, (ad.add (i * 4)).off + 3, none⟩ = some (.int .i64 (k : Int)) := c3
  have hlk : (ns.take i).length = i := by simp; omega
  clear c1 c2 c3 had
  have HI := Lib.hid (fun w => by have k := Within_c 1 0 18 w; rw [show win 1 0 18 = true by rw [← h1]; exact (isIx_win 1 19).symm] at k; exact k)
  have HW := Lib.hid (fun w => by have k := IsWidth_c wd w; rw [h2] at k; exact k)
  have HAC := Lib.hid (fun w => by have k := ArgCount_c 1 w; rw [← h3] at k; exact k)
  have HB := Lib.hid hB
  have HU := Lib.hid (fun w => by have kk := Within_c (k : Int) 0 (((ls.length : Nat) : Int) - 1) w; rw [isIx_w, h5] at kk; exact kk)
  obtain ⟨al, rfl, hbl, hcl⟩ := hA.cell hy
  have HC := Lib.hid hcl
  have hkl : (k : Int) < ls.length := (isIx_iff.1 h5).2
  have n6 : (lw == wd) = true := by simpa using h6
  rw [hlk] at h4
  have H4 := Lib.hid h4
  clear hA hN hB h1 h2 hi hlk h3 h4 h5 h6 hcl hy
  go_enter Tryd.func84, Tryd.ntmps84
  go_wp2_with (first | (go_at_call 31; ((with_reducible refine (HI.out _).mono ?_); rintro e w' ⟨rfl, rfl⟩)) | (go_at_call 52; ((with_reducible refine (HW.out _).mono ?_); rintro e w' ⟨rfl, rfl⟩)))
  have r0 : (w.alloc (.cells #[.int .i64 1, .int .i64 wd, .slice B args.length bc, .int .i64 (k : Int)] 65)).heap[w.heap.size]? = some (.cells #[.int .i64 1, .int .i64 wd, .slice B args.length bc, .int .i64 (k : Int)] 65) := heap_alloc_new _ _
  have z0 : w.heap.size < (w.alloc (.cells #[.int .i64 1, .int .i64 wd, .slice B args.length bc, .int .i64 (k : Int)] 65)).heap.size := by simp
  have hb0 : Below w.heap.size w (w.alloc (.cells #[.int .i64 1, .int .i64 wd, .slice B args.length bc, .int .i64 (k : Int)] 65)) := (Below.refl _ _).alloc (Nat.le_refl _) _
  generalize (w.alloc (.cells #[.int .i64 1, .int .i64 wd, .slice B args.length bc, .int .i64 (k : Int)] 65)) = W0 at *
  have q0 := cell_block (i := 0) r0
  have q1 := cell_block (i := 1) r0
  have q2 := cell_block (i := 2) r0
  have q3 := cell_block (i := 3) r0
  simp at q0 q1 q2 q3
  refine wp_region_aft (by kernel_rfl) (by kernel_rfl) ?_
  repeat (go_big_quiet_step ((go_at_call 102; exact Calls.qs (HAC.out _))))
  refine wpQuiet_nil ?_
  intro y
  have R0 := Lib.hid (show y.val.heap[w.heap.size]? = some (.cells #[.int .i64 1, .int .i64 wd, .slice B args.length bc, .int .i64 (k : Int)] 65) by rw [y.pf.block _ z0]; exact r0)
  have hbw : Below w.heap.size w y.val := y.below hb0 hb0.size
  have zy : w.heap.size < y.val.heap.size := y.lt' z0
  clear r0 q0 q1 q2 q3 hb0 z0
  generalize y.val = W1 at *
  have r0 := R0.out
  have q0 := cell_block (i := 0) r0
  have q1 := cell_block (i := 1) r0
  have q2 := cell_block (i := 2) r0
  have q3 := cell_block (i := 3) r0
  simp at q0 q1 q2 q3
  clear r0
  go_wp2
  go_loop [8] (fun v8 => ∃ j : Nat, j ≤ args.length ∧ v8 = .int .i64 j ∧ (∀ x ∈ args.take j, isIx x i = true)) (fun v8 => args.length - (intOf v8).toNat)
  case atStart => exact ⟨0, by omega, rfl, by simp⟩
  case round =>
    obtain ⟨j, hj, rfl, hall⟩ := hrel
    by_cases hlt : j < args.length
    · have hjj : (j : Int) < args.length := by omega
      have HX := Lib.hid (List.getElem?_eq_getElem hlt)
      have HM := Lib.hid (List.getElem_mem hlt)
      have HT := Lib.hid (List.take_succ_eq_append_getElem hlt)
      generalize args[j] = x at *
      obtain ⟨ab, rfl, hbb, hcx⟩ := (HB.out.below hbw).cell HX.out
      have HV := Lib.hid (fun w => by have k := Within_c x 0 ((i : Int) - 1) w; rw [isIx_w, H4.out x HM.out] at k; exact k)
      have HA := Lib.hid hall
      clear hall
      go_wp2_with (go_at_call 31; ((with_reducible refine (HV.out _).mono ?_); rintro e w' ⟨rfl, rfl⟩))
      go_round
      case rel => exact ⟨j + 1, by omega, by go_num, fun z hz => by
        rw [HT.out, List.mem_append] at hz
        rcases hz with hz | hz
        · exact HA.out z hz
        · rw [List.mem_singleton.1 hz]; exact H4.out _ HM.out⟩
      case measure => simp [intOf]; omega
    · obtain rfl : j = args.length := by omega
      clear hall
      have c : W1.cell? (al.add k) = some (.int .i64 lw) := (hbw.cell (p := al.add k) (by rw [addB]; exact hbl)).trans HC.out
      have hlw : al.block < W1.heap.size := Nat.lt_of_lt_of_le hbl hbw.size
      have cx : ∀ x' : Aft W1, x'.val.cell? (al.add k) = some (.int .i64 lw) := fun x' => (x'.pf.cell (p := al.add k) (by rw [addB]; exact hlw)).trans c
      go_wp2_with (go_at_call 31; ((with_reducible refine (HU.out _).mono ?_); rintro e w' ⟨rfl, rfl⟩))
      refine wp_region_aft (by kernel_rfl) (by kernel_rfl) ?_
      repeat (go_big_quiet_step (fail))
      refine wpQuiet_nil ?_
      intro z
      go_wp2
      go_ret
      exact ⟨rfl, Below.aft (z.below hbw hbw.size)⟩

set_option maxRecDepth 100000 in
set_option maxHeartbeats 1600000 in
theorem nodeErr_14F (A : Option Addr) (cap : Nat) (ls : List Int) (hls : ls.length ≤ 65536) (ad : Addr) (capN : Nat) (ns : List Nd) (hns : ns.length ≤ 65536) (i : Nat) (wd v : Int) (args : List Int) (hla : args.length ≤ 65536) (hi : ns[i]? = some ⟨14, wd, args, v⟩) (w : World) (hA : LiesI w A ls) (hN : LiesN w (some ad) ns) (h1 : isIx 14 19 = true) (h2 : isW wd = true) (h3 : (args.length : Int) = argN 14) (h4 : ∀ x ∈ args, isIx x (ns.take i).length = true) (h5 : isIx v 16 = false) :
    Calls Tryd.prog 84 #[.slice A ls.length cap, .slice (some ad) ns.length capN, .int .i64 i] w fun e w' => e = .returned (.int .i64 2) ∧ ∃ x : Aft w, w' = x.val := by
  obtain ⟨ad', had, hbk, c0, c1, c3, B, bc, c2, hB⟩ := hN.cells hi
  obtain rfl : ad = ad' := Option.some.inj had
  have hil := (List.getElem?_eq_some_iff.1 hi).1
  have hik : (i : Int) < ns.length := by omega
  have c1' : w.cell? ⟨(ad.add (i * 4)).block, (ad.add (i * 4)).off + 1, none⟩ = some (.int .i64 wd) := c1
  have c2' : w.cell? ⟨(ad.add (i * 4)).block, (ad.add (i * 4)).off + 2, none⟩ = some (.slice B args.length bc) := c2
  have c3' : w.cell? ⟨(ad.add (i * 4)).block, (ad.add (i * 4)).off + 3, none⟩ = some (.int .i64 v) := c3
  have hlk : (ns.take i).length = i := by simp; omega
  clear c1 c2 c3 had
  have HI := Lib.hid (fun w => by have k := Within_c 14 0 18 w; rw [show win 14 0 18 = true by rw [← h1]; exact (isIx_win 14 19).symm] at k; exact k)
  have HW := Lib.hid (fun w => by have k := IsWidth_c wd w; rw [h2] at k; exact k)
  have HAC := Lib.hid (fun w => by have k := ArgCount_c 14 w; rw [← h3] at k; exact k)
  have HB := Lib.hid hB
  have HU := Lib.hid (fun w => by have k := Within_c v 0 15 w; rw [show win v 0 15 = false by rw [← h5]; exact (isIx_win v 16).symm] at k; exact k)
  rw [hlk] at h4
  have H4 := Lib.hid h4
  clear hA hN hB h1 h2 hi hlk h3 h4 h5
  go_enter Tryd.func84, Tryd.ntmps84
  go_wp2_with (first | (go_at_call 31; ((with_reducible refine (HI.out _).mono ?_); rintro e w' ⟨rfl, rfl⟩)) | (go_at_call 52; ((with_reducible refine (HW.out _).mono ?_); rintro e w' ⟨rfl, rfl⟩)))
  have r0 : (w.alloc (.cells #[.int .i64 14, .int .i64 wd, .slice B args.length bc, .int .i64 v] 65)).heap[w.heap.size]? = some (.cells #[.int .i64 14, .int .i64 wd, .slice B args.length bc, .int .i64 v] 65) := heap_alloc_new _ _
  have z0 : w.heap.size < (w.alloc (.cells #[.int .i64 14, .int .i64 wd, .slice B args.length bc, .int .i64 v] 65)).heap.size := by simp
  have hb0 : Below w.heap.size w (w.alloc (.cells #[.int .i64 14, .int .i64 wd, .slice B args.length bc, .int .i64 v] 65)) := (Below.refl _ _).alloc (Nat.le_refl _) _
  generalize (w.alloc (.cells #[.int .i64 14, .int .i64 wd, .slice B args.length bc, .int .i64 v] 65)) = W0 at *
  have q0 := cell_block (i := 0) r0
  have q1 := cell_block (i := 1) r0
  have q2 := cell_block (i := 2) r0
  have q3 := cell_block (i := 3) r0
  simp at q0 q1 q2 q3
  refine wp_region_aft (by kernel_rfl) (by kernel_rfl) ?_
  repeat (go_big_quiet_step ((go_at_call 102; exact Calls.qs (HAC.out _))))
  refine wpQuiet_nil ?_
  intro y
  have R0 := Lib.hid (show y.val.heap[w.heap.size]? = some (.cells #[.int .i64 14, .int .i64 wd, .slice B args.length bc, .int .i64 v] 65) by rw [y.pf.block _ z0]; exact r0)
  have hbw : Below w.heap.size w y.val := y.below hb0 hb0.size
  have zy : w.heap.size < y.val.heap.size := y.lt' z0
  clear r0 q0 q1 q2 q3 hb0 z0
  generalize y.val = W1 at *
  have r0 := R0.out
  have q0 := cell_block (i := 0) r0
  have q1 := cell_block (i := 1) r0
  have q2 := cell_block (i := 2) r0
  have q3 := cell_block (i := 3) r0
  simp at q0 q1 q2 q3
  clear r0
  go_wp2
  go_loop [8] (fun v8 => ∃ j : Nat, j ≤ args.length ∧ v8 = .int .i64 j ∧ (∀ x ∈ args.take j, isIx x i = true)) (fun v8 => args.length - (intOf v8).toNat)
  case atStart => exact ⟨0, by omega, rfl, by simp⟩
  case round =>
    obtain ⟨j, hj, rfl, hall⟩ := hrel
    by_cases hlt : j < args.length
    · have hjj : (j : Int) < args.length := by omega
      have HX := Lib.hid (List.getElem?_eq_getElem hlt)
      have HM := Lib.hid (List.getElem_mem hlt)
      have HT := Lib.hid (List.take_succ_eq_append_getElem hlt)
      generalize args[j] = x at *
      obtain ⟨ab, rfl, hbb, hcx⟩ := (HB.out.below hbw).cell HX.out
      have HV := Lib.hid (fun w => by have k := Within_c x 0 ((i : Int) - 1) w; rw [isIx_w, H4.out x HM.out] at k; exact k)
      have HA := Lib.hid hall
      clear hall
      go_wp2_with (go_at_call 31; ((with_reducible refine (HV.out _).mono ?_); rintro e w' ⟨rfl, rfl⟩))
      go_round
      case rel => exact ⟨j + 1, by omega, by go_num, fun z hz => by
        rw [HT.out, List.mem_append] at hz
        rcases hz with hz | hz
        · exact HA.out z hz
        · rw [List.mem_singleton.1 hz]; exact H4.out _ HM.out⟩
      case measure => simp [intOf]; omega
    · obtain rfl : j = args.length := by omega
      clear hall
      go_wp2_with (go_at_call 31; ((with_reducible refine (HU.out _).mono ?_); rintro e w' ⟨rfl, rfl⟩))
      go_ret
      exact ⟨rfl, Below.aft hbw⟩

set_option maxRecDepth 100000 in
set_option maxHeartbeats 1600000 in
theorem nodeErr_14T (A : Option Addr) (cap : Nat) (ls : List Int) (hls : ls.length ≤ 65536) (ad : Addr) (capN : Nat) (ns : List Nd) (hns : ns.length ≤ 65536) (i : Nat) (wd v : Int) (args : List Int) (hla : args.length ≤ 65536) (hi : ns[i]? = some ⟨14, wd, args, v⟩) (w : World) (hA : LiesI w A ls) (hN : LiesN w (some ad) ns) (h1 : isIx 14 19 = true) (h2 : isW wd = true) (h3 : (args.length : Int) = argN 14) (h4 : ∀ x ∈ args, isIx x (ns.take i).length = true) (h5 : isIx v 16 = true) (hv : ∀ n ∈ ns.take i, isW n.wd = true) (hg : (14 : Int) ≤ 18) (h6 : fitW 14 wd v (wAt (ns.take i) args 0) (wAt (ns.take i) args 1) (wAt (ns.take i) args 2) = false) :
    Calls Tryd.prog 84 #[.slice A ls.length cap, .slice (some ad) ns.length capN, .int .i64 i] w fun e w' => e = .returned (.int .i64 25) ∧ ∃ x : Aft w, w' = x.val := by
  obtain ⟨ad', had, hbk, c0, c1, c3, B, bc, c2, hB⟩ := hN.cells hi
  obtain rfl : ad = ad' := Option.some.inj had
  have hil := (List.getElem?_eq_some_iff.1 hi).1
  have hik : (i : Int) < ns.length := by omega
  have c1' : w.cell? ⟨(ad.add (i * 4)).block, (ad.add (i * 4)).off + 1, none⟩ = some (.int .i64 wd) := c1
  have c2' : w.cell? ⟨(ad.add (i * 4)).block, (ad.add (i * 4)).off + 2, none⟩ = some (.slice B args.length bc) := c2
  have c3' : w.cell? ⟨(ad.add (i * 4)).block, (ad.add (i * 4)).off + 3, none⟩ = some (.int .i64 v) := c3
  have hlk : (ns.take i).length = i := by simp; omega
  clear c1 c2 c3 had
  have HI := Lib.hid (fun w => by have k := Within_c 14 0 18 w; rw [show win 14 0 18 = true by rw [← h1]; exact (isIx_win 14 19).symm] at k; exact k)
  have HW := Lib.hid (fun w => by have k := IsWidth_c wd w; rw [h2] at k; exact k)
  have HAC := Lib.hid (fun w => by have k := ArgCount_c 14 w; rw [← h3] at k; exact k)
  have HB := Lib.hid hB
  have HU := Lib.hid (fun w => by have k := Within_c v 0 15 w; rw [show win v 0 15 = true by rw [← h5]; exact (isIx_win v 16).symm] at k; exact k)
  have HF := Lib.hid (fun (W : World) (hb : Below w.heap.size w W) => by
    have k := rwidthsFit_c 14 wd v (by decide) hg (isW_iff.1 h2).1 (isW_iff.1 h2).2 (fun _ => by have := isIx_iff.1 h5; omega) B bc args h3 (some ad) capN ns hns i hv h4 W (hN.below hb) (hB.below hb)
    rw [h6] at k; exact k)
  rw [hlk] at h4
  have H4 := Lib.hid h4
  clear hA hN hB h1 h2 hi hlk h3 h4 h5 h6 hv hg
  go_enter Tryd.func84, Tryd.ntmps84
  go_wp2_with (first | (go_at_call 31; ((with_reducible refine (HI.out _).mono ?_); rintro e w' ⟨rfl, rfl⟩)) | (go_at_call 52; ((with_reducible refine (HW.out _).mono ?_); rintro e w' ⟨rfl, rfl⟩)))
  have r0 : (w.alloc (.cells #[.int .i64 14, .int .i64 wd, .slice B args.length bc, .int .i64 v] 65)).heap[w.heap.size]? = some (.cells #[.int .i64 14, .int .i64 wd, .slice B args.length bc, .int .i64 v] 65) := heap_alloc_new _ _
  have z0 : w.heap.size < (w.alloc (.cells #[.int .i64 14, .int .i64 wd, .slice B args.length bc, .int .i64 v] 65)).heap.size := by simp
  have hb0 : Below w.heap.size w (w.alloc (.cells #[.int .i64 14, .int .i64 wd, .slice B args.length bc, .int .i64 v] 65)) := (Below.refl _ _).alloc (Nat.le_refl _) _
  generalize (w.alloc (.cells #[.int .i64 14, .int .i64 wd, .slice B args.length bc, .int .i64 v] 65)) = W0 at *
  have q0 := cell_block (i := 0) r0
  have q1 := cell_block (i := 1) r0
  have q2 := cell_block (i := 2) r0
  have q3 := cell_block (i := 3) r0
  simp at q0 q1 q2 q3
  refine wp_region_aft (by kernel_rfl) (by kernel_rfl) ?_
  repeat (go_big_quiet_step ((go_at_call 102; exact Calls.qs (HAC.out _))))
  refine wpQuiet_nil ?_
  intro y
  have R0 := Lib.hid (show y.val.heap[w.heap.size]? = some (.cells #[.int .i64 14, .int .i64 wd, .slice B args.length bc, .int .i64 v] 65) by rw [y.pf.block _ z0]; exact r0)
  have hbw : Below w.heap.size w y.val := y.below hb0 hb0.size
  have zy : w.heap.size < y.val.heap.size := y.lt' z0
  clear r0 q0 q1 q2 q3 hb0 z0
  generalize y.val = W1 at *
  have r0 := R0.out
  have q0 := cell_block (i := 0) r0
  have q1 := cell_block (i := 1) r0
  have q2 := cell_block (i := 2) r0
  have q3 := cell_block (i := 3) r0
  simp at q0 q1 q2 q3
  clear r0
  go_wp2
  go_loop [8] (fun v8 => ∃ j : Nat, j ≤ args.length ∧ v8 = .int .i64 j ∧ (∀ x ∈ args.take j, isIx x i = true)) (fun v8 => args.length - (intOf v8).toNat)
  case atStart => exact ⟨0, by omega, rfl, by simp⟩
  case round =>
    obtain ⟨j, hj, rfl, hall⟩ := hrel
    by_cases hlt : j < args.length
    · have hjj : (j : Int) < args.length := by omega
      have HX := Lib.hid (List.getElem?_eq_getElem hlt)
      have HM := Lib.hid (List.getElem_mem hlt)
      have HT := Lib.hid (List.take_succ_eq_append_getElem hlt)
      generalize args[j] = x at *
      obtain ⟨ab, rfl, hbb, hcx⟩ := (HB.out.below hbw).cell HX.out
      have HV := Lib.hid (fun w => by have k := Within_c x 0 ((i : Int) - 1) w; rw [isIx_w, H4.out x HM.out] at k; exact k)
      have HA := Lib.hid hall
      clear hall
      go_wp2_with (go_at_call 31; ((with_reducible refine (HV.out _).mono ?_); rintro e w' ⟨rfl, rfl⟩))
      go_round
      case rel => exact ⟨j + 1, by omega, by go_num, fun z hz => by
        rw [HT.out, List.mem_append] at hz
        rcases hz with hz | hz
        · exact HA.out z hz
        · rw [List.mem_singleton.1 hz]; exact H4.out _ HM.out⟩
      case measure => simp [intOf]; omega
    · obtain rfl : j = args.length := by omega
      clear hall
      go_wp2_with (go_at_call 31; ((with_reducible refine (HU.out _).mono ?_); rintro e w' ⟨rfl, rfl⟩))
      refine (HF.out _ hbw).mono ?_
      rintro e w' ⟨rfl, z, rfl⟩
      go_wp2
      go_ret
      exact ⟨rfl, Below.aft (z.below hbw hbw.size)⟩

set_option maxRecDepth 100000 in
set_option maxHeartbeats 1600000 in
theorem nodeErr_14U (A : Option Addr) (cap : Nat) (ls : List Int) (hls : ls.length ≤ 65536) (ad : Addr) (capN : Nat) (ns : List Nd) (hns : ns.length ≤ 65536) (i : Nat) (wd v : Int) (args : List Int) (hla : args.length ≤ 65536) (hi : ns[i]? = some ⟨14, wd, args, v⟩) (w : World) (hA : LiesI w A ls) (hN : LiesN w (some ad) ns) (h1 : isIx 14 19 = true) (h2 : isW wd = true) (h3 : (args.length : Int) = argN 14) (h4 : ∀ x ∈ args, isIx x (ns.take i).length = true) (h5 : isIx v 16 = true) (hv : ∀ n ∈ ns.take i, isW n.wd = true) (hg : (14 : Int) ≤ 18) (h6 : fitW 14 wd v (wAt (ns.take i) args 0) (wAt (ns.take i) args 1) (wAt (ns.take i) args 2) = true) :
    Calls Tryd.prog 84 #[.slice A ls.length cap, .slice (some ad) ns.length capN, .int .i64 i] w fun e w' => e = .returned (.int .i64 0) ∧ ∃ x : Aft w, w' = x.val := by
  obtain ⟨ad', had, hbk, c0, c1, c3, B, bc, c2, hB⟩ := hN.cells hi
  obtain rfl : ad = ad' := Option.some.inj had
  have hil := (List.getElem?_eq_some_iff.1 hi).1
  have hik : (i : Int) < ns.length := by omega
  have c1' : w.cell? ⟨(ad.add (i * 4)).block, (ad.add (i * 4)).off + 1, none⟩ = some (.int .i64 wd) := c1
  have c2' : w.cell? ⟨(ad.add (i * 4)).block, (ad.add (i * 4)).off + 2, none⟩ = some (.slice B args.length bc) := c2
  have c3' : w.cell? ⟨(ad.add (i * 4)).block, (ad.add (i * 4)).off + 3, none⟩ = some (.int .i64 v) := c3
  have hlk : (ns.take i).length = i := by simp; omega
  clear c1 c2 c3 had
  have HI := Lib.hid (fun w => by have k := Within_c 14 0 18 w; rw [show win 14 0 18 = true by rw [← h1]; exact (isIx_win 14 19).symm] at k; exact k)
  have HW := Lib.hid (fun w => by have k := IsWidth_c wd w; rw [h2] at k; exact k)
  have HAC := Lib.hid (fun w => by have k := ArgCount_c 14 w; rw [← h3] at k; exact k)
  have HB := Lib.hid hB
  have HU := Lib.hid (fun w => by have k := Within_c v 0 15 w; rw [show win v 0 15 = true by rw [← h5]; exact (isIx_win v 16).symm] at k; exact k)
  have HF := Lib.hid (fun (W : World) (hb : Below w.heap.size w W) => by
    have k := rwidthsFit_c 14 wd v (by decide) hg (isW_iff.1 h2).1 (isW_iff.1 h2).2 (fun _ => by have := isIx_iff.1 h5; omega) B bc args h3 (some ad) capN ns hns i hv h4 W (hN.below hb) (hB.below hb)
    rw [h6] at k; exact k)
  rw [hlk] at h4
  have H4 := Lib.hid h4
  clear hA hN hB h1 h2 hi hlk h3 h4 h5 h6 hv hg
  go_enter Tryd.func84, Tryd.ntmps84
  go_wp2_with (first | (go_at_call 31; ((with_reducible refine (HI.out _).mono ?_); rintro e w' ⟨rfl, rfl⟩)) | (go_at_call 52; ((with_reducible refine (HW.out _).mono ?_); rintro e w' ⟨rfl, rfl⟩)))
  have r0 : (w.alloc (.cells #[.int .i64 14, .int .i64 wd, .slice B args.length bc, .int .i64 v] 65)).heap[w.heap.size]? = some (.cells #[.int .i64 14, .int .i64 wd, .slice B args.length bc, .int .i64 v] 65) := heap_alloc_new _ _
  have z0 : w.heap.size < (w.alloc (.cells #[.int .i64 14, .int .i64 wd, .slice B args.length bc, .int .i64 v] 65)).heap.size := by simp
  have hb0 : Below w.heap.size w (w.alloc (.cells #[.int .i64 14, .int .i64 wd, .slice B args.length bc, .int .i64 v] 65)) := (Below.refl _ _).alloc (Nat.le_refl _) _
  generalize (w.alloc (.cells #[.int .i64 14, .int .i64 wd, .slice B args.length bc, .int .i64 v] 65)) = W0 at *
  have q0 := cell_block (i := 0) r0
  have q1 := cell_block (i := 1) r0
  have q2 := cell_block (i := 2) r0
  have q3 := cell_block (i := 3) r0
  simp at q0 q1 q2 q3
  refine wp_region_aft (by kernel_rfl) (by kernel_rfl) ?_
  repeat (go_big_quiet_step ((go_at_call 102; exact Calls.qs (HAC.out _))))
  refine wpQuiet_nil ?_
  intro y
  have R0 := Lib.hid (show y.val.heap[w.heap.size]? = some (.cells #[.int .i64 14, .int .i64 wd, .slice B args.length bc, .int .i64 v] 65) by rw [y.pf.block _ z0]; exact r0)
  have hbw : Below w.heap.size w y.val := y.below hb0 hb0.size
  have zy : w.heap.size < y.val.heap.size := y.lt' z0
  clear r0 q0 q1 q2 q3 hb0 z0
  generalize y.val = W1 at *
  have r0 := R0.out
  have q0 := cell_block (i := 0) r0
  have q1 := cell_block (i := 1) r0
  have q2 := cell_block (i := 2) r0
  have q3 := cell_block (i := 3) r0
  simp at q0 q1 q2 q3
  clear r0
  go_wp2
  go_loop [8] (fun v8 => ∃ j : Nat, j ≤ args.length ∧ v8 = .int .i64 j ∧ (∀ x ∈ args.take j, isIx x i = true)) (fun v8 => args.length - (intOf v8).toNat)
  case atStart => exact ⟨0, by omega, rfl, by simp⟩
  case round =>
    obtain ⟨j, hj, rfl, hall⟩ := hrel
    by_cases hlt : j < args.length
    · have hjj : (j : Int) < args.length := by omega
      have HX := Lib.hid (List.getElem?_eq_getElem hlt)
      have HM := Lib.hid (List.getElem_mem hlt)
      have HT := Lib.hid (List.take_succ_eq_append_getElem hlt)
      generalize args[j] = x at *
      obtain ⟨ab, rfl, hbb, hcx⟩ := (HB.out.below hbw).cell HX.out
      have HV := Lib.hid (fun w => by have k := Within_c x 0 ((i : Int) - 1) w; rw [isIx_w, H4.out x HM.out] at k; exact k)
      have HA := Lib.hid hall
      clear hall
      go_wp2_with (go_at_call 31; ((with_reducible refine (HV.out _).mono ?_); rintro e w' ⟨rfl, rfl⟩))
      go_round
      case rel => exact ⟨j + 1, by omega, by go_num, fun z hz => by
        rw [HT.out, List.mem_append] at hz
        rcases hz with hz | hz
        · exact HA.out z hz
        · rw [List.mem_singleton.1 hz]; exact H4.out _ HM.out⟩
      case measure => simp [intOf]; omega
    · obtain rfl : j = args.length := by omega
      clear hall
      go_wp2_with (go_at_call 31; ((with_reducible refine (HU.out _).mono ?_); rintro e w' ⟨rfl, rfl⟩))
      refine (HF.out _ hbw).mono ?_
      rintro e w' ⟨rfl, z, rfl⟩
      go_wp2
      go_ret
      exact ⟨rfl, Below.aft (z.below hbw hbw.size)⟩

set_option maxRecDepth 100000 in
set_option maxHeartbeats 1600000 in
theorem nodeErr_xF (A : Option Addr) (cap : Nat) (ls : List Int) (hls : ls.length ≤ 65536) (ad : Addr) (capN : Nat) (ns : List Nd) (hns : ns.length ≤ 65536) (i : Nat) (op wd v : Int) (args : List Int) (hla : args.length ≤ 65536) (hi : ns[i]? = some ⟨op, wd, args, v⟩) (w : World) (hA : LiesI w A ls) (hN : LiesN w (some ad) ns) (h1 : isIx op 19 = true) (h2 : isW wd = true) (h3 : (args.length : Int) = argN op) (h4 : ∀ x ∈ args, isIx x (ns.take i).length = true) (o0 : ¬ op = 0) (o1 : ¬ op = 1) (o14 : ¬ op = 14) (h5 : ¬ v = 0) :
    Calls Tryd.prog 84 #[.slice A ls.length cap, .slice (some ad) ns.length capN, .int .i64 i] w fun e w' => e = .returned (.int .i64 3) ∧ ∃ x : Aft w, w' = x.val := by
  obtain ⟨ad', had, hbk, c0, c1, c3, B, bc, c2, hB⟩ := hN.cells hi
  obtain rfl : ad = ad' := Option.some.inj had
  have hil := (List.getElem?_eq_some_iff.1 hi).1
  have hik : (i : Int) < ns.length := by omega
  have c1' : w.cell? ⟨(ad.add (i * 4)).block, (ad.add (i * 4)).off + 1, none⟩ = some (.int .i64 wd) := c1
  have c2' : w.cell? ⟨(ad.add (i * 4)).block, (ad.add (i * 4)).off + 2, none⟩ = some (.slice B args.length bc) := c2
  have c3' : w.cell? ⟨(ad.add (i * 4)).block, (ad.add (i * 4)).off + 3, none⟩ = some (.int .i64 v) := c3
  have hlk : (ns.take i).length = i := by simp; omega
  clear c1 c2 c3 had
  have HI := Lib.hid (fun w => by have k := Within_c op 0 18 w; rw [show win op 0 18 = true by rw [← h1]; exact (isIx_win op 19).symm] at k; exact k)
  have HW := Lib.hid (fun w => by have k := IsWidth_c wd w; rw [h2] at k; exact k)
  have HAC := Lib.hid (fun w => by have k := ArgCount_c op w; rw [← h3] at k; exact k)
  have HB := Lib.hid hB
  have n0 : (op == 0) = false := by simpa using o0
  have n1 : (op == 1) = false := by simpa using o1
  have n14 : (op == 14) = false := by simpa using o14
  have n5 : (v == 0) = false := by simpa using h5
  rw [hlk] at h4
  have H4 := Lib.hid h4
  clear hA hN hB h1 h2 hi hlk h3 h4 h5 o0 o1 o14
  go_enter Tryd.func84, Tryd.ntmps84
  go_wp2_with (first | (go_at_call 31; ((with_reducible refine (HI.out _).mono ?_); rintro e w' ⟨rfl, rfl⟩)) | (go_at_call 52; ((with_reducible refine (HW.out _).mono ?_); rintro e w' ⟨rfl, rfl⟩)))
  have r0 : (w.alloc (.cells #[.int .i64 op, .int .i64 wd, .slice B args.length bc, .int .i64 v] 65)).heap[w.heap.size]? = some (.cells #[.int .i64 op, .int .i64 wd, .slice B args.length bc, .int .i64 v] 65) := heap_alloc_new _ _
  have z0 : w.heap.size < (w.alloc (.cells #[.int .i64 op, .int .i64 wd, .slice B args.length bc, .int .i64 v] 65)).heap.size := by simp
  have hb0 : Below w.heap.size w (w.alloc (.cells #[.int .i64 op, .int .i64 wd, .slice B args.length bc, .int .i64 v] 65)) := (Below.refl _ _).alloc (Nat.le_refl _) _
  generalize (w.alloc (.cells #[.int .i64 op, .int .i64 wd, .slice B args.length bc, .int .i64 v] 65)) = W0 at *
  have q0 := cell_block (i := 0) r0
  have q1 := cell_block (i := 1) r0
  have q2 := cell_block (i := 2) r0
  have q3 := cell_block (i := 3) r0
  simp at q0 q1 q2 q3
  refine wp_region_aft (by kernel_rfl) (by kernel_rfl) ?_
  repeat (go_big_quiet_step ((go_at_call 102; exact Calls.qs (HAC.out _))))
  refine wpQuiet_nil ?_
  intro y
  have R0 := Lib.hid (show y.val.heap[w.heap.size]? = some (.cells #[.int .i64 op, .int .i64 wd, .slice B args.length bc, .int .i64 v] 65) by rw [y.pf.block _ z0]; exact r0)
  have hbw : Below w.heap.size w y.val := y.below hb0 hb0.size
  have zy : w.heap.size < y.val.heap.size := y.lt' z0
  clear r0 q0 q1 q2 q3 hb0 z0
  generalize y.val = W1 at *
  have r0 := R0.out
  have q0 := cell_block (i := 0) r0
  have q1 := cell_block (i := 1) r0
  have q2 := cell_block (i := 2) r0
  have q3 := cell_block (i := 3) r0
  simp at q0 q1 q2 q3
  clear r0
  go_wp2
  go_loop [8] (fun v8 => ∃ j : Nat, j ≤ args.length ∧ v8 = .int .i64 j ∧ (∀ x ∈ args.take j, isIx x i = true)) (fun v8 => args.length - (intOf v8).toNat)
  case atStart => exact ⟨0, by omega, rfl, by simp⟩
  case round =>
    obtain ⟨j, hj, rfl, hall⟩ := hrel
    by_cases hlt : j < args.length
    · have hjj : (j : Int) < args.length := by omega
      have HX := Lib.hid (List.getElem?_eq_getElem hlt)
      have HM := Lib.hid (List.getElem_mem hlt)
      have HT := Lib.hid (List.take_succ_eq_append_getElem hlt)
      generalize args[j] = x at *
      obtain ⟨ab, rfl, hbb, hcx⟩ := (HB.out.below hbw).cell HX.out
      have HV := Lib.hid (fun w => by have k := Within_c x 0 ((i : Int) - 1) w; rw [isIx_w, H4.out x HM.out] at k; exact k)
      have HA := Lib.hid hall
      clear hall
      go_wp2_with (go_at_call 31; ((with_reducible refine (HV.out _).mono ?_); rintro e w' ⟨rfl, rfl⟩))
      go_round
      case rel => exact ⟨j + 1, by omega, by go_num, fun z hz => by
        rw [HT.out, List.mem_append] at hz
        rcases hz with hz | hz
        · exact HA.out z hz
        · rw [List.mem_singleton.1 hz]; exact H4.out _ HM.out⟩
      case measure => simp [intOf]; omega
    · obtain rfl : j = args.length := by omega
      clear hall
      go_wp2
      go_ret
      exact ⟨rfl, Below.aft hbw⟩

set_option maxRecDepth 100000 in
set_option maxHeartbeats 1600000 in
theorem nodeErr_xT (A : Option Addr) (cap : Nat) (ls : List Int) (hls : ls.length ≤ 65536) (ad : Addr) (capN : Nat) (ns : List Nd) (hns : ns.length ≤ 65536) (i : Nat) (op wd : Int) (args : List Int) (hla : args.length ≤ 65536) (hi : ns[i]? = some ⟨op, wd, args, 0⟩) (w : World) (hA : LiesI w A ls) (hN : LiesN w (some ad) ns) (h1 : isIx op 19 = true) (h2 : isW wd = true) (h3 : (args.length : Int) = argN op) (h4 : ∀ x ∈ args, isIx x (ns.take i).length = true) (o0 : ¬ op = 0) (o1 : ¬ op = 1) (o14 : ¬ op = 14) (hg2 : 2 ≤ op) (hv : ∀ n ∈ ns.take i, isW n.wd = true) (hg : op ≤ 18) (h6 : fitW op wd 0 (wAt (ns.take i) args 0) (wAt (ns.take i) args 1) (wAt (ns.take i) args 2) = false) :
    Calls Tryd.prog 84 #[.slice A ls.length cap, .slice (some ad) ns.length capN, .int .i64 i] w fun e w' => e = .returned (.int .i64 25) ∧ ∃ x : Aft w, w' = x.val := by
  obtain ⟨ad', had, hbk, c0, c1, c3, B, bc, c2, hB⟩ := hN.cells hi
  obtain rfl : ad = ad' := Option.some.inj had
  have hil := (List.getElem?_eq_some_iff.1 hi).1
  have hik : (i : Int) < ns.length := by omega
  have c1' : w.cell? ⟨(ad.add (i * 4)).block, (ad.add (i * 4)).off + 1, none⟩ = some (.int .i64 wd) := c1
  have c2' : w.cell? ⟨(ad.add (i * 4)).block, (ad.add (i * 4)).off + 2, none⟩ = some (.slice B args.length bc) := c2
  have c3' : w.cell? ⟨(ad.add (i * 4)).block, (ad.add (i * 4)).off + 3, none⟩ = some (.int .i64 0) := c3
  have hlk : (ns.take i).length = i := by simp; omega
  clear c1 c2 c3 had
  have HI := Lib.hid (fun w => by have k := Within_c op 0 18 w; rw [show win op 0 18 = true by rw [← h1]; exact (isIx_win op 19).symm] at k; exact k)
  have HW := Lib.hid (fun w => by have k := IsWidth_c wd w; rw [h2] at k; exact k)
  have HAC := Lib.hid (fun w => by have k := ArgCount_c op w; rw [← h3] at k; exact k)
  have HB := Lib.hid hB
  have n0 : (op == 0) = false := by simpa using o0
  have n1 : (op == 1) = false := by simpa using o1
  have n14 : (op == 14) = false := by simpa using o14
  have HF := Lib.hid (fun (W : World) (hb : Below w.heap.size w W) => by
    have k := rwidthsFit_c op wd 0 hg2 hg (isW_iff.1 h2).1 (isW_iff.1 h2).2 (fun e => absurd e o14) B bc args h3 (some ad) capN ns hns i hv h4 W (hN.below hb) (hB.below hb)
    rw [h6] at k; exact k)
  rw [hlk] at h4
  have H4 := Lib.hid h4
  clear hA hN hB h1 h2 hi hlk h3 h4 o0 o1 o14 h6 hv hg hg2
  go_enter Tryd.func84, Tryd.ntmps84
  go_wp2_with (first | (go_at_call 31; ((with_reducible refine (HI.out _).mono ?_); rintro e w' ⟨rfl, rfl⟩)) | (go_at_call 52; ((with_reducible refine (HW.out _).mono ?_); rintro e w' ⟨rfl, rfl⟩)))
  have r0 : (w.alloc (.cells #[.int .i64 op, .int .i64 wd, .slice B args.length bc, .int .i64 0] 65)).heap[w.heap.size]? = some (.cells #[.int .i64 op, .int .i64 wd, .slice B args.length bc, .int .i64 0] 65) := heap_alloc_new _ _
  have z0 : w.heap.size < (w.alloc (.cells #[.int .i64 op, .int .i64 wd, .slice B args.length bc, .int .i64 0] 65)).heap.size := by simp
  have hb0 : Below w.heap.size w (w.alloc (.cells #[.int .i64 op, .int .i64 wd, .slice B args.length bc, .int .i64 0] 65)) := (Below.refl _ _).alloc (Nat.le_refl _) _
  generalize (w.alloc (.cells #[.int .i64 op, .int .i64 wd, .slice B args.length bc, .int .i64 0] 65)) = W0 at *
  have q0 := cell_block (i := 0) r0
  have q1 := cell_block (i := 1) r0
  have q2 := cell_block (i := 2) r0
  have q3 := cell_block (i := 3) r0
  simp at q0 q1 q2 q3
  refine wp_region_aft (by kernel_rfl) (by kernel_rfl) ?_
  repeat (go_big_quiet_step ((go_at_call 102; exact Calls.qs (HAC.out _))))
  refine wpQuiet_nil ?_
  intro y
  have R0 := Lib.hid (show y.val.heap[w.heap.size]? = some (.cells #[.int .i64 op, .int .i64 wd, .slice B args.length bc, .int .i64 0] 65) by rw [y.pf.block _ z0]; exact r0)
  have hbw : Below w.heap.size w y.val := y.below hb0 hb0.size
  have zy : w.heap.size < y.val.heap.size := y.lt' z0
  clear r0 q0 q1 q2 q3 hb0 z0
  generalize y.val = W1 at *
  have r0 := R0.out
  have q0 := cell_block (i := 0) r0
  have q1 := cell_block (i := 1) r0
  have q2 := cell_block (i := 2) r0
  have q3 := cell_block (i := 3) r0
  simp at q0 q1 q2 q3
  clear r0
  go_wp2
  go_loop [8] (fun v8 => ∃ j : Nat, j ≤ args.length ∧ v8 = .int .i64 j ∧ (∀ x ∈ args.take j, isIx x i = true)) (fun v8 => args.length - (intOf v8).toNat)
  case atStart => exact ⟨0, by omega, rfl, by simp⟩
  case round =>
    obtain ⟨j, hj, rfl, hall⟩ := hrel
    by_cases hlt : j < args.length
    · have hjj : (j : Int) < args.length := by omega
      have HX := Lib.hid (List.getElem?_eq_getElem hlt)
      have HM := Lib.hid (List.getElem_mem hlt)
      have HT := Lib.hid (List.take_succ_eq_append_getElem hlt)
      generalize args[j] = x at *
      obtain ⟨ab, rfl, hbb, hcx⟩ := (HB.out.below hbw).cell HX.out
      have HV := Lib.hid (fun w => by have k := Within_c x 0 ((i : Int) - 1) w; rw [isIx_w, H4.out x HM.out] at k; exact k)
      have HA := Lib.hid hall
      clear hall
      go_wp2_with (go_at_call 31; ((with_reducible refine (HV.out _).mono ?_); rintro e w' ⟨rfl, rfl⟩))
      go_round
      case rel => exact ⟨j + 1, by omega, by go_num, fun z hz => by
        rw [HT.out, List.mem_append] at hz
        rcases hz with hz | hz
        · exact HA.out z hz
        · rw [List.mem_singleton.1 hz]; exact H4.out _ HM.out⟩
      case measure => simp [intOf]; omega
    · obtain rfl : j = args.length := by omega
      clear hall
      go_wp2_with fail
      refine (HF.out _ hbw).mono ?_
      rintro e w' ⟨rfl, z, rfl⟩
      go_wp2
      go_ret
      exact ⟨rfl, Below.aft (z.below hbw hbw.size)⟩

set_option maxRecDepth 100000 in
set_option maxHeartbeats 1600000 in
theorem nodeErr_xU (A : Option Addr) (cap : Nat) (ls : List Int) (hls : ls.length ≤ 65536) (ad : Addr) (capN : Nat) (ns : List Nd) (hns : ns.length ≤ 65536) (i : Nat) (op wd : Int) (args : List Int) (hla : args.length ≤ 65536) (hi : ns[i]? = some ⟨op, wd, args, 0⟩) (w : World) (hA : LiesI w A ls) (hN : LiesN w (some ad) ns) (h1 : isIx op 19 = true) (h2 : isW wd = true) (h3 : (args.length : Int) = argN op) (h4 : ∀ x ∈ args, isIx x (ns.take i).length = true) (o0 : ¬ op = 0) (o1 : ¬ op = 1) (o14 : ¬ op = 14) (hg2 : 2 ≤ op) (hv : ∀ n ∈ ns.take i, isW n.wd = true) (hg : op ≤ 18) (h6 : fitW op wd 0 (wAt (ns.take i) args 0) (wAt (ns.take i) args 1) (wAt (ns.take i) args 2) = true) :
    Calls Tryd.prog 84 #[.slice A ls.length cap, .slice (some ad) ns.length capN, .int .i64 i] w fun e w' => e = .returned (.int .i64 0) ∧ ∃ x : Aft w, w' = x.val := by
  obtain ⟨ad', had, hbk, c0, c1, c3, B, bc, c2, hB⟩ := hN.cells hi
  obtain rfl : ad = ad' := Option.some.inj had
  have hil := (List.getElem?_eq_some_iff.1 hi).1
  have hik : (i : Int) < ns.length := by omega
  have c1' : w.cell? ⟨(ad.add (i * 4)).block, (ad.add (i * 4)).off + 1, none⟩ = some (.int .i64 wd) := c1
  have c2' : w.cell? ⟨(ad.add (i * 4)).block, (ad.add (i * 4)).off + 2, none⟩ = some (.slice B args.length bc) := c2
  have c3' : w.cell? ⟨(ad.add (i * 4)).block, (ad.add (i * 4)).off + 3, none⟩ = some (.int .i64 0) := c3
  have hlk : (ns.take i).length = i := by simp; omega
  clear c1 c2 c3 had
  have HI := Lib.hid (fun w => by have k := Within_c op 0 18 w; rw [show win op 0 18 = true by rw [← h1]; exact (isIx_win op 19).symm] at k; exact k)
  have HW := Lib.hid (fun w => by have k := IsWidth_c wd w; rw [h2] at k; exact k)
  have HAC := Lib.hid (fun w => by have k := ArgCount_c op w; rw [← h3] at k; exact k)
  have HB := Lib.hid hB
  have n0 : (op == 0) = false := by simpa using o0
  have n1 : (op == 1) = false := by simpa using o1
  have n14 : (op == 14) = false := by simpa using o14
  have HF := Lib.hid (fun (W : World) (hb : Below w.heap.size w W) => by
    have k := rwidthsFit_c op wd 0 hg2 hg (isW_iff.1 h2).1 (isW_iff.1 h2).2 (fun e => absurd e o14) B bc args h3 (some ad) capN ns hns i hv h4 W (hN.below hb) (hB.below hb)
    rw [h6] at k; exact k)
  rw [hlk] at h4
  have H4 := Lib.hid h4
  clear hA hN hB h1 h2 hi hlk h3 h4 o0 o1 o14 h6 hv hg hg2
  go_enter Tryd.func84, Tryd.ntmps84
  go_wp2_with (first | (go_at_call 31; ((with_reducible refine (HI.out _).mono ?_); rintro e w' ⟨rfl, rfl⟩)) | (go_at_call 52; ((with_reducible refine (HW.out _).mono ?_); rintro e w' ⟨rfl, rfl⟩)))
  have r0 : (w.alloc (.cells #[.int .i64 op, .int .i64 wd, .slice B args.length bc, .int .i64 0] 65)).heap[w.heap.size]? = some (.cells #[.int .i64 op, .int .i64 wd, .slice B args.length bc, .int .i64 0] 65) := heap_alloc_new _ _
  have z0 : w.heap.size < (w.alloc (.cells #[.int .i64 op, .int .i64 wd, .slice B args.length bc, .int .i64 0] 65)).heap.size := by simp
  have hb0 : Below w.heap.size w (w.alloc (.cells #[.int .i64 op, .int .i64 wd, .slice B args.length bc, .int .i64 0] 65)) := (Below.refl _ _).alloc (Nat.le_refl _) _
  generalize (w.alloc (.cells #[.int .i64 op, .int .i64 wd, .slice B args.length bc, .int .i64 0] 65)) = W0 at *
  have q0 := cell_block (i := 0) r0
  have q1 := cell_block (i := 1) r0
  have q2 := cell_block (i := 2) r0
  have q3 := cell_block (i := 3) r0
  simp at q0 q1 q2 q3
  refine wp_region_aft (by kernel_rfl) (by kernel_rfl) ?_
  repeat (go_big_quiet_step ((go_at_call 102; exact Calls.qs (HAC.out _))))
  refine wpQuiet_nil ?_
  intro y
  have R0 := Lib.hid (show y.val.heap[w.heap.size]? = some (.cells #[.int .i64 op, .int .i64 wd, .slice B args.length bc, .int .i64 0] 65) by rw [y.pf.block _ z0]; exact r0)
  have hbw : Below w.heap.size w y.val := y.below hb0 hb0.size
  have zy : w.heap.size < y.val.heap.size := y.lt' z0
  clear r0 q0 q1 q2 q3 hb0 z0
  generalize y.val = W1 at *
  have r0 := R0.out
  have q0 := cell_block (i := 0) r0
  have q1 := cell_block (i := 1) r0
  have q2 := cell_block (i := 2) r0
  have q3 := cell_block (i := 3) r0
  simp at q0 q1 q2 q3
  clear r0
  go_wp2
  go_loop [8] (fun v8 => ∃ j : Nat, j ≤ args.length ∧ v8 = .int .i64 j ∧ (∀ x ∈ args.take j, isIx x i = true)) (fun v8 => args.length - (intOf v8).toNat)
  case atStart => exact ⟨0, by omega, rfl, by simp⟩
  case round =>
    obtain ⟨j, hj, rfl, hall⟩ := hrel
    by_cases hlt : j < args.length
    · have hjj : (j : Int) < args.length := by omega
      have HX := Lib.hid (List.getElem?_eq_getElem hlt)
      have HM := Lib.hid (List.getElem_mem hlt)
      have HT := Lib.hid (List.take_succ_eq_append_getElem hlt)
      generalize args[j] = x at *
      obtain ⟨ab, rfl, hbb, hcx⟩ := (HB.out.below hbw).cell HX.out
      have HV := Lib.hid (fun w => by have k := Within_c x 0 ((i : Int) - 1) w; rw [isIx_w, H4.out x HM.out] at k; exact k)
      have HA := Lib.hid hall
      clear hall
      go_wp2_with (go_at_call 31; ((with_reducible refine (HV.out _).mono ?_); rintro e w' ⟨rfl, rfl⟩))
      go_round
      case rel => exact ⟨j + 1, by omega, by go_num, fun z hz => by
        rw [HT.out, List.mem_append] at hz
        rcases hz with hz | hz
        · exact HA.out z hz
        · rw [List.mem_singleton.1 hz]; exact H4.out _ HM.out⟩
      case measure => simp [intOf]; omega
    · obtain rfl : j = args.length := by omega
      clear hall
      go_wp2_with fail
      refine (HF.out _ hbw).mono ?_
      rintro e w' ⟨rfl, z, rfl⟩
      go_wp2
      go_ret
      exact ⟨rfl, Below.aft (z.below hbw hbw.size)⟩

end Go.Proofs.YtkdonapgonegkaaDoor

set_option linter.unusedSimpArgs false
set_option linter.unusedVariables false
namespace Go.Proofs.YtkdonapgonegkaaDoor
open Go.RowKit Go.BigFrame

set_option maxRecDepth 100000 in
set_option maxHeartbeats 1600000 in
theorem nodeErr_c (A : Option Addr) (cap : Nat) (ls : List Int) (hls : ls.length ≤ 65536) (ad : Addr) (capN : Nat) (ns : List Nd) (hns : ns.length ≤ 65536) (i : Nat) (op wd v : Int) (args : List Int) (hla : args.length ≤ 65536) (hi : ns[i]? = some ⟨op, wd, args, v⟩) (w : World) (hA : LiesI w A ls) (hN : LiesN w (some ad) ns) (hv : ∀ n ∈ ns.take i, isW n.wd = true) :
    Calls Tryd.prog 84 #[.slice A ls.length cap, .slice (some ad) ns.length capN, .int .i64 i] w fun e w' => e = .returned (.int .i64 (nodeE ls (ns.take i) ⟨op, wd, args, v⟩)) ∧ ∃ x : Aft w, w' = x.val := by
  cases h1 : isIx op 19
  · exact nodeErr_15 A cap ls hls ad capN ns hns i op wd v args hla hi w hA hN h1
  cases h2 : isW wd
  · exact nodeErr_2 A cap ls hls ad capN ns hns i op wd v args hla hi w hA hN h1 h2
  by_cases h3 : (args.length : Int) = argN op
  case neg => exact nodeErr_10 A cap ls hls ad capN ns hns i op wd v args hla hi w hA hN h1 h2 h3
  by_cases h4 : ∀ x ∈ args, isIx x (ns.take i).length = true
  case neg => exact nodeErr_9 A cap ls hls ad capN ns hns i op wd v args hla hi w hA hN h1 h2 h3 h4
  by_cases o0 : op = 0
  · subst o0
    cases h5 : isV v wd
    · rw [nodeR_n h1 h2 h3 h4 (c := 2) (by show eIf (!isV v wd) 2 = 2; rw [h5]; rfl) (by decide)]
      exact nodeErr_0F A cap ls hls ad capN ns hns i wd v args hla hi w hA hN h1 h2 h3 h4 h5
    · rw [nodeR_0 h1 h2 h3 h4 (by show eIf (!isV v wd) 2 = 0; rw [h5]; rfl)]
      exact nodeErr_0T A cap ls hls ad capN ns hns i wd v args hla hi w hA hN h1 h2 h3 h4 h5
  by_cases o1 : op = 1
  · subst o1
    cases h5 : isIx v ls.length
    · rw [nodeR_n h1 h2 h3 h4 (c := 6) (by show (if isIx v ls.length then eIf (ls.getD v.toNat 0 != wd) 25 else 6) = 6; rw [h5]; rfl) (by decide)]
      exact nodeErr_1A A cap ls hls ad capN ns hns i wd v args hla hi w hA hN h1 h2 h3 h4 h5
    · obtain ⟨k, rfl⟩ := Int.eq_ofNat_of_zero_le (isIx_iff.1 h5).1
      have hk : k < ls.length := by have := (isIx_iff.1 h5).2; omega
      have hy := List.getElem?_eq_getElem hk
      have hn : numE ls 1 wd (k : Int) = eIf (ls[k] != wd) 25 := by
        show (if isIx (k : Int) ls.length then eIf (ls.getD (k : Int).toNat 0 != wd) 25 else 6) = _
        rw [h5, if_pos rfl]; simp [hk]
      by_cases h6 : ls[k] = wd
      · rw [nodeR_0 h1 h2 h3 h4 (by rw [hn, h6]; simp [eIf])]
        exact nodeErr_1C k ls[k] A cap ls hls ad capN ns hns i wd args hla hi w hA hN h1 h2 h3 h4 h5 hy h6
      · have n6 : (ls[k] != wd) = true := by simpa using h6
        rw [nodeR_n h1 h2 h3 h4 (c := 25) (by rw [hn, n6]; rfl) (by decide)]
        exact nodeErr_1B k ls[k] A cap ls hls ad capN ns hns i wd args hla hi w hA hN h1 h2 h3 h4 h5 hy h6
  by_cases o14 : op = 14
  · subst o14
    cases h5 : isIx v 16
    · rw [nodeR_n h1 h2 h3 h4 (c := 2) (by show eIf (!isIx v 16) 2 = 2; rw [h5]; rfl) (by decide)]
      exact nodeErr_14F A cap ls hls ad capN ns hns i wd v args hla hi w hA hN h1 h2 h3 h4 h5
    · rw [nodeR_0 h1 h2 h3 h4 (by show eIf (!isIx v 16) 2 = 0; rw [h5]; rfl)]
      cases h6 : fitW 14 wd v (wAt (ns.take i) args 0) (wAt (ns.take i) args 1) (wAt (ns.take i) args 2)
      · exact nodeErr_14T A cap ls hls ad capN ns hns i wd v args hla hi w hA hN h1 h2 h3 h4 h5 hv (by decide) h6
      · exact nodeErr_14U A cap ls hls ad capN ns hns i wd v args hla hi w hA hN h1 h2 h3 h4 h5 hv (by decide) h6
  obtain ⟨p0, p1⟩ := isIx_iff.1 h1
  have hn : numE ls op wd v = eIf (v != 0) 3 := by unfold numE; rw [if_neg o0, if_neg o1, if_neg o14]
  by_cases h5 : v = 0
  · subst h5
    rw [nodeR_0 h1 h2 h3 h4 (by rw [hn]; rfl)]
    cases h6 : fitW op wd 0 (wAt (ns.take i) args 0) (wAt (ns.take i) args 1) (wAt (ns.take i) args 2)
    · exact nodeErr_xT A cap ls hls ad capN ns hns i op wd args hla hi w hA hN h1 h2 h3 h4 o0 o1 o14 (by omega) hv (by omega) h6
    · exact nodeErr_xU A cap ls hls ad capN ns hns i op wd args hla hi w hA hN h1 h2 h3 h4 o0 o1 o14 (by omega) hv (by omega) h6
  · have n5 : (v != 0) = true := by simpa using h5
    rw [nodeR_n h1 h2 h3 h4 (c := 3) (by rw [hn, n5]; rfl) (by decide)]
    exact nodeErr_xF A cap ls hls ad capN ns hns i op wd v args hla hi w hA hN h1 h2 h3 h4 o0 o1 o14 h5

/-- What NodesErr answers: the first node with an error. -/
def nErr (ls : List Int) (ns : List Nd) : Int × Int := if 400 < ns.length then (0, 8) else firstAt (nodesE ls ns) ns.length 0

theorem leafE_at {ls : List Int} {k : Nat} {x : Int} (h : ls[k]? = some x) : leafE ls k = eIf (!isW x) 2 := by unfold leafE; simp [List.getD, h]

end Go.Proofs.YtkdonapgonegkaaDoor

set_option linter.unusedSimpArgs false
set_option linter.unusedVariables false
namespace Go.Proofs.YtkdonapgonegkaaDoor
open Go.RowKit Go.BigFrame

end Go.Proofs.YtkdonapgonegkaaDoor
