/-
  The law GraphAlways of chapter 2 (graph): the early ways out, and nodes in error.
-/
import Derived.Test.YtkdonapgonegkaaDoorQL
import Derived.Test.YtkdonapgonegkaaDoorQG
import Derived.Test.YtkdonapgonegkaaDoorQH
import Derived.Test.YtkdonapgonegkaaDoorQD
set_option linter.unusedSimpArgs false
set_option linter.unusedVariables false
namespace Go.Proofs.YtkdonapgonegkaaDoor
open Go.RowKit Go.BigFrame
set_option maxRecDepth 100000 in
set_option maxHeartbeats 4000000 in
theorem GraphAlways_few (A : Option Addr) (cap : Nat) (ls : List Int) (N : Option Addr) (capN : Nat) (ns : List Nd) (x0 x1 : Int) (w : World)
    (hA : LiesI w A ls) (hA0 : ls.length = 0 → A = none ∧ cap = 0 ∨ ∃ ad, A = some ad) (hN : LiesG w N ns) (ht : TabOps w) (hfa : fewB ls ns = false) :
    Calls Tryd.prog 6 #[.slice A ls.length cap, .slice N ns.length capN, .agg #[.int .i64 x0, .int .i64 x1]] w fun e w' => e = .returned (.bool true) ∧ ∃ x : Aft w, w' = x.val := by
  have HAW := Lib.hid (fun (W : World) (hb : Below w.heap.size w W) => awake_c W (ht.below hb))
  have HFA := Lib.hid (fun (W : World) (hb : Below w.heap.size w W) => few_c A cap ls N capN ns W (hN.n.below hb))
  rw [hfa] at HFA
  clear hfa hA hA0 hN ht
  go_enter Tryd.func6, Tryd.ntmps6
  go_upto_region 1 with (fail)
  have hb1 : Below w.heap.size w (w.alloc (.cells #[.int .i64 x0, .int .i64 x1] 48)) := (Below.refl _ _).alloc (Nat.le_refl _) _
  have rX1 : (w.alloc (.cells #[.int .i64 x0, .int .i64 x1] 48)).heap[w.heap.size]? = some (.cells #[.int .i64 x0, .int .i64 x1] 48) := heap_alloc_at rfl
  generalize w.alloc (.cells #[.int .i64 x0, .int .i64 x1] 48) = W1 at *
  go_wp2_with fail
  refine (HAW.out W1 hb1).mono ?_
  rintro e w' ⟨rfl, y, rfl⟩
  have hb2 := y.below hb1 hb1.size
  have rX2 := heap_aft y (lt_of_get rX1) rX1
  clear hb1 rX1
  generalize y.val = W2 at *
  have HX := Lib.hid (show ∀ W : World, Below W2.heap.size W2 W → W.cell? ⟨w.heap.size, 0, none⟩ = some (.int .i64 x0) ∧ W.cell? ⟨w.heap.size, 1, none⟩ = some (.int .i64 x1) from fun W hb => by
    have rX := (hb.block _ (lt_of_get rX2)).trans rX2
    have q0 := cell_block (i := 0) rX
    have q1 := cell_block (i := 1) rX
    simp at q0 q1
    exact ⟨q0, q1⟩)
  clear rX2
  go_wp2_with fail
  refine (HFA.out W2 hb2).mono ?_
  rintro e w' ⟨rfl, rfl⟩
  go_wp2
  go_ret
  exact ⟨by first | rfl | simp, Below.aft (hb2)⟩

set_option maxRecDepth 100000 in
set_option maxHeartbeats 4000000 in
theorem GraphAlways_none (A : Option Addr) (cap : Nat) (ls : List Int) (N : Option Addr) (capN : Nat) (ns : List Nd) (x0 x1 : Int) (w : World)
    (hA : LiesI w A ls) (hA0 : ls.length = 0 → A = none ∧ cap = 0 ∨ ∃ ad, A = some ad) (hN : LiesG w N ns) (ht : TabOps w) (hfa : fewB ls ns = true) (h0 : ls.length = 0) :
    Calls Tryd.prog 6 #[.slice A ls.length cap, .slice N ns.length capN, .agg #[.int .i64 x0, .int .i64 x1]] w fun e w' => e = .returned (.bool true) ∧ ∃ x : Aft w, w' = x.val := by
  obtain rfl : ls = [] := List.length_eq_zero_iff.1 h0
  have HAW := Lib.hid (fun (W : World) (hb : Below w.heap.size w W) => awake_c W (ht.below hb))
  have HFA := Lib.hid (fun (W : World) (hb : Below w.heap.size w W) => few_c A cap [] N capN ns W (hN.n.below hb))
  rw [hfa] at HFA
  clear h0 hfa hA hA0 hN ht
  go_enter Tryd.func6, Tryd.ntmps6
  go_upto_region 1 with (fail)
  have hb1 : Below w.heap.size w (w.alloc (.cells #[.int .i64 x0, .int .i64 x1] 48)) := (Below.refl _ _).alloc (Nat.le_refl _) _
  have rX1 : (w.alloc (.cells #[.int .i64 x0, .int .i64 x1] 48)).heap[w.heap.size]? = some (.cells #[.int .i64 x0, .int .i64 x1] 48) := heap_alloc_at rfl
  generalize w.alloc (.cells #[.int .i64 x0, .int .i64 x1] 48) = W1 at *
  go_wp2_with fail
  refine (HAW.out W1 hb1).mono ?_
  rintro e w' ⟨rfl, y, rfl⟩
  have hb2 := y.below hb1 hb1.size
  have rX2 := heap_aft y (lt_of_get rX1) rX1
  clear hb1 rX1
  generalize y.val = W2 at *
  have HX := Lib.hid (show ∀ W : World, Below W2.heap.size W2 W → W.cell? ⟨w.heap.size, 0, none⟩ = some (.int .i64 x0) ∧ W.cell? ⟨w.heap.size, 1, none⟩ = some (.int .i64 x1) from fun W hb => by
    have rX := (hb.block _ (lt_of_get rX2)).trans rX2
    have q0 := cell_block (i := 0) rX
    have q1 := cell_block (i := 1) rX
    simp at q0 q1
    exact ⟨q0, q1⟩)
  clear rX2
  go_wp2_with fail
  refine (HFA.out W2 hb2).mono ?_
  rintro e w' ⟨rfl, rfl⟩
  go_wp2
  go_ret
  exact ⟨by first | rfl | simp, Below.aft (hb2)⟩

set_option maxRecDepth 100000 in
set_option maxHeartbeats 4000000 in
theorem GraphAlways_bad (A : Option Addr) (cap : Nat) (ls : List Int) (N : Option Addr) (capN : Nat) (ns : List Nd) (x0 x1 : Int) (w : World)
    (hA : LiesI w A ls) (hA0 : ls.length = 0 → A = none ∧ cap = 0 ∨ ∃ ad, A = some ad) (hN : LiesG w N ns) (ht : TabOps w) (hfa : fewB ls ns = true) (h0 : ls.length ≠ 0) (hz : (chk ls ns).2 ≠ 0) :
    Calls Tryd.prog 6 #[.slice A ls.length cap, .slice N ns.length capN, .agg #[.int .i64 x0, .int .i64 x1]] w fun e w' => e = .returned (.bool true) ∧ ∃ x : Aft w, w' = x.val := by
  have HAW := Lib.hid (fun (W : World) (hb : Below w.heap.size w W) => awake_c W (ht.below hb))
  have HFA := Lib.hid (fun (W : World) (hb : Below w.heap.size w W) => few_c A cap ls N capN ns W (hN.n.below hb))
  obtain ⟨f1, f2, f3⟩ := fewB_true hfa
  have f4 : ∀ n ∈ ns, n.args.length ≤ 65536 := fun n hn => by have := f3 n hn; omega
  have HCI := Lib.hid (fun (W : World) (hb : Below w.heap.size w W) => CopyIntsI_c A cap ls W (hA.below hb) hA0 (by omega))
  have HCN := Lib.hid (fun (W : World) (hb : Below w.heap.size w W) => CopyNodes_c N capN ns (by omega) f4 W (hN.below hb))
  have HDF := Lib.hid (fun (W : World) (hb : Below w.heap.size w W) (A' : Option Addr) (c' : Nat) (N' : Option Addr) (cn' : Nat) (h1 : LiesI W A' ls) (h2 : LiesN W N' ns) (h3 : ns.length ≤ cn') => DifferenceOf_all A' c' ls (by omega) N' cn' ns (by omega) h3 f4 x0 x1 W h1 h2 (ht.below hb))
  have HCF := Lib.hid (fun (W : World) (hb : Below w.heap.size w W) (A' : Option Addr) (c' : Nat) (N' : Option Addr) (cn' : Nat) (h1 : LiesI W A' ls) (h2 : LiesN W N' ns) (h3 : ns.length ≤ cn') => ConstantAt_all A' c' ls (by omega) N' cn' ns (by omega) h3 f4 x0 W h1 h2 (ht.below hb))
  have HNE := Lib.hid (fun (W : World) (hb : Below w.heap.size w W) => refNodesErrX_c A cap ls N capN ns (by omega) W (hA.below hb) (hN.n.below hb))
  rw [hfa] at HFA
  have h0b : ((ls.length : Int) == 0) = false := by simpa using (by omega : ¬ (ls.length : Int) = 0)
  have HNN := Lib.hid (show fromE ls ns [x0, x1] = (chk ls ns).2 ∧ fromE ls ns [x0] = (chk ls ns).2 from ⟨if_neg hz, if_neg hz⟩)
  have HBO := Lib.hid (fun (W : World) => bothA_c (chk ls ns).2 0 W)
  rw [show thenE (chk ls ns).2 0 = (chk ls ns).2 from if_neg hz] at HBO
  have hh0 := h0
  clear hfa hA hA0 hN ht f1 f2 f3 f4
  go_enter Tryd.func6, Tryd.ntmps6
  go_upto_region 1 with (fail)
  have hb1 : Below w.heap.size w (w.alloc (.cells #[.int .i64 x0, .int .i64 x1] 48)) := (Below.refl _ _).alloc (Nat.le_refl _) _
  have rX1 : (w.alloc (.cells #[.int .i64 x0, .int .i64 x1] 48)).heap[w.heap.size]? = some (.cells #[.int .i64 x0, .int .i64 x1] 48) := heap_alloc_at rfl
  generalize w.alloc (.cells #[.int .i64 x0, .int .i64 x1] 48) = W1 at *
  go_wp2_with fail
  refine (HAW.out W1 hb1).mono ?_
  rintro e w' ⟨rfl, y, rfl⟩
  have hb2 := y.below hb1 hb1.size
  have rX2 := heap_aft y (lt_of_get rX1) rX1
  clear hb1 rX1
  generalize y.val = W2 at *
  have HX := Lib.hid (show ∀ W : World, Below W2.heap.size W2 W → W.cell? ⟨w.heap.size, 0, none⟩ = some (.int .i64 x0) ∧ W.cell? ⟨w.heap.size, 1, none⟩ = some (.int .i64 x1) from fun W hb => by
    have rX := (hb.block _ (lt_of_get rX2)).trans rX2
    have q0 := cell_block (i := 0) rX
    have q1 := cell_block (i := 1) rX
    simp at q0 q1
    exact ⟨q0, q1⟩)
  clear rX2
  go_wp2_with fail
  refine (HFA.out W2 hb2).mono ?_
  rintro e w' ⟨rfl, rfl⟩
  go_wp2_with fail
  refine (HNE.out W2 hb2).mono ?_
  rintro e w' ⟨rfl, y3, rfl⟩
  have hb3 := y3.pf
  have hw3 := hb2.trans (hb3.mono hb2.size)
  generalize y3.val = W3 at *
  generalize (chk ls ns).2 = ce at *
  have d1 : (ce == 0) = false := by simpa using hz
  have d2 : (ce != 0) = true := by simpa using hz
  have HZ := Lib.hid hz
  clear hz
  obtain ⟨qx0, qx1⟩ := HX.out W3 hb3
  go_upto_region 9 with (fail)
  have r4 : (W3.alloc (.cells #[.int .i64 x0, .int .i64 x1] 3)).heap[W3.heap.size]? = some (.cells #[.int .i64 x0, .int .i64 x1] 3) := heap_alloc_new _ _
  have hb4 : Below W2.heap.size W2 (W3.alloc (.cells #[.int .i64 x0, .int .i64 x1] 3)) := hb3.trans (((Below.refl _ _).alloc (Nat.le_refl _) _).mono hb3.size)
  generalize (W3.alloc (.cells #[.int .i64 x0, .int .i64 x1] 3)) = W4 at *
  clear qx0 qx1 r4
  have hw4 := hb2.trans (hb4.mono hb2.size)
  have HCI := Lib.hid (fun (W : World) (hb : Below W2.heap.size W2 W) => HCI.out W (hb2.trans (hb.mono hb2.size)))
  have HCN := Lib.hid (fun (W : World) (hb : Below W2.heap.size W2 W) => HCN.out W (hb2.trans (hb.mono hb2.size)))
  have HDF := Lib.hid (fun (W : World) (hb : Below W2.heap.size W2 W) => HDF.out W (hb2.trans (hb.mono hb2.size)))
  have HCF := Lib.hid (fun (W : World) (hb : Below W2.heap.size W2 W) => HCF.out W (hb2.trans (hb.mono hb2.size)))
  clear HNE HAW HFA
  refine wp_region_fx (fun q : (Option Addr × Nat) × (Option Addr × Nat) × Value × Int => [(61, .slice A ls.length cap), (62, .slice q.1.1 ls.length q.1.2), (63, .slice N ns.length capN), (64, .slice q.2.1.1 ns.length q.2.1.2), (65, .pointer (some ⟨w.heap.size, 0, none⟩)), (66, .int .i64 x0), (67, .pointer (some ⟨w.heap.size, 1, none⟩)), (68, .int .i64 x1), (69, .tuple #[q.2.2.1, .int .i64 q.2.2.2]), (60, .tuple #[q.2.2.1, .int .i64 q.2.2.2]), (70, q.2.2.1), (71, .int .i64 q.2.2.2), (9, q.2.2.1), (10, .int .i64 q.2.2.2)]) (fun (b : List Bool) (q : (Option Addr × Nat) × (Option Addr × Nat) × Value × Int) (W : World) => C4 W4 ls ns (fun p W => DSp ls ns x0 x1 p.1 p.2 W) (bt b 1) (bt b 3) (bt b 8) q W) (by kernel_rfl) (by kernel_rfl) ⟨((none, 0), (none, 0), (undef, 0)), ⟨(Below.refl _ _).drew, fun h => absurd h (by decide), fun h => absurd h (by decide), fun h => absurd h (by decide)⟩⟩ [61, 62, 63, 64, 65, 66, 67, 68, 69, 60, 70, 71, 9, 10] (fun _ => rfl) (by kernel_rfl) (by decide) ⟨204, rfl, by decide⟩ ?hs ?hq
  case hs =>
    intro i
    match i with
    | 0 =>
      intro o ho b q W Zx hC hb hun hall hcl hon hoff hels K hK
      simp only [List.getElem?_cons_succ, List.getElem?_cons_zero, Option.some.injEq] at ho
      subst ho
      have hb : b.length = 14 := hb
      have e0 : Zx.tmps[0]?.getD undef = .slice A ls.length cap := ev_tmp ((hels 0 (by decide)).trans rfl)
      have HC := Lib.hid (show (fun (b : List Bool) (q : (Option Addr × Nat) × (Option Addr × Nat) × Value × Int) (W : World) => C4 W4 ls ns (fun p W => DSp ls ns x0 x1 p.1 p.2 W) (bt b 1) (bt b 3) (bt b 8) q W) (b.set 0 true) q W from (by show C4 _ _ _ _ _ _ _ _ _; rw [bt_ne (i := 0) (by decide), bt_ne (i := 0) (by decide), bt_ne (i := 0) (by decide)]; exact hC))
      clear hC
      go_simp
      exact hK 61 _ q _ HC.out rfl (fun _ _ => rfl)
    | 1 =>
      intro o ho b q W Zx hC hb hun hall hcl hon hoff hels K hK
      simp only [List.getElem?_cons_succ, List.getElem?_cons_zero, Option.some.injEq] at ho
      subst ho
      have hb : b.length = 14 := hb
      have e0 : Zx.tmps[61]?.getD undef = .slice A ls.length cap := ev_tmp (hon 0 61 _ (hall ⟨0, .data⟩ (by simp) rfl) rfl)
      have hbel := hC.bel
      go_simp
      refine (HCI.out W (hb4.trans (hbel.mono hb4.size))).mono ?_
      rintro e w' ⟨A', c', rfl, hl, hb'⟩
      have HC := Lib.hid (show C4 W4 ls ns (fun p W => DSp ls ns x0 x1 p.1 p.2 W) (bt (b.set 1 true) 1) (bt (b.set 1 true) 3) (bt (b.set 1 true) 8) ((A', c'), q.2) w' from by
        rw [bt_eq hun, bt_ne (i := 1) (j := 3) (by decide), bt_ne (i := 1) (j := 8) (by decide)]
        exact hC.s1 (fun _ _ _ h hb => DSp.below h hb) hl hb')
      clear hC
      refine hK 62 _ ((A', c'), q.2) _ HC.out rfl ?_
      intro k' hk'
      match k', hk' with
      | 0, _ => rfl
      | 1, hk' => rw [hun] at hk'; cases hk'
      | 2, _ => rfl
      | 3, _ => rfl
      | 4, _ => rfl
      | 5, _ => rfl
      | 6, _ => rfl
      | 7, _ => rfl
      | 8, _ => rfl
      | 9, _ => rfl
      | 10, _ => rfl
      | 11, _ => rfl
      | 12, _ => rfl
      | 13, _ => rfl
      | t + 14, hk' => rfl
    | 2 =>
      intro o ho b q W Zx hC hb hun hall hcl hon hoff hels K hK
      simp only [List.getElem?_cons_succ, List.getElem?_cons_zero, Option.some.injEq] at ho
      subst ho
      have hb : b.length = 14 := hb
      have e0 : Zx.tmps[1]?.getD undef = .slice N ns.length capN := ev_tmp ((hels 1 (by decide)).trans rfl)
      have HC := Lib.hid (show (fun (b : List Bool) (q : (Option Addr × Nat) × (Option Addr × Nat) × Value × Int) (W : World) => C4 W4 ls ns (fun p W => DSp ls ns x0 x1 p.1 p.2 W) (bt b 1) (bt b 3) (bt b 8) q W) (b.set 2 true) q W from (by show C4 _ _ _ _ _ _ _ _ _; rw [bt_ne (i := 2) (by decide), bt_ne (i := 2) (by decide), bt_ne (i := 2) (by decide)]; exact hC))
      clear hC
      go_simp
      exact hK 63 _ q _ HC.out rfl (fun _ _ => rfl)
    | 3 =>
      intro o ho b q W Zx hC hb hun hall hcl hon hoff hels K hK
      simp only [List.getElem?_cons_succ, List.getElem?_cons_zero, Option.some.injEq] at ho
      subst ho
      have hb : b.length = 14 := hb
      have e0 : Zx.tmps[63]?.getD undef = .slice N ns.length capN := ev_tmp (hon 2 63 _ (hall ⟨2, .data⟩ (by simp) rfl) rfl)
      have hbel := hC.bel
      go_simp
      refine (HCN.out W (hb4.trans (hbel.mono hb4.size))).mono ?_
      rintro e w' ⟨A', c', rfl, hc, hl, hb'⟩
      have HC := Lib.hid (show C4 W4 ls ns (fun p W => DSp ls ns x0 x1 p.1 p.2 W) (bt (b.set 3 true) 1) (bt (b.set 3 true) 3) (bt (b.set 3 true) 8) (q.1, (A', c'), q.2.2) w' from by
        rw [bt_ne (i := 3) (j := 1) (by decide), bt_eq hun, bt_ne (i := 3) (j := 8) (by decide)]
        exact hC.s3 (fun _ _ _ h hb => DSp.below h hb) hl hc hb')
      clear hC
      refine hK 64 _ (q.1, (A', c'), q.2.2) _ HC.out rfl ?_
      intro k' hk'
      match k', hk' with
      | 0, _ => rfl
      | 1, _ => rfl
      | 2, _ => rfl
      | 3, hk' => rw [hun] at hk'; cases hk'
      | 4, _ => rfl
      | 5, _ => rfl
      | 6, _ => rfl
      | 7, _ => rfl
      | 8, _ => rfl
      | 9, _ => rfl
      | 10, _ => rfl
      | 11, _ => rfl
      | 12, _ => rfl
      | 13, _ => rfl
      | t + 14, hk' => rfl
    | 4 =>
      intro o ho b q W Zx hC hb hun hall hcl hon hoff hels K hK
      simp only [List.getElem?_cons_succ, List.getElem?_cons_zero, Option.some.injEq] at ho
      subst ho
      have hb : b.length = 14 := hb
      have e0 : Zx.tmps[5]?.getD undef = .pointer (some ⟨w.heap.size, 0, none⟩) := ev_tmp ((hels 5 (by decide)).trans rfl)
      have HC := Lib.hid (show (fun (b : List Bool) (q : (Option Addr × Nat) × (Option Addr × Nat) × Value × Int) (W : World) => C4 W4 ls ns (fun p W => DSp ls ns x0 x1 p.1 p.2 W) (bt b 1) (bt b 3) (bt b 8) q W) (b.set 4 true) q W from (by show C4 _ _ _ _ _ _ _ _ _; rw [bt_ne (i := 4) (by decide), bt_ne (i := 4) (by decide), bt_ne (i := 4) (by decide)]; exact hC))
      clear hC
      go_simp
      exact hK 65 _ q _ HC.out rfl (fun _ _ => rfl)
    | 5 =>
      intro o ho b q W Zx hC hb hun hall hcl hon hoff hels K hK
      simp only [List.getElem?_cons_succ, List.getElem?_cons_zero, Option.some.injEq] at ho
      subst ho
      have hb : b.length = 14 := hb
      have e0 : Zx.tmps[65]?.getD undef = .pointer (some ⟨w.heap.size, 0, none⟩) := ev_tmp (hon 4 65 _ (hall ⟨4, .data⟩ (by simp) rfl) rfl)
      have HC := Lib.hid (show (fun (b : List Bool) (q : (Option Addr × Nat) × (Option Addr × Nat) × Value × Int) (W : World) => C4 W4 ls ns (fun p W => DSp ls ns x0 x1 p.1 p.2 W) (bt b 1) (bt b 3) (bt b 8) q W) (b.set 5 true) q W from (by show C4 _ _ _ _ _ _ _ _ _; rw [bt_ne (i := 5) (by decide), bt_ne (i := 5) (by decide), bt_ne (i := 5) (by decide)]; exact hC))
      clear hC
      have hcl5 := (HX.out W (hb4.trans (HC.out.bel.mono hb4.size))).1
      go_simp
      exact hK 66 _ q _ HC.out rfl (fun _ _ => rfl)
    | 6 =>
      intro o ho b q W Zx hC hb hun hall hcl hon hoff hels K hK
      simp only [List.getElem?_cons_succ, List.getElem?_cons_zero, Option.some.injEq] at ho
      subst ho
      have hb : b.length = 14 := hb
      have e0 : Zx.tmps[5]?.getD undef = .pointer (some ⟨w.heap.size, 0, none⟩) := ev_tmp ((hels 5 (by decide)).trans rfl)
      have HC := Lib.hid (show (fun (b : List Bool) (q : (Option Addr × Nat) × (Option Addr × Nat) × Value × Int) (W : World) => C4 W4 ls ns (fun p W => DSp ls ns x0 x1 p.1 p.2 W) (bt b 1) (bt b 3) (bt b 8) q W) (b.set 6 true) q W from (by show C4 _ _ _ _ _ _ _ _ _; rw [bt_ne (i := 6) (by decide), bt_ne (i := 6) (by decide), bt_ne (i := 6) (by decide)]; exact hC))
      clear hC
      go_simp
      exact hK 67 _ q _ HC.out rfl (fun _ _ => rfl)
    | 7 =>
      intro o ho b q W Zx hC hb hun hall hcl hon hoff hels K hK
      simp only [List.getElem?_cons_succ, List.getElem?_cons_zero, Option.some.injEq] at ho
      subst ho
      have hb : b.length = 14 := hb
      have e0 : Zx.tmps[67]?.getD undef = .pointer (some ⟨w.heap.size, 1, none⟩) := ev_tmp (hon 6 67 _ (hall ⟨6, .data⟩ (by simp) rfl) rfl)
      have HC := Lib.hid (show (fun (b : List Bool) (q : (Option Addr × Nat) × (Option Addr × Nat) × Value × Int) (W : World) => C4 W4 ls ns (fun p W => DSp ls ns x0 x1 p.1 p.2 W) (bt b 1) (bt b 3) (bt b 8) q W) (b.set 7 true) q W from (by show C4 _ _ _ _ _ _ _ _ _; rw [bt_ne (i := 7) (by decide), bt_ne (i := 7) (by decide), bt_ne (i := 7) (by decide)]; exact hC))
      clear hC
      have hcl7 := (HX.out W (hb4.trans (HC.out.bel.mono hb4.size))).2
      go_simp
      exact hK 68 _ q _ HC.out rfl (fun _ _ => rfl)
    | 8 =>
      intro o ho b q W Zx hC hb hun hall hcl hon hoff hels K hK
      simp only [List.getElem?_cons_succ, List.getElem?_cons_zero, Option.some.injEq] at ho
      subst ho
      have hb : b.length = 14 := hb
      have e0 : Zx.tmps[62]?.getD undef = .slice q.1.1 ls.length q.1.2 := ev_tmp (hon 1 62 _ (hall ⟨1, .data⟩ (by simp) rfl) rfl)
      have e1 : Zx.tmps[64]?.getD undef = .slice q.2.1.1 ns.length q.2.1.2 := ev_tmp (hon 3 64 _ (hall ⟨3, .data⟩ (by simp) rfl) rfl)
      have e2 : Zx.tmps[66]?.getD undef = .int .i64 x0 := ev_tmp (hon 5 66 _ (hall ⟨5, .data⟩ (by simp) rfl) rfl)
      have e3 : Zx.tmps[68]?.getD undef = .int .i64 x1 := ev_tmp (hon 7 68 _ (hall ⟨7, .data⟩ (by simp) rfl) rfl)
      have hn9 := not_yet (j := 9) (by omega) hcl rfl ⟨8, .data⟩ (by simp) rfl rfl hun
      have hn10 := not_yet (j := 10) (by omega) hcl rfl ⟨9, .data⟩ (by simp) rfl rfl hn9
      have hn11 := not_yet (j := 11) (by omega) hcl rfl ⟨9, .data⟩ (by simp) rfl rfl hn9
      have hn12 := not_yet (j := 12) (by omega) hcl rfl ⟨10, .data⟩ (by simp) rfl rfl hn10
      have hn13 := not_yet (j := 13) (by omega) hcl rfl ⟨11, .data⟩ (by simp) rfl rfl hn11
      have HFF := HDF.out W (hb4.trans (hC.bel.mono hb4.size)) q.1.1 q.1.2 q.2.1.1 q.2.1.2 (hC.l1 (bt_of (hall ⟨1, .data⟩ (by simp) rfl))) (hC.l3 (bt_of (hall ⟨3, .data⟩ (by simp) rfl))).1 (hC.l3 (bt_of (hall ⟨3, .data⟩ (by simp) rfl))).2
      have hbel := hC.bel
      go_simp
      refine HFF.mono ?_
      rintro e w' ⟨v', er', rfl, hv', hb'⟩
      have HC := Lib.hid (show C4 W4 ls ns (fun p W => DSp ls ns x0 x1 p.1 p.2 W) (bt (b.set 8 true) 1) (bt (b.set 8 true) 3) (bt (b.set 8 true) 8) (q.1, q.2.1, (v', er')) w' from by
        rw [bt_ne (i := 8) (j := 1) (by decide), bt_ne (i := 8) (j := 3) (by decide), bt_eq hun]
        exact hC.s8 (v := (v', er')) hv' hb')
      clear hC
      refine hK 69 _ (q.1, q.2.1, (v', er')) _ HC.out rfl ?_
      intro k' hk'
      match k', hk' with
      | 0, _ => rfl
      | 1, _ => rfl
      | 2, _ => rfl
      | 3, _ => rfl
      | 4, _ => rfl
      | 5, _ => rfl
      | 6, _ => rfl
      | 7, _ => rfl
      | 8, hk' => rw [hun] at hk'; cases hk'
      | 9, hk' => rw [hn9] at hk'; cases hk'
      | 10, hk' => rw [hn10] at hk'; cases hk'
      | 11, hk' => rw [hn11] at hk'; cases hk'
      | 12, hk' => rw [hn12] at hk'; cases hk'
      | 13, hk' => rw [hn13] at hk'; cases hk'
      | t + 14, hk' => rfl
    | 9 =>
      intro o ho b q W Zx hC hb hun hall hcl hon hoff hels K hK
      simp only [List.getElem?_cons_succ, List.getElem?_cons_zero, Option.some.injEq] at ho
      subst ho
      have hb : b.length = 14 := hb
      have e0 : Zx.tmps[69]?.getD undef = .tuple #[q.2.2.1, .int .i64 q.2.2.2] := ev_tmp (hon 8 69 _ (hall ⟨8, .data⟩ (by simp) rfl) rfl)
      have HC := Lib.hid (show (fun (b : List Bool) (q : (Option Addr × Nat) × (Option Addr × Nat) × Value × Int) (W : World) => C4 W4 ls ns (fun p W => DSp ls ns x0 x1 p.1 p.2 W) (bt b 1) (bt b 3) (bt b 8) q W) (b.set 9 true) q W from (by show C4 _ _ _ _ _ _ _ _ _; rw [bt_ne (i := 9) (by decide), bt_ne (i := 9) (by decide), bt_ne (i := 9) (by decide)]; exact hC))
      clear hC
      go_simp
      exact hK 60 _ q _ HC.out rfl (fun _ _ => rfl)
    | 10 =>
      intro o ho b q W Zx hC hb hun hall hcl hon hoff hels K hK
      simp only [List.getElem?_cons_succ, List.getElem?_cons_zero, Option.some.injEq] at ho
      subst ho
      have hb : b.length = 14 := hb
      have e0 : Zx.tmps[60]?.getD undef = .tuple #[q.2.2.1, .int .i64 q.2.2.2] := ev_tmp (hon 9 60 _ (hall ⟨9, .data⟩ (by simp) rfl) rfl)
      have HC := Lib.hid (show (fun (b : List Bool) (q : (Option Addr × Nat) × (Option Addr × Nat) × Value × Int) (W : World) => C4 W4 ls ns (fun p W => DSp ls ns x0 x1 p.1 p.2 W) (bt b 1) (bt b 3) (bt b 8) q W) (b.set 10 true) q W from (by show C4 _ _ _ _ _ _ _ _ _; rw [bt_ne (i := 10) (by decide), bt_ne (i := 10) (by decide), bt_ne (i := 10) (by decide)]; exact hC))
      clear hC
      go_simp
      exact hK 70 _ q _ HC.out rfl (fun _ _ => rfl)
    | 11 =>
      intro o ho b q W Zx hC hb hun hall hcl hon hoff hels K hK
      simp only [List.getElem?_cons_succ, List.getElem?_cons_zero, Option.some.injEq] at ho
      subst ho
      have hb : b.length = 14 := hb
      have e0 : Zx.tmps[60]?.getD undef = .tuple #[q.2.2.1, .int .i64 q.2.2.2] := ev_tmp (hon 9 60 _ (hall ⟨9, .data⟩ (by simp) rfl) rfl)
      have HC := Lib.hid (show (fun (b : List Bool) (q : (Option Addr × Nat) × (Option Addr × Nat) × Value × Int) (W : World) => C4 W4 ls ns (fun p W => DSp ls ns x0 x1 p.1 p.2 W) (bt b 1) (bt b 3) (bt b 8) q W) (b.set 11 true) q W from (by show C4 _ _ _ _ _ _ _ _ _; rw [bt_ne (i := 11) (by decide), bt_ne (i := 11) (by decide), bt_ne (i := 11) (by decide)]; exact hC))
      clear hC
      go_simp
      exact hK 71 _ q _ HC.out rfl (fun _ _ => rfl)
    | 12 =>
      intro o ho b q W Zx hC hb hun hall hcl hon hoff hels K hK
      simp only [List.getElem?_cons_succ, List.getElem?_cons_zero, Option.some.injEq] at ho
      subst ho
      have hb : b.length = 14 := hb
      have e0 : Zx.tmps[70]?.getD undef = q.2.2.1 := ev_tmp (hon 10 70 _ (hall ⟨10, .data⟩ (by simp) rfl) rfl)
      have HC := Lib.hid (show (fun (b : List Bool) (q : (Option Addr × Nat) × (Option Addr × Nat) × Value × Int) (W : World) => C4 W4 ls ns (fun p W => DSp ls ns x0 x1 p.1 p.2 W) (bt b 1) (bt b 3) (bt b 8) q W) (b.set 12 true) q W from (by show C4 _ _ _ _ _ _ _ _ _; rw [bt_ne (i := 12) (by decide), bt_ne (i := 12) (by decide), bt_ne (i := 12) (by decide)]; exact hC))
      clear hC
      go_simp
      exact hK 9 _ q _ HC.out rfl (fun _ _ => rfl)
    | 13 =>
      intro o ho b q W Zx hC hb hun hall hcl hon hoff hels K hK
      simp only [List.getElem?_cons_succ, List.getElem?_cons_zero, Option.some.injEq] at ho
      subst ho
      have hb : b.length = 14 := hb
      have e0 : Zx.tmps[71]?.getD undef = .int .i64 q.2.2.2 := ev_tmp (hon 11 71 _ (hall ⟨11, .data⟩ (by simp) rfl) rfl)
      have HC := Lib.hid (show (fun (b : List Bool) (q : (Option Addr × Nat) × (Option Addr × Nat) × Value × Int) (W : World) => C4 W4 ls ns (fun p W => DSp ls ns x0 x1 p.1 p.2 W) (bt b 1) (bt b 3) (bt b 8) q W) (b.set 13 true) q W from (by show C4 _ _ _ _ _ _ _ _ _; rw [bt_ne (i := 13) (by decide), bt_ne (i := 13) (by decide), bt_ne (i := 13) (by decide)]; exact hC))
      clear hC
      go_simp
      exact hK 10 _ q _ HC.out rfl (fun _ _ => rfl)
    | t + 14 =>
      intro o ho
      simp at ho
  case hq =>
    intro q W hC
    have hF : C4 W4 ls ns (fun p W => DSp ls ns x0 x1 p.1 p.2 W) true true true q W := hC
    have hsW9 := hF.bel
    have hv9 := Lib.hid (hF.l8 rfl)
    have hb9 := hb4.trans (hsW9.mono hb4.size)
    clear hC hF
    simp only [zp, List.length_cons, List.length_nil, List.replicate, List.zip_cons_cons, List.zip_nil_right, frm, if_true]
    obtain ⟨⟨a1, a2⟩, ⟨a3, a4⟩, v9, er9⟩ := q
    simp only at hv9
    go_simp
    rename World => W9
    go_upto_region 10 with (fail)
    refine wp_region_fx (fun q : (Option Addr × Nat) × (Option Addr × Nat) × Int × Int => [(73, .slice A ls.length cap), (74, .slice q.1.1 ls.length q.1.2), (75, .slice N ns.length capN), (76, .slice q.2.1.1 ns.length q.2.1.2), (77, .pointer (some ⟨w.heap.size, 0, none⟩)), (78, .int .i64 x0), (79, .tuple #[.int .i64 q.2.2.1, .int .i64 q.2.2.2]), (72, .tuple #[.int .i64 q.2.2.1, .int .i64 q.2.2.2]), (80, .int .i64 q.2.2.1), (81, .int .i64 q.2.2.2), (11, .int .i64 q.2.2.1), (12, .int .i64 q.2.2.2)]) (fun (b : List Bool) (q : (Option Addr × Nat) × (Option Addr × Nat) × Int × Int) (W : World) => C4 W9 ls ns (fun p _ => CSp ls ns x0 p.1 p.2) (bt b 1) (bt b 3) (bt b 6) q W) (by kernel_rfl) (by kernel_rfl) ⟨((none, 0), (none, 0), (0, 0)), ⟨(Below.refl _ _).drew, fun h => absurd h (by decide), fun h => absurd h (by decide), fun h => absurd h (by decide)⟩⟩ [73, 74, 75, 76, 77, 78, 79, 72, 80, 81, 11, 12] (fun _ => rfl) (by kernel_rfl) (by decide) ⟨204, rfl, by decide⟩ ?hs ?hq
    case hs =>
      intro i
      match i with
      | 0 =>
        intro o ho b q W Zx hC hb hun hall hcl hon hoff hels K hK
        simp only [List.getElem?_cons_succ, List.getElem?_cons_zero, Option.some.injEq] at ho
        subst ho
        have hb : b.length = 12 := hb
        have e0 : Zx.tmps[0]?.getD undef = .slice A ls.length cap := ev_tmp ((hels 0 (by decide)).trans rfl)
        have HC := Lib.hid (show (fun (b : List Bool) (q : (Option Addr × Nat) × (Option Addr × Nat) × Int × Int) (W : World) => C4 W9 ls ns (fun p _ => CSp ls ns x0 p.1 p.2) (bt b 1) (bt b 3) (bt b 6) q W) (b.set 0 true) q W from (by show C4 _ _ _ _ _ _ _ _ _; rw [bt_ne (i := 0) (by decide), bt_ne (i := 0) (by decide), bt_ne (i := 0) (by decide)]; exact hC))
        clear hC
        go_simp
        exact hK 73 _ q _ HC.out rfl (fun _ _ => rfl)
      | 1 =>
        intro o ho b q W Zx hC hb hun hall hcl hon hoff hels K hK
        simp only [List.getElem?_cons_succ, List.getElem?_cons_zero, Option.some.injEq] at ho
        subst ho
        have hb : b.length = 12 := hb
        have e0 : Zx.tmps[73]?.getD undef = .slice A ls.length cap := ev_tmp (hon 0 73 _ (hall ⟨0, .data⟩ (by simp) rfl) rfl)
        have hbel := hC.bel
        go_simp
        refine (HCI.out W (hb9.trans (hbel.mono hb9.size))).mono ?_
        rintro e w' ⟨A', c', rfl, hl, hb'⟩
        have HC := Lib.hid (show C4 W9 ls ns (fun p _ => CSp ls ns x0 p.1 p.2) (bt (b.set 1 true) 1) (bt (b.set 1 true) 3) (bt (b.set 1 true) 6) ((A', c'), q.2) w' from by
          rw [bt_eq hun, bt_ne (i := 1) (j := 3) (by decide), bt_ne (i := 1) (j := 6) (by decide)]
          exact hC.s1 (fun _ _ _ h _ => h) hl hb')
        clear hC
        refine hK 74 _ ((A', c'), q.2) _ HC.out rfl ?_
        intro k' hk'
        match k', hk' with
        | 0, _ => rfl
        | 1, hk' => rw [hun] at hk'; cases hk'
        | 2, _ => rfl
        | 3, _ => rfl
        | 4, _ => rfl
        | 5, _ => rfl
        | 6, _ => rfl
        | 7, _ => rfl
        | 8, _ => rfl
        | 9, _ => rfl
        | 10, _ => rfl
        | 11, _ => rfl
        | t + 12, hk' => rfl
      | 2 =>
        intro o ho b q W Zx hC hb hun hall hcl hon hoff hels K hK
        simp only [List.getElem?_cons_succ, List.getElem?_cons_zero, Option.some.injEq] at ho
        subst ho
        have hb : b.length = 12 := hb
        have e0 : Zx.tmps[1]?.getD undef = .slice N ns.length capN := ev_tmp ((hels 1 (by decide)).trans rfl)
        have HC := Lib.hid (show (fun (b : List Bool) (q : (Option Addr × Nat) × (Option Addr × Nat) × Int × Int) (W : World) => C4 W9 ls ns (fun p _ => CSp ls ns x0 p.1 p.2) (bt b 1) (bt b 3) (bt b 6) q W) (b.set 2 true) q W from (by show C4 _ _ _ _ _ _ _ _ _; rw [bt_ne (i := 2) (by decide), bt_ne (i := 2) (by decide), bt_ne (i := 2) (by decide)]; exact hC))
        clear hC
        go_simp
        exact hK 75 _ q _ HC.out rfl (fun _ _ => rfl)
      | 3 =>
        intro o ho b q W Zx hC hb hun hall hcl hon hoff hels K hK
        simp only [List.getElem?_cons_succ, List.getElem?_cons_zero, Option.some.injEq] at ho
        subst ho
        have hb : b.length = 12 := hb
        have e0 : Zx.tmps[75]?.getD undef = .slice N ns.length capN := ev_tmp (hon 2 75 _ (hall ⟨2, .data⟩ (by simp) rfl) rfl)
        have hbel := hC.bel
        go_simp
        refine (HCN.out W (hb9.trans (hbel.mono hb9.size))).mono ?_
        rintro e w' ⟨A', c', rfl, hc, hl, hb'⟩
        have HC := Lib.hid (show C4 W9 ls ns (fun p _ => CSp ls ns x0 p.1 p.2) (bt (b.set 3 true) 1) (bt (b.set 3 true) 3) (bt (b.set 3 true) 6) (q.1, (A', c'), q.2.2) w' from by
          rw [bt_ne (i := 3) (j := 1) (by decide), bt_eq hun, bt_ne (i := 3) (j := 6) (by decide)]
          exact hC.s3 (fun _ _ _ h _ => h) hl hc hb')
        clear hC
        refine hK 76 _ (q.1, (A', c'), q.2.2) _ HC.out rfl ?_
        intro k' hk'
        match k', hk' with
        | 0, _ => rfl
        | 1, _ => rfl
        | 2, _ => rfl
        | 3, hk' => rw [hun] at hk'; cases hk'
        | 4, _ => rfl
        | 5, _ => rfl
        | 6, _ => rfl
        | 7, _ => rfl
        | 8, _ => rfl
        | 9, _ => rfl
        | 10, _ => rfl
        | 11, _ => rfl
        | t + 12, hk' => rfl
      | 4 =>
        intro o ho b q W Zx hC hb hun hall hcl hon hoff hels K hK
        simp only [List.getElem?_cons_succ, List.getElem?_cons_zero, Option.some.injEq] at ho
        subst ho
        have hb : b.length = 12 := hb
        have e0 : Zx.tmps[5]?.getD undef = .pointer (some ⟨w.heap.size, 0, none⟩) := ev_tmp ((hels 5 (by decide)).trans rfl)
        have HC := Lib.hid (show (fun (b : List Bool) (q : (Option Addr × Nat) × (Option Addr × Nat) × Int × Int) (W : World) => C4 W9 ls ns (fun p _ => CSp ls ns x0 p.1 p.2) (bt b 1) (bt b 3) (bt b 6) q W) (b.set 4 true) q W from (by show C4 _ _ _ _ _ _ _ _ _; rw [bt_ne (i := 4) (by decide), bt_ne (i := 4) (by decide), bt_ne (i := 4) (by decide)]; exact hC))
        clear hC
        go_simp
        exact hK 77 _ q _ HC.out rfl (fun _ _ => rfl)
      | 5 =>
        intro o ho b q W Zx hC hb hun hall hcl hon hoff hels K hK
        simp only [List.getElem?_cons_succ, List.getElem?_cons_zero, Option.some.injEq] at ho
        subst ho
        have hb : b.length = 12 := hb
        have e0 : Zx.tmps[77]?.getD undef = .pointer (some ⟨w.heap.size, 0, none⟩) := ev_tmp (hon 4 77 _ (hall ⟨4, .data⟩ (by simp) rfl) rfl)
        have HC := Lib.hid (show (fun (b : List Bool) (q : (Option Addr × Nat) × (Option Addr × Nat) × Int × Int) (W : World) => C4 W9 ls ns (fun p _ => CSp ls ns x0 p.1 p.2) (bt b 1) (bt b 3) (bt b 6) q W) (b.set 5 true) q W from (by show C4 _ _ _ _ _ _ _ _ _; rw [bt_ne (i := 5) (by decide), bt_ne (i := 5) (by decide), bt_ne (i := 5) (by decide)]; exact hC))
        clear hC
        have hcl5 := (HX.out W (hb9.trans (HC.out.bel.mono hb9.size))).1
        go_simp
        exact hK 78 _ q _ HC.out rfl (fun _ _ => rfl)
      | 6 =>
        intro o ho b q W Zx hC hb hun hall hcl hon hoff hels K hK
        simp only [List.getElem?_cons_succ, List.getElem?_cons_zero, Option.some.injEq] at ho
        subst ho
        have hb : b.length = 12 := hb
        have e0 : Zx.tmps[74]?.getD undef = .slice q.1.1 ls.length q.1.2 := ev_tmp (hon 1 74 _ (hall ⟨1, .data⟩ (by simp) rfl) rfl)
        have e1 : Zx.tmps[76]?.getD undef = .slice q.2.1.1 ns.length q.2.1.2 := ev_tmp (hon 3 76 _ (hall ⟨3, .data⟩ (by simp) rfl) rfl)
        have e2 : Zx.tmps[78]?.getD undef = .int .i64 x0 := ev_tmp (hon 5 78 _ (hall ⟨5, .data⟩ (by simp) rfl) rfl)
        have hn7 := not_yet (j := 7) (by omega) hcl rfl ⟨6, .data⟩ (by simp) rfl rfl hun
        have hn8 := not_yet (j := 8) (by omega) hcl rfl ⟨7, .data⟩ (by simp) rfl rfl hn7
        have hn9 := not_yet (j := 9) (by omega) hcl rfl ⟨7, .data⟩ (by simp) rfl rfl hn7
        have hn10 := not_yet (j := 10) (by omega) hcl rfl ⟨8, .data⟩ (by simp) rfl rfl hn8
        have hn11 := not_yet (j := 11) (by omega) hcl rfl ⟨9, .data⟩ (by simp) rfl rfl hn9
        have HFF := HCF.out W (hb9.trans (hC.bel.mono hb9.size)) q.1.1 q.1.2 q.2.1.1 q.2.1.2 (hC.l1 (bt_of (hall ⟨1, .data⟩ (by simp) rfl))) (hC.l3 (bt_of (hall ⟨3, .data⟩ (by simp) rfl))).1 (hC.l3 (bt_of (hall ⟨3, .data⟩ (by simp) rfl))).2
        have hbel := hC.bel
        go_simp
        refine HFF.mono ?_
        rintro e w' ⟨v', er', rfl, hv', hb'⟩
        have HC := Lib.hid (show C4 W9 ls ns (fun p _ => CSp ls ns x0 p.1 p.2) (bt (b.set 6 true) 1) (bt (b.set 6 true) 3) (bt (b.set 6 true) 6) (q.1, q.2.1, (v', er')) w' from by
          rw [bt_ne (i := 6) (j := 1) (by decide), bt_ne (i := 6) (j := 3) (by decide), bt_eq hun]
          exact hC.s8 (v := (v', er')) hv' hb')
        clear hC
        refine hK 79 _ (q.1, q.2.1, (v', er')) _ HC.out rfl ?_
        intro k' hk'
        match k', hk' with
        | 0, _ => rfl
        | 1, _ => rfl
        | 2, _ => rfl
        | 3, _ => rfl
        | 4, _ => rfl
        | 5, _ => rfl
        | 6, hk' => rw [hun] at hk'; cases hk'
        | 7, hk' => rw [hn7] at hk'; cases hk'
        | 8, hk' => rw [hn8] at hk'; cases hk'
        | 9, hk' => rw [hn9] at hk'; cases hk'
        | 10, hk' => rw [hn10] at hk'; cases hk'
        | 11, hk' => rw [hn11] at hk'; cases hk'
        | t + 12, hk' => rfl
      | 7 =>
        intro o ho b q W Zx hC hb hun hall hcl hon hoff hels K hK
        simp only [List.getElem?_cons_succ, List.getElem?_cons_zero, Option.some.injEq] at ho
        subst ho
        have hb : b.length = 12 := hb
        have e0 : Zx.tmps[79]?.getD undef = .tuple #[.int .i64 q.2.2.1, .int .i64 q.2.2.2] := ev_tmp (hon 6 79 _ (hall ⟨6, .data⟩ (by simp) rfl) rfl)
        have HC := Lib.hid (show (fun (b : List Bool) (q : (Option Addr × Nat) × (Option Addr × Nat) × Int × Int) (W : World) => C4 W9 ls ns (fun p _ => CSp ls ns x0 p.1 p.2) (bt b 1) (bt b 3) (bt b 6) q W) (b.set 7 true) q W from (by show C4 _ _ _ _ _ _ _ _ _; rw [bt_ne (i := 7) (by decide), bt_ne (i := 7) (by decide), bt_ne (i := 7) (by decide)]; exact hC))
        clear hC
        go_simp
        exact hK 72 _ q _ HC.out rfl (fun _ _ => rfl)
      | 8 =>
        intro o ho b q W Zx hC hb hun hall hcl hon hoff hels K hK
        simp only [List.getElem?_cons_succ, List.getElem?_cons_zero, Option.some.injEq] at ho
        subst ho
        have hb : b.length = 12 := hb
        have e0 : Zx.tmps[72]?.getD undef = .tuple #[.int .i64 q.2.2.1, .int .i64 q.2.2.2] := ev_tmp (hon 7 72 _ (hall ⟨7, .data⟩ (by simp) rfl) rfl)
        have HC := Lib.hid (show (fun (b : List Bool) (q : (Option Addr × Nat) × (Option Addr × Nat) × Int × Int) (W : World) => C4 W9 ls ns (fun p _ => CSp ls ns x0 p.1 p.2) (bt b 1) (bt b 3) (bt b 6) q W) (b.set 8 true) q W from (by show C4 _ _ _ _ _ _ _ _ _; rw [bt_ne (i := 8) (by decide), bt_ne (i := 8) (by decide), bt_ne (i := 8) (by decide)]; exact hC))
        clear hC
        go_simp
        exact hK 80 _ q _ HC.out rfl (fun _ _ => rfl)
      | 9 =>
        intro o ho b q W Zx hC hb hun hall hcl hon hoff hels K hK
        simp only [List.getElem?_cons_succ, List.getElem?_cons_zero, Option.some.injEq] at ho
        subst ho
        have hb : b.length = 12 := hb
        have e0 : Zx.tmps[72]?.getD undef = .tuple #[.int .i64 q.2.2.1, .int .i64 q.2.2.2] := ev_tmp (hon 7 72 _ (hall ⟨7, .data⟩ (by simp) rfl) rfl)
        have HC := Lib.hid (show (fun (b : List Bool) (q : (Option Addr × Nat) × (Option Addr × Nat) × Int × Int) (W : World) => C4 W9 ls ns (fun p _ => CSp ls ns x0 p.1 p.2) (bt b 1) (bt b 3) (bt b 6) q W) (b.set 9 true) q W from (by show C4 _ _ _ _ _ _ _ _ _; rw [bt_ne (i := 9) (by decide), bt_ne (i := 9) (by decide), bt_ne (i := 9) (by decide)]; exact hC))
        clear hC
        go_simp
        exact hK 81 _ q _ HC.out rfl (fun _ _ => rfl)
      | 10 =>
        intro o ho b q W Zx hC hb hun hall hcl hon hoff hels K hK
        simp only [List.getElem?_cons_succ, List.getElem?_cons_zero, Option.some.injEq] at ho
        subst ho
        have hb : b.length = 12 := hb
        have e0 : Zx.tmps[80]?.getD undef = .int .i64 q.2.2.1 := ev_tmp (hon 8 80 _ (hall ⟨8, .data⟩ (by simp) rfl) rfl)
        have HC := Lib.hid (show (fun (b : List Bool) (q : (Option Addr × Nat) × (Option Addr × Nat) × Int × Int) (W : World) => C4 W9 ls ns (fun p _ => CSp ls ns x0 p.1 p.2) (bt b 1) (bt b 3) (bt b 6) q W) (b.set 10 true) q W from (by show C4 _ _ _ _ _ _ _ _ _; rw [bt_ne (i := 10) (by decide), bt_ne (i := 10) (by decide), bt_ne (i := 10) (by decide)]; exact hC))
        clear hC
        go_simp
        exact hK 11 _ q _ HC.out rfl (fun _ _ => rfl)
      | 11 =>
        intro o ho b q W Zx hC hb hun hall hcl hon hoff hels K hK
        simp only [List.getElem?_cons_succ, List.getElem?_cons_zero, Option.some.injEq] at ho
        subst ho
        have hb : b.length = 12 := hb
        have e0 : Zx.tmps[81]?.getD undef = .int .i64 q.2.2.2 := ev_tmp (hon 9 81 _ (hall ⟨9, .data⟩ (by simp) rfl) rfl)
        have HC := Lib.hid (show (fun (b : List Bool) (q : (Option Addr × Nat) × (Option Addr × Nat) × Int × Int) (W : World) => C4 W9 ls ns (fun p _ => CSp ls ns x0 p.1 p.2) (bt b 1) (bt b 3) (bt b 6) q W) (b.set 11 true) q W from (by show C4 _ _ _ _ _ _ _ _ _; rw [bt_ne (i := 11) (by decide), bt_ne (i := 11) (by decide), bt_ne (i := 11) (by decide)]; exact hC))
        clear hC
        go_simp
        exact hK 12 _ q _ HC.out rfl (fun _ _ => rfl)
      | t + 12 =>
        intro o ho
        simp at ho
    case hq =>
      intro q W hC
      have hF : C4 W9 ls ns (fun p _ => CSp ls ns x0 p.1 p.2) true true true q W := hC
      have hsW10 := hF.bel
      have hv10 := Lib.hid (hF.l8 rfl)
      have hb10 := hb9.trans (hsW10.mono hb9.size)
      clear hC hF
      simp only [zp, List.length_cons, List.length_nil, List.replicate, List.zip_cons_cons, List.zip_nil_right, frm, if_true]
      obtain ⟨⟨a1, a2⟩, ⟨a3, a4⟩, v10, er10⟩ := q
      simp only at hv10
      go_simp
      rename World => W10
      have e9 := hv9.out.1 (by rw [HNN.out.1]; exact HZ.out)
      have e10 := hv10.out.1 (by rw [HNN.out.2]; exact HZ.out)
      rw [HNN.out.1] at e9
      rw [HNN.out.2] at e10
      obtain ⟨rfl, rfl⟩ := e9
      obtain ⟨rfl, rfl⟩ := e10
      clear hv9 hv10
      go_wp2_with fail
      refine (HBO.out W10).mono ?_
      rintro e w' ⟨rfl, rfl⟩
      go_upto_region 14 with (fail)
      refine wp_region_aft (by kernel_rfl) (by kernel_rfl) ?_
      repeat (go_big_quiet_step (fail))
      refine wpQuiet_nil ?_
      intro z14
      have hb14 := z14.below hb10 hb10.size
      generalize z14.val = W14 at *
      go_wp2
      go_ret
      exact ⟨by first | rfl | simp, Below.aft (hb2.trans (hb14.mono hb2.size))⟩

end Go.Proofs.YtkdonapgonegkaaDoor

set_option linter.unusedSimpArgs false
set_option linter.unusedVariables false
namespace Go.Proofs.YtkdonapgonegkaaDoor
open Go.RowKit Go.BigFrame
set_option maxRecDepth 100000 in
set_option maxHeartbeats 4000000 in
theorem GraphAlways_index (A : Option Addr) (cap : Nat) (ls : List Int) (N : Option Addr) (capN : Nat) (ns : List Nd) (x0 x1 : Int) (w : World)
    (hA : LiesI w A ls) (hA0 : ls.length = 0 → A = none ∧ cap = 0 ∨ ∃ ad, A = some ad) (hN : LiesG w N ns) (ht : TabOps w) (hfa : fewB ls ns = true) (h0 : ls.length ≠ 0) (hz : (chk ls ns).2 = 0) (he : argsE [x0, x1] ns.length 6 ≠ 0) :
    Calls Tryd.prog 6 #[.slice A ls.length cap, .slice N ns.length capN, .agg #[.int .i64 x0, .int .i64 x1]] w fun e w' => e = .returned (.bool true) ∧ ∃ x : Aft w, w' = x.val := by
  have HAW := Lib.hid (fun (W : World) (hb : Below w.heap.size w W) => awake_c W (ht.below hb))
  have HFA := Lib.hid (fun (W : World) (hb : Below w.heap.size w W) => few_c A cap ls N capN ns W (hN.n.below hb))
  obtain ⟨f1, f2, f3⟩ := fewB_true hfa
  have f4 : ∀ n ∈ ns, n.args.length ≤ 65536 := fun n hn => by have := f3 n hn; omega
  have HCI := Lib.hid (fun (W : World) (hb : Below w.heap.size w W) => CopyIntsI_c A cap ls W (hA.below hb) hA0 (by omega))
  have HCN := Lib.hid (fun (W : World) (hb : Below w.heap.size w W) => CopyNodes_c N capN ns (by omega) f4 W (hN.below hb))
  have HDF := Lib.hid (fun (W : World) (hb : Below w.heap.size w W) (A' : Option Addr) (c' : Nat) (N' : Option Addr) (cn' : Nat) (h1 : LiesI W A' ls) (h2 : LiesN W N' ns) (h3 : ns.length ≤ cn') => DifferenceOf_all A' c' ls (by omega) N' cn' ns (by omega) h3 f4 x0 x1 W h1 h2 (ht.below hb))
  have HCF := Lib.hid (fun (W : World) (hb : Below w.heap.size w W) (A' : Option Addr) (c' : Nat) (N' : Option Addr) (cn' : Nat) (h1 : LiesI W A' ls) (h2 : LiesN W N' ns) (h3 : ns.length ≤ cn') => ConstantAt_all A' c' ls (by omega) N' cn' ns (by omega) h3 f4 x0 W h1 h2 (ht.below hb))
  have HNE := Lib.hid (fun (W : World) (hb : Below w.heap.size w W) => refNodesErrX_c A cap ls N capN ns (by omega) W (hA.below hb) (hN.n.below hb))
  rw [hfa] at HFA
  have h0b : ((ls.length : Int) == 0) = false := by simpa using (by omega : ¬ (ls.length : Int) = 0)
  have hh0 := h0
  have HBO := Lib.hid (fun (W : World) => bothA_c 0 0 W)
  rw [show thenE 0 0 = 0 from if_pos rfl] at HBO
  have HL1 := Lib.hid f1
  have HL2 := Lib.hid f2
  have HC0 := Lib.hid hz
  have HWI := Lib.hid (chk_ok hz).2.1
  have HALL := Lib.hid (chk_nodes hz)
  have HAL := Lib.hid (fun (W : World) (hb : Below w.heap.size w W) => hA.below hb)
  have HNL := Lib.hid (fun (W : World) (hb : Below w.heap.size w W) => hN.n.below hb)
  have HE6 := Lib.hid (argsE_six he)
  have HFX := Lib.hid (show fromE ls ns [x0, x1] = 6 by unfold fromE; rw [hz]; exact (if_pos rfl).trans (argsE_six he))
  clear he hfa hA hA0 hN ht hz f1 f2 f3 f4
  go_enter Tryd.func6, Tryd.ntmps6
  go_upto_region 1 with (fail)
  have hb1 : Below w.heap.size w (w.alloc (.cells #[.int .i64 x0, .int .i64 x1] 48)) := (Below.refl _ _).alloc (Nat.le_refl _) _
  have rX1 : (w.alloc (.cells #[.int .i64 x0, .int .i64 x1] 48)).heap[w.heap.size]? = some (.cells #[.int .i64 x0, .int .i64 x1] 48) := heap_alloc_at rfl
  generalize w.alloc (.cells #[.int .i64 x0, .int .i64 x1] 48) = W1 at *
  go_wp2_with fail
  refine (HAW.out W1 hb1).mono ?_
  rintro e w' ⟨rfl, y, rfl⟩
  have hb2 := y.below hb1 hb1.size
  have rX2 := heap_aft y (lt_of_get rX1) rX1
  clear hb1 rX1
  generalize y.val = W2 at *
  have HX := Lib.hid (show ∀ W : World, Below W2.heap.size W2 W → W.cell? ⟨w.heap.size, 0, none⟩ = some (.int .i64 x0) ∧ W.cell? ⟨w.heap.size, 1, none⟩ = some (.int .i64 x1) from fun W hb => by
    have rX := (hb.block _ (lt_of_get rX2)).trans rX2
    have q0 := cell_block (i := 0) rX
    have q1 := cell_block (i := 1) rX
    simp at q0 q1
    exact ⟨q0, q1⟩)
  clear rX2
  go_wp2_with fail
  refine (HFA.out W2 hb2).mono ?_
  rintro e w' ⟨rfl, rfl⟩
  go_wp2_with fail
  refine (HNE.out W2 hb2).mono ?_
  rintro e w' ⟨rfl, y3, rfl⟩
  have hb3 := y3.pf
  have hw3 := hb2.trans (hb3.mono hb2.size)
  generalize y3.val = W3 at *
  rw [HC0.out]
  obtain ⟨qx0, qx1⟩ := HX.out W3 hb3
  go_wp2_with fail
  have r4 : (W3.alloc (.cells #[.int .i64 x0, .int .i64 x1] 3)).heap[W3.heap.size]? = some (.cells #[.int .i64 x0, .int .i64 x1] 3) := heap_alloc_new _ _
  have hb4 : Below W2.heap.size W2 (W3.alloc (.cells #[.int .i64 x0, .int .i64 x1] 3)) := hb3.trans (((Below.refl _ _).alloc (Nat.le_refl _) _).mono hb3.size)
  generalize (W3.alloc (.cells #[.int .i64 x0, .int .i64 x1] 3)) = W4 at *
  have HCI := Lib.hid (fun (W : World) (hb : Below W2.heap.size W2 W) => HCI.out W (hb2.trans (hb.mono hb2.size)))
  have HCN := Lib.hid (fun (W : World) (hb : Below W2.heap.size W2 W) => HCN.out W (hb2.trans (hb.mono hb2.size)))
  have HDF := Lib.hid (fun (W : World) (hb : Below W2.heap.size W2 W) => HDF.out W (hb2.trans (hb.mono hb2.size)))
  have HCF := Lib.hid (fun (W : World) (hb : Below W2.heap.size W2 W) => HCF.out W (hb2.trans (hb.mono hb2.size)))
  have HAL := Lib.hid (fun (W : World) (hb : Below W2.heap.size W2 W) => HAL.out W (hb2.trans (hb.mono hb2.size)))
  have HNL := Lib.hid (fun (W : World) (hb : Below W2.heap.size W2 W) => HNL.out W (hb2.trans (hb.mono hb2.size)))
  clear HNE HAW HFA qx0 qx1
  have hF4 : LiesI W4 (some ⟨W3.heap.size, 0, none⟩) [x0, x1] := LiesI.block r4
  have hF41 : LiesI W4 (some ⟨W3.heap.size, 0, none⟩) [x0] := hF4.take 1
  have HF := Lib.hid (show ∀ W : World, Below W4.heap.size W4 W → LiesI W (some ⟨W3.heap.size, 0, none⟩) [x0, x1] ∧ LiesI W (some ⟨W3.heap.size, 0, none⟩) [x0] from fun W hb => ⟨hF4.below hb, hF41.below hb⟩)
  have HE2 := Lib.hid (fun (W : World) (hb : Below W4.heap.size W4 W) => show Calls Tryd.prog 21 #[.slice N ns.length capN, .slice (some ⟨W3.heap.size, 0, none⟩) 2 2] W (fun e w' => e = .returned (.int .i64 (argsE [x0, x1] ns.length 6)) ∧ W = w') from refFromErr_c N capN ns.length (by have := HL2.out; omega) (some ⟨W3.heap.size, 0, none⟩) 2 [x0, x1] (by simp) W (HF.out W hb).1)
  have HE1 := Lib.hid (fun (W : World) (hb : Below W4.heap.size W4 W) => show Calls Tryd.prog 21 #[.slice N ns.length capN, .slice (some ⟨W3.heap.size, 0, none⟩) 1 2] W (fun e w' => e = .returned (.int .i64 (argsE [x0] ns.length 6)) ∧ W = w') from refFromErr_c N capN ns.length (by have := HL2.out; omega) (some ⟨W3.heap.size, 0, none⟩) 2 [x0] (by simp) W (HF.out W hb).2)
  clear hF4 hF41 r4
  rw [HE6.out] at HE2
  refine (HE2.out W4 (Below.refl _ _)).mono ?_
  rintro e w' ⟨rfl, rfl⟩
  go_upto_region 9 with (fail)
  refine wp_region_fx (fun q : (Option Addr × Nat) × (Option Addr × Nat) × Value × Int => [(61, .slice A ls.length cap), (62, .slice q.1.1 ls.length q.1.2), (63, .slice N ns.length capN), (64, .slice q.2.1.1 ns.length q.2.1.2), (65, .pointer (some ⟨w.heap.size, 0, none⟩)), (66, .int .i64 x0), (67, .pointer (some ⟨w.heap.size, 1, none⟩)), (68, .int .i64 x1), (69, .tuple #[q.2.2.1, .int .i64 q.2.2.2]), (60, .tuple #[q.2.2.1, .int .i64 q.2.2.2]), (70, q.2.2.1), (71, .int .i64 q.2.2.2), (9, q.2.2.1), (10, .int .i64 q.2.2.2)]) (fun (b : List Bool) (q : (Option Addr × Nat) × (Option Addr × Nat) × Value × Int) (W : World) => C4 W4 ls ns (fun p W => DSp ls ns x0 x1 p.1 p.2 W) (bt b 1) (bt b 3) (bt b 8) q W) (by kernel_rfl) (by kernel_rfl) ⟨((none, 0), (none, 0), (undef, 0)), ⟨(Below.refl _ _).drew, fun h => absurd h (by decide), fun h => absurd h (by decide), fun h => absurd h (by decide)⟩⟩ [61, 62, 63, 64, 65, 66, 67, 68, 69, 60, 70, 71, 9, 10] (fun _ => rfl) (by kernel_rfl) (by decide) ⟨204, rfl, by decide⟩ ?hs ?hq
  case hs =>
    intro iop
    match iop with
    | 0 =>
      intro o ho b q W Zx hC hb hun hall hcl hon hoff hels K hK
      simp only [List.getElem?_cons_succ, List.getElem?_cons_zero, Option.some.injEq] at ho
      subst ho
      have hb : b.length = 14 := hb
      have e0 : Zx.tmps[0]?.getD undef = .slice A ls.length cap := ev_tmp ((hels 0 (by decide)).trans rfl)
      have HC := Lib.hid (show (fun (b : List Bool) (q : (Option Addr × Nat) × (Option Addr × Nat) × Value × Int) (W : World) => C4 W4 ls ns (fun p W => DSp ls ns x0 x1 p.1 p.2 W) (bt b 1) (bt b 3) (bt b 8) q W) (b.set 0 true) q W from (by show C4 _ _ _ _ _ _ _ _ _; rw [bt_ne (i := 0) (by decide), bt_ne (i := 0) (by decide), bt_ne (i := 0) (by decide)]; exact hC))
      clear hC
      go_simp
      exact hK 61 _ q _ HC.out rfl (fun _ _ => rfl)
    | 1 =>
      intro o ho b q W Zx hC hb hun hall hcl hon hoff hels K hK
      simp only [List.getElem?_cons_succ, List.getElem?_cons_zero, Option.some.injEq] at ho
      subst ho
      have hb : b.length = 14 := hb
      have e0 : Zx.tmps[61]?.getD undef = .slice A ls.length cap := ev_tmp (hon 0 61 _ (hall ⟨0, .data⟩ (by simp) rfl) rfl)
      have hbel := hC.bel
      go_simp
      refine (HCI.out W (hb4.trans (hbel.mono hb4.size))).mono ?_
      rintro e w' ⟨A', c', rfl, hl, hb'⟩
      have HC := Lib.hid (show C4 W4 ls ns (fun p W => DSp ls ns x0 x1 p.1 p.2 W) (bt (b.set 1 true) 1) (bt (b.set 1 true) 3) (bt (b.set 1 true) 8) ((A', c'), q.2) w' from by
        rw [bt_eq hun, bt_ne (i := 1) (j := 3) (by decide), bt_ne (i := 1) (j := 8) (by decide)]
        exact hC.s1 (fun _ _ _ h hb => DSp.below h hb) hl hb')
      clear hC
      refine hK 62 _ ((A', c'), q.2) _ HC.out rfl ?_
      intro k' hk'
      match k', hk' with
      | 0, _ => rfl
      | 1, hk' => rw [hun] at hk'; cases hk'
      | 2, _ => rfl
      | 3, _ => rfl
      | 4, _ => rfl
      | 5, _ => rfl
      | 6, _ => rfl
      | 7, _ => rfl
      | 8, _ => rfl
      | 9, _ => rfl
      | 10, _ => rfl
      | 11, _ => rfl
      | 12, _ => rfl
      | 13, _ => rfl
      | t + 14, hk' => rfl
    | 2 =>
      intro o ho b q W Zx hC hb hun hall hcl hon hoff hels K hK
      simp only [List.getElem?_cons_succ, List.getElem?_cons_zero, Option.some.injEq] at ho
      subst ho
      have hb : b.length = 14 := hb
      have e0 : Zx.tmps[1]?.getD undef = .slice N ns.length capN := ev_tmp ((hels 1 (by decide)).trans rfl)
      have HC := Lib.hid (show (fun (b : List Bool) (q : (Option Addr × Nat) × (Option Addr × Nat) × Value × Int) (W : World) => C4 W4 ls ns (fun p W => DSp ls ns x0 x1 p.1 p.2 W) (bt b 1) (bt b 3) (bt b 8) q W) (b.set 2 true) q W from (by show C4 _ _ _ _ _ _ _ _ _; rw [bt_ne (i := 2) (by decide), bt_ne (i := 2) (by decide), bt_ne (i := 2) (by decide)]; exact hC))
      clear hC
      go_simp
      exact hK 63 _ q _ HC.out rfl (fun _ _ => rfl)
    | 3 =>
      intro o ho b q W Zx hC hb hun hall hcl hon hoff hels K hK
      simp only [List.getElem?_cons_succ, List.getElem?_cons_zero, Option.some.injEq] at ho
      subst ho
      have hb : b.length = 14 := hb
      have e0 : Zx.tmps[63]?.getD undef = .slice N ns.length capN := ev_tmp (hon 2 63 _ (hall ⟨2, .data⟩ (by simp) rfl) rfl)
      have hbel := hC.bel
      go_simp
      refine (HCN.out W (hb4.trans (hbel.mono hb4.size))).mono ?_
      rintro e w' ⟨A', c', rfl, hc, hl, hb'⟩
      have HC := Lib.hid (show C4 W4 ls ns (fun p W => DSp ls ns x0 x1 p.1 p.2 W) (bt (b.set 3 true) 1) (bt (b.set 3 true) 3) (bt (b.set 3 true) 8) (q.1, (A', c'), q.2.2) w' from by
        rw [bt_ne (i := 3) (j := 1) (by decide), bt_eq hun, bt_ne (i := 3) (j := 8) (by decide)]
        exact hC.s3 (fun _ _ _ h hb => DSp.below h hb) hl hc hb')
      clear hC
      refine hK 64 _ (q.1, (A', c'), q.2.2) _ HC.out rfl ?_
      intro k' hk'
      match k', hk' with
      | 0, _ => rfl
      | 1, _ => rfl
      | 2, _ => rfl
      | 3, hk' => rw [hun] at hk'; cases hk'
      | 4, _ => rfl
      | 5, _ => rfl
      | 6, _ => rfl
      | 7, _ => rfl
      | 8, _ => rfl
      | 9, _ => rfl
      | 10, _ => rfl
      | 11, _ => rfl
      | 12, _ => rfl
      | 13, _ => rfl
      | t + 14, hk' => rfl
    | 4 =>
      intro o ho b q W Zx hC hb hun hall hcl hon hoff hels K hK
      simp only [List.getElem?_cons_succ, List.getElem?_cons_zero, Option.some.injEq] at ho
      subst ho
      have hb : b.length = 14 := hb
      have e0 : Zx.tmps[5]?.getD undef = .pointer (some ⟨w.heap.size, 0, none⟩) := ev_tmp ((hels 5 (by decide)).trans rfl)
      have HC := Lib.hid (show (fun (b : List Bool) (q : (Option Addr × Nat) × (Option Addr × Nat) × Value × Int) (W : World) => C4 W4 ls ns (fun p W => DSp ls ns x0 x1 p.1 p.2 W) (bt b 1) (bt b 3) (bt b 8) q W) (b.set 4 true) q W from (by show C4 _ _ _ _ _ _ _ _ _; rw [bt_ne (i := 4) (by decide), bt_ne (i := 4) (by decide), bt_ne (i := 4) (by decide)]; exact hC))
      clear hC
      go_simp
      exact hK 65 _ q _ HC.out rfl (fun _ _ => rfl)
    | 5 =>
      intro o ho b q W Zx hC hb hun hall hcl hon hoff hels K hK
      simp only [List.getElem?_cons_succ, List.getElem?_cons_zero, Option.some.injEq] at ho
      subst ho
      have hb : b.length = 14 := hb
      have e0 : Zx.tmps[65]?.getD undef = .pointer (some ⟨w.heap.size, 0, none⟩) := ev_tmp (hon 4 65 _ (hall ⟨4, .data⟩ (by simp) rfl) rfl)
      have HC := Lib.hid (show (fun (b : List Bool) (q : (Option Addr × Nat) × (Option Addr × Nat) × Value × Int) (W : World) => C4 W4 ls ns (fun p W => DSp ls ns x0 x1 p.1 p.2 W) (bt b 1) (bt b 3) (bt b 8) q W) (b.set 5 true) q W from (by show C4 _ _ _ _ _ _ _ _ _; rw [bt_ne (i := 5) (by decide), bt_ne (i := 5) (by decide), bt_ne (i := 5) (by decide)]; exact hC))
      clear hC
      have hcl5 := (HX.out W (hb4.trans (HC.out.bel.mono hb4.size))).1
      go_simp
      exact hK 66 _ q _ HC.out rfl (fun _ _ => rfl)
    | 6 =>
      intro o ho b q W Zx hC hb hun hall hcl hon hoff hels K hK
      simp only [List.getElem?_cons_succ, List.getElem?_cons_zero, Option.some.injEq] at ho
      subst ho
      have hb : b.length = 14 := hb
      have e0 : Zx.tmps[5]?.getD undef = .pointer (some ⟨w.heap.size, 0, none⟩) := ev_tmp ((hels 5 (by decide)).trans rfl)
      have HC := Lib.hid (show (fun (b : List Bool) (q : (Option Addr × Nat) × (Option Addr × Nat) × Value × Int) (W : World) => C4 W4 ls ns (fun p W => DSp ls ns x0 x1 p.1 p.2 W) (bt b 1) (bt b 3) (bt b 8) q W) (b.set 6 true) q W from (by show C4 _ _ _ _ _ _ _ _ _; rw [bt_ne (i := 6) (by decide), bt_ne (i := 6) (by decide), bt_ne (i := 6) (by decide)]; exact hC))
      clear hC
      go_simp
      exact hK 67 _ q _ HC.out rfl (fun _ _ => rfl)
    | 7 =>
      intro o ho b q W Zx hC hb hun hall hcl hon hoff hels K hK
      simp only [List.getElem?_cons_succ, List.getElem?_cons_zero, Option.some.injEq] at ho
      subst ho
      have hb : b.length = 14 := hb
      have e0 : Zx.tmps[67]?.getD undef = .pointer (some ⟨w.heap.size, 1, none⟩) := ev_tmp (hon 6 67 _ (hall ⟨6, .data⟩ (by simp) rfl) rfl)
      have HC := Lib.hid (show (fun (b : List Bool) (q : (Option Addr × Nat) × (Option Addr × Nat) × Value × Int) (W : World) => C4 W4 ls ns (fun p W => DSp ls ns x0 x1 p.1 p.2 W) (bt b 1) (bt b 3) (bt b 8) q W) (b.set 7 true) q W from (by show C4 _ _ _ _ _ _ _ _ _; rw [bt_ne (i := 7) (by decide), bt_ne (i := 7) (by decide), bt_ne (i := 7) (by decide)]; exact hC))
      clear hC
      have hcl7 := (HX.out W (hb4.trans (HC.out.bel.mono hb4.size))).2
      go_simp
      exact hK 68 _ q _ HC.out rfl (fun _ _ => rfl)
    | 8 =>
      intro o ho b q W Zx hC hb hun hall hcl hon hoff hels K hK
      simp only [List.getElem?_cons_succ, List.getElem?_cons_zero, Option.some.injEq] at ho
      subst ho
      have hb : b.length = 14 := hb
      have e0 : Zx.tmps[62]?.getD undef = .slice q.1.1 ls.length q.1.2 := ev_tmp (hon 1 62 _ (hall ⟨1, .data⟩ (by simp) rfl) rfl)
      have e1 : Zx.tmps[64]?.getD undef = .slice q.2.1.1 ns.length q.2.1.2 := ev_tmp (hon 3 64 _ (hall ⟨3, .data⟩ (by simp) rfl) rfl)
      have e2 : Zx.tmps[66]?.getD undef = .int .i64 x0 := ev_tmp (hon 5 66 _ (hall ⟨5, .data⟩ (by simp) rfl) rfl)
      have e3 : Zx.tmps[68]?.getD undef = .int .i64 x1 := ev_tmp (hon 7 68 _ (hall ⟨7, .data⟩ (by simp) rfl) rfl)
      have hn9 := not_yet (j := 9) (by omega) hcl rfl ⟨8, .data⟩ (by simp) rfl rfl hun
      have hn10 := not_yet (j := 10) (by omega) hcl rfl ⟨9, .data⟩ (by simp) rfl rfl hn9
      have hn11 := not_yet (j := 11) (by omega) hcl rfl ⟨9, .data⟩ (by simp) rfl rfl hn9
      have hn12 := not_yet (j := 12) (by omega) hcl rfl ⟨10, .data⟩ (by simp) rfl rfl hn10
      have hn13 := not_yet (j := 13) (by omega) hcl rfl ⟨11, .data⟩ (by simp) rfl rfl hn11
      have HFF := HDF.out W (hb4.trans (hC.bel.mono hb4.size)) q.1.1 q.1.2 q.2.1.1 q.2.1.2 (hC.l1 (bt_of (hall ⟨1, .data⟩ (by simp) rfl))) (hC.l3 (bt_of (hall ⟨3, .data⟩ (by simp) rfl))).1 (hC.l3 (bt_of (hall ⟨3, .data⟩ (by simp) rfl))).2
      have hbel := hC.bel
      go_simp
      refine HFF.mono ?_
      rintro e w' ⟨v', er', rfl, hv', hb'⟩
      have HC := Lib.hid (show C4 W4 ls ns (fun p W => DSp ls ns x0 x1 p.1 p.2 W) (bt (b.set 8 true) 1) (bt (b.set 8 true) 3) (bt (b.set 8 true) 8) (q.1, q.2.1, (v', er')) w' from by
        rw [bt_ne (i := 8) (j := 1) (by decide), bt_ne (i := 8) (j := 3) (by decide), bt_eq hun]
        exact hC.s8 (v := (v', er')) hv' hb')
      clear hC
      refine hK 69 _ (q.1, q.2.1, (v', er')) _ HC.out rfl ?_
      intro k' hk'
      match k', hk' with
      | 0, _ => rfl
      | 1, _ => rfl
      | 2, _ => rfl
      | 3, _ => rfl
      | 4, _ => rfl
      | 5, _ => rfl
      | 6, _ => rfl
      | 7, _ => rfl
      | 8, hk' => rw [hun] at hk'; cases hk'
      | 9, hk' => rw [hn9] at hk'; cases hk'
      | 10, hk' => rw [hn10] at hk'; cases hk'
      | 11, hk' => rw [hn11] at hk'; cases hk'
      | 12, hk' => rw [hn12] at hk'; cases hk'
      | 13, hk' => rw [hn13] at hk'; cases hk'
      | t + 14, hk' => rfl
    | 9 =>
      intro o ho b q W Zx hC hb hun hall hcl hon hoff hels K hK
      simp only [List.getElem?_cons_succ, List.getElem?_cons_zero, Option.some.injEq] at ho
      subst ho
      have hb : b.length = 14 := hb
      have e0 : Zx.tmps[69]?.getD undef = .tuple #[q.2.2.1, .int .i64 q.2.2.2] := ev_tmp (hon 8 69 _ (hall ⟨8, .data⟩ (by simp) rfl) rfl)
      have HC := Lib.hid (show (fun (b : List Bool) (q : (Option Addr × Nat) × (Option Addr × Nat) × Value × Int) (W : World) => C4 W4 ls ns (fun p W => DSp ls ns x0 x1 p.1 p.2 W) (bt b 1) (bt b 3) (bt b 8) q W) (b.set 9 true) q W from (by show C4 _ _ _ _ _ _ _ _ _; rw [bt_ne (i := 9) (by decide), bt_ne (i := 9) (by decide), bt_ne (i := 9) (by decide)]; exact hC))
      clear hC
      go_simp
      exact hK 60 _ q _ HC.out rfl (fun _ _ => rfl)
    | 10 =>
      intro o ho b q W Zx hC hb hun hall hcl hon hoff hels K hK
      simp only [List.getElem?_cons_succ, List.getElem?_cons_zero, Option.some.injEq] at ho
      subst ho
      have hb : b.length = 14 := hb
      have e0 : Zx.tmps[60]?.getD undef = .tuple #[q.2.2.1, .int .i64 q.2.2.2] := ev_tmp (hon 9 60 _ (hall ⟨9, .data⟩ (by simp) rfl) rfl)
      have HC := Lib.hid (show (fun (b : List Bool) (q : (Option Addr × Nat) × (Option Addr × Nat) × Value × Int) (W : World) => C4 W4 ls ns (fun p W => DSp ls ns x0 x1 p.1 p.2 W) (bt b 1) (bt b 3) (bt b 8) q W) (b.set 10 true) q W from (by show C4 _ _ _ _ _ _ _ _ _; rw [bt_ne (i := 10) (by decide), bt_ne (i := 10) (by decide), bt_ne (i := 10) (by decide)]; exact hC))
      clear hC
      go_simp
      exact hK 70 _ q _ HC.out rfl (fun _ _ => rfl)
    | 11 =>
      intro o ho b q W Zx hC hb hun hall hcl hon hoff hels K hK
      simp only [List.getElem?_cons_succ, List.getElem?_cons_zero, Option.some.injEq] at ho
      subst ho
      have hb : b.length = 14 := hb
      have e0 : Zx.tmps[60]?.getD undef = .tuple #[q.2.2.1, .int .i64 q.2.2.2] := ev_tmp (hon 9 60 _ (hall ⟨9, .data⟩ (by simp) rfl) rfl)
      have HC := Lib.hid (show (fun (b : List Bool) (q : (Option Addr × Nat) × (Option Addr × Nat) × Value × Int) (W : World) => C4 W4 ls ns (fun p W => DSp ls ns x0 x1 p.1 p.2 W) (bt b 1) (bt b 3) (bt b 8) q W) (b.set 11 true) q W from (by show C4 _ _ _ _ _ _ _ _ _; rw [bt_ne (i := 11) (by decide), bt_ne (i := 11) (by decide), bt_ne (i := 11) (by decide)]; exact hC))
      clear hC
      go_simp
      exact hK 71 _ q _ HC.out rfl (fun _ _ => rfl)
    | 12 =>
      intro o ho b q W Zx hC hb hun hall hcl hon hoff hels K hK
      simp only [List.getElem?_cons_succ, List.getElem?_cons_zero, Option.some.injEq] at ho
      subst ho
      have hb : b.length = 14 := hb
      have e0 : Zx.tmps[70]?.getD undef = q.2.2.1 := ev_tmp (hon 10 70 _ (hall ⟨10, .data⟩ (by simp) rfl) rfl)
      have HC := Lib.hid (show (fun (b : List Bool) (q : (Option Addr × Nat) × (Option Addr × Nat) × Value × Int) (W : World) => C4 W4 ls ns (fun p W => DSp ls ns x0 x1 p.1 p.2 W) (bt b 1) (bt b 3) (bt b 8) q W) (b.set 12 true) q W from (by show C4 _ _ _ _ _ _ _ _ _; rw [bt_ne (i := 12) (by decide), bt_ne (i := 12) (by decide), bt_ne (i := 12) (by decide)]; exact hC))
      clear hC
      go_simp
      exact hK 9 _ q _ HC.out rfl (fun _ _ => rfl)
    | 13 =>
      intro o ho b q W Zx hC hb hun hall hcl hon hoff hels K hK
      simp only [List.getElem?_cons_succ, List.getElem?_cons_zero, Option.some.injEq] at ho
      subst ho
      have hb : b.length = 14 := hb
      have e0 : Zx.tmps[71]?.getD undef = .int .i64 q.2.2.2 := ev_tmp (hon 11 71 _ (hall ⟨11, .data⟩ (by simp) rfl) rfl)
      have HC := Lib.hid (show (fun (b : List Bool) (q : (Option Addr × Nat) × (Option Addr × Nat) × Value × Int) (W : World) => C4 W4 ls ns (fun p W => DSp ls ns x0 x1 p.1 p.2 W) (bt b 1) (bt b 3) (bt b 8) q W) (b.set 13 true) q W from (by show C4 _ _ _ _ _ _ _ _ _; rw [bt_ne (i := 13) (by decide), bt_ne (i := 13) (by decide), bt_ne (i := 13) (by decide)]; exact hC))
      clear hC
      go_simp
      exact hK 10 _ q _ HC.out rfl (fun _ _ => rfl)
    | t + 14 =>
      intro o ho
      simp at ho
  case hq =>
    intro q W hC
    have hF : C4 W4 ls ns (fun p W => DSp ls ns x0 x1 p.1 p.2 W) true true true q W := hC
    have hsW9 := hF.bel
    have hv9 := Lib.hid (hF.l8 rfl)
    have hb9 := hb4.trans (hsW9.mono hb4.size)
    clear hC hF
    simp only [zp, List.length_cons, List.length_nil, List.replicate, List.zip_cons_cons, List.zip_nil_right, frm, if_true]
    obtain ⟨⟨a1, a2⟩, ⟨a3, a4⟩, v9, er9⟩ := q
    simp only at hv9
    go_simp
    rename World => W9
    go_upto_region 10 with (fail)
    refine wp_region_fx (fun q : (Option Addr × Nat) × (Option Addr × Nat) × Int × Int => [(73, .slice A ls.length cap), (74, .slice q.1.1 ls.length q.1.2), (75, .slice N ns.length capN), (76, .slice q.2.1.1 ns.length q.2.1.2), (77, .pointer (some ⟨w.heap.size, 0, none⟩)), (78, .int .i64 x0), (79, .tuple #[.int .i64 q.2.2.1, .int .i64 q.2.2.2]), (72, .tuple #[.int .i64 q.2.2.1, .int .i64 q.2.2.2]), (80, .int .i64 q.2.2.1), (81, .int .i64 q.2.2.2), (11, .int .i64 q.2.2.1), (12, .int .i64 q.2.2.2)]) (fun (b : List Bool) (q : (Option Addr × Nat) × (Option Addr × Nat) × Int × Int) (W : World) => C4 W9 ls ns (fun p _ => CSp ls ns x0 p.1 p.2) (bt b 1) (bt b 3) (bt b 6) q W) (by kernel_rfl) (by kernel_rfl) ⟨((none, 0), (none, 0), (0, 0)), ⟨(Below.refl _ _).drew, fun h => absurd h (by decide), fun h => absurd h (by decide), fun h => absurd h (by decide)⟩⟩ [73, 74, 75, 76, 77, 78, 79, 72, 80, 81, 11, 12] (fun _ => rfl) (by kernel_rfl) (by decide) ⟨204, rfl, by decide⟩ ?hs ?hq
    case hs =>
      intro iop
      match iop with
      | 0 =>
        intro o ho b q W Zx hC hb hun hall hcl hon hoff hels K hK
        simp only [List.getElem?_cons_succ, List.getElem?_cons_zero, Option.some.injEq] at ho
        subst ho
        have hb : b.length = 12 := hb
        have e0 : Zx.tmps[0]?.getD undef = .slice A ls.length cap := ev_tmp ((hels 0 (by decide)).trans rfl)
        have HC := Lib.hid (show (fun (b : List Bool) (q : (Option Addr × Nat) × (Option Addr × Nat) × Int × Int) (W : World) => C4 W9 ls ns (fun p _ => CSp ls ns x0 p.1 p.2) (bt b 1) (bt b 3) (bt b 6) q W) (b.set 0 true) q W from (by show C4 _ _ _ _ _ _ _ _ _; rw [bt_ne (i := 0) (by decide), bt_ne (i := 0) (by decide), bt_ne (i := 0) (by decide)]; exact hC))
        clear hC
        go_simp
        exact hK 73 _ q _ HC.out rfl (fun _ _ => rfl)
      | 1 =>
        intro o ho b q W Zx hC hb hun hall hcl hon hoff hels K hK
        simp only [List.getElem?_cons_succ, List.getElem?_cons_zero, Option.some.injEq] at ho
        subst ho
        have hb : b.length = 12 := hb
        have e0 : Zx.tmps[73]?.getD undef = .slice A ls.length cap := ev_tmp (hon 0 73 _ (hall ⟨0, .data⟩ (by simp) rfl) rfl)
        have hbel := hC.bel
        go_simp
        refine (HCI.out W (hb9.trans (hbel.mono hb9.size))).mono ?_
        rintro e w' ⟨A', c', rfl, hl, hb'⟩
        have HC := Lib.hid (show C4 W9 ls ns (fun p _ => CSp ls ns x0 p.1 p.2) (bt (b.set 1 true) 1) (bt (b.set 1 true) 3) (bt (b.set 1 true) 6) ((A', c'), q.2) w' from by
          rw [bt_eq hun, bt_ne (i := 1) (j := 3) (by decide), bt_ne (i := 1) (j := 6) (by decide)]
          exact hC.s1 (fun _ _ _ h _ => h) hl hb')
        clear hC
        refine hK 74 _ ((A', c'), q.2) _ HC.out rfl ?_
        intro k' hk'
        match k', hk' with
        | 0, _ => rfl
        | 1, hk' => rw [hun] at hk'; cases hk'
        | 2, _ => rfl
        | 3, _ => rfl
        | 4, _ => rfl
        | 5, _ => rfl
        | 6, _ => rfl
        | 7, _ => rfl
        | 8, _ => rfl
        | 9, _ => rfl
        | 10, _ => rfl
        | 11, _ => rfl
        | t + 12, hk' => rfl
      | 2 =>
        intro o ho b q W Zx hC hb hun hall hcl hon hoff hels K hK
        simp only [List.getElem?_cons_succ, List.getElem?_cons_zero, Option.some.injEq] at ho
        subst ho
        have hb : b.length = 12 := hb
        have e0 : Zx.tmps[1]?.getD undef = .slice N ns.length capN := ev_tmp ((hels 1 (by decide)).trans rfl)
        have HC := Lib.hid (show (fun (b : List Bool) (q : (Option Addr × Nat) × (Option Addr × Nat) × Int × Int) (W : World) => C4 W9 ls ns (fun p _ => CSp ls ns x0 p.1 p.2) (bt b 1) (bt b 3) (bt b 6) q W) (b.set 2 true) q W from (by show C4 _ _ _ _ _ _ _ _ _; rw [bt_ne (i := 2) (by decide), bt_ne (i := 2) (by decide), bt_ne (i := 2) (by decide)]; exact hC))
        clear hC
        go_simp
        exact hK 75 _ q _ HC.out rfl (fun _ _ => rfl)
      | 3 =>
        intro o ho b q W Zx hC hb hun hall hcl hon hoff hels K hK
        simp only [List.getElem?_cons_succ, List.getElem?_cons_zero, Option.some.injEq] at ho
        subst ho
        have hb : b.length = 12 := hb
        have e0 : Zx.tmps[75]?.getD undef = .slice N ns.length capN := ev_tmp (hon 2 75 _ (hall ⟨2, .data⟩ (by simp) rfl) rfl)
        have hbel := hC.bel
        go_simp
        refine (HCN.out W (hb9.trans (hbel.mono hb9.size))).mono ?_
        rintro e w' ⟨A', c', rfl, hc, hl, hb'⟩
        have HC := Lib.hid (show C4 W9 ls ns (fun p _ => CSp ls ns x0 p.1 p.2) (bt (b.set 3 true) 1) (bt (b.set 3 true) 3) (bt (b.set 3 true) 6) (q.1, (A', c'), q.2.2) w' from by
          rw [bt_ne (i := 3) (j := 1) (by decide), bt_eq hun, bt_ne (i := 3) (j := 6) (by decide)]
          exact hC.s3 (fun _ _ _ h _ => h) hl hc hb')
        clear hC
        refine hK 76 _ (q.1, (A', c'), q.2.2) _ HC.out rfl ?_
        intro k' hk'
        match k', hk' with
        | 0, _ => rfl
        | 1, _ => rfl
        | 2, _ => rfl
        | 3, hk' => rw [hun] at hk'; cases hk'
        | 4, _ => rfl
        | 5, _ => rfl
        | 6, _ => rfl
        | 7, _ => rfl
        | 8, _ => rfl
        | 9, _ => rfl
        | 10, _ => rfl
        | 11, _ => rfl
        | t + 12, hk' => rfl
      | 4 =>
        intro o ho b q W Zx hC hb hun hall hcl hon hoff hels K hK
        simp only [List.getElem?_cons_succ, List.getElem?_cons_zero, Option.some.injEq] at ho
        subst ho
        have hb : b.length = 12 := hb
        have e0 : Zx.tmps[5]?.getD undef = .pointer (some ⟨w.heap.size, 0, none⟩) := ev_tmp ((hels 5 (by decide)).trans rfl)
        have HC := Lib.hid (show (fun (b : List Bool) (q : (Option Addr × Nat) × (Option Addr × Nat) × Int × Int) (W : World) => C4 W9 ls ns (fun p _ => CSp ls ns x0 p.1 p.2) (bt b 1) (bt b 3) (bt b 6) q W) (b.set 4 true) q W from (by show C4 _ _ _ _ _ _ _ _ _; rw [bt_ne (i := 4) (by decide), bt_ne (i := 4) (by decide), bt_ne (i := 4) (by decide)]; exact hC))
        clear hC
        go_simp
        exact hK 77 _ q _ HC.out rfl (fun _ _ => rfl)
      | 5 =>
        intro o ho b q W Zx hC hb hun hall hcl hon hoff hels K hK
        simp only [List.getElem?_cons_succ, List.getElem?_cons_zero, Option.some.injEq] at ho
        subst ho
        have hb : b.length = 12 := hb
        have e0 : Zx.tmps[77]?.getD undef = .pointer (some ⟨w.heap.size, 0, none⟩) := ev_tmp (hon 4 77 _ (hall ⟨4, .data⟩ (by simp) rfl) rfl)
        have HC := Lib.hid (show (fun (b : List Bool) (q : (Option Addr × Nat) × (Option Addr × Nat) × Int × Int) (W : World) => C4 W9 ls ns (fun p _ => CSp ls ns x0 p.1 p.2) (bt b 1) (bt b 3) (bt b 6) q W) (b.set 5 true) q W from (by show C4 _ _ _ _ _ _ _ _ _; rw [bt_ne (i := 5) (by decide), bt_ne (i := 5) (by decide), bt_ne (i := 5) (by decide)]; exact hC))
        clear hC
        have hcl5 := (HX.out W (hb9.trans (HC.out.bel.mono hb9.size))).1
        go_simp
        exact hK 78 _ q _ HC.out rfl (fun _ _ => rfl)
      | 6 =>
        intro o ho b q W Zx hC hb hun hall hcl hon hoff hels K hK
        simp only [List.getElem?_cons_succ, List.getElem?_cons_zero, Option.some.injEq] at ho
        subst ho
        have hb : b.length = 12 := hb
        have e0 : Zx.tmps[74]?.getD undef = .slice q.1.1 ls.length q.1.2 := ev_tmp (hon 1 74 _ (hall ⟨1, .data⟩ (by simp) rfl) rfl)
        have e1 : Zx.tmps[76]?.getD undef = .slice q.2.1.1 ns.length q.2.1.2 := ev_tmp (hon 3 76 _ (hall ⟨3, .data⟩ (by simp) rfl) rfl)
        have e2 : Zx.tmps[78]?.getD undef = .int .i64 x0 := ev_tmp (hon 5 78 _ (hall ⟨5, .data⟩ (by simp) rfl) rfl)
        have hn7 := not_yet (j := 7) (by omega) hcl rfl ⟨6, .data⟩ (by simp) rfl rfl hun
        have hn8 := not_yet (j := 8) (by omega) hcl rfl ⟨7, .data⟩ (by simp) rfl rfl hn7
        have hn9 := not_yet (j := 9) (by omega) hcl rfl ⟨7, .data⟩ (by simp) rfl rfl hn7
        have hn10 := not_yet (j := 10) (by omega) hcl rfl ⟨8, .data⟩ (by simp) rfl rfl hn8
        have hn11 := not_yet (j := 11) (by omega) hcl rfl ⟨9, .data⟩ (by simp) rfl rfl hn9
        have HFF := HCF.out W (hb9.trans (hC.bel.mono hb9.size)) q.1.1 q.1.2 q.2.1.1 q.2.1.2 (hC.l1 (bt_of (hall ⟨1, .data⟩ (by simp) rfl))) (hC.l3 (bt_of (hall ⟨3, .data⟩ (by simp) rfl))).1 (hC.l3 (bt_of (hall ⟨3, .data⟩ (by simp) rfl))).2
        have hbel := hC.bel
        go_simp
        refine HFF.mono ?_
        rintro e w' ⟨v', er', rfl, hv', hb'⟩
        have HC := Lib.hid (show C4 W9 ls ns (fun p _ => CSp ls ns x0 p.1 p.2) (bt (b.set 6 true) 1) (bt (b.set 6 true) 3) (bt (b.set 6 true) 6) (q.1, q.2.1, (v', er')) w' from by
          rw [bt_ne (i := 6) (j := 1) (by decide), bt_ne (i := 6) (j := 3) (by decide), bt_eq hun]
          exact hC.s8 (v := (v', er')) hv' hb')
        clear hC
        refine hK 79 _ (q.1, q.2.1, (v', er')) _ HC.out rfl ?_
        intro k' hk'
        match k', hk' with
        | 0, _ => rfl
        | 1, _ => rfl
        | 2, _ => rfl
        | 3, _ => rfl
        | 4, _ => rfl
        | 5, _ => rfl
        | 6, hk' => rw [hun] at hk'; cases hk'
        | 7, hk' => rw [hn7] at hk'; cases hk'
        | 8, hk' => rw [hn8] at hk'; cases hk'
        | 9, hk' => rw [hn9] at hk'; cases hk'
        | 10, hk' => rw [hn10] at hk'; cases hk'
        | 11, hk' => rw [hn11] at hk'; cases hk'
        | t + 12, hk' => rfl
      | 7 =>
        intro o ho b q W Zx hC hb hun hall hcl hon hoff hels K hK
        simp only [List.getElem?_cons_succ, List.getElem?_cons_zero, Option.some.injEq] at ho
        subst ho
        have hb : b.length = 12 := hb
        have e0 : Zx.tmps[79]?.getD undef = .tuple #[.int .i64 q.2.2.1, .int .i64 q.2.2.2] := ev_tmp (hon 6 79 _ (hall ⟨6, .data⟩ (by simp) rfl) rfl)
        have HC := Lib.hid (show (fun (b : List Bool) (q : (Option Addr × Nat) × (Option Addr × Nat) × Int × Int) (W : World) => C4 W9 ls ns (fun p _ => CSp ls ns x0 p.1 p.2) (bt b 1) (bt b 3) (bt b 6) q W) (b.set 7 true) q W from (by show C4 _ _ _ _ _ _ _ _ _; rw [bt_ne (i := 7) (by decide), bt_ne (i := 7) (by decide), bt_ne (i := 7) (by decide)]; exact hC))
        clear hC
        go_simp
        exact hK 72 _ q _ HC.out rfl (fun _ _ => rfl)
      | 8 =>
        intro o ho b q W Zx hC hb hun hall hcl hon hoff hels K hK
        simp only [List.getElem?_cons_succ, List.getElem?_cons_zero, Option.some.injEq] at ho
        subst ho
        have hb : b.length = 12 := hb
        have e0 : Zx.tmps[72]?.getD undef = .tuple #[.int .i64 q.2.2.1, .int .i64 q.2.2.2] := ev_tmp (hon 7 72 _ (hall ⟨7, .data⟩ (by simp) rfl) rfl)
        have HC := Lib.hid (show (fun (b : List Bool) (q : (Option Addr × Nat) × (Option Addr × Nat) × Int × Int) (W : World) => C4 W9 ls ns (fun p _ => CSp ls ns x0 p.1 p.2) (bt b 1) (bt b 3) (bt b 6) q W) (b.set 8 true) q W from (by show C4 _ _ _ _ _ _ _ _ _; rw [bt_ne (i := 8) (by decide), bt_ne (i := 8) (by decide), bt_ne (i := 8) (by decide)]; exact hC))
        clear hC
        go_simp
        exact hK 80 _ q _ HC.out rfl (fun _ _ => rfl)
      | 9 =>
        intro o ho b q W Zx hC hb hun hall hcl hon hoff hels K hK
        simp only [List.getElem?_cons_succ, List.getElem?_cons_zero, Option.some.injEq] at ho
        subst ho
        have hb : b.length = 12 := hb
        have e0 : Zx.tmps[72]?.getD undef = .tuple #[.int .i64 q.2.2.1, .int .i64 q.2.2.2] := ev_tmp (hon 7 72 _ (hall ⟨7, .data⟩ (by simp) rfl) rfl)
        have HC := Lib.hid (show (fun (b : List Bool) (q : (Option Addr × Nat) × (Option Addr × Nat) × Int × Int) (W : World) => C4 W9 ls ns (fun p _ => CSp ls ns x0 p.1 p.2) (bt b 1) (bt b 3) (bt b 6) q W) (b.set 9 true) q W from (by show C4 _ _ _ _ _ _ _ _ _; rw [bt_ne (i := 9) (by decide), bt_ne (i := 9) (by decide), bt_ne (i := 9) (by decide)]; exact hC))
        clear hC
        go_simp
        exact hK 81 _ q _ HC.out rfl (fun _ _ => rfl)
      | 10 =>
        intro o ho b q W Zx hC hb hun hall hcl hon hoff hels K hK
        simp only [List.getElem?_cons_succ, List.getElem?_cons_zero, Option.some.injEq] at ho
        subst ho
        have hb : b.length = 12 := hb
        have e0 : Zx.tmps[80]?.getD undef = .int .i64 q.2.2.1 := ev_tmp (hon 8 80 _ (hall ⟨8, .data⟩ (by simp) rfl) rfl)
        have HC := Lib.hid (show (fun (b : List Bool) (q : (Option Addr × Nat) × (Option Addr × Nat) × Int × Int) (W : World) => C4 W9 ls ns (fun p _ => CSp ls ns x0 p.1 p.2) (bt b 1) (bt b 3) (bt b 6) q W) (b.set 10 true) q W from (by show C4 _ _ _ _ _ _ _ _ _; rw [bt_ne (i := 10) (by decide), bt_ne (i := 10) (by decide), bt_ne (i := 10) (by decide)]; exact hC))
        clear hC
        go_simp
        exact hK 11 _ q _ HC.out rfl (fun _ _ => rfl)
      | 11 =>
        intro o ho b q W Zx hC hb hun hall hcl hon hoff hels K hK
        simp only [List.getElem?_cons_succ, List.getElem?_cons_zero, Option.some.injEq] at ho
        subst ho
        have hb : b.length = 12 := hb
        have e0 : Zx.tmps[81]?.getD undef = .int .i64 q.2.2.2 := ev_tmp (hon 9 81 _ (hall ⟨9, .data⟩ (by simp) rfl) rfl)
        have HC := Lib.hid (show (fun (b : List Bool) (q : (Option Addr × Nat) × (Option Addr × Nat) × Int × Int) (W : World) => C4 W9 ls ns (fun p _ => CSp ls ns x0 p.1 p.2) (bt b 1) (bt b 3) (bt b 6) q W) (b.set 11 true) q W from (by show C4 _ _ _ _ _ _ _ _ _; rw [bt_ne (i := 11) (by decide), bt_ne (i := 11) (by decide), bt_ne (i := 11) (by decide)]; exact hC))
        clear hC
        go_simp
        exact hK 12 _ q _ HC.out rfl (fun _ _ => rfl)
      | t + 12 =>
        intro o ho
        simp at ho
    case hq =>
      intro q W hC
      have hF : C4 W9 ls ns (fun p _ => CSp ls ns x0 p.1 p.2) true true true q W := hC
      have hsW10 := hF.bel
      have hv10 := Lib.hid (hF.l8 rfl)
      have hb10 := hb9.trans (hsW10.mono hb9.size)
      clear hC hF
      simp only [zp, List.length_cons, List.length_nil, List.replicate, List.zip_cons_cons, List.zip_nil_right, frm, if_true]
      obtain ⟨⟨a1, a2⟩, ⟨a3, a4⟩, v10, er10⟩ := q
      simp only at hv10
      go_simp
      rename World => W10
      have h410 := hsW9.trans (hsW10.mono hsW9.size)
      have e9 := hv9.out.1 (by rw [HFX.out]; decide)
      rw [HFX.out] at e9
      obtain ⟨rfl, rfl⟩ := e9
      clear hv9 hsW9 hsW10 hb9
      by_cases h1 : argsE [x0] ns.length 6 = 0
      case neg =>
        have HFY : fromE ls ns [x0] = 6 := by unfold fromE; rw [HC0.out]; exact (if_pos rfl).trans (argsE_six h1)
        rw [argsE_six h1] at HE1
        have e10 := hv10.out.1 (by rw [HFY]; decide)
        rw [HFY] at e10
        obtain ⟨rfl, rfl⟩ := e10
        clear hv10 HFY h1
        go_wp2_with fail
        refine (HBO.out W10).mono ?_
        rintro e w' ⟨rfl, rfl⟩
        go_upto_region 13 with (fail)
        have HE2z := Lib.hid (fun (z : Aft W10) => HE2.out z.val (z.below h410 h410.size))
        have HE1z := Lib.hid (fun (z : Aft W10) => HE1.out z.val (z.below h410 h410.size))
        refine wp_region_aft (by kernel_rfl) (by kernel_rfl) ?_
        repeat (go_big_quiet_step (first | (go_at_call 21; with_reducible exact Calls.qs (HE2z.out _)) | (go_at_call 21; with_reducible exact Calls.qs (HE1z.out _)) | (go_at_call 21; exact Calls.qs (HE1z.out _))))
        refine wpQuiet_nil ?_
        intro z13
        have hb13 := z13.below hb10 hb10.size
        have h413 := z13.below h410 h410.size
        generalize z13.val = W13 at *
        clear HE2z HE1z
        go_upto_region 14 with (fail)
        refine wp_region_aft (by kernel_rfl) (by kernel_rfl) ?_
        repeat (go_big_quiet_step (fail))
        refine wpQuiet_nil ?_
        intro z14
        have hb14 := z14.below hb13 hb13.size
        have h414 := z14.below h413 h413.size
        generalize z14.val = W14 at *
        go_wp2
        go_ret
        exact ⟨by first | rfl | simp, Below.aft (hb2.trans (hb14.mono hb2.size))⟩
      rw [h1] at HE1
      obtain ⟨i0, i1⟩ := isIx_iff.1 (argsE_ok2 h1 x0 (by simp))
      obtain ⟨i, rfl⟩ := Int.eq_ofNat_of_zero_le i0
      have hin : i < ns.length := by omega
      have HIN := Lib.hid hin
      have HB1 := Lib.hid (fun (W : World) (hb : Below W4.heap.size W4 W) => show Calls Tryd.prog 37 #[.slice A ls.length cap, .slice N ns.length capN, .slice (some ⟨W3.heap.size, 0, none⟩) 1 2] W (fun e w' => e = .returned (.int .i64 (bitsL ls ns [(i : Int)])) ∧ ∃ x : Aft W, w' = x.val) from Bits_c A cap ls (by have := HL1.out; omega) HWI.out N capN ns (by have := HL2.out; omega) HALL.out (some ⟨W3.heap.size, 0, none⟩) 2 [(i : Int)] (by simp) (ix_one HIN.out) W (HAL.out W (hb4.trans (hb.mono hb4.size))) (HNL.out W (hb4.trans (hb.mono hb4.size))) (HF.out W hb).2)
      obtain ⟨bb, hbb⟩ : ∃ bb, bitsL ls ns [(i : Int)] = bb := ⟨_, rfl⟩
      rw [hbb] at HB1
      have HBB := Lib.hid hbb
      clear hbb
      have HCO := Lib.hid (fun (h : bb ≤ 12) (W : World) (hb : Below W2.heap.size W2 W) => Constant_c A cap ls (by have := HL1.out; omega) N capN ns (by have := HL2.out; omega) i HIN.out (by rw [HBB.out]; exact h) HC0.out W (HAL.out W hb) (HNL.out W hb))
      clear h1 i0 i1 hin
      go_wp2_with fail
      refine (HBO.out W10).mono ?_
      rintro e w' ⟨rfl, rfl⟩
      go_upto_region 13 with (fail)
      have HE2z := Lib.hid (fun (z : Aft W10) => HE2.out z.val (z.below h410 h410.size))
      have HE1z := Lib.hid (fun (z : Aft W10) => HE1.out z.val (z.below h410 h410.size))
      refine wp_region_aft (by kernel_rfl) (by kernel_rfl) ?_
      repeat (go_big_quiet_step (first | (go_at_call 21; with_reducible exact Calls.qs (HE2z.out _)) | (go_at_call 21; with_reducible exact Calls.qs (HE1z.out _)) | (go_at_call 21; exact Calls.qs (HE1z.out _))))
      refine wpQuiet_nil ?_
      intro z13
      have hb13 := z13.below hb10 hb10.size
      have h413 := z13.below h410 h410.size
      generalize z13.val = W13 at *
      clear HE2z HE1z
      go_upto_region 14 with (fail)
      refine wp_region_aft (by kernel_rfl) (by kernel_rfl) ?_
      repeat (go_big_quiet_step (fail))
      refine wpQuiet_nil ?_
      intro z14
      have hb14 := z14.below hb13 hb13.size
      have h414 := z14.below h413 h413.size
      generalize z14.val = W14 at *
      go_wp2_with fail
      refine (HB1.out W14 h414).mono ?_
      rintro e w' ⟨rfl, yb, rfl⟩
      have hbn := yb.below hb14 hb14.size
      generalize yb.val = W15 at *
      by_cases hbt : 12 < bb
      · have e10 := (hv10.out.2 i rfl HIN.out HC0.out).1 (by rw [HBB.out]; exact hbt)
        obtain ⟨rfl, rfl⟩ := e10
        clear hv10
        go_wp2
        go_ret
        exact ⟨by first | rfl | simp, Below.aft (hb2.trans (hbn.mono hb2.size))⟩
      · obtain ⟨qx0, qx1⟩ := HX.out W15 hbn
        go_wp2_with fail
        refine (HCO.out (by omega) W15 hbn).mono ?_
        rintro e W16 ⟨hcw, hsC⟩
        have hbe := hbn.trans (hsC.mono hbn.size)
        clear qx0 qx1
        rcases con_meet hv10.out HIN.out HC0.out (by rw [HBB.out]; omega) hcw with ⟨rfl, rfl⟩ | ⟨rfl, rfl, rfl⟩
        · clear hv10 hcw
          go_wp2
          go_ret
          exact ⟨by first | rfl | simp, Below.aft (hb2.trans (hbe.mono hb2.size))⟩
        · clear hv10 hcw
          go_wp2
          go_ret
          exact ⟨by first | rfl | simp, Below.aft (hb2.trans (hbe.mono hb2.size))⟩

end Go.Proofs.YtkdonapgonegkaaDoor

set_option linter.unusedSimpArgs false
set_option linter.unusedVariables false
namespace Go.Proofs.YtkdonapgonegkaaDoor
open Go.RowKit Go.BigFrame
set_option maxRecDepth 100000 in
set_option maxHeartbeats 6400000 in
theorem GraphAlways_good (A : Option Addr) (cap : Nat) (ls : List Int) (N : Option Addr) (capN : Nat) (ns : List Nd) (x0 x1 : Int) (w : World)
    (hA : LiesI w A ls) (hA0 : ls.length = 0 → A = none ∧ cap = 0 ∨ ∃ ad, A = some ad) (hN : LiesG w N ns) (ht : TabOps w) (hfa : fewB ls ns = true) (h0 : ls.length ≠ 0) (hz : (chk ls ns).2 = 0) (he : argsE [x0, x1] ns.length 6 = 0) :
    Calls Tryd.prog 6 #[.slice A ls.length cap, .slice N ns.length capN, .agg #[.int .i64 x0, .int .i64 x1]] w fun e w' => e = .returned (.bool true) ∧ ∃ x : Aft w, w' = x.val := by
  have hix := argsE_ok2 he
  obtain ⟨i0, i1⟩ := isIx_iff.1 (hix x0 (by simp))
  obtain ⟨j0, j1⟩ := isIx_iff.1 (hix x1 (by simp))
  obtain ⟨i, rfl⟩ := Int.eq_ofNat_of_zero_le i0
  obtain ⟨j, rfl⟩ := Int.eq_ofNat_of_zero_le j0
  have hin : i < ns.length := by omega
  have hjn : j < ns.length := by omega
  have HIN := Lib.hid hin
  have HJN := Lib.hid hjn
  have HAW := Lib.hid (fun (W : World) (hb : Below w.heap.size w W) => awake_c W (ht.below hb))
  have HFA := Lib.hid (fun (W : World) (hb : Below w.heap.size w W) => few_c A cap ls N capN ns W (hN.n.below hb))
  obtain ⟨f1, f2, f3⟩ := fewB_true hfa
  have f4 : ∀ n ∈ ns, n.args.length ≤ 65536 := fun n hn => by have := f3 n hn; omega
  have HCI := Lib.hid (fun (W : World) (hb : Below w.heap.size w W) => CopyIntsI_c A cap ls W (hA.below hb) hA0 (by omega))
  have HCN := Lib.hid (fun (W : World) (hb : Below w.heap.size w W) => CopyNodes_c N capN ns (by omega) f4 W (hN.below hb))
  have HDF := Lib.hid (fun (W : World) (hb : Below w.heap.size w W) (A' : Option Addr) (c' : Nat) (N' : Option Addr) (cn' : Nat) (h1 : LiesI W A' ls) (h2 : LiesN W N' ns) (h3 : ns.length ≤ cn') => DifferenceOf_all A' c' ls (by omega) N' cn' ns (by omega) h3 f4 (i : Int) (j : Int) W h1 h2 (ht.below hb))
  have HCF := Lib.hid (fun (W : World) (hb : Below w.heap.size w W) (A' : Option Addr) (c' : Nat) (N' : Option Addr) (cn' : Nat) (h1 : LiesI W A' ls) (h2 : LiesN W N' ns) (h3 : ns.length ≤ cn') => ConstantAt_all A' c' ls (by omega) N' cn' ns (by omega) h3 f4 (i : Int) W h1 h2 (ht.below hb))
  have HNE := Lib.hid (fun (W : World) (hb : Below w.heap.size w W) => refNodesErrX_c A cap ls N capN ns (by omega) W (hA.below hb) (hN.n.below hb))
  rw [hfa] at HFA
  have h0b : ((ls.length : Int) == 0) = false := by simpa using (by omega : ¬ (ls.length : Int) = 0)
  have hh0 := h0
  have HBO := Lib.hid (fun (W : World) => bothA_c 0 0 W)
  rw [show thenE 0 0 = 0 from if_pos rfl] at HBO
  have HL1 := Lib.hid f1
  have HL2 := Lib.hid f2
  have HC0 := Lib.hid hz
  have HWI := Lib.hid (chk_ok hz).2.1
  have HALL := Lib.hid (chk_nodes hz)
  have HAL := Lib.hid (fun (W : World) (hb : Below w.heap.size w W) => hA.below hb)
  have HNL := Lib.hid (fun (W : World) (hb : Below w.heap.size w W) => hN.n.below hb)
  have he1 : argsE [(i : Int)] ns.length 6 = 0 := argsE_good (ix_one hin)
  have HEA := Lib.hid he
  have HEB := Lib.hid he1
  clear he he1 hix i0 i1 j0 j1 hin hjn hfa hA hA0 hN ht hz f1 f2 f3 f4
  go_enter Tryd.func6, Tryd.ntmps6
  go_upto_region 1 with (fail)
  have hb1 : Below w.heap.size w (w.alloc (.cells #[.int .i64 (i : Int), .int .i64 (j : Int)] 48)) := (Below.refl _ _).alloc (Nat.le_refl _) _
  have rX1 : (w.alloc (.cells #[.int .i64 (i : Int), .int .i64 (j : Int)] 48)).heap[w.heap.size]? = some (.cells #[.int .i64 (i : Int), .int .i64 (j : Int)] 48) := heap_alloc_at rfl
  generalize w.alloc (.cells #[.int .i64 (i : Int), .int .i64 (j : Int)] 48) = W1 at *
  go_wp2_with fail
  refine (HAW.out W1 hb1).mono ?_
  rintro e w' ⟨rfl, y, rfl⟩
  have hb2 := y.below hb1 hb1.size
  have rX2 := heap_aft y (lt_of_get rX1) rX1
  clear hb1 rX1
  generalize y.val = W2 at *
  have HX := Lib.hid (show ∀ W : World, Below W2.heap.size W2 W → W.cell? ⟨w.heap.size, 0, none⟩ = some (.int .i64 (i : Int)) ∧ W.cell? ⟨w.heap.size, 1, none⟩ = some (.int .i64 (j : Int)) from fun W hb => by
    have rX := (hb.block _ (lt_of_get rX2)).trans rX2
    have q0 := cell_block (i := 0) rX
    have q1 := cell_block (i := 1) rX
    simp at q0 q1
    exact ⟨q0, q1⟩)
  clear rX2
  go_wp2_with fail
  refine (HFA.out W2 hb2).mono ?_
  rintro e w' ⟨rfl, rfl⟩
  go_wp2_with fail
  refine (HNE.out W2 hb2).mono ?_
  rintro e w' ⟨rfl, y3, rfl⟩
  have hb3 := y3.pf
  have hw3 := hb2.trans (hb3.mono hb2.size)
  generalize y3.val = W3 at *
  rw [HC0.out]
  obtain ⟨qx0, qx1⟩ := HX.out W3 hb3
  go_wp2_with fail
  have r4 : (W3.alloc (.cells #[.int .i64 (i : Int), .int .i64 (j : Int)] 3)).heap[W3.heap.size]? = some (.cells #[.int .i64 (i : Int), .int .i64 (j : Int)] 3) := heap_alloc_new _ _
  have hb4 : Below W2.heap.size W2 (W3.alloc (.cells #[.int .i64 (i : Int), .int .i64 (j : Int)] 3)) := hb3.trans (((Below.refl _ _).alloc (Nat.le_refl _) _).mono hb3.size)
  generalize (W3.alloc (.cells #[.int .i64 (i : Int), .int .i64 (j : Int)] 3)) = W4 at *
  have HCI := Lib.hid (fun (W : World) (hb : Below W2.heap.size W2 W) => HCI.out W (hb2.trans (hb.mono hb2.size)))
  have HCN := Lib.hid (fun (W : World) (hb : Below W2.heap.size W2 W) => HCN.out W (hb2.trans (hb.mono hb2.size)))
  have HDF := Lib.hid (fun (W : World) (hb : Below W2.heap.size W2 W) => HDF.out W (hb2.trans (hb.mono hb2.size)))
  have HCF := Lib.hid (fun (W : World) (hb : Below W2.heap.size W2 W) => HCF.out W (hb2.trans (hb.mono hb2.size)))
  have HAL := Lib.hid (fun (W : World) (hb : Below W2.heap.size W2 W) => HAL.out W (hb2.trans (hb.mono hb2.size)))
  have HNL := Lib.hid (fun (W : World) (hb : Below W2.heap.size W2 W) => HNL.out W (hb2.trans (hb.mono hb2.size)))
  clear HNE HAW HFA qx0 qx1
  have hF4 : LiesI W4 (some ⟨W3.heap.size, 0, none⟩) [(i : Int), (j : Int)] := LiesI.block r4
  have hF41 : LiesI W4 (some ⟨W3.heap.size, 0, none⟩) [(i : Int)] := hF4.take 1
  have HF := Lib.hid (show ∀ W : World, Below W4.heap.size W4 W → LiesI W (some ⟨W3.heap.size, 0, none⟩) [(i : Int), (j : Int)] ∧ LiesI W (some ⟨W3.heap.size, 0, none⟩) [(i : Int)] from fun W hb => ⟨hF4.below hb, hF41.below hb⟩)
  have HE2 := Lib.hid (fun (W : World) (hb : Below W4.heap.size W4 W) => show Calls Tryd.prog 21 #[.slice N ns.length capN, .slice (some ⟨W3.heap.size, 0, none⟩) 2 2] W (fun e w' => e = .returned (.int .i64 (argsE [(i : Int), (j : Int)] ns.length 6)) ∧ W = w') from refFromErr_c N capN ns.length (by have := HL2.out; omega) (some ⟨W3.heap.size, 0, none⟩) 2 [(i : Int), (j : Int)] (by simp) W (HF.out W hb).1)
  have HE1 := Lib.hid (fun (W : World) (hb : Below W4.heap.size W4 W) => show Calls Tryd.prog 21 #[.slice N ns.length capN, .slice (some ⟨W3.heap.size, 0, none⟩) 1 2] W (fun e w' => e = .returned (.int .i64 (argsE [(i : Int)] ns.length 6)) ∧ W = w') from refFromErr_c N capN ns.length (by have := HL2.out; omega) (some ⟨W3.heap.size, 0, none⟩) 2 [(i : Int)] (by simp) W (HF.out W hb).2)
  clear hF4 hF41 r4
  rw [HEA.out] at HE2
  rw [HEB.out] at HE1
  have HB1 := Lib.hid (fun (W : World) (hb : Below W4.heap.size W4 W) => show Calls Tryd.prog 37 #[.slice A ls.length cap, .slice N ns.length capN, .slice (some ⟨W3.heap.size, 0, none⟩) 1 2] W (fun e w' => e = .returned (.int .i64 (bitsL ls ns [(i : Int)])) ∧ ∃ x : Aft W, w' = x.val) from Bits_c A cap ls (by have := HL1.out; omega) HWI.out N capN ns (by have := HL2.out; omega) HALL.out (some ⟨W3.heap.size, 0, none⟩) 2 [(i : Int)] (by simp) (ix_one HIN.out) W (HAL.out W (hb4.trans (hb.mono hb4.size))) (HNL.out W (hb4.trans (hb.mono hb4.size))) (HF.out W hb).2)
  have HB2 := Lib.hid (fun (W : World) (hb : Below W4.heap.size W4 W) => show Calls Tryd.prog 37 #[.slice A ls.length cap, .slice N ns.length capN, .slice (some ⟨W3.heap.size, 0, none⟩) 2 2] W (fun e w' => e = .returned (.int .i64 (bitsL ls ns [(i : Int), (j : Int)])) ∧ ∃ x : Aft W, w' = x.val) from Bits_c A cap ls (by have := HL1.out; omega) HWI.out N capN ns (by have := HL2.out; omega) HALL.out (some ⟨W3.heap.size, 0, none⟩) 2 [(i : Int), (j : Int)] (by simp) (ix_two HIN.out HJN.out) W (HAL.out W (hb4.trans (hb.mono hb4.size))) (HNL.out W (hb4.trans (hb.mono hb4.size))) (HF.out W hb).1)
  have HT1 := Lib.hid (fun (W : World) (hb : Below W4.heap.size W4 W) => show Calls Tryd.prog 34 #[.slice A ls.length cap, .slice N ns.length capN, .slice (some ⟨W3.heap.size, 0, none⟩) 1 2] W (fun e w' => e = .returned (.bool (lightB (bitsL ls ns [(i : Int)]))) ∧ ∃ x : Aft W, w' = x.val) from light_c A cap ls (by have := HL1.out; omega) HWI.out N capN ns (by have := HL2.out; omega) HALL.out (some ⟨W3.heap.size, 0, none⟩) 2 [(i : Int)] (by simp) (ix_one HIN.out) W (HAL.out W (hb4.trans (hb.mono hb4.size))) (HNL.out W (hb4.trans (hb.mono hb4.size))) (HF.out W hb).2)
  have HT2 := Lib.hid (fun (W : World) (hb : Below W4.heap.size W4 W) => show Calls Tryd.prog 34 #[.slice A ls.length cap, .slice N ns.length capN, .slice (some ⟨W3.heap.size, 0, none⟩) 2 2] W (fun e w' => e = .returned (.bool (lightB (bitsL ls ns [(i : Int), (j : Int)]))) ∧ ∃ x : Aft W, w' = x.val) from light_c A cap ls (by have := HL1.out; omega) HWI.out N capN ns (by have := HL2.out; omega) HALL.out (some ⟨W3.heap.size, 0, none⟩) 2 [(i : Int), (j : Int)] (by simp) (ix_two HIN.out HJN.out) W (HAL.out W (hb4.trans (hb.mono hb4.size))) (HNL.out W (hb4.trans (hb.mono hb4.size))) (HF.out W hb).1)
  generalize lightB (bitsL ls ns [(i : Int)]) = lt1 at *
  generalize lightB (bitsL ls ns [(i : Int), (j : Int)]) = lt2 at *
  obtain ⟨bb, hbb⟩ : ∃ bb, bitsL ls ns [(i : Int)] = bb := ⟨_, rfl⟩
  rw [hbb] at HB1
  have HBB := Lib.hid hbb
  obtain ⟨bc, hbc⟩ : ∃ bc, bitsL ls ns [(i : Int), (j : Int)] = bc := ⟨_, rfl⟩
  rw [hbc] at HB2
  have HBC := Lib.hid hbc
  clear hbb hbc
  have HCO := Lib.hid (fun (h : bb ≤ 12) (W : World) (hb : Below W2.heap.size W2 W) => Constant_c A cap ls (by have := HL1.out; omega) N capN ns (by have := HL2.out; omega) i HIN.out (by rw [HBB.out]; exact h) HC0.out W (HAL.out W hb) (HNL.out W hb))
  have HDI0 := Lib.hid (fun (h : bc ≤ 12) (W : World) (hb : Below W2.heap.size W2 W) => Difference_c A cap ls (by have := HL1.out; omega) N capN ns (by have := HL2.out; omega) i j HIN.out HJN.out (by rw [HBC.out]; exact h) HC0.out W (HAL.out W hb) (HNL.out W hb))
  refine (HE2.out W4 (Below.refl _ _)).mono ?_
  rintro e w' ⟨rfl, rfl⟩
  go_wp2_with fail
  refine (HT2.out W4 (Below.refl _ _)).mono ?_
  rintro e w' ⟨rfl, y5, rfl⟩
  have h45 := y5.pf
  have hb5 := hb4.trans (h45.mono hb4.size)
  generalize y5.val = W5 at *
  cases lt2
  case false =>
    go_wp2
    go_ret
    exact ⟨by first | rfl | simp, Below.aft (hb2.trans (hb5.mono hb2.size))⟩
  go_wp2_with fail
  refine (HT1.out W5 h45).mono ?_
  rintro e w' ⟨rfl, y6, rfl⟩
  have h46 := y6.below h45 h45.size
  have hb6 := y6.below hb5 hb5.size
  generalize y6.val = W6 at *
  cases lt1
  case false =>
    go_wp2
    go_ret
    exact ⟨by first | rfl | simp, Below.aft (hb2.trans (hb6.mono hb2.size))⟩
  clear HT1 HT2 h45 hb5
  go_upto_region 9 with (fail)
  refine wp_region_fx (fun q : (Option Addr × Nat) × (Option Addr × Nat) × Value × Int => [(61, .slice A ls.length cap), (62, .slice q.1.1 ls.length q.1.2), (63, .slice N ns.length capN), (64, .slice q.2.1.1 ns.length q.2.1.2), (65, .pointer (some ⟨w.heap.size, 0, none⟩)), (66, .int .i64 (i : Int)), (67, .pointer (some ⟨w.heap.size, 1, none⟩)), (68, .int .i64 (j : Int)), (69, .tuple #[q.2.2.1, .int .i64 q.2.2.2]), (60, .tuple #[q.2.2.1, .int .i64 q.2.2.2]), (70, q.2.2.1), (71, .int .i64 q.2.2.2), (9, q.2.2.1), (10, .int .i64 q.2.2.2)]) (fun (b : List Bool) (q : (Option Addr × Nat) × (Option Addr × Nat) × Value × Int) (W : World) => C4 W6 ls ns (fun p W => DSp ls ns (i : Int) (j : Int) p.1 p.2 W) (bt b 1) (bt b 3) (bt b 8) q W) (by kernel_rfl) (by kernel_rfl) ⟨((none, 0), (none, 0), (undef, 0)), ⟨(Below.refl _ _).drew, fun h => absurd h (by decide), fun h => absurd h (by decide), fun h => absurd h (by decide)⟩⟩ [61, 62, 63, 64, 65, 66, 67, 68, 69, 60, 70, 71, 9, 10] (fun _ => rfl) (by kernel_rfl) (by decide) ⟨204, rfl, by decide⟩ ?hs ?hq
  case hs =>
    intro iop
    match iop with
    | 0 =>
      intro o ho b q W Zx hC hb hun hall hcl hon hoff hels K hK
      simp only [List.getElem?_cons_succ, List.getElem?_cons_zero, Option.some.injEq] at ho
      subst ho
      have hb : b.length = 14 := hb
      have e0 : Zx.tmps[0]?.getD undef = .slice A ls.length cap := ev_tmp ((hels 0 (by decide)).trans rfl)
      have HC := Lib.hid (show (fun (b : List Bool) (q : (Option Addr × Nat) × (Option Addr × Nat) × Value × Int) (W : World) => C4 W6 ls ns (fun p W => DSp ls ns (i : Int) (j : Int) p.1 p.2 W) (bt b 1) (bt b 3) (bt b 8) q W) (b.set 0 true) q W from (by show C4 _ _ _ _ _ _ _ _ _; rw [bt_ne (i := 0) (by decide), bt_ne (i := 0) (by decide), bt_ne (i := 0) (by decide)]; exact hC))
      clear hC
      go_simp
      exact hK 61 _ q _ HC.out rfl (fun _ _ => rfl)
    | 1 =>
      intro o ho b q W Zx hC hb hun hall hcl hon hoff hels K hK
      simp only [List.getElem?_cons_succ, List.getElem?_cons_zero, Option.some.injEq] at ho
      subst ho
      have hb : b.length = 14 := hb
      have e0 : Zx.tmps[61]?.getD undef = .slice A ls.length cap := ev_tmp (hon 0 61 _ (hall ⟨0, .data⟩ (by simp) rfl) rfl)
      have hbel := hC.bel
      go_simp
      refine (HCI.out W (hb6.trans (hbel.mono hb6.size))).mono ?_
      rintro e w' ⟨A', c', rfl, hl, hb'⟩
      have HC := Lib.hid (show C4 W6 ls ns (fun p W => DSp ls ns (i : Int) (j : Int) p.1 p.2 W) (bt (b.set 1 true) 1) (bt (b.set 1 true) 3) (bt (b.set 1 true) 8) ((A', c'), q.2) w' from by
        rw [bt_eq hun, bt_ne (i := 1) (j := 3) (by decide), bt_ne (i := 1) (j := 8) (by decide)]
        exact hC.s1 (fun _ _ _ h hb => DSp.below h hb) hl hb')
      clear hC
      refine hK 62 _ ((A', c'), q.2) _ HC.out rfl ?_
      intro k' hk'
      match k', hk' with
      | 0, _ => rfl
      | 1, hk' => rw [hun] at hk'; cases hk'
      | 2, _ => rfl
      | 3, _ => rfl
      | 4, _ => rfl
      | 5, _ => rfl
      | 6, _ => rfl
      | 7, _ => rfl
      | 8, _ => rfl
      | 9, _ => rfl
      | 10, _ => rfl
      | 11, _ => rfl
      | 12, _ => rfl
      | 13, _ => rfl
      | t + 14, hk' => rfl
    | 2 =>
      intro o ho b q W Zx hC hb hun hall hcl hon hoff hels K hK
      simp only [List.getElem?_cons_succ, List.getElem?_cons_zero, Option.some.injEq] at ho
      subst ho
      have hb : b.length = 14 := hb
      have e0 : Zx.tmps[1]?.getD undef = .slice N ns.length capN := ev_tmp ((hels 1 (by decide)).trans rfl)
      have HC := Lib.hid (show (fun (b : List Bool) (q : (Option Addr × Nat) × (Option Addr × Nat) × Value × Int) (W : World) => C4 W6 ls ns (fun p W => DSp ls ns (i : Int) (j : Int) p.1 p.2 W) (bt b 1) (bt b 3) (bt b 8) q W) (b.set 2 true) q W from (by show C4 _ _ _ _ _ _ _ _ _; rw [bt_ne (i := 2) (by decide), bt_ne (i := 2) (by decide), bt_ne (i := 2) (by decide)]; exact hC))
      clear hC
      go_simp
      exact hK 63 _ q _ HC.out rfl (fun _ _ => rfl)
    | 3 =>
      intro o ho b q W Zx hC hb hun hall hcl hon hoff hels K hK
      simp only [List.getElem?_cons_succ, List.getElem?_cons_zero, Option.some.injEq] at ho
      subst ho
      have hb : b.length = 14 := hb
      have e0 : Zx.tmps[63]?.getD undef = .slice N ns.length capN := ev_tmp (hon 2 63 _ (hall ⟨2, .data⟩ (by simp) rfl) rfl)
      have hbel := hC.bel
      go_simp
      refine (HCN.out W (hb6.trans (hbel.mono hb6.size))).mono ?_
      rintro e w' ⟨A', c', rfl, hc, hl, hb'⟩
      have HC := Lib.hid (show C4 W6 ls ns (fun p W => DSp ls ns (i : Int) (j : Int) p.1 p.2 W) (bt (b.set 3 true) 1) (bt (b.set 3 true) 3) (bt (b.set 3 true) 8) (q.1, (A', c'), q.2.2) w' from by
        rw [bt_ne (i := 3) (j := 1) (by decide), bt_eq hun, bt_ne (i := 3) (j := 8) (by decide)]
        exact hC.s3 (fun _ _ _ h hb => DSp.below h hb) hl hc hb')
      clear hC
      refine hK 64 _ (q.1, (A', c'), q.2.2) _ HC.out rfl ?_
      intro k' hk'
      match k', hk' with
      | 0, _ => rfl
      | 1, _ => rfl
      | 2, _ => rfl
      | 3, hk' => rw [hun] at hk'; cases hk'
      | 4, _ => rfl
      | 5, _ => rfl
      | 6, _ => rfl
      | 7, _ => rfl
      | 8, _ => rfl
      | 9, _ => rfl
      | 10, _ => rfl
      | 11, _ => rfl
      | 12, _ => rfl
      | 13, _ => rfl
      | t + 14, hk' => rfl
    | 4 =>
      intro o ho b q W Zx hC hb hun hall hcl hon hoff hels K hK
      simp only [List.getElem?_cons_succ, List.getElem?_cons_zero, Option.some.injEq] at ho
      subst ho
      have hb : b.length = 14 := hb
      have e0 : Zx.tmps[5]?.getD undef = .pointer (some ⟨w.heap.size, 0, none⟩) := ev_tmp ((hels 5 (by decide)).trans rfl)
      have HC := Lib.hid (show (fun (b : List Bool) (q : (Option Addr × Nat) × (Option Addr × Nat) × Value × Int) (W : World) => C4 W6 ls ns (fun p W => DSp ls ns (i : Int) (j : Int) p.1 p.2 W) (bt b 1) (bt b 3) (bt b 8) q W) (b.set 4 true) q W from (by show C4 _ _ _ _ _ _ _ _ _; rw [bt_ne (i := 4) (by decide), bt_ne (i := 4) (by decide), bt_ne (i := 4) (by decide)]; exact hC))
      clear hC
      go_simp
      exact hK 65 _ q _ HC.out rfl (fun _ _ => rfl)
    | 5 =>
      intro o ho b q W Zx hC hb hun hall hcl hon hoff hels K hK
      simp only [List.getElem?_cons_succ, List.getElem?_cons_zero, Option.some.injEq] at ho
      subst ho
      have hb : b.length = 14 := hb
      have e0 : Zx.tmps[65]?.getD undef = .pointer (some ⟨w.heap.size, 0, none⟩) := ev_tmp (hon 4 65 _ (hall ⟨4, .data⟩ (by simp) rfl) rfl)
      have HC := Lib.hid (show (fun (b : List Bool) (q : (Option Addr × Nat) × (Option Addr × Nat) × Value × Int) (W : World) => C4 W6 ls ns (fun p W => DSp ls ns (i : Int) (j : Int) p.1 p.2 W) (bt b 1) (bt b 3) (bt b 8) q W) (b.set 5 true) q W from (by show C4 _ _ _ _ _ _ _ _ _; rw [bt_ne (i := 5) (by decide), bt_ne (i := 5) (by decide), bt_ne (i := 5) (by decide)]; exact hC))
      clear hC
      have hcl5 := (HX.out W (hb6.trans (HC.out.bel.mono hb6.size))).1
      go_simp
      exact hK 66 _ q _ HC.out rfl (fun _ _ => rfl)
    | 6 =>
      intro o ho b q W Zx hC hb hun hall hcl hon hoff hels K hK
      simp only [List.getElem?_cons_succ, List.getElem?_cons_zero, Option.some.injEq] at ho
      subst ho
      have hb : b.length = 14 := hb
      have e0 : Zx.tmps[5]?.getD undef = .pointer (some ⟨w.heap.size, 0, none⟩) := ev_tmp ((hels 5 (by decide)).trans rfl)
      have HC := Lib.hid (show (fun (b : List Bool) (q : (Option Addr × Nat) × (Option Addr × Nat) × Value × Int) (W : World) => C4 W6 ls ns (fun p W => DSp ls ns (i : Int) (j : Int) p.1 p.2 W) (bt b 1) (bt b 3) (bt b 8) q W) (b.set 6 true) q W from (by show C4 _ _ _ _ _ _ _ _ _; rw [bt_ne (i := 6) (by decide), bt_ne (i := 6) (by decide), bt_ne (i := 6) (by decide)]; exact hC))
      clear hC
      go_simp
      exact hK 67 _ q _ HC.out rfl (fun _ _ => rfl)
    | 7 =>
      intro o ho b q W Zx hC hb hun hall hcl hon hoff hels K hK
      simp only [List.getElem?_cons_succ, List.getElem?_cons_zero, Option.some.injEq] at ho
      subst ho
      have hb : b.length = 14 := hb
      have e0 : Zx.tmps[67]?.getD undef = .pointer (some ⟨w.heap.size, 1, none⟩) := ev_tmp (hon 6 67 _ (hall ⟨6, .data⟩ (by simp) rfl) rfl)
      have HC := Lib.hid (show (fun (b : List Bool) (q : (Option Addr × Nat) × (Option Addr × Nat) × Value × Int) (W : World) => C4 W6 ls ns (fun p W => DSp ls ns (i : Int) (j : Int) p.1 p.2 W) (bt b 1) (bt b 3) (bt b 8) q W) (b.set 7 true) q W from (by show C4 _ _ _ _ _ _ _ _ _; rw [bt_ne (i := 7) (by decide), bt_ne (i := 7) (by decide), bt_ne (i := 7) (by decide)]; exact hC))
      clear hC
      have hcl7 := (HX.out W (hb6.trans (HC.out.bel.mono hb6.size))).2
      go_simp
      exact hK 68 _ q _ HC.out rfl (fun _ _ => rfl)
    | 8 =>
      intro o ho b q W Zx hC hb hun hall hcl hon hoff hels K hK
      simp only [List.getElem?_cons_succ, List.getElem?_cons_zero, Option.some.injEq] at ho
      subst ho
      have hb : b.length = 14 := hb
      have e0 : Zx.tmps[62]?.getD undef = .slice q.1.1 ls.length q.1.2 := ev_tmp (hon 1 62 _ (hall ⟨1, .data⟩ (by simp) rfl) rfl)
      have e1 : Zx.tmps[64]?.getD undef = .slice q.2.1.1 ns.length q.2.1.2 := ev_tmp (hon 3 64 _ (hall ⟨3, .data⟩ (by simp) rfl) rfl)
      have e2 : Zx.tmps[66]?.getD undef = .int .i64 (i : Int) := ev_tmp (hon 5 66 _ (hall ⟨5, .data⟩ (by simp) rfl) rfl)
      have e3 : Zx.tmps[68]?.getD undef = .int .i64 (j : Int) := ev_tmp (hon 7 68 _ (hall ⟨7, .data⟩ (by simp) rfl) rfl)
      have hn9 := not_yet (j := 9) (by omega) hcl rfl ⟨8, .data⟩ (by simp) rfl rfl hun
      have hn10 := not_yet (j := 10) (by omega) hcl rfl ⟨9, .data⟩ (by simp) rfl rfl hn9
      have hn11 := not_yet (j := 11) (by omega) hcl rfl ⟨9, .data⟩ (by simp) rfl rfl hn9
      have hn12 := not_yet (j := 12) (by omega) hcl rfl ⟨10, .data⟩ (by simp) rfl rfl hn10
      have hn13 := not_yet (j := 13) (by omega) hcl rfl ⟨11, .data⟩ (by simp) rfl rfl hn11
      have HFF := HDF.out W (hb6.trans (hC.bel.mono hb6.size)) q.1.1 q.1.2 q.2.1.1 q.2.1.2 (hC.l1 (bt_of (hall ⟨1, .data⟩ (by simp) rfl))) (hC.l3 (bt_of (hall ⟨3, .data⟩ (by simp) rfl))).1 (hC.l3 (bt_of (hall ⟨3, .data⟩ (by simp) rfl))).2
      have hbel := hC.bel
      go_simp
      refine HFF.mono ?_
      rintro e w' ⟨v', er', rfl, hv', hb'⟩
      have HC := Lib.hid (show C4 W6 ls ns (fun p W => DSp ls ns (i : Int) (j : Int) p.1 p.2 W) (bt (b.set 8 true) 1) (bt (b.set 8 true) 3) (bt (b.set 8 true) 8) (q.1, q.2.1, (v', er')) w' from by
        rw [bt_ne (i := 8) (j := 1) (by decide), bt_ne (i := 8) (j := 3) (by decide), bt_eq hun]
        exact hC.s8 (v := (v', er')) hv' hb')
      clear hC
      refine hK 69 _ (q.1, q.2.1, (v', er')) _ HC.out rfl ?_
      intro k' hk'
      match k', hk' with
      | 0, _ => rfl
      | 1, _ => rfl
      | 2, _ => rfl
      | 3, _ => rfl
      | 4, _ => rfl
      | 5, _ => rfl
      | 6, _ => rfl
      | 7, _ => rfl
      | 8, hk' => rw [hun] at hk'; cases hk'
      | 9, hk' => rw [hn9] at hk'; cases hk'
      | 10, hk' => rw [hn10] at hk'; cases hk'
      | 11, hk' => rw [hn11] at hk'; cases hk'
      | 12, hk' => rw [hn12] at hk'; cases hk'
      | 13, hk' => rw [hn13] at hk'; cases hk'
      | t + 14, hk' => rfl
    | 9 =>
      intro o ho b q W Zx hC hb hun hall hcl hon hoff hels K hK
      simp only [List.getElem?_cons_succ, List.getElem?_cons_zero, Option.some.injEq] at ho
      subst ho
      have hb : b.length = 14 := hb
      have e0 : Zx.tmps[69]?.getD undef = .tuple #[q.2.2.1, .int .i64 q.2.2.2] := ev_tmp (hon 8 69 _ (hall ⟨8, .data⟩ (by simp) rfl) rfl)
      have HC := Lib.hid (show (fun (b : List Bool) (q : (Option Addr × Nat) × (Option Addr × Nat) × Value × Int) (W : World) => C4 W6 ls ns (fun p W => DSp ls ns (i : Int) (j : Int) p.1 p.2 W) (bt b 1) (bt b 3) (bt b 8) q W) (b.set 9 true) q W from (by show C4 _ _ _ _ _ _ _ _ _; rw [bt_ne (i := 9) (by decide), bt_ne (i := 9) (by decide), bt_ne (i := 9) (by decide)]; exact hC))
      clear hC
      go_simp
      exact hK 60 _ q _ HC.out rfl (fun _ _ => rfl)
    | 10 =>
      intro o ho b q W Zx hC hb hun hall hcl hon hoff hels K hK
      simp only [List.getElem?_cons_succ, List.getElem?_cons_zero, Option.some.injEq] at ho
      subst ho
      have hb : b.length = 14 := hb
      have e0 : Zx.tmps[60]?.getD undef = .tuple #[q.2.2.1, .int .i64 q.2.2.2] := ev_tmp (hon 9 60 _ (hall ⟨9, .data⟩ (by simp) rfl) rfl)
      have HC := Lib.hid (show (fun (b : List Bool) (q : (Option Addr × Nat) × (Option Addr × Nat) × Value × Int) (W : World) => C4 W6 ls ns (fun p W => DSp ls ns (i : Int) (j : Int) p.1 p.2 W) (bt b 1) (bt b 3) (bt b 8) q W) (b.set 10 true) q W from (by show C4 _ _ _ _ _ _ _ _ _; rw [bt_ne (i := 10) (by decide), bt_ne (i := 10) (by decide), bt_ne (i := 10) (by decide)]; exact hC))
      clear hC
      go_simp
      exact hK 70 _ q _ HC.out rfl (fun _ _ => rfl)
    | 11 =>
      intro o ho b q W Zx hC hb hun hall hcl hon hoff hels K hK
      simp only [List.getElem?_cons_succ, List.getElem?_cons_zero, Option.some.injEq] at ho
      subst ho
      have hb : b.length = 14 := hb
      have e0 : Zx.tmps[60]?.getD undef = .tuple #[q.2.2.1, .int .i64 q.2.2.2] := ev_tmp (hon 9 60 _ (hall ⟨9, .data⟩ (by simp) rfl) rfl)
      have HC := Lib.hid (show (fun (b : List Bool) (q : (Option Addr × Nat) × (Option Addr × Nat) × Value × Int) (W : World) => C4 W6 ls ns (fun p W => DSp ls ns (i : Int) (j : Int) p.1 p.2 W) (bt b 1) (bt b 3) (bt b 8) q W) (b.set 11 true) q W from (by show C4 _ _ _ _ _ _ _ _ _; rw [bt_ne (i := 11) (by decide), bt_ne (i := 11) (by decide), bt_ne (i := 11) (by decide)]; exact hC))
      clear hC
      go_simp
      exact hK 71 _ q _ HC.out rfl (fun _ _ => rfl)
    | 12 =>
      intro o ho b q W Zx hC hb hun hall hcl hon hoff hels K hK
      simp only [List.getElem?_cons_succ, List.getElem?_cons_zero, Option.some.injEq] at ho
      subst ho
      have hb : b.length = 14 := hb
      have e0 : Zx.tmps[70]?.getD undef = q.2.2.1 := ev_tmp (hon 10 70 _ (hall ⟨10, .data⟩ (by simp) rfl) rfl)
      have HC := Lib.hid (show (fun (b : List Bool) (q : (Option Addr × Nat) × (Option Addr × Nat) × Value × Int) (W : World) => C4 W6 ls ns (fun p W => DSp ls ns (i : Int) (j : Int) p.1 p.2 W) (bt b 1) (bt b 3) (bt b 8) q W) (b.set 12 true) q W from (by show C4 _ _ _ _ _ _ _ _ _; rw [bt_ne (i := 12) (by decide), bt_ne (i := 12) (by decide), bt_ne (i := 12) (by decide)]; exact hC))
      clear hC
      go_simp
      exact hK 9 _ q _ HC.out rfl (fun _ _ => rfl)
    | 13 =>
      intro o ho b q W Zx hC hb hun hall hcl hon hoff hels K hK
      simp only [List.getElem?_cons_succ, List.getElem?_cons_zero, Option.some.injEq] at ho
      subst ho
      have hb : b.length = 14 := hb
      have e0 : Zx.tmps[71]?.getD undef = .int .i64 q.2.2.2 := ev_tmp (hon 11 71 _ (hall ⟨11, .data⟩ (by simp) rfl) rfl)
      have HC := Lib.hid (show (fun (b : List Bool) (q : (Option Addr × Nat) × (Option Addr × Nat) × Value × Int) (W : World) => C4 W6 ls ns (fun p W => DSp ls ns (i : Int) (j : Int) p.1 p.2 W) (bt b 1) (bt b 3) (bt b 8) q W) (b.set 13 true) q W from (by show C4 _ _ _ _ _ _ _ _ _; rw [bt_ne (i := 13) (by decide), bt_ne (i := 13) (by decide), bt_ne (i := 13) (by decide)]; exact hC))
      clear hC
      go_simp
      exact hK 10 _ q _ HC.out rfl (fun _ _ => rfl)
    | t + 14 =>
      intro o ho
      simp at ho
  case hq =>
    intro q W hC
    have hF : C4 W6 ls ns (fun p W => DSp ls ns (i : Int) (j : Int) p.1 p.2 W) true true true q W := hC
    have hsW9 := hF.bel
    have hv9 := Lib.hid (hF.l8 rfl)
    have hb9 := hb6.trans (hsW9.mono hb6.size)
    clear hC hF
    simp only [zp, List.length_cons, List.length_nil, List.replicate, List.zip_cons_cons, List.zip_nil_right, frm, if_true]
    obtain ⟨⟨a1, a2⟩, ⟨a3, a4⟩, v9, er9⟩ := q
    simp only at hv9
    go_simp
    rename World => W9
    go_upto_region 10 with (fail)
    refine wp_region_fx (fun q : (Option Addr × Nat) × (Option Addr × Nat) × Int × Int => [(73, .slice A ls.length cap), (74, .slice q.1.1 ls.length q.1.2), (75, .slice N ns.length capN), (76, .slice q.2.1.1 ns.length q.2.1.2), (77, .pointer (some ⟨w.heap.size, 0, none⟩)), (78, .int .i64 (i : Int)), (79, .tuple #[.int .i64 q.2.2.1, .int .i64 q.2.2.2]), (72, .tuple #[.int .i64 q.2.2.1, .int .i64 q.2.2.2]), (80, .int .i64 q.2.2.1), (81, .int .i64 q.2.2.2), (11, .int .i64 q.2.2.1), (12, .int .i64 q.2.2.2)]) (fun (b : List Bool) (q : (Option Addr × Nat) × (Option Addr × Nat) × Int × Int) (W : World) => C4 W9 ls ns (fun p _ => CSp ls ns (i : Int) p.1 p.2) (bt b 1) (bt b 3) (bt b 6) q W) (by kernel_rfl) (by kernel_rfl) ⟨((none, 0), (none, 0), (0, 0)), ⟨(Below.refl _ _).drew, fun h => absurd h (by decide), fun h => absurd h (by decide), fun h => absurd h (by decide)⟩⟩ [73, 74, 75, 76, 77, 78, 79, 72, 80, 81, 11, 12] (fun _ => rfl) (by kernel_rfl) (by decide) ⟨204, rfl, by decide⟩ ?hs ?hq
    case hs =>
      intro iop
      match iop with
      | 0 =>
        intro o ho b q W Zx hC hb hun hall hcl hon hoff hels K hK
        simp only [List.getElem?_cons_succ, List.getElem?_cons_zero, Option.some.injEq] at ho
        subst ho
        have hb : b.length = 12 := hb
        have e0 : Zx.tmps[0]?.getD undef = .slice A ls.length cap := ev_tmp ((hels 0 (by decide)).trans rfl)
        have HC := Lib.hid (show (fun (b : List Bool) (q : (Option Addr × Nat) × (Option Addr × Nat) × Int × Int) (W : World) => C4 W9 ls ns (fun p _ => CSp ls ns (i : Int) p.1 p.2) (bt b 1) (bt b 3) (bt b 6) q W) (b.set 0 true) q W from (by show C4 _ _ _ _ _ _ _ _ _; rw [bt_ne (i := 0) (by decide), bt_ne (i := 0) (by decide), bt_ne (i := 0) (by decide)]; exact hC))
        clear hC
        go_simp
        exact hK 73 _ q _ HC.out rfl (fun _ _ => rfl)
      | 1 =>
        intro o ho b q W Zx hC hb hun hall hcl hon hoff hels K hK
        simp only [List.getElem?_cons_succ, List.getElem?_cons_zero, Option.some.injEq] at ho
        subst ho
        have hb : b.length = 12 := hb
        have e0 : Zx.tmps[73]?.getD undef = .slice A ls.length cap := ev_tmp (hon 0 73 _ (hall ⟨0, .data⟩ (by simp) rfl) rfl)
        have hbel := hC.bel
        go_simp
        refine (HCI.out W (hb9.trans (hbel.mono hb9.size))).mono ?_
        rintro e w' ⟨A', c', rfl, hl, hb'⟩
        have HC := Lib.hid (show C4 W9 ls ns (fun p _ => CSp ls ns (i : Int) p.1 p.2) (bt (b.set 1 true) 1) (bt (b.set 1 true) 3) (bt (b.set 1 true) 6) ((A', c'), q.2) w' from by
          rw [bt_eq hun, bt_ne (i := 1) (j := 3) (by decide), bt_ne (i := 1) (j := 6) (by decide)]
          exact hC.s1 (fun _ _ _ h _ => h) hl hb')
        clear hC
        refine hK 74 _ ((A', c'), q.2) _ HC.out rfl ?_
        intro k' hk'
        match k', hk' with
        | 0, _ => rfl
        | 1, hk' => rw [hun] at hk'; cases hk'
        | 2, _ => rfl
        | 3, _ => rfl
        | 4, _ => rfl
        | 5, _ => rfl
        | 6, _ => rfl
        | 7, _ => rfl
        | 8, _ => rfl
        | 9, _ => rfl
        | 10, _ => rfl
        | 11, _ => rfl
        | t + 12, hk' => rfl
      | 2 =>
        intro o ho b q W Zx hC hb hun hall hcl hon hoff hels K hK
        simp only [List.getElem?_cons_succ, List.getElem?_cons_zero, Option.some.injEq] at ho
        subst ho
        have hb : b.length = 12 := hb
        have e0 : Zx.tmps[1]?.getD undef = .slice N ns.length capN := ev_tmp ((hels 1 (by decide)).trans rfl)
        have HC := Lib.hid (show (fun (b : List Bool) (q : (Option Addr × Nat) × (Option Addr × Nat) × Int × Int) (W : World) => C4 W9 ls ns (fun p _ => CSp ls ns (i : Int) p.1 p.2) (bt b 1) (bt b 3) (bt b 6) q W) (b.set 2 true) q W from (by show C4 _ _ _ _ _ _ _ _ _; rw [bt_ne (i := 2) (by decide), bt_ne (i := 2) (by decide), bt_ne (i := 2) (by decide)]; exact hC))
        clear hC
        go_simp
        exact hK 75 _ q _ HC.out rfl (fun _ _ => rfl)
      | 3 =>
        intro o ho b q W Zx hC hb hun hall hcl hon hoff hels K hK
        simp only [List.getElem?_cons_succ, List.getElem?_cons_zero, Option.some.injEq] at ho
        subst ho
        have hb : b.length = 12 := hb
        have e0 : Zx.tmps[75]?.getD undef = .slice N ns.length capN := ev_tmp (hon 2 75 _ (hall ⟨2, .data⟩ (by simp) rfl) rfl)
        have hbel := hC.bel
        go_simp
        refine (HCN.out W (hb9.trans (hbel.mono hb9.size))).mono ?_
        rintro e w' ⟨A', c', rfl, hc, hl, hb'⟩
        have HC := Lib.hid (show C4 W9 ls ns (fun p _ => CSp ls ns (i : Int) p.1 p.2) (bt (b.set 3 true) 1) (bt (b.set 3 true) 3) (bt (b.set 3 true) 6) (q.1, (A', c'), q.2.2) w' from by
          rw [bt_ne (i := 3) (j := 1) (by decide), bt_eq hun, bt_ne (i := 3) (j := 6) (by decide)]
          exact hC.s3 (fun _ _ _ h _ => h) hl hc hb')
        clear hC
        refine hK 76 _ (q.1, (A', c'), q.2.2) _ HC.out rfl ?_
        intro k' hk'
        match k', hk' with
        | 0, _ => rfl
        | 1, _ => rfl
        | 2, _ => rfl
        | 3, hk' => rw [hun] at hk'; cases hk'
        | 4, _ => rfl
        | 5, _ => rfl
        | 6, _ => rfl
        | 7, _ => rfl
        | 8, _ => rfl
        | 9, _ => rfl
        | 10, _ => rfl
        | 11, _ => rfl
        | t + 12, hk' => rfl
      | 4 =>
        intro o ho b q W Zx hC hb hun hall hcl hon hoff hels K hK
        simp only [List.getElem?_cons_succ, List.getElem?_cons_zero, Option.some.injEq] at ho
        subst ho
        have hb : b.length = 12 := hb
        have e0 : Zx.tmps[5]?.getD undef = .pointer (some ⟨w.heap.size, 0, none⟩) := ev_tmp ((hels 5 (by decide)).trans rfl)
        have HC := Lib.hid (show (fun (b : List Bool) (q : (Option Addr × Nat) × (Option Addr × Nat) × Int × Int) (W : World) => C4 W9 ls ns (fun p _ => CSp ls ns (i : Int) p.1 p.2) (bt b 1) (bt b 3) (bt b 6) q W) (b.set 4 true) q W from (by show C4 _ _ _ _ _ _ _ _ _; rw [bt_ne (i := 4) (by decide), bt_ne (i := 4) (by decide), bt_ne (i := 4) (by decide)]; exact hC))
        clear hC
        go_simp
        exact hK 77 _ q _ HC.out rfl (fun _ _ => rfl)
      | 5 =>
        intro o ho b q W Zx hC hb hun hall hcl hon hoff hels K hK
        simp only [List.getElem?_cons_succ, List.getElem?_cons_zero, Option.some.injEq] at ho
        subst ho
        have hb : b.length = 12 := hb
        have e0 : Zx.tmps[77]?.getD undef = .pointer (some ⟨w.heap.size, 0, none⟩) := ev_tmp (hon 4 77 _ (hall ⟨4, .data⟩ (by simp) rfl) rfl)
        have HC := Lib.hid (show (fun (b : List Bool) (q : (Option Addr × Nat) × (Option Addr × Nat) × Int × Int) (W : World) => C4 W9 ls ns (fun p _ => CSp ls ns (i : Int) p.1 p.2) (bt b 1) (bt b 3) (bt b 6) q W) (b.set 5 true) q W from (by show C4 _ _ _ _ _ _ _ _ _; rw [bt_ne (i := 5) (by decide), bt_ne (i := 5) (by decide), bt_ne (i := 5) (by decide)]; exact hC))
        clear hC
        have hcl5 := (HX.out W (hb9.trans (HC.out.bel.mono hb9.size))).1
        go_simp
        exact hK 78 _ q _ HC.out rfl (fun _ _ => rfl)
      | 6 =>
        intro o ho b q W Zx hC hb hun hall hcl hon hoff hels K hK
        simp only [List.getElem?_cons_succ, List.getElem?_cons_zero, Option.some.injEq] at ho
        subst ho
        have hb : b.length = 12 := hb
        have e0 : Zx.tmps[74]?.getD undef = .slice q.1.1 ls.length q.1.2 := ev_tmp (hon 1 74 _ (hall ⟨1, .data⟩ (by simp) rfl) rfl)
        have e1 : Zx.tmps[76]?.getD undef = .slice q.2.1.1 ns.length q.2.1.2 := ev_tmp (hon 3 76 _ (hall ⟨3, .data⟩ (by simp) rfl) rfl)
        have e2 : Zx.tmps[78]?.getD undef = .int .i64 (i : Int) := ev_tmp (hon 5 78 _ (hall ⟨5, .data⟩ (by simp) rfl) rfl)
        have hn7 := not_yet (j := 7) (by omega) hcl rfl ⟨6, .data⟩ (by simp) rfl rfl hun
        have hn8 := not_yet (j := 8) (by omega) hcl rfl ⟨7, .data⟩ (by simp) rfl rfl hn7
        have hn9 := not_yet (j := 9) (by omega) hcl rfl ⟨7, .data⟩ (by simp) rfl rfl hn7
        have hn10 := not_yet (j := 10) (by omega) hcl rfl ⟨8, .data⟩ (by simp) rfl rfl hn8
        have hn11 := not_yet (j := 11) (by omega) hcl rfl ⟨9, .data⟩ (by simp) rfl rfl hn9
        have HFF := HCF.out W (hb9.trans (hC.bel.mono hb9.size)) q.1.1 q.1.2 q.2.1.1 q.2.1.2 (hC.l1 (bt_of (hall ⟨1, .data⟩ (by simp) rfl))) (hC.l3 (bt_of (hall ⟨3, .data⟩ (by simp) rfl))).1 (hC.l3 (bt_of (hall ⟨3, .data⟩ (by simp) rfl))).2
        have hbel := hC.bel
        go_simp
        refine HFF.mono ?_
        rintro e w' ⟨v', er', rfl, hv', hb'⟩
        have HC := Lib.hid (show C4 W9 ls ns (fun p _ => CSp ls ns (i : Int) p.1 p.2) (bt (b.set 6 true) 1) (bt (b.set 6 true) 3) (bt (b.set 6 true) 6) (q.1, q.2.1, (v', er')) w' from by
          rw [bt_ne (i := 6) (j := 1) (by decide), bt_ne (i := 6) (j := 3) (by decide), bt_eq hun]
          exact hC.s8 (v := (v', er')) hv' hb')
        clear hC
        refine hK 79 _ (q.1, q.2.1, (v', er')) _ HC.out rfl ?_
        intro k' hk'
        match k', hk' with
        | 0, _ => rfl
        | 1, _ => rfl
        | 2, _ => rfl
        | 3, _ => rfl
        | 4, _ => rfl
        | 5, _ => rfl
        | 6, hk' => rw [hun] at hk'; cases hk'
        | 7, hk' => rw [hn7] at hk'; cases hk'
        | 8, hk' => rw [hn8] at hk'; cases hk'
        | 9, hk' => rw [hn9] at hk'; cases hk'
        | 10, hk' => rw [hn10] at hk'; cases hk'
        | 11, hk' => rw [hn11] at hk'; cases hk'
        | t + 12, hk' => rfl
      | 7 =>
        intro o ho b q W Zx hC hb hun hall hcl hon hoff hels K hK
        simp only [List.getElem?_cons_succ, List.getElem?_cons_zero, Option.some.injEq] at ho
        subst ho
        have hb : b.length = 12 := hb
        have e0 : Zx.tmps[79]?.getD undef = .tuple #[.int .i64 q.2.2.1, .int .i64 q.2.2.2] := ev_tmp (hon 6 79 _ (hall ⟨6, .data⟩ (by simp) rfl) rfl)
        have HC := Lib.hid (show (fun (b : List Bool) (q : (Option Addr × Nat) × (Option Addr × Nat) × Int × Int) (W : World) => C4 W9 ls ns (fun p _ => CSp ls ns (i : Int) p.1 p.2) (bt b 1) (bt b 3) (bt b 6) q W) (b.set 7 true) q W from (by show C4 _ _ _ _ _ _ _ _ _; rw [bt_ne (i := 7) (by decide), bt_ne (i := 7) (by decide), bt_ne (i := 7) (by decide)]; exact hC))
        clear hC
        go_simp
        exact hK 72 _ q _ HC.out rfl (fun _ _ => rfl)
      | 8 =>
        intro o ho b q W Zx hC hb hun hall hcl hon hoff hels K hK
        simp only [List.getElem?_cons_succ, List.getElem?_cons_zero, Option.some.injEq] at ho
        subst ho
        have hb : b.length = 12 := hb
        have e0 : Zx.tmps[72]?.getD undef = .tuple #[.int .i64 q.2.2.1, .int .i64 q.2.2.2] := ev_tmp (hon 7 72 _ (hall ⟨7, .data⟩ (by simp) rfl) rfl)
        have HC := Lib.hid (show (fun (b : List Bool) (q : (Option Addr × Nat) × (Option Addr × Nat) × Int × Int) (W : World) => C4 W9 ls ns (fun p _ => CSp ls ns (i : Int) p.1 p.2) (bt b 1) (bt b 3) (bt b 6) q W) (b.set 8 true) q W from (by show C4 _ _ _ _ _ _ _ _ _; rw [bt_ne (i := 8) (by decide), bt_ne (i := 8) (by decide), bt_ne (i := 8) (by decide)]; exact hC))
        clear hC
        go_simp
        exact hK 80 _ q _ HC.out rfl (fun _ _ => rfl)
      | 9 =>
        intro o ho b q W Zx hC hb hun hall hcl hon hoff hels K hK
        simp only [List.getElem?_cons_succ, List.getElem?_cons_zero, Option.some.injEq] at ho
        subst ho
        have hb : b.length = 12 := hb
        have e0 : Zx.tmps[72]?.getD undef = .tuple #[.int .i64 q.2.2.1, .int .i64 q.2.2.2] := ev_tmp (hon 7 72 _ (hall ⟨7, .data⟩ (by simp) rfl) rfl)
        have HC := Lib.hid (show (fun (b : List Bool) (q : (Option Addr × Nat) × (Option Addr × Nat) × Int × Int) (W : World) => C4 W9 ls ns (fun p _ => CSp ls ns (i : Int) p.1 p.2) (bt b 1) (bt b 3) (bt b 6) q W) (b.set 9 true) q W from (by show C4 _ _ _ _ _ _ _ _ _; rw [bt_ne (i := 9) (by decide), bt_ne (i := 9) (by decide), bt_ne (i := 9) (by decide)]; exact hC))
        clear hC
        go_simp
        exact hK 81 _ q _ HC.out rfl (fun _ _ => rfl)
      | 10 =>
        intro o ho b q W Zx hC hb hun hall hcl hon hoff hels K hK
        simp only [List.getElem?_cons_succ, List.getElem?_cons_zero, Option.some.injEq] at ho
        subst ho
        have hb : b.length = 12 := hb
        have e0 : Zx.tmps[80]?.getD undef = .int .i64 q.2.2.1 := ev_tmp (hon 8 80 _ (hall ⟨8, .data⟩ (by simp) rfl) rfl)
        have HC := Lib.hid (show (fun (b : List Bool) (q : (Option Addr × Nat) × (Option Addr × Nat) × Int × Int) (W : World) => C4 W9 ls ns (fun p _ => CSp ls ns (i : Int) p.1 p.2) (bt b 1) (bt b 3) (bt b 6) q W) (b.set 10 true) q W from (by show C4 _ _ _ _ _ _ _ _ _; rw [bt_ne (i := 10) (by decide), bt_ne (i := 10) (by decide), bt_ne (i := 10) (by decide)]; exact hC))
        clear hC
        go_simp
        exact hK 11 _ q _ HC.out rfl (fun _ _ => rfl)
      | 11 =>
        intro o ho b q W Zx hC hb hun hall hcl hon hoff hels K hK
        simp only [List.getElem?_cons_succ, List.getElem?_cons_zero, Option.some.injEq] at ho
        subst ho
        have hb : b.length = 12 := hb
        have e0 : Zx.tmps[81]?.getD undef = .int .i64 q.2.2.2 := ev_tmp (hon 9 81 _ (hall ⟨9, .data⟩ (by simp) rfl) rfl)
        have HC := Lib.hid (show (fun (b : List Bool) (q : (Option Addr × Nat) × (Option Addr × Nat) × Int × Int) (W : World) => C4 W9 ls ns (fun p _ => CSp ls ns (i : Int) p.1 p.2) (bt b 1) (bt b 3) (bt b 6) q W) (b.set 11 true) q W from (by show C4 _ _ _ _ _ _ _ _ _; rw [bt_ne (i := 11) (by decide), bt_ne (i := 11) (by decide), bt_ne (i := 11) (by decide)]; exact hC))
        clear hC
        go_simp
        exact hK 12 _ q _ HC.out rfl (fun _ _ => rfl)
      | t + 12 =>
        intro o ho
        simp at ho
    case hq =>
      intro q W hC
      have hF : C4 W9 ls ns (fun p _ => CSp ls ns (i : Int) p.1 p.2) true true true q W := hC
      have hsW10 := hF.bel
      have hv10 := Lib.hid (hF.l8 rfl)
      have hb10 := hb9.trans (hsW10.mono hb9.size)
      clear hC hF
      simp only [zp, List.length_cons, List.length_nil, List.replicate, List.zip_cons_cons, List.zip_nil_right, frm, if_true]
      obtain ⟨⟨a1, a2⟩, ⟨a3, a4⟩, v10, er10⟩ := q
      simp only at hv10
      go_simp
      rename World => W10
      have hs910 := hsW10
      have h49 := h46.trans (hsW9.mono h46.size)
      have h410 := h49.trans (hsW10.mono h49.size)
      clear hsW9 hsW10 h49
      go_wp2_with fail
      refine (HBO.out W10).mono ?_
      rintro e w' ⟨rfl, rfl⟩
      go_upto_region 13 with (fail)
      have HE2z := Lib.hid (fun (z : Aft W10) => HE2.out z.val (z.below h410 h410.size))
      have HE1z := Lib.hid (fun (z : Aft W10) => HE1.out z.val (z.below h410 h410.size))
      refine wp_region_aft (by kernel_rfl) (by kernel_rfl) ?_
      repeat (go_big_quiet_step (first | (go_at_call 21; with_reducible exact Calls.qs (HE2z.out _)) | (go_at_call 21; with_reducible exact Calls.qs (HE1z.out _)) | (go_at_call 21; exact Calls.qs (HE1z.out _))))
      refine wpQuiet_nil ?_
      intro z13
      have hsq13 := z13.below hs910 hs910.size
      have hb13 := z13.below hb10 hb10.size
      have h413 := z13.below h410 h410.size
      generalize z13.val = W13 at *
      clear HE2z HE1z
      have hni := List.getElem?_eq_getElem HIN.out
      have hnj := List.getElem?_eq_getElem HJN.out
      have HNI := Lib.hid hni
      have HNJ := Lib.hid hnj
      have HSP := Lib.hid (hv9.out.2 i j rfl rfl _ _ hni hnj HC0.out)
      obtain ⟨ad, rfl, hbl, _, ci, _⟩ := (HNL.out W13 hb13).cells hni
      obtain ⟨ad', had', _, _, cj, _⟩ := (HNL.out W13 hb13).cells hnj
      injection had' with had'
      subst had'
      clear hni hnj
      obtain ⟨wi, hwi⟩ : ∃ z, (ns[i]'HIN.out).wd = z := ⟨_, rfl⟩
      obtain ⟨wj, hwj⟩ : ∃ z, (ns[j]'HJN.out).wd = z := ⟨_, rfl⟩
      rw [hwi] at ci
      rw [hwj] at cj
      have HWIJ := Lib.hid (And.intro hwi hwj)
      clear hwi hwj
      have kx0 : ∀ z : Aft W13, z.val.cell? ⟨w.heap.size, 0, none⟩ = some (.int .i64 i) := fun z => (HX.out _ (z.below hb13 hb13.size)).1
      have kx1 : ∀ z : Aft W13, z.val.cell? ⟨w.heap.size, 1, none⟩ = some (.int .i64 j) := fun z => (HX.out _ (z.below hb13 hb13.size)).2
      have di : ∀ z : Aft W13, z.val.cell? ⟨(ad.add (i * 4)).block, (ad.add (i * 4)).off + 1, none⟩ = some (.int .i64 wi) := fun z => (z.pf.cell (p := (ad.add (i * 4)).add 1) (by rw [addB, addB]; exact hbl)).trans ci
      have dj : ∀ z : Aft W13, z.val.cell? ⟨(ad.add (j * 4)).block, (ad.add (j * 4)).off + 1, none⟩ = some (.int .i64 wj) := fun z => (z.pf.cell (p := (ad.add (j * 4)).add 1) (by rw [addB, addB]; exact hbl)).trans cj
      have hij : (i : Int) < ns.length := by have := HIN.out; omega
      have hjj : (j : Int) < ns.length := by have := HJN.out; omega
      clear ci cj
      have hsd13 := hsq13
      by_cases hwd : wi = wj
      case neg =>
        have n1 : (wi != wj) = true := by simpa using hwd
        have n2 : (wi == wj) = false := by simpa using hwd
        have e9 := HSP.out.1 (by rw [HWIJ.out.1, HWIJ.out.2]; exact hwd)
        obtain ⟨rfl, rfl⟩ := e9
        clear hv9 hwd HSP
        go_upto_region 14 with (fail)
        refine wp_region_aft (by kernel_rfl) (by kernel_rfl) ?_
        repeat (go_big_quiet_step (fail))
        refine wpQuiet_nil ?_
        intro z14
        have hb14 := z14.below hb13 hb13.size
        have h414 := z14.below h413 h413.size
        have hsd14 := z14.below hsd13 hsd13.size
        generalize z14.val = W14 at *
        clear di dj kx0 kx1 hbl hsd13 hsq13 hij hjj
        go_wp2_with fail
        refine (HB1.out W14 h414).mono ?_
        rintro e w' ⟨rfl, yb, rfl⟩
        have hbn := yb.below hb14 hb14.size
        generalize yb.val = W15 at *
        by_cases hbt : 12 < bb
        · have e10 := (hv10.out.2 i rfl HIN.out HC0.out).1 (by rw [HBB.out]; exact hbt)
          obtain ⟨rfl, rfl⟩ := e10
          clear hv10
          go_wp2
          go_ret
          exact ⟨by first | rfl | simp, Below.aft (hb2.trans (hbn.mono hb2.size))⟩
        · obtain ⟨qx0, qx1⟩ := HX.out W15 hbn
          go_wp2_with fail
          refine (HCO.out (by omega) W15 hbn).mono ?_
          rintro e W16 ⟨hcw, hsC⟩
          have hbe := hbn.trans (hsC.mono hbn.size)
          clear qx0 qx1
          rcases con_meet hv10.out HIN.out HC0.out (by rw [HBB.out]; omega) hcw with ⟨rfl, rfl⟩ | ⟨rfl, rfl, rfl⟩
          · clear hv10 hcw
            go_wp2
            go_ret
            exact ⟨by first | rfl | simp, Below.aft (hb2.trans (hbe.mono hb2.size))⟩
          · clear hv10 hcw
            go_wp2
            go_ret
            exact ⟨by first | rfl | simp, Below.aft (hb2.trans (hbe.mono hb2.size))⟩
      subst hwd
      have HWD := Lib.hid (HWIJ.out.1.trans HWIJ.out.2.symm)
      go_upto_region 14 with (fail)
      refine wp_region_aft (by kernel_rfl) (by kernel_rfl) ?_
      repeat (go_big_quiet_step (fail))
      refine wpQuiet_nil ?_
      intro z14
      have hb14 := z14.below hb13 hb13.size
      have h414 := z14.below h413 h413.size
      have hsd14 := z14.below hsd13 hsd13.size
      generalize z14.val = W14 at *
      clear di dj kx0 kx1 hbl hsd13 hsq13 hij hjj
      go_wp2_with fail
      refine (HB2.out W14 h414).mono ?_
      rintro e w' ⟨rfl, y15, rfl⟩
      have hb15 := y15.below hb14 hb14.size
      have h415 := y15.below h414 h414.size
      have hsd15 := y15.below hsd14 hsd14.size
      generalize y15.val = W15 at *
      by_cases hbu : 12 < bc
      · have e9 := HSP.out.2.1 HWD.out (by rw [HBC.out]; exact hbu)
        obtain ⟨rfl, rfl⟩ := e9
        clear hv9 HSP
        go_wp2_with fail
        refine (HB1.out W15 h415).mono ?_
        rintro e w' ⟨rfl, yb, rfl⟩
        have hbn := yb.below hb15 hb15.size
        generalize yb.val = W16 at *
        by_cases hbt : 12 < bb
        · have e10 := (hv10.out.2 i rfl HIN.out HC0.out).1 (by rw [HBB.out]; exact hbt)
          obtain ⟨rfl, rfl⟩ := e10
          clear hv10
          go_wp2
          go_ret
          exact ⟨by first | rfl | simp, Below.aft (hb2.trans (hbn.mono hb2.size))⟩
        · obtain ⟨qx0, qx1⟩ := HX.out W16 hbn
          go_wp2_with fail
          refine (HCO.out (by omega) W16 hbn).mono ?_
          rintro e W17 ⟨hcw, hsC⟩
          have hbe := hbn.trans (hsC.mono hbn.size)
          clear qx0 qx1
          rcases con_meet hv10.out HIN.out HC0.out (by rw [HBB.out]; omega) hcw with ⟨rfl, rfl⟩ | ⟨rfl, rfl, rfl⟩
          · clear hv10 hcw
            go_wp2
            go_ret
            exact ⟨by first | rfl | simp, Below.aft (hb2.trans (hbe.mono hb2.size))⟩
          · clear hv10 hcw
            go_wp2
            go_ret
            exact ⟨by first | rfl | simp, Below.aft (hb2.trans (hbe.mono hb2.size))⟩
      · have HB2L := Lib.hid (show bitsL ls ns [(i : Int), (j : Int)] ≤ 12 by rw [HBC.out]; omega)
        have HDI := Lib.hid (HDI0.out (by omega))
        clear HSP
        go_wp2_with fail
        refine (HB1.out W15 h415).mono ?_
        rintro e w' ⟨rfl, yb, rfl⟩
        have hbn := yb.below hb15 hb15.size
        have hsd := yb.below hsd15 hsd15.size
        generalize yb.val = W16 at *
        by_cases hbt : 12 < bb
        · have e10 := (hv10.out.2 i rfl HIN.out HC0.out).1 (by rw [HBB.out]; exact hbt)
          obtain ⟨rfl, rfl⟩ := e10
          clear hv10
          obtain ⟨qx0, qx1⟩ := HX.out W16 hbn
          go_wp2_with fail
          refine (HDI.out W16 hbn).mono ?_
          rintro e W17 ⟨hdw, hsD⟩
          have hbD := hbn.trans (hsD.mono hbn.size)
          have HDV := Lib.hid (show DSp ls ns (i : Int) (j : Int) v9 er9 W17 from hv9.out.below (hsd.trans (hsD.mono hsd.size)))
          clear qx0 qx1
          rcases dif_meet HDV.out HNI.out HNJ.out HC0.out HWD.out HB2L.out hdw with ⟨k, A1, c1, A2, c2, rfl, rfl, hl1, rfl, hl2⟩ | ⟨rfl, rfl, rfl⟩
          · have HII := Lib.hid (Ints_c A1 c1 (triV ls ns [(i : Int), (j : Int)] k) (by rw [triV_len]; have := HL1.out; omega) A2 c2 (triV ls ns [(i : Int), (j : Int)] k) (by rw [triV_len]; have := HL1.out; omega) W17 hl1 hl2)
            rw [triV_len, eqL_self] at HII
            clear hl1 hl2 hdw HDV
            go_wp2_with fail
            refine HII.out.mono ?_
            rintro e w' ⟨rfl, yz, rfl⟩
            have hbz := yz.below hbD hbD.size
            go_wp2
            go_ret
            exact ⟨by first | rfl | simp, Below.aft (hb2.trans (hbz.mono hb2.size))⟩
          · clear hdw HDV
            go_wp2
            go_ret
            exact ⟨by first | rfl | simp, Below.aft (hb2.trans (hbD.mono hb2.size))⟩
        · obtain ⟨qx0, qx1⟩ := HX.out W16 hbn
          go_wp2_with fail
          refine (HCO.out (by omega) W16 hbn).mono ?_
          rintro e W17 ⟨hcw, hsC⟩
          have hbe := hbn.trans (hsC.mono hbn.size)
          have hsd := hsd.trans (hsC.mono hsd.size)
          clear qx0 qx1
          rcases con_meet hv10.out HIN.out HC0.out (by rw [HBB.out]; omega) hcw with ⟨rfl, rfl⟩ | ⟨rfl, rfl, rfl⟩
          · clear hv10 hcw
            obtain ⟨qx0, qx1⟩ := HX.out W17 hbe
            go_wp2_with fail
            refine (HDI.out W17 hbe).mono ?_
            rintro e W18 ⟨hdw, hsD⟩
            have hbD := hbe.trans (hsD.mono hbe.size)
            have HDV := Lib.hid (show DSp ls ns (i : Int) (j : Int) v9 er9 W18 from hv9.out.below (hsd.trans (hsD.mono hsd.size)))
            clear qx0 qx1
            rcases dif_meet HDV.out HNI.out HNJ.out HC0.out HWD.out HB2L.out hdw with ⟨k, A1, c1, A2, c2, rfl, rfl, hl1, rfl, hl2⟩ | ⟨rfl, rfl, rfl⟩
            · have HII := Lib.hid (Ints_c A1 c1 (triV ls ns [(i : Int), (j : Int)] k) (by rw [triV_len]; have := HL1.out; omega) A2 c2 (triV ls ns [(i : Int), (j : Int)] k) (by rw [triV_len]; have := HL1.out; omega) W18 hl1 hl2)
              rw [triV_len, eqL_self] at HII
              clear hl1 hl2 hdw HDV
              go_wp2_with fail
              refine HII.out.mono ?_
              rintro e w' ⟨rfl, yz, rfl⟩
              have hbz := yz.below hbD hbD.size
              go_wp2
              go_ret
              exact ⟨by first | rfl | simp, Below.aft (hb2.trans (hbz.mono hb2.size))⟩
            · clear hdw HDV
              go_wp2
              go_ret
              exact ⟨by first | rfl | simp, Below.aft (hb2.trans (hbD.mono hb2.size))⟩
          · clear hv10 hcw
            obtain ⟨qx0, qx1⟩ := HX.out W17 hbe
            go_wp2_with fail
            refine (HDI.out W17 hbe).mono ?_
            rintro e W18 ⟨hdw, hsD⟩
            have hbD := hbe.trans (hsD.mono hbe.size)
            have HDV := Lib.hid (show DSp ls ns (i : Int) (j : Int) v9 er9 W18 from hv9.out.below (hsd.trans (hsD.mono hsd.size)))
            clear qx0 qx1
            rcases dif_meet HDV.out HNI.out HNJ.out HC0.out HWD.out HB2L.out hdw with ⟨k, A1, c1, A2, c2, rfl, rfl, hl1, rfl, hl2⟩ | ⟨rfl, rfl, rfl⟩
            · have HII := Lib.hid (Ints_c A1 c1 (triV ls ns [(i : Int), (j : Int)] k) (by rw [triV_len]; have := HL1.out; omega) A2 c2 (triV ls ns [(i : Int), (j : Int)] k) (by rw [triV_len]; have := HL1.out; omega) W18 hl1 hl2)
              rw [triV_len, eqL_self] at HII
              clear hl1 hl2 hdw HDV
              go_wp2_with fail
              refine HII.out.mono ?_
              rintro e w' ⟨rfl, yz, rfl⟩
              have hbz := yz.below hbD hbD.size
              go_wp2
              go_ret
              exact ⟨by first | rfl | simp, Below.aft (hb2.trans (hbz.mono hb2.size))⟩
            · clear hdw HDV
              go_wp2
              go_ret
              exact ⟨by first | rfl | simp, Below.aft (hb2.trans (hbD.mono hb2.size))⟩

end Go.Proofs.YtkdonapgonegkaaDoor

set_option linter.unusedSimpArgs false
set_option linter.unusedVariables false
namespace Go.Proofs.YtkdonapgonegkaaDoor
open Go.RowKit Go.BigFrame
set_option maxRecDepth 100000 in
set_option maxHeartbeats 4000000 in
theorem GraphAlways_main (A : Option Addr) (cap : Nat) (ls : List Int) (N : Option Addr) (capN : Nat) (ns : List Nd) (x0 x1 : Int) (w : World)
    (hA : LiesI w A ls) (hA0 : ls.length = 0 → A = none ∧ cap = 0 ∨ ∃ ad, A = some ad) (hN : LiesG w N ns) (ht : TabOps w)  :
    Calls Tryd.prog 6 #[.slice A ls.length cap, .slice N ns.length capN, .agg #[.int .i64 x0, .int .i64 x1]] w fun e w' => e = .returned (.bool true) ∧ ∃ x : Aft w, w' = x.val := by
  cases hfa : fewB ls ns
  · exact GraphAlways_few A cap ls N capN ns x0 x1 w hA hA0 hN ht hfa
  by_cases h0 : ls.length = 0
  · exact GraphAlways_none A cap ls N capN ns x0 x1 w hA hA0 hN ht hfa h0
  by_cases hz : (chk ls ns).2 = 0
  case neg => exact GraphAlways_bad A cap ls N capN ns x0 x1 w hA hA0 hN ht hfa h0 hz
  by_cases he : argsE [x0, x1] ns.length 6 = 0
  · exact GraphAlways_good A cap ls N capN ns x0 x1 w hA hA0 hN ht hfa h0 hz he
  · exact GraphAlways_index A cap ls N capN ns x0 x1 w hA hA0 hN ht hfa h0 hz he

end Go.Proofs.YtkdonapgonegkaaDoor
