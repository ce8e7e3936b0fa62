/-
  The law GraphValues of chapter 2 (graph).
-/
import Derived.Test.YtkdonapgonegkaaDoorPG
import Derived.Test.YtkdonapgonegkaaDoorPH
import Derived.Test.YtkdonapgonegkaaDoorPC
set_option linter.unusedSimpArgs false
set_option linter.unusedVariables false
namespace Go.Proofs.YtkdonapgonegkaaDoor
open Go.RowKit Go.BigFrame

/-- What a call gives back: a row, or an error and none. -/
def RowV (er : Int) (xs : List Int) (v : Value) (w' : World) : Prop := er ≠ 0 ∧ v = .slice none 0 0 ∨ er = 0 ∧ ∃ A' c, v = .slice A' xs.length c ∧ LiesI w' A' xs
theorem RowE.v {w w' : World} {er : Int} {xs : List Int} {e : Ending} (h : RowE w er xs e w') : ∃ v, e = .returned (.tuple #[v, .int .i64 er]) ∧ RowV er xs v w' ∧ Below w.heap.size w w' := by
  obtain ⟨⟨h1, rfl⟩ | ⟨rfl, A', c, rfl, hl⟩, hb⟩ := h
  · exact ⟨_, rfl, .inl ⟨h1, rfl⟩, hb⟩
  · exact ⟨_, rfl, .inr ⟨rfl, A', c, rfl, hl⟩, hb⟩
theorem RowV.below {W W' : World} {er : Int} {xs : List Int} {v : Value} (h : RowV er xs v W) (hb : Below W.heap.size W W') : RowV er xs v W' := by
  rcases h with h | ⟨h1, A', c, h2, hl⟩
  · exact .inl h
  · exact .inr ⟨h1, A', c, h2, hl.below hb⟩
theorem RowV.nil {W : World} {er : Int} {xs : List Int} {v : Value} (h : RowV er xs v W) (he : er ≠ 0) : v = .slice none 0 0 := by
  rcases h with ⟨_, h⟩ | ⟨h, _⟩
  · exact h
  · exact absurd h he
theorem RowV.good {W : World} {xs : List Int} {v : Value} (h : RowV 0 xs v W) : ∃ A' c, v = .slice A' xs.length c ∧ LiesI W A' xs := by
  rcases h with ⟨h, _⟩ | ⟨_, h⟩
  · exact absurd rfl h
  · exact h
/-- A region of four calls: two rows of numbers and one of nodes are copied and handed on. -/
structure C3 (W2 : World) (ls : List Int) (ns : List Nd) (xs : List Int) (Rr : Value → World → Prop) (b1 b3 b6 b7 : Bool) (q : (Option Addr × Nat) × (Option Addr × Nat) × (Option Addr × Nat) × Value) (W : World) : Prop where
  bel : Below W2.heap.size W2 W
  l1 : b1 = true → LiesI W q.1.1 ls
  l3 : b3 = true → LiesN W q.2.1.1 ns ∧ ns.length ≤ q.2.1.2
  l6 : b6 = true → LiesI W q.2.2.1.1 xs
  l7 : b7 = true → Rr q.2.2.2 W
section
variable {W2 W W' : World} {ls : List Int} {ns : List Nd} {xs : List Int} {Rr : Value → World → Prop} {b1 b3 b6 b7 : Bool} {q : (Option Addr × Nat) × (Option Addr × Nat) × (Option Addr × Nat) × Value}
theorem C3.s1 (h : C3 W2 ls ns xs Rr b1 b3 b6 b7 q W) (hR : ∀ v W W', Rr v W → Below W.heap.size W W' → Rr v W') {A' : Option Addr} {c' : Nat} (hl : LiesI W' A' ls) (hb : Below W.heap.size W W') : C3 W2 ls ns xs Rr true b3 b6 b7 ((A', c'), q.2) W' :=
  ⟨h.bel.trans (hb.mono h.bel.size), fun _ => hl, fun h1 => ⟨(h.l3 h1).1.below hb, (h.l3 h1).2⟩, fun h1 => (h.l6 h1).below hb, fun h1 => hR _ _ _ (h.l7 h1) hb⟩
theorem C3.s3 (h : C3 W2 ls ns xs Rr b1 b3 b6 b7 q W) (hR : ∀ v W W', Rr v W → Below W.heap.size W W' → Rr v W') {A' : Option Addr} {c' : Nat} (hl : LiesN W' A' ns) (hc : ns.length ≤ c') (hb : Below W.heap.size W W') : C3 W2 ls ns xs Rr b1 true b6 b7 (q.1, (A', c'), q.2.2) W' :=
  ⟨h.bel.trans (hb.mono h.bel.size), fun h1 => (h.l1 h1).below hb, fun _ => ⟨hl, hc⟩, fun h1 => (h.l6 h1).below hb, fun h1 => hR _ _ _ (h.l7 h1) hb⟩
theorem C3.s6 (h : C3 W2 ls ns xs Rr b1 b3 b6 b7 q W) (hR : ∀ v W W', Rr v W → Below W.heap.size W W' → Rr v W') {A' : Option Addr} {c' : Nat} (hl : LiesI W' A' xs) (hb : Below W.heap.size W W') : C3 W2 ls ns xs Rr b1 b3 true b7 (q.1, q.2.1, (A', c'), q.2.2.2) W' :=
  ⟨h.bel.trans (hb.mono h.bel.size), fun h1 => (h.l1 h1).below hb, fun h1 => ⟨(h.l3 h1).1.below hb, (h.l3 h1).2⟩, fun _ => hl, fun h1 => hR _ _ _ (h.l7 h1) hb⟩
theorem C3.s7 (h : C3 W2 ls ns xs Rr b1 b3 b6 b7 q W) {v : Value} (hv : Rr v W') (hb : Below W.heap.size W W') : C3 W2 ls ns xs Rr b1 b3 b6 true (q.1, q.2.1, q.2.2.1, v) W' :=
  ⟨h.bel.trans (hb.mono h.bel.size), fun h1 => (h.l1 h1).below hb, fun h1 => ⟨(h.l3 h1).1.below hb, (h.l3 h1).2⟩, fun h1 => (h.l6 h1).below hb, fun _ => hv⟩
end
theorem eqL_same (a : List Int) : eqL a a = true := by unfold eqL; exact decide_eq_true rfl
theorem thenE_bad {a b : Int} (h : a ≠ 0) : thenE a b = a := if_neg h
theorem thenE_ok {b : Int} : thenE 0 b = b := if_pos rfl
theorem argsE_ok {fr : List Int} {n : Int} (h : argsE fr n 6 = 0) : ∀ x ∈ fr, isIx x n = true := by
  intro x hx
  unfold argsE at h
  by_cases ha : (fr.all fun i => isIx i n) = true
  · exact List.all_eq_true.1 ha x hx
  · rw [if_neg ha] at h; exact absurd h (by decide)

set_option maxRecDepth 100000 in
set_option maxHeartbeats 6400000 in
theorem GraphValues_main (A : Option Addr) (cap : Nat) (ls : List Int) (N : Option Addr) (capN : Nat) (ns : List Nd) (V : Option Addr) (cv : Nat) (vs : List Int) (F : Option Addr) (cf : Nat) (fr : List Int) (w : World)
    (hA : LiesI w A ls) (hA0 : ls.length = 0 → A = none ∧ cap = 0 ∨ ∃ ad, A = some ad) (hN : LiesG w N ns) (hV : LiesI w V vs) (hV0 : vs.length = 0 → V = none ∧ cv = 0 ∨ ∃ ad, V = some ad) (hF : LiesI w F fr) (hF0 : fr.length = 0 → F = none ∧ cf = 0 ∨ ∃ ad, F = some ad) (ht : TabOps w) :
    Calls Tryd.prog 4 #[.slice A ls.length cap, .slice N ns.length capN, .agg #[.slice V vs.length cv, .slice F fr.length cf]] w fun e w' => e = .returned (.bool true) ∧ ∃ x : Aft w, w' = x.val := by
  have HAW := Lib.hid (fun (W : World) (hb : Below w.heap.size w W) => awake_c W (ht.below hb))
  have HFA := Lib.hid (fun (W : World) (hb : Below w.heap.size w W) => few_c A cap ls N capN ns W (hN.n.below hb))
  cases hfa : fewB ls ns
  · rw [hfa] at HFA
    clear hfa hA hA0 hN hV hV0 hF hF0 ht
    go_enter Tryd.func4, Tryd.ntmps4
    go_upto_region 1 with (fail)
    have hb1 : Below w.heap.size w (w.alloc (.cells #[.slice V vs.length cv, .slice F fr.length cf] 34)) := (Below.refl _ _).alloc (Nat.le_refl _) _
    have rX1 : (w.alloc (.cells #[.slice V vs.length cv, .slice F fr.length cf] 34)).heap[w.heap.size]? = some (.cells #[.slice V vs.length cv, .slice F fr.length cf] 34) := heap_alloc_at rfl
    generalize w.alloc (.cells #[.slice V vs.length cv, .slice F fr.length cf] 34) = W1 at *
    go_wp2_with fail
    refine (HAW.out W1 hb1).mono ?_
    rintro e w' ⟨rfl, y, rfl⟩
    have hb2 := y.below hb1 hb1.size
    have rX2 := heap_aft y (lt_of_get rX1) rX1
    clear hb1 rX1
    generalize y.val = W2 at *
    have q0 := cell_block (i := 0) rX2
    have q1 := cell_block (i := 1) rX2
    simp at q0 q1
    go_wp2_with ((go_at_call 9; (with_reducible refine (HFA.out _ (by with_reducible assumption)).mono ?_); rintro e w' ⟨rfl, rfl⟩))
    go_ret
    exact ⟨rfl, Below.aft hb2⟩
  rw [hfa] at HFA
  obtain ⟨f1, f2, f3⟩ := fewB_true hfa
  by_cases h60 : 60 < vs.length
  · have h60' : (60 : Int) < vs.length := by omega
    clear hfa hA hA0 hN hV hV0 hF hF0 ht f1 f2 f3
    go_enter Tryd.func4, Tryd.ntmps4
    go_upto_region 1 with (fail)
    have hb1 : Below w.heap.size w (w.alloc (.cells #[.slice V vs.length cv, .slice F fr.length cf] 34)) := (Below.refl _ _).alloc (Nat.le_refl _) _
    have rX1 : (w.alloc (.cells #[.slice V vs.length cv, .slice F fr.length cf] 34)).heap[w.heap.size]? = some (.cells #[.slice V vs.length cv, .slice F fr.length cf] 34) := heap_alloc_at rfl
    generalize w.alloc (.cells #[.slice V vs.length cv, .slice F fr.length cf] 34) = W1 at *
    go_wp2_with fail
    refine (HAW.out W1 hb1).mono ?_
    rintro e w' ⟨rfl, y, rfl⟩
    have hb2 := y.below hb1 hb1.size
    have rX2 := heap_aft y (lt_of_get rX1) rX1
    clear hb1 rX1
    generalize y.val = W2 at *
    have q0 := cell_block (i := 0) rX2
    have q1 := cell_block (i := 1) rX2
    simp at q0 q1
    go_wp2_with ((go_at_call 9; (with_reducible refine (HFA.out _ (by with_reducible assumption)).mono ?_); rintro e w' ⟨rfl, rfl⟩))
    go_ret
    exact ⟨rfl, Below.aft hb2⟩
  have h60' : ¬ (60 : Int) < vs.length := by omega
  by_cases g60 : 60 < fr.length
  · have g60' : (60 : Int) < fr.length := by omega
    clear hfa hA hA0 hN hV hV0 hF hF0 ht f1 f2 f3
    go_enter Tryd.func4, Tryd.ntmps4
    go_upto_region 1 with (fail)
    have hb1 : Below w.heap.size w (w.alloc (.cells #[.slice V vs.length cv, .slice F fr.length cf] 34)) := (Below.refl _ _).alloc (Nat.le_refl _) _
    have rX1 : (w.alloc (.cells #[.slice V vs.length cv, .slice F fr.length cf] 34)).heap[w.heap.size]? = some (.cells #[.slice V vs.length cv, .slice F fr.length cf] 34) := heap_alloc_at rfl
    generalize w.alloc (.cells #[.slice V vs.length cv, .slice F fr.length cf] 34) = W1 at *
    go_wp2_with fail
    refine (HAW.out W1 hb1).mono ?_
    rintro e w' ⟨rfl, y, rfl⟩
    have hb2 := y.below hb1 hb1.size
    have rX2 := heap_aft y (lt_of_get rX1) rX1
    clear hb1 rX1
    generalize y.val = W2 at *
    have q0 := cell_block (i := 0) rX2
    have q1 := cell_block (i := 1) rX2
    simp at q0 q1
    go_wp2_with ((go_at_call 9; (with_reducible refine (HFA.out _ (by with_reducible assumption)).mono ?_); rintro e w' ⟨rfl, rfl⟩))
    go_ret
    exact ⟨rfl, Below.aft hb2⟩
  have g60' : ¬ (60 : Int) < fr.length := by omega
  have f4 : ∀ n ∈ ns, n.args.length ≤ 65536 := fun n hn => by have := f3 n hn; omega
  have HCI := Lib.hid (fun (W : World) (hb : Below w.heap.size w W) => CopyIntsI_c A cap ls W (hA.below hb) hA0 (by omega))
  have HCV := Lib.hid (fun (W : World) (hb : Below w.heap.size w W) => CopyIntsI_c V cv vs W (hV.below hb) hV0 (by omega))
  have HCF := Lib.hid (fun (W : World) (hb : Below w.heap.size w W) => CopyIntsI_c F cf fr W (hF.below hb) hF0 (by omega))
  have HCN := Lib.hid (fun (W : World) (hb : Below w.heap.size w W) => CopyNodes_c N capN ns (by omega) f4 W (hN.below hb))
  have HVO := Lib.hid (fun (W : World) (hb : Below w.heap.size w W) (A' : Option Addr) (c' : Nat) (N' : Option Addr) (cn' : Nat) (X' : Option Addr) (cx' : Nat) (h1 : LiesI W A' ls) (h2 : LiesN W N' ns) (h3 : ns.length ≤ cn') (h4 : LiesI W X' vs) => (ValuesOf_c A' c' ls (by omega) N' cn' ns (by omega) h3 f4 X' cx' vs (by omega) W h1 h2 h4 (ht.below hb)).mono fun _ _ h => h.v)
  have HBO := Lib.hid (fun (W : World) (hb : Below w.heap.size w W) (A' : Option Addr) (c' : Nat) (N' : Option Addr) (cn' : Nat) (X' : Option Addr) (cx' : Nat) (h1 : LiesI W A' ls) (h2 : LiesN W N' ns) (h3 : ns.length ≤ cn') (h4 : LiesI W X' fr) => (BelowOf_c A' c' ls (by omega) N' cn' ns (by omega) h3 f4 X' cx' fr (by omega) W h1 h2 h4 (ht.below hb)).mono fun _ _ h => h.v)
  have HLO := Lib.hid (fun (W : World) (hb : Below w.heap.size w W) (A' : Option Addr) (c' : Nat) (N' : Option Addr) (cn' : Nat) (X' : Option Addr) (cx' : Nat) (h1 : LiesI W A' ls) (h2 : LiesN W N' ns) (h3 : ns.length ≤ cn') (h4 : LiesI W X' fr) => (LeavesOf_c A' c' ls (by omega) N' cn' ns (by omega) h3 f4 X' cx' fr (by omega) W h1 h2 h4 (ht.below hb)).mono fun _ _ h => h.v)
  have HDO := Lib.hid (fun (W : World) (hb : Below w.heap.size w W) (A' : Option Addr) (c' : Nat) (N' : Option Addr) (cn' : Nat) (h1 : LiesI W A' ls) (h2 : LiesN W N' ns) (h3 : ns.length ≤ cn') => (DepthsOf_c A' c' ls (by omega) N' cn' ns (by omega) h3 f4 W h1 h2 (ht.below hb)).mono fun _ _ h => h.v)
  have HNE := Lib.hid (fun (W : World) (hb : Below w.heap.size w W) => refNodesErr_c A cap ls (by omega) N capN ns (by omega) f4 W (hA.below hb) (hN.n.below hb))
  have HDP := Lib.hid (fun (h : (chk ls ns).2 = 0) (W : World) (hb : Below w.heap.size w W) => refDepths_c N capN ns (by omega) ls.length (chk_nodes h) W (hN.n.below hb))
  have HFE := Lib.hid (fun (W : World) (hb : Below w.heap.size w W) => refFromErr_c N capN ns.length (by omega) F cf fr (by omega) W (hF.below hb))
  have HRB := Lib.hid (fun (h : (chk ls ns).2 = 0) (he : argsE fr ns.length 6 = 0) (W : World) (hb : Below w.heap.size w W) => refBelow_c N capN ns (by omega) ls.length (by omega) (chk_nodes h) F cf fr (by omega) (argsE_ok he) W (hN.n.below hb) (hF.below hb))
  have HLB := Lib.hid (fun (h : (chk ls ns).2 = 0) (he : argsE fr ns.length 6 = 0) (W : World) (hb : Below w.heap.size w W) => baseLeavesBelow_c N capN ns (by omega) ls.length (by omega) (chk_nodes h) F cf fr (by omega) (argsE_ok he) W (hN.n.below hb) (hF.below hb))
  have HVE := Lib.hid (fun (h : (chk ls ns).2 = 0) (W : World) (hb : Below w.heap.size w W) => refValuesErr_c A cap ls (by omega) (chk_ok h).2.1 V cv vs (by omega) W (hA.below hb) (hV.below hb))
  have HNV := Lib.hid (fun (h : (chk ls ns).2 = 0) (he : valE ls vs = 0) (W : World) (hb : Below w.heap.size w W) => NodeValues_c h he N capN V cv W (hN.n.below hb) (hV.below hb))
  have HLV := Lib.hid (show (valsL ns vs).length ≤ 65536 by rw [valsL_len]; omega)
  have HLD := Lib.hid (show (depL ns).length ≤ 65536 by rw [depL_len]; omega)
  have HLC := Lib.hid (show (choL (belL ns fr)).length ≤ 65536 by have := choK_len (bs := belL ns fr) (belL ns fr).length; rw [belL_len] at this; unfold choL; rw [belL_len]; omega)
  have HLL := Lib.hid (show (lbL ns fr ls.length).length ≤ 65536 by have := lbL_len (ns := ns) (fr := fr) (L := ls.length); omega)
  have hfE : fromE ls ns fr = thenE (chk ls ns).2 (argsE fr ns.length 6) := rfl
  rw [hfE] at HBO HLO
  clear hfE hfa hA hA0 hN hV hV0 hF hF0 ht f1 f2 f3 f4
  generalize (chk ls ns).2 = ce at *
  generalize valE ls vs = ev at *
  generalize argsE fr ns.length 6 = ef at *
  generalize valsL ns vs = Xv at *
  generalize depL ns = Xd at *
  generalize choL (belL ns fr) = Xb at *
  generalize lbL ns fr ls.length = Xl at *
  go_enter Tryd.func4, Tryd.ntmps4
  go_upto_region 1 with (fail)
  have hb1 : Below w.heap.size w (w.alloc (.cells #[.slice V vs.length cv, .slice F fr.length cf] 34)) := (Below.refl _ _).alloc (Nat.le_refl _) _
  have rX1 : (w.alloc (.cells #[.slice V vs.length cv, .slice F fr.length cf] 34)).heap[w.heap.size]? = some (.cells #[.slice V vs.length cv, .slice F fr.length cf] 34) := heap_alloc_at rfl
  generalize w.alloc (.cells #[.slice V vs.length cv, .slice F fr.length cf] 34) = W1 at *
  go_wp2_with fail
  refine (HAW.out W1 hb1).mono ?_
  rintro e w' ⟨rfl, y, rfl⟩
  have hb2 := y.below hb1 hb1.size
  have rX2 := heap_aft y (lt_of_get rX1) rX1
  clear hb1 rX1
  generalize y.val = W2 at *
  have q0 := cell_block (i := 0) rX2
  have q1 := cell_block (i := 1) rX2
  simp at q0 q1
  have HX := Lib.hid (show ∀ W : World, Below W2.heap.size W2 W → W.cell? ⟨w.heap.size, 0, none⟩ = some (.slice V vs.length cv) ∧ W.cell? ⟨w.heap.size, 1, none⟩ = some (.slice F fr.length cf) from fun W hb => by
    have rX := (hb.block _ (lt_of_get rX2)).trans rX2
    have q0 := cell_block (i := 0) rX
    have q1 := cell_block (i := 1) rX
    simp at q0 q1
    exact ⟨q0, q1⟩)
  clear rX2
  go_upto_region 5 with ((go_at_call 9; (with_reducible refine (HFA.out _ (by with_reducible assumption)).mono ?_); rintro e w' ⟨rfl, rfl⟩))
  clear q0 q1 HAW HFA
  have HCI := Lib.hid (fun (W : World) (hb : Below W2.heap.size W2 W) => HCI.out W (hb2.trans (hb.mono hb2.size)))
  have HCV := Lib.hid (fun (W : World) (hb : Below W2.heap.size W2 W) => HCV.out W (hb2.trans (hb.mono hb2.size)))
  have HCF := Lib.hid (fun (W : World) (hb : Below W2.heap.size W2 W) => HCF.out W (hb2.trans (hb.mono hb2.size)))
  have HCN := Lib.hid (fun (W : World) (hb : Below W2.heap.size W2 W) => HCN.out W (hb2.trans (hb.mono hb2.size)))
  have HVO := Lib.hid (fun (W : World) (hb : Below W2.heap.size W2 W) => HVO.out W (hb2.trans (hb.mono hb2.size)))
  have HBO := Lib.hid (fun (W : World) (hb : Below W2.heap.size W2 W) => HBO.out W (hb2.trans (hb.mono hb2.size)))
  have HLO := Lib.hid (fun (W : World) (hb : Below W2.heap.size W2 W) => HLO.out W (hb2.trans (hb.mono hb2.size)))
  have HDO := Lib.hid (fun (W : World) (hb : Below W2.heap.size W2 W) => HDO.out W (hb2.trans (hb.mono hb2.size)))
  have HNE := Lib.hid (fun (W : World) (hb : Below W2.heap.size W2 W) => HNE.out W (hb2.trans (hb.mono hb2.size)))
  have HFE := Lib.hid (fun (W : World) (hb : Below W2.heap.size W2 W) => HFE.out W (hb2.trans (hb.mono hb2.size)))
  have HDP := Lib.hid (fun (h : ce = 0) (W : World) (hb : Below W2.heap.size W2 W) => HDP.out h W (hb2.trans (hb.mono hb2.size)))
  have HVE := Lib.hid (fun (h : ce = 0) (W : World) (hb : Below W2.heap.size W2 W) => HVE.out h W (hb2.trans (hb.mono hb2.size)))
  have HRB := Lib.hid (fun (h : ce = 0) (he : ef = 0) (W : World) (hb : Below W2.heap.size W2 W) => HRB.out h he W (hb2.trans (hb.mono hb2.size)))
  have HLB := Lib.hid (fun (h : ce = 0) (he : ef = 0) (W : World) (hb : Below W2.heap.size W2 W) => HLB.out h he W (hb2.trans (hb.mono hb2.size)))
  have HNV := Lib.hid (fun (h : ce = 0) (he : ev = 0) (W : World) (hb : Below W2.heap.size W2 W) => HNV.out h he W (hb2.trans (hb.mono hb2.size)))
  have HT3 := Lib.hid (fun (h : ce ≠ 0) => thenE_bad (b := ev) h)
  have HT4 := Lib.hid (fun (h : ce ≠ 0) => thenE_bad (b := ef) h)
  have HT5 := Lib.hid (show ce = 0 → thenE ce ev = ev from fun h => by rw [h]; exact thenE_ok)
  have HT6 := Lib.hid (show ce = 0 → thenE ce ef = ef from fun h => by rw [h]; exact thenE_ok)
  generalize thenE ce ev = t3 at *
  generalize thenE ce ef = t4 at *
  have hbB := Below.refl W2.heap.size W2
  refine wp_region_fx (fun q : (Option Addr × Nat) × (Option Addr × Nat) × (Option Addr × Nat) × Value => [(35, .slice A ls.length cap), (36, .slice q.1.1 ls.length q.1.2), (37, .slice N ns.length capN), (38, .slice q.2.1.1 ns.length q.2.1.2), (39, .pointer (some ⟨w.heap.size, 0, none⟩)), (40, .slice V vs.length cv), (41, .slice q.2.2.1.1 vs.length q.2.2.1.2), (42, .tuple #[q.2.2.2, .int .i64 t3]), (34, .tuple #[q.2.2.2, .int .i64 t3]), (43, q.2.2.2), (44, .int .i64 t3), (7, q.2.2.2), (8, .int .i64 t3)]) (fun (b : List Bool) (q : (Option Addr × Nat) × (Option Addr × Nat) × (Option Addr × Nat) × Value) (W : World) => C3 W2 ls ns vs (RowV t3 Xv) (bt b 1) (bt b 3) (bt b 6) (bt b 7) q W) (by kernel_rfl) (by kernel_rfl) ⟨((none, 0), (none, 0), (none, 0), undef), ⟨(Below.refl _ _).drew, fun h => absurd h (by decide), fun h => absurd h (by decide), fun h => absurd h (by decide), fun h => absurd h (by decide)⟩⟩ [35, 36, 37, 38, 39, 40, 41, 42, 34, 43, 44, 7, 8] (fun _ => rfl) (by kernel_rfl) (by decide) ⟨201, rfl, by decide⟩ ?hs ?hq
  case hs =>
    intro i
    match i with
    | 0 =>
      intro o ho b q W Zx hC hb hun hall hcl hon hoff hels K hK
      simp only [List.getElem?_cons_succ, List.getElem?_cons_zero, Option.some.injEq] at ho
      subst ho
      have hb : b.length = 13 := hb
      have e0 : Zx.tmps[0]?.getD undef = .slice A ls.length cap := ev_tmp ((hels 0 (by decide)).trans rfl)
      have HC := Lib.hid (show (fun (b : List Bool) (q : (Option Addr × Nat) × (Option Addr × Nat) × (Option Addr × Nat) × Value) (W : World) => C3 W2 ls ns vs (RowV t3 Xv) (bt b 1) (bt b 3) (bt b 6) (bt b 7) q W) (b.set 0 true) q W from (by show C3 _ _ _ _ _ _ _ _ _ _ _; rw [bt_ne (i := 0) (by decide), bt_ne (i := 0) (by decide), bt_ne (i := 0) (by decide), bt_ne (i := 0) (by decide)]; exact hC))
      clear hC
      go_simp
      exact hK 35 _ q _ HC.out rfl (fun _ _ => rfl)
    | 1 =>
      intro o ho b q W Zx hC hb hun hall hcl hon hoff hels K hK
      simp only [List.getElem?_cons_succ, List.getElem?_cons_zero, Option.some.injEq] at ho
      subst ho
      have hb : b.length = 13 := hb
      have e0 : Zx.tmps[35]?.getD undef = .slice A ls.length cap := ev_tmp (hon 0 35 _ (hall ⟨0, .data⟩ (by simp) rfl) rfl)
      have hbel := hC.bel
      go_simp
      refine (HCI.out W (hbB.trans (hbel.mono hbB.size))).mono ?_
      rintro e w' ⟨A', c', rfl, hl, hb'⟩
      have HC := Lib.hid (show C3 W2 ls ns vs (RowV t3 Xv) (bt (b.set 1 true) 1) (bt (b.set 1 true) 3) (bt (b.set 1 true) 6) (bt (b.set 1 true) 7) ((A', c'), q.2) w' from by
        rw [bt_eq hun, bt_ne (i := 1) (j := 3) (by decide), bt_ne (i := 1) (j := 6) (by decide), bt_ne (i := 1) (j := 7) (by decide)]
        exact hC.s1 (fun _ _ _ h hb => RowV.below h hb) hl hb')
      clear hC
      refine hK 36 _ ((A', c'), q.2) _ HC.out rfl ?_
      intro k' hk'
      match k', hk' with
      | 0, _ => rfl
      | 1, hk' => rw [hun] at hk'; cases hk'
      | 2, _ => rfl
      | 3, _ => rfl
      | 4, _ => rfl
      | 5, _ => rfl
      | 6, _ => rfl
      | 7, _ => rfl
      | 8, _ => rfl
      | 9, _ => rfl
      | 10, _ => rfl
      | 11, _ => rfl
      | 12, _ => rfl
      | t + 13, hk' => rfl
    | 2 =>
      intro o ho b q W Zx hC hb hun hall hcl hon hoff hels K hK
      simp only [List.getElem?_cons_succ, List.getElem?_cons_zero, Option.some.injEq] at ho
      subst ho
      have hb : b.length = 13 := hb
      have e0 : Zx.tmps[1]?.getD undef = .slice N ns.length capN := ev_tmp ((hels 1 (by decide)).trans rfl)
      have HC := Lib.hid (show (fun (b : List Bool) (q : (Option Addr × Nat) × (Option Addr × Nat) × (Option Addr × Nat) × Value) (W : World) => C3 W2 ls ns vs (RowV t3 Xv) (bt b 1) (bt b 3) (bt b 6) (bt b 7) q W) (b.set 2 true) q W from (by show C3 _ _ _ _ _ _ _ _ _ _ _; rw [bt_ne (i := 2) (by decide), bt_ne (i := 2) (by decide), bt_ne (i := 2) (by decide), bt_ne (i := 2) (by decide)]; exact hC))
      clear hC
      go_simp
      exact hK 37 _ q _ HC.out rfl (fun _ _ => rfl)
    | 3 =>
      intro o ho b q W Zx hC hb hun hall hcl hon hoff hels K hK
      simp only [List.getElem?_cons_succ, List.getElem?_cons_zero, Option.some.injEq] at ho
      subst ho
      have hb : b.length = 13 := hb
      have e0 : Zx.tmps[37]?.getD undef = .slice N ns.length capN := ev_tmp (hon 2 37 _ (hall ⟨2, .data⟩ (by simp) rfl) rfl)
      have hbel := hC.bel
      go_simp
      refine (HCN.out W (hbB.trans (hbel.mono hbB.size))).mono ?_
      rintro e w' ⟨A', c', rfl, hc, hl, hb'⟩
      have HC := Lib.hid (show C3 W2 ls ns vs (RowV t3 Xv) (bt (b.set 3 true) 1) (bt (b.set 3 true) 3) (bt (b.set 3 true) 6) (bt (b.set 3 true) 7) (q.1, (A', c'), q.2.2) w' from by
        rw [bt_ne (i := 3) (j := 1) (by decide), bt_eq hun, bt_ne (i := 3) (j := 6) (by decide), bt_ne (i := 3) (j := 7) (by decide)]
        exact hC.s3 (fun _ _ _ h hb => RowV.below h hb) hl hc hb')
      clear hC
      refine hK 38 _ (q.1, (A', c'), q.2.2) _ HC.out rfl ?_
      intro k' hk'
      match k', hk' with
      | 0, _ => rfl
      | 1, _ => rfl
      | 2, _ => rfl
      | 3, hk' => rw [hun] at hk'; cases hk'
      | 4, _ => rfl
      | 5, _ => rfl
      | 6, _ => rfl
      | 7, _ => rfl
      | 8, _ => rfl
      | 9, _ => rfl
      | 10, _ => rfl
      | 11, _ => rfl
      | 12, _ => rfl
      | t + 13, hk' => rfl
    | 4 =>
      intro o ho b q W Zx hC hb hun hall hcl hon hoff hels K hK
      simp only [List.getElem?_cons_succ, List.getElem?_cons_zero, Option.some.injEq] at ho
      subst ho
      have hb : b.length = 13 := hb
      have e0 : Zx.tmps[5]?.getD undef = .pointer (some ⟨w.heap.size, 0, none⟩) := ev_tmp ((hels 5 (by decide)).trans rfl)
      have HC := Lib.hid (show (fun (b : List Bool) (q : (Option Addr × Nat) × (Option Addr × Nat) × (Option Addr × Nat) × Value) (W : World) => C3 W2 ls ns vs (RowV t3 Xv) (bt b 1) (bt b 3) (bt b 6) (bt b 7) q W) (b.set 4 true) q W from (by show C3 _ _ _ _ _ _ _ _ _ _ _; rw [bt_ne (i := 4) (by decide), bt_ne (i := 4) (by decide), bt_ne (i := 4) (by decide), bt_ne (i := 4) (by decide)]; exact hC))
      clear hC
      go_simp
      exact hK 39 _ q _ HC.out rfl (fun _ _ => rfl)
    | 5 =>
      intro o ho b q W Zx hC hb hun hall hcl hon hoff hels K hK
      simp only [List.getElem?_cons_succ, List.getElem?_cons_zero, Option.some.injEq] at ho
      subst ho
      have hb : b.length = 13 := hb
      have e0 : Zx.tmps[39]?.getD undef = .pointer (some ⟨w.heap.size, 0, none⟩) := ev_tmp (hon 4 39 _ (hall ⟨4, .data⟩ (by simp) rfl) rfl)
      have HC := Lib.hid (show (fun (b : List Bool) (q : (Option Addr × Nat) × (Option Addr × Nat) × (Option Addr × Nat) × Value) (W : World) => C3 W2 ls ns vs (RowV t3 Xv) (bt b 1) (bt b 3) (bt b 6) (bt b 7) q W) (b.set 5 true) q W from (by show C3 _ _ _ _ _ _ _ _ _ _ _; rw [bt_ne (i := 5) (by decide), bt_ne (i := 5) (by decide), bt_ne (i := 5) (by decide), bt_ne (i := 5) (by decide)]; exact hC))
      clear hC
      have hcl5 := (HX.out W (hbB.trans (HC.out.bel.mono hbB.size))).1
      go_simp
      exact hK 40 _ q _ HC.out rfl (fun _ _ => rfl)
    | 6 =>
      intro o ho b q W Zx hC hb hun hall hcl hon hoff hels K hK
      simp only [List.getElem?_cons_succ, List.getElem?_cons_zero, Option.some.injEq] at ho
      subst ho
      have hb : b.length = 13 := hb
      have e0 : Zx.tmps[40]?.getD undef = .slice V vs.length cv := ev_tmp (hon 5 40 _ (hall ⟨5, .data⟩ (by simp) rfl) rfl)
      have hbel := hC.bel
      go_simp
      refine (HCV.out W (hbB.trans (hbel.mono hbB.size))).mono ?_
      rintro e w' ⟨A', c', rfl, hl, hb'⟩
      have HC := Lib.hid (show C3 W2 ls ns vs (RowV t3 Xv) (bt (b.set 6 true) 1) (bt (b.set 6 true) 3) (bt (b.set 6 true) 6) (bt (b.set 6 true) 7) (q.1, q.2.1, (A', c'), q.2.2.2) w' from by
        rw [bt_ne (i := 6) (j := 1) (by decide), bt_ne (i := 6) (j := 3) (by decide), bt_eq hun, bt_ne (i := 6) (j := 7) (by decide)]
        exact hC.s6 (fun _ _ _ h hb => RowV.below h hb) hl hb')
      clear hC
      refine hK 41 _ (q.1, q.2.1, (A', c'), q.2.2.2) _ HC.out rfl ?_
      intro k' hk'
      match k', hk' with
      | 0, _ => rfl
      | 1, _ => rfl
      | 2, _ => rfl
      | 3, _ => rfl
      | 4, _ => rfl
      | 5, _ => rfl
      | 6, hk' => rw [hun] at hk'; cases hk'
      | 7, _ => rfl
      | 8, _ => rfl
      | 9, _ => rfl
      | 10, _ => rfl
      | 11, _ => rfl
      | 12, _ => rfl
      | t + 13, hk' => rfl
    | 7 =>
      intro o ho b q W Zx hC hb hun hall hcl hon hoff hels K hK
      simp only [List.getElem?_cons_succ, List.getElem?_cons_zero, Option.some.injEq] at ho
      subst ho
      have hb : b.length = 13 := hb
      have e0 : Zx.tmps[36]?.getD undef = .slice q.1.1 ls.length q.1.2 := ev_tmp (hon 1 36 _ (hall ⟨1, .data⟩ (by simp) rfl) rfl)
      have e1 : Zx.tmps[38]?.getD undef = .slice q.2.1.1 ns.length q.2.1.2 := ev_tmp (hon 3 38 _ (hall ⟨3, .data⟩ (by simp) rfl) rfl)
      have e2 : Zx.tmps[41]?.getD undef = .slice q.2.2.1.1 vs.length q.2.2.1.2 := ev_tmp (hon 6 41 _ (hall ⟨6, .data⟩ (by simp) rfl) rfl)
      have hn8 := not_yet (j := 8) (by omega) hcl rfl ⟨7, .data⟩ (by simp) rfl rfl hun
      have hn9 := not_yet (j := 9) (by omega) hcl rfl ⟨8, .data⟩ (by simp) rfl rfl hn8
      have hn11 := not_yet (j := 11) (by omega) hcl rfl ⟨9, .data⟩ (by simp) rfl rfl hn9
      have HFF := HVO.out W (hbB.trans (hC.bel.mono hbB.size)) q.1.1 q.1.2 q.2.1.1 q.2.1.2 q.2.2.1.1 q.2.2.1.2 (hC.l1 (bt_of (hall ⟨1, .data⟩ (by simp) rfl))) (hC.l3 (bt_of (hall ⟨3, .data⟩ (by simp) rfl))).1 (hC.l3 (bt_of (hall ⟨3, .data⟩ (by simp) rfl))).2 (hC.l6 (bt_of (hall ⟨6, .data⟩ (by simp) rfl)))
      have hbel := hC.bel
      go_simp
      refine HFF.mono ?_
      rintro e w' ⟨v', rfl, hv', hb'⟩
      have HC := Lib.hid (show C3 W2 ls ns vs (RowV t3 Xv) (bt (b.set 7 true) 1) (bt (b.set 7 true) 3) (bt (b.set 7 true) 6) (bt (b.set 7 true) 7) (q.1, q.2.1, q.2.2.1, v') w' from by
        rw [bt_ne (i := 7) (j := 1) (by decide), bt_ne (i := 7) (j := 3) (by decide), bt_ne (i := 7) (j := 6) (by decide), bt_eq hun]
        exact hC.s7 hv' hb')
      clear hC
      refine hK 42 _ (q.1, q.2.1, q.2.2.1, v') _ HC.out rfl ?_
      intro k' hk'
      match k', hk' with
      | 0, _ => rfl
      | 1, _ => rfl
      | 2, _ => rfl
      | 3, _ => rfl
      | 4, _ => rfl
      | 5, _ => rfl
      | 6, _ => rfl
      | 7, hk' => rw [hun] at hk'; cases hk'
      | 8, hk' => rw [hn8] at hk'; cases hk'
      | 9, hk' => rw [hn9] at hk'; cases hk'
      | 10, _ => rfl
      | 11, hk' => rw [hn11] at hk'; cases hk'
      | 12, _ => rfl
      | t + 13, hk' => rfl
    | 8 =>
      intro o ho b q W Zx hC hb hun hall hcl hon hoff hels K hK
      simp only [List.getElem?_cons_succ, List.getElem?_cons_zero, Option.some.injEq] at ho
      subst ho
      have hb : b.length = 13 := hb
      have e0 : Zx.tmps[42]?.getD undef = .tuple #[q.2.2.2, .int .i64 t3] := ev_tmp (hon 7 42 _ (hall ⟨7, .data⟩ (by simp) rfl) rfl)
      have HC := Lib.hid (show (fun (b : List Bool) (q : (Option Addr × Nat) × (Option Addr × Nat) × (Option Addr × Nat) × Value) (W : World) => C3 W2 ls ns vs (RowV t3 Xv) (bt b 1) (bt b 3) (bt b 6) (bt b 7) q W) (b.set 8 true) q W from (by show C3 _ _ _ _ _ _ _ _ _ _ _; rw [bt_ne (i := 8) (by decide), bt_ne (i := 8) (by decide), bt_ne (i := 8) (by decide), bt_ne (i := 8) (by decide)]; exact hC))
      clear hC
      go_simp
      exact hK 34 _ q _ HC.out rfl (fun _ _ => rfl)
    | 9 =>
      intro o ho b q W Zx hC hb hun hall hcl hon hoff hels K hK
      simp only [List.getElem?_cons_succ, List.getElem?_cons_zero, Option.some.injEq] at ho
      subst ho
      have hb : b.length = 13 := hb
      have e0 : Zx.tmps[34]?.getD undef = .tuple #[q.2.2.2, .int .i64 t3] := ev_tmp (hon 8 34 _ (hall ⟨8, .data⟩ (by simp) rfl) rfl)
      have HC := Lib.hid (show (fun (b : List Bool) (q : (Option Addr × Nat) × (Option Addr × Nat) × (Option Addr × Nat) × Value) (W : World) => C3 W2 ls ns vs (RowV t3 Xv) (bt b 1) (bt b 3) (bt b 6) (bt b 7) q W) (b.set 9 true) q W from (by show C3 _ _ _ _ _ _ _ _ _ _ _; rw [bt_ne (i := 9) (by decide), bt_ne (i := 9) (by decide), bt_ne (i := 9) (by decide), bt_ne (i := 9) (by decide)]; exact hC))
      clear hC
      go_simp
      exact hK 43 _ q _ HC.out rfl (fun _ _ => rfl)
    | 10 =>
      intro o ho b q W Zx hC hb hun hall hcl hon hoff hels K hK
      simp only [List.getElem?_cons_succ, List.getElem?_cons_zero, Option.some.injEq] at ho
      subst ho
      have hb : b.length = 13 := hb
      have e0 : Zx.tmps[34]?.getD undef = .tuple #[q.2.2.2, .int .i64 t3] := ev_tmp (hon 8 34 _ (hall ⟨8, .data⟩ (by simp) rfl) rfl)
      have HC := Lib.hid (show (fun (b : List Bool) (q : (Option Addr × Nat) × (Option Addr × Nat) × (Option Addr × Nat) × Value) (W : World) => C3 W2 ls ns vs (RowV t3 Xv) (bt b 1) (bt b 3) (bt b 6) (bt b 7) q W) (b.set 10 true) q W from (by show C3 _ _ _ _ _ _ _ _ _ _ _; rw [bt_ne (i := 10) (by decide), bt_ne (i := 10) (by decide), bt_ne (i := 10) (by decide), bt_ne (i := 10) (by decide)]; exact hC))
      clear hC
      go_simp
      exact hK 44 _ q _ HC.out rfl (fun _ _ => rfl)
    | 11 =>
      intro o ho b q W Zx hC hb hun hall hcl hon hoff hels K hK
      simp only [List.getElem?_cons_succ, List.getElem?_cons_zero, Option.some.injEq] at ho
      subst ho
      have hb : b.length = 13 := hb
      have e0 : Zx.tmps[43]?.getD undef = q.2.2.2 := ev_tmp (hon 9 43 _ (hall ⟨9, .data⟩ (by simp) rfl) rfl)
      have HC := Lib.hid (show (fun (b : List Bool) (q : (Option Addr × Nat) × (Option Addr × Nat) × (Option Addr × Nat) × Value) (W : World) => C3 W2 ls ns vs (RowV t3 Xv) (bt b 1) (bt b 3) (bt b 6) (bt b 7) q W) (b.set 11 true) q W from (by show C3 _ _ _ _ _ _ _ _ _ _ _; rw [bt_ne (i := 11) (by decide), bt_ne (i := 11) (by decide), bt_ne (i := 11) (by decide), bt_ne (i := 11) (by decide)]; exact hC))
      clear hC
      go_simp
      exact hK 7 _ q _ HC.out rfl (fun _ _ => rfl)
    | 12 =>
      intro o ho b q W Zx hC hb hun hall hcl hon hoff hels K hK
      simp only [List.getElem?_cons_succ, List.getElem?_cons_zero, Option.some.injEq] at ho
      subst ho
      have hb : b.length = 13 := hb
      have e0 : Zx.tmps[44]?.getD undef = .int .i64 t3 := ev_tmp (hon 10 44 _ (hall ⟨10, .data⟩ (by simp) rfl) rfl)
      have HC := Lib.hid (show (fun (b : List Bool) (q : (Option Addr × Nat) × (Option Addr × Nat) × (Option Addr × Nat) × Value) (W : World) => C3 W2 ls ns vs (RowV t3 Xv) (bt b 1) (bt b 3) (bt b 6) (bt b 7) q W) (b.set 12 true) q W from (by show C3 _ _ _ _ _ _ _ _ _ _ _; rw [bt_ne (i := 12) (by decide), bt_ne (i := 12) (by decide), bt_ne (i := 12) (by decide), bt_ne (i := 12) (by decide)]; exact hC))
      clear hC
      go_simp
      exact hK 8 _ q _ HC.out rfl (fun _ _ => rfl)
    | t + 13 =>
      intro o ho
      simp at ho
  case hq =>
    intro q W hC
    have hF : C3 W2 ls ns vs (RowV t3 Xv) true true true true q W := hC
    have hbs3 := hF.bel
    have hb3 := hbB.trans (hbs3.mono hbB.size)
    have hv3 := hF.l7 rfl
    clear hC hF hbB
    simp only [zp, List.length_cons, List.length_nil, List.replicate, List.zip_cons_cons, List.zip_nil_right, frm, if_true]
    obtain ⟨⟨a1, a2⟩, ⟨a3, a4⟩, ⟨a5, a6⟩, v3⟩ := q
    simp only at hv3
    go_simp
    clear hbs3
    rename World => W3
    go_upto_region 6 with (fail)
    have hbB := hb3
    refine wp_region_fx (fun q : (Option Addr × Nat) × (Option Addr × Nat) × (Option Addr × Nat) × Value => [(46, .slice A ls.length cap), (47, .slice q.1.1 ls.length q.1.2), (48, .slice N ns.length capN), (49, .slice q.2.1.1 ns.length q.2.1.2), (50, .pointer (some ⟨w.heap.size, 1, none⟩)), (51, .slice F fr.length cf), (52, .slice q.2.2.1.1 fr.length q.2.2.1.2), (53, .tuple #[q.2.2.2, .int .i64 t4]), (45, .tuple #[q.2.2.2, .int .i64 t4]), (54, q.2.2.2), (55, .int .i64 t4), (9, q.2.2.2), (10, .int .i64 t4)]) (fun (b : List Bool) (q : (Option Addr × Nat) × (Option Addr × Nat) × (Option Addr × Nat) × Value) (W : World) => C3 W3 ls ns fr (RowV t4 Xb) (bt b 1) (bt b 3) (bt b 6) (bt b 7) q W) (by kernel_rfl) (by kernel_rfl) ⟨((none, 0), (none, 0), (none, 0), undef), ⟨(Below.refl _ _).drew, fun h => absurd h (by decide), fun h => absurd h (by decide), fun h => absurd h (by decide), fun h => absurd h (by decide)⟩⟩ [46, 47, 48, 49, 50, 51, 52, 53, 45, 54, 55, 9, 10] (fun _ => rfl) (by kernel_rfl) (by decide) ⟨201, rfl, by decide⟩ ?hs ?hq
    case hs =>
      intro i
      match i with
      | 0 =>
        intro o ho b q W Zx hC hb hun hall hcl hon hoff hels K hK
        simp only [List.getElem?_cons_succ, List.getElem?_cons_zero, Option.some.injEq] at ho
        subst ho
        have hb : b.length = 13 := hb
        have e0 : Zx.tmps[0]?.getD undef = .slice A ls.length cap := ev_tmp ((hels 0 (by decide)).trans rfl)
        have HC := Lib.hid (show (fun (b : List Bool) (q : (Option Addr × Nat) × (Option Addr × Nat) × (Option Addr × Nat) × Value) (W : World) => C3 W3 ls ns fr (RowV t4 Xb) (bt b 1) (bt b 3) (bt b 6) (bt b 7) q W) (b.set 0 true) q W from (by show C3 _ _ _ _ _ _ _ _ _ _ _; rw [bt_ne (i := 0) (by decide), bt_ne (i := 0) (by decide), bt_ne (i := 0) (by decide), bt_ne (i := 0) (by decide)]; exact hC))
        clear hC
        go_simp
        exact hK 46 _ q _ HC.out rfl (fun _ _ => rfl)
      | 1 =>
        intro o ho b q W Zx hC hb hun hall hcl hon hoff hels K hK
        simp only [List.getElem?_cons_succ, List.getElem?_cons_zero, Option.some.injEq] at ho
        subst ho
        have hb : b.length = 13 := hb
        have e0 : Zx.tmps[46]?.getD undef = .slice A ls.length cap := ev_tmp (hon 0 46 _ (hall ⟨0, .data⟩ (by simp) rfl) rfl)
        have hbel := hC.bel
        go_simp
        refine (HCI.out W (hbB.trans (hbel.mono hbB.size))).mono ?_
        rintro e w' ⟨A', c', rfl, hl, hb'⟩
        have HC := Lib.hid (show C3 W3 ls ns fr (RowV t4 Xb) (bt (b.set 1 true) 1) (bt (b.set 1 true) 3) (bt (b.set 1 true) 6) (bt (b.set 1 true) 7) ((A', c'), q.2) w' from by
          rw [bt_eq hun, bt_ne (i := 1) (j := 3) (by decide), bt_ne (i := 1) (j := 6) (by decide), bt_ne (i := 1) (j := 7) (by decide)]
          exact hC.s1 (fun _ _ _ h hb => RowV.below h hb) hl hb')
        clear hC
        refine hK 47 _ ((A', c'), q.2) _ HC.out rfl ?_
        intro k' hk'
        match k', hk' with
        | 0, _ => rfl
        | 1, hk' => rw [hun] at hk'; cases hk'
        | 2, _ => rfl
        | 3, _ => rfl
        | 4, _ => rfl
        | 5, _ => rfl
        | 6, _ => rfl
        | 7, _ => rfl
        | 8, _ => rfl
        | 9, _ => rfl
        | 10, _ => rfl
        | 11, _ => rfl
        | 12, _ => rfl
        | t + 13, hk' => rfl
      | 2 =>
        intro o ho b q W Zx hC hb hun hall hcl hon hoff hels K hK
        simp only [List.getElem?_cons_succ, List.getElem?_cons_zero, Option.some.injEq] at ho
        subst ho
        have hb : b.length = 13 := hb
        have e0 : Zx.tmps[1]?.getD undef = .slice N ns.length capN := ev_tmp ((hels 1 (by decide)).trans rfl)
        have HC := Lib.hid (show (fun (b : List Bool) (q : (Option Addr × Nat) × (Option Addr × Nat) × (Option Addr × Nat) × Value) (W : World) => C3 W3 ls ns fr (RowV t4 Xb) (bt b 1) (bt b 3) (bt b 6) (bt b 7) q W) (b.set 2 true) q W from (by show C3 _ _ _ _ _ _ _ _ _ _ _; rw [bt_ne (i := 2) (by decide), bt_ne (i := 2) (by decide), bt_ne (i := 2) (by decide), bt_ne (i := 2) (by decide)]; exact hC))
        clear hC
        go_simp
        exact hK 48 _ q _ HC.out rfl (fun _ _ => rfl)
      | 3 =>
        intro o ho b q W Zx hC hb hun hall hcl hon hoff hels K hK
        simp only [List.getElem?_cons_succ, List.getElem?_cons_zero, Option.some.injEq] at ho
        subst ho
        have hb : b.length = 13 := hb
        have e0 : Zx.tmps[48]?.getD undef = .slice N ns.length capN := ev_tmp (hon 2 48 _ (hall ⟨2, .data⟩ (by simp) rfl) rfl)
        have hbel := hC.bel
        go_simp
        refine (HCN.out W (hbB.trans (hbel.mono hbB.size))).mono ?_
        rintro e w' ⟨A', c', rfl, hc, hl, hb'⟩
        have HC := Lib.hid (show C3 W3 ls ns fr (RowV t4 Xb) (bt (b.set 3 true) 1) (bt (b.set 3 true) 3) (bt (b.set 3 true) 6) (bt (b.set 3 true) 7) (q.1, (A', c'), q.2.2) w' from by
          rw [bt_ne (i := 3) (j := 1) (by decide), bt_eq hun, bt_ne (i := 3) (j := 6) (by decide), bt_ne (i := 3) (j := 7) (by decide)]
          exact hC.s3 (fun _ _ _ h hb => RowV.below h hb) hl hc hb')
        clear hC
        refine hK 49 _ (q.1, (A', c'), q.2.2) _ HC.out rfl ?_
        intro k' hk'
        match k', hk' with
        | 0, _ => rfl
        | 1, _ => rfl
        | 2, _ => rfl
        | 3, hk' => rw [hun] at hk'; cases hk'
        | 4, _ => rfl
        | 5, _ => rfl
        | 6, _ => rfl
        | 7, _ => rfl
        | 8, _ => rfl
        | 9, _ => rfl
        | 10, _ => rfl
        | 11, _ => rfl
        | 12, _ => rfl
        | t + 13, hk' => rfl
      | 4 =>
        intro o ho b q W Zx hC hb hun hall hcl hon hoff hels K hK
        simp only [List.getElem?_cons_succ, List.getElem?_cons_zero, Option.some.injEq] at ho
        subst ho
        have hb : b.length = 13 := hb
        have e0 : Zx.tmps[5]?.getD undef = .pointer (some ⟨w.heap.size, 0, none⟩) := ev_tmp ((hels 5 (by decide)).trans rfl)
        have HC := Lib.hid (show (fun (b : List Bool) (q : (Option Addr × Nat) × (Option Addr × Nat) × (Option Addr × Nat) × Value) (W : World) => C3 W3 ls ns fr (RowV t4 Xb) (bt b 1) (bt b 3) (bt b 6) (bt b 7) q W) (b.set 4 true) q W from (by show C3 _ _ _ _ _ _ _ _ _ _ _; rw [bt_ne (i := 4) (by decide), bt_ne (i := 4) (by decide), bt_ne (i := 4) (by decide), bt_ne (i := 4) (by decide)]; exact hC))
        clear hC
        go_simp
        exact hK 50 _ q _ HC.out rfl (fun _ _ => rfl)
      | 5 =>
        intro o ho b q W Zx hC hb hun hall hcl hon hoff hels K hK
        simp only [List.getElem?_cons_succ, List.getElem?_cons_zero, Option.some.injEq] at ho
        subst ho
        have hb : b.length = 13 := hb
        have e0 : Zx.tmps[50]?.getD undef = .pointer (some ⟨w.heap.size, 1, none⟩) := ev_tmp (hon 4 50 _ (hall ⟨4, .data⟩ (by simp) rfl) rfl)
        have HC := Lib.hid (show (fun (b : List Bool) (q : (Option Addr × Nat) × (Option Addr × Nat) × (Option Addr × Nat) × Value) (W : World) => C3 W3 ls ns fr (RowV t4 Xb) (bt b 1) (bt b 3) (bt b 6) (bt b 7) q W) (b.set 5 true) q W from (by show C3 _ _ _ _ _ _ _ _ _ _ _; rw [bt_ne (i := 5) (by decide), bt_ne (i := 5) (by decide), bt_ne (i := 5) (by decide), bt_ne (i := 5) (by decide)]; exact hC))
        clear hC
        have hcl5 := (HX.out W (hbB.trans (HC.out.bel.mono hbB.size))).2
        go_simp
        exact hK 51 _ q _ HC.out rfl (fun _ _ => rfl)
      | 6 =>
        intro o ho b q W Zx hC hb hun hall hcl hon hoff hels K hK
        simp only [List.getElem?_cons_succ, List.getElem?_cons_zero, Option.some.injEq] at ho
        subst ho
        have hb : b.length = 13 := hb
        have e0 : Zx.tmps[51]?.getD undef = .slice F fr.length cf := ev_tmp (hon 5 51 _ (hall ⟨5, .data⟩ (by simp) rfl) rfl)
        have hbel := hC.bel
        go_simp
        refine (HCF.out W (hbB.trans (hbel.mono hbB.size))).mono ?_
        rintro e w' ⟨A', c', rfl, hl, hb'⟩
        have HC := Lib.hid (show C3 W3 ls ns fr (RowV t4 Xb) (bt (b.set 6 true) 1) (bt (b.set 6 true) 3) (bt (b.set 6 true) 6) (bt (b.set 6 true) 7) (q.1, q.2.1, (A', c'), q.2.2.2) w' from by
          rw [bt_ne (i := 6) (j := 1) (by decide), bt_ne (i := 6) (j := 3) (by decide), bt_eq hun, bt_ne (i := 6) (j := 7) (by decide)]
          exact hC.s6 (fun _ _ _ h hb => RowV.below h hb) hl hb')
        clear hC
        refine hK 52 _ (q.1, q.2.1, (A', c'), q.2.2.2) _ HC.out rfl ?_
        intro k' hk'
        match k', hk' with
        | 0, _ => rfl
        | 1, _ => rfl
        | 2, _ => rfl
        | 3, _ => rfl
        | 4, _ => rfl
        | 5, _ => rfl
        | 6, hk' => rw [hun] at hk'; cases hk'
        | 7, _ => rfl
        | 8, _ => rfl
        | 9, _ => rfl
        | 10, _ => rfl
        | 11, _ => rfl
        | 12, _ => rfl
        | t + 13, hk' => rfl
      | 7 =>
        intro o ho b q W Zx hC hb hun hall hcl hon hoff hels K hK
        simp only [List.getElem?_cons_succ, List.getElem?_cons_zero, Option.some.injEq] at ho
        subst ho
        have hb : b.length = 13 := hb
        have e0 : Zx.tmps[47]?.getD undef = .slice q.1.1 ls.length q.1.2 := ev_tmp (hon 1 47 _ (hall ⟨1, .data⟩ (by simp) rfl) rfl)
        have e1 : Zx.tmps[49]?.getD undef = .slice q.2.1.1 ns.length q.2.1.2 := ev_tmp (hon 3 49 _ (hall ⟨3, .data⟩ (by simp) rfl) rfl)
        have e2 : Zx.tmps[52]?.getD undef = .slice q.2.2.1.1 fr.length q.2.2.1.2 := ev_tmp (hon 6 52 _ (hall ⟨6, .data⟩ (by simp) rfl) rfl)
        have hn8 := not_yet (j := 8) (by omega) hcl rfl ⟨7, .data⟩ (by simp) rfl rfl hun
        have hn9 := not_yet (j := 9) (by omega) hcl rfl ⟨8, .data⟩ (by simp) rfl rfl hn8
        have hn11 := not_yet (j := 11) (by omega) hcl rfl ⟨9, .data⟩ (by simp) rfl rfl hn9
        have HFF := HBO.out W (hbB.trans (hC.bel.mono hbB.size)) q.1.1 q.1.2 q.2.1.1 q.2.1.2 q.2.2.1.1 q.2.2.1.2 (hC.l1 (bt_of (hall ⟨1, .data⟩ (by simp) rfl))) (hC.l3 (bt_of (hall ⟨3, .data⟩ (by simp) rfl))).1 (hC.l3 (bt_of (hall ⟨3, .data⟩ (by simp) rfl))).2 (hC.l6 (bt_of (hall ⟨6, .data⟩ (by simp) rfl)))
        have hbel := hC.bel
        go_simp
        refine HFF.mono ?_
        rintro e w' ⟨v', rfl, hv', hb'⟩
        have HC := Lib.hid (show C3 W3 ls ns fr (RowV t4 Xb) (bt (b.set 7 true) 1) (bt (b.set 7 true) 3) (bt (b.set 7 true) 6) (bt (b.set 7 true) 7) (q.1, q.2.1, q.2.2.1, v') w' from by
          rw [bt_ne (i := 7) (j := 1) (by decide), bt_ne (i := 7) (j := 3) (by decide), bt_ne (i := 7) (j := 6) (by decide), bt_eq hun]
          exact hC.s7 hv' hb')
        clear hC
        refine hK 53 _ (q.1, q.2.1, q.2.2.1, v') _ HC.out rfl ?_
        intro k' hk'
        match k', hk' with
        | 0, _ => rfl
        | 1, _ => rfl
        | 2, _ => rfl
        | 3, _ => rfl
        | 4, _ => rfl
        | 5, _ => rfl
        | 6, _ => rfl
        | 7, hk' => rw [hun] at hk'; cases hk'
        | 8, hk' => rw [hn8] at hk'; cases hk'
        | 9, hk' => rw [hn9] at hk'; cases hk'
        | 10, _ => rfl
        | 11, hk' => rw [hn11] at hk'; cases hk'
        | 12, _ => rfl
        | t + 13, hk' => rfl
      | 8 =>
        intro o ho b q W Zx hC hb hun hall hcl hon hoff hels K hK
        simp only [List.getElem?_cons_succ, List.getElem?_cons_zero, Option.some.injEq] at ho
        subst ho
        have hb : b.length = 13 := hb
        have e0 : Zx.tmps[53]?.getD undef = .tuple #[q.2.2.2, .int .i64 t4] := ev_tmp (hon 7 53 _ (hall ⟨7, .data⟩ (by simp) rfl) rfl)
        have HC := Lib.hid (show (fun (b : List Bool) (q : (Option Addr × Nat) × (Option Addr × Nat) × (Option Addr × Nat) × Value) (W : World) => C3 W3 ls ns fr (RowV t4 Xb) (bt b 1) (bt b 3) (bt b 6) (bt b 7) q W) (b.set 8 true) q W from (by show C3 _ _ _ _ _ _ _ _ _ _ _; rw [bt_ne (i := 8) (by decide), bt_ne (i := 8) (by decide), bt_ne (i := 8) (by decide), bt_ne (i := 8) (by decide)]; exact hC))
        clear hC
        go_simp
        exact hK 45 _ q _ HC.out rfl (fun _ _ => rfl)
      | 9 =>
        intro o ho b q W Zx hC hb hun hall hcl hon hoff hels K hK
        simp only [List.getElem?_cons_succ, List.getElem?_cons_zero, Option.some.injEq] at ho
        subst ho
        have hb : b.length = 13 := hb
        have e0 : Zx.tmps[45]?.getD undef = .tuple #[q.2.2.2, .int .i64 t4] := ev_tmp (hon 8 45 _ (hall ⟨8, .data⟩ (by simp) rfl) rfl)
        have HC := Lib.hid (show (fun (b : List Bool) (q : (Option Addr × Nat) × (Option Addr × Nat) × (Option Addr × Nat) × Value) (W : World) => C3 W3 ls ns fr (RowV t4 Xb) (bt b 1) (bt b 3) (bt b 6) (bt b 7) q W) (b.set 9 true) q W from (by show C3 _ _ _ _ _ _ _ _ _ _ _; rw [bt_ne (i := 9) (by decide), bt_ne (i := 9) (by decide), bt_ne (i := 9) (by decide), bt_ne (i := 9) (by decide)]; exact hC))
        clear hC
        go_simp
        exact hK 54 _ q _ HC.out rfl (fun _ _ => rfl)
      | 10 =>
        intro o ho b q W Zx hC hb hun hall hcl hon hoff hels K hK
        simp only [List.getElem?_cons_succ, List.getElem?_cons_zero, Option.some.injEq] at ho
        subst ho
        have hb : b.length = 13 := hb
        have e0 : Zx.tmps[45]?.getD undef = .tuple #[q.2.2.2, .int .i64 t4] := ev_tmp (hon 8 45 _ (hall ⟨8, .data⟩ (by simp) rfl) rfl)
        have HC := Lib.hid (show (fun (b : List Bool) (q : (Option Addr × Nat) × (Option Addr × Nat) × (Option Addr × Nat) × Value) (W : World) => C3 W3 ls ns fr (RowV t4 Xb) (bt b 1) (bt b 3) (bt b 6) (bt b 7) q W) (b.set 10 true) q W from (by show C3 _ _ _ _ _ _ _ _ _ _ _; rw [bt_ne (i := 10) (by decide), bt_ne (i := 10) (by decide), bt_ne (i := 10) (by decide), bt_ne (i := 10) (by decide)]; exact hC))
        clear hC
        go_simp
        exact hK 55 _ q _ HC.out rfl (fun _ _ => rfl)
      | 11 =>
        intro o ho b q W Zx hC hb hun hall hcl hon hoff hels K hK
        simp only [List.getElem?_cons_succ, List.getElem?_cons_zero, Option.some.injEq] at ho
        subst ho
        have hb : b.length = 13 := hb
        have e0 : Zx.tmps[54]?.getD undef = q.2.2.2 := ev_tmp (hon 9 54 _ (hall ⟨9, .data⟩ (by simp) rfl) rfl)
        have HC := Lib.hid (show (fun (b : List Bool) (q : (Option Addr × Nat) × (Option Addr × Nat) × (Option Addr × Nat) × Value) (W : World) => C3 W3 ls ns fr (RowV t4 Xb) (bt b 1) (bt b 3) (bt b 6) (bt b 7) q W) (b.set 11 true) q W from (by show C3 _ _ _ _ _ _ _ _ _ _ _; rw [bt_ne (i := 11) (by decide), bt_ne (i := 11) (by decide), bt_ne (i := 11) (by decide), bt_ne (i := 11) (by decide)]; exact hC))
        clear hC
        go_simp
        exact hK 9 _ q _ HC.out rfl (fun _ _ => rfl)
      | 12 =>
        intro o ho b q W Zx hC hb hun hall hcl hon hoff hels K hK
        simp only [List.getElem?_cons_succ, List.getElem?_cons_zero, Option.some.injEq] at ho
        subst ho
        have hb : b.length = 13 := hb
        have e0 : Zx.tmps[55]?.getD undef = .int .i64 t4 := ev_tmp (hon 10 55 _ (hall ⟨10, .data⟩ (by simp) rfl) rfl)
        have HC := Lib.hid (show (fun (b : List Bool) (q : (Option Addr × Nat) × (Option Addr × Nat) × (Option Addr × Nat) × Value) (W : World) => C3 W3 ls ns fr (RowV t4 Xb) (bt b 1) (bt b 3) (bt b 6) (bt b 7) q W) (b.set 12 true) q W from (by show C3 _ _ _ _ _ _ _ _ _ _ _; rw [bt_ne (i := 12) (by decide), bt_ne (i := 12) (by decide), bt_ne (i := 12) (by decide), bt_ne (i := 12) (by decide)]; exact hC))
        clear hC
        go_simp
        exact hK 10 _ q _ HC.out rfl (fun _ _ => rfl)
      | t + 13 =>
        intro o ho
        simp at ho
    case hq =>
      intro q W hC
      have hF : C3 W3 ls ns fr (RowV t4 Xb) true true true true q W := hC
      have hbs4 := hF.bel
      have hb4 := hbB.trans (hbs4.mono hbB.size)
      have hv4 := hF.l7 rfl
      clear hC hF hbB
      simp only [zp, List.length_cons, List.length_nil, List.replicate, List.zip_cons_cons, List.zip_nil_right, frm, if_true]
      obtain ⟨⟨a1, a2⟩, ⟨a3, a4⟩, ⟨a5, a6⟩, v4⟩ := q
      simp only at hv4
      go_simp
      have hv3 := hv3.below hbs4
      clear hbs4
      rename World => W4
      go_upto_region 7 with (fail)
      have hbB := hb4
      refine wp_region_fx (fun q : (Option Addr × Nat) × (Option Addr × Nat) × (Option Addr × Nat) × Value => [(57, .slice A ls.length cap), (58, .slice q.1.1 ls.length q.1.2), (59, .slice N ns.length capN), (60, .slice q.2.1.1 ns.length q.2.1.2), (61, .pointer (some ⟨w.heap.size, 1, none⟩)), (62, .slice F fr.length cf), (63, .slice q.2.2.1.1 fr.length q.2.2.1.2), (64, .tuple #[q.2.2.2, .int .i64 t4]), (56, .tuple #[q.2.2.2, .int .i64 t4]), (65, q.2.2.2), (66, .int .i64 t4), (11, q.2.2.2), (12, .int .i64 t4)]) (fun (b : List Bool) (q : (Option Addr × Nat) × (Option Addr × Nat) × (Option Addr × Nat) × Value) (W : World) => C3 W4 ls ns fr (RowV t4 Xl) (bt b 1) (bt b 3) (bt b 6) (bt b 7) q W) (by kernel_rfl) (by kernel_rfl) ⟨((none, 0), (none, 0), (none, 0), undef), ⟨(Below.refl _ _).drew, fun h => absurd h (by decide), fun h => absurd h (by decide), fun h => absurd h (by decide), fun h => absurd h (by decide)⟩⟩ [57, 58, 59, 60, 61, 62, 63, 64, 56, 65, 66, 11, 12] (fun _ => rfl) (by kernel_rfl) (by decide) ⟨201, rfl, by decide⟩ ?hs ?hq
      case hs =>
        intro i
        match i with
        | 0 =>
          intro o ho b q W Zx hC hb hun hall hcl hon hoff hels K hK
          simp only [List.getElem?_cons_succ, List.getElem?_cons_zero, Option.some.injEq] at ho
          subst ho
          have hb : b.length = 13 := hb
          have e0 : Zx.tmps[0]?.getD undef = .slice A ls.length cap := ev_tmp ((hels 0 (by decide)).trans rfl)
          have HC := Lib.hid (show (fun (b : List Bool) (q : (Option Addr × Nat) × (Option Addr × Nat) × (Option Addr × Nat) × Value) (W : World) => C3 W4 ls ns fr (RowV t4 Xl) (bt b 1) (bt b 3) (bt b 6) (bt b 7) q W) (b.set 0 true) q W from (by show C3 _ _ _ _ _ _ _ _ _ _ _; rw [bt_ne (i := 0) (by decide), bt_ne (i := 0) (by decide), bt_ne (i := 0) (by decide), bt_ne (i := 0) (by decide)]; exact hC))
          clear hC
          go_simp
          exact hK 57 _ q _ HC.out rfl (fun _ _ => rfl)
        | 1 =>
          intro o ho b q W Zx hC hb hun hall hcl hon hoff hels K hK
          simp only [List.getElem?_cons_succ, List.getElem?_cons_zero, Option.some.injEq] at ho
          subst ho
          have hb : b.length = 13 := hb
          have e0 : Zx.tmps[57]?.getD undef = .slice A ls.length cap := ev_tmp (hon 0 57 _ (hall ⟨0, .data⟩ (by simp) rfl) rfl)
          have hbel := hC.bel
          go_simp
          refine (HCI.out W (hbB.trans (hbel.mono hbB.size))).mono ?_
          rintro e w' ⟨A', c', rfl, hl, hb'⟩
          have HC := Lib.hid (show C3 W4 ls ns fr (RowV t4 Xl) (bt (b.set 1 true) 1) (bt (b.set 1 true) 3) (bt (b.set 1 true) 6) (bt (b.set 1 true) 7) ((A', c'), q.2) w' from by
            rw [bt_eq hun, bt_ne (i := 1) (j := 3) (by decide), bt_ne (i := 1) (j := 6) (by decide), bt_ne (i := 1) (j := 7) (by decide)]
            exact hC.s1 (fun _ _ _ h hb => RowV.below h hb) hl hb')
          clear hC
          refine hK 58 _ ((A', c'), q.2) _ HC.out rfl ?_
          intro k' hk'
          match k', hk' with
          | 0, _ => rfl
          | 1, hk' => rw [hun] at hk'; cases hk'
          | 2, _ => rfl
          | 3, _ => rfl
          | 4, _ => rfl
          | 5, _ => rfl
          | 6, _ => rfl
          | 7, _ => rfl
          | 8, _ => rfl
          | 9, _ => rfl
          | 10, _ => rfl
          | 11, _ => rfl
          | 12, _ => rfl
          | t + 13, hk' => rfl
        | 2 =>
          intro o ho b q W Zx hC hb hun hall hcl hon hoff hels K hK
          simp only [List.getElem?_cons_succ, List.getElem?_cons_zero, Option.some.injEq] at ho
          subst ho
          have hb : b.length = 13 := hb
          have e0 : Zx.tmps[1]?.getD undef = .slice N ns.length capN := ev_tmp ((hels 1 (by decide)).trans rfl)
          have HC := Lib.hid (show (fun (b : List Bool) (q : (Option Addr × Nat) × (Option Addr × Nat) × (Option Addr × Nat) × Value) (W : World) => C3 W4 ls ns fr (RowV t4 Xl) (bt b 1) (bt b 3) (bt b 6) (bt b 7) q W) (b.set 2 true) q W from (by show C3 _ _ _ _ _ _ _ _ _ _ _; rw [bt_ne (i := 2) (by decide), bt_ne (i := 2) (by decide), bt_ne (i := 2) (by decide), bt_ne (i := 2) (by decide)]; exact hC))
          clear hC
          go_simp
          exact hK 59 _ q _ HC.out rfl (fun _ _ => rfl)
        | 3 =>
          intro o ho b q W Zx hC hb hun hall hcl hon hoff hels K hK
          simp only [List.getElem?_cons_succ, List.getElem?_cons_zero, Option.some.injEq] at ho
          subst ho
          have hb : b.length = 13 := hb
          have e0 : Zx.tmps[59]?.getD undef = .slice N ns.length capN := ev_tmp (hon 2 59 _ (hall ⟨2, .data⟩ (by simp) rfl) rfl)
          have hbel := hC.bel
          go_simp
          refine (HCN.out W (hbB.trans (hbel.mono hbB.size))).mono ?_
          rintro e w' ⟨A', c', rfl, hc, hl, hb'⟩
          have HC := Lib.hid (show C3 W4 ls ns fr (RowV t4 Xl) (bt (b.set 3 true) 1) (bt (b.set 3 true) 3) (bt (b.set 3 true) 6) (bt (b.set 3 true) 7) (q.1, (A', c'), q.2.2) w' from by
            rw [bt_ne (i := 3) (j := 1) (by decide), bt_eq hun, bt_ne (i := 3) (j := 6) (by decide), bt_ne (i := 3) (j := 7) (by decide)]
            exact hC.s3 (fun _ _ _ h hb => RowV.below h hb) hl hc hb')
          clear hC
          refine hK 60 _ (q.1, (A', c'), q.2.2) _ HC.out rfl ?_
          intro k' hk'
          match k', hk' with
          | 0, _ => rfl
          | 1, _ => rfl
          | 2, _ => rfl
          | 3, hk' => rw [hun] at hk'; cases hk'
          | 4, _ => rfl
          | 5, _ => rfl
          | 6, _ => rfl
          | 7, _ => rfl
          | 8, _ => rfl
          | 9, _ => rfl
          | 10, _ => rfl
          | 11, _ => rfl
          | 12, _ => rfl
          | t + 13, hk' => rfl
        | 4 =>
          intro o ho b q W Zx hC hb hun hall hcl hon hoff hels K hK
          simp only [List.getElem?_cons_succ, List.getElem?_cons_zero, Option.some.injEq] at ho
          subst ho
          have hb : b.length = 13 := hb
          have e0 : Zx.tmps[5]?.getD undef = .pointer (some ⟨w.heap.size, 0, none⟩) := ev_tmp ((hels 5 (by decide)).trans rfl)
          have HC := Lib.hid (show (fun (b : List Bool) (q : (Option Addr × Nat) × (Option Addr × Nat) × (Option Addr × Nat) × Value) (W : World) => C3 W4 ls ns fr (RowV t4 Xl) (bt b 1) (bt b 3) (bt b 6) (bt b 7) q W) (b.set 4 true) q W from (by show C3 _ _ _ _ _ _ _ _ _ _ _; rw [bt_ne (i := 4) (by decide), bt_ne (i := 4) (by decide), bt_ne (i := 4) (by decide), bt_ne (i := 4) (by decide)]; exact hC))
          clear hC
          go_simp
          exact hK 61 _ q _ HC.out rfl (fun _ _ => rfl)
        | 5 =>
          intro o ho b q W Zx hC hb hun hall hcl hon hoff hels K hK
          simp only [List.getElem?_cons_succ, List.getElem?_cons_zero, Option.some.injEq] at ho
          subst ho
          have hb : b.length = 13 := hb
          have e0 : Zx.tmps[61]?.getD undef = .pointer (some ⟨w.heap.size, 1, none⟩) := ev_tmp (hon 4 61 _ (hall ⟨4, .data⟩ (by simp) rfl) rfl)
          have HC := Lib.hid (show (fun (b : List Bool) (q : (Option Addr × Nat) × (Option Addr × Nat) × (Option Addr × Nat) × Value) (W : World) => C3 W4 ls ns fr (RowV t4 Xl) (bt b 1) (bt b 3) (bt b 6) (bt b 7) q W) (b.set 5 true) q W from (by show C3 _ _ _ _ _ _ _ _ _ _ _; rw [bt_ne (i := 5) (by decide), bt_ne (i := 5) (by decide), bt_ne (i := 5) (by decide), bt_ne (i := 5) (by decide)]; exact hC))
          clear hC
          have hcl5 := (HX.out W (hbB.trans (HC.out.bel.mono hbB.size))).2
          go_simp
          exact hK 62 _ q _ HC.out rfl (fun _ _ => rfl)
        | 6 =>
          intro o ho b q W Zx hC hb hun hall hcl hon hoff hels K hK
          simp only [List.getElem?_cons_succ, List.getElem?_cons_zero, Option.some.injEq] at ho
          subst ho
          have hb : b.length = 13 := hb
          have e0 : Zx.tmps[62]?.getD undef = .slice F fr.length cf := ev_tmp (hon 5 62 _ (hall ⟨5, .data⟩ (by simp) rfl) rfl)
          have hbel := hC.bel
          go_simp
          refine (HCF.out W (hbB.trans (hbel.mono hbB.size))).mono ?_
          rintro e w' ⟨A', c', rfl, hl, hb'⟩
          have HC := Lib.hid (show C3 W4 ls ns fr (RowV t4 Xl) (bt (b.set 6 true) 1) (bt (b.set 6 true) 3) (bt (b.set 6 true) 6) (bt (b.set 6 true) 7) (q.1, q.2.1, (A', c'), q.2.2.2) w' from by
            rw [bt_ne (i := 6) (j := 1) (by decide), bt_ne (i := 6) (j := 3) (by decide), bt_eq hun, bt_ne (i := 6) (j := 7) (by decide)]
            exact hC.s6 (fun _ _ _ h hb => RowV.below h hb) hl hb')
          clear hC
          refine hK 63 _ (q.1, q.2.1, (A', c'), q.2.2.2) _ HC.out rfl ?_
          intro k' hk'
          match k', hk' with
          | 0, _ => rfl
          | 1, _ => rfl
          | 2, _ => rfl
          | 3, _ => rfl
          | 4, _ => rfl
          | 5, _ => rfl
          | 6, hk' => rw [hun] at hk'; cases hk'
          | 7, _ => rfl
          | 8, _ => rfl
          | 9, _ => rfl
          | 10, _ => rfl
          | 11, _ => rfl
          | 12, _ => rfl
          | t + 13, hk' => rfl
        | 7 =>
          intro o ho b q W Zx hC hb hun hall hcl hon hoff hels K hK
          simp only [List.getElem?_cons_succ, List.getElem?_cons_zero, Option.some.injEq] at ho
          subst ho
          have hb : b.length = 13 := hb
          have e0 : Zx.tmps[58]?.getD undef = .slice q.1.1 ls.length q.1.2 := ev_tmp (hon 1 58 _ (hall ⟨1, .data⟩ (by simp) rfl) rfl)
          have e1 : Zx.tmps[60]?.getD undef = .slice q.2.1.1 ns.length q.2.1.2 := ev_tmp (hon 3 60 _ (hall ⟨3, .data⟩ (by simp) rfl) rfl)
          have e2 : Zx.tmps[63]?.getD undef = .slice q.2.2.1.1 fr.length q.2.2.1.2 := ev_tmp (hon 6 63 _ (hall ⟨6, .data⟩ (by simp) rfl) rfl)
          have hn8 := not_yet (j := 8) (by omega) hcl rfl ⟨7, .data⟩ (by simp) rfl rfl hun
          have hn9 := not_yet (j := 9) (by omega) hcl rfl ⟨8, .data⟩ (by simp) rfl rfl hn8
          have hn11 := not_yet (j := 11) (by omega) hcl rfl ⟨9, .data⟩ (by simp) rfl rfl hn9
          have HFF := HLO.out W (hbB.trans (hC.bel.mono hbB.size)) q.1.1 q.1.2 q.2.1.1 q.2.1.2 q.2.2.1.1 q.2.2.1.2 (hC.l1 (bt_of (hall ⟨1, .data⟩ (by simp) rfl))) (hC.l3 (bt_of (hall ⟨3, .data⟩ (by simp) rfl))).1 (hC.l3 (bt_of (hall ⟨3, .data⟩ (by simp) rfl))).2 (hC.l6 (bt_of (hall ⟨6, .data⟩ (by simp) rfl)))
          have hbel := hC.bel
          go_simp
          refine HFF.mono ?_
          rintro e w' ⟨v', rfl, hv', hb'⟩
          have HC := Lib.hid (show C3 W4 ls ns fr (RowV t4 Xl) (bt (b.set 7 true) 1) (bt (b.set 7 true) 3) (bt (b.set 7 true) 6) (bt (b.set 7 true) 7) (q.1, q.2.1, q.2.2.1, v') w' from by
            rw [bt_ne (i := 7) (j := 1) (by decide), bt_ne (i := 7) (j := 3) (by decide), bt_ne (i := 7) (j := 6) (by decide), bt_eq hun]
            exact hC.s7 hv' hb')
          clear hC
          refine hK 64 _ (q.1, q.2.1, q.2.2.1, v') _ HC.out rfl ?_
          intro k' hk'
          match k', hk' with
          | 0, _ => rfl
          | 1, _ => rfl
          | 2, _ => rfl
          | 3, _ => rfl
          | 4, _ => rfl
          | 5, _ => rfl
          | 6, _ => rfl
          | 7, hk' => rw [hun] at hk'; cases hk'
          | 8, hk' => rw [hn8] at hk'; cases hk'
          | 9, hk' => rw [hn9] at hk'; cases hk'
          | 10, _ => rfl
          | 11, hk' => rw [hn11] at hk'; cases hk'
          | 12, _ => rfl
          | t + 13, hk' => rfl
        | 8 =>
          intro o ho b q W Zx hC hb hun hall hcl hon hoff hels K hK
          simp only [List.getElem?_cons_succ, List.getElem?_cons_zero, Option.some.injEq] at ho
          subst ho
          have hb : b.length = 13 := hb
          have e0 : Zx.tmps[64]?.getD undef = .tuple #[q.2.2.2, .int .i64 t4] := ev_tmp (hon 7 64 _ (hall ⟨7, .data⟩ (by simp) rfl) rfl)
          have HC := Lib.hid (show (fun (b : List Bool) (q : (Option Addr × Nat) × (Option Addr × Nat) × (Option Addr × Nat) × Value) (W : World) => C3 W4 ls ns fr (RowV t4 Xl) (bt b 1) (bt b 3) (bt b 6) (bt b 7) q W) (b.set 8 true) q W from (by show C3 _ _ _ _ _ _ _ _ _ _ _; rw [bt_ne (i := 8) (by decide), bt_ne (i := 8) (by decide), bt_ne (i := 8) (by decide), bt_ne (i := 8) (by decide)]; exact hC))
          clear hC
          go_simp
          exact hK 56 _ q _ HC.out rfl (fun _ _ => rfl)
        | 9 =>
          intro o ho b q W Zx hC hb hun hall hcl hon hoff hels K hK
          simp only [List.getElem?_cons_succ, List.getElem?_cons_zero, Option.some.injEq] at ho
          subst ho
          have hb : b.length = 13 := hb
          have e0 : Zx.tmps[56]?.getD undef = .tuple #[q.2.2.2, .int .i64 t4] := ev_tmp (hon 8 56 _ (hall ⟨8, .data⟩ (by simp) rfl) rfl)
          have HC := Lib.hid (show (fun (b : List Bool) (q : (Option Addr × Nat) × (Option Addr × Nat) × (Option Addr × Nat) × Value) (W : World) => C3 W4 ls ns fr (RowV t4 Xl) (bt b 1) (bt b 3) (bt b 6) (bt b 7) q W) (b.set 9 true) q W from (by show C3 _ _ _ _ _ _ _ _ _ _ _; rw [bt_ne (i := 9) (by decide), bt_ne (i := 9) (by decide), bt_ne (i := 9) (by decide), bt_ne (i := 9) (by decide)]; exact hC))
          clear hC
          go_simp
          exact hK 65 _ q _ HC.out rfl (fun _ _ => rfl)
        | 10 =>
          intro o ho b q W Zx hC hb hun hall hcl hon hoff hels K hK
          simp only [List.getElem?_cons_succ, List.getElem?_cons_zero, Option.some.injEq] at ho
          subst ho
          have hb : b.length = 13 := hb
          have e0 : Zx.tmps[56]?.getD undef = .tuple #[q.2.2.2, .int .i64 t4] := ev_tmp (hon 8 56 _ (hall ⟨8, .data⟩ (by simp) rfl) rfl)
          have HC := Lib.hid (show (fun (b : List Bool) (q : (Option Addr × Nat) × (Option Addr × Nat) × (Option Addr × Nat) × Value) (W : World) => C3 W4 ls ns fr (RowV t4 Xl) (bt b 1) (bt b 3) (bt b 6) (bt b 7) q W) (b.set 10 true) q W from (by show C3 _ _ _ _ _ _ _ _ _ _ _; rw [bt_ne (i := 10) (by decide), bt_ne (i := 10) (by decide), bt_ne (i := 10) (by decide), bt_ne (i := 10) (by decide)]; exact hC))
          clear hC
          go_simp
          exact hK 66 _ q _ HC.out rfl (fun _ _ => rfl)
        | 11 =>
          intro o ho b q W Zx hC hb hun hall hcl hon hoff hels K hK
          simp only [List.getElem?_cons_succ, List.getElem?_cons_zero, Option.some.injEq] at ho
          subst ho
          have hb : b.length = 13 := hb
          have e0 : Zx.tmps[65]?.getD undef = q.2.2.2 := ev_tmp (hon 9 65 _ (hall ⟨9, .data⟩ (by simp) rfl) rfl)
          have HC := Lib.hid (show (fun (b : List Bool) (q : (Option Addr × Nat) × (Option Addr × Nat) × (Option Addr × Nat) × Value) (W : World) => C3 W4 ls ns fr (RowV t4 Xl) (bt b 1) (bt b 3) (bt b 6) (bt b 7) q W) (b.set 11 true) q W from (by show C3 _ _ _ _ _ _ _ _ _ _ _; rw [bt_ne (i := 11) (by decide), bt_ne (i := 11) (by decide), bt_ne (i := 11) (by decide), bt_ne (i := 11) (by decide)]; exact hC))
          clear hC
          go_simp
          exact hK 11 _ q _ HC.out rfl (fun _ _ => rfl)
        | 12 =>
          intro o ho b q W Zx hC hb hun hall hcl hon hoff hels K hK
          simp only [List.getElem?_cons_succ, List.getElem?_cons_zero, Option.some.injEq] at ho
          subst ho
          have hb : b.length = 13 := hb
          have e0 : Zx.tmps[66]?.getD undef = .int .i64 t4 := ev_tmp (hon 10 66 _ (hall ⟨10, .data⟩ (by simp) rfl) rfl)
          have HC := Lib.hid (show (fun (b : List Bool) (q : (Option Addr × Nat) × (Option Addr × Nat) × (Option Addr × Nat) × Value) (W : World) => C3 W4 ls ns fr (RowV t4 Xl) (bt b 1) (bt b 3) (bt b 6) (bt b 7) q W) (b.set 12 true) q W from (by show C3 _ _ _ _ _ _ _ _ _ _ _; rw [bt_ne (i := 12) (by decide), bt_ne (i := 12) (by decide), bt_ne (i := 12) (by decide), bt_ne (i := 12) (by decide)]; exact hC))
          clear hC
          go_simp
          exact hK 12 _ q _ HC.out rfl (fun _ _ => rfl)
        | t + 13 =>
          intro o ho
          simp at ho
      case hq =>
        intro q W hC
        have hF : C3 W4 ls ns fr (RowV t4 Xl) true true true true q W := hC
        have hbs5 := hF.bel
        have hb5 := hbB.trans (hbs5.mono hbB.size)
        have hv5 := hF.l7 rfl
        clear hC hF hbB
        simp only [zp, List.length_cons, List.length_nil, List.replicate, List.zip_cons_cons, List.zip_nil_right, frm, if_true]
        obtain ⟨⟨a1, a2⟩, ⟨a3, a4⟩, ⟨a5, a6⟩, v5⟩ := q
        simp only at hv5
        go_simp
        have hv3 := hv3.below hbs5
        have hv4 := hv4.below hbs5
        clear hbs5
        rename World => W5
        go_wp2_with fail
        refine (HCI.out W5 hb5).mono ?_
        rintro e W6 ⟨A6, c6, rfl, hl6, hs6⟩
        have hb6 := hb5.trans (hs6.mono hb5.size)
        go_wp2_with fail
        refine (HCN.out W6 hb6).mono ?_
        rintro e W7 ⟨N7, n7, rfl, hc7, hl7, hs7⟩
        have hb7 := hb6.trans (hs7.mono hb6.size)
        go_wp2_with fail
        refine (HDO.out W7 hb7 A6 c6 N7 n7 (hl6.below hs7) hl7 hc7).mono ?_
        rintro e W8 ⟨v8, rfl, hv8, hs8⟩
        have hb8 := hb7.trans (hs8.mono hb7.size)
        have hs58 := hs6.trans ((hs7.trans (hs8.mono hs7.size)).mono hs6.size)
        clear hl6 hl7 hc7 hs6 hs7 hs8 hb6 hb7
        go_wp2_with fail
        refine (HNE.out W8 hb8).mono ?_
        rintro e w' ⟨rfl, y9, rfl⟩
        have hb9 := y9.below hb8 hb8.size
        have hs59 := y9.below hs58 hs58.size
        have hv3 := hv3.below hs59
        have hv4 := hv4.below hs59
        have hv5 := hv5.below hs59
        have hv8 := hv8.below y9.pf
        clear hb5 hb8 hs58 hs59
        generalize y9.val = W9 at *
        by_cases hce : ce = 0
        case neg =>
          have d1 : (ce == 0) = false := by simpa using hce
          have d2 : (ce != 0) = true := by simpa using hce
          obtain rfl : t3 = ce := HT3.out hce
          obtain rfl : t4 = t3 := HT4.out hce
          have n3 := hv3.nil hce
          have n4 := hv4.nil hce
          have n5 := hv5.nil hce
          have n8 := hv8.nil hce
          subst n3 n4 n5 n8
          clear hce hv3 hv4 hv5 hv8
          go_wp2
          go_ret
          exact ⟨rfl, Below.aft (hb2.trans (hb9.mono hb2.size))⟩
        subst hce
        obtain rfl : t3 = ev := HT5.out rfl
        obtain rfl : t4 = ef := HT6.out rfl
        obtain ⟨A8, c8, n8, hl8⟩ := hv8.good
        subst n8
        clear hv8
        go_wp2_with fail
        refine (HDP.out (by first | rfl | trivial) W9 hb9).mono ?_
        rintro e W10 ⟨A10, c10, rfl, hl10, hs10⟩
        have hb10 := hb9.trans (hs10.mono hb9.size)
        have HI := Lib.hid (Ints_c A8 c8 Xd HLD.out A10 c10 Xd HLD.out W10 (hl8.below hs10) hl10)
        rw [eqL_same] at HI
        clear hl8 hl10
        go_wp2_with fail
        refine HI.out.mono ?_
        rintro e w' ⟨rfl, y11, rfl⟩
        have hb11 := y11.below hb10 hb10.size
        have hs11 := y11.below hs10 hs10.size
        have hv3 := hv3.below hs11
        have hv4 := hv4.below hs11
        have hv5 := hv5.below hs11
        clear hb9 hb10 hs10 hs11
        generalize y11.val = W11 at *
        obtain ⟨qx0, qx1⟩ := HX.out W11 hb11
        go_wp2_with fail
        refine (HFE.out W11 hb11).mono ?_
        rintro e w' ⟨rfl, rfl⟩
        by_cases hef : t4 = 0
        case neg =>
          have d1 : (t4 == 0) = false := by simpa using hef
          have d2 : (t4 != 0) = true := by simpa using hef
          have n4 := hv4.nil hef
          have n5 := hv5.nil hef
          subst n4 n5
          clear hef hv4 hv5 qx0 qx1
          go_upto_region 20 with (fail)
          have qx := HX.out W11 hb11
          obtain ⟨qx0, qx1⟩ := qx
          go_wp2_with fail
          refine (HVE.out (by first | rfl | trivial) W11 hb11).mono ?_
          rintro e w' ⟨rfl, y20, rfl⟩
          clear qx0 qx1
          have hb20 := y20.below hb11 hb11.size
          have hv3 := hv3.below y20.pf
          generalize y20.val = W20 at *
          by_cases hev : t3 = 0
          case neg =>
            have d1 : (t3 == 0) = false := by simpa using hev
            have d2 : (t3 != 0) = true := by simpa using hev
            have hvn := hv3.nil hev
            subst hvn
            clear hev hv3
            go_wp2
            go_ret
            exact ⟨rfl, Below.aft (hb2.trans (hb20.mono hb2.size))⟩
          subst hev
          obtain ⟨A21, c21, hs3, hl3⟩ := hv3.good
          subst hs3
          clear hv3
          obtain ⟨qx0, qx1⟩ := HX.out W20 hb20
          go_wp2_with fail
          refine (HNV.out (by first | rfl | trivial) (by first | rfl | trivial) W20 hb20).mono ?_
          rintro e W22 ⟨A22, c22, rfl, hl22, hb22⟩
          have hbw22 := hb20.trans (hb22.mono hb20.size)
          clear qx0 qx1
          have HI := Lib.hid (Ints_c A21 c21 Xv HLV.out A22 c22 Xv HLV.out W22 (hl3.below hb22) hl22)
          rw [eqL_same] at HI
          clear hl3 hl22
          go_wp2_with fail
          refine HI.out.mono ?_
          rintro e w' ⟨rfl, y23, rfl⟩
          have hb23 := y23.below hbw22 hbw22.size
          go_wp2
          go_ret
          exact ⟨rfl, Below.aft (hb2.trans (hb23.mono hb2.size))⟩
        subst hef
        obtain ⟨A4, c4, n4, hl4⟩ := hv4.good
        obtain ⟨A5, c5, n5, hl5⟩ := hv5.good
        subst n4 n5
        clear hv4 hv5
        go_wp2_with fail
        refine (HRB.out (by first | rfl | trivial) (by first | rfl | trivial) W11 hb11).mono ?_
        rintro e W12 ⟨A12, c12, rfl, hl12, hs12⟩
        have hb12 := hb11.trans (hs12.mono hb11.size)
        clear qx0 qx1
        have HI := Lib.hid (Ints_c A4 c4 Xb HLC.out A12 c12 Xb HLC.out W12 (hl4.below hs12) hl12)
        rw [eqL_same] at HI
        clear hl4 hl12
        go_wp2_with fail
        refine HI.out.mono ?_
        rintro e w' ⟨rfl, y13, rfl⟩
        have hb13 := y13.below hb12 hb12.size
        have hs13 := y13.below hs12 hs12.size
        have hv3 := hv3.below hs13
        have hl5 := hl5.below hs13
        clear hb11 hb12 hs12 hs13
        generalize y13.val = W13 at *
        obtain ⟨qx0, qx1⟩ := HX.out W13 hb13
        go_wp2_with fail
        refine (HLB.out (by first | rfl | trivial) (by first | rfl | trivial) W13 hb13).mono ?_
        rintro e W14 ⟨A14, c14, rfl, hl14, hs14⟩
        have hb14 := hb13.trans (hs14.mono hb13.size)
        clear qx0 qx1
        have HI := Lib.hid (Ints_c A5 c5 Xl HLL.out A14 c14 Xl HLL.out W14 (hl5.below hs14) hl14)
        rw [eqL_same] at HI
        clear hl5 hl14
        go_wp2_with fail
        refine HI.out.mono ?_
        rintro e w' ⟨rfl, y15, rfl⟩
        have hb15 := y15.below hb14 hb14.size
        have hs15 := y15.below hs14 hs14.size
        have hv3 := hv3.below hs15
        clear hb13 hb14 hs14 hs15
        generalize y15.val = W15 at *
        go_upto_region 20 with (fail)
        have qx := HX.out W15 hb15
        obtain ⟨qx0, qx1⟩ := qx
        go_wp2_with fail
        refine (HVE.out (by first | rfl | trivial) W15 hb15).mono ?_
        rintro e w' ⟨rfl, y20, rfl⟩
        clear qx0 qx1
        have hb20 := y20.below hb15 hb15.size
        have hv3 := hv3.below y20.pf
        generalize y20.val = W20 at *
        by_cases hev : t3 = 0
        case neg =>
          have d1 : (t3 == 0) = false := by simpa using hev
          have d2 : (t3 != 0) = true := by simpa using hev
          have hvn := hv3.nil hev
          subst hvn
          clear hev hv3
          go_wp2
          go_ret
          exact ⟨rfl, Below.aft (hb2.trans (hb20.mono hb2.size))⟩
        subst hev
        obtain ⟨A21, c21, hs3, hl3⟩ := hv3.good
        subst hs3
        clear hv3
        obtain ⟨qx0, qx1⟩ := HX.out W20 hb20
        go_wp2_with fail
        refine (HNV.out (by first | rfl | trivial) (by first | rfl | trivial) W20 hb20).mono ?_
        rintro e W22 ⟨A22, c22, rfl, hl22, hb22⟩
        have hbw22 := hb20.trans (hb22.mono hb20.size)
        clear qx0 qx1
        have HI := Lib.hid (Ints_c A21 c21 Xv HLV.out A22 c22 Xv HLV.out W22 (hl3.below hb22) hl22)
        rw [eqL_same] at HI
        clear hl3 hl22
        go_wp2_with fail
        refine HI.out.mono ?_
        rintro e w' ⟨rfl, y23, rfl⟩
        have hb23 := y23.below hbw22 hbw22.size
        go_wp2
        go_ret
        exact ⟨rfl, Below.aft (hb2.trans (hb23.mono hb2.size))⟩

end Go.Proofs.YtkdonapgonegkaaDoor
