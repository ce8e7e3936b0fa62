/-
  The law GraphMatters of chapter 2 (graph).
-/
import Derived.Test.YtkdonapgonegkaaDoorPI
import Derived.Test.YtkdonapgonegkaaDoorPJ
set_option linter.unusedSimpArgs false
set_option linter.unusedVariables false
namespace Go.Proofs.YtkdonapgonegkaaDoor
open Go.RowKit Go.BigFrame

/-- A region of two calls: nodes are copied and handed on. -/
structure C2 (W2 : World) (ns : List Nd) (Rr : Value → World → Prop) (b2 b5 : Bool) (q : (Option Addr × Nat) × Value) (W : World) : Prop where
  bel : Below W2.heap.size W2 W
  l2 : b2 = true → LiesN W q.1.1 ns ∧ ns.length ≤ q.1.2
  l5 : b5 = true → Rr q.2 W
section
variable {W2 W W' : World} {ns : List Nd} {Rr : Value → World → Prop} {b2 b5 : Bool} {q : (Option Addr × Nat) × Value}
theorem C2.s2 (h : C2 W2 ns Rr b2 b5 q W) (hR : ∀ v W W', Rr v W → Below W.heap.size W W' → Rr v W') {A' : Option Addr} {c' : Nat} (hl : LiesN W' A' ns) (hc : ns.length ≤ c') (hb : Below W.heap.size W W') : C2 W2 ns Rr true b5 ((A', c'), q.2) W' :=
  ⟨h.bel.trans (hb.mono h.bel.size), fun _ => ⟨hl, hc⟩, fun h1 => hR _ _ _ (h.l5 h1) hb⟩
theorem C2.s5 (h : C2 W2 ns Rr b2 b5 q W) {v : Value} (hv : Rr v W') (hb : Below W.heap.size W W') : C2 W2 ns Rr b2 true (q.1, v) W' :=
  ⟨h.bel.trans (hb.mono h.bel.size), fun h1 => ⟨(h.l2 h1).1.below hb, (h.l2 h1).2⟩, fun _ => hv⟩
end
theorem DiffR.v {w w' : World} {ls : List Int} {ns : List Nd} {fr : List Int} {e : Ending} (h : DiffR w ls ns fr e w') :
    ((∃ (k : Nat) (A' : Option Addr) (c : Nat), (k : Int) < pw (bitsL ls ns fr) ∧ dif ls ns fr k ∧ e = .returned (.tuple #[.slice A' ls.length c, .int .i64 0]) ∧ LiesI w' A' (triV ls ns fr k)) ∨
      ((∀ j : Nat, (j : Int) < pw (bitsL ls ns fr) → ¬ dif ls ns fr j) ∧ e = .returned (.tuple #[.slice none 0 0, .int .i64 12]))) ∧ Below w.heap.size w w' := by
  obtain ⟨⟨k, A', c, h1, h2, _, h3, h4⟩ | h, hb⟩ := h
  · exact ⟨.inl ⟨k, A', c, h1, h2, h3, h4⟩, hb⟩
  · exact ⟨.inr h, hb⟩

set_option maxRecDepth 100000 in
set_option maxHeartbeats 4000000 in
theorem GraphMatters_main (A : Option Addr) (cap : Nat) (ls : List Int) (N : Option Addr) (capN : Nat) (ns : List Nd) (V : Option Addr) (cv : Nat) (vs : List Int) (F : Option Addr) (cf : Nat) (fr : List Int) (w : World)
    (hA : LiesI w A ls) (hN : LiesG w N ns) (hV : LiesI w V vs) (hV0 : vs.length = 0 → V = none ∧ cv = 0 ∨ ∃ ad, V = some ad) (hF : LiesI w F fr) (hFc : fr.length ≤ cf) (ht : TabOps w) :
    Calls Tryd.prog 7 #[.slice A ls.length cap, .slice N ns.length capN, .agg #[.slice V vs.length cv, .slice F fr.length cf]] w fun e w' => e = .returned (.bool true) ∧ ∃ x : Aft w, w' = x.val := by
  have HAW := Lib.hid (fun (W : World) (hb : Below w.heap.size w W) => awake_c W (ht.below hb))
  by_cases n60 : 60 < ns.length
  · have n60' : (60 : Int) < ns.length := by omega
    clear hA hN hV hV0 hF ht n60
    go_enter Tryd.func7, Tryd.ntmps7
    go_upto_region 1 with (fail)
    have hb1 : Below w.heap.size w (w.alloc (.cells #[.slice V vs.length cv, .slice F fr.length cf] 34)) := (Below.refl _ _).alloc (Nat.le_refl _) _
    have rX1 : (w.alloc (.cells #[.slice V vs.length cv, .slice F fr.length cf] 34)).heap[w.heap.size]? = some (.cells #[.slice V vs.length cv, .slice F fr.length cf] 34) := heap_alloc_at rfl
    generalize w.alloc (.cells #[.slice V vs.length cv, .slice F fr.length cf] 34) = W1 at *
    go_wp2_with fail
    refine (HAW.out W1 hb1).mono ?_
    rintro e w' ⟨rfl, y, rfl⟩
    have hb2 := y.below hb1 hb1.size
    have rX2 := heap_aft y (lt_of_get rX1) rX1
    clear hb1 rX1
    generalize y.val = W2 at *
    have q0 := cell_block (i := 0) rX2
    have q1 := cell_block (i := 1) rX2
    simp at q0 q1
    go_wp2
    go_ret
    exact ⟨rfl, Below.aft hb2⟩
  have n60' : ¬ (60 : Int) < ns.length := by omega
  by_cases f2 : fr.length < 2
  · have f2' : (fr.length : Int) < 2 := by omega
    clear hA hN hV hV0 hF ht f2 n60
    go_enter Tryd.func7, Tryd.ntmps7
    go_upto_region 1 with (fail)
    have hb1 : Below w.heap.size w (w.alloc (.cells #[.slice V vs.length cv, .slice F fr.length cf] 34)) := (Below.refl _ _).alloc (Nat.le_refl _) _
    have rX1 : (w.alloc (.cells #[.slice V vs.length cv, .slice F fr.length cf] 34)).heap[w.heap.size]? = some (.cells #[.slice V vs.length cv, .slice F fr.length cf] 34) := heap_alloc_at rfl
    generalize w.alloc (.cells #[.slice V vs.length cv, .slice F fr.length cf] 34) = W1 at *
    go_wp2_with fail
    refine (HAW.out W1 hb1).mono ?_
    rintro e w' ⟨rfl, y, rfl⟩
    have hb2 := y.below hb1 hb1.size
    have rX2 := heap_aft y (lt_of_get rX1) rX1
    clear hb1 rX1
    generalize y.val = W2 at *
    have q0 := cell_block (i := 0) rX2
    have q1 := cell_block (i := 1) rX2
    simp at q0 q1
    go_wp2
    go_ret
    exact ⟨rfl, Below.aft hb2⟩
  have f2' : ¬ (fr.length : Int) < 2 := by omega
  by_cases f60 : 60 < fr.length
  · have f60' : (60 : Int) < fr.length := by omega
    clear hA hN hV hV0 hF ht f2 n60 f60
    go_enter Tryd.func7, Tryd.ntmps7
    go_upto_region 1 with (fail)
    have hb1 : Below w.heap.size w (w.alloc (.cells #[.slice V vs.length cv, .slice F fr.length cf] 34)) := (Below.refl _ _).alloc (Nat.le_refl _) _
    have rX1 : (w.alloc (.cells #[.slice V vs.length cv, .slice F fr.length cf] 34)).heap[w.heap.size]? = some (.cells #[.slice V vs.length cv, .slice F fr.length cf] 34) := heap_alloc_at rfl
    generalize w.alloc (.cells #[.slice V vs.length cv, .slice F fr.length cf] 34) = W1 at *
    go_wp2_with fail
    refine (HAW.out W1 hb1).mono ?_
    rintro e w' ⟨rfl, y, rfl⟩
    have hb2 := y.below hb1 hb1.size
    have rX2 := heap_aft y (lt_of_get rX1) rX1
    clear hb1 rX1
    generalize y.val = W2 at *
    have q0 := cell_block (i := 0) rX2
    have q1 := cell_block (i := 1) rX2
    simp at q0 q1
    go_wp2
    go_ret
    exact ⟨rfl, Below.aft hb2⟩
  obtain ⟨x0, x1, rest, rfl⟩ : ∃ x0 x1 rest, fr = x0 :: x1 :: rest := by
    match fr, f2 with
    | [], h => exact absurd h (by simp)
    | [a], h => exact absurd h (by simp)
    | a :: b :: r, _ => exact ⟨a, b, r, rfl⟩
  have hrl : rest.length ≤ 58 := by simp at f60; omega
  have g2 : ¬ ((rest.length : Int) + 1 + 1 < 2) := by omega
  have g60 : ¬ (60 < (rest.length : Int) + 1 + 1) := by omega
  clear f2 f2' f60
  have HNE := Lib.hid (fun (W : World) (hb : Below w.heap.size w W) => refNodesErrX_c A cap ls N capN ns (by omega) W (hA.below hb) (hN.n.below hb))
  go_enter Tryd.func7, Tryd.ntmps7
  go_upto_region 1 with (fail)
  have hb1 : Below w.heap.size w (w.alloc (.cells #[.slice V vs.length cv, .slice F (x0 :: x1 :: rest).length cf] 34)) := (Below.refl _ _).alloc (Nat.le_refl _) _
  have rX1 : (w.alloc (.cells #[.slice V vs.length cv, .slice F (x0 :: x1 :: rest).length cf] 34)).heap[w.heap.size]? = some (.cells #[.slice V vs.length cv, .slice F (x0 :: x1 :: rest).length cf] 34) := heap_alloc_at rfl
  generalize w.alloc (.cells #[.slice V vs.length cv, .slice F (x0 :: x1 :: rest).length cf] 34) = W1 at *
  go_wp2_with fail
  refine (HAW.out W1 hb1).mono ?_
  rintro e w' ⟨rfl, y, rfl⟩
  have hb2 := y.below hb1 hb1.size
  have rX2 := heap_aft y (lt_of_get rX1) rX1
  clear hb1 rX1
  generalize y.val = W2 at *
  have q0 := cell_block (i := 0) rX2
  have q1 := cell_block (i := 1) rX2
  simp at q0 q1
  have HX := Lib.hid (show ∀ W : World, Below W2.heap.size W2 W → W.cell? ⟨w.heap.size, 0, none⟩ = some (.slice V vs.length cv) ∧ W.cell? ⟨w.heap.size, 1, none⟩ = some (.slice F (x0 :: x1 :: rest).length cf) from fun W hb => by
    have rX := (hb.block _ (lt_of_get rX2)).trans rX2
    have q0 := cell_block (i := 0) rX
    have q1 := cell_block (i := 1) rX
    simp at q0 q1
    exact ⟨q0, q1⟩)
  clear rX2
  go_wp2_with fail
  refine (HNE.out W2 hb2).mono ?_
  rintro e w' ⟨rfl, y3, rfl⟩
  have hb3 := y3.pf
  generalize y3.val = W3 at *
  clear q0 q1
  obtain ⟨qx0, qx1⟩ := HX.out W3 hb3
  by_cases hz : (chk ls ns).2 = 0
  case neg =>
    generalize (chk ls ns).2 = ce at *
    have d1 : (ce == 0) = false := by simpa using hz
    have d2 : (ce != 0) = true := by simpa using hz
    clear hz
    go_wp2
    go_ret
    exact ⟨rfl, Below.aft (hb2.trans (hb3.mono hb2.size))⟩
  have hc := hz
  rw [hz]
  obtain ⟨c1, c2, c3, _⟩ := chk_ok hc
  clear hz
  go_wp2_with fail
  refine (refValuesErrX_c A cap ls (by omega) c2 V cv vs W3 (hA.below (hb2.trans (hb3.mono hb2.size))) (hV.below (hb2.trans (hb3.mono hb2.size)))).mono ?_
  rintro e w' ⟨rfl, y4, rfl⟩
  have hb4 := y4.below hb3 hb3.size
  generalize y4.val = W4 at *
  clear qx0 qx1
  obtain ⟨qx0, qx1⟩ := HX.out W4 hb4
  by_cases hz : valE ls vs = 0
  case neg =>
    generalize valE ls vs = ev at *
    have d1 : (ev == 0) = false := by simpa using hz
    have d2 : (ev != 0) = true := by simpa using hz
    clear hz
    go_wp2
    go_ret
    exact ⟨rfl, Below.aft (hb2.trans (hb4.mono hb2.size))⟩
  have hv := hz
  rw [hz]
  have hfv := FitV.of hv
  have HVLN := Lib.hid hfv.1
  clear hz
  go_wp2_with fail
  refine (refFromErr_c N capN ns.length (by omega) F cf (x0 :: x1 :: rest) (by simp; omega) W4 (hF.below (hb2.trans (hb4.mono hb2.size)))).mono ?_
  rintro e w' ⟨rfl, rfl⟩
  by_cases hz : argsE (x0 :: x1 :: rest) ns.length 6 = 0
  case neg =>
    generalize argsE (x0 :: x1 :: rest) ns.length 6 = ef at *
    have d1 : (ef == 0) = false := by simpa using hz
    have d2 : (ef != 0) = true := by simpa using hz
    clear hz
    go_wp2
    go_ret
    exact ⟨rfl, Below.aft (hb2.trans (hb4.mono hb2.size))⟩
  have hfx := argsE_ok hz
  rw [hz]
  clear hz
  obtain ⟨i0, i1⟩ := isIx_iff.1 (hfx x0 (by simp))
  obtain ⟨j0, j1⟩ := isIx_iff.1 (hfx x1 (by simp))
  obtain ⟨i, rfl⟩ := Int.eq_ofNat_of_zero_le i0
  obtain ⟨j, rfl⟩ := Int.eq_ofNat_of_zero_le j0
  have hin : i < ns.length := by omega
  have hjn : j < ns.length := by omega
  obtain ⟨af, rfl, hafl, hafc⟩ := hF (by simp)
  have HTW := Lib.hid (show ∀ W : World, Below W2.heap.size W2 W → LiesI W (some af) [(i : Int), (j : Int)] ∧ W.cell? af = some (.int .i64 i) ∧ W.cell? ⟨af.block, af.off + 1, none⟩ = some (.int .i64 j) from fun W hb => by
    have hbw := hb2.trans (hb.mono hb2.size)
    have e0 := (hbw.cell (p := af.add 0) (by rw [addB]; exact hafl)).trans (hafc 0 (i : Int) rfl)
    have e1 := (hbw.cell (p := af.add 1) (by rw [addB]; exact hafl)).trans (hafc 1 (j : Int) rfl)
    refine ⟨fun _ => ⟨af, rfl, Nat.lt_of_lt_of_le hafl hbw.size, fun m x hm => ?_⟩, e0, e1⟩
    match m, hm with
    | 0, hm => simp at hm; subst hm; exact e0
    | 1, hm => simp at hm; subst hm; exact e1
    | m + 2, hm => simp at hm)
  have hix : ∀ x ∈ [(i : Int), (j : Int)], isIx x ns.length = true := by intro x hx; simp at hx; rcases hx with rfl | rfl <;> exact isIx_true (by omega) (by omega)
  have hix1 : ∀ x ∈ [(i : Int)], isIx x ns.length = true := by intro x hx; simp at hx; subst hx; exact isIx_true (by omega) (by omega)
  have f4 : ∀ n ∈ ns, n.args.length ≤ 65536 := fun n hn => by
    obtain ⟨k, hk, rfl⟩ := List.mem_iff_getElem.1 hn
    have := (chk_nodes hc k _ (List.getElem?_eq_getElem hk)).al
    omega
  have HLI := Lib.hid (fun (W : World) (hb : Below W2.heap.size W2 W) => light_c A cap ls (by omega) c2 N capN ns (by omega) (chk_nodes hc) (some af) cf [(i : Int), (j : Int)] (by simp) hix W (hA.below (hb2.trans (hb.mono hb2.size))) (hN.n.below (hb2.trans (hb.mono hb2.size))) (HTW.out W hb).1)
  have HCN := Lib.hid (fun (W : World) (hb : Below W2.heap.size W2 W) => CopyNodes_c N capN ns (by omega) f4 W (hN.below (hb2.trans (hb.mono hb2.size))))
  have HLO := Lib.hid (fun (W : World) (hb : Below W2.heap.size W2 W) (N' : Option Addr) (cn' : Nat) (X' : Option Addr) (cx' : Nat) (h2 : LiesN W N' ns) (h3 : ns.length ≤ cn') (h4 : LiesI W X' [(i : Int)]) => (LeavesOf_c A cap ls (by omega) N' cn' ns (by omega) h3 f4 X' cx' [(i : Int)] (by simp) W (hA.below (hb2.trans (hb.mono hb2.size))) h2 h4 (ht.below (hb2.trans (hb.mono hb2.size)))).mono fun _ _ h => h.v)
  have he1 : fromE ls ns [(i : Int)] = 0 := by unfold fromE; rw [hc, thenE_ok]; exact argsE_good hix1
  rw [he1] at HLO
  have HVO := Lib.hid (fun (us : List Int) (hus : FitV ls us) (W : World) (hb : Below W2.heap.size W2 W) (N' : Option Addr) (cn' : Nat) (X' : Option Addr) (cx' : Nat) (h2 : LiesN W N' ns) (h3 : ns.length ≤ cn') (h4 : LiesI W X' us) => show Calls Tryd.prog 14 #[.slice A ls.length cap, .slice N' ns.length cn', .slice X' us.length cx'] W (fun e w' => ∃ v, e = .returned (.tuple #[v, .int .i64 0]) ∧ RowV 0 (valsL ns us) v w' ∧ Below W.heap.size W w') from by
    have h := (ValuesOf_c A cap ls (by omega) N' cn' ns (by omega) h3 f4 X' cx' us (by have := hus.1; omega) W (hA.below (hb2.trans (hb.mono hb2.size))) h2 h4 (ht.below (hb2.trans (hb.mono hb2.size)))).mono fun _ _ h => h.v
    rw [hc, hus.val, thenE_ok] at h
    exact h)
  have HCV := Lib.hid (fun (W : World) (hb : Below W2.heap.size W2 W) => CopyIntsO_c V cv vs W (hV.below (hb2.trans (hb.mono hb2.size))) hV0 (by have := HVLN.out; omega))
  have HDF := Lib.hid (fun (W : World) (hb : Below W2.heap.size W2 W) (N' : Option Addr) (cn' : Nat) (h2 : LiesN W N' ns) (h3 : ns.length ≤ cn') => show Calls Tryd.prog 35 #[.slice A ls.length cap, .slice N' ns.length cn', .int .i64 i, .int .i64 j] W (fun e w' => ((∃ k A' c, dif ls ns [(i : Int), (j : Int)] k ∧ e = .returned (.tuple #[.slice A' ls.length c, .int .i64 0]) ∧ LiesI w' A' (triV ls ns [(i : Int), (j : Int)] k)) ∨ ((valsL ns vs)[i]? = (valsL ns vs)[j]? ∧ e = .returned (.tuple #[.slice none 0 0, .int .i64 12])) ∨ e = .returned (.tuple #[.slice none 0 0, .int .i64 25]) ∨ e = .returned (.tuple #[.slice none 0 0, .int .i64 8])) ∧ Below W.heap.size W w') from by
    have hi := List.getElem?_eq_getElem hin
    have hj := List.getElem?_eq_getElem hjn
    have hAw := hA.below (hb2.trans (hb.mono hb2.size))
    have htw := ht.below (hb2.trans (hb.mono hb2.size))
    by_cases hwd : (ns[i]).wd = (ns[j]).wd
    case neg => exact (DifferenceOf_width A cap ls (by omega) N' cn' ns (by omega) h3 f4 i j _ _ hi hj hwd hc W hAw h2 htw).mono fun _ _ h => ⟨.inr (.inr (.inl h.1)), h.2⟩
    by_cases hbt : 12 < bitsL ls ns [(i : Int), (j : Int)]
    case pos => exact (DifferenceOf_large A cap ls (by omega) N' cn' ns (by omega) h3 f4 i j _ _ hi hj hwd hbt hc W hAw h2 htw).mono fun _ _ h => ⟨.inr (.inr (.inr h.1)), h.2⟩
    refine (DifferenceOf_ok A cap ls (by omega) N' cn' ns (by omega) h3 f4 i j _ _ hi hj hwd (by omega) hc (TriOK.of hc hix (by simp) (by omega)) W hAw h2 htw).mono fun _ _ h => ?_
    obtain ⟨⟨k, A1, c, _, h1, h4, h5⟩ | ⟨h1, h4⟩, hbb⟩ := h.v
    · exact ⟨.inl ⟨k, A1, c, h1, h4, h5⟩, hbb⟩
    · exact ⟨.inr (.inl ⟨val_never hc hin hjn hfv h1, h4⟩), hbb⟩)
  have HHA := Lib.hid (fun (W : World) (A' : Option Addr) (c' : Nat) (x : Int) (h : LiesI W A' (lbL ns [(i : Int)] ls.length)) => Has_c A' c' (lbL ns [(i : Int)] ls.length) (by have := lbL_len (ns := ns) (fr := [(i : Int)]) (L := ls.length); omega) x W h)
  have HAL := Lib.hid (fun (W : World) (hb : Below W2.heap.size W2 W) => hA.below (hb2.trans (hb.mono hb2.size)))
  have HOF := Lib.hid (othK_fit (l := lbL ns [(i : Int)] ls.length) hfv)
  have HSA := Lib.hid (show (valsL ns vs)[i]? = (valsL ns (othK ls vs (lbL ns [(i : Int)] ls.length) ls.length))[i]? from val_same (chk_nodes hc) hin (fun x hx => by
    have h0 := lbL_mem hx
    obtain ⟨p, rfl⟩ := Int.eq_ofNat_of_zero_le h0.1
    have := othK_in (ls := ls) (us := vs) hx ls.length
    rw [List.getD_eq_getElem?_getD, List.getD_eq_getElem?_getD, Int.toNat_natCast, this]))
  have HDV := Lib.hid (fun k (h : dif ls ns [(i : Int), (j : Int)] k) => val_dif hc hin hjn h)
  have HTF := Lib.hid (fun k => triV_fit ls ns [(i : Int), (j : Int)] k)
  obtain ⟨xi, hxi⟩ : ∃ xi, (valsL ns vs)[i]? = some xi := ⟨_, List.getElem?_eq_getElem (by rw [valsL_len]; exact hin)⟩
  obtain ⟨xj, hxj⟩ : ∃ xj, (valsL ns vs)[j]? = some xj := ⟨_, List.getElem?_eq_getElem (by rw [valsL_len]; exact hjn)⟩
  have HVI := Lib.hid hxi
  have HVJ := Lib.hid hxj
  clear hxi hxj
  have HVL := Lib.hid (fun (W : World) (hb : Below W2.heap.size W2 W) => hV.below (hb2.trans (hb.mono hb2.size)))
  have HLN := Lib.hid (fun us => valsL_len ns us)
  have HWI := Lib.hid c2
  have HFV := Lib.hid hfv
  have hinn : (i : Int) < ns.length := by omega
  have hjnn : (j : Int) < ns.length := by omega
  have hns := n60
  have hls := c1
  have hls := c1
  clear hA hN hV hV0 hF ht hc hv hfv c2 c3 f4 hfx hix hix1 he1 hafc i0 i1 j0 j1 HNE HAW
  have hfc2 : 2 ≤ cf := by simp at hFc; omega
  have hfc3 : (2 : Int) ≤ cf := by omega
  go_wp2_with fail
  refine (HLI.out W4 hb4).mono ?_
  rintro e w' ⟨rfl, y5, rfl⟩
  have hb5 := y5.below hb4 hb4.size
  generalize y5.val = W5 at *
  clear qx0 qx1
  generalize lightB (bitsL ls ns [(i : Int), (j : Int)]) = lb at *
  cases lb
  case false =>
    go_wp2
    go_ret
    exact ⟨rfl, Below.aft (hb2.trans (hb5.mono hb2.size))⟩
  have k1 : ∀ z : Aft W5, z.val.cell? ⟨w.heap.size, 1, none⟩ = some (.slice (some af) ((i : Int) :: (j : Int) :: rest).length cf) := fun z => (HX.out _ (z.below hb5 hb5.size)).2
  have k2 : ∀ z : Aft W5, z.val.cell? af = some (.int .i64 i) := fun z => (HTW.out _ (z.below hb5 hb5.size)).2.1
  have k3 : ∀ z : Aft W5, z.val.cell? ⟨af.block, af.off + 1, none⟩ = some (.int .i64 j) := fun z => (HTW.out _ (z.below hb5 hb5.size)).2.2
  go_upto_region 5 with (fail)
  refine wp_region_aft (by kernel_rfl) (by kernel_rfl) ?_
  repeat (go_big_quiet_step (fail))
  refine wpQuiet_nil ?_
  intro z6
  have hb6 := z6.below hb5 hb5.size
  clear k1 k2 k3 hb4 hb5
  generalize z6.val = W6 at *
  go_wp2_with fail
  refine (HCN.out W6 hb6).mono ?_
  rintro e W7 ⟨N7, n7, rfl, hc7, hl7, hs7⟩
  have hb7 := hb6.trans (hs7.mono hb6.size)
  clear hb6
  go_wp2_with fail
  have r8 : (W7.alloc (.cells #[.int .i64 (i : Int)] 3)).heap[W7.heap.size]? = some (.cells #[.int .i64 (i : Int)] 3) := heap_alloc_new _ _
  have hs8 : Below W7.heap.size W7 (W7.alloc (.cells #[.int .i64 (i : Int)] 3)) := (Below.refl _ _).alloc (Nat.le_refl _) _
  generalize (W7.alloc (.cells #[.int .i64 (i : Int)] 3)) = W8 at *
  have hb8 := hb7.trans (hs8.mono hb7.size)
  refine (HLO.out W8 hb8 N7 n7 (some ⟨W7.heap.size, 0, none⟩) 1 (hl7.below hs8) hc7 (LiesI.block (ns := [(i : Int)]) r8)).mono ?_
  rintro e W9 ⟨v9, rfl, hv9, hs9⟩
  have hb9 := hb8.trans (hs9.mono hb8.size)
  obtain ⟨A9, c9, e9, hl9⟩ := hv9.good
  subst e9
  clear hv9 hl7 hc7 r8 hs7 hs8 hs9 hb7 hb8
  go_upto_region 7 with (fail)
  refine wp_region_fx (fun q : (Option Addr × Nat) × Value => [(85, .slice A ls.length cap), (86, .slice N ns.length capN), (87, .slice q.1.1 ns.length q.1.2), (88, .pointer (some ⟨w.heap.size, 0, none⟩)), (89, .slice V vs.length cv), (90, .tuple #[q.2, .int .i64 0]), (84, .tuple #[q.2, .int .i64 0]), (91, q.2), (92, .int .i64 0), (11, q.2), (12, .int .i64 0)]) (fun (b : List Bool) (q : (Option Addr × Nat) × Value) (W : World) => C2 W9 ns (RowV 0 (valsL ns vs)) (bt b 2) (bt b 5) q W) (by kernel_rfl) (by kernel_rfl) ⟨((none, 0), undef), ⟨(Below.refl _ _).drew, fun h => absurd h (by decide), fun h => absurd h (by decide)⟩⟩ [85, 86, 87, 88, 89, 90, 84, 91, 92, 11, 12] (fun _ => rfl) (by kernel_rfl) (by decide) ⟨217, rfl, by decide⟩ ?hs ?hq
  case hs =>
    intro i
    match i with
    | 0 =>
      intro o ho b q W Zx hC hb hun hall hcl hon hoff hels K hK
      simp only [List.getElem?_cons_succ, List.getElem?_cons_zero, Option.some.injEq] at ho
      subst ho
      have hb : b.length = 11 := hb
      have e0 : Zx.tmps[0]?.getD undef = .slice A ls.length cap := ev_tmp ((hels 0 (by decide)).trans rfl)
      have HC := Lib.hid (show (fun (b : List Bool) (q : (Option Addr × Nat) × Value) (W : World) => C2 W9 ns (RowV 0 (valsL ns vs)) (bt b 2) (bt b 5) q W) (b.set 0 true) q W from (by show C2 _ _ _ _ _ _ _; rw [bt_ne (i := 0) (by decide), bt_ne (i := 0) (by decide)]; exact hC))
      clear hC
      go_simp
      exact hK 85 _ q _ HC.out rfl (fun _ _ => rfl)
    | 1 =>
      intro o ho b q W Zx hC hb hun hall hcl hon hoff hels K hK
      simp only [List.getElem?_cons_succ, List.getElem?_cons_zero, Option.some.injEq] at ho
      subst ho
      have hb : b.length = 11 := hb
      have e0 : Zx.tmps[1]?.getD undef = .slice N ns.length capN := ev_tmp ((hels 1 (by decide)).trans rfl)
      have HC := Lib.hid (show (fun (b : List Bool) (q : (Option Addr × Nat) × Value) (W : World) => C2 W9 ns (RowV 0 (valsL ns vs)) (bt b 2) (bt b 5) q W) (b.set 1 true) q W from (by show C2 _ _ _ _ _ _ _; rw [bt_ne (i := 1) (by decide), bt_ne (i := 1) (by decide)]; exact hC))
      clear hC
      go_simp
      exact hK 86 _ q _ HC.out rfl (fun _ _ => rfl)
    | 2 =>
      intro o ho b q W Zx hC hb hun hall hcl hon hoff hels K hK
      simp only [List.getElem?_cons_succ, List.getElem?_cons_zero, Option.some.injEq] at ho
      subst ho
      have hb : b.length = 11 := hb
      have e0 : Zx.tmps[86]?.getD undef = .slice N ns.length capN := ev_tmp (hon 1 86 _ (hall ⟨1, .data⟩ (by simp) rfl) rfl)
      have hbel := hC.bel
      go_simp
      refine (HCN.out W (hb9.trans (hbel.mono hb9.size))).mono ?_
      rintro e w' ⟨A', c', rfl, hc, hl, hb'⟩
      have HC := Lib.hid (show C2 W9 ns (RowV 0 (valsL ns vs)) (bt (b.set 2 true) 2) (bt (b.set 2 true) 5) ((A', c'), q.2) w' from by
        rw [bt_eq hun, bt_ne (i := 2) (j := 5) (by decide)]
        exact hC.s2 (fun _ _ _ h hb => RowV.below h hb) hl hc hb')
      clear hC
      refine hK 87 _ ((A', c'), q.2) _ HC.out rfl ?_
      intro k' hk'
      match k', hk' with
      | 0, _ => rfl
      | 1, _ => rfl
      | 2, hk' => rw [hun] at hk'; cases hk'
      | 3, _ => rfl
      | 4, _ => rfl
      | 5, _ => rfl
      | 6, _ => rfl
      | 7, _ => rfl
      | 8, _ => rfl
      | 9, _ => rfl
      | 10, _ => rfl
      | t + 11, hk' => rfl
    | 3 =>
      intro o ho b q W Zx hC hb hun hall hcl hon hoff hels K hK
      simp only [List.getElem?_cons_succ, List.getElem?_cons_zero, Option.some.injEq] at ho
      subst ho
      have hb : b.length = 11 := hb
      have e0 : Zx.tmps[5]?.getD undef = .pointer (some ⟨w.heap.size, 0, none⟩) := ev_tmp ((hels 5 (by decide)).trans rfl)
      have HC := Lib.hid (show (fun (b : List Bool) (q : (Option Addr × Nat) × Value) (W : World) => C2 W9 ns (RowV 0 (valsL ns vs)) (bt b 2) (bt b 5) q W) (b.set 3 true) q W from (by show C2 _ _ _ _ _ _ _; rw [bt_ne (i := 3) (by decide), bt_ne (i := 3) (by decide)]; exact hC))
      clear hC
      go_simp
      exact hK 88 _ q _ HC.out rfl (fun _ _ => rfl)
    | 4 =>
      intro o ho b q W Zx hC hb hun hall hcl hon hoff hels K hK
      simp only [List.getElem?_cons_succ, List.getElem?_cons_zero, Option.some.injEq] at ho
      subst ho
      have hb : b.length = 11 := hb
      have e0 : Zx.tmps[88]?.getD undef = .pointer (some ⟨w.heap.size, 0, none⟩) := ev_tmp (hon 3 88 _ (hall ⟨3, .data⟩ (by simp) rfl) rfl)
      have HC := Lib.hid (show (fun (b : List Bool) (q : (Option Addr × Nat) × Value) (W : World) => C2 W9 ns (RowV 0 (valsL ns vs)) (bt b 2) (bt b 5) q W) (b.set 4 true) q W from (by show C2 _ _ _ _ _ _ _; rw [bt_ne (i := 4) (by decide), bt_ne (i := 4) (by decide)]; exact hC))
      clear hC
      have hcl4 := (HX.out W (hb9.trans (HC.out.bel.mono hb9.size))).1
      go_simp
      exact hK 89 _ q _ HC.out rfl (fun _ _ => rfl)
    | 5 =>
      intro o ho b q W Zx hC hb hun hall hcl hon hoff hels K hK
      simp only [List.getElem?_cons_succ, List.getElem?_cons_zero, Option.some.injEq] at ho
      subst ho
      have hb : b.length = 11 := hb
      have e0 : Zx.tmps[85]?.getD undef = .slice A ls.length cap := ev_tmp (hon 0 85 _ (hall ⟨0, .data⟩ (by simp) rfl) rfl)
      have e1 : Zx.tmps[87]?.getD undef = .slice q.1.1 ns.length q.1.2 := ev_tmp (hon 2 87 _ (hall ⟨2, .data⟩ (by simp) rfl) rfl)
      have e2 : Zx.tmps[89]?.getD undef = .slice V vs.length cv := ev_tmp (hon 4 89 _ (hall ⟨4, .data⟩ (by simp) rfl) rfl)
      have hn6 := not_yet (j := 6) (by omega) hcl rfl ⟨5, .data⟩ (by simp) rfl rfl hun
      have hn7 := not_yet (j := 7) (by omega) hcl rfl ⟨6, .data⟩ (by simp) rfl rfl hn6
      have hn9 := not_yet (j := 9) (by omega) hcl rfl ⟨7, .data⟩ (by simp) rfl rfl hn7
      have hbv := hb9.trans (hC.bel.mono hb9.size)
      have HFF := HVO.out vs HFV.out W hbv q.1.1 q.1.2 V cv (hC.l2 (bt_of (hall ⟨2, .data⟩ (by simp) rfl))).1 (hC.l2 (bt_of (hall ⟨2, .data⟩ (by simp) rfl))).2 (HVL.out W hbv)
      have hbel := hC.bel
      go_simp
      refine HFF.mono ?_
      rintro e w' ⟨v', rfl, hv', hb'⟩
      have HC := Lib.hid (show C2 W9 ns (RowV 0 (valsL ns vs)) (bt (b.set 5 true) 2) (bt (b.set 5 true) 5) (q.1, v') w' from by
        rw [bt_ne (i := 5) (j := 2) (by decide), bt_eq hun]
        exact hC.s5 hv' hb')
      clear hC
      refine hK 90 _ (q.1, v') _ HC.out rfl ?_
      intro k' hk'
      match k', hk' with
      | 0, _ => rfl
      | 1, _ => rfl
      | 2, _ => rfl
      | 3, _ => rfl
      | 4, _ => rfl
      | 5, hk' => rw [hun] at hk'; cases hk'
      | 6, hk' => rw [hn6] at hk'; cases hk'
      | 7, hk' => rw [hn7] at hk'; cases hk'
      | 8, _ => rfl
      | 9, hk' => rw [hn9] at hk'; cases hk'
      | 10, _ => rfl
      | t + 11, hk' => rfl
    | 6 =>
      intro o ho b q W Zx hC hb hun hall hcl hon hoff hels K hK
      simp only [List.getElem?_cons_succ, List.getElem?_cons_zero, Option.some.injEq] at ho
      subst ho
      have hb : b.length = 11 := hb
      have e0 : Zx.tmps[90]?.getD undef = .tuple #[q.2, .int .i64 0] := ev_tmp (hon 5 90 _ (hall ⟨5, .data⟩ (by simp) rfl) rfl)
      have HC := Lib.hid (show (fun (b : List Bool) (q : (Option Addr × Nat) × Value) (W : World) => C2 W9 ns (RowV 0 (valsL ns vs)) (bt b 2) (bt b 5) q W) (b.set 6 true) q W from (by show C2 _ _ _ _ _ _ _; rw [bt_ne (i := 6) (by decide), bt_ne (i := 6) (by decide)]; exact hC))
      clear hC
      go_simp
      exact hK 84 _ q _ HC.out rfl (fun _ _ => rfl)
    | 7 =>
      intro o ho b q W Zx hC hb hun hall hcl hon hoff hels K hK
      simp only [List.getElem?_cons_succ, List.getElem?_cons_zero, Option.some.injEq] at ho
      subst ho
      have hb : b.length = 11 := hb
      have e0 : Zx.tmps[84]?.getD undef = .tuple #[q.2, .int .i64 0] := ev_tmp (hon 6 84 _ (hall ⟨6, .data⟩ (by simp) rfl) rfl)
      have HC := Lib.hid (show (fun (b : List Bool) (q : (Option Addr × Nat) × Value) (W : World) => C2 W9 ns (RowV 0 (valsL ns vs)) (bt b 2) (bt b 5) q W) (b.set 7 true) q W from (by show C2 _ _ _ _ _ _ _; rw [bt_ne (i := 7) (by decide), bt_ne (i := 7) (by decide)]; exact hC))
      clear hC
      go_simp
      exact hK 91 _ q _ HC.out rfl (fun _ _ => rfl)
    | 8 =>
      intro o ho b q W Zx hC hb hun hall hcl hon hoff hels K hK
      simp only [List.getElem?_cons_succ, List.getElem?_cons_zero, Option.some.injEq] at ho
      subst ho
      have hb : b.length = 11 := hb
      have e0 : Zx.tmps[84]?.getD undef = .tuple #[q.2, .int .i64 0] := ev_tmp (hon 6 84 _ (hall ⟨6, .data⟩ (by simp) rfl) rfl)
      have HC := Lib.hid (show (fun (b : List Bool) (q : (Option Addr × Nat) × Value) (W : World) => C2 W9 ns (RowV 0 (valsL ns vs)) (bt b 2) (bt b 5) q W) (b.set 8 true) q W from (by show C2 _ _ _ _ _ _ _; rw [bt_ne (i := 8) (by decide), bt_ne (i := 8) (by decide)]; exact hC))
      clear hC
      go_simp
      exact hK 92 _ q _ HC.out rfl (fun _ _ => rfl)
    | 9 =>
      intro o ho b q W Zx hC hb hun hall hcl hon hoff hels K hK
      simp only [List.getElem?_cons_succ, List.getElem?_cons_zero, Option.some.injEq] at ho
      subst ho
      have hb : b.length = 11 := hb
      have e0 : Zx.tmps[91]?.getD undef = q.2 := ev_tmp (hon 7 91 _ (hall ⟨7, .data⟩ (by simp) rfl) rfl)
      have HC := Lib.hid (show (fun (b : List Bool) (q : (Option Addr × Nat) × Value) (W : World) => C2 W9 ns (RowV 0 (valsL ns vs)) (bt b 2) (bt b 5) q W) (b.set 9 true) q W from (by show C2 _ _ _ _ _ _ _; rw [bt_ne (i := 9) (by decide), bt_ne (i := 9) (by decide)]; exact hC))
      clear hC
      go_simp
      exact hK 11 _ q _ HC.out rfl (fun _ _ => rfl)
    | 10 =>
      intro o ho b q W Zx hC hb hun hall hcl hon hoff hels K hK
      simp only [List.getElem?_cons_succ, List.getElem?_cons_zero, Option.some.injEq] at ho
      subst ho
      have hb : b.length = 11 := hb
      have e0 : Zx.tmps[92]?.getD undef = .int .i64 0 := ev_tmp (hon 8 92 _ (hall ⟨8, .data⟩ (by simp) rfl) rfl)
      have HC := Lib.hid (show (fun (b : List Bool) (q : (Option Addr × Nat) × Value) (W : World) => C2 W9 ns (RowV 0 (valsL ns vs)) (bt b 2) (bt b 5) q W) (b.set 10 true) q W from (by show C2 _ _ _ _ _ _ _; rw [bt_ne (i := 10) (by decide), bt_ne (i := 10) (by decide)]; exact hC))
      clear hC
      go_simp
      exact hK 12 _ q _ HC.out rfl (fun _ _ => rfl)
    | t + 11 =>
      intro o ho
      simp at ho
  case hq =>
    intro q W hC
    have hF : C2 W9 ns (RowV 0 (valsL ns vs)) true true q W := hC
    have hs10 := hF.bel
    have hv10 := hF.l5 rfl
    have hb10 := hb9.trans (hs10.mono hb9.size)
    clear hC hF
    simp only [zp, List.length_cons, List.length_nil, List.replicate, List.zip_cons_cons, List.zip_nil_right, frm, if_true]
    obtain ⟨⟨a1, a2⟩, v10⟩ := q
    simp only at hv10
    go_simp
    rename World => W10
    have hl9 := hl9.below hs10
    obtain ⟨A10, c10, e10, hl10⟩ := hv10.good
    rw [HLN.out] at e10
    subst e10
    clear hv10 hs10 hb9
    obtain ⟨qx0, qx1⟩ := HX.out W10 hb10
    go_wp2_with fail
    refine (HCV.out W10 hb10).mono ?_
    rintro e W11 ⟨v13, rfl, ho11, hs11⟩
    clear qx0 qx1
    rw [HVLN.out] at ho11
    generalize hll : lbL ns [(i : Int)] ls.length = ll at *
    have HST := Lib.hid ho11
    have HS11 := Lib.hid hs11
    clear ho11 hs11
    go_wp2_with fail
    go_loopw [14] (fun v14 wr => ∃ k : Nat, k ≤ ls.length ∧ v14 = .int .i64 k ∧ wr.ownsRow W10.heap.size 3 1 v13 ls.length ((othK ls vs ll k).map (Value.int .i64)) ∧ Below W10.heap.size W10 wr) (fun v14 _ => ls.length - (intOf v14).toNat)
    case atStart => exact ⟨0, by omega, rfl, HST.out, HS11.out⟩
    case round =>
      clear HST HS11
      obtain ⟨k, hk, rfl, ho, hbk⟩ := hrel
      by_cases hlt : k < ls.length
      · have hkk : (k : Int) < ls.length := by omega
        have HY := Lib.hid (List.getElem?_eq_getElem hlt)
        have hiw := isW_iff.1 (HWI.out _ (List.getElem_mem hlt))
        have hkv : k < vs.length := by have := HVLN.out; omega
        have HU := Lib.hid (List.getElem?_eq_getElem (l := vs) (i := k) hkv)
        have hxf := HFV.out.2 k _ _ HU.out HY.out
        have HOS : Hid (hasB ll k = false → othK ls vs ll (k + 1) = (othK ls vs ll k).set k (pw ls[k] - 1 - vs[k])) := Lib.hid (fun h => by simp only [othK, h]; simp [List.getD, HY.out, HU.out])
        have HOT : Hid (hasB ll k = true → othK ls vs ll (k + 1) = othK ls vs ll k) := Lib.hid (fun h => by simp only [othK, h, if_true])
        have HOX := Lib.hid ((othK_hi (ls := ls) (us := vs) (l := ll) k k (Nat.le_refl _)).trans HU.out)
        generalize ls[k] = u at *
        generalize vs[k] = x at *
        obtain ⟨u1, u2⟩ := hiw
        have hpu := pw_bd (n := u) (by omega) u2
        obtain ⟨aa, rfl, hal, c1⟩ := (HAL.out W10 hb10).cell HY.out
        obtain ⟨g, c13, rfl, hg⟩ := row_form ho (by omega)
        have HLL := Lib.hid (hl9.below hbk)
        have HO := Lib.hid ho
        have HBK := Lib.hid hbk
        clear ho hbk
        go_wp2_with fail
        refine (HHA.out wr A9 c9 k HLL.out).mono ?_
        rintro e w' ⟨rfl, rfl⟩
        cases hh : hasB ll k with
        | true =>
          have HF := Lib.hid (HOT.out hh)
          clear hh
          go_wp2
          go_roundw
          case rel => exact ⟨k + 1, by omega, by go_num, by rw [HF.out]; exact HO.out, HBK.out⟩
          case measure => simp [intOf]; omega
        | false =>
          have HF := Lib.hid (HOS.out hh)
          clear hh
          obtain ⟨x0, x1⟩ := hxf
          obtain ⟨p0, p1⟩ := hpu
          have HPW := Lib.hid (fun (W : World) => Power_c u (by omega) (by omega) W)
          generalize pw u = P at *
          have s1 : ∀ z : Aft wr, z.val.cell? (aa.add k) = some (.int .i64 u) := fun z => ((z.below HBK.out HBK.out.size).cell (p := aa.add k) (by rw [addB]; exact hal)).trans c1
          have s2 : ∀ z : Aft wr, z.val.cell? ⟨g, k, none⟩ = some (.int .i64 x) := fun z => by
            rw [(own_below HO.out z.pf).cellAt k (by omega), List.getElem?_map, HOX.out]; rfl
          have lg := (HO.out.lt g rfl).2
          go_upto_region 15 with (fail)
          refine wp_region_aft_tail 14 (by kernel_rfl) (by kernel_rfl) ?_
          simp only [List.take_succ_cons, List.take_zero, List.drop_succ_cons, List.drop_zero]
          repeat (go_big_quiet_step ((go_at_call 41; exact Calls.qs (HPW.out _))))
          refine wpQuiet_nil ?_
          intro y
          have t2 := s2 y
          have hoy := own_below HO.out y.pf
          have fz := hoy.frozenAt k
          have hst := (hoy.stored k (.int .i64 (P - 1 - x))).1
          have HFIN := Lib.hid (show (y.val.setCell ⟨g, k, none⟩ (.int .i64 (P - 1 - x))).ownsRow W10.heap.size 3 1 (.slice (some ⟨g, 0, none⟩) ls.length c13) ls.length ((othK ls vs ll (k + 1)).map (Value.int .i64)) from by rw [HF.out, List.map_set]; exact hst)
          have HBF := Lib.hid (show Below W10.heap.size W10 (y.val.setCell ⟨g, k, none⟩ (.int .i64 (P - 1 - x))) from (y.below HBK.out HBK.out.size).setCell hg _)
          clear hst hoy s1 s2
          generalize y.val = W12 at *
          go_wp2
          go_roundw
          case rel => exact ⟨k + 1, by omega, by go_num, HFIN.out, HBF.out⟩
          case measure => simp [intOf]; omega
      · obtain rfl : k = ls.length := by omega
        have hol : (othK ls vs ll ls.length).length = ls.length := by rw [othK_len]; exact HVLN.out
        have hb12 := hb10.trans (hbk.mono hb10.size)
        have ho2 : wr.ownsRow W10.heap.size 3 1 v13 (othK ls vs ll ls.length).length ((othK ls vs ll ls.length).map (Value.int .i64)) := by rw [hol]; exact ho
        obtain ⟨A13, c13, e13, hl13⟩ := lies_form ho2
        rw [hol] at e13
        subst e13
        have HOL := Lib.hid hol
        clear hol
        have hl10 := hl10.below hbk
        clear ho ho2 hbk hl9
        rename World => W12
        go_wp2_with fail
        refine (HCN.out W12 hb12).mono ?_
        rintro e W14 ⟨N14, n14, rfl, hc14, hl14, hs14⟩
        have hb14 := hb12.trans (hs14.mono hb12.size)
        go_wp2_with fail
        have HVX := HVO.out _ (HOF.out ls.length (Nat.le_refl _)) W14 hb14 N14 n14 A13 c13 hl14 hc14 (hl13.below hs14)
        rw [HOL.out] at HVX
        refine HVX.mono ?_
        clear HVX
        rintro e W15 ⟨v15, rfl, hv15, hs15⟩
        have hb15 := hb14.trans (hs15.mono hb14.size)
        obtain ⟨A15, c15, e15, hl15⟩ := hv15.good
        rw [HLN.out] at e15
        subst e15
        have hl10 := (hl10.below hs14).below hs15
        clear hv15 hl14 hc14 hl13 hs14 hs15 hb12 hb14
        obtain ⟨a10, rfl, h10l, h10c⟩ := hl10 (by rw [HLN.out]; omega)
        obtain ⟨a15, rfl, h15l, h15c⟩ := hl15 (by rw [HLN.out]; omega)
        have e10i := h10c i _ HVI.out
        have e10j := h10c j _ HVJ.out
        have e15i := h15c i _ (HSA.out.symm.trans HVI.out)
        have k1 : ∀ z : Aft W15, z.val.cell? (a10.add i) = some (.int .i64 xi) := fun z => (z.pf.cell (p := a10.add i) (by rw [addB]; exact h10l)).trans e10i
        have k2 : ∀ z : Aft W15, z.val.cell? (a15.add i) = some (.int .i64 xi) := fun z => (z.pf.cell (p := a15.add i) (by rw [addB]; exact h15l)).trans e15i
        go_upto_region 17 with (fail)
        refine wp_region_aft (by kernel_rfl) (by kernel_rfl) ?_
        repeat (go_big_quiet_step (fail))
        refine wpQuiet_nil ?_
        intro z16
        have hb16 := z16.below hb15 hb15.size
        have g1 : ∀ W : World, Below z16.val.heap.size z16.val W → W.cell? (a10.add i) = some (.int .i64 xi) := fun W hb => (hb.cell (p := a10.add i) (by rw [addB]; exact z16.lt' h10l)).trans (k1 z16)
        have g2 : ∀ W : World, Below z16.val.heap.size z16.val W → W.cell? (a10.add j) = some (.int .i64 xj) := fun W hb => (hb.cell (p := a10.add j) (by rw [addB]; exact z16.lt' h10l)).trans ((z16.pf.cell (p := a10.add j) (by rw [addB]; exact h10l)).trans e10j)
        have G1 := Lib.hid g1
        have G2 := Lib.hid g2
        clear k1 k2 e10i e10j e15i g1 g2 hb15 h10c h15c h15l hl15
        generalize z16.val = W16 at *
        go_wp2_with fail
        refine (HCN.out W16 hb16).mono ?_
        rintro e W17 ⟨N17, n17, rfl, hc17, hl17, hs17⟩
        have hb17 := hb16.trans (hs17.mono hb16.size)
        go_wp2_with fail
        refine (HDF.out W17 hb17 N17 n17 hl17 hc17).mono ?_
        rintro e W18 ⟨⟨k, A18, c18, hdk, rfl, hl18⟩ | ⟨heq, rfl⟩ | rfl | rfl, hs18⟩
        · have hb18 := hb17.trans (hs18.mono hb17.size)
          go_wp2_with fail
          refine (HCN.out W18 hb18).mono ?_
          rintro e W19 ⟨N19, n19, rfl, hc19, hl19, hs19⟩
          have hb19 := hb18.trans (hs19.mono hb18.size)
          go_wp2_with fail
          have HVX := HVO.out _ (HTF.out k) W19 hb19 N19 n19 A18 c18 hl19 hc19 (hl18.below hs19)
          rw [triV_len] at HVX
          refine HVX.mono ?_
          clear HVX
          rintro e W20 ⟨v20, rfl, hv20, hs20⟩
          have hb20 := hb19.trans (hs20.mono hb19.size)
          obtain ⟨A20, c20, e20, hl20⟩ := hv20.good
          rw [HLN.out] at e20
          subst e20
          clear hv20 hl19 hc19 hl18
          obtain ⟨yi, yj, hyi, hyj, hne⟩ := HDV.out k hdk
          obtain ⟨a20, rfl, h20l, h20c⟩ := hl20 (by rw [HLN.out]; omega)
          have e20i := h20c i _ hyi
          have e20j := h20c j _ hyj
          have n1 : (yi != yj) = true := by simpa using hne
          have n2 : (yi == yj) = false := by simpa using hne
          have k1 : ∀ z : Aft W20, z.val.cell? (a20.add i) = some (.int .i64 yi) := fun z => (z.pf.cell (p := a20.add i) (by rw [addB]; exact h20l)).trans e20i
          have k2 : ∀ z : Aft W20, z.val.cell? (a20.add j) = some (.int .i64 yj) := fun z => (z.pf.cell (p := a20.add j) (by rw [addB]; exact h20l)).trans e20j
          clear hyi hyj hne hdk h20c e20i e20j hl20
          go_upto_region 25 with (fail)
          refine wp_region_aft (by kernel_rfl) (by kernel_rfl) ?_
          repeat (go_big_quiet_step (fail))
          refine wpQuiet_nil ?_
          intro z21
          have hb21 := z21.below hb20 hb20.size
          go_wp2
          go_ret
          exact ⟨rfl, Below.aft (hb2.trans (hb21.mono hb2.size))⟩
        · have hb18 := hb17.trans (hs18.mono hb17.size)
          have hxx : xi = xj := by have h1 := HVI.out; have h2 := HVJ.out; rw [h1, h2] at heq; exact Option.some.inj heq
          subst hxx
          clear heq
          have k1 : ∀ z : Aft W18, z.val.cell? (a10.add i) = some (.int .i64 xi) := fun z => G1.out _ (z.below (hs17.trans (hs18.mono hs17.size)) (hs17.trans (hs18.mono hs17.size)).size)
          have k2 : ∀ z : Aft W18, z.val.cell? (a10.add j) = some (.int .i64 xi) := fun z => G2.out _ (z.below (hs17.trans (hs18.mono hs17.size)) (hs17.trans (hs18.mono hs17.size)).size)
          go_upto_region 21 with (fail)
          refine wp_region_aft (by kernel_rfl) (by kernel_rfl) ?_
          repeat (go_big_quiet_step (fail))
          refine wpQuiet_nil ?_
          intro z19
          have hb19 := z19.below hb18 hb18.size
          go_wp2
          go_ret
          exact ⟨by simp, Below.aft (hb2.trans (hb19.mono hb2.size))⟩
        · have hb18 := hb17.trans (hs18.mono hb17.size)
          go_wp2
          go_ret
          exact ⟨rfl, Below.aft (hb2.trans (hb18.mono hb2.size))⟩
        · have hb18 := hb17.trans (hs18.mono hb17.size)
          go_wp2
          go_ret
          exact ⟨rfl, Below.aft (hb2.trans (hb18.mono hb2.size))⟩

end Go.Proofs.YtkdonapgonegkaaDoor
