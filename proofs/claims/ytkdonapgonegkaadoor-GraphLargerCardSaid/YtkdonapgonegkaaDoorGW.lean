/-
  The law GraphLarger of chapter 2 (graph).
-/
import Derived.Test.YtkdonapgonegkaaDoorGY
import Derived.Test.YtkdonapgonegkaaDoorGP
import Derived.Deep.DeepCutAuto
import Derived.Deep.RegionWith
set_option linter.unusedSimpArgs false
set_option linter.unusedVariables false
namespace Go.Proofs.YtkdonapgonegkaaDoor
open Go.RowKit Go.BigFrame

/-- What a call gives back: nodes, or an error and none. -/
def NodesV (er : Int) (T : List Nd) (v : Value) (w' : World) : Prop := er ≠ 0 ∧ v = .slice none 0 0 ∨ er = 0 ∧ ∃ A' c, v = .slice A' T.length c ∧ LiesN w' A' T
def AppV (er : Int) (cs : List Nd) (ps : List Int) (v m : Value) (w' : World) : Prop := er ≠ 0 ∧ v = .slice none 0 0 ∧ m = .slice none 0 0 ∨ er = 0 ∧ ∃ A c B c2, v = .slice A cs.length c ∧ m = .slice B ps.length c2 ∧ LiesN w' A cs ∧ LiesI w' B ps
theorem NodesE.v {w w' : World} {er : Int} {T : List Nd} {e : Ending} (h : NodesE w er T e w') : ∃ v, e = .returned (.tuple #[v, .int .i64 er]) ∧ NodesV er T v w' ∧ Below w.heap.size w w' := by
  obtain ⟨⟨h1, rfl⟩ | ⟨rfl, A', c, rfl, hl⟩, hb⟩ := h
  · exact ⟨_, rfl, .inl ⟨h1, rfl⟩, hb⟩
  · exact ⟨_, rfl, .inr ⟨rfl, A', c, rfl, hl⟩, hb⟩
theorem AppE.v {w w' : World} {er : Int} {cs : List Nd} {ps : List Int} {e : Ending} (h : AppE w er cs ps e w') : ∃ v m, e = .returned (.tuple #[v, m, .int .i64 er]) ∧ AppV er cs ps v m w' ∧ Below w.heap.size w w' := by
  obtain ⟨⟨h1, rfl⟩ | ⟨rfl, A, c, B, c2, rfl, hl, hl2⟩, hb⟩ := h
  · exact ⟨_, _, rfl, .inl ⟨h1, rfl, rfl⟩, hb⟩
  · exact ⟨_, _, rfl, .inr ⟨rfl, A, c, B, c2, rfl, rfl, hl, hl2⟩, hb⟩
theorem NodesV.below {W W' : World} {er : Int} {T : List Nd} {v : Value} (h : NodesV er T v W) (hb : Below W.heap.size W W') : NodesV er T v W' := by
  rcases h with h | ⟨h1, A', c, h2, hl⟩
  · exact .inl h
  · exact .inr ⟨h1, A', c, h2, hl.below hb⟩
theorem NodesV.nil {W : World} {er : Int} {T : List Nd} {v : Value} (h : NodesV er T v W) (he : er ≠ 0) : v = .slice none 0 0 := by
  rcases h with ⟨_, h⟩ | ⟨h, _⟩
  · exact h
  · exact absurd h he
theorem NodesV.good {W : World} {T : List Nd} {v : Value} (h : NodesV 0 T v W) : ∃ A' c, v = .slice A' T.length c ∧ LiesN W A' T := by
  rcases h with ⟨h, _⟩ | ⟨_, h⟩
  · exact absurd rfl h
  · exact h
theorem isV_fits (v wd : Int) : isV v wd = fits v wd := rfl
theorem subN_args {l x : Int} {ns : List Nd} {m : Nat} (h : ∀ n ∈ ns, n.args.length ≤ m) : ∀ n ∈ subN l x ns, n.args.length ≤ m := by
  intro n hn
  obtain ⟨y, hy, rfl⟩ := List.mem_map.1 hn
  split
  · simp
  · exact h y hy
theorem apN_args {a b : List Nd} {m : Nat} (ha : ∀ n ∈ a, n.args.length ≤ m) (hb : ∀ n ∈ b, n.args.length ≤ m) : ∀ n ∈ apN a b, n.args.length ≤ m := by
  intro n hn
  rcases List.mem_append.1 hn with hn | hn
  · exact ha n hn
  · obtain ⟨y, hy, rfl⟩ := List.mem_map.1 hn
    simpa [mvN] using hb y hy
theorem apE_thenE {ls : List Int} {a b : List Nd} : (thenE (chk ls a).2 (chk ls b).2 ≠ 0 → apE ls a b = thenE (chk ls a).2 (chk ls b).2) ∧
    (thenE (chk ls a).2 (chk ls b).2 = 0 → apE ls a b = eIf (decide (400 < (a.length : Int) + b.length)) 8) := by
  unfold apE
  rw [firstE_cons, firstE_cons, firstE_one]
  unfold thenE
  by_cases h1 : (chk ls a).2 = 0
  · rw [if_pos h1, if_pos h1]
    by_cases h2 : (chk ls b).2 = 0
    · exact ⟨fun h => absurd h2 h, fun _ => by rw [if_pos h2]⟩
    · exact ⟨fun _ => by rw [if_neg h2], fun h => absurd h h2⟩
  · rw [if_neg h1, if_neg h1]
    exact ⟨fun _ => rfl, fun h => absurd h h1⟩
theorem subE_out {ls : List Int} {a : List Nd} {l x : Int} (h : (chk ls a).2 ≠ 0) : subE ls a l x = (chk ls a).2 := if_neg h
theorem subE_in {ls : List Int} {a : List Nd} {l x : Int} (h : (chk ls a).2 = 0) : subE ls a l x = if isIx l ls.length = true then eIf (!isV x (ls.getD l.toNat 0)) 2 else 6 := if_pos h

set_option maxRecDepth 100000 in
set_option maxHeartbeats 6400000 in
theorem GraphLarger_main (A : Option Addr) (cap : Nat) (ls : List Int) (N : Option Addr) (capN : Nat) (a : List Nd) (M : Option Addr) (capM : Nat) (b : List Nd) (x0 x1 : Int) (w : World) (hA : LiesI w A ls) (hA0 : ls.length = 0 → A = none ∧ cap = 0 ∨ ∃ ad, A = some ad) (hN : LiesG w N a) (hM : LiesG w M b) (ht : TabOps w) :
    Calls Tryd.prog 5 #[.slice A ls.length cap, .agg #[.slice N a.length capN, .slice M b.length capM], .agg #[.int .i64 x0, .int .i64 x1]] w fun e w' => e = .returned (.bool true) ∧ ∃ x : Aft w, w' = x.val := by
  have HAW := Lib.hid (fun (W : World) (hb : Below w.heap.size w W) => awake_c W (ht.below hb))
  have HFA := Lib.hid (fun (W : World) (hb : Below w.heap.size w W) => few_c A cap ls N capN a W (hN.n.below hb))
  have HFB := Lib.hid (fun (W : World) (hb : Below w.heap.size w W) => few_c A cap ls M capM b W (hM.n.below hb))
  cases hfa : fewB ls a
  · rw [hfa] at HFA
    clear hfa hA hA0 hN hM ht
    go_enter Tryd.func5, Tryd.ntmps5
    go_upto_region 1 with (fail)
    have hb0 : Below w.heap.size w ((w.alloc (.cells #[.slice N a.length capN, .slice M b.length capM] 47)).alloc (.cells #[.int .i64 x0, .int .i64 x1] 48)) := ((Below.refl _ _).alloc (Nat.le_refl _) _).alloc (by simp) _
    have rP : ((w.alloc (.cells #[.slice N a.length capN, .slice M b.length capM] 47)).alloc (.cells #[.int .i64 x0, .int .i64 x1] 48)).heap[w.heap.size]? = some (.cells #[.slice N a.length capN, .slice M b.length capM] 47) := heap_alloc' (by simp) (heap_alloc_new _ _)
    have rX : ((w.alloc (.cells #[.slice N a.length capN, .slice M b.length capM] 47)).alloc (.cells #[.int .i64 x0, .int .i64 x1] 48)).heap[w.heap.size + 1]? = some (.cells #[.int .i64 x0, .int .i64 x1] 48) := heap_alloc_at (by simp)
    generalize ((w.alloc (.cells #[.slice N a.length capN, .slice M b.length capM] 47)).alloc (.cells #[.int .i64 x0, .int .i64 x1] 48)) = W0 at *
    have pa : ∀ z : Aft W0, z.val.cell? ⟨w.heap.size, 0, none⟩ = some (.slice N a.length capN) := fun z => by
      have := cell_block (i := 0) (heap_aft z (lt_of_get rP) rP); simpa using this
    have pb : ∀ z : Aft W0, z.val.cell? ⟨w.heap.size, 1, none⟩ = some (.slice M b.length capM) := fun z => by
      have := cell_block (i := 1) (heap_aft z (lt_of_get rP) rP); simpa using this
    clear rP
    go_wp2_with fail
    refine wp_region_aft (by kernel_rfl) (by kernel_rfl) ?_
    repeat (go_big_quiet_step (fail))
    refine wpQuiet_nil ?_
    intro z1
    have hb1 := z1.below hb0 hb0.size
    have rX1 := heap_aft z1 (lt_of_get rX) rX
    clear pa pb hb0 rX
    generalize z1.val = W1 at *
    go_wp2_with fail
    refine (HAW.out W1 hb1).mono ?_
    rintro e w' ⟨rfl, y, rfl⟩
    have hb2 := y.below hb1 hb1.size
    have rX2 := heap_aft y (lt_of_get rX1) rX1
    clear hb1 rX1
    generalize y.val = W2 at *
    go_wp2_with ((go_at_call 9; (with_reducible refine (HFA.out _ (by with_reducible assumption)).mono ?_); rintro e w' ⟨rfl, rfl⟩))
    go_ret
    exact ⟨rfl, Below.aft hb2⟩
  rw [hfa] at HFA
  cases hfb : fewB ls b
  · rw [hfb] at HFB
    clear hfa hfb hA hA0 hN hM ht
    go_enter Tryd.func5, Tryd.ntmps5
    go_upto_region 1 with (fail)
    have hb0 : Below w.heap.size w ((w.alloc (.cells #[.slice N a.length capN, .slice M b.length capM] 47)).alloc (.cells #[.int .i64 x0, .int .i64 x1] 48)) := ((Below.refl _ _).alloc (Nat.le_refl _) _).alloc (by simp) _
    have rP : ((w.alloc (.cells #[.slice N a.length capN, .slice M b.length capM] 47)).alloc (.cells #[.int .i64 x0, .int .i64 x1] 48)).heap[w.heap.size]? = some (.cells #[.slice N a.length capN, .slice M b.length capM] 47) := heap_alloc' (by simp) (heap_alloc_new _ _)
    have rX : ((w.alloc (.cells #[.slice N a.length capN, .slice M b.length capM] 47)).alloc (.cells #[.int .i64 x0, .int .i64 x1] 48)).heap[w.heap.size + 1]? = some (.cells #[.int .i64 x0, .int .i64 x1] 48) := heap_alloc_at (by simp)
    generalize ((w.alloc (.cells #[.slice N a.length capN, .slice M b.length capM] 47)).alloc (.cells #[.int .i64 x0, .int .i64 x1] 48)) = W0 at *
    have pa : ∀ z : Aft W0, z.val.cell? ⟨w.heap.size, 0, none⟩ = some (.slice N a.length capN) := fun z => by
      have := cell_block (i := 0) (heap_aft z (lt_of_get rP) rP); simpa using this
    have pb : ∀ z : Aft W0, z.val.cell? ⟨w.heap.size, 1, none⟩ = some (.slice M b.length capM) := fun z => by
      have := cell_block (i := 1) (heap_aft z (lt_of_get rP) rP); simpa using this
    clear rP
    go_wp2_with fail
    refine wp_region_aft (by kernel_rfl) (by kernel_rfl) ?_
    repeat (go_big_quiet_step (fail))
    refine wpQuiet_nil ?_
    intro z1
    have hb1 := z1.below hb0 hb0.size
    have rX1 := heap_aft z1 (lt_of_get rX) rX
    clear pa pb hb0 rX
    generalize z1.val = W1 at *
    go_wp2_with fail
    refine (HAW.out W1 hb1).mono ?_
    rintro e w' ⟨rfl, y, rfl⟩
    have hb2 := y.below hb1 hb1.size
    have rX2 := heap_aft y (lt_of_get rX1) rX1
    clear hb1 rX1
    generalize y.val = W2 at *
    go_wp2_with (first | (go_at_call 9; (with_reducible refine (HFA.out _ (by with_reducible assumption)).mono ?_); rintro e w' ⟨rfl, rfl⟩) | (go_at_call 9; (with_reducible refine (HFB.out _ (by with_reducible assumption)).mono ?_); rintro e w' ⟨rfl, rfl⟩))
    go_ret
    exact ⟨rfl, Below.aft hb2⟩
  rw [hfb] at HFB
  obtain ⟨f1, f2, f3⟩ := fewB_true hfa
  obtain ⟨_, g2, g3⟩ := fewB_true hfb
  have f4 : ∀ n ∈ a, n.args.length ≤ 65536 := fun n hn => by have := f3 n hn; omega
  have g4 : ∀ n ∈ b, n.args.length ≤ 65536 := fun n hn => by have := g3 n hn; omega
  have HCI := Lib.hid (fun (W : World) (hb : Below w.heap.size w W) => CopyIntsI_c A cap ls W (hA.below hb) hA0 (by omega))
  have HCN := Lib.hid (fun (W : World) (hb : Below w.heap.size w W) => CopyNodes_c N capN a (by omega) f4 W (hN.below hb))
  have HCM := Lib.hid (fun (W : World) (hb : Below w.heap.size w W) => CopyNodes_c M capM b (by omega) g4 W (hM.below hb))
  have HSU := Lib.hid (fun (W : World) (hb : Below w.heap.size w W) (A' : Option Addr) (c' : Nat) (N' : Option Addr) (cn' : Nat) (h1 : LiesI W A' ls) (h2 : LiesN W N' a) (h3 : a.length ≤ cn') => (Substituted_c A' c' ls (by omega) N' cn' a (by omega) h3 f4 x0 x1 W h1 h2 (ht.below hb)).mono fun _ _ h => h.v)
  have HAP := Lib.hid (fun (W : World) (hb : Below w.heap.size w W) (A' : Option Addr) (c' : Nat) (N' : Option Addr) (cn' : Nat) (M' : Option Addr) (cm' : Nat) (h1 : LiesI W A' ls) (h2 : LiesN W N' a) (h3 : LiesN W M' b) (h4 : a.length ≤ cn') (h5 : b.length ≤ cm') => (Appended_c A' c' ls (by omega) N' cn' a (by omega) h4 f4 M' cm' b (by omega) h5 g4 W h1 h2 h3 (ht.below hb)).mono fun _ _ h => h.v)
  have HNA := Lib.hid (fun (W : World) (hb : Below w.heap.size w W) => refNodesErr_c A cap ls (by omega) N capN a (by omega) f4 W (hA.below hb) (hN.n.below hb))
  have HNB := Lib.hid (fun (W : World) (hb : Below w.heap.size w W) => refNodesErr_c A cap ls (by omega) M capM b (by omega) g4 W (hA.below hb) (hM.n.below hb))
  have HBO := Lib.hid (fun (W : World) => both_c (chk ls a).2 (chk ls b).2 W)
  have HRA := Lib.hid (fun (h : apE ls a b = 0) (W : World) (hb : Below w.heap.size w W) => refAppended_c N capN a (by omega) f4 M capM b (by omega) g4 (fun k n hn y hy => by
    obtain ⟨i, hi, rfl⟩ := List.mem_iff_getElem.1 hy
    exact (chk_nodes (apE_ok h).2.1 k n hn).ai i _ (List.getElem?_eq_getElem hi)) W (hN.below hb) (hM.n.below hb))
  have HRS := Lib.hid (fun (W : World) (hb : Below w.heap.size w W) => refSubstituted_c N capN a (by omega) f4 x0 x1 W (hN.below hb))
  have HTL := Lib.hid (show (subN x0 x1 a).length ≤ 65536 by rw [subN_len]; omega)
  have HTA := Lib.hid (subN_args (l := x0) (x := x1) f4)
  have HCL := Lib.hid (show (apN a b).length ≤ 65536 by rw [apN_len]; omega)
  have HCA := Lib.hid (apN_args f4 g4)
  have HPL := Lib.hid (show (plL (a.length : Int) b.length).length ≤ 65536 by rw [plL_len]; omega)
  have HD1 := Lib.hid (apE_thenE (ls := ls) (a := a) (b := b)).1
  have HD2 := Lib.hid (apE_thenE (ls := ls) (a := a) (b := b)).2
  have HS1 := Lib.hid (fun h => subE_out (ls := ls) (a := a) (l := x0) (x := x1) h)
  have HS2 := Lib.hid (show (chk ls a).2 = 0 → win x0 0 ((ls.length : Int) - 1) = false → subE ls a x0 x1 = 6 from fun h hw => by
    rw [subE_in h, if_neg]; rw [isIx_win, hw]; decide)
  have HS3 := Lib.hid (show (chk ls a).2 = 0 → win x0 0 ((ls.length : Int) - 1) = true → ∃ (p : Nat) (u : Int), x0 = (p : Int) ∧ p < ls.length ∧ ls[p]? = some u ∧ 1 ≤ u ∧ u ≤ 16 ∧ subE ls a x0 x1 = eIf (!fits x1 u) 2 from fun h hw => by
    have hx : isIx x0 ls.length = true := by rw [isIx_win]; exact hw
    obtain ⟨l0, l1⟩ := isIx_iff.1 hx
    obtain ⟨p, rfl⟩ := Int.eq_ofNat_of_zero_le l0
    have hp : p < ls.length := by omega
    have hiw := isW_iff.1 ((chk_ok h).2.1 _ (List.getElem_mem hp))
    refine ⟨p, ls[p], rfl, hp, List.getElem?_eq_getElem hp, hiw.1, hiw.2, ?_⟩
    rw [subE_in h, if_pos hx, ← isV_fits]
    simp [hp])
  have HA2 := Lib.hid hA
  have hla : a.length ≤ 405 := f2
  have hlb : b.length ≤ 405 := g2
  clear hfa hfb hA hA0 hN hM ht f1 f2 f3 f4 g2 g3 g4
  generalize (chk ls a).2 = ca at *
  generalize (chk ls b).2 = cb at *
  generalize thenE ca cb = dd at *
  generalize apE ls a b = ed at *
  generalize subE ls a x0 x1 = es at *
  generalize subN x0 x1 a = T at *
  generalize apN a b = Cs at *
  generalize plL (a.length : Int) b.length = Ps at *
  go_enter Tryd.func5, Tryd.ntmps5
  go_upto_region 1 with (fail)
  have hb0 : Below w.heap.size w ((w.alloc (.cells #[.slice N a.length capN, .slice M b.length capM] 47)).alloc (.cells #[.int .i64 x0, .int .i64 x1] 48)) := ((Below.refl _ _).alloc (Nat.le_refl _) _).alloc (by simp) _
  have rP : ((w.alloc (.cells #[.slice N a.length capN, .slice M b.length capM] 47)).alloc (.cells #[.int .i64 x0, .int .i64 x1] 48)).heap[w.heap.size]? = some (.cells #[.slice N a.length capN, .slice M b.length capM] 47) := heap_alloc' (by simp) (heap_alloc_new _ _)
  have rX : ((w.alloc (.cells #[.slice N a.length capN, .slice M b.length capM] 47)).alloc (.cells #[.int .i64 x0, .int .i64 x1] 48)).heap[w.heap.size + 1]? = some (.cells #[.int .i64 x0, .int .i64 x1] 48) := heap_alloc_at (by simp)
  generalize ((w.alloc (.cells #[.slice N a.length capN, .slice M b.length capM] 47)).alloc (.cells #[.int .i64 x0, .int .i64 x1] 48)) = W0 at *
  have pa : ∀ z : Aft W0, z.val.cell? ⟨w.heap.size, 0, none⟩ = some (.slice N a.length capN) := fun z => by
    have := cell_block (i := 0) (heap_aft z (lt_of_get rP) rP); simpa using this
  have pb : ∀ z : Aft W0, z.val.cell? ⟨w.heap.size, 1, none⟩ = some (.slice M b.length capM) := fun z => by
    have := cell_block (i := 1) (heap_aft z (lt_of_get rP) rP); simpa using this
  clear rP
  go_wp2_with fail
  refine wp_region_aft (by kernel_rfl) (by kernel_rfl) ?_
  repeat (go_big_quiet_step (fail))
  refine wpQuiet_nil ?_
  intro z1
  have hb1 := z1.below hb0 hb0.size
  have rX1 := heap_aft z1 (lt_of_get rX) rX
  clear pa pb hb0 rX
  generalize z1.val = W1 at *
  go_wp2_with fail
  refine (HAW.out W1 hb1).mono ?_
  rintro e w' ⟨rfl, y, rfl⟩
  have hb2 := y.below hb1 hb1.size
  have rX2 := heap_aft y (lt_of_get rX1) rX1
  clear hb1 rX1
  generalize y.val = W2 at *
  have HCI2 := Lib.hid (fun (W : World) (hb : Below W2.heap.size W2 W) => HCI.out W (hb2.trans (hb.mono hb2.size)))
  have HCN2 := Lib.hid (fun (W : World) (hb : Below W2.heap.size W2 W) => HCN.out W (hb2.trans (hb.mono hb2.size)))
  have HCM2 := Lib.hid (fun (W : World) (hb : Below W2.heap.size W2 W) => HCM.out W (hb2.trans (hb.mono hb2.size)))
  have HSU2 := Lib.hid (fun (W : World) (hb : Below W2.heap.size W2 W) => HSU.out W (hb2.trans (hb.mono hb2.size)))
  have HAP2 := Lib.hid (fun (W : World) (hb : Below W2.heap.size W2 W) => HAP.out W (hb2.trans (hb.mono hb2.size)))
  have HNA2 := Lib.hid (fun (W : World) (hb : Below W2.heap.size W2 W) => HNA.out W (hb2.trans (hb.mono hb2.size)))
  have HNB2 := Lib.hid (fun (W : World) (hb : Below W2.heap.size W2 W) => HNB.out W (hb2.trans (hb.mono hb2.size)))
  have HRA2 := Lib.hid (fun (h : ed = 0) (W : World) (hb : Below W2.heap.size W2 W) => HRA.out h W (hb2.trans (hb.mono hb2.size)))
  have HRS2 := Lib.hid (fun (W : World) (hb : Below W2.heap.size W2 W) => HRS.out W (hb2.trans (hb.mono hb2.size)))
  have HA2 := Lib.hid (HA2.out.below hb2)
  have q0 := cell_block (i := 0) rX2
  have q1 := cell_block (i := 1) rX2
  simp at q0 q1
  have lX := lt_of_get rX2
  go_upto_region 6 with (first | (go_at_call 9; (with_reducible refine (HFA.out _ (by with_reducible assumption)).mono ?_); rintro e w' ⟨rfl, rfl⟩) | (go_at_call 9; (with_reducible refine (HFB.out _ (by with_reducible assumption)).mono ?_); rintro e w' ⟨rfl, rfl⟩))
  clear HAW HFA HFB HCI HCN HCM HSU HAP HNA HNB HRA HRS
  go_cut [9, 10] (fun s e wx => e = .int .i64 es ∧ NodesV es T s wx ∧ Below W2.heap.size W2 wx)
  case first =>
    go_region_with (first | (go_at_call 11; refine (HCI2.out _ (by (repeat' (first | (with_reducible exact Below.refl _ _) | (with_reducible assumption) | (with_reducible exact Aft.pf _) | (with_reducible refine Below.alloc ?_ ?_ _) | (with_reducible refine Below.drew ?_) | (with_reducible refine Aft.below _ ?_ ?_) | (with_reducible refine Below.setCell_new ?_ ?_ _ _) | (with_reducible exact Nat.le_refl _) | (with_reducible refine Aft.le _ ?_) | (with_reducible refine le_alloc ?_) | (with_reducible refine le_drew ?_) | (with_reducible refine le_setCell ?_) | omega)))).mono ?_; rintro e w' ⟨A', cap', rfl, hl', hb'⟩; obtain ⟨xc, rfl⟩ := Below.aft hb'; clear hb') | (go_at_call 12; refine (HCN2.out _ (by (repeat' (first | (with_reducible exact Below.refl _ _) | (with_reducible assumption) | (with_reducible exact Aft.pf _) | (with_reducible refine Below.alloc ?_ ?_ _) | (with_reducible refine Below.drew ?_) | (with_reducible refine Aft.below _ ?_ ?_) | (with_reducible refine Below.setCell_new ?_ ?_ _ _) | (with_reducible exact Nat.le_refl _) | (with_reducible refine Aft.le _ ?_) | (with_reducible refine le_alloc ?_) | (with_reducible refine le_drew ?_) | (with_reducible refine le_setCell ?_) | omega)))).mono ?_; rintro e w' ⟨N', capN', rfl, hcn', hln', hb'⟩; obtain ⟨xn, rfl⟩ := Below.aft hb'; clear hb') | (go_at_call 26; refine (HSU2.out _ (by (repeat' (first | (with_reducible exact Below.refl _ _) | (with_reducible assumption) | (with_reducible exact Aft.pf _) | (with_reducible refine Below.alloc ?_ ?_ _) | (with_reducible refine Below.drew ?_) | (with_reducible refine Aft.below _ ?_ ?_) | (with_reducible refine Below.setCell_new ?_ ?_ _ _) | (with_reducible exact Nat.le_refl _) | (with_reducible refine Aft.le _ ?_) | (with_reducible refine le_alloc ?_) | (with_reducible refine le_drew ?_) | (with_reducible refine le_setCell ?_) | omega))) _ _ _ _ (by first | assumption | exact LiesI.below hl' (by (repeat' (first | (with_reducible exact Below.refl _ _) | (with_reducible assumption) | (with_reducible exact Aft.pf _) | (with_reducible refine Below.alloc ?_ ?_ _) | (with_reducible refine Below.drew ?_) | (with_reducible refine Aft.below _ ?_ ?_) | (with_reducible refine Below.setCell_new ?_ ?_ _ _) | (with_reducible exact Nat.le_refl _) | (with_reducible refine Aft.le _ ?_) | (with_reducible refine le_alloc ?_) | (with_reducible refine le_drew ?_) | (with_reducible refine le_setCell ?_) | omega)))) (by first | assumption | exact LiesN.below hln' (by (repeat' (first | (with_reducible exact Below.refl _ _) | (with_reducible assumption) | (with_reducible exact Aft.pf _) | (with_reducible refine Below.alloc ?_ ?_ _) | (with_reducible refine Below.drew ?_) | (with_reducible refine Aft.below _ ?_ ?_) | (with_reducible refine Below.setCell_new ?_ ?_ _ _) | (with_reducible exact Nat.le_refl _) | (with_reducible refine Aft.le _ ?_) | (with_reducible refine le_alloc ?_) | (with_reducible refine le_drew ?_) | (with_reducible refine le_setCell ?_) | omega)))) hcn').mono ?_; rintro e w' ⟨v', rfl, hv', hb'⟩; obtain ⟨xs', rfl⟩ := Below.aft hb'; clear hb'))
    all_goals go_wp2
    all_goals go_meet
    all_goals exact ⟨rfl, by first | assumption | exact NodesV.below hv' (by (repeat' (first | (with_reducible exact Below.refl _ _) | (with_reducible assumption) | (with_reducible exact Aft.pf _) | (with_reducible refine Below.alloc ?_ ?_ _) | (with_reducible refine Below.drew ?_) | (with_reducible refine Aft.below _ ?_ ?_) | (with_reducible refine Below.setCell_new ?_ ?_ _ _) | (with_reducible exact Nat.le_refl _) | (with_reducible refine Aft.le _ ?_) | (with_reducible refine le_alloc ?_) | (with_reducible refine le_drew ?_) | (with_reducible refine le_setCell ?_) | omega))), by (repeat' (first | (with_reducible exact Below.refl _ _) | (with_reducible assumption) | (with_reducible exact Aft.pf _) | (with_reducible refine Below.alloc ?_ ?_ _) | (with_reducible refine Below.drew ?_) | (with_reducible refine Aft.below _ ?_ ?_) | (with_reducible refine Below.setCell_new ?_ ?_ _ _) | (with_reducible exact Nat.le_refl _) | (with_reducible refine Aft.le _ ?_) | (with_reducible refine le_alloc ?_) | (with_reducible refine le_drew ?_) | (with_reducible refine le_setCell ?_) | omega))⟩
  case rest =>
    obtain ⟨rfl, hsv, hb3⟩ := hcut
    clear q0 q1
    by_cases hdd : dd = 0
    case neg =>
      obtain rfl : ed = dd := HD1.out hdd
      have d1 : (ed == 0) = false := by simpa using hdd
      have d2 : (ed != 0) = true := by simpa using hdd
      go_wp2_with fail
      refine (HCI2.out _ hb3).mono ?_
      rintro e W4 ⟨A4, c4, rfl, hl4, hb4⟩
      have hbw4 := hb3.trans (hb4.mono hb3.size)
      go_wp2_with fail
      refine (HCN2.out _ hbw4).mono ?_
      rintro e W5 ⟨N4, cn4, rfl, hcn4, hln4, hb5⟩
      have hbw5 := hbw4.trans (hb5.mono hbw4.size)
      go_wp2_with fail
      refine (HCM2.out _ hbw5).mono ?_
      rintro e W6 ⟨M4, cm4, rfl, hcm4, hlm4, hb6⟩
      have hbw6 := hbw5.trans (hb6.mono hbw5.size)
      go_wp2_with fail
      refine (HAP2.out _ hbw6 A4 c4 N4 cn4 M4 cm4 ((hl4.below hb5).below hb6) (hln4.below hb6) hlm4 hcn4 hcm4).mono ?_
      rintro e W7 ⟨v7, m7, rfl, hv7, hb7⟩
      have hbw7 := hbw6.trans (hb7.mono hbw6.size)
      have hs37 := hb4.trans ((hb5.trans ((hb6.trans (hb7.mono hb6.size)).mono hb5.size)).mono hb4.size)
      clear hl4 hln4 hlm4 hcn4 hcm4 hb4 hb5 hb6 hb7 hbw4 hbw5 hbw6
      go_wp2_with fail
      refine (HNA2.out _ hbw7).mono ?_
      rintro e w' ⟨rfl, y7, rfl⟩
      have hbw7' := y7.below hbw7 hbw7.size
      go_wp2_with fail
      refine (HNB2.out _ hbw7').mono ?_
      rintro e w' ⟨rfl, y8, rfl⟩
      have hbw8 := y8.below hbw7' hbw7'.size
      have hs78 := y8.below y7.pf y7.pf.size
      go_upto_region 10 with (go_at_call 28; refine (HBO.out _).mono ?_; rintro e w' ⟨rfl, rfl⟩)
      have hsv8 := (hsv.below hs37).below hs78
      have hv8 := hv7
      generalize y8.val = W8 at *
      clear hsv hs37
      have hsv := hsv8
      have hb8 := hbw8
      have rX8 := (hbw8.block _ (lt_of_get rX2)).trans rX2
      clear hsv8 hbw8 hbw7 hbw7' 
      obtain ⟨rfl, rfl⟩ : v7 = .slice none 0 0 ∧ m7 = .slice none 0 0 := by
        rcases hv8 with ⟨_, h⟩ | ⟨h, _⟩
        · exact h
        · exact absurd h hdd
      clear hv7 hv8 hdd
      go_upto_region 18 with (fail)
      by_cases hca : ca = 0
      case neg =>
        have c1 : (ca == 0) = false := by simpa using hca
        have c2 : (ca != 0) = true := by simpa using hca
        obtain rfl : es = ca := HS1.out hca
        have hes0 : es ≠ 0 := hca
        have hsn := hsv.nil (by first | exact hes0 | decide)
        subst hsn
        clear hca hes0 hsv
        go_wp2_with fail
        refine wp_region_aft (by kernel_rfl) (by kernel_rfl) ?_
        repeat (go_big_quiet_step (fail))
        refine wpQuiet_nil ?_
        intro z9
        have hb9 := z9.below hb8 hb8.size
        go_wp2
        go_ret
        exact ⟨rfl, Below.aft (hb2.trans (hb9.mono hb2.size))⟩
      have q0 := cell_block (i := 0) rX8
      simp at q0
      have c1 := hca
      subst hca
      cases hw : win x0 0 ((ls.length : Int) - 1) with
      | false =>
        have HWI := Lib.hid (fun (W : World) => Within_c x0 0 ((ls.length : Int) - 1) W)
        rw [hw] at HWI
        obtain rfl : es = 6 := HS2.out rfl hw
        have hsn := hsv.nil (by first | exact hes0 | decide)
        subst hsn
        clear hsv
        go_upto_region 20 with ((go_at_call 31; refine (HWI.out _).mono ?_; rintro e w' ⟨rfl, rfl⟩))
        go_wp2_with fail
        refine wp_region_aft (by kernel_rfl) (by kernel_rfl) ?_
        repeat (go_big_quiet_step (fail))
        refine wpQuiet_nil ?_
        intro z9
        have hb9 := z9.below hb8 hb8.size
        go_wp2
        go_ret
        exact ⟨rfl, Below.aft (hb2.trans (hb9.mono hb2.size))⟩
      | true =>
        have HWI := Lib.hid (fun (W : World) => Within_c x0 0 ((ls.length : Int) - 1) W)
        rw [hw] at HWI
        obtain ⟨p, u, rfl, hp, HY, u1, u2, hse⟩ := HS3.out rfl hw
        have hpl : (p : Int) < ls.length := by omega
        obtain ⟨aa, rfl, hal, cl⟩ := HA2.out.cell HY
        have hq0 : ∀ z : Aft W8, z.val.cell? ⟨w.heap.size + 1, 0, none⟩ = some (.int .i64 (p : Int)) := fun z => by
          have := cell_block (i := 0) (heap_aft z (lt_of_get rX8) rX8); simpa using this
        have hq1 : ∀ z : Aft W8, z.val.cell? ⟨w.heap.size + 1, 1, none⟩ = some (.int .i64 x1) := fun z => by
          have := cell_block (i := 1) (heap_aft z (lt_of_get rX8) rX8); simpa using this
        have hql : ∀ z : Aft W8, z.val.cell? (aa.add p) = some (.int .i64 u) := fun z => ((z.below hb8 hb8.size).cell (p := aa.add p) (by rw [addB]; exact hal)).trans cl
        have HFI := Lib.hid (fun (W : World) => Fits_c x1 u (by omega) (by omega) W)
        obtain ⟨bv, hbv⟩ : ∃ bv, fits x1 u = bv := ⟨_, rfl⟩
        rw [hbv] at HFI hse
        clear cl HY
        go_upto_region 20 with ((go_at_call 31; refine (HWI.out _).mono ?_; rintro e w' ⟨rfl, rfl⟩))
        cases bv with
        | false =>
          obtain rfl : es = 2 := hse
          have hsn := hsv.nil (by first | exact hes0 | decide)
          subst hsn
          clear hsv
          go_wp2_with fail
          refine wp_region_aft (by kernel_rfl) (by kernel_rfl) ?_
          repeat (go_big_quiet_step ((go_at_call 32; exact Calls.qs (HFI.out _))))
          refine wpQuiet_nil ?_
          intro z9
          have hb9 := z9.below hb8 hb8.size
          go_wp2
          go_ret
          exact ⟨rfl, Below.aft (hb2.trans (hb9.mono hb2.size))⟩
        | true =>
          obtain rfl : es = 0 := hse
          obtain ⟨A9, c9, hsn, hl9⟩ := hsv.good
          subst hsn
          clear hsv
          go_wp2_with fail
          refine wp_region_aft (by kernel_rfl) (by kernel_rfl) ?_
          repeat (go_big_quiet_step ((go_at_call 32; exact Calls.qs (HFI.out _))))
          refine wpQuiet_nil ?_
          intro z9
          have hb9 := z9.below hb8 hb8.size
          have hl10 := hl9.aft z9
          have q0 := hq0 z9
          have q1 := hq1 z9
          clear hq0 hq1 hql hl9
          generalize z9.val = W9 at *
          have HL10 := Lib.hid hl10
          clear hl10
          go_wp2_with fail
          refine (HRS2.out W9 hb9).mono ?_
          rintro e W10 ⟨A10, c10, rfl, _, hl11, hb10⟩
          have hb11 := hb9.trans (hb10.mono hb9.size)
          have HSN := Lib.hid (SameNodes_c A9 c9 A10 c10 T HTL.out HTA.out W10 (HL10.out.below hb10) hl11)
          clear hl11 q0 q1
          go_wp2_with fail
          refine HSN.out.mono ?_
          rintro e w' ⟨rfl, y9, rfl⟩
          have hb9 := y9.below hb11 hb11.size
          go_wp2
          go_ret
          exact ⟨rfl, Below.aft (hb2.trans (hb9.mono hb2.size))⟩
    obtain rfl : dd = 0 := hdd
    by_cases hgt : 400 < (a.length : Int) + b.length
    · obtain rfl : ed = 8 := by rw [HD2.out rfl]; simp [hgt, eIf]
      go_wp2_with fail
      refine (HCI2.out _ hb3).mono ?_
      rintro e W4 ⟨A4, c4, rfl, hl4, hb4⟩
      have hbw4 := hb3.trans (hb4.mono hb3.size)
      go_wp2_with fail
      refine (HCN2.out _ hbw4).mono ?_
      rintro e W5 ⟨N4, cn4, rfl, hcn4, hln4, hb5⟩
      have hbw5 := hbw4.trans (hb5.mono hbw4.size)
      go_wp2_with fail
      refine (HCM2.out _ hbw5).mono ?_
      rintro e W6 ⟨M4, cm4, rfl, hcm4, hlm4, hb6⟩
      have hbw6 := hbw5.trans (hb6.mono hbw5.size)
      go_wp2_with fail
      refine (HAP2.out _ hbw6 A4 c4 N4 cn4 M4 cm4 ((hl4.below hb5).below hb6) (hln4.below hb6) hlm4 hcn4 hcm4).mono ?_
      rintro e W7 ⟨v7, m7, rfl, hv7, hb7⟩
      have hbw7 := hbw6.trans (hb7.mono hbw6.size)
      have hs37 := hb4.trans ((hb5.trans ((hb6.trans (hb7.mono hb6.size)).mono hb5.size)).mono hb4.size)
      clear hl4 hln4 hlm4 hcn4 hcm4 hb4 hb5 hb6 hb7 hbw4 hbw5 hbw6
      go_wp2_with fail
      refine (HNA2.out _ hbw7).mono ?_
      rintro e w' ⟨rfl, y7, rfl⟩
      have hbw7' := y7.below hbw7 hbw7.size
      go_wp2_with fail
      refine (HNB2.out _ hbw7').mono ?_
      rintro e w' ⟨rfl, y8, rfl⟩
      have hbw8 := y8.below hbw7' hbw7'.size
      have hs78 := y8.below y7.pf y7.pf.size
      go_upto_region 10 with (go_at_call 28; refine (HBO.out _).mono ?_; rintro e w' ⟨rfl, rfl⟩)
      have hsv8 := (hsv.below hs37).below hs78
      have hv8 := hv7
      generalize y8.val = W8 at *
      clear hsv hs37
      have hsv := hsv8
      have hb8 := hbw8
      have rX8 := (hbw8.block _ (lt_of_get rX2)).trans rX2
      clear hsv8 hbw8 hbw7 hbw7' 
      obtain ⟨rfl, rfl⟩ : v7 = .slice none 0 0 ∧ m7 = .slice none 0 0 := by
        rcases hv8 with ⟨_, h⟩ | ⟨h, _⟩
        · exact h
        · exact absurd h (by decide)
      clear hv7 hv8
      go_upto_region 18 with (fail)
      by_cases hca : ca = 0
      case neg =>
        have c1 : (ca == 0) = false := by simpa using hca
        have c2 : (ca != 0) = true := by simpa using hca
        obtain rfl : es = ca := HS1.out hca
        have hes0 : es ≠ 0 := hca
        have hsn := hsv.nil (by first | exact hes0 | decide)
        subst hsn
        clear hca hes0 hsv
        go_wp2_with fail
        refine wp_region_aft (by kernel_rfl) (by kernel_rfl) ?_
        repeat (go_big_quiet_step (fail))
        refine wpQuiet_nil ?_
        intro z9
        have hb9 := z9.below hb8 hb8.size
        go_wp2
        go_ret
        exact ⟨rfl, Below.aft (hb2.trans (hb9.mono hb2.size))⟩
      have q0 := cell_block (i := 0) rX8
      simp at q0
      have c1 := hca
      subst hca
      cases hw : win x0 0 ((ls.length : Int) - 1) with
      | false =>
        have HWI := Lib.hid (fun (W : World) => Within_c x0 0 ((ls.length : Int) - 1) W)
        rw [hw] at HWI
        obtain rfl : es = 6 := HS2.out rfl hw
        have hsn := hsv.nil (by first | exact hes0 | decide)
        subst hsn
        clear hsv
        go_upto_region 20 with ((go_at_call 31; refine (HWI.out _).mono ?_; rintro e w' ⟨rfl, rfl⟩))
        go_wp2_with fail
        refine wp_region_aft (by kernel_rfl) (by kernel_rfl) ?_
        repeat (go_big_quiet_step (fail))
        refine wpQuiet_nil ?_
        intro z9
        have hb9 := z9.below hb8 hb8.size
        go_wp2
        go_ret
        exact ⟨rfl, Below.aft (hb2.trans (hb9.mono hb2.size))⟩
      | true =>
        have HWI := Lib.hid (fun (W : World) => Within_c x0 0 ((ls.length : Int) - 1) W)
        rw [hw] at HWI
        obtain ⟨p, u, rfl, hp, HY, u1, u2, hse⟩ := HS3.out rfl hw
        have hpl : (p : Int) < ls.length := by omega
        obtain ⟨aa, rfl, hal, cl⟩ := HA2.out.cell HY
        have hq0 : ∀ z : Aft W8, z.val.cell? ⟨w.heap.size + 1, 0, none⟩ = some (.int .i64 (p : Int)) := fun z => by
          have := cell_block (i := 0) (heap_aft z (lt_of_get rX8) rX8); simpa using this
        have hq1 : ∀ z : Aft W8, z.val.cell? ⟨w.heap.size + 1, 1, none⟩ = some (.int .i64 x1) := fun z => by
          have := cell_block (i := 1) (heap_aft z (lt_of_get rX8) rX8); simpa using this
        have hql : ∀ z : Aft W8, z.val.cell? (aa.add p) = some (.int .i64 u) := fun z => ((z.below hb8 hb8.size).cell (p := aa.add p) (by rw [addB]; exact hal)).trans cl
        have HFI := Lib.hid (fun (W : World) => Fits_c x1 u (by omega) (by omega) W)
        obtain ⟨bv, hbv⟩ : ∃ bv, fits x1 u = bv := ⟨_, rfl⟩
        rw [hbv] at HFI hse
        clear cl HY
        go_upto_region 20 with ((go_at_call 31; refine (HWI.out _).mono ?_; rintro e w' ⟨rfl, rfl⟩))
        cases bv with
        | false =>
          obtain rfl : es = 2 := hse
          have hsn := hsv.nil (by first | exact hes0 | decide)
          subst hsn
          clear hsv
          go_wp2_with fail
          refine wp_region_aft (by kernel_rfl) (by kernel_rfl) ?_
          repeat (go_big_quiet_step ((go_at_call 32; exact Calls.qs (HFI.out _))))
          refine wpQuiet_nil ?_
          intro z9
          have hb9 := z9.below hb8 hb8.size
          go_wp2
          go_ret
          exact ⟨rfl, Below.aft (hb2.trans (hb9.mono hb2.size))⟩
        | true =>
          obtain rfl : es = 0 := hse
          obtain ⟨A9, c9, hsn, hl9⟩ := hsv.good
          subst hsn
          clear hsv
          go_wp2_with fail
          refine wp_region_aft (by kernel_rfl) (by kernel_rfl) ?_
          repeat (go_big_quiet_step ((go_at_call 32; exact Calls.qs (HFI.out _))))
          refine wpQuiet_nil ?_
          intro z9
          have hb9 := z9.below hb8 hb8.size
          have hl10 := hl9.aft z9
          have q0 := hq0 z9
          have q1 := hq1 z9
          clear hq0 hq1 hql hl9
          generalize z9.val = W9 at *
          have HL10 := Lib.hid hl10
          clear hl10
          go_wp2_with fail
          refine (HRS2.out W9 hb9).mono ?_
          rintro e W10 ⟨A10, c10, rfl, _, hl11, hb10⟩
          have hb11 := hb9.trans (hb10.mono hb9.size)
          have HSN := Lib.hid (SameNodes_c A9 c9 A10 c10 T HTL.out HTA.out W10 (HL10.out.below hb10) hl11)
          clear hl11 q0 q1
          go_wp2_with fail
          refine HSN.out.mono ?_
          rintro e w' ⟨rfl, y9, rfl⟩
          have hb9 := y9.below hb11 hb11.size
          go_wp2
          go_ret
          exact ⟨rfl, Below.aft (hb2.trans (hb9.mono hb2.size))⟩
    · obtain rfl : ed = 0 := by rw [HD2.out rfl]; simp [hgt, eIf]
      go_wp2_with fail
      refine (HCI2.out _ hb3).mono ?_
      rintro e W4 ⟨A4, c4, rfl, hl4, hb4⟩
      have hbw4 := hb3.trans (hb4.mono hb3.size)
      go_wp2_with fail
      refine (HCN2.out _ hbw4).mono ?_
      rintro e W5 ⟨N4, cn4, rfl, hcn4, hln4, hb5⟩
      have hbw5 := hbw4.trans (hb5.mono hbw4.size)
      go_wp2_with fail
      refine (HCM2.out _ hbw5).mono ?_
      rintro e W6 ⟨M4, cm4, rfl, hcm4, hlm4, hb6⟩
      have hbw6 := hbw5.trans (hb6.mono hbw5.size)
      go_wp2_with fail
      refine (HAP2.out _ hbw6 A4 c4 N4 cn4 M4 cm4 ((hl4.below hb5).below hb6) (hln4.below hb6) hlm4 hcn4 hcm4).mono ?_
      rintro e W7 ⟨v7, m7, rfl, hv7, hb7⟩
      have hbw7 := hbw6.trans (hb7.mono hbw6.size)
      have hs37 := hb4.trans ((hb5.trans ((hb6.trans (hb7.mono hb6.size)).mono hb5.size)).mono hb4.size)
      clear hl4 hln4 hlm4 hcn4 hcm4 hb4 hb5 hb6 hb7 hbw4 hbw5 hbw6
      go_wp2_with fail
      refine (HNA2.out _ hbw7).mono ?_
      rintro e w' ⟨rfl, y7, rfl⟩
      have hbw7' := y7.below hbw7 hbw7.size
      go_wp2_with fail
      refine (HNB2.out _ hbw7').mono ?_
      rintro e w' ⟨rfl, y8, rfl⟩
      have hbw8 := y8.below hbw7' hbw7'.size
      have hs78 := y8.below y7.pf y7.pf.size
      go_upto_region 10 with (go_at_call 28; refine (HBO.out _).mono ?_; rintro e w' ⟨rfl, rfl⟩)
      have hsv8 := (hsv.below hs37).below hs78
      have hv8 := hv7
      generalize y8.val = W8 at *
      clear hsv hs37
      have hsv := hsv8
      have hb8 := hbw8
      have rX8 := (hbw8.block _ (lt_of_get rX2)).trans rX2
      clear hsv8 hbw8 hbw7 hbw7' 
      obtain ⟨A8, c8, B8, d8, rfl, rfl, hl8, hp8⟩ : ∃ A c B c2, v7 = .slice A Cs.length c ∧ m7 = .slice B Ps.length c2 ∧ LiesN W7 A Cs ∧ LiesI W7 B Ps := by
        rcases hv8 with ⟨h, _⟩ | ⟨_, h⟩
        · exact absurd rfl h
        · exact h
      have hl8 := hl8.below hs78
      have hp8 := hp8.below hs78
      clear hv7 hv8
      go_wp2_with fail
      refine (HRA2.out (by first | trivial | rfl) W8 hb8).mono ?_
      rintro e W9 ⟨A9', e9, B9', f9, rfl, _, hl9, hp9, hb9⟩
      have hbw9 := hb8.trans (hb9.mono hb8.size)
      have HSN := Lib.hid (SameNodes_c A8 c8 A9' e9 Cs HCL.out HCA.out W9 (hl8.below hb9) hl9)
      have HI9 := Lib.hid (fun (x : Aft W9) => Ints_c B8 d8 Ps HPL.out B9' f9 Ps HPL.out x.val ((hp8.below hb9).aft x) (hp9.aft x))
      rw [eqL_refl] at HI9
      have hsv9 := hsv.below hb9
      clear hl8 hp8 hl9 hp9 hsv
      go_wp2_with fail
      refine HSN.out.mono ?_
      rintro e w' ⟨rfl, y9, rfl⟩
      go_wp2_with fail
      refine (HI9.out y9).mono ?_
      rintro e w' ⟨rfl, z9', rfl⟩
      have hsv := (hsv9.below y9.pf).below z9'.pf
      have hb8' := z9'.below (y9.below hbw9 hbw9.size) (y9.below hbw9 hbw9.size).size
      have rX8' := (hb8'.block _ (lt_of_get rX2)).trans rX2
      clear hsv9 hb8 rX8
      have hb8 := hb8'
      have rX8 := rX8'
      clear hb8' rX8'
      generalize z9'.val = W8 at *
      go_upto_region 18 with (fail)
      by_cases hca : ca = 0
      case neg =>
        have c1 : (ca == 0) = false := by simpa using hca
        have c2 : (ca != 0) = true := by simpa using hca
        obtain rfl : es = ca := HS1.out hca
        have hes0 : es ≠ 0 := hca
        have hsn := hsv.nil (by first | exact hes0 | decide)
        subst hsn
        clear hca hes0 hsv
        go_wp2_with fail
        refine wp_region_aft (by kernel_rfl) (by kernel_rfl) ?_
        repeat (go_big_quiet_step (fail))
        refine wpQuiet_nil ?_
        intro z9
        have hb9 := z9.below hb8 hb8.size
        go_wp2
        go_ret
        exact ⟨rfl, Below.aft (hb2.trans (hb9.mono hb2.size))⟩
      have q0 := cell_block (i := 0) rX8
      simp at q0
      have c1 := hca
      subst hca
      cases hw : win x0 0 ((ls.length : Int) - 1) with
      | false =>
        have HWI := Lib.hid (fun (W : World) => Within_c x0 0 ((ls.length : Int) - 1) W)
        rw [hw] at HWI
        obtain rfl : es = 6 := HS2.out rfl hw
        have hsn := hsv.nil (by first | exact hes0 | decide)
        subst hsn
        clear hsv
        go_upto_region 20 with ((go_at_call 31; refine (HWI.out _).mono ?_; rintro e w' ⟨rfl, rfl⟩))
        go_wp2_with fail
        refine wp_region_aft (by kernel_rfl) (by kernel_rfl) ?_
        repeat (go_big_quiet_step (fail))
        refine wpQuiet_nil ?_
        intro z9
        have hb9 := z9.below hb8 hb8.size
        go_wp2
        go_ret
        exact ⟨rfl, Below.aft (hb2.trans (hb9.mono hb2.size))⟩
      | true =>
        have HWI := Lib.hid (fun (W : World) => Within_c x0 0 ((ls.length : Int) - 1) W)
        rw [hw] at HWI
        obtain ⟨p, u, rfl, hp, HY, u1, u2, hse⟩ := HS3.out rfl hw
        have hpl : (p : Int) < ls.length := by omega
        obtain ⟨aa, rfl, hal, cl⟩ := HA2.out.cell HY
        have hq0 : ∀ z : Aft W8, z.val.cell? ⟨w.heap.size + 1, 0, none⟩ = some (.int .i64 (p : Int)) := fun z => by
          have := cell_block (i := 0) (heap_aft z (lt_of_get rX8) rX8); simpa using this
        have hq1 : ∀ z : Aft W8, z.val.cell? ⟨w.heap.size + 1, 1, none⟩ = some (.int .i64 x1) := fun z => by
          have := cell_block (i := 1) (heap_aft z (lt_of_get rX8) rX8); simpa using this
        have hql : ∀ z : Aft W8, z.val.cell? (aa.add p) = some (.int .i64 u) := fun z => ((z.below hb8 hb8.size).cell (p := aa.add p) (by rw [addB]; exact hal)).trans cl
        have HFI := Lib.hid (fun (W : World) => Fits_c x1 u (by omega) (by omega) W)
        obtain ⟨bv, hbv⟩ : ∃ bv, fits x1 u = bv := ⟨_, rfl⟩
        rw [hbv] at HFI hse
        clear cl HY
        go_upto_region 20 with ((go_at_call 31; refine (HWI.out _).mono ?_; rintro e w' ⟨rfl, rfl⟩))
        cases bv with
        | false =>
          obtain rfl : es = 2 := hse
          have hsn := hsv.nil (by first | exact hes0 | decide)
          subst hsn
          clear hsv
          go_wp2_with fail
          refine wp_region_aft (by kernel_rfl) (by kernel_rfl) ?_
          repeat (go_big_quiet_step ((go_at_call 32; exact Calls.qs (HFI.out _))))
          refine wpQuiet_nil ?_
          intro z9
          have hb9 := z9.below hb8 hb8.size
          go_wp2
          go_ret
          exact ⟨rfl, Below.aft (hb2.trans (hb9.mono hb2.size))⟩
        | true =>
          obtain rfl : es = 0 := hse
          obtain ⟨A9, c9, hsn, hl9⟩ := hsv.good
          subst hsn
          clear hsv
          go_wp2_with fail
          refine wp_region_aft (by kernel_rfl) (by kernel_rfl) ?_
          repeat (go_big_quiet_step ((go_at_call 32; exact Calls.qs (HFI.out _))))
          refine wpQuiet_nil ?_
          intro z9
          have hb9 := z9.below hb8 hb8.size
          have hl10 := hl9.aft z9
          have q0 := hq0 z9
          have q1 := hq1 z9
          clear hq0 hq1 hql hl9
          generalize z9.val = W9 at *
          have HL10 := Lib.hid hl10
          clear hl10
          go_wp2_with fail
          refine (HRS2.out W9 hb9).mono ?_
          rintro e W10 ⟨A10, c10, rfl, _, hl11, hb10⟩
          have hb11 := hb9.trans (hb10.mono hb9.size)
          have HSN := Lib.hid (SameNodes_c A9 c9 A10 c10 T HTL.out HTA.out W10 (HL10.out.below hb10) hl11)
          clear hl11 q0 q1
          go_wp2_with fail
          refine HSN.out.mono ?_
          rintro e w' ⟨rfl, y9, rfl⟩
          have hb9 := y9.below hb11 hb11.size
          go_wp2
          go_ret
          exact ⟨rfl, Below.aft (hb2.trans (hb9.mono hb2.size))⟩

end Go.Proofs.YtkdonapgonegkaaDoor
