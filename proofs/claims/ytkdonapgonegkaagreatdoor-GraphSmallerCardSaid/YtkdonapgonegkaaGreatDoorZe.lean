/-
  Contracts of chapter 2 (graph): the error of values of leaves.
-/
import Derived.Test.YtkdonapgonegkaaGreatDoorZc
import Derived.Test.YtkdonapgonegkaaGreatDoorZd
import Derived.RangeFuncNested
import Derived.RangeFuncBound
import Derived.RangeFuncCalls
import Derived.RangeFuncLeaves
import Derived.Shelf.Abstract
import Derived.Shelf.RegionOpen
import Derived.OwnWalkIn
import Derived.TacticsInMore
import Derived.LoopNIn
import Derived.LoopIn
set_option linter.unusedSimpArgs false
set_option linter.unusedVariables false
namespace Go.Proofs.YtkdonapgonegkaaGreatDoor
open Go.RowKit Go.BigFrame

set_option maxRecDepth 100000 in
set_option maxHeartbeats 1600000 in
theorem firstWrong_value (c0 : Value) (E : Nat → Int) (A : Option Addr) (cap : Nat) (ns : List Int) (hl : ns.length ≤ 65536) (w : World) (h : LiesI w A ns)
    (hK : ∀ (k : Nat) (x : Int), ns[k]? = some x → ∀ W : World, Below w.heap.size w W → Calls Tryz.prog 95 #[.int .i64 k, .int .i64 x, c0] W fun e w' => e = .returned (.int .i64 (E k)) ∧ ∃ y : Aft W, w' = y.val) :
    Calls Tryz.prog 94 #[.slice A ns.length cap, .func (.func 95) #[] #[c0]] w fun e w' => e = .returned (.tuple #[.int .i64 (firstAt E ns.length 0).1, .int .i64 (firstAt E ns.length 0).2]) ∧ ∃ x : Aft w, w' = x.val := by
  have HH := Lib.hid h
  have HK := Lib.hid hK
  clear h hK
  go_enter Tryz.func94, Tryz.ntmps94
  go_wp2
  go_loopw [11] (fun v11 wr => ∃ k : Nat, k ≤ ns.length ∧ v11 = .int .i64 k ∧ firstAt E ns.length 0 = firstAt E (ns.length - k) k ∧ Below w.heap.size w wr) (fun v11 _ => ns.length - (intOf v11).toNat)
  case atStart => exact ⟨0, by omega, rfl, rfl, Below.refl _ _⟩
  case round =>
    obtain ⟨k, hk, rfl, hf, hb⟩ := hrel
    have HF := Lib.hid hf
    have HB := Lib.hid hb
    clear hf hb
    by_cases hlt : k < ns.length
    · have hkk : (k : Int) < ns.length := by omega
      have HX := Lib.hid (List.getElem?_eq_getElem hlt)
      generalize ns[k] = x at *
      obtain ⟨ad, rfl, hbk, hcell⟩ := HH.out.cell HX.out
      have c : wr.cell? (ad.add k) = some (.int .i64 x) := (HB.out.cell (p := ad.add k) (by rw [addB]; exact hbk)).trans hcell
      clear hcell hbk
      go_wp2_with fail
      refine (HK.out k x HX.out _ HB.out).mono ?_
      rintro e w' ⟨rfl, y, rfl⟩
      by_cases h0 : E k = 0
      · have hn := Lib.hid (firstAt_go hlt h0)
        have h0' : (E k == 0) = true := by simpa using h0
        rw [h0]
        clear h0 h0' c
        go_wp2
        go_roundw
        case rel => exact ⟨k + 1, by omega, by go_num, HF.out.trans hn.out, y.below HB.out HB.out.size⟩
        case measure => simp [intOf]; omega
      · have hn := Lib.hid (firstAt_stop hlt h0)
        have n1 : (E k == 0) = false := by simpa using h0
        have n2 : (E k != 0) = true := by simpa using h0
        clear h0 c
        generalize E k = er at *
        go_wp2
        go_ret2
        exact ⟨tupII (by rw [HF.out, hn.out]) (by rw [HF.out, hn.out]), Below.aft (y.below HB.out HB.out.size)⟩
    · have hn := Lib.hid (firstAt_end (f := E) (n := ns.length) (k := k) (by omega))
      go_wp2
      go_ret2
      exact ⟨tupII (by rw [HF.out, hn.out]) (by rw [HF.out, hn.out]), Below.aft HB.out⟩


set_option maxRecDepth 100000 in
set_option maxHeartbeats 1600000 in
theorem errorOfValues1_c (k : Nat) (x y : Int) (P : Nat) (A : Option Addr) (cap : Nat) (ls : List Int) (hls : ls.length ≤ 65536) (hy : ls[k]? = some y) (h1 : 0 ≤ y) (h2 : y ≤ 16) (w : World) (c0 : w.cell? ⟨P, 0, none⟩ = some (.slice A ls.length cap)) (hA : LiesI w A ls) :
    Calls Tryz.prog 95 #[.int .i64 k, .int .i64 x, .pointer (some ⟨P, 0, none⟩)] w fun e w' => e = .returned (.int .i64 (eIf (!isV x y) 2)) ∧ w = w' := by
  obtain ⟨ad, rfl, _, c⟩ := hA.cell hy
  have hk := (List.getElem?_eq_some_iff.1 hy).1
  have hkk : (k : Int) < ls.length := by omega
  have HV := Lib.hid (fun w => isValue_c x y h1 h2 w)
  clear hA hy
  go_enter Tryz.func95, Tryz.ntmps95
  go_wp2_with (first | (go_at_call 60; ((with_reducible refine (HV.out _).mono ?_); rintro e w' ⟨rfl, rfl⟩)) | (go_at_call 50; refine (errorIf_c _ _ _).mono ?_; rintro e w' ⟨rfl, rfl⟩))
  go_ret
  exact ⟨rfl, rfl⟩
/-- The error of one value of a leaf; of values of all leaves. -/
def valK (ls vs : List Int) (k : Nat) : Int := eIf (!isV (vs.getD k 0) (ls.getD k 0)) 2
def valE (ls vs : List Int) : Int := if vs.length = ls.length then (firstAt (valK ls vs) vs.length 0).2 else 10
theorem valK_at {ls vs : List Int} {k : Nat} {x y : Int} (hx : vs[k]? = some x) (hy : ls[k]? = some y) : valK ls vs k = eIf (!isV x y) 2 := by unfold valK; simp [List.getD, hx, hy]

set_option maxRecDepth 100000 in
set_option maxHeartbeats 1600000 in
theorem errorOfValues_c (A : Option Addr) (cap : Nat) (ls : List Int) (hls : ls.length ≤ 65536) (hw : ∀ x ∈ ls, isW x = true) (V : Option Addr) (cv : Nat) (vs : List Int) (hvs : vs.length ≤ 65536) (w : World) (hA : LiesI w A ls) (hV : LiesI w V vs) :
    Calls Tryz.prog 55 #[.slice A ls.length cap, .slice V vs.length cv] w fun e w' => e = .returned (.int .i64 (valE ls vs)) ∧ ∃ x : Aft w, w' = x.val := by
  by_cases hl : vs.length = ls.length
  case neg =>
    have hl' : ((vs.length : Int) == ls.length) = false := by simpa using (by omega : ¬ (vs.length : Int) = ls.length)
    have HR := Lib.hid (show valE ls vs = 10 from if_neg hl)
    clear hA hV hl hw
    go_enter Tryz.func55, Tryz.ntmps55
    go_wp2
    go_ret
    exact ⟨retI HR.out.symm, Below.aft (by (repeat' (first | (with_reducible exact Below.refl _ _) | (with_reducible assumption) | (with_reducible refine Below.alloc ?_ ?_ _) | (with_reducible refine Below.drew ?_) | (with_reducible refine Aft.below _ ?_ ?_) | (with_reducible refine Below.setCell_new ?_ ?_ _ _) | (with_reducible exact Nat.le_refl _) | (with_reducible refine Aft.le _ ?_) | (with_reducible refine le_alloc ?_) | (with_reducible refine le_drew ?_) | (with_reducible refine le_setCell ?_) | omega)))⟩
  have HR := Lib.hid (show valE ls vs = (firstAt (valK ls vs) vs.length 0).2 from if_pos hl)
  have hb0 : Below w.heap.size w (w.alloc (.cells #[.slice A ls.length cap] 22)) := (Below.refl _ _).alloc (Nat.le_refl _) _
  have c0 : ((w.alloc (.cells #[.slice A ls.length cap] 22))).cell? ⟨w.heap.size, 0, none⟩ = some (.slice A ls.length cap) := cell_block (i := 0) (heap_alloc_new _ _)
  have z0 : w.heap.size < ((w.alloc (.cells #[.slice A ls.length cap] 22))).heap.size := by simp
  have HF := Lib.hid (firstWrong_value (.pointer (some ⟨w.heap.size, 0, none⟩)) (valK ls vs) V cv vs hvs (w.alloc (.cells #[.slice A ls.length cap] 22)) (hV.below hb0) (fun k x hx W hb => by
    have hk : k < ls.length := by have := (List.getElem?_eq_some_iff.1 hx).1; omega
    have hy := List.getElem?_eq_getElem hk
    have h12 := isW_iff.1 (hw _ (List.getElem_mem hk))
    rw [valK_at hx hy]
    exact (errorOfValues1_c k x ls[k] w.heap.size A cap ls hls hy (by omega) h12.2 W ((hb.cell (p := ⟨w.heap.size, 0, none⟩) z0).trans c0) ((hA.below hb0).below hb)).mono fun e w' ⟨he, hw⟩ => ⟨he, ⟨W, Below.refl _ _⟩, hw.symm⟩))
  have HB := Lib.hid hb0
  have hl' : ((vs.length : Int) == ls.length) = true := by simpa using (by omega : (vs.length : Int) = ls.length)
  clear hA hV hl hw hb0 c0 z0
  generalize firstAt (valK ls vs) vs.length 0 = q at *
  go_enter Tryz.func55, Tryz.ntmps55
  go_wp2_with fail
  refine HF.out.mono ?_
  rintro e w' ⟨rfl, y, rfl⟩
  go_wp2
  go_ret
  exact ⟨retI HR.out.symm, Below.aft (y.below HB.out HB.out.size)⟩

end Go.Proofs.YtkdonapgonegkaaGreatDoor

set_option linter.unusedSimpArgs false
set_option linter.unusedVariables false
namespace Go.Proofs.YtkdonapgonegkaaGreatDoor
open Go.RowKit Go.BigFrame

theorem firstAt_zero {f : Nat → Int} : ∀ {m k : Nat}, (firstAt f m k).2 = 0 → ∀ j, k ≤ j → j < k + m → f j = 0 := by
  intro m
  induction m with
  | zero => intro k _ j h1 h2; omega
  | succ m ih =>
    intro k h j h1 h2
    unfold firstAt at h
    by_cases hk : f k = 0
    · rw [if_pos hk] at h
      by_cases hj : j = k
      · rw [hj]; exact hk
      · exact ih h j (by omega) (by omega)
    · rw [if_neg hk] at h; exact absurd h hk
theorem eIf_zero {b : Bool} {e : Int} (h : eIf b e = 0) (he : e ≠ 0) : b = false := by
  cases b
  · rfl
  · exact absurd h he

theorem nodeE_ok {ls : List Int} {before : List Nd} {n : Nd} (h : nodeE ls before n = 0) : isIx n.op 19 = true ∧ isW n.wd = true ∧ (n.args.length : Int) = argN n.op ∧ (∀ a ∈ n.args, isIx a before.length = true) ∧ numE ls n.op n.wd n.v = 0 ∧ fitW n.op n.wd n.v (wAt before n.args 0) (wAt before n.args 1) (wAt before n.args 2) = true := by
  unfold nodeE at h
  by_cases h1 : isIx n.op 19 = true
  · rw [if_pos h1] at h
    by_cases h2 : isW n.wd = true
    · rw [if_pos h2] at h
      simp only at h
      by_cases h3 : firstE [eIf ((n.args.length : Int) != argN n.op) 10, argsE n.args before.length 9, numE ls n.op n.wd n.v] = 0
      · rw [if_pos h3] at h
        have h4 := eIf_zero h (by decide)
        simp only [firstE_cons] at h3
        by_cases g1 : eIf ((n.args.length : Int) != argN n.op) 10 = 0
        · rw [if_pos g1] at h3
          by_cases g2 : argsE n.args before.length 9 = 0
          · rw [if_pos g2] at h3
            have g3 : numE ls n.op n.wd n.v = 0 := by
              by_cases g3 : numE ls n.op n.wd n.v = 0
              · exact g3
              · rw [if_neg g3] at h3; exact h3
            refine ⟨h1, h2, ?_, ?_, g3, by simpa using h4⟩
            · have := eIf_zero g1 (by decide); simpa using this
            · unfold argsE at g2
              intro a ha
              by_cases g4 : (n.args.all fun i => isIx i before.length) = true
              · exact List.all_eq_true.1 g4 a ha
              · rw [if_neg g4] at g2; exact absurd g2 (by decide)
          · rw [if_neg g2] at h3; exact absurd h3 g2
        · rw [if_neg g1] at h3; exact absurd h3 g1
      · rw [if_neg h3] at h; exact absurd h h3
    · rw [if_neg h2] at h; exact absurd h (by decide)
  · rw [if_neg h1] at h; exact absurd h (by decide)
theorem chk_ok {ls : List Int} {ns : List Nd} (h : (chk ls ns).2 = 0) : ls.length ≤ 40 ∧ (∀ x ∈ ls, isW x = true) ∧ ns.length ≤ 400 ∧ ∀ k n, ns[k]? = some n → nodeE ls (ns.take k) n = 0 := by
  unfold chk at h
  by_cases h1 : 40 < ls.length
  · rw [if_pos h1] at h; exact absurd h (by decide)
  · rw [if_neg h1] at h
    by_cases h2 : (firstAt (leafE ls) ls.length 0).2 = 0
    · rw [if_pos h2] at h
      by_cases h3 : 400 < ns.length
      · rw [if_pos h3] at h; exact absurd h (by decide)
      · rw [if_neg h3] at h
        refine ⟨by omega, ?_, by omega, ?_⟩
        · intro x hx
          obtain ⟨i, hi, rfl⟩ := List.mem_iff_getElem.1 hx
          have := firstAt_zero h2 i (by omega) (by omega)
          unfold leafE at this
          have := eIf_zero this (by decide)
          simpa [hi] using this
        · intro k n hn
          have := firstAt_zero h k (by omega) (by have := (List.getElem?_eq_some_iff.1 hn).1; omega)
          unfold nodesE at this
          rw [hn] at this
          exact this
    · rw [if_neg h2] at h; exact absurd h h2
theorem chk_nodes {ls : List Int} {ns : List Nd} (h : (chk ls ns).2 = 0) (k : Nat) (n : Nd) (hn : ns[k]? = some n) : NodeOK ns ls.length k n := by
  have hk := (List.getElem?_eq_some_iff.1 hn).1
  obtain ⟨h1, h2, h3, h4, h5, _⟩ := nodeE_ok ((chk_ok h).2.2.2 k n hn)
  obtain ⟨o0, o1⟩ := isIx_iff.1 h1
  obtain ⟨w1, w2⟩ := isW_iff.1 h2
  have al := argN_le n.op
  refine ⟨o0, by omega, w1, w2, by omega, ?_, ?_, ?_, ?_, ?_⟩
  · intro i a ha
    have := isIx_iff.1 (h4 a (List.mem_of_getElem? ha))
    rw [List.length_take_of_le (by omega)] at this
    exact this
  · intro e; rw [e] at h3; exact Int.ofNat_inj.1 h3
  · intro e; rw [e] at h3; exact Int.ofNat_inj.1 h3
  · intro e
    rw [e] at h5
    unfold numE at h5
    rw [if_neg (by decide), if_pos rfl] at h5
    by_cases hx : isIx n.v ls.length = true
    · exact isIx_iff.1 hx
    · rw [if_neg hx] at h5; exact absurd h5 (by decide)
  · intro e
    rw [e] at h5
    unfold numE at h5
    rw [if_neg (by decide), if_neg (by decide), if_pos rfl] at h5
    have := eIf_zero h5 (by decide)
    have := isIx_iff.1 (show isIx n.v 16 = true by simpa using this)
    omega
theorem valE_ok {ls vs : List Int} (hw : ∀ x ∈ ls, isW x = true) (h : valE ls vs = 0) : vs.length = ls.length ∧ ∀ x ∈ vs, 0 ≤ x ∧ x ≤ 65536 := by
  unfold valE at h
  by_cases h1 : vs.length = ls.length
  · rw [if_pos h1] at h
    refine ⟨h1, fun x hx => ?_⟩
    obtain ⟨i, hi, rfl⟩ := List.mem_iff_getElem.1 hx
    have hz := firstAt_zero h i (by omega) (by omega)
    rw [valK_at (List.getElem?_eq_getElem hi) (List.getElem?_eq_getElem (by omega))] at hz
    have hv := eIf_zero hz (by decide)
    have hiw := isW_iff.1 (hw ls[i] (List.getElem_mem _))
    have hp := pw_bd (n := ls[i]) (by omega) hiw.2
    have : isV vs[i] ls[i] = true := by simpa using hv
    unfold isV at this
    simp only [Bool.and_eq_true, decide_eq_true_eq] at this
    omega
  · rw [if_neg h1] at h; exact absurd h (by decide)
/-- A row of numbers, or an error and none. -/
def RowE (w : World) (er : Int) (xs : List Int) (e : Ending) (w' : World) : Prop :=
  (er ≠ 0 ∧ e = .returned (.tuple #[.slice none 0 0, .int .i64 er]) ∨ er = 0 ∧ ∃ A' cap', e = .returned (.tuple #[.slice A' xs.length cap', .int .i64 0]) ∧ LiesI w' A' xs) ∧ Below w.heap.size w w'
theorem RowE.bad {w w' : World} {er : Int} {xs : List Int} (h : er ≠ 0) (hb : Below w.heap.size w w') : RowE w er xs (.returned (.tuple #[.slice none 0 0, .int .i64 er])) w' := ⟨.inl ⟨h, rfl⟩, hb⟩
theorem RowE.good {w w' : World} {xs : List Int} {A' : Option Addr} {cap' : Nat} (hl : LiesI w' A' xs) (hb : Below w.heap.size w w') : RowE w 0 xs (.returned (.tuple #[.slice A' xs.length cap', .int .i64 0])) w' := ⟨.inr ⟨rfl, A', cap', rfl, hl⟩, hb⟩
/-- The error of a graph, then another one. -/
def thenE (a b : Int) : Int := if a = 0 then b else a


set_option maxRecDepth 100000 in
set_option maxHeartbeats 1600000 in
theorem ValuesOf_c (A : Option Addr) (cap : Nat) (ls : List Int) (hls : ls.length ≤ 65536) (N : Option Addr) (capN : Nat) (ns : List Nd) (hns : ns.length ≤ 65536) (hcap : ns.length ≤ capN) (hla : ∀ n ∈ ns, n.args.length ≤ 65536) (V : Option Addr) (cv : Nat) (vs : List Int) (hvs : vs.length ≤ 65536) (w : World) (hA : LiesI w A ls) (hN : LiesN w N ns) (hV : LiesI w V vs) (ht : TabOps w) :
    Calls Tryz.prog 25 #[.slice A ls.length cap, .slice N ns.length capN, .slice V vs.length cv] w (RowE w (thenE (chk ls ns).2 (valE ls vs)) (valsL ns vs)) := by
  have HC := errorOfGraph_c A cap ls hls N capN ns hns hcap hla w hA hN ht
  by_cases h0 : (chk ls ns).2 = 0
  case neg =>
    rw [show thenE (chk ls ns).2 (valE ls vs) = (chk ls ns).2 from if_neg h0]
    generalize (chk ls ns).2 = er at *
    have HC := Lib.hid HC
    have HE := Lib.hid h0
    have n1 : (er == 0) = false := by simpa using h0
    have n2 : (er != 0) = true := by simpa using h0
    clear h0 hA hN hV ht hla hcap
    go_enter Tryz.func25, Tryz.ntmps25
    go_wp2_with fail
    refine HC.out.mono ?_
    rintro e w' ⟨rfl, y, rfl⟩
    go_wp2
    go_ret2
    exact RowE.bad HE.out y.pf
  rw [show thenE (chk ls ns).2 (valE ls vs) = valE ls vs from if_pos h0]
  rw [h0] at HC
  have HC := Lib.hid HC
  have HOK := Lib.hid (chk_ok h0)
  have HND := Lib.hid (chk_nodes h0)
  have HV := Lib.hid (fun (x : Aft w) => errorOfValues_c A cap ls hls HOK.out.2.1 V cv vs hvs x.val (hA.aft x) (hV.aft x))
  have HVV := Lib.hid hV
  have HNN := Lib.hid hN
  clear h0 hA ht hla hcap hV hN
  by_cases h1 : valE ls vs = 0
  case neg =>
    generalize valE ls vs = er at *
    have HE := Lib.hid h1
    have n1 : (er == 0) = false := by simpa using h1
    have n2 : (er != 0) = true := by simpa using h1
    clear h1
    go_enter Tryz.func25, Tryz.ntmps25
    go_wp2_with fail
    refine HC.out.mono ?_
    rintro e w' ⟨rfl, y, rfl⟩
    go_wp2_with fail
    refine (HV.out y).mono ?_
    rintro e w' ⟨rfl, z, rfl⟩
    go_wp2
    go_ret2
    exact RowE.bad HE.out (z.below y.pf y.pf.size)
  have HVO := Lib.hid (valE_ok HOK.out.2.1 h1)
  rw [h1] at HV ⊢
  clear h1
  go_enter Tryz.func25, Tryz.ntmps25
  go_wp2_with fail
  refine HC.out.mono ?_
  rintro e w' ⟨rfl, y, rfl⟩
  go_wp2_with fail
  refine (HV.out y).mono ?_
  rintro e w' ⟨rfl, z, rfl⟩
  have HB := Lib.hid (z.below y.pf y.pf.size)
  generalize z.val = W at *
  go_wp2_with fail
  refine (valuesOf_c N capN ns hns V cv vs hvs HVO.out.2 (by rw [HVO.out.1]; exact HND.out) W (HNN.out.below HB.out) (HVV.out.below HB.out)).mono ?_
  rintro e w' ⟨A', cap', rfl, hl, hb⟩
  have HF := Lib.hid (RowE.good (cap' := cap') hl (HB.out.trans (hb.mono HB.out.size)))
  clear hl hb
  go_wp2
  go_ret2
  exact HF.out

end Go.Proofs.YtkdonapgonegkaaGreatDoor

set_option linter.unusedSimpArgs false
set_option linter.unusedVariables false
namespace Go.Proofs.YtkdonapgonegkaaGreatDoor
open Go.RowKit Go.BigFrame

/-- The depth of a node with these arguments, by those of the nodes before it. -/
def depF (ds : List Int) (args : List Int) : Int := args.foldl (fun m a => max m (ds.getD a.toNat 0 + 1)) 0
def depK (ns : List Nd) : Nat → List Int
  | 0 => []
  | k + 1 => depK ns k ++ (match ns[k]? with | none => [] | some n => [depF (depK ns k) n.args])
def depL (ns : List Nd) : List Int := depK ns ns.length
theorem depK_step {ns : List Nd} {k : Nat} {n : Nd} (h : ns[k]? = some n) : depK ns (k + 1) = depK ns k ++ [depF (depK ns k) n.args] := by simp only [depK, h]
theorem depK_len {ns : List Nd} : ∀ {k : Nat}, k ≤ ns.length → (depK ns k).length = k := by
  intro k
  induction k with
  | zero => intro _; rfl
  | succ k ih =>
    intro h
    rw [depK_step (List.getElem?_eq_getElem (by omega)), List.length_append, ih (by omega)]; rfl
theorem depL_len (ns : List Nd) : (depL ns).length = ns.length := depK_len (Nat.le_refl _)
theorem depF_step {ds args : List Int} {j : Nat} {a : Int} (h : args[j]? = some a) : depF ds (args.take (j + 1)) = max (depF ds (args.take j)) (ds.getD a.toNat 0 + 1) := by
  obtain ⟨hj, rfl⟩ := List.getElem?_eq_some_iff.1 h
  unfold depF
  rw [List.take_succ_eq_append_getElem hj, List.foldl_append]; rfl
theorem depF_bd {ds : List Int} {b : Int} (hd : ∀ x ∈ ds, 0 ≤ x ∧ x ≤ b) (hb : 0 ≤ b) : ∀ (args : List Int), 0 ≤ depF ds args ∧ depF ds args ≤ b + 1 := by
  have key : ∀ (args : List Int) (m : Int), 0 ≤ m → m ≤ b + 1 → 0 ≤ args.foldl (fun m a => max m (ds.getD a.toNat 0 + 1)) m ∧ args.foldl (fun m a => max m (ds.getD a.toNat 0 + 1)) m ≤ b + 1 := by
    intro args
    induction args with
    | nil => intro m h0 h1; exact ⟨h0, h1⟩
    | cons a args ih =>
      intro m h0 h1
      rw [List.foldl_cons]
      have hx : 0 ≤ ds.getD a.toNat 0 ∧ ds.getD a.toNat 0 ≤ b := by
        by_cases ha : a.toNat < ds.length
        · simp only [List.getD, List.getElem?_eq_getElem ha, Option.getD_some]; exact hd _ (List.getElem_mem ha)
        · simp only [List.getD, List.getElem?_eq_none (Nat.le_of_not_lt ha), Option.getD_none]; omega
      exact ih _ (by omega) (by omega)
  intro args
  exact key args 0 (Int.le_refl _) (by omega)
theorem depK_bd {ns : List Nd} : ∀ (k : Nat) x, x ∈ depK ns k → 0 ≤ x ∧ x ≤ k := by
  intro k
  induction k with
  | zero => intro x hx; simp [depK] at hx
  | succ k ih =>
    intro x hx
    simp only [depK, List.mem_append] at hx
    rcases hx with hx | hx
    · have := ih x hx; omega
    · cases hn : ns[k]? with
      | none => rw [hn] at hx; simp at hx
      | some n =>
        rw [hn] at hx
        have hx := List.mem_singleton.1 hx
        subst hx
        have := depF_bd (ds := depK ns k) (b := k) ih (by omega) n.args
        omega
/-- The row of depths: those of the first nodes, that of the next one so far, zeros. -/
def depR (ds : List Int) (m : Int) (z : Nat) : List Int := ds ++ m :: List.replicate z 0
theorem depR_start {ds : List Int} {n k : Nat} (hk : k < n) : ds ++ List.replicate (n - k) 0 = depR ds (depF ds (([] : List Int).take 0)) (n - (k + 1)) := by
  rw [show n - k = (n - (k + 1)) + 1 by omega, List.replicate_succ]; rfl
theorem depR_set {ds : List Int} {m x : Int} {z k : Nat} (h : ds.length = k) : (depR ds m z).set k x = depR ds x z := by
  unfold depR
  rw [List.set_append_right _ _ (by omega), h, Nat.sub_self, List.set_cons_zero]
theorem depR_mid {ds : List Int} {m : Int} {z k : Nat} (h : ds.length = k) : (depR ds m z)[k]? = some m := by
  unfold depR; rw [List.getElem?_append_right (by omega), h, Nat.sub_self]; rfl
theorem depR_at {ds : List Int} {m : Int} {z a : Nat} (h : a < ds.length) : (depR ds m z)[a]? = some (ds.getD a 0) := by
  unfold depR; rw [List.getElem?_append_left h, List.getD]; simp [List.getElem?_eq_getElem h]
theorem depR_end {ds : List Int} {m : Int} {z : Nat} : depR ds m z = (ds ++ [m]) ++ List.replicate z 0 := by
  unfold depR; rw [List.append_assoc]; rfl

set_option maxRecDepth 100000 in
set_option maxHeartbeats 1600000 in
theorem DepthsOf_c (A : Option Addr) (cap : Nat) (ls : List Int) (hls : ls.length ≤ 65536) (N : Option Addr) (capN : Nat) (ns : List Nd) (hns : ns.length ≤ 65536) (hcap : ns.length ≤ capN) (hla : ∀ n ∈ ns, n.args.length ≤ 65536) (w : World) (hA : LiesI w A ls) (hN : LiesN w N ns) (ht : TabOps w) :
    Calls Tryz.prog 31 #[.slice A ls.length cap, .slice N ns.length capN] w (RowE w (chk ls ns).2 (depL ns)) := by
  have HC := errorOfGraph_c A cap ls hls N capN ns hns hcap hla w hA hN ht
  by_cases h0 : (chk ls ns).2 = 0
  case neg =>
    generalize (chk ls ns).2 = er at *
    have HC := Lib.hid HC
    have HE := Lib.hid h0
    have n1 : (er == 0) = false := by simpa using h0
    have n2 : (er != 0) = true := by simpa using h0
    clear h0 hA hN ht hla hcap
    go_enter Tryz.func31, Tryz.ntmps31
    go_wp2_with fail
    refine HC.out.mono ?_
    rintro e w' ⟨rfl, y, rfl⟩
    go_wp2
    go_ret2
    exact RowE.bad HE.out y.pf
  obtain ⟨i0, hi, hz0, hz1, hz2⟩ := info_parts int_info
  rw [h0] at HC ⊢
  have HC := Lib.hid HC
  have HND := Lib.hid (chk_nodes h0)
  have HNN := Lib.hid hN
  clear h0 hA ht hcap hN
  have HLA := Lib.hid hla
  clear hla
  go_enter Tryz.func31, Tryz.ntmps31
  go_wp2_with fail
  refine HC.out.mono ?_
  rintro e w' ⟨rfl, y, rfl⟩
  have HB := Lib.hid y.pf
  generalize y.val = W at *
  go_wp2_with (refine wpList_make_full _ rfl _ _ 22 rfl W.heap.size 3 i0 _ 1 Tryz.underlying22 hi hz0 hz1 .i64 .i64 _ _ ns.length rfl rfl rfl rfl (by rw [hz2]; omega) (by unfold maxLen; omega) (Nat.le_refl _) ?_; intro W1 hown hgr; have hb2 := (Below.refl W.heap.size W).grown hgr (Nat.le_refl _) (fun q hq => by cases hq); have rg : W1.heap[W.heap.size]? = some (.cells (rowA (List.replicate ns.length 0)) 3) := (by have := row_block hown rfl; rwa [row_made] at this); clear hown hgr)
  have lg := lt_of_get rg
  have hbw := HB.out.trans (hb2.mono HB.out.size)
  have lw := HB.out.size
  clear hb2
  generalize W.heap.size = g at *
  go_loopw [23] (fun v23 wr => ∃ k : Nat, k ≤ ns.length ∧ v23 = .int .i64 k ∧ wr.heap[g]? = some (.cells (rowA (depK ns k ++ List.replicate (ns.length - k) 0)) 3) ∧ Below w.heap.size w wr) (fun v23 _ => ns.length - (intOf v23).toNat)
  case atStart => exact ⟨0, by omega, rfl, rg, hbw⟩
  case round =>
    clear rg hbw lg
    obtain ⟨k, hk, rfl, rg, hb⟩ := hrel
    have HVL := Lib.hid (depK_len hk)
    have HBD := Lib.hid (depK_bd (ns := ns) k)
    by_cases hlt : k < ns.length
    · have hkk : (k : Int) < ns.length := by omega
      have HX := Lib.hid (List.getElem?_eq_getElem hlt)
      have HL := Lib.hid (HLA.out _ (List.getElem_mem hlt))
      generalize ns[k] = x at *
      have HS := Lib.hid (depK_step HX.out)
      have HOK := Lib.hid (HND.out k x HX.out)
      obtain ⟨ad, rfl, hbl, c0, c1, c3, B, bc, c2, hB⟩ := HNN.out.cells HX.out
      have hbk : ∀ p : Addr, p.block = ad.block → wr.cell? p = w.cell? p := fun p hp => hb.cell (p := p) (by rw [hp]; exact hbl)
      have a0 := (hbk (ad.add (k * 4)) (by rw [addB])).trans c0
      have a1 : wr.cell? ⟨(ad.add (k * 4)).block, (ad.add (k * 4)).off + 1, none⟩ = some (.int .i64 x.wd) := (hbk ((ad.add (k * 4)).add 1) (by rw [addB, addB])).trans c1
      have a2 : wr.cell? ⟨(ad.add (k * 4)).block, (ad.add (k * 4)).off + 2, none⟩ = some (.slice B x.args.length bc) := (hbk ((ad.add (k * 4)).add 2) (by rw [addB, addB])).trans c2
      have a3 : wr.cell? ⟨(ad.add (k * 4)).block, (ad.add (k * 4)).off + 3, none⟩ = some (.int .i64 x.v) := (hbk ((ad.add (k * 4)).add 3) (by rw [addB, addB])).trans c3
      clear c0 c1 c2 c3 hbk
      have HBL := Lib.hid hB
      clear hB
      obtain ⟨op, wd, args, v⟩ := x
      simp only at a0 a1 a2 a3 HBL HL HS
      have hal : args.length ≤ 65536 := HL.out
      have rg1 := heap_alloc' (o := .cells #[.int .i64 op, .int .i64 wd, .slice B args.length bc, .int .i64 v] 61) (lt_of_get rg) rg
      have hb1 := hb.alloc hb.size (.cells #[.int .i64 op, .int .i64 wd, .slice B args.length bc, .int .i64 v] 61)
      have HST := Lib.hid (depR_start (ds := depK ns k) hlt)
      go_wp2
      clear a0 a1 a2 a3 rg hb
      generalize wr.alloc (.cells #[.int .i64 op, .int .i64 wd, .slice B args.length bc, .int .i64 v] 61) = W3 at *
      generalize wr.heap.size = nn at *
      go_loopw [31] (fun v31 w4 => ∃ j : Nat, j ≤ args.length ∧ v31 = .int .i64 j ∧ w4.heap[g]? = some (.cells (rowA (depR (depK ns k) (depF (depK ns k) (args.take j)) (ns.length - (k + 1)))) 3) ∧ Below w.heap.size w w4) (fun v31 _ => args.length - (intOf v31).toNat)
      case atStart => exact ⟨0, by omega, rfl, by have h := HST.out; rw [h] at rg1; exact rg1, hb1⟩
      case round =>
        clear rg1 hb1
        obtain ⟨j, hj, rfl, rg4, hb4⟩ := hrel
        by_cases hlt2 : j < args.length
        · have hjj : (j : Int) < args.length := by omega
          have HXA := Lib.hid (List.getElem?_eq_getElem hlt2)
          generalize args[j] = a at *
          obtain ⟨g0, g1⟩ := HOK.out.ai j a HXA.out
          obtain ⟨p, rfl⟩ := Int.eq_ofNat_of_zero_le g0
          have HFS := Lib.hid (depF_step (ds := depK ns k) HXA.out)
          obtain ⟨ba, rfl, hbal, ca⟩ := HBL.out.cell HXA.out
          have ca1 := (hb4.cell (p := ba.add j) (by rw [addB]; exact hbal)).trans ca
          have qk := (cell_block (i := k) rg4).trans (rowA_in (depR_mid HVL.out))
          have qp := (cell_block (i := p) rg4).trans (rowA_in (depR_at (by rw [HVL.out]; omega)))
          have lg4 := lt_of_get rg4
          have hm := depF_bd HBD.out (by omega) (args.take j)
          have hpk : p < k := by omega
          have hpn : (p : Int) < ns.length := by omega
          have he : 0 ≤ (depK ns k).getD p 0 ∧ (depK ns k).getD p 0 ≤ k := by
            have hpl : p < (depK ns k).length := by rw [HVL.out]; omega
            simp only [List.getD, List.getElem?_eq_getElem hpl, Option.getD_some]; exact HBD.out _ (List.getElem_mem hpl)
          have HFS : Hid (depF (depK ns k) (args.take (j + 1)) = max (depF (depK ns k) (args.take j)) ((depK ns k).getD p 0 + 1)) := Lib.hid HFS.out
          clear ca
          generalize (depK ns k).getD p 0 = e at *
          generalize depF (depK ns k) (args.take j) = m at *
          obtain ⟨he0, he1⟩ := he
          obtain ⟨hm0, hm1⟩ := hm
          go_wp2_with fail
          refine wp_region_aft_tail 13 (by kernel_rfl) (by kernel_rfl) ?_
          simp only [List.take_succ_cons, List.take_zero, List.drop_succ_cons, List.drop_zero]
          repeat (go_big_quiet_step (fail))
          refine wpQuiet_nil ?_
          intro y
          obtain ⟨mx, hmx⟩ : ∃ mx, (if m < e + 1 then e + 1 else m) = mx := ⟨_, rfl⟩
          rw [hmx]
          have HM := Lib.hid (show max m (e + 1) = mx by rw [← hmx]; split <;> omega)
          clear hmx
          have rgy := heap_aft y lg4 rg4
          have hby := y.below hb4 hb4.size
          have qk := (cell_block (i := k) rgy).trans (rowA_in (depR_mid HVL.out))
          have fk := free_block (i := k) rgy
          have HFIN := Lib.hid (show (y.val.setCell ⟨g, k, none⟩ (.int .i64 mx)).heap[g]? = some (.cells (rowA (depR (depK ns k) (depF (depK ns k) (args.take (j + 1))) (ns.length - (k + 1)))) 3) ∧ Below w.heap.size w (y.val.setCell ⟨g, k, none⟩ (.int .i64 mx)) from
            ⟨by rw [heap_set rgy, rowA_set, depR_set HVL.out, HFS.out, HM.out], hby.setCell lw _⟩)
          generalize y.val = W4 at *
          clear rgy hby
          go_wp2
          go_roundw
          case rel => exact ⟨j + 1, by omega, by go_num, HFIN.out.1, HFIN.out.2⟩
          case measure => simp [intOf]; omega
        · obtain rfl : j = args.length := by omega
          have HFIN := Lib.hid (show wr.heap[g]? = some (.cells (rowA (depK ns (k + 1) ++ List.replicate (ns.length - (k + 1)) 0)) 3) from by
            rw [List.take_length] at rg4; rw [rg4, depR_end, HS.out])
          clear rg4
          go_wp2
          go_roundw
          case rel => exact ⟨k + 1, by omega, by go_num, HFIN.out, hb4⟩
          case measure => simp [intOf]; omega
    · obtain rfl : k = ns.length := by omega
      rw [Nat.sub_self, List.replicate_zero, List.append_nil] at rg
      have HF := Lib.hid (show RowE w 0 (depL ns) (.returned (.tuple #[.slice (some ⟨g, 0, none⟩) ns.length ns.length, .int .i64 0])) wr from by
        have := RowE.good (cap' := ns.length) (LiesI.block (ns := depL ns) rg) hb
        rwa [depL_len] at this)
      go_wp2
      go_ret2
      exact HF.out

end Go.Proofs.YtkdonapgonegkaaGreatDoor

set_option linter.unusedSimpArgs false
set_option linter.unusedVariables false
namespace Go.Proofs.YtkdonapgonegkaaGreatDoor
open Go.RowKit Go.BigFrame

/-- A row of truth values. -/
def rowB (bs : List Bool) : Array Value := (bs.map Value.bool).toArray
theorem rowB_in {bs : List Bool} {k : Nat} {b : Bool} (h : bs[k]? = some b) : (rowB bs)[k]? = some (.bool b) := by simp [rowB, h]
theorem rowB_set (bs : List Bool) (k : Nat) (b : Bool) : (rowB bs).setIfInBounds k (.bool b) = rowB (bs.set k b) := by
  simp [rowB, List.setIfInBounds_toArray, List.map_set]
theorem rowB_made (n : Nat) : ((madeCells (Value.bool false).cells (n * 1)).toList).toArray = rowB (List.replicate n false) := by
  rw [show (Value.bool false).cells = #[Value.bool false] from rfl, Nat.mul_one, toList_madeCells_one]
  simp [rowB]
theorem bool_info : (Tryz.prog.info? 4).map (fun i => (i.zero, i.size, i.bytes)) = some (some (.bool false), 1, 1) := by kernel_rfl
/-- A slice of truth values in memory. -/
def LiesB (w : World) (A : Option Addr) (bs : List Bool) : Prop :=
  0 < bs.length → ∃ ad, A = some ad ∧ ad.block < w.heap.size ∧ ∀ i b, bs[i]? = some b → w.cell? (ad.add i) = some (.bool b)
theorem LiesB.below {w W : World} {A : Option Addr} {bs : List Bool} (h : LiesB w A bs) (hb : Below w.heap.size w W) : LiesB W A bs := fun hp => by
  obtain ⟨ad, rfl, hbk, hc⟩ := h hp
  exact ⟨ad, rfl, Nat.lt_of_lt_of_le hbk hb.size, fun i b hi => (hb.cell (p := ad.add i) (by rw [addB]; exact hbk)).trans (hc i b hi)⟩
theorem LiesB.cell {w : World} {A : Option Addr} {bs : List Bool} (h : LiesB w A bs) {k : Nat} {b : Bool} (hx : bs[k]? = some b) : ∃ ad, A = some ad ∧ ad.block < w.heap.size ∧ w.cell? (ad.add k) = some (.bool b) := by
  obtain ⟨ad, rfl, hb, hc⟩ := h (by have := (List.getElem?_eq_some_iff.1 hx).1; omega)
  exact ⟨ad, rfl, hb, hc k b hx⟩
theorem LiesB.block {w : World} {g : Nat} {T : TypeId} {bs : List Bool} (h : w.heap[g]? = some (.cells (rowB bs) T)) : LiesB w (some ⟨g, 0, none⟩) bs := fun _ => by
  refine ⟨_, rfl, (Array.getElem?_eq_some_iff.1 h).1, fun i b hi => ?_⟩
  have := cell_block (i := i) h
  rw [Addr.add_lit, Nat.zero_add, this]
  exact rowB_in hi
def CopiedB (w : World) (bs : List Bool) (e : Ending) (w' : World) : Prop := ∃ A' cap', e = .returned (.slice A' bs.length cap') ∧ LiesB w' A' bs ∧ (∀ ad, A' = some ad → w.heap.size ≤ ad.block) ∧ Below w.heap.size w w'
/-- All blocks but one are as they were. -/
structure But (g : Nat) (W w : World) : Prop where
  size : W.heap.size ≤ w.heap.size
  block : ∀ n, n < W.heap.size → n ≠ g → w.heap[n]? = W.heap[n]?
theorem But.refl (g : Nat) (W : World) : But g W W := ⟨Nat.le_refl _, fun _ _ _ => rfl⟩
theorem But.below {g : Nat} {W w w' : World} (h : But g W w) (hb : Below w.heap.size w w') : But g W w' :=
  ⟨Nat.le_trans h.size hb.size, fun n hn hg => (hb.block n (Nat.lt_of_lt_of_le hn h.size)).trans (h.block n hn hg)⟩
theorem But.setCell {g k : Nat} {W w : World} {v : Value} (h : But g W w) : But g W (w.setCell ⟨g, k, none⟩ v) :=
  ⟨by simpa using h.size, fun n hn hg => (heap_setCell_ne (fun e => hg e.symm)).trans (h.block n hn hg)⟩
theorem But.cell {g : Nat} {W w : World} (h : But g W w) {p : Addr} (hp : p.block < W.heap.size) (hg : p.block ≠ g) : w.cell? p = W.cell? p := by
  unfold World.cell?; rw [h.block _ hp hg]
theorem Below.but {g : Nat} {W w : World} (h : Below W.heap.size W w) : But g W w := (But.refl g W).below h
/-- Some marks more. -/
def markL (bs : List Bool) (is : List Int) : List Bool := is.foldl (fun b i => b.set i.toNat true) bs
theorem markL_len (is : List Int) : ∀ bs : List Bool, (markL bs is).length = bs.length := by
  induction is with
  | nil => intro bs; rfl
  | cons i is ih => intro bs; show (markL (bs.set i.toNat true) is).length = _; rw [ih]; simp
theorem markL_step {bs : List Bool} {is : List Int} {j : Nat} {i : Int} (h : is[j]? = some i) : markL bs (is.take (j + 1)) = (markL bs (is.take j)).set i.toNat true := by
  obtain ⟨hj, rfl⟩ := List.getElem?_eq_some_iff.1 h
  unfold markL
  rw [List.take_succ_eq_append_getElem hj, List.foldl_append]; rfl
/-- From the last node on, the arguments of marked nodes are marked. -/
def belD (ns : List Nd) : Nat → List Bool → List Bool
  | 0, bs => bs
  | k + 1, bs => belD ns k (if bs.getD k false then (match ns[k]? with | none => bs | some n => markL bs n.args) else bs)
theorem belD_no {ns : List Nd} {k : Nat} {bs : List Bool} (h : bs[k]? = some false) : belD ns (k + 1) bs = belD ns k bs := by
  simp [belD, List.getD, h]
theorem belD_yes {ns : List Nd} {k : Nat} {bs : List Bool} {n : Nd} (h : bs[k]? = some true) (hn : ns[k]? = some n) : belD ns (k + 1) bs = belD ns k (markL bs n.args) := by
  simp [belD, List.getD, h, hn]
theorem belD_len {ns : List Nd} : ∀ (k : Nat) (bs : List Bool), (belD ns k bs).length = bs.length := by
  intro k
  induction k with
  | zero => intro bs; rfl
  | succ k ih =>
    intro bs
    rw [belD, ih]
    split
    · split
      · rfl
      · rw [markL_len]
    · rfl
def belL (ns : List Nd) (fr : List Int) : List Bool := belD ns ns.length (markL (List.replicate ns.length false) fr)
theorem belL_len (ns : List Nd) (fr : List Int) : (belL ns fr).length = ns.length := by unfold belL; rw [belD_len, markL_len, List.length_replicate]

set_option maxRecDepth 100000 in
set_option maxHeartbeats 1600000 in
theorem below_c (N : Option Addr) (capN : Nat) (ns : List Nd) (hns : ns.length ≤ 65536) (L : Nat) (hall : ∀ k n, ns[k]? = some n → NodeOK ns L k n) (F : Option Addr) (cf : Nat) (fr : List Int) (hfr : fr.length ≤ 65536) (hf : ∀ x ∈ fr, isIx x ns.length = true) (w : World) (hN : LiesN w N ns) (hF : LiesI w F fr) :
    Calls Tryz.prog 73 #[.slice N ns.length capN, .slice F fr.length cf] w (CopiedB w (belL ns fr)) := by
  obtain ⟨i0, hi, hz0, hz1, hz2⟩ := info_parts bool_info
  have HNN := Lib.hid hN
  have HFF := Lib.hid hF
  have HALL := Lib.hid hall
  have HFX := Lib.hid hf
  clear hN hF hall hf
  go_enter Tryz.func73, Tryz.ntmps73
  go_wp2_with (refine wpList_make_full _ rfl _ _ 78 rfl w.heap.size 4 i0 _ 1 Tryz.underlying78 hi hz0 hz1 .i64 .i64 _ _ ns.length rfl rfl rfl rfl (by rw [hz2]; omega) (by unfold maxLen; omega) (Nat.le_refl _) ?_; intro W1 hown hgr; have hb2 := (Below.refl w.heap.size w).grown hgr (Nat.le_refl _) (fun q hq => by cases hq); have rg : W1.heap[w.heap.size]? = some (.cells (rowB (List.replicate ns.length false)) 4) := (by have := row_block hown rfl; rwa [rowB_made] at this); clear hown hgr)
  have lg := lt_of_get rg
  have lw : w.heap.size ≤ w.heap.size := Nat.le_refl _
  generalize hg : w.heap.size = g at *
  have hb0 : Below w.heap.size w W1 := by rw [hg]; exact hb2
  clear hb2
  go_loopw [16] (fun v16 wr => ∃ j : Nat, j ≤ fr.length ∧ v16 = .int .i64 j ∧ wr.heap[g]? = some (.cells (rowB (markL (List.replicate ns.length false) (fr.take j))) 4) ∧ Below w.heap.size w wr) (fun v16 _ => fr.length - (intOf v16).toNat)
  case atStart => exact ⟨0, by omega, rfl, rg, hb0⟩
  case round =>
    clear rg hb0 lg
    obtain ⟨j, hj, rfl, rg, hb⟩ := hrel
    by_cases hlt : j < fr.length
    · have hjj : (j : Int) < fr.length := by omega
      have HX := Lib.hid (List.getElem?_eq_getElem hlt)
      have HIX := Lib.hid (HFX.out _ (List.getElem_mem hlt))
      generalize fr[j] = a at *
      obtain ⟨g0, g1⟩ := isIx_iff.1 HIX.out
      obtain ⟨p, rfl⟩ := Int.eq_ofNat_of_zero_le g0
      obtain ⟨ba, rfl, hbal, ca⟩ := HFF.out.cell HX.out
      have ca1 := (hb.cell (p := ba.add j) (by rw [addB]; exact hbal)).trans ca
      have HS := Lib.hid (markL_step (bs := List.replicate ns.length false) HX.out)
      have hpl : p < (markL (List.replicate ns.length false) (fr.take j)).length := by rw [markL_len, List.length_replicate]; omega
      obtain ⟨u, hu⟩ : ∃ u, (markL (List.replicate ns.length false) (fr.take j))[p]? = some u := ⟨_, List.getElem?_eq_getElem hpl⟩
      have qp := (cell_block (i := p) rg).trans (rowB_in hu)
      have fp := free_block (i := p) rg
      have HFIN := Lib.hid (show (wr.setCell ⟨g, p, none⟩ (.bool true)).heap[g]? = some (.cells (rowB (markL (List.replicate ns.length false) (fr.take (j + 1)))) 4) ∧ Below w.heap.size w (wr.setCell ⟨g, p, none⟩ (.bool true)) from
        ⟨by rw [heap_set rg, rowB_set, HS.out]; rfl, hb.setCell (p := ⟨g, p, none⟩) (Nat.le_of_eq hg) _⟩)
      clear ca rg hb hpl hu
      go_wp2
      go_roundw
      case rel => exact ⟨j + 1, by omega, by go_num, HFIN.out.1, HFIN.out.2⟩
      case measure => simp [intOf]; omega
    · obtain rfl : j = fr.length := by omega
      rw [List.take_length] at rg
      have HML := Lib.hid (show (markL (List.replicate ns.length false) fr).length = ns.length by rw [markL_len, List.length_replicate])
      have HBE : Hid (belL ns fr = belD ns ns.length (markL (List.replicate ns.length false) fr)) := Lib.hid rfl
      generalize markL (List.replicate ns.length false) fr = bs0 at *
      go_wp2_with fail
      have hb0 := hb
      clear hb
      go_loopw [8] (fun v8 wr => ∃ (m : Nat) (bs : List Bool) (t : Int), m ≤ ns.length ∧ t + 1 = (m : Int) ∧ v8 = .int .i64 t ∧ bs.length = ns.length ∧ belL ns fr = belD ns m bs ∧ wr.heap[g]? = some (.cells (rowB bs) 4) ∧ Below w.heap.size w wr) (fun v8 _ => (intOf v8 + 1).toNat)
      case atStart => exact ⟨ns.length, bs0, _, Nat.le_refl _, by omega, rfl, HML.out, HBE.out, rg, hb0⟩
      case round =>
        clear rg hb0
        obtain ⟨m, bs, t, hm, ht, rfl, hbl, hbd, rg, hb⟩ := hrel
        have HBD := Lib.hid hbd
        have HBN := Lib.hid hbl
        clear hbd hbl
        match m, hm, ht, HBD with
        | 0, _, ht, HBD =>
          obtain rfl : t = -1 := by omega
          have HF := Lib.hid (show CopiedB w (belL ns fr) (.returned (.slice (some ⟨g, 0, none⟩) ns.length ns.length)) wr from ⟨_, ns.length, by rw [belL_len], by rw [HBD.out]; exact LiesB.block rg, fun ad h => (by injection h with h; subst h; exact Nat.le_of_eq hg), hb⟩)
          go_wp2
          go_ret
          exact HF.out
        | k + 1, hm, ht, HBD =>
          obtain rfl : t = (k : Int) := by omega
          have hk : k < ns.length := hm
          have hkk : (k : Int) < ns.length := by omega
          obtain ⟨u, hu⟩ : ∃ u, bs[k]? = some u := ⟨_, List.getElem?_eq_getElem (by rw [HBN.out]; exact hk)⟩
          have qk := (cell_block (i := k) rg).trans (rowB_in hu)
          have lg := lt_of_get rg
          cases u with
          | false =>
            have HFIN := Lib.hid (HBD.out.trans (belD_no hu))
            clear hu
            go_wp2
            go_roundw
            case rel => exact ⟨k, bs, _, by omega, by omega, rfl, HBN.out, HFIN.out, rg, hb⟩
            case measure => simp [intOf]; try omega
          | true =>
            have HX := Lib.hid (List.getElem?_eq_getElem hk)
            generalize ns[k] = x at *
            have HFIN := Lib.hid (HBD.out.trans (belD_yes hu HX.out))
            have HOK := Lib.hid (HALL.out k x HX.out)
            clear hu
            obtain ⟨ad, rfl, hbl, c0, c1, c3, B, bc, c2, hB⟩ := HNN.out.cells HX.out
            have hbk : ∀ p : Addr, p.block = ad.block → wr.cell? p = w.cell? p := fun p hp => hb.cell (p := p) (by rw [hp]; exact hbl)
            have a0 := (hbk (ad.add (k * 4)) (by rw [addB])).trans c0
            have a1 : wr.cell? ⟨(ad.add (k * 4)).block, (ad.add (k * 4)).off + 1, none⟩ = some (.int .i64 x.wd) := (hbk ((ad.add (k * 4)).add 1) (by rw [addB, addB])).trans c1
            have a2 : wr.cell? ⟨(ad.add (k * 4)).block, (ad.add (k * 4)).off + 2, none⟩ = some (.slice B x.args.length bc) := (hbk ((ad.add (k * 4)).add 2) (by rw [addB, addB])).trans c2
            have a3 : wr.cell? ⟨(ad.add (k * 4)).block, (ad.add (k * 4)).off + 3, none⟩ = some (.int .i64 x.v) := (hbk ((ad.add (k * 4)).add 3) (by rw [addB, addB])).trans c3
            clear c0 c1 c2 c3 hbk
            have HBL := Lib.hid hB
            clear hB
            clear a0 a1 a3
            have HAL : Hid (x.args.length ≤ 3) := Lib.hid HOK.out.al
            have hal := HAL.out
            go_wp2_with fail
            have hb1 := hb
            have HBN1 : Hid ((markL bs x.args).length = ns.length) := Lib.hid (by rw [markL_len]; exact HBN.out)
            go_loopw [42] (fun v42 w4 => ∃ j : Nat, j ≤ x.args.length ∧ v42 = .int .i64 j ∧ w4.heap[g]? = some (.cells (rowB (markL bs (x.args.take j))) 4) ∧ Below w.heap.size w w4) (fun v42 _ => x.args.length - (intOf v42).toNat)
            case atStart => exact ⟨0, by omega, rfl, rg, hb1⟩
            case round =>
              clear rg hb1 hb qk a2
              obtain ⟨j, hj, rfl, rg, hb⟩ := hrel
              by_cases hlt2 : j < x.args.length
              · have hjj : (j : Int) < x.args.length := by omega
                have HXA := Lib.hid (List.getElem?_eq_getElem hlt2)
                generalize x.args[j] = a at *
                obtain ⟨g0, g1⟩ := HOK.out.ai j a HXA.out
                obtain ⟨p, rfl⟩ := Int.eq_ofNat_of_zero_le g0
                have hpk : (p : Int) < ns.length := by omega
                obtain ⟨ba, rfl, hbal, ca⟩ := HBL.out.cell HXA.out
                have ca1 := (hb.cell (p := ba.add j) (by rw [addB]; exact hbal)).trans ca
                have HS := Lib.hid (markL_step (bs := bs) HXA.out)
                have hpl : p < (markL bs (x.args.take j)).length := by rw [markL_len, HBN.out]; omega
                obtain ⟨u, hu⟩ : ∃ u, (markL bs (x.args.take j))[p]? = some u := ⟨_, List.getElem?_eq_getElem hpl⟩
                have qp := (cell_block (i := p) rg).trans (rowB_in hu)
                have fp := free_block (i := p) rg
                have HF2 := Lib.hid (show (wr.setCell ⟨g, p, none⟩ (.bool true)).heap[g]? = some (.cells (rowB (markL bs (x.args.take (j + 1)))) 4) ∧ Below w.heap.size w (wr.setCell ⟨g, p, none⟩ (.bool true)) from
                  ⟨by rw [heap_set rg, rowB_set, HS.out]; rfl, hb.setCell (p := ⟨g, p, none⟩) (Nat.le_of_eq hg) _⟩)
                clear ca rg hb hpl hu
                go_wp2
                go_roundw
                case rel => exact ⟨j + 1, by omega, by go_num, HF2.out.1, HF2.out.2⟩
                case measure => simp [intOf]; omega
              · obtain rfl : j = x.args.length := by omega
                rw [List.take_length] at rg
                go_wp2
                go_roundw
                case rel => exact ⟨k, _, _, by omega, by omega, rfl, HBN1.out, HFIN.out, rg, hb⟩
                case measure => simp [intOf]; try omega

end Go.Proofs.YtkdonapgonegkaaGreatDoor

set_option linter.unusedSimpArgs false
set_option linter.unusedVariables false
namespace Go.Proofs.YtkdonapgonegkaaGreatDoor
open Go.RowKit Go.BigFrame

/-- The indexes of the marks that are set, among the first ones. -/
def choK (bs : List Bool) : Nat → List Int
  | 0 => []
  | k + 1 => choK bs k ++ (if bs.getD k false then [(k : Int)] else [])
def choL (bs : List Bool) : List Int := choK bs bs.length
theorem choK_no {bs : List Bool} {k : Nat} (h : bs[k]? = some false) : choK bs (k + 1) = choK bs k := by simp [choK, List.getD, h]
theorem choK_yes {bs : List Bool} {k : Nat} (h : bs[k]? = some true) : choK bs (k + 1) = choK bs k ++ [(k : Int)] := by simp [choK, List.getD, h]
theorem choK_len {bs : List Bool} : ∀ k : Nat, (choK bs k).length ≤ k := by
  intro k
  induction k with
  | zero => exact Nat.le_refl _
  | succ k ih => simp only [choK]; split <;> simp <;> omega
theorem choK_mem {bs : List Bool} : ∀ (k : Nat) x, x ∈ choK bs k → 0 ≤ x ∧ x < k := by
  intro k
  induction k with
  | zero => intro x hx; simp [choK] at hx
  | succ k ih =>
    intro x hx
    simp only [choK, List.mem_append] at hx
    rcases hx with hx | hx
    · have := ih x hx; omega
    · split at hx
      · have := List.mem_singleton.1 hx; omega
      · simp at hx
theorem choL_mem {bs : List Bool} {x : Int} (h : x ∈ choL bs) : 0 ≤ x ∧ x < bs.length := choK_mem _ x h
/-- A row of the call's own, as a result. -/
theorem own_copied {w w' : World} {base : Nat} {e : TypeId} {v : Value} {xs : List Int} (h : w'.ownsRow base e 1 v xs.length (xs.map (.int .i64))) (hb : Below w.heap.size w w') : CopiedI w xs (.returned v) w' := by
  rcases h.2 with ⟨rfl, h0⟩ | ⟨g, cap', cur, rfl, _⟩
  · exact ⟨none, 0, by rw [h0], fun hp => by omega, hb⟩
  · exact ⟨_, cap', rfl, LiesI.of_own h, hb⟩
theorem own_snoc {w : World} {base : Nat} {e : TypeId} {v : Value} {n : Nat} {xs ys : List Int} {k : Int} (h : w.ownsRow base e 1 v (n + 1) (xs.map (Value.int .i64) ++ [.int .i64 k])) (hn : n = xs.length) (hy : ys = xs ++ [k]) : w.ownsRow base e 1 v ys.length (ys.map (Value.int .i64)) := by
  subst hn; subst hy
  rw [List.length_append, List.map_append]; exact h

set_option maxRecDepth 100000 in
set_option maxHeartbeats 1600000 in
theorem chosen_c (M : Option Addr) (cm : Nat) (bs : List Bool) (hbs : bs.length ≤ 65536) (w : World) (hM : LiesB w M bs) :
    Calls Tryz.prog 117 #[.slice M bs.length cm] w (CopiedI w (choL bs)) := by
  obtain ⟨i0, hi, hz0, hz1, hz2⟩ := info_parts int_info
  have HM := Lib.hid hM
  clear hM
  go_enter Tryz.func117, Tryz.ntmps117
  go_wp2_with fail
  go_loopw [3, 8] (fun v3 v8 wr => ∃ k : Nat, k ≤ bs.length ∧ v8 = .int .i64 k ∧ wr.ownsRow w.heap.size 3 1 v3 (choK bs k).length ((choK bs k).map (Value.int .i64)) ∧ Below w.heap.size w wr) (fun _ v8 _ => bs.length - (intOf v8).toNat)
  case atStart => exact ⟨0, by omega, rfl, World.ownsRow_nil _ _ _ _, Below.refl _ _⟩
  case round =>
    obtain ⟨k, hk, rfl, hown, hb⟩ := hrel
    have hbs' := hb.size
    have hcl := choK_len (bs := bs) k
    by_cases hlt : k < bs.length
    · have hkk : (k : Int) < bs.length := by omega
      have HX := Lib.hid (List.getElem?_eq_getElem hlt)
      generalize bs[k] = b at *
      obtain ⟨ad, rfl, hbl, c0⟩ := HM.out.cell HX.out
      have c1 := (hb.cell (p := ad.add k) (by rw [addB]; exact hbl)).trans c0
      clear c0
      cases b with
      | false =>
        have HS := Lib.hid (choK_no HX.out)
        have HO := Lib.hid hown
        clear hown
        go_wp2
        go_roundw
        case rel => exact ⟨k + 1, by omega, by go_num, by rw [HS.out]; exact HO.out, hb⟩
        case measure => simp [intOf]; omega
      | true =>
        have HS := Lib.hid (choK_yes HX.out)
        generalize hm : (choK bs k).length = m at *
        go_wp2_with (at_builtin; refine wpList_append_own _ rfl _ _ 22 rfl w.heap.size 3 i0 (.int .i64 0) 1 8 Tryz.underlying22 hi hz0 hz1 hz2 rfl (by decide) _ _ _ rfl (hown.alloc _) ⟨_, 0, none⟩ 1 1 [.int .i64 _] rfl rfl (cell_one_new _ _ _) (fun x hx => by simp at hx; subst hx; rfl) (by unfold maxLen; omega) (by omega) (by first | omega | (simp; omega) | (simp at *; omega)) ?_; intro v' w3 hown' hgrow3 hnn)
        have HF := Lib.hid (own_snoc hown' hm.symm HS.out)
        have HB := Lib.hid ((hb.alloc hbs' (.cells #[.int .i64 k] 3)).grown hgrow3 (by simp; omega) (fun q hq => (hown.lt q hq).1))
        clear hown' hgrow3 hown
        go_wp2
        go_roundw
        case rel => exact ⟨k + 1, by omega, by go_num, HF.out, HB.out⟩
        case measure => simp [intOf]; omega
    · obtain rfl : k = bs.length := by omega
      have HF := Lib.hid (show CopiedI w (choL bs) (.returned u3) wr from own_copied hown hb)
      clear hown
      go_wp2
      go_ret
      exact HF.out

end Go.Proofs.YtkdonapgonegkaaGreatDoor

set_option linter.unusedSimpArgs false
set_option linter.unusedVariables false
namespace Go.Proofs.YtkdonapgonegkaaGreatDoor
open Go.RowKit Go.BigFrame

/-- The leaves of marked leaf nodes, among the first nodes. -/
def useK (ns : List Nd) (bs : List Bool) (L : Nat) : Nat → List Bool
  | 0 => List.replicate L false
  | k + 1 => match ns[k]? with
    | none => useK ns bs L k
    | some n => if bs.getD k false = true ∧ n.op = 1 then (useK ns bs L k).set n.v.toNat true else useK ns bs L k
theorem useK_len {ns : List Nd} {bs : List Bool} {L : Nat} : ∀ k : Nat, (useK ns bs L k).length = L := by
  intro k
  induction k with
  | zero => simp [useK]
  | succ k ih =>
    simp only [useK]
    split
    · exact ih
    · split
      · rw [List.length_set]; exact ih
      · exact ih
theorem useK_no {ns : List Nd} {bs : List Bool} {L k : Nat} {n : Nd} {b : Bool} (hn : ns[k]? = some n) (hb : bs[k]? = some b) (h : ¬ (b = true ∧ n.op = 1)) : useK ns bs L (k + 1) = useK ns bs L k := by
  have e : bs.getD k false = b := by simp [List.getD, hb]
  simp only [useK, hn, e]; rw [if_neg h]
theorem useK_yes {ns : List Nd} {bs : List Bool} {L k : Nat} {n : Nd} (hn : ns[k]? = some n) (hb : bs[k]? = some true) (h : n.op = 1) : useK ns bs L (k + 1) = (useK ns bs L k).set n.v.toNat true := by
  have e : bs.getD k false = true := by simp [List.getD, hb]
  simp only [useK, hn, e]; simp [h]
def lbL (ns : List Nd) (fr : List Int) (L : Nat) : List Int := choL (useK ns (belL ns fr) L ns.length)
theorem lbL_mem {ns : List Nd} {fr : List Int} {L : Nat} {x : Int} (h : x ∈ lbL ns fr L) : 0 ≤ x ∧ x < L := by
  have := choL_mem h
  rwa [useK_len] at this
theorem lbL_len {ns : List Nd} {fr : List Int} {L : Nat} : (lbL ns fr L).length ≤ L := by
  have := choK_len (bs := useK ns (belL ns fr) L ns.length) (useK ns (belL ns fr) L ns.length).length
  rw [useK_len] at this
  unfold lbL choL; rw [useK_len]; exact this
/-- The sum of the widths of some leaves. -/
def sumK (ls xs : List Int) : Nat → Int
  | 0 => 0
  | k + 1 => sumK ls xs k + ls.getD (xs.getD k 0).toNat 0
def bitsL (ls : List Int) (ns : List Nd) (fr : List Int) : Int := sumK ls (lbL ns fr ls.length) (lbL ns fr ls.length).length
theorem sumK_bd {ls xs : List Int} (hl : ∀ x ∈ ls, isW x = true) : ∀ k : Nat, 0 ≤ sumK ls xs k ∧ sumK ls xs k ≤ 16 * k := by
  intro k
  induction k with
  | zero => exact ⟨Int.le_refl _, Int.le_refl _⟩
  | succ k ih =>
    simp only [sumK]
    generalize (xs.getD k 0).toNat = i
    have : 0 ≤ ls.getD i 0 ∧ ls.getD i 0 ≤ 16 := by
      by_cases h : i < ls.length
      · simp only [List.getD, List.getElem?_eq_getElem h, Option.getD_some]
        have := isW_iff.1 (hl _ (List.getElem_mem h)); omega
      · simp only [List.getD, List.getElem?_eq_none (Nat.le_of_not_lt h), Option.getD_none]; omega
    omega

set_option maxRecDepth 100000 in
set_option maxHeartbeats 1600000 in
theorem leavesBelow_c (A : Option Addr) (cap L : Nat) (hL : L ≤ 65536) (N : Option Addr) (capN : Nat) (ns : List Nd) (hns : ns.length ≤ 65536) (hall : ∀ k n, ns[k]? = some n → NodeOK ns L k n) (F : Option Addr) (cf : Nat) (fr : List Int) (hfr : fr.length ≤ 65536) (hf : ∀ x ∈ fr, isIx x ns.length = true) (w : World) (hN : LiesN w N ns) (hF : LiesI w F fr) :
    Calls Tryz.prog 99 #[.slice A L cap, .slice N ns.length capN, .slice F fr.length cf] w (CopiedI w (lbL ns fr L)) := by
  obtain ⟨i0, hi, hz0, hz1, hz2⟩ := info_parts bool_info
  have HNN := Lib.hid hN
  have HALL := Lib.hid hall
  have HBE := Lib.hid (fun (W : World) (hb : Below w.heap.size w W) => below_c N capN ns hns L hall F cf fr hfr hf W (hN.below hb) (hF.below hb))
  clear hN hF hall hf
  go_enter Tryz.func99, Tryz.ntmps99
  go_wp2_with (refine wpList_make_full _ rfl _ _ 78 rfl w.heap.size 4 i0 _ 1 Tryz.underlying78 hi hz0 hz1 .i64 .i64 _ _ L rfl rfl rfl rfl (by rw [hz2]; omega) (by unfold maxLen; omega) (Nat.le_refl _) ?_; intro W1 hown hgr; have hb2 := (Below.refl w.heap.size w).grown hgr (Nat.le_refl _) (fun q hq => by cases hq); have rg : W1.heap[w.heap.size]? = some (.cells (rowB (List.replicate L false)) 4) := (by have := row_block hown rfl; rwa [rowB_made] at this); clear hown hgr)
  have lg := lt_of_get rg
  refine (HBE.out _ hb2).mono ?_
  rintro e W2 ⟨M, cm, rfl, hM, hfr2, hb3⟩
  have rg := (hb3.block _ lg).trans rg
  have hb4 := hb2.trans (hb3.mono hb2.size)
  have HFR := Lib.hid (fun ad h => Nat.lt_of_lt_of_le lg (hfr2 ad h))
  clear hfr2
  generalize hg : w.heap.size = g at *
  have hb0 : Below w.heap.size w W2 := by rw [hg]; exact hb4
  have HM := Lib.hid hM
  clear hb2 hb3 hb4 lg HBE hM
  have HBLn := Lib.hid (belL_len ns fr)
  rw [HBLn.out]
  go_wp2_with fail
  generalize hbs : belL ns fr = bs at *
  go_loopw [17] (fun v17 wr => ∃ k : Nat, k ≤ ns.length ∧ v17 = .int .i64 k ∧ wr.heap[g]? = some (.cells (rowB (useK ns bs L k)) 4) ∧ Below w.heap.size w wr ∧ But g W2 wr) (fun v17 _ => ns.length - (intOf v17).toNat)
  case atStart => exact ⟨0, by omega, rfl, rg, hb0, But.refl _ _⟩
  case round =>
    clear rg hb0
    obtain ⟨k, hk, rfl, rg, hb, hbm⟩ := hrel
    by_cases hlt : k < ns.length
    · have hkk : (k : Int) < ns.length := by omega
      have HX := Lib.hid (List.getElem?_eq_getElem hlt)
      generalize ns[k] = x at *
      obtain ⟨b, hbk'⟩ : ∃ b, bs[k]? = some b := ⟨_, List.getElem?_eq_getElem (by rw [HBLn.out]; exact hlt)⟩
      obtain ⟨am, rfl, ham, cm0⟩ := HM.out.cell hbk'
      have cm1 := (hbm.cell (p := am.add k) (by rw [addB]; exact ham) (by rw [addB]; exact Nat.ne_of_gt (HFR.out am rfl))).trans cm0
      have HOK := Lib.hid (HALL.out k x HX.out)
      obtain ⟨ad, rfl, hbl, c0, c1, c3, B, bc, c2, hB⟩ := HNN.out.cells HX.out
      have hbk : ∀ p : Addr, p.block = ad.block → wr.cell? p = w.cell? p := fun p hp => hb.cell (p := p) (by rw [hp]; exact hbl)
      have a0 := (hbk (ad.add (k * 4)) (by rw [addB])).trans c0
      have a1 : wr.cell? ⟨(ad.add (k * 4)).block, (ad.add (k * 4)).off + 1, none⟩ = some (.int .i64 x.wd) := (hbk ((ad.add (k * 4)).add 1) (by rw [addB, addB])).trans c1
      have a2 : wr.cell? ⟨(ad.add (k * 4)).block, (ad.add (k * 4)).off + 2, none⟩ = some (.slice B x.args.length bc) := (hbk ((ad.add (k * 4)).add 2) (by rw [addB, addB])).trans c2
      have a3 : wr.cell? ⟨(ad.add (k * 4)).block, (ad.add (k * 4)).off + 3, none⟩ = some (.int .i64 x.v) := (hbk ((ad.add (k * 4)).add 3) (by rw [addB, addB])).trans c3
      clear c0 c1 c2 c3 hbk
      have HBL := Lib.hid hB
      clear hB
      have HBK := Lib.hid hbk'
      clear cm0 hbk' a1 a2 HBL
      obtain ⟨op, wd, args, v⟩ := x
      simp only at a0 a3
      by_cases hop : op = 1
      · subst hop
        cases b with
        | true =>
          have HS := Lib.hid (useK_yes (L := L) HX.out HBK.out rfl)
          obtain ⟨v0, v1⟩ := HOK.out.lf rfl
          simp only at v0 v1 HS
          obtain ⟨p, rfl⟩ := Int.eq_ofNat_of_zero_le v0
          obtain ⟨u, hu⟩ : ∃ u, (useK ns bs L k)[p]? = some u := ⟨_, List.getElem?_eq_getElem (by rw [useK_len]; omega)⟩
          have qp := (cell_block (i := p) rg).trans (rowB_in hu)
          have fp := free_block (i := p) rg
          have HF2 := Lib.hid (show (wr.setCell ⟨g, p, none⟩ (.bool true)).heap[g]? = some (.cells (rowB (useK ns bs L (k + 1))) 4) ∧ Below w.heap.size w (wr.setCell ⟨g, p, none⟩ (.bool true)) ∧ But g W2 (wr.setCell ⟨g, p, none⟩ (.bool true)) from
            ⟨by rw [heap_set rg, rowB_set, HS.out]; rfl, hb.setCell (p := ⟨g, p, none⟩) (Nat.le_of_eq hg) _, hbm.setCell⟩)
          clear rg hb hbm hu HS
          go_wp2
          go_roundw
          case rel => exact ⟨k + 1, by omega, by go_num, HF2.out.1, HF2.out.2.1, HF2.out.2.2⟩
          case measure => simp [intOf]; omega
        | false =>
          have HS := Lib.hid (useK_no (L := L) HX.out HBK.out (fun h => by cases h.1))
          go_wp2
          go_roundw
          case rel => exact ⟨k + 1, by omega, by go_num, by rw [HS.out]; exact rg, hb, hbm⟩
          case measure => simp [intOf]; omega
      · have ho1 : (op == 1) = false := by simpa using hop
        have HS := Lib.hid (useK_no (L := L) HX.out HBK.out (fun h => hop h.2))
        clear hop
        cases b with
        | true =>
          go_wp2
          go_roundw
          case rel => exact ⟨k + 1, by omega, by go_num, by rw [HS.out]; exact rg, hb, hbm⟩
          case measure => simp [intOf]; omega
        | false =>
          go_wp2
          go_roundw
          case rel => exact ⟨k + 1, by omega, by go_num, by rw [HS.out]; exact rg, hb, hbm⟩
          case measure => simp [intOf]; omega
    · obtain rfl : k = ns.length := by omega
      have HUL := Lib.hid (useK_len (ns := ns) (bs := bs) (L := L) ns.length)
      have HLB := Lib.hid (show lbL ns fr L = choL (useK ns bs L ns.length) by unfold lbL; rw [hbs])
      generalize useK ns bs L ns.length = us at *
      have HCH := Lib.hid (chosen_c (some ⟨g, 0, none⟩) L us (by rw [HUL.out]; exact hL) wr (LiesB.block rg))
      rw [HUL.out] at HCH
      clear rg
      go_wp2_with fail
      refine HCH.out.mono ?_
      rintro e W5 ⟨A', cap', rfl, hl5, hb5⟩
      have HF := Lib.hid (show CopiedI w (lbL ns fr L) (.returned (.slice A' (choL us).length cap')) W5 from ⟨A', cap', by rw [HLB.out], by rw [HLB.out]; exact hl5, hb.trans (hb5.mono hb.size)⟩)
      clear hl5 hb5
      go_wp2
      go_ret
      exact HF.out

end Go.Proofs.YtkdonapgonegkaaGreatDoor

set_option linter.unusedSimpArgs false
set_option linter.unusedVariables false
namespace Go.Proofs.YtkdonapgonegkaaGreatDoor
open Go.RowKit Go.BigFrame

set_option maxRecDepth 100000 in
set_option maxHeartbeats 1600000 in
theorem bitsBelow_c (A : Option Addr) (cap : Nat) (ls : List Int) (hls : ls.length ≤ 65536) (hw : ∀ x ∈ ls, isW x = true) (N : Option Addr) (capN : Nat) (ns : List Nd) (hns : ns.length ≤ 65536) (hall : ∀ k n, ns[k]? = some n → NodeOK ns ls.length k n) (F : Option Addr) (cf : Nat) (fr : List Int) (hfr : fr.length ≤ 65536) (hf : ∀ x ∈ fr, isIx x ns.length = true) (w : World) (hA : LiesI w A ls) (hN : LiesN w N ns) (hF : LiesI w F fr) :
    Calls Tryz.prog 62 #[.slice A ls.length cap, .slice N ns.length capN, .slice F fr.length cf] w fun e w' => e = .returned (.int .i64 (bitsL ls ns fr)) ∧ ∃ x : Aft w, w' = x.val := by
  have HLB := Lib.hid (leavesBelow_c A cap ls.length hls N capN ns hns hall F cf fr hfr hf w hN hF)
  have HA := Lib.hid hA
  have HW := Lib.hid hw
  clear hA hN hF hall hf hw
  go_enter Tryz.func62, Tryz.ntmps62
  go_wp2_with fail
  refine HLB.out.mono ?_
  rintro e W2 ⟨M, cm, rfl, hM, hb2⟩
  have HM := Lib.hid hM
  have HB := Lib.hid hb2
  have HR := Lib.hid (show bitsL ls ns fr = sumK ls (lbL ns fr ls.length) (lbL ns fr ls.length).length from rfl)
  have HMEM := Lib.hid (fun x (h : x ∈ lbL ns fr ls.length) => lbL_mem h)
  have hxl : (lbL ns fr ls.length).length ≤ 65536 := Nat.le_trans lbL_len hls
  clear hM hb2
  generalize lbL ns fr ls.length = xs at *
  go_wp2_with fail
  go_loop [7, 15] (fun v7 v15 => ∃ k : Nat, k ≤ xs.length ∧ v15 = .int .i64 k ∧ v7 = .int .i64 (sumK ls xs k)) (fun _ v15 => xs.length - (intOf v15).toNat)
  case atStart => exact ⟨0, by omega, rfl, rfl⟩
  case round =>
    obtain ⟨k, hk, rfl, rfl⟩ := hrel
    by_cases hlt : k < xs.length
    · have hkk : (k : Int) < xs.length := by omega
      have HX := Lib.hid (List.getElem?_eq_getElem hlt)
      have HI := Lib.hid (HMEM.out _ (List.getElem_mem hlt))
      generalize xs[k] = x at *
      obtain ⟨x0, x1⟩ := HI.out
      obtain ⟨p, rfl⟩ := Int.eq_ofNat_of_zero_le x0
      obtain ⟨am, rfl, ham, c0⟩ := HM.out.cell HX.out
      have hp : p < ls.length := by omega
      have HY := Lib.hid (List.getElem?_eq_getElem hp)
      have hiw := isW_iff.1 (HW.out _ (List.getElem_mem hp))
      have HS : Hid (sumK ls xs (k + 1) = sumK ls xs k + ls[p]) := Lib.hid (by
        have e : xs.getD k 0 = (p : Int) := by simp [List.getD, HX.out]
        have e2 : ls.getD ((p : Nat) : Int).toNat 0 = ls[p] := by simp [hp]
        simp only [sumK, e, e2])
      generalize ls[p] = u at *
      obtain ⟨aa, rfl, hal, c1⟩ := HA.out.cell HY.out
      have c2 := (HB.out.cell (p := aa.add p) (by rw [addB]; exact hal)).trans c1
      have hsb := sumK_bd (xs := xs) HW.out k
      obtain ⟨u1, u2⟩ := hiw
      obtain ⟨s1, s2⟩ := hsb
      clear c1
      generalize sumK ls xs k = s at *
      go_wp2
      go_round
      case rel => exact ⟨k + 1, by omega, by go_num, by rw [HS.out]⟩
      case measure => simp [intOf]; omega
    · obtain rfl : k = xs.length := by omega
      go_wp2
      go_ret
      exact ⟨retI HR.out.symm, Below.aft HB.out⟩

/-- A node with other arguments, gs a result. -/
def WithA (w : World) (op wd v : Int) (gs : List Int) (e : Ending) (w' : World) : Prop := ∃ A' cap', e = .returned (.agg #[.int .i64 op, .int .i64 wd, .slice A' gs.length cap', .int .i64 v]) ∧ gs.length ≤ cap' ∧ LiesI w' A' gs ∧ (∀ ad, A' = some ad → w.heap.size ≤ ad.block ∧ ∃ cur, w'.heap[ad.block]? = some (.cells cur 3 (0, 0))) ∧ Below w.heap.size w w'
theorem own_lies {w' : World} {base : Nat} {e : TypeId} {v : Value} {xs : List Int} (h : w'.ownsRow base e 1 v xs.length (xs.map (.int .i64))) : ∃ A' cap', v = .slice A' xs.length cap' ∧ xs.length ≤ cap' ∧ LiesI w' A' xs ∧ (∀ ad, A' = some ad → base ≤ ad.block ∧ ∃ cur, w'.heap[ad.block]? = some (.cells cur e (0, 0))) := by
  rcases h.2 with ⟨rfl, h0⟩ | ⟨g, cap', cur, rfl, hb, h3, hc, _⟩
  · exact ⟨none, 0, by rw [h0], by omega, fun hp => by omega, fun ad h => by cases h⟩
  · exact ⟨_, cap', rfl, hc, LiesI.of_own h, fun ad h => by injection h with h; subst h; exact ⟨hb, cur, h3⟩⟩
theorem map_snoc {g : Int → Int} {xs : List Int} {k : Nat} {a : Int} (h : xs[k]? = some a) : (xs.take (k + 1)).map g = (xs.take k).map g ++ [g a] := by
  obtain ⟨hj, rfl⟩ := List.getElem?_eq_some_iff.1 h
  rw [List.take_succ_eq_append_getElem hj, List.map_append]; rfl

set_option maxRecDepth 100000 in
set_option maxHeartbeats 1600000 in
theorem withArgs_id (g : Int → Int) (op wd v : Int) (B : Option Addr) (bc : Nat) (gs : List Int) (hal : gs.length ≤ 65536) (w : World) (hB : LiesI w B gs)
    (hK : ∀ a ∈ gs, ∀ W : World, Below w.heap.size w W → Calls Tryz.prog 97 #[.int .i64 a] W fun e w' => e = .returned (.int .i64 (g a)) ∧ W = w') :
    Calls Tryz.prog 34 #[.agg #[.int .i64 op, .int .i64 wd, .slice B gs.length bc, .int .i64 v], .func (.func 97) #[] #[]] w (WithA w op wd v (gs.map g)) := by
  obtain ⟨i0, hi, hz0, hz1, hz2⟩ := info_parts int_info
  have HB := Lib.hid hB
  have HK := Lib.hid hK
  clear hB hK
  go_enter Tryz.func34, Tryz.ntmps34
  go_wp2_with fail
  have rP : ((w.alloc (.cells #[.int .i64 op, .int .i64 wd, .slice B gs.length bc, .int .i64 v] 61)).alloc (.cells #[.int .i64 0, .int .i64 0, .slice none 0 0, .int .i64 0] 61)).heap[w.heap.size]? = some (.cells #[.int .i64 op, .int .i64 wd, .slice B gs.length bc, .int .i64 v] 61) := heap_alloc' (by simp) (heap_alloc_new _ _)
  have rR : ((w.alloc (.cells #[.int .i64 op, .int .i64 wd, .slice B gs.length bc, .int .i64 v] 61)).alloc (.cells #[.int .i64 0, .int .i64 0, .slice none 0 0, .int .i64 0] 61)).heap[w.heap.size + 1]? = some (.cells #[.int .i64 0, .int .i64 0, .slice none 0 0, .int .i64 0] 61) := heap_alloc_at (by simp)
  have hb0 : Below w.heap.size w ((w.alloc (.cells #[.int .i64 op, .int .i64 wd, .slice B gs.length bc, .int .i64 v] 61)).alloc (.cells #[.int .i64 0, .int .i64 0, .slice none 0 0, .int .i64 0] 61)) := ((Below.refl _ _).alloc (Nat.le_refl _) _).alloc (by simp) _
  have hs0 : w.heap.size + 2 ≤ ((w.alloc (.cells #[.int .i64 op, .int .i64 wd, .slice B gs.length bc, .int .i64 v] 61)).alloc (.cells #[.int .i64 0, .int .i64 0, .slice none 0 0, .int .i64 0] 61)).heap.size := by simp
  generalize ((w.alloc (.cells #[.int .i64 op, .int .i64 wd, .slice B gs.length bc, .int .i64 v] 61)).alloc (.cells #[.int .i64 0, .int .i64 0, .slice none 0 0, .int .i64 0] 61)) = W0 at *
  go_loopw [5, 11] (fun v5 v11 wr => ∃ k : Nat, k ≤ gs.length ∧ v11 = .int .i64 k ∧ wr.ownsRow (w.heap.size + 2) 3 1 v5 ((gs.take k).map g).length (((gs.take k).map g).map (Value.int .i64)) ∧ wr.heap[w.heap.size]? = some (.cells #[.int .i64 op, .int .i64 wd, .slice B gs.length bc, .int .i64 v] 61) ∧ wr.heap[w.heap.size + 1]? = some (.cells #[.int .i64 0, .int .i64 0, .slice none 0 0, .int .i64 0] 61) ∧ Below w.heap.size w wr ∧ w.heap.size + 2 ≤ wr.heap.size) (fun _ v11 _ => gs.length - (intOf v11).toNat)
  case atStart => exact ⟨0, by omega, rfl, World.ownsRow_nil _ _ _ _, rP, rR, hb0, hs0⟩
  case round =>
    clear rP rR hb0 hs0
    obtain ⟨k, hk, rfl, hown, rP, rR, hb, hs⟩ := hrel
    by_cases hlt : k < gs.length
    · have hkk : (k : Int) < gs.length := by omega
      have HX := Lib.hid (List.getElem?_eq_getElem hlt)
      have HM := Lib.hid (List.getElem_mem hlt)
      generalize gs[k] = a at *
      obtain ⟨ad, rfl, hbl, c0⟩ := HB.out.cell HX.out
      have c1 := (hb.cell (p := ad.add k) (by rw [addB]; exact hbl)).trans c0
      have HS := Lib.hid (map_snoc (g := g) HX.out)
      have hml : ((gs.take k).map g).length ≤ 65536 := by simp; omega
      generalize hm : ((gs.take k).map g).length = m at *
      clear c0
      go_wp2_with (first | (go_at_call 97; refine (HK.out a HM.out _ hb).mono ?_; rintro e w' ⟨rfl, rfl⟩) | (at_builtin; refine wpList_append_own _ rfl _ _ 22 rfl (w.heap.size + 2) 3 i0 (.int .i64 0) 1 8 Tryz.underlying22 hi hz0 hz1 hz2 rfl (by decide) _ _ _ rfl (hown.alloc _) ⟨_, 0, none⟩ 1 1 [.int .i64 _] rfl rfl (cell_one_new _ _ _) (fun x hx => by simp at hx; subst hx; rfl) (by unfold maxLen; omega) (by omega) (by first | omega | (simp; omega) | (simp at *; omega)) ?_; intro v' w3 hown' hgrow3 hnn))
      have HF := Lib.hid (own_snoc hown' hm.symm HS.out)
      have hal2 := hb.alloc hb.size (.cells #[.int .i64 (g a)] 3)
      have HB2 := Lib.hid (hal2.grown hgrow3 hal2.size (fun q hq => Nat.le_trans (by omega) (hown.lt q hq).1))
      have hbp := ((Below.refl (w.heap.size + 2) wr).alloc hs (.cells #[.int .i64 (g a)] 3)).grown hgrow3 (by simp; omega) (fun q hq => (hown.lt q hq).1)
      have HP := Lib.hid ((hbp.block _ (by omega)).trans rP)
      have HR := Lib.hid ((hbp.block _ (by omega)).trans rR)
      have hs3 := Nat.le_trans hs hbp.size
      clear hown' hgrow3 hown hal2 hbp rP rR
      go_wp2
      go_roundw
      case rel => exact ⟨k + 1, by omega, by go_num, HF.out, HP.out, HR.out, HB2.out, hs3⟩
      case measure => simp [intOf]; omega
    · obtain rfl : k = gs.length := by omega
      rw [List.take_length] at hown
      obtain ⟨A', cap', rfl, hc, hl, hfr⟩ := own_lies hown
      have HF := Lib.hid (show WithA w op wd v (gs.map g) (.returned (.agg #[.int .i64 op, .int .i64 wd, .slice A' gs.length cap', .int .i64 v])) (((((wr.setCell ⟨w.heap.size, 2, none⟩ (.slice A' gs.length cap')).setCell ⟨w.heap.size + 1, 0, none⟩ (.int .i64 op)).setCell ⟨w.heap.size + 1, 1, none⟩ (.int .i64 wd)).setCell ⟨w.heap.size + 1, 2, none⟩ (.slice A' gs.length cap')).setCell ⟨w.heap.size + 1, 3, none⟩ (.int .i64 v)) from
        ⟨A', cap', by rw [List.length_map], hc, ((((hl.set (fun ad h => by have := (hfr ad h).1; omega)).set (fun ad h => by have := (hfr ad h).1; omega)).set (fun ad h => by have := (hfr ad h).1; omega)).set (fun ad h => by have := (hfr ad h).1; omega)).set (fun ad h => by have := (hfr ad h).1; omega), fun ad h => (by obtain ⟨h1, cur, h2⟩ := hfr ad h; exact ⟨by omega, cur, by rw [heap_setCell_ne (by omega), heap_setCell_ne (by omega), heap_setCell_ne (by omega), heap_setCell_ne (by omega), heap_setCell_ne (by omega)]; exact h2⟩),
          ((((hb.setCell (Nat.le_refl _) _).setCell (Nat.le_succ _) _).setCell (Nat.le_succ _) _).setCell (Nat.le_succ _) _).setCell (Nat.le_succ _) _⟩)
      clear hown hl hc hfr hb
      have p0 := cell_block (i := 0) rP
      have f0 := free_block (i := 0) rP
      have r0 := cell_block (i := 0) rR
      have e0 := free_block (i := 0) rR
      have p1 := cell_block (i := 1) rP
      have f1 := free_block (i := 1) rP
      have r1 := cell_block (i := 1) rR
      have e1 := free_block (i := 1) rR
      have p2 := cell_block (i := 2) rP
      have f2 := free_block (i := 2) rP
      have r2 := cell_block (i := 2) rR
      have e2 := free_block (i := 2) rR
      have p3 := cell_block (i := 3) rP
      have f3 := free_block (i := 3) rP
      have r3 := cell_block (i := 3) rR
      have e3 := free_block (i := 3) rR
      simp at p0 p1 p2 p3 r0 r1 r2 r3
      go_wp2
      refine bodyPost_ret (by simp [results, Tryz.results34, go_sem, r0, r1, r2, r3]; try rfl) rfl ?_
      exact HF.out

set_option maxRecDepth 100000 in
set_option maxHeartbeats 1600000 in
theorem withArgs_cone (P : Nat) (g : Int → Int) (op wd v : Int) (B : Option Addr) (bc : Nat) (gs : List Int) (hal : gs.length ≤ 65536) (w : World) (hB : LiesI w B gs)
    (hK : ∀ a ∈ gs, ∀ W : World, Below w.heap.size w W → Calls Tryz.prog 74 #[.int .i64 a, .pointer (some ⟨P, 0, none⟩)] W fun e w' => e = .returned (.int .i64 (g a)) ∧ W = w') :
    Calls Tryz.prog 34 #[.agg #[.int .i64 op, .int .i64 wd, .slice B gs.length bc, .int .i64 v], .func (.func 74) #[] #[.pointer (some ⟨P, 0, none⟩)]] w (WithA w op wd v (gs.map g)) := by
  obtain ⟨i0, hi, hz0, hz1, hz2⟩ := info_parts int_info
  have HB := Lib.hid hB
  have HK := Lib.hid hK
  clear hB hK
  go_enter Tryz.func34, Tryz.ntmps34
  go_wp2_with fail
  have rP : ((w.alloc (.cells #[.int .i64 op, .int .i64 wd, .slice B gs.length bc, .int .i64 v] 61)).alloc (.cells #[.int .i64 0, .int .i64 0, .slice none 0 0, .int .i64 0] 61)).heap[w.heap.size]? = some (.cells #[.int .i64 op, .int .i64 wd, .slice B gs.length bc, .int .i64 v] 61) := heap_alloc' (by simp) (heap_alloc_new _ _)
  have rR : ((w.alloc (.cells #[.int .i64 op, .int .i64 wd, .slice B gs.length bc, .int .i64 v] 61)).alloc (.cells #[.int .i64 0, .int .i64 0, .slice none 0 0, .int .i64 0] 61)).heap[w.heap.size + 1]? = some (.cells #[.int .i64 0, .int .i64 0, .slice none 0 0, .int .i64 0] 61) := heap_alloc_at (by simp)
  have hb0 : Below w.heap.size w ((w.alloc (.cells #[.int .i64 op, .int .i64 wd, .slice B gs.length bc, .int .i64 v] 61)).alloc (.cells #[.int .i64 0, .int .i64 0, .slice none 0 0, .int .i64 0] 61)) := ((Below.refl _ _).alloc (Nat.le_refl _) _).alloc (by simp) _
  have hs0 : w.heap.size + 2 ≤ ((w.alloc (.cells #[.int .i64 op, .int .i64 wd, .slice B gs.length bc, .int .i64 v] 61)).alloc (.cells #[.int .i64 0, .int .i64 0, .slice none 0 0, .int .i64 0] 61)).heap.size := by simp
  generalize ((w.alloc (.cells #[.int .i64 op, .int .i64 wd, .slice B gs.length bc, .int .i64 v] 61)).alloc (.cells #[.int .i64 0, .int .i64 0, .slice none 0 0, .int .i64 0] 61)) = W0 at *
  go_loopw [5, 11] (fun v5 v11 wr => ∃ k : Nat, k ≤ gs.length ∧ v11 = .int .i64 k ∧ wr.ownsRow (w.heap.size + 2) 3 1 v5 ((gs.take k).map g).length (((gs.take k).map g).map (Value.int .i64)) ∧ wr.heap[w.heap.size]? = some (.cells #[.int .i64 op, .int .i64 wd, .slice B gs.length bc, .int .i64 v] 61) ∧ wr.heap[w.heap.size + 1]? = some (.cells #[.int .i64 0, .int .i64 0, .slice none 0 0, .int .i64 0] 61) ∧ Below w.heap.size w wr ∧ w.heap.size + 2 ≤ wr.heap.size) (fun _ v11 _ => gs.length - (intOf v11).toNat)
  case atStart => exact ⟨0, by omega, rfl, World.ownsRow_nil _ _ _ _, rP, rR, hb0, hs0⟩
  case round =>
    clear rP rR hb0 hs0
    obtain ⟨k, hk, rfl, hown, rP, rR, hb, hs⟩ := hrel
    by_cases hlt : k < gs.length
    · have hkk : (k : Int) < gs.length := by omega
      have HX := Lib.hid (List.getElem?_eq_getElem hlt)
      have HM := Lib.hid (List.getElem_mem hlt)
      generalize gs[k] = a at *
      obtain ⟨ad, rfl, hbl, c0⟩ := HB.out.cell HX.out
      have c1 := (hb.cell (p := ad.add k) (by rw [addB]; exact hbl)).trans c0
      have HS := Lib.hid (map_snoc (g := g) HX.out)
      have hml : ((gs.take k).map g).length ≤ 65536 := by simp; omega
      generalize hm : ((gs.take k).map g).length = m at *
      clear c0
      go_wp2_with (first | (go_at_call 74; refine (HK.out a HM.out _ hb).mono ?_; rintro e w' ⟨rfl, rfl⟩) | (at_builtin; refine wpList_append_own _ rfl _ _ 22 rfl (w.heap.size + 2) 3 i0 (.int .i64 0) 1 8 Tryz.underlying22 hi hz0 hz1 hz2 rfl (by decide) _ _ _ rfl (hown.alloc _) ⟨_, 0, none⟩ 1 1 [.int .i64 _] rfl rfl (cell_one_new _ _ _) (fun x hx => by simp at hx; subst hx; rfl) (by unfold maxLen; omega) (by omega) (by first | omega | (simp; omega) | (simp at *; omega)) ?_; intro v' w3 hown' hgrow3 hnn))
      have HF := Lib.hid (own_snoc hown' hm.symm HS.out)
      have hal2 := hb.alloc hb.size (.cells #[.int .i64 (g a)] 3)
      have HB2 := Lib.hid (hal2.grown hgrow3 hal2.size (fun q hq => Nat.le_trans (by omega) (hown.lt q hq).1))
      have hbp := ((Below.refl (w.heap.size + 2) wr).alloc hs (.cells #[.int .i64 (g a)] 3)).grown hgrow3 (by simp; omega) (fun q hq => (hown.lt q hq).1)
      have HP := Lib.hid ((hbp.block _ (by omega)).trans rP)
      have HR := Lib.hid ((hbp.block _ (by omega)).trans rR)
      have hs3 := Nat.le_trans hs hbp.size
      clear hown' hgrow3 hown hal2 hbp rP rR
      go_wp2
      go_roundw
      case rel => exact ⟨k + 1, by omega, by go_num, HF.out, HP.out, HR.out, HB2.out, hs3⟩
      case measure => simp [intOf]; omega
    · obtain rfl : k = gs.length := by omega
      rw [List.take_length] at hown
      obtain ⟨A', cap', rfl, hc, hl, hfr⟩ := own_lies hown
      have HF := Lib.hid (show WithA w op wd v (gs.map g) (.returned (.agg #[.int .i64 op, .int .i64 wd, .slice A' gs.length cap', .int .i64 v])) (((((wr.setCell ⟨w.heap.size, 2, none⟩ (.slice A' gs.length cap')).setCell ⟨w.heap.size + 1, 0, none⟩ (.int .i64 op)).setCell ⟨w.heap.size + 1, 1, none⟩ (.int .i64 wd)).setCell ⟨w.heap.size + 1, 2, none⟩ (.slice A' gs.length cap')).setCell ⟨w.heap.size + 1, 3, none⟩ (.int .i64 v)) from
        ⟨A', cap', by rw [List.length_map], hc, ((((hl.set (fun ad h => by have := (hfr ad h).1; omega)).set (fun ad h => by have := (hfr ad h).1; omega)).set (fun ad h => by have := (hfr ad h).1; omega)).set (fun ad h => by have := (hfr ad h).1; omega)).set (fun ad h => by have := (hfr ad h).1; omega), fun ad h => (by obtain ⟨h1, cur, h2⟩ := hfr ad h; exact ⟨by omega, cur, by rw [heap_setCell_ne (by omega), heap_setCell_ne (by omega), heap_setCell_ne (by omega), heap_setCell_ne (by omega), heap_setCell_ne (by omega)]; exact h2⟩),
          ((((hb.setCell (Nat.le_refl _) _).setCell (Nat.le_succ _) _).setCell (Nat.le_succ _) _).setCell (Nat.le_succ _) _).setCell (Nat.le_succ _) _⟩)
      clear hown hl hc hfr hb
      have p0 := cell_block (i := 0) rP
      have f0 := free_block (i := 0) rP
      have r0 := cell_block (i := 0) rR
      have e0 := free_block (i := 0) rR
      have p1 := cell_block (i := 1) rP
      have f1 := free_block (i := 1) rP
      have r1 := cell_block (i := 1) rR
      have e1 := free_block (i := 1) rR
      have p2 := cell_block (i := 2) rP
      have f2 := free_block (i := 2) rP
      have r2 := cell_block (i := 2) rR
      have e2 := free_block (i := 2) rR
      have p3 := cell_block (i := 3) rP
      have f3 := free_block (i := 3) rP
      have r3 := cell_block (i := 3) rR
      have e3 := free_block (i := 3) rR
      simp at p0 p1 p2 p3 r0 r1 r2 r3
      go_wp2
      refine bodyPost_ret (by simp [results, Tryz.results34, go_sem, r0, r1, r2, r3]; try rfl) rfl ?_
      exact HF.out

end Go.Proofs.YtkdonapgonegkaaGreatDoor

set_option linter.unusedSimpArgs false
set_option linter.unusedVariables false
namespace Go.Proofs.YtkdonapgonegkaaGreatDoor
open Go.RowKit Go.BigFrame

theorem copied1_c (a : Int) (w : World) : Calls Tryz.prog 97 #[.int .i64 a] w fun e w' => e = .returned (.int .i64 a) ∧ w = w' := by
  go_enter Tryz.func97, Tryz.ntmps97
  go_wp2
  go_ret
  exact ⟨rfl, rfl⟩

theorem coneOf1_c (k n m : Nat) (x : Int) (P : Nat) (ad : Addr) (hk : k < n) (hn : n ≤ 65536) (w : World) (c0 : w.cell? ⟨P, 0, none⟩ = some (.slice (some ad) n m)) (c1 : w.cell? (ad.add k) = some (.int .i64 x)) :
    Calls Tryz.prog 74 #[.int .i64 k, .pointer (some ⟨P, 0, none⟩)] w fun e w' => e = .returned (.int .i64 x) ∧ w = w' := by
  have hkk : (k : Int) < n := by omega
  go_enter Tryz.func74, Tryz.ntmps74
  go_wp2
  go_ret
  exact ⟨rfl, rfl⟩

set_option maxRecDepth 100000 in
set_option maxHeartbeats 1600000 in
theorem copied_c (op wd v : Int) (B : Option Addr) (bc : Nat) (gs : List Int) (hal : gs.length ≤ 65536) (w : World) (hB : LiesI w B gs) :
    Calls Tryz.prog 57 #[.agg #[.int .i64 op, .int .i64 wd, .slice B gs.length bc, .int .i64 v]] w (WithA w op wd v gs) := by
  have HB := Lib.hid hB
  clear hB
  go_enter Tryz.func57, Tryz.ntmps57
  go_wp2_with fail
  have hb0 : Below w.heap.size w ((w.alloc (.cells #[.int .i64 op, .int .i64 wd, .slice B gs.length bc, .int .i64 v] 61)).alloc (.cells #[.int .i64 0, .int .i64 0, .slice none 0 0, .int .i64 0] 61)) := ((Below.refl _ _).alloc (Nat.le_refl _) _).alloc (by simp) _
  have rR : ((w.alloc (.cells #[.int .i64 op, .int .i64 wd, .slice B gs.length bc, .int .i64 v] 61)).alloc (.cells #[.int .i64 0, .int .i64 0, .slice none 0 0, .int .i64 0] 61)).heap[w.heap.size + 1]? = some (.cells #[.int .i64 0, .int .i64 0, .slice none 0 0, .int .i64 0] 61) := heap_alloc_at (by simp)
  have hs0 : ((w.alloc (.cells #[.int .i64 op, .int .i64 wd, .slice B gs.length bc, .int .i64 v] 61)).alloc (.cells #[.int .i64 0, .int .i64 0, .slice none 0 0, .int .i64 0] 61)).heap.size = w.heap.size + 2 := by simp
  generalize ((w.alloc (.cells #[.int .i64 op, .int .i64 wd, .slice B gs.length bc, .int .i64 v] 61)).alloc (.cells #[.int .i64 0, .int .i64 0, .slice none 0 0, .int .i64 0] 61)) = W0 at *
  refine (withArgs_id (fun a => a) op wd v B bc gs hal W0 (HB.out.below hb0) (fun a _ W _ => copied1_c a W)).mono ?_
  rintro e W2 ⟨A', cap', rfl, hc, hl, hfr, hb2⟩
  rw [List.map_id'] at hl hc
  rw [List.length_map]
  have rR2 := (hb2.block _ (lt_of_get rR)).trans rR
  have hbw := hb0.trans (hb2.mono hb0.size)
  have hfr2 : ∀ ad, A' = some ad → w.heap.size + 1 < ad.block := fun ad h => by have := (hfr ad h).1; omega
  have HF := Lib.hid (show WithA w op wd v gs (.returned (.agg #[.int .i64 op, .int .i64 wd, .slice A' gs.length cap', .int .i64 v])) ((((W2.setCell ⟨w.heap.size + 1, 0, none⟩ (.int .i64 op)).setCell ⟨w.heap.size + 1, 1, none⟩ (.int .i64 wd)).setCell ⟨w.heap.size + 1, 2, none⟩ (.slice A' gs.length cap')).setCell ⟨w.heap.size + 1, 3, none⟩ (.int .i64 v)) from
    ⟨A', cap', rfl, hc, (((hl.set hfr2).set hfr2).set hfr2).set hfr2, fun ad h => (by obtain ⟨h1, cur, h2⟩ := hfr ad h; exact ⟨by omega, cur, by rw [heap_setCell_ne (by omega), heap_setCell_ne (by omega), heap_setCell_ne (by omega), heap_setCell_ne (by omega)]; exact h2⟩), (((hbw.setCell (Nat.le_succ _) _).setCell (Nat.le_succ _) _).setCell (Nat.le_succ _) _).setCell (Nat.le_succ _) _⟩)
  clear hl hc hfr hfr2 hbw hb2 hb0 hs0 rR
  have r0 := cell_block (i := 0) rR2
  have e0 := free_block (i := 0) rR2
  have r1 := cell_block (i := 1) rR2
  have e1 := free_block (i := 1) rR2
  have r2 := cell_block (i := 2) rR2
  have e2 := free_block (i := 2) rR2
  have r3 := cell_block (i := 3) rR2
  have e3 := free_block (i := 3) rR2
  simp at r0 r1 r2 r3
  go_wp2
  refine bodyPost_ret (by simp [results, Tryz.results57, go_sem, r0, r1, r2, r3]; try rfl) rfl ?_
  exact HF.out

/-- The items with some indexes. -/
def pickL (ys xs : List Int) : List Int := xs.map fun i => ys.getD i.toNat 0
theorem pickL_len (ys xs : List Int) : (pickL ys xs).length = xs.length := by simp [pickL]
theorem pickL_snoc {ys xs : List Int} {k p : Nat} {u : Int} (h : xs[k]? = some (p : Int)) (hu : ys[p]? = some u) : pickL ys (xs.take (k + 1)) = pickL ys (xs.take k) ++ [u] := by
  have := map_snoc (g := fun i : Int => ys.getD i.toNat 0) h
  unfold pickL; rw [this]; simp [List.getD, hu]

set_option maxRecDepth 100000 in
set_option maxHeartbeats 1600000 in
theorem picked_c (Y : Option Addr) (cy : Nat) (ys : List Int) (hys : ys.length ≤ 65536) (X : Option Addr) (cx : Nat) (xs : List Int) (hxs : xs.length ≤ 65536) (hx : ∀ x ∈ xs, isIx x ys.length = true) (w : World) (hY : LiesI w Y ys) (hX : LiesI w X xs) :
    Calls Tryz.prog 75 #[.slice Y ys.length cy, .slice X xs.length cx] w fun e w' => ∃ A' cap', e = .returned (.slice A' xs.length cap') ∧ LiesI w' A' (pickL ys xs) ∧ (∀ ad, A' = some ad → w.heap.size ≤ ad.block) ∧ Below w.heap.size w w' := by
  obtain ⟨i0, hi, hz0, hz1, hz2⟩ := info_parts int_info
  have HY := Lib.hid hY
  have HX := Lib.hid hX
  have HIX := Lib.hid hx
  clear hY hX hx
  go_enter Tryz.func75, Tryz.ntmps75
  go_wp2_with (refine wpList_make_full _ rfl _ _ 22 rfl w.heap.size 3 i0 _ 1 Tryz.underlying22 hi hz0 hz1 .i64 .i64 _ _ xs.length rfl rfl rfl rfl (by rw [hz2]; omega) (by unfold maxLen; omega) (Nat.le_refl _) ?_; intro W1 hown hgr; have hb2 := (Below.refl w.heap.size w).grown hgr (Nat.le_refl _) (fun q hq => by cases hq); have rg : W1.heap[w.heap.size]? = some (.cells (rowA (List.replicate xs.length 0)) 3) := (by have := row_block hown rfl; rwa [row_made] at this); clear hown hgr)
  generalize hg : w.heap.size = g at *
  have hb0 : Below w.heap.size w W1 := by rw [hg]; exact hb2
  clear hb2
  go_loopw [13] (fun v13 wr => ∃ k : Nat, k ≤ xs.length ∧ v13 = .int .i64 k ∧ wr.heap[g]? = some (.cells (rowA (pickL ys (xs.take k) ++ List.replicate (xs.length - k) 0)) 3) ∧ Below w.heap.size w wr) (fun v13 _ => xs.length - (intOf v13).toNat)
  case atStart => exact ⟨0, by omega, rfl, rg, hb0⟩
  case round =>
    clear rg hb0
    obtain ⟨k, hk, rfl, rg, hb⟩ := hrel
    have HL := Lib.hid (show (pickL ys (xs.take k)).length = k by rw [pickL_len, List.length_take_of_le hk])
    by_cases hlt : k < xs.length
    · have hkk : (k : Int) < xs.length := by omega
      have HE := Lib.hid (List.getElem?_eq_getElem hlt)
      have HI := Lib.hid (HIX.out _ (List.getElem_mem hlt))
      generalize xs[k] = x at *
      obtain ⟨x0, x1⟩ := isIx_iff.1 HI.out
      obtain ⟨p, rfl⟩ := Int.eq_ofNat_of_zero_le x0
      have hp : p < ys.length := by omega
      have HU := Lib.hid (List.getElem?_eq_getElem hp)
      generalize ys[p] = u at *
      obtain ⟨ax, rfl, hax, c0⟩ := HX.out.cell HE.out
      obtain ⟨ay, rfl, hay, c1⟩ := HY.out.cell HU.out
      have d0 := (hb.cell (p := ax.add k) (by rw [addB]; exact hax)).trans c0
      have d1 := (hb.cell (p := ay.add p) (by rw [addB]; exact hay)).trans c1
      have HS := Lib.hid (pickL_snoc HE.out HU.out)
      have qk := (cell_block (i := k) rg).trans (rowA_in (row_here HL.out hlt))
      have fk := free_block (i := k) rg
      have HFIN := Lib.hid (show (wr.setCell ⟨g, k, none⟩ (.int .i64 u)).heap[g]? = some (.cells (rowA (pickL ys (xs.take (k + 1)) ++ List.replicate (xs.length - (k + 1)) 0)) 3) ∧ Below w.heap.size w (wr.setCell ⟨g, k, none⟩ (.int .i64 u)) from
        ⟨by rw [heap_set rg, rowA_set, row_next HL.out hlt, HS.out], hb.setCell (p := ⟨g, k, none⟩) (Nat.le_of_eq hg) _⟩)
      clear c0 c1 rg hb
      go_wp2
      go_roundw
      case rel => exact ⟨k + 1, by omega, by go_num, HFIN.out.1, HFIN.out.2⟩
      case measure => simp [intOf]; omega
    · obtain rfl : k = xs.length := by omega
      rw [List.take_length, Nat.sub_self, List.replicate_zero, List.append_nil] at rg
      have HF := Lib.hid (show LiesI wr (some ⟨g, 0, none⟩) (pickL ys xs) from LiesI.block rg)
      clear rg
      go_wp2
      go_ret
      exact ⟨_, xs.length, rfl, HF.out, fun ad h => (by injection h with h; subst h; exact Nat.le_of_eq hg), hb⟩

end Go.Proofs.YtkdonapgonegkaaGreatDoor

set_option linter.unusedSimpArgs false
set_option linter.unusedVariables false
namespace Go.Proofs.YtkdonapgonegkaaGreatDoor
open Go.RowKit Go.BigFrame

/-- The value of an argument that is a constant. -/
def cvA (bs : List Nd) (args : List Int) (i : Nat) : Int := match args[i]? with
  | none => 0
  | some a => match bs[a.toNat]? with | none => 0 | some m => m.v
/-- Whether an argument is no constant. -/
def opC (bs : List Nd) (a : Int) : Bool := match bs[a.toNat]? with | none => true | some m => m.op != 0
/-- Whether a node stays as it is when it is folded. -/
def stays (bs : List Nd) (n : Nd) : Bool := n.args.any (opC bs) || n.args.isEmpty
def fldN (bs : List Nd) (n : Nd) : Nd := if stays bs n = true then n else
  ⟨0, n.wd, [], resG n.op n.wd n.v (wAt bs n.args 0) (cvA bs n.args 0) (wAt bs n.args 1) (cvA bs n.args 1) (cvA bs n.args 2)⟩
def fldK (ns : List Nd) : Nat → List Nd
  | 0 => []
  | k + 1 => fldK ns k ++ (match ns[k]? with | none => [] | some n => [fldN (fldK ns k) n])
def fldL (ns : List Nd) : List Nd := fldK ns ns.length
theorem fldK_step {ns : List Nd} {k : Nat} {n : Nd} (h : ns[k]? = some n) : fldK ns (k + 1) = fldK ns k ++ [fldN (fldK ns k) n] := by
  simp only [fldK, h]
theorem fldK_len {ns : List Nd} : ∀ {k : Nat}, k ≤ ns.length → (fldK ns k).length = k := by
  intro k
  induction k with
  | zero => intro _; rfl
  | succ k ih =>
    intro h
    rw [fldK_step (List.getElem?_eq_getElem (by omega)), List.length_append, ih (by omega)]; rfl
theorem fldL_len (ns : List Nd) : (fldL ns).length = ns.length := fldK_len (Nat.le_refl _)
theorem fldK_take {ns : List Nd} : ∀ {m k : Nat}, k ≤ m → m ≤ ns.length → (fldK ns m).take k = fldK ns k := by
  intro m
  induction m with
  | zero => intro k h _; obtain rfl : k = 0 := by omega
            rfl
  | succ m ih =>
    intro k h hm
    by_cases hk : k = m + 1
    · subst hk
      rw [List.take_of_length_le (by rw [fldK_len hm]; exact Nat.le_refl _)]
    · rw [fldK_step (List.getElem?_eq_getElem (by omega)), List.take_append_of_le_length (by rw [fldK_len (by omega)]; omega)]
      exact ih (by omega) (by omega)
theorem fldL_take {ns : List Nd} {k : Nat} (h : k ≤ ns.length) : (fldL ns).take k = fldK ns k := fldK_take h (Nat.le_refl _)
theorem fldL_at {ns : List Nd} {k : Nat} {n : Nd} (h : ns[k]? = some n) : (fldL ns)[k]? = some (fldN (fldK ns k) n) := by
  have hk := (List.getElem?_eq_some_iff.1 h).1
  have e : ((fldL ns).take (k + 1))[k]? = some (fldN (fldK ns k) n) := by
    rw [fldL_take (by omega), fldK_step h, List.getElem?_append_right (by rw [fldK_len (by omega)]; exact Nat.le_refl _), fldK_len (by omega), Nat.sub_self]; rfl
  rw [List.getElem?_take, if_pos (by omega)] at e
  exact e
theorem fldK_at {ns : List Nd} {k j : Nat} {n : Nd} (hk : k ≤ ns.length) (hj : j < k) (h : ns[j]? = some n) : (fldK ns k)[j]? = some (fldN (fldK ns j) n) := by
  rw [← fldL_take hk, List.getElem?_take, if_pos hj]; exact fldL_at h
theorem fldN_wd (bs : List Nd) (n : Nd) : (fldN bs n).wd = n.wd := by unfold fldN; split <;> rfl
theorem fldN_al (bs : List Nd) (n : Nd) : (fldN bs n).args.length ≤ n.args.length := by
  unfold fldN; split
  · exact Nat.le_refl _
  · exact Nat.zero_le _
/-- A value that fits its width. -/
def FitC (m : Nd) : Prop := 1 ≤ m.wd ∧ m.wd ≤ 16 ∧ (m.op = 0 → 0 ≤ m.v ∧ m.v < pw m.wd)
theorem fldN_fit {bs : List Nd} {n : Nd} (h : FitC n) : FitC (fldN bs n) := by
  unfold fldN; split
  · exact h
  · exact ⟨h.1, h.2.1, fun _ => resG_bd⟩
theorem fitC_of {ls : List Int} {ns : List Nd} (h : (chk ls ns).2 = 0) (k : Nat) (n : Nd) (hn : ns[k]? = some n) : FitC n := by
  obtain ⟨h1, h2, h3, h4, h5, _⟩ := nodeE_ok ((chk_ok h).2.2.2 k n hn)
  obtain ⟨w1, w2⟩ := isW_iff.1 h2
  refine ⟨w1, w2, fun e => ?_⟩
  rw [e] at h5
  unfold numE at h5
  rw [if_pos rfl] at h5
  have hv := eIf_zero h5 (by decide)
  have : isV n.v n.wd = true := by simpa using hv
  unfold isV at this
  simp only [Bool.and_eq_true, decide_eq_true_eq] at this
  omega
theorem fldK_fit {ns : List Nd} (hf : ∀ (k : Nat) (n : Nd), ns[k]? = some n → FitC n) {k : Nat} (hk : k ≤ ns.length) : ∀ (j : Nat) (m : Nd), (fldK ns k)[j]? = some m → FitC m := by
  intro j m h
  have hj := (List.getElem?_eq_some_iff.1 h).1
  rw [fldK_len hk] at hj
  have hn := List.getElem?_eq_getElem (l := ns) (i := j) (by omega)
  rw [fldK_at hk hj hn] at h
  obtain rfl := Option.some.inj h
  exact fldN_fit (hf j _ hn)
theorem cvA_in {bs : List Nd} {args : List Int} {k i : Nat} {m : Nd} (ha : args[i]? = some (k : Int)) (hm : bs[k]? = some m) : cvA bs args i = m.v := by
  unfold cvA; rw [ha]; simp [hm]
theorem cvA_out {bs : List Nd} {args : List Int} {i : Nat} (ha : args.length ≤ i) : cvA bs args i = 0 := by
  unfold cvA; rw [List.getElem?_eq_none ha]
theorem opC_in {bs : List Nd} {k : Nat} {m : Nd} (hm : bs[k]? = some m) : opC bs (k : Int) = (m.op != 0) := by
  unfold opC; simp [hm]
theorem pwle {n : Int} (h1 : 1 ≤ n) (h2 : n ≤ 16) : pw n ≤ 65536 := (pw_bd (by omega) h2).2
/-- All arguments are constants that stand before. -/
structure Closed (bs : List Nd) (n : Nd) (k : Nat) : Prop where
  ne : n.args ≠ []
  at_ : ∀ i, i < n.args.length → ∃ (j : Nat) (m : Nd), n.args[i]? = some (j : Int) ∧ j < k ∧ bs[j]? = some m ∧ m.op = 0
theorem closed_of {ns : List Nd} {L k : Nat} {n : Nd} (ok : NodeOK ns L k n) (hk : k ≤ ns.length) (hs : stays (fldK ns k) n = false) : Closed (fldK ns k) n k := by
  unfold stays at hs
  rw [Bool.or_eq_false_iff] at hs
  refine ⟨fun e => (by rw [e] at hs; simp at hs), fun i hi => ?_⟩
  have h1 := List.getElem?_eq_getElem hi
  obtain ⟨a0, a1⟩ := ok.ai i _ h1
  obtain ⟨j, hj⟩ := Int.eq_ofNat_of_zero_le a0
  rw [hj] at h1 a1
  have hjl : j < (fldK ns k).length := by rw [fldK_len hk]; omega
  have hm := List.getElem?_eq_getElem hjl
  refine ⟨j, _, h1, by omega, hm, ?_⟩
  have := List.any_eq_false.1 hs.1 (j : Int) (List.mem_of_getElem? h1)
  rw [opC_in hm] at this
  simpa using this
theorem wAt_fld {ns : List Nd} {L k : Nat} {n : Nd} (ok : NodeOK ns L k n) (hk : k ≤ ns.length) (i : Nat) : wAt (fldK ns k) n.args i = wAt ns n.args i := by
  by_cases hi : i < n.args.length
  · have h1 := List.getElem?_eq_getElem hi
    obtain ⟨a0, a1⟩ := ok.ai i _ h1
    obtain ⟨j, hj⟩ := Int.eq_ofNat_of_zero_le a0
    rw [hj] at h1 a1
    have hn := List.getElem?_eq_getElem (l := ns) (i := j) (by omega)
    rw [wAt_in h1 hn, wAt_in h1 (fldK_at hk (by omega) hn), fldN_wd]
  · rw [wAt_out (by omega), wAt_out (by omega)]
theorem cvA_bd {bs : List Nd} {n : Nd} {k : Nat} (hc : Closed bs n k) (hf : ∀ (j : Nat) (m : Nd), bs[j]? = some m → FitC m) (i : Nat) : 0 ≤ cvA bs n.args i ∧ cvA bs n.args i ≤ 65536 ∧ (i < n.args.length → cvA bs n.args i < pw (wAt bs n.args i)) := by
  by_cases hi : i < n.args.length
  · obtain ⟨j, m, h1, h2, h3, h4⟩ := hc.at_ i hi
    rw [cvA_in h1 h3, wAt_in h1 h3]
    obtain ⟨f1, f2, f3⟩ := hf j m h3
    have := f3 h4
    have := pwle f1 f2
    omega
  · rw [cvA_out (by omega)]; omega
theorem fit3_fld {ns : List Nd} {L k : Nat} {n : Nd} (hall : ∀ k n, ns[k]? = some n → NodeOK ns L k n) (hn : ns[k]? = some n) (hf : ∀ (k : Nat) (n : Nd), ns[k]? = some n → FitC n) (hs : stays (fldK ns k) n = false) :
    Fit3 n.op n.wd n.v (wAt (fldK ns k) n.args 0) (cvA (fldK ns k) n.args 0) (wAt (fldK ns k) n.args 1) (cvA (fldK ns k) n.args 1) := by
  have h := hall k n hn
  have hk := Nat.le_of_lt (List.getElem?_eq_some_iff.1 hn).1
  have hc := closed_of h hk hs
  have w0 := wAt_ok hall hn 0
  have w1 := wAt_ok hall hn 1
  rw [wAt_fld h hk, wAt_fld h hk]
  have c0 := cvA_bd hc (fldK_fit hf hk) 0
  have c1 := cvA_bd hc (fldK_fit hf hk) 1
  refine ⟨h.o0, h.o1, h.w1, h.w2, c0.1, c0.2.1, c1.1, c1.2.1, ?_, w0.2.1, w1.1, ?_, w1.2.1, h.sl⟩
  · rintro (e | e)
    · exact w0.2.2 (by rw [h.a11 e]; decide)
    · exact w0.2.2 (by rw [h.a16 e]; decide)
  · intro e
    exact w1.2.2 (by rw [h.a11 e]; decide)

/-- Whether two nodes are equal. -/
def samN (a b : Nd) : Bool := decide (a.op = b.op) && decide (a.wd = b.wd) && decide (a.v = b.v) && decide (a.args = b.args)
theorem samN_iff {a b : Nd} : samN a b = true ↔ a = b := by
  unfold samN
  obtain ⟨o, w, g, v⟩ := a
  obtain ⟨o', w', g', v'⟩ := b
  simp only [Bool.and_eq_true, decide_eq_true_eq, Nd.mk.injEq]
  constructor
  · rintro ⟨⟨⟨h1, h2⟩, h3⟩, h4⟩; exact ⟨h1, h2, h4, h3⟩
  · rintro ⟨h1, h2, h3, h4⟩; exact ⟨⟨⟨h1, h2⟩, h4⟩, h3⟩
theorem samN_self (a : Nd) : samN a a = true := samN_iff.2 rfl
/-- The place of the first node that is equal to one, or as many as there are. -/
def plaN (cs : List Nd) (m : Nd) : Nat := cs.findIdx (fun c => samN c m)
theorem plaN_le (cs : List Nd) (m : Nd) : plaN cs m ≤ cs.length := List.findIdx_le_length
/-- A node with arguments by places. -/
def mvB (ps : List Int) (n : Nd) : Nd := ⟨n.op, n.wd, pickL ps n.args, n.v⟩
/-- The nodes that are different, and for all of the first nodes the place among them. -/
def shK (ns : List Nd) : Nat → List Nd × List Int
  | 0 => ([], List.replicate ns.length 0)
  | k + 1 => match ns[k]? with
    | none => shK ns k
    | some n => (if plaN (shK ns k).1 (mvB (shK ns k).2 n) < (shK ns k).1.length then (shK ns k).1 else (shK ns k).1 ++ [mvB (shK ns k).2 n], (shK ns k).2.set k (plaN (shK ns k).1 (mvB (shK ns k).2 n) : Int))
def shN (ns : List Nd) : List Nd := (shK ns ns.length).1
def shP (ns : List Nd) : List Int := (shK ns ns.length).2
theorem shK_old {ns : List Nd} {k : Nat} {n : Nd} (hn : ns[k]? = some n) (h : plaN (shK ns k).1 (mvB (shK ns k).2 n) < (shK ns k).1.length) : shK ns (k + 1) = ((shK ns k).1, (shK ns k).2.set k (plaN (shK ns k).1 (mvB (shK ns k).2 n) : Int)) := by
  simp only [shK, hn, h, if_true]
theorem shK_new {ns : List Nd} {k : Nat} {n : Nd} (hn : ns[k]? = some n) (h : ¬ plaN (shK ns k).1 (mvB (shK ns k).2 n) < (shK ns k).1.length) : shK ns (k + 1) = ((shK ns k).1 ++ [mvB (shK ns k).2 n], (shK ns k).2.set k ((shK ns k).1.length : Int)) := by
  have e : plaN (shK ns k).1 (mvB (shK ns k).2 n) = (shK ns k).1.length := Nat.le_antisymm (plaN_le _ _) (Nat.le_of_not_lt h)
  simp only [shK, hn]
  rw [if_neg h, e]
theorem shK_len {ns : List Nd} : ∀ k : Nat, (shK ns k).2.length = ns.length ∧ (shK ns k).1.length ≤ k := by
  intro k
  induction k with
  | zero => exact ⟨by simp [shK], Nat.le_refl _⟩
  | succ k ih =>
    simp only [shK]
    split
    · exact ⟨ih.1, by omega⟩
    · refine ⟨by rw [List.length_set]; exact ih.1, ?_⟩
      split
      · simp only; omega
      · simp only; rw [List.length_append]; simp; omega
theorem shK_al3 {ns : List Nd} (hal : ∀ (k : Nat) (n : Nd), ns[k]? = some n → n.args.length ≤ 3) : ∀ k : Nat, ∀ m ∈ (shK ns k).1, m.args.length ≤ 3 := by
  intro k
  induction k with
  | zero => intro m hm; simp [shK] at hm
  | succ k ih =>
    simp only [shK]
    split
    · exact ih
    · rename_i n hn
      split
      · exact ih
      · intro m hm
        rcases List.mem_append.1 hm with hm | hm
        · exact ih m hm
        · obtain rfl := List.mem_singleton.1 hm
          simpa [mvB, pickL_len] using hal k n hn
/-- The key of a node: its operation, width and number, and its arguments, padded. -/
def key6 (m : Nd) : Int × Int × Int × Int × Int × Int := (m.op, m.wd, m.v, m.args.getD 0 0, m.args.getD 1 0, m.args.getD 2 0)
theorem list3_eq {a b : List Int} (hl : a.length = b.length) (h3 : a.length ≤ 3) (h0 : a.getD 0 0 = b.getD 0 0) (h1 : a.getD 1 0 = b.getD 1 0) (h2 : a.getD 2 0 = b.getD 2 0) : a = b := by
  match a, b, hl, h3 with
  | [], [], _, _ => rfl
  | [x], [y], _, _ => simp at h0; rw [h0]
  | [x, x'], [y, y'], _, _ => simp at h0 h1; rw [h0, h1]
  | [x, x', x''], [y, y', y''], _, _ => simp at h0 h1 h2; rw [h0, h1, h2]
theorem key6_eq {a b : Nd} (ha : (a.args.length : Int) = argN a.op) (hb : (b.args.length : Int) = argN b.op) (h : key6 a = key6 b) : a = b := by
  obtain ⟨o, w, g, v⟩ := a
  obtain ⟨o', w', g', v'⟩ := b
  simp only [key6, Prod.mk.injEq] at h
  obtain ⟨rfl, rfl, rfl, h1, h2, h3⟩ := h
  have hl : g.length = g'.length := by simp only at ha hb; omega
  have h3' : g.length ≤ 3 := by have := argN_le o; simp only at ha; omega
  rw [list3_eq hl h3' h1 h2 h3]
theorem plaN_lt {cs : List Nd} {m : Nd} : plaN cs m < cs.length ↔ m ∈ cs := by
  unfold plaN
  rw [List.findIdx_lt_length]
  constructor
  · rintro ⟨c, hc, hs⟩
    rw [← samN_iff.1 hs]; exact hc
  · intro h
    exact ⟨m, h, samN_self m⟩
theorem plaN_at {cs : List Nd} {m : Nd} (h : m ∈ cs) : cs[plaN cs m]? = some m := by
  have hl := plaN_lt.2 h
  rw [List.getElem?_eq_getElem hl]
  have := List.findIdx_getElem (xs := cs) (p := fun c => samN c m) (w := hl)
  exact congrArg some (samN_iff.1 this)
theorem plaN_first {cs : List Nd} {m : Nd} {j : Nat} (h : j < plaN cs m) : ∀ c, cs[j]? = some c → samN c m = false := by
  intro c hc
  obtain ⟨hj, rfl⟩ := List.getElem?_eq_some_iff.1 hc
  have := List.not_of_lt_findIdx (xs := cs) (p := fun c => samN c m) h
  simpa using this
theorem plaN_snoc_in {cs : List Nd} {m x : Nd} (h : m ∈ cs) : plaN (cs ++ [x]) m = plaN cs m := by
  unfold plaN
  rw [List.findIdx_append]; exact if_pos (plaN_lt.2 h)
theorem plaN_snoc_new {cs : List Nd} {x : Nd} (h : ¬ x ∈ cs) : plaN (cs ++ [x]) x = cs.length := by
  unfold plaN
  have hn : ¬ List.findIdx (fun c => samN c x) cs < cs.length := fun e => h (plaN_lt.1 e)
  rw [List.findIdx_append, if_neg hn, List.findIdx_cons, samN_self]; simp

end Go.Proofs.YtkdonapgonegkaaGreatDoor

set_option linter.unusedSimpArgs false
set_option linter.unusedVariables false
namespace Go.Proofs.YtkdonapgonegkaaGreatDoor
open Go.RowKit Go.BigFrame

/-- The values of leaves, from the last one that is used on, cut off a number. -/
def triD (ls us : List Int) : Nat → List Int → Int → List Int
  | 0, row, _ => row
  | m + 1, row, num => triD ls us m (row.set (us.getD m 0).toNat (num % pw (ls.getD (us.getD m 0).toNat 0))) (num / pw (ls.getD (us.getD m 0).toNat 0))
def triL (ls us : List Int) (num : Int) : List Int := triD ls us us.length (List.replicate ls.length 0) num
theorem triD_len {ls us : List Int} : ∀ (m : Nat) (row : List Int) (num : Int), (triD ls us m row num).length = row.length := by
  intro m
  induction m with
  | zero => intro row num; rfl
  | succ m ih => intro row num; rw [triD, ih, List.length_set]
theorem triL_len (ls us : List Int) (num : Int) : (triL ls us num).length = ls.length := by unfold triL; rw [triD_len, List.length_replicate]
theorem triD_bd {ls us : List Int} (hw : ∀ x ∈ ls, isW x = true) : ∀ (m : Nat) (row : List Int) (num : Int), (∀ x ∈ row, 0 ≤ x ∧ x ≤ 65536) → ∀ x ∈ triD ls us m row num, 0 ≤ x ∧ x ≤ 65536 := by
  intro m
  induction m with
  | zero => intro row num h; exact h
  | succ m ih =>
    intro row num h
    rw [triD]
    refine ih _ _ fun x hx => ?_
    rcases List.mem_or_eq_of_mem_set hx with hx | rfl
    · exact h x hx
    · have hp : 1 ≤ pw (ls.getD (us.getD m 0).toNat 0) ∧ pw (ls.getD (us.getD m 0).toNat 0) ≤ 65536 := by
        generalize (us.getD m 0).toNat = i
        by_cases hi : i < ls.length
        · simp only [List.getD, List.getElem?_eq_getElem hi, Option.getD_some]
          have := isW_iff.1 (hw _ (List.getElem_mem hi))
          exact pw_bd (by omega) this.2
        · simp only [List.getD, List.getElem?_eq_none (Nat.le_of_not_lt hi), Option.getD_none]; decide
      have h1 := Int.emod_nonneg num (Int.ne_of_gt (pw_pos (ls.getD (us.getD m 0).toNat 0)))
      have h2 := Int.emod_lt_of_pos num (pw_pos (ls.getD (us.getD m 0).toNat 0))
      omega
theorem triL_bd {ls us : List Int} {num : Int} (hw : ∀ x ∈ ls, isW x = true) : ∀ x ∈ triL ls us num, 0 ≤ x ∧ x ≤ 65536 := by
  refine triD_bd hw _ _ _ fun x hx => ?_
  have := List.eq_of_mem_replicate hx; omega
def CopiedF (w : World) (ns : List Int) (e : Ending) (w' : World) : Prop := ∃ A' cap', e = .returned (.slice A' ns.length cap') ∧ LiesI w' A' ns ∧ (∀ ad, A' = some ad → w.heap.size ≤ ad.block) ∧ Below w.heap.size w w'
theorem maskM {n wd : Int} (h1 : 0 ≤ wd) (h2 : wd ≤ 16) : bits .and .i64 n (pw wd - 1) = n % pw wd := by
  obtain ⟨k, rfl⟩ := Int.eq_ofNat_of_zero_le h1
  exact and_mask _ k (by omega)

set_option maxRecDepth 100000 in
set_option maxHeartbeats 1600000 in
theorem trialOf_c (A : Option Addr) (cap : Nat) (ls : List Int) (hls : ls.length ≤ 65536) (hw : ∀ x ∈ ls, isW x = true) (U : Option Addr) (cu : Nat) (us : List Int) (hus : us.length ≤ 65536) (hu : ∀ x ∈ us, isIx x ls.length = true) (num : Int) (hn0 : 0 ≤ num) (hn1 : num ≤ 65536) (w : World) (hA : LiesI w A ls) (hU : LiesI w U us) :
    Calls Tryz.prog 101 #[.slice A ls.length cap, .slice U us.length cu, .int .i64 num] w (CopiedF w (triL ls us num)) := by
  obtain ⟨i0, hi, hz0, hz1, hz2⟩ := info_parts int_info
  have HA := Lib.hid hA
  have HU := Lib.hid hU
  have HW := Lib.hid hw
  have HIX := Lib.hid hu
  clear hA hU hw hu
  go_enter Tryz.func101, Tryz.ntmps101
  go_wp2_with (refine wpList_make_full _ rfl _ _ 22 rfl w.heap.size 3 i0 _ 1 Tryz.underlying22 hi hz0 hz1 .i64 .i64 _ _ ls.length rfl rfl rfl rfl (by rw [hz2]; omega) (by unfold maxLen; omega) (Nat.le_refl _) ?_; intro W1 hown hgr; have hb2 := (Below.refl w.heap.size w).grown hgr (Nat.le_refl _) (fun q hq => by cases hq); have rg : W1.heap[w.heap.size]? = some (.cells (rowA (List.replicate ls.length 0)) 3) := (by have := row_block hown rfl; rwa [row_made] at this); clear hown hgr)
  generalize hg : w.heap.size = g at *
  have hb0 : Below w.heap.size w W1 := by rw [hg]; exact hb2
  clear hb2
  go_loopw [2, 8] (fun v2 v8 wr => ∃ (m : Nat) (row : List Int) (nn t : Int), m ≤ us.length ∧ t + 1 = (m : Int) ∧ v8 = .int .i64 t ∧ v2 = .int .i64 nn ∧ 0 ≤ nn ∧ nn ≤ 65536 ∧ row.length = ls.length ∧ triL ls us num = triD ls us m row nn ∧ wr.heap[g]? = some (.cells (rowA row) 3) ∧ Below w.heap.size w wr) (fun _ v8 _ => (intOf v8 + 1).toNat)
  case atStart => exact ⟨us.length, _, num, _, Nat.le_refl _, by omega, rfl, rfl, hn0, hn1, List.length_replicate, rfl, rg, hb0⟩
  case round =>
    clear rg hb0
    obtain ⟨m, row, nn, t, hm, ht, rfl, rfl, hn0, hn1, hl, hd, rg, hb⟩ := hrel
    have HL := Lib.hid hl
    have HD := Lib.hid hd
    clear hl hd
    match m, hm, ht, HD with
    | 0, _, ht, HD =>
      obtain rfl : t = -1 := by omega
      have HF := Lib.hid (show CopiedF w (triL ls us num) (.returned (.slice (some ⟨g, 0, none⟩) ls.length ls.length)) wr from by
        rw [HD.out]
        exact ⟨_, ls.length, by rw [triD, HL.out], LiesI.block rg, fun ad h => (by injection h with h; subst h; exact Nat.le_of_eq hg), hb⟩)
      clear rg
      go_wp2
      go_ret
      exact HF.out
    | k + 1, hm, ht, HD =>
      obtain rfl : t = (k : Int) := by omega
      have hk : k < us.length := hm
      have hkk : (k : Int) < us.length := by omega
      have HE := Lib.hid (List.getElem?_eq_getElem hk)
      have HI := Lib.hid (HIX.out _ (List.getElem_mem hk))
      generalize us[k] = x at *
      obtain ⟨x0, x1⟩ := isIx_iff.1 HI.out
      obtain ⟨p, rfl⟩ := Int.eq_ofNat_of_zero_le x0
      have hp : p < ls.length := by omega
      have HY := Lib.hid (List.getElem?_eq_getElem hp)
      have hiw := isW_iff.1 (HW.out _ (List.getElem_mem hp))
      have HD2 : Hid (triL ls us num = triD ls us k (row.set p (nn % pw ls[p])) (nn / pw ls[p])) := Lib.hid (by
        have e : us.getD k 0 = (p : Int) := by simp [List.getD, HE.out]
        have e2 : ls.getD ((p : Nat) : Int).toNat 0 = ls[p] := by simp [hp]
        rw [HD.out, triD, e, e2]; rfl)
      generalize ls[p] = wd at *
      obtain ⟨w1, w2⟩ := hiw
      obtain ⟨au, rfl, hau, c0⟩ := HU.out.cell HE.out
      obtain ⟨aa, rfl, haa, c1⟩ := HA.out.cell HY.out
      have d0 := (hb.cell (p := au.add k) (by rw [addB]; exact hau)).trans c0
      have d1 := (hb.cell (p := aa.add p) (by rw [addB]; exact haa)).trans c1
      have dx : ∀ z : Aft wr, z.val.cell? (au.add k) = some (.int .i64 ((p : Nat) : Int)) := fun z => ((z.below hb hb.size).cell (p := au.add k) (by rw [addB]; exact hau)).trans c0
      have HM := Lib.hid (maskM (n := nn) (wd := wd) (by omega) w2)
      have hpb := pw_bd (n := wd) (by omega) w2
      have hq0 : 0 ≤ nn / pw wd := Int.ediv_nonneg hn0 (by omega)
      have hq1 : nn / pw wd ≤ 65536 := Int.le_trans (Int.ediv_le_self _ hn0) hn1
      have hpu : ((p : Nat) : Int) < ls.length := by omega
      clear c0 c1
      go_wp2_with fail
      refine wp_region_aft_tail 10 (by kernel_rfl) (by kernel_rfl) ?_
      simp only [List.take_succ_cons, List.take_zero, List.drop_succ_cons, List.drop_zero]
      repeat (go_big_quiet_step (first | (go_at_call 98; exact Calls.qs (highest_c _ (by omega) (by omega) _))))
      refine wpQuiet_nil ?_
      intro y
      rw [HM.out]
      have rgy := heap_aft y (lt_of_get rg) rg
      have hby := y.below hb hb.size
      obtain ⟨u, hu⟩ : ∃ u, row[p]? = some u := ⟨_, List.getElem?_eq_getElem (by rw [HL.out]; exact hp)⟩
      have qk := (cell_block (i := p) rgy).trans (rowA_in hu)
      have fk := free_block (i := p) rgy
      obtain ⟨mm, hmm⟩ : ∃ mm, nn % pw wd = mm := ⟨_, rfl⟩
      rw [hmm] at HD2 ⊢
      have HFIN := Lib.hid (show (y.val.setCell ⟨g, p, none⟩ (.int .i64 mm)).heap[g]? = some (.cells (rowA (row.set p mm)) 3) ∧ Below w.heap.size w (y.val.setCell ⟨g, p, none⟩ (.int .i64 mm)) from
        ⟨by rw [heap_set rgy, rowA_set], hby.setCell (p := ⟨g, p, none⟩) (Nat.le_of_eq hg) _⟩)
      have HLS := Lib.hid (show (row.set p mm).length = ls.length by rw [List.length_set]; exact HL.out)
      clear hu rgy hby dx rg hmm
      generalize y.val = W4 at *
      go_wp2
      go_roundw
      case rel => exact ⟨k, _, nn / pw wd, _, by omega, by omega, rfl, rfl, hq0, hq1, HLS.out, HD2.out, HFIN.out.1, HFIN.out.2⟩
      case measure => simp [intOf]; try omega

end Go.Proofs.YtkdonapgonegkaaGreatDoor

set_option linter.unusedSimpArgs false
set_option linter.unusedVariables false
namespace Go.Proofs.YtkdonapgonegkaaGreatDoor
open Go.RowKit Go.BigFrame

theorem four_new {w : World} {a b c d : Value} {T : TypeId} : ∀ j u, [a, b, c, d][j]? = some u → (w.alloc (.cells #[a, b, c, d] T)).cell? ((⟨w.heap.size, 0, none⟩ : Addr).add j) = some u := by
  intro j u hj
  match j, hj with
  | 0, hj => simp at hj; subst hj; simp [Addr.add]
  | 1, hj => simp at hj; subst hj; simp [Addr.add]
  | 2, hj => simp at hj; subst hj; simp [Addr.add]
  | 3, hj => simp at hj; subst hj; simp [Addr.add]
  | (j + 4), hj => simp at hj
/-- A row of nodes of the call's own: what its arguments lead to lies beyond g, in rows of numbers. -/
def NodesRow (w : World) (base g : Nat) (v : Value) (ns : List Nd) (xs : List Value) : Prop :=
  w.ownsRow base 61 4 v ns.length xs ∧ ∀ i n, ns[i]? = some n → xs[i * 4]? = some (.int .i64 n.op) ∧ xs[i * 4 + 1]? = some (.int .i64 n.wd) ∧ xs[i * 4 + 3]? = some (.int .i64 n.v) ∧
    ∃ B cap, xs[i * 4 + 2]? = some (.slice B n.args.length cap) ∧ LiesI w B n.args ∧ ∀ ad, B = some ad → g < ad.block ∧ ad.block < w.heap.size ∧ ∀ cur fz, w.heap[ad.block]? ≠ some (.cells cur 61 fz)
theorem NodesRow.nil (w : World) (base g : Nat) : NodesRow w base g (.slice none 0 0) [] [] := ⟨World.ownsRow_nil _ _ _ _, fun i n h => by simp at h⟩
theorem NodesRow.below {w W : World} {base g : Nat} {v : Value} {ns : List Nd} {xs : List Value} (h : NodesRow w base g v ns xs) (hb : Below w.heap.size w W) : NodesRow W base g v ns xs :=
  ⟨own_below h.1 hb, fun i n hi => by
    obtain ⟨a, b, c, B, cap, d, hl, hB⟩ := h.2 i n hi
    refine ⟨a, b, c, B, cap, d, hl.below hb, fun ad he => ?_⟩
    obtain ⟨h1, h2, h3⟩ := hB ad he
    exact ⟨h1, Nat.lt_of_lt_of_le h2 hb.size, by rw [hb.block _ h2]; exact h3⟩⟩
theorem own_setCell {w : World} {base m j : Nat} {e : TypeId} {k n : Nat} {v u : Value} {xs : List Value} (h : w.ownsRow base e k v n xs) (hm : m < base) : (w.setCell ⟨m, j, none⟩ u).ownsRow base e k v n xs := by
  refine ⟨h.1, h.2.imp id ?_⟩
  rintro ⟨g, cap, cur, h1, h2, h3, h4⟩
  exact ⟨g, cap, cur, h1, h2, (heap_setCell_ne (by omega)).trans h3, h4⟩
theorem NodesRow.setCell {w : World} {base g m j : Nat} {v u : Value} {ns : List Nd} {xs : List Value} (h : NodesRow w base g v ns xs) (hm : m < base) (hg : m ≤ g) : NodesRow (w.setCell ⟨m, j, none⟩ u) base g v ns xs :=
  ⟨own_setCell h.1 hm, fun i n hi => by
    obtain ⟨a, b, c, B, cap, d, hl, hB⟩ := h.2 i n hi
    refine ⟨a, b, c, B, cap, d, hl.set (fun ad he => Nat.lt_of_le_of_lt hg (hB ad he).1), fun ad he => ?_⟩
    obtain ⟨h1, h2, h3⟩ := hB ad he
    exact ⟨h1, by simpa using h2, by rw [heap_setCell_ne (by omega)]; exact h3⟩⟩
theorem NodesRow.snoc {w W w3 : World} {base g : Nat} {v v' : Value} {ns : List Nd} {xs : List Value} {n : Nd} {B : Option Addr} {cap : Nat} (h : NodesRow w base g v ns xs) (hW : Below w.heap.size w W)
    (ho : w3.ownsRow base 61 4 v' (ns.length + 1) (xs ++ [.int .i64 n.op, .int .i64 n.wd, .slice B n.args.length cap, .int .i64 n.v])) (hg : W.grownBy w3 v.ownBlock)
    (hl : LiesI w B n.args) (hB : ∀ ad, B = some ad → g < ad.block ∧ ad.block < w.heap.size ∧ ∀ cur fz, w.heap[ad.block]? ≠ some (.cells cur 61 fz)) :
    NodesRow w3 base g v' (ns ++ [n]) (xs ++ [.int .i64 n.op, .int .i64 n.wd, .slice B n.args.length cap, .int .i64 n.v]) := by
  have hx : xs.length = ns.length * 4 := h.1.1
  have keep : ∀ m, m < w.heap.size → (∀ cur fz, w.heap[m]? ≠ some (.cells cur 61 fz)) → w3.heap[m]? = w.heap[m]? := by
    intro m hm hne
    rw [← hW.block m hm]
    refine hg.block m (Nat.lt_of_lt_of_le hm hW.size) (fun e => ?_)
    rcases h.1.2 with ⟨rfl, _⟩ | ⟨q, c1, cur, rfl, _, h3, _⟩
    · cases e
    · have e' : some m = some q := e
      injection e' with e'
      subst e'
      exact hne _ _ h3
  have keepL : ∀ (A : Option Addr) (zs : List Int), LiesI w A zs → (∀ ad, A = some ad → g < ad.block ∧ ad.block < w.heap.size ∧ ∀ cur fz, w.heap[ad.block]? ≠ some (.cells cur 61 fz)) → LiesI w3 A zs ∧ ∀ ad, A = some ad → g < ad.block ∧ ad.block < w3.heap.size ∧ ∀ cur fz, w3.heap[ad.block]? ≠ some (.cells cur 61 fz) := by
    intro A zs hA hf
    refine ⟨fun hp => ?_, fun ad he => ?_⟩
    · obtain ⟨ad, rfl, h1, h2⟩ := hA hp
      obtain ⟨_, h3, h4⟩ := hf ad rfl
      refine ⟨ad, rfl, ?_, fun i x hi => ?_⟩
      · exact Nat.lt_of_lt_of_le h1 (Nat.le_trans hW.size hg.size)
      · have := h2 i x hi
        unfold World.cell? at this ⊢
        rw [keep _ (by rw [addB]; exact h3) (by rw [addB]; exact h4)]
        exact this
    · obtain ⟨h1, h3, h4⟩ := hf ad he
      refine ⟨h1, ?_, by rw [keep _ h3 h4]; exact h4⟩
      exact Nat.lt_of_lt_of_le h3 (Nat.le_trans hW.size hg.size)
  refine ⟨by rw [List.length_append]; exact ho, fun i m hi => ?_⟩
  by_cases hin : i < ns.length
  · rw [List.getElem?_append_left hin] at hi
    obtain ⟨a, b, c, B', cap', d, hl', hB'⟩ := h.2 i m hi
    obtain ⟨k1, k2⟩ := keepL B' _ hl' hB'
    refine ⟨?_, ?_, ?_, B', cap', ?_, k1, k2⟩
    all_goals rw [List.getElem?_append_left (by omega)]; assumption
  · have hin' : i = ns.length := by
      have := (List.getElem?_eq_some_iff.1 hi).1
      rw [List.length_append] at this
      simp at this; omega
    subst hin'
    rw [List.getElem?_append_right (Nat.le_refl _), Nat.sub_self] at hi
    obtain rfl : n = m := by simpa using hi
    obtain ⟨k1, k2⟩ := keepL B _ hl hB
    refine ⟨?_, ?_, ?_, B, cap, ?_, k1, k2⟩
    all_goals
      rw [List.getElem?_append_right (by omega), hx]
      first | (rw [Nat.sub_self]; rfl) | (rw [Nat.add_sub_cancel_left]; rfl)
theorem NodesRow.lies {w : World} {base g : Nat} {v : Value} {ns : List Nd} {xs : List Value} (h : NodesRow w base g v ns xs) : ∃ A' cap', v = .slice A' ns.length cap' ∧ ns.length ≤ cap' ∧ LiesN w A' ns ∧ ∀ ad, A' = some ad → base ≤ ad.block := by
  rcases h.1.2 with ⟨rfl, h0⟩ | ⟨q, cap', cur, rfl, hb, _, hc, _⟩
  · exact ⟨none, 0, by rw [h0], by omega, fun hp => by omega, fun ad h => by cases h⟩
  · refine ⟨_, cap', rfl, hc, fun hp => ⟨_, rfl, (h.1.lt q rfl).2, fun i n hi => ?_⟩, fun ad h => by injection h with h; subst h; exact hb⟩
    obtain ⟨f0, f1, f3, B, bc, f2, hl, _⟩ := h.2 i n hi
    exact ⟨h.1.cells (g := q) rfl _ _ f0, (by rw [add_add]; exact h.1.cells (g := q) rfl _ _ f1), (by rw [add_add]; exact h.1.cells (g := q) rfl _ _ f3), B, bc, (by rw [add_add]; exact h.1.cells (g := q) rfl _ _ f2), hl⟩

end Go.Proofs.YtkdonapgonegkaaGreatDoor

set_option linter.unusedSimpArgs false
set_option linter.unusedVariables false
namespace Go.Proofs.YtkdonapgonegkaaGreatDoor
open Go.RowKit Go.BigFrame

theorem But.grown {g : Nat} {W w w' : World} {row : Option Nat} (h : But g W w) (hg : w.grownBy w' row) (hr : ∀ q, row = some q → W.heap.size ≤ q) : But g W w' :=
  ⟨Nat.le_trans h.size hg.size, fun n hn hne => (hg.block n (Nat.lt_of_lt_of_le hn h.size) (fun e => by have := hr n e.symm; omega)).trans (h.block n hn hne)⟩
theorem But.alloc {g : Nat} {W w : World} (h : But g W w) (o : Obj) : But g W (w.alloc o) := h.below ((Below.refl _ _).alloc (Nat.le_refl _) _)
/-- The nodes of a cone, and the places of all nodes in it, behind so many nodes. -/
def conK (ns : List Nd) (bs : List Bool) : Nat → List Nd × List Int
  | 0 => ([], List.replicate ns.length 0)
  | k + 1 => match ns[k]? with
    | none => conK ns bs k
    | some n => if bs.getD k false = true then ((conK ns bs k).1 ++ [⟨n.op, n.wd, n.args.map (fun a => ((conK ns bs k).2.set k (conK ns bs k).1.length).getD a.toNat 0), n.v⟩], (conK ns bs k).2.set k (conK ns bs k).1.length) else conK ns bs k
def coneN (ns : List Nd) (fr : List Int) : List Nd := (conK ns (belL ns fr) ns.length).1
def coneP (ns : List Nd) (fr : List Int) : List Int := pickL (conK ns (belL ns fr) ns.length).2 fr
theorem conK_no {ns : List Nd} {bs : List Bool} {k : Nat} {n : Nd} (hn : ns[k]? = some n) (hb : bs[k]? = some false) : conK ns bs (k + 1) = conK ns bs k := by
  simp [conK, hn, List.getD, hb]
theorem conK_yes {ns : List Nd} {bs : List Bool} {k : Nat} {n : Nd} (hn : ns[k]? = some n) (hb : bs[k]? = some true) : conK ns bs (k + 1) = ((conK ns bs k).1 ++ [⟨n.op, n.wd, n.args.map (fun a => ((conK ns bs k).2.set k (conK ns bs k).1.length).getD a.toNat 0), n.v⟩], (conK ns bs k).2.set k (conK ns bs k).1.length) := by
  have e : bs.getD k false = true := by simp [List.getD, hb]
  simp only [conK, hn, e, if_true]
theorem conK_len {ns : List Nd} {bs : List Bool} : ∀ k : Nat, (conK ns bs k).2.length = ns.length ∧ (conK ns bs k).1.length ≤ k := by
  intro k
  induction k with
  | zero => exact ⟨by simp [conK], Nat.le_refl _⟩
  | succ k ih =>
    simp only [conK]
    split
    · exact ⟨ih.1, by omega⟩
    · split
      · refine ⟨by rw [List.length_set]; exact ih.1, ?_⟩
        rw [List.length_append]; simp; omega
      · exact ⟨ih.1, by omega⟩
/-- Nodes and numbers, as results. -/
def ConeR (w : World) (cs : List Nd) (ps : List Int) (e : Ending) (w' : World) : Prop := ∃ A c B c2, e = .returned (.tuple #[.slice A cs.length c, .slice B ps.length c2]) ∧ cs.length ≤ c ∧ LiesN w' A cs ∧ LiesI w' B ps ∧ Below w.heap.size w w'

set_option maxRecDepth 100000 in
set_option maxHeartbeats 1600000 in
theorem coneOf_c (N : Option Addr) (capN : Nat) (ns : List Nd) (hns : ns.length ≤ 65536) (L : Nat) (hall : ∀ k n, ns[k]? = some n → NodeOK ns L k n) (F : Option Addr) (cf : Nat) (fr : List Int) (hfr : fr.length ≤ 65536) (hf : ∀ x ∈ fr, isIx x ns.length = true) (w : World) (hN : LiesN w N ns) (hF : LiesI w F fr) :
    Calls Tryz.prog 39 #[.slice N ns.length capN, .slice F fr.length cf] w (ConeR w (coneN ns fr) (coneP ns fr)) := by
  obtain ⟨i0, hi, hz0, hz1, hz2⟩ := info_parts int_info
  obtain ⟨ni0, nhi, nhz0, nhz1, nhz2⟩ := info_parts node_info
  have HNN := Lib.hid hN
  have HFF := Lib.hid hF
  have HALL := Lib.hid hall
  have HFX := Lib.hid hf
  have HBE := Lib.hid (fun (W : World) (hb : Below w.heap.size w W) => below_c N capN ns hns L hall F cf fr hfr hf W (hN.below hb) (hF.below hb))
  clear hN hF hall hf
  go_enter Tryz.func39, Tryz.ntmps39
  go_wp2_with (refine wpList_make_full _ rfl _ _ 22 rfl w.heap.size 3 i0 _ 1 Tryz.underlying22 hi hz0 hz1 .i64 .i64 _ _ ns.length rfl rfl rfl rfl (by rw [hz2]; omega) (by unfold maxLen; omega) (Nat.le_refl _) ?_; intro W1 hown hgr; have hb2 := (Below.refl w.heap.size w).grown hgr (Nat.le_refl _) (fun q hq => by cases hq); have rg : W1.heap[w.heap.size]? = some (.cells (rowA (List.replicate ns.length 0)) 3) := (by have := row_block hown rfl; rwa [row_made] at this); clear hown hgr)
  have lg := lt_of_get rg
  have rP : (W1.alloc (.cells #[.slice (some ⟨w.heap.size, 0, none⟩) ns.length ns.length] 22)).heap[W1.heap.size]? = some (.cells #[.slice (some ⟨w.heap.size, 0, none⟩) ns.length ns.length] 22) := heap_alloc_new _ _
  have rg1 := heap_alloc' (o := .cells #[.slice (some ⟨w.heap.size, 0, none⟩) ns.length ns.length] 22) lg rg
  have hb3 := hb2.alloc hb2.size (.cells #[.slice (some ⟨w.heap.size, 0, none⟩) ns.length ns.length] 22)
  have hPg : w.heap.size < W1.heap.size := lg
  generalize W1.alloc (.cells #[.slice (some ⟨w.heap.size, 0, none⟩) ns.length ns.length] 22) = W2 at *
  clear rg hb2 lg
  generalize W1.heap.size = P at *
  refine (HBE.out _ hb3).mono ?_
  rintro e W3 ⟨M, cm, rfl, hM, hfr2, hb4⟩
  have rg := (hb4.block _ (lt_of_get rg1)).trans rg1
  have rP3 := (hb4.block _ (lt_of_get rP)).trans rP
  have hb5 := hb3.trans (hb4.mono hb3.size)
  have HFR := Lib.hid (fun ad h => Nat.lt_of_lt_of_le (lt_of_get rg1) (hfr2 ad h))
  have HM := Lib.hid hM
  have HBLn := Lib.hid (belL_len ns fr)
  rw [HBLn.out]
  clear hM hfr2 hb4 hb3 rg1 rP HBE
  generalize hg : w.heap.size = g at *
  have hb0 : Below w.heap.size w W3 := by rw [hg]; exact hb5
  clear hb5
  have lP3 := lt_of_get rP3
  go_wp2_with fail
  have HCN := Lib.hid (show coneN ns fr = (conK ns (belL ns fr) ns.length).1 from rfl)
  have HCP := Lib.hid (show coneP ns fr = pickL (conK ns (belL ns fr) ns.length).2 fr from rfl)
  generalize hbs : belL ns fr = bs at *
  go_loopw [6, 17] (fun v6 v17 wr => ∃ (k : Nat) (xs : List Value), k ≤ ns.length ∧ v17 = .int .i64 k ∧ NodesRow wr W3.heap.size g v6 (conK ns bs k).1 xs ∧ wr.heap[g]? = some (.cells (rowA (conK ns bs k).2) 3) ∧ Below w.heap.size w wr ∧ But g W3 wr) (fun _ v17 _ => ns.length - (intOf v17).toNat)
  case atStart => exact ⟨0, [], by omega, rfl, NodesRow.nil _ _ _, rg, hb0, But.refl _ _⟩
  case round =>
    clear rg hb0
    obtain ⟨k, xs, hk, rfl, hrow, rg, hb, hbut⟩ := hrel
    obtain ⟨A0, c0', hv6, hc0, hlN, _⟩ := hrow.lies
    subst hv6
    have HKL := Lib.hid (conK_len (ns := ns) (bs := bs) k)
    by_cases hlt : k < ns.length
    · have hkk : (k : Int) < ns.length := by omega
      have HX := Lib.hid (List.getElem?_eq_getElem hlt)
      generalize ns[k] = x at *
      obtain ⟨b, hbk'⟩ : ∃ b, bs[k]? = some b := ⟨_, List.getElem?_eq_getElem (by rw [HBLn.out]; exact hlt)⟩
      obtain ⟨am, rfl, ham, cm0⟩ := HM.out.cell hbk'
      have cm1 := (hbut.cell (p := am.add k) (by rw [addB]; exact ham) (by rw [addB]; exact Nat.ne_of_gt (HFR.out am rfl))).trans cm0
      have HBK := Lib.hid hbk'
      clear cm0 hbk' hlN
      cases b with
      | false =>
        have HS := Lib.hid (conK_no HX.out HBK.out)
        have HR := Lib.hid hrow
        clear hrow
        go_wp2
        go_roundw
        case rel => exact ⟨k + 1, xs, by omega, by go_num, by rw [HS.out]; exact HR.out, by rw [HS.out]; exact rg, hb, hbut⟩
        case measure => simp [intOf]; omega
      | true =>
        have HS := Lib.hid (conK_yes HX.out HBK.out)
        have HOK := Lib.hid (HALL.out k x HX.out)
        have qP := cell_block (i := 0) ((hbut.block P lP3 (by omega)).trans rP3)
        simp at qP
        obtain ⟨u, hu⟩ : ∃ u, (conK ns bs k).2[k]? = some u := ⟨_, List.getElem?_eq_getElem (by rw [HKL.out.1]; exact hlt)⟩
        have qk := (cell_block (i := k) rg).trans (rowA_in hu)
        have fk := free_block (i := k) rg
        have HML := Lib.hid HKL.out.2
        have HPL := Lib.hid HKL.out.1
        have hml := HML.out
        have hc0k : (conK ns bs k).1.length ≤ 65536 := by omega
        clear hu
        generalize conK ns bs k = CK at *
        obtain ⟨cs, ps⟩ := CK
        simp only at *
        have HROW := Lib.hid hrow
        clear hrow
        go_upto_region 8 with (fail)
        have rgS : (wr.setCell ⟨g, k, none⟩ (.int .i64 (cs.length : Int))).heap[g]? = some (.cells (rowA (ps.set k cs.length)) 3) := by rw [heap_set rg, rowA_set]
        have hbS : Below w.heap.size w (wr.setCell ⟨g, k, none⟩ (.int .i64 (cs.length : Int))) := hb.setCell (p := ⟨g, k, none⟩) (Nat.le_of_eq hg) _
        have hbutS : But g W3 (wr.setCell ⟨g, k, none⟩ (.int .i64 (cs.length : Int))) := hbut.setCell
        have HROWS := Lib.hid (HROW.out.setCell (m := g) (j := k) (u := .int .i64 (cs.length : Int)) (by omega) (Nat.le_refl _))
        clear rg hb hbut HROW qk fk qP
        generalize wr.setCell ⟨g, k, none⟩ (.int .i64 (cs.length : Int)) = S1 at *
        have qP := cell_block (i := 0) ((hbutS.block P lP3 (by omega)).trans rP3)
        simp at qP
        obtain ⟨ad, rfl, hbl, c0, c1, c3, B, bc, c2, hB⟩ := HNN.out.cells HX.out
        have hbk : ∀ p : Addr, p.block = ad.block → S1.cell? p = w.cell? p := fun p hp => hbS.cell (p := p) (by rw [hp]; exact hbl)
        have a0 := (hbk (ad.add (k * 4)) (by rw [addB])).trans c0
        have a1 : S1.cell? ⟨(ad.add (k * 4)).block, (ad.add (k * 4)).off + 1, none⟩ = some (.int .i64 x.wd) := (hbk ((ad.add (k * 4)).add 1) (by rw [addB, addB])).trans c1
        have a2 : S1.cell? ⟨(ad.add (k * 4)).block, (ad.add (k * 4)).off + 2, none⟩ = some (.slice B x.args.length bc) := (hbk ((ad.add (k * 4)).add 2) (by rw [addB, addB])).trans c2
        have a3 : S1.cell? ⟨(ad.add (k * 4)).block, (ad.add (k * 4)).off + 3, none⟩ = some (.int .i64 x.v) := (hbk ((ad.add (k * 4)).add 3) (by rw [addB, addB])).trans c3
        clear c0 c1 c2 c3 hbk
        have HBL := Lib.hid hB
        clear hB
        have HAL := Lib.hid HOK.out.al
        obtain ⟨op, wd, args, v⟩ := x
        simp only at a0 a1 a2 a3 HBL HAL HS
        have hal : args.length ≤ 65536 := by have := HAL.out; omega
        have HAI : Hid (∀ a ∈ args, 0 ≤ a ∧ a < k) := Lib.hid (fun a ha => by
          obtain ⟨i, hi, rfl⟩ := List.mem_iff_getElem.1 ha
          exact HOK.out.ai i _ (List.getElem?_eq_getElem hi))
        have HWA := Lib.hid (withArgs_cone P (fun a => (ps.set k cs.length).getD a.toNat 0) op wd v B bc args hal S1 (HBL.out.below hbS) (fun a ha W hbW => by
          obtain ⟨h0, h1⟩ := HAI.out a ha
          obtain ⟨j, rfl⟩ := Int.eq_ofNat_of_zero_le h0
          have hj : j < (ps.set k cs.length).length := by rw [List.length_set, HPL.out]; omega
          refine coneOf1_c j ns.length ns.length _ P ⟨g, 0, none⟩ (by omega) hns W ?_ ?_
          · rw [hbW.cell (p := ⟨P, 0, none⟩) (Nat.lt_of_lt_of_le lP3 hbutS.size)]; exact qP
          · rw [Addr.add_lit, Nat.zero_add]
            refine (cell_block ((hbW.block g (lt_of_get rgS)).trans rgS)).trans (rowA_in ?_)
            simp [List.getD, List.getElem?_eq_getElem hj]))
        have lW3 : W3.heap.size ≤ S1.heap.size := hbutS.size
        go_wp2_with fail
        refine HWA.out.mono ?_
        rintro e W4 ⟨A2, cap2, rfl, hc2, hl2, hf2, hb4⟩
        rw [List.length_map]
        have hrow4 := HROWS.out.below hb4
        have lW4 := Nat.le_trans lW3 hb4.size
        have HL2 := Lib.hid hl2
        have HF2 : Hid (∀ ad, A2 = some ad → g < ad.block ∧ ad.block < W4.heap.size ∧ ∀ cur fz, W4.heap[ad.block]? ≠ some (.cells cur 61 fz)) := Lib.hid (fun ad h => by
          obtain ⟨h1, cur, h2⟩ := hf2 ad h
          refine ⟨by omega, lt_of_get h2, fun c z h3 => ?_⟩
          rw [h2] at h3
          simp at h3)
        clear hc2 hl2 hf2 a0 a1 a2 a3 qP
        go_wp2_with (at_builtin; refine wpList_append_own _ rfl _ _ 23 rfl W3.heap.size 61 ni0 (.agg #[.int .i64 0, .int .i64 0, .slice none 0 0, .int .i64 0]) 4 48 Tryz.underlying23 nhi nhz0 nhz1 nhz2 rfl (by decide) _ _ _ rfl (hrow4.1.alloc _) ⟨_, 0, none⟩ 1 1 [.int .i64 op, .int .i64 wd, .slice A2 args.length cap2, .int .i64 v] rfl rfl four_new (fun x hx => by simp at hx; rcases hx with rfl | rfl | rfl | rfl <;> rfl) (by unfold maxLen; omega) (by omega) (by first | omega | (simp; omega) | (simp at *; omega)) ?_; intro v' w3 hown' hgrow3 hnn)
        have HR5 := Lib.hid (NodesRow.snoc (n := ⟨op, wd, args.map (fun a => (ps.set k cs.length).getD a.toNat 0), v⟩) (cap := cap2) hrow4 ((Below.refl _ _).alloc (Nat.le_refl _) _) (by simpa using hown') hgrow3 HL2.out HF2.out)
        have hsg : g < S1.heap.size := lt_of_get rgS
        have HG5 := Lib.hid ((hgrow3.block g (by simp; have := hb4.size; omega) (fun e => by have := (hrow4.1.lt g e.symm).1; omega)).trans ((heap_alloc' (by have := hb4.size; omega) ((hb4.block g hsg).trans rgS))))
        have hb45 := hbS.trans (hb4.mono hbS.size)
        have HB5 := Lib.hid ((hb45.alloc hb45.size (.cells #[.int .i64 op, .int .i64 wd, .slice A2 args.length cap2, .int .i64 v] 61)).grown hgrow3 (by simp; have := hb45.size; omega) (fun q hq => by have := (hrow4.1.lt q hq).1; omega))
        have HT5 := Lib.hid (((hbutS.below hb4).alloc (.cells #[.int .i64 op, .int .i64 wd, .slice A2 args.length cap2, .int .i64 v] 61)).grown hgrow3 (fun q hq => (hrow4.1.lt q hq).1))
        clear hown' hgrow3 hrow4 hb45 hb4 rgS hbS hbutS
        go_wp2
        go_roundw
        case rel => exact ⟨k + 1, _, by omega, by go_num, by rw [HS.out]; exact HR5.out, by rw [HS.out]; exact HG5.out, HB5.out, HT5.out⟩
        case measure => simp [intOf]; omega
    · obtain rfl : k = ns.length := by omega
      have HPK := Lib.hid (picked_c (some ⟨g, 0, none⟩) ns.length (conK ns bs ns.length).2 (by rw [HKL.out.1]; exact hns) F cf fr hfr (by rw [HKL.out.1]; exact HFX.out) wr (LiesI.block rg) (HFF.out.below hb))
      rw [HKL.out.1] at HPK
      have qP := cell_block (i := 0) ((hbut.block P lP3 (by omega)).trans rP3)
      simp at qP
      have HLN := Lib.hid hlN
      clear hrow rg hbut
      go_wp2_with fail
      refine HPK.out.mono ?_
      rintro e W5 ⟨A', cap', rfl, hl5, _, hb5⟩
      have HF := Lib.hid (show ConeR w (coneN ns fr) (coneP ns fr) (.returned (.tuple #[.slice A0 (conK ns bs ns.length).1.length c0', .slice A' fr.length cap'])) W5 from
        ⟨A0, c0', A', cap', by rw [HCN.out, HCP.out, pickL_len], by rw [HCN.out]; exact hc0, by rw [HCN.out]; exact HLN.out.below hb5, by rw [HCP.out]; exact hl5, hb.trans (hb5.mono hb.size)⟩)
      clear hl5 hb5
      go_wp2
      go_ret2
      exact HF.out

end Go.Proofs.YtkdonapgonegkaaGreatDoor

set_option linter.unusedSimpArgs false
set_option linter.unusedVariables false
namespace Go.Proofs.YtkdonapgonegkaaGreatDoor
open Go.RowKit Go.BigFrame

/-- What the closure of the trials has captured. -/
structure Caught (w : World) (b3 b4 b5 b9 b7 b8 : Nat) (ls : List Int) (ns : List Nd) (fr : List Int) : Prop where
  leaves : ∃ A cap, w.heap[b3]? = some (.cells #[.slice A ls.length cap] 22) ∧ LiesI w A ls
  nodes : ∃ N capN, w.heap[b4]? = some (.cells #[.slice N ns.length capN] 23) ∧ LiesN w N ns
  named : ∃ F cf, w.heap[b5]? = some (.cells #[.slice F fr.length cf] 22) ∧ LiesI w F fr
  used : ∃ U cu, w.heap[b9]? = some (.cells #[.slice U (lbL ns fr ls.length).length cu] 22) ∧ LiesI w U (lbL ns fr ls.length)
  cone : ∃ C cc, w.heap[b7]? = some (.cells #[.slice C (coneN ns fr).length cc] 23) ∧ LiesN w C (coneN ns fr)
  places : ∃ D cd, w.heap[b8]? = some (.cells #[.slice D (coneP ns fr).length cd] 22) ∧ LiesI w D (coneP ns fr)
theorem Caught.below {w W : World} {b3 b4 b5 b9 b7 b8 : Nat} {ls : List Int} {ns : List Nd} {fr : List Int} (h : Caught w b3 b4 b5 b9 b7 b8 ls ns fr) (hb : Below w.heap.size w W) : Caught W b3 b4 b5 b9 b7 b8 ls ns fr := by
  obtain ⟨⟨A, c1, h1, l1⟩, ⟨N, c2, h2, l2⟩, ⟨F, c3, h3, l3⟩, ⟨U, c4, h4, l4⟩, ⟨C, c5, h5, l5⟩, ⟨D, c6, h6, l6⟩⟩ := h
  exact ⟨⟨A, c1, (hb.block _ (lt_of_get h1)).trans h1, l1.below hb⟩, ⟨N, c2, (hb.block _ (lt_of_get h2)).trans h2, l2.below hb⟩, ⟨F, c3, (hb.block _ (lt_of_get h3)).trans h3, l3.below hb⟩,
    ⟨U, c4, (hb.block _ (lt_of_get h4)).trans h4, l4.below hb⟩, ⟨C, c5, (hb.block _ (lt_of_get h5)).trans h5, l5.below hb⟩, ⟨D, c6, (hb.block _ (lt_of_get h6)).trans h6, l6.below hb⟩⟩
def TrialsR (w : World) (ls : List Int) (ns : List Nd) (fr : List Int) (e : Ending) (w' : World) : Prop :=
  ∃ b3 b4 b5 b9 b7 b8, e = .returned (.func (.func 100) #[] #[.pointer (some ⟨b3, 0, none⟩), .pointer (some ⟨b4, 0, none⟩), .pointer (some ⟨b5, 0, none⟩), .pointer (some ⟨b9, 0, none⟩), .pointer (some ⟨b7, 0, none⟩), .pointer (some ⟨b8, 0, none⟩)]) ∧ Caught w' b3 b4 b5 b9 b7 b8 ls ns fr ∧ Below w.heap.size w w'

set_option maxRecDepth 100000 in
set_option maxHeartbeats 1600000 in
theorem trials_c (A : Option Addr) (cap : Nat) (ls : List Int) (hls : ls.length ≤ 65536) (N : Option Addr) (capN : Nat) (ns : List Nd) (hns : ns.length ≤ 65536) (hall : ∀ k n, ns[k]? = some n → NodeOK ns ls.length k n) (F : Option Addr) (cf : Nat) (fr : List Int) (hfr : fr.length ≤ 65536) (hf : ∀ x ∈ fr, isIx x ns.length = true) (w : World) (hA : LiesI w A ls) (hN : LiesN w N ns) (hF : LiesI w F fr) :
    Calls Tryz.prog 63 #[.slice A ls.length cap, .slice N ns.length capN, .slice F fr.length cf] w (TrialsR w ls ns fr) := by
  have HA := Lib.hid hA
  have HN := Lib.hid hN
  have HF := Lib.hid hF
  have HCO := Lib.hid (fun (W : World) (hb : Below w.heap.size w W) => coneOf_c N capN ns hns ls.length hall F cf fr hfr hf W (hN.below hb) (hF.below hb))
  have HLB := Lib.hid (fun (W : World) (hb : Below w.heap.size w W) => leavesBelow_c A cap ls.length hls N capN ns hns hall F cf fr hfr hf W (hN.below hb) (hF.below hb))
  clear hA hN hF hall hf
  go_enter Tryz.func63, Tryz.ntmps63
  go_wp2_with fail
  have r3 : (((w.alloc (.cells #[.slice A ls.length cap] 22)).alloc (.cells #[.slice N ns.length capN] 23)).alloc (.cells #[.slice F fr.length cf] 22)).heap[w.heap.size]? = some (.cells #[.slice A ls.length cap] 22) := heap_alloc' (by simp; omega) (heap_alloc' (by simp) (heap_alloc_new _ _))
  have r4 : (((w.alloc (.cells #[.slice A ls.length cap] 22)).alloc (.cells #[.slice N ns.length capN] 23)).alloc (.cells #[.slice F fr.length cf] 22)).heap[w.heap.size + 1]? = some (.cells #[.slice N ns.length capN] 23) := heap_alloc' (by simp) (heap_alloc_at (by simp))
  have r5 : (((w.alloc (.cells #[.slice A ls.length cap] 22)).alloc (.cells #[.slice N ns.length capN] 23)).alloc (.cells #[.slice F fr.length cf] 22)).heap[w.heap.size + 2]? = some (.cells #[.slice F fr.length cf] 22) := heap_alloc_at (by simp)
  have hb0 : Below w.heap.size w (((w.alloc (.cells #[.slice A ls.length cap] 22)).alloc (.cells #[.slice N ns.length capN] 23)).alloc (.cells #[.slice F fr.length cf] 22)) := (((Below.refl _ _).alloc (Nat.le_refl _) _).alloc (by simp) _).alloc (by simp; omega) _
  generalize (((w.alloc (.cells #[.slice A ls.length cap] 22)).alloc (.cells #[.slice N ns.length capN] 23)).alloc (.cells #[.slice F fr.length cf] 22)) = W0 at *
  refine (HCO.out _ hb0).mono ?_
  rintro e W1 ⟨C, cc, D, cd, rfl, _, hC, hD, hb1⟩
  have s3 := (hb1.block _ (lt_of_get r3)).trans r3
  have s4 := (hb1.block _ (lt_of_get r4)).trans r4
  have s5 := (hb1.block _ (lt_of_get r5)).trans r5
  have hb01 := hb0.trans (hb1.mono hb0.size)
  have HC := Lib.hid hC
  have HD := Lib.hid hD
  clear r3 r4 r5 hb0 hb1 hC hD
  have t3 := cell_block (i := 0) s3
  have t4 := cell_block (i := 0) s4
  have t5 := cell_block (i := 0) s5
  simp at t3 t4 t5
  have k3 := lt_of_get s3
  have k4 := lt_of_get s4
  have k5 := lt_of_get s5
  go_wp2_with fail
  have u3 := heap_alloc' (o := .cells #[.slice D (coneP ns fr).length cd] 22) (by simp; omega) (heap_alloc' (o := .cells #[.slice C (coneN ns fr).length cc] 23) k3 s3)
  have u4 := heap_alloc' (o := .cells #[.slice D (coneP ns fr).length cd] 22) (by simp; omega) (heap_alloc' (o := .cells #[.slice C (coneN ns fr).length cc] 23) k4 s4)
  have u5 := heap_alloc' (o := .cells #[.slice D (coneP ns fr).length cd] 22) (by simp; omega) (heap_alloc' (o := .cells #[.slice C (coneN ns fr).length cc] 23) k5 s5)
  have u7 : ((W1.alloc (.cells #[.slice C (coneN ns fr).length cc] 23)).alloc (.cells #[.slice D (coneP ns fr).length cd] 22)).heap[W1.heap.size]? = some (.cells #[.slice C (coneN ns fr).length cc] 23) := heap_alloc' (by simp) (heap_alloc_new _ _)
  have u8 : ((W1.alloc (.cells #[.slice C (coneN ns fr).length cc] 23)).alloc (.cells #[.slice D (coneP ns fr).length cd] 22)).heap[W1.heap.size + 1]? = some (.cells #[.slice D (coneP ns fr).length cd] 22) := heap_alloc_at (by simp)
  have hb2 : Below W1.heap.size W1 ((W1.alloc (.cells #[.slice C (coneN ns fr).length cc] 23)).alloc (.cells #[.slice D (coneP ns fr).length cd] 22)) := ((Below.refl _ _).alloc (Nat.le_refl _) _).alloc (by simp) _
  generalize ((W1.alloc (.cells #[.slice C (coneN ns fr).length cc] 23)).alloc (.cells #[.slice D (coneP ns fr).length cd] 22)) = W2 at *
  have HB2 := Lib.hid (hb01.trans (hb2.mono hb01.size))
  have HC2 := Lib.hid (HC.out.below hb2)
  have HD2 := Lib.hid (HD.out.below hb2)
  clear s3 s4 s5 t3 t4 t5 k3 k4 k5 hb01 hb2 HC HD
  generalize W1.heap.size = q at *
  refine (HLB.out _ HB2.out).mono ?_
  rintro e W3 ⟨U, cu, rfl, hU, hb3⟩
  have HFIN := Lib.hid (show Caught (W3.alloc (.cells #[.slice U (lbL ns fr ls.length).length cu] 22)) w.heap.size (w.heap.size + 1) (w.heap.size + 2) W3.heap.size q (q + 1) ls ns fr ∧ Below w.heap.size w (W3.alloc (.cells #[.slice U (lbL ns fr ls.length).length cu] 22)) from by
    have hb4 : Below W3.heap.size W3 (W3.alloc (.cells #[.slice U (lbL ns fr ls.length).length cu] 22)) := (Below.refl _ _).alloc (Nat.le_refl _) _
    have hb5 := HB2.out.trans (hb3.mono HB2.out.size)
    have hb6 := hb5.trans (hb4.mono hb5.size)
    have hbq := hb3.trans (hb4.mono hb3.size)
    exact ⟨⟨⟨A, cap, (hbq.block _ (lt_of_get u3)).trans u3, HA.out.below hb6⟩, ⟨N, capN, (hbq.block _ (lt_of_get u4)).trans u4, HN.out.below hb6⟩, ⟨F, cf, (hbq.block _ (lt_of_get u5)).trans u5, HF.out.below hb6⟩,
      ⟨U, cu, heap_alloc_new _ _, hU.below hb4⟩, ⟨C, cc, (hbq.block _ (lt_of_get u7)).trans u7, HC2.out.below hbq⟩, ⟨D, cd, (hbq.block _ (lt_of_get u8)).trans u8, HD2.out.below hbq⟩⟩, hb6⟩)
  clear u3 u4 u5 u7 u8 hU hb3
  go_wp2
  go_ret
  exact ⟨_, _, _, _, _, _, rfl, HFIN.out.1, HFIN.out.2⟩

end Go.Proofs.YtkdonapgonegkaaGreatDoor

set_option linter.unusedSimpArgs false
set_option linter.unusedVariables false
namespace Go.Proofs.YtkdonapgonegkaaGreatDoor
open Go.RowKit Go.BigFrame
attribute [local go_sem] Oper.semAt_some

/-- The values of all leaves, and of the named nodes, in one trial. -/
def triV (ls : List Int) (ns : List Nd) (fr : List Int) (k : Nat) : List Int := triL ls (lbL ns fr ls.length) k
def triN (ls : List Int) (ns : List Nd) (fr : List Int) (k : Nat) : List Int := pickL (valsL (coneN ns fr) (triV ls ns fr k)) (coneP ns fr)
/-- What is asked of leaves, nodes and named nodes. -/
structure TriOK (ls : List Int) (ns : List Nd) (fr : List Int) : Prop where
  l1 : ls.length ≤ 65536
  lw : ∀ x ∈ ls, isW x = true
  n1 : ns.length ≤ 65536
  all : ∀ k n, ns[k]? = some n → NodeOK ns ls.length k n
  f1 : fr.length ≤ 65536
  fx : ∀ x ∈ fr, isIx x ns.length = true
  bit : bitsL ls ns fr ≤ 16
  call : ∀ k n, (coneN ns fr)[k]? = some n → NodeOK (coneN ns fr) ls.length k n
  c1 : (coneN ns fr).length ≤ 65536
  px : ∀ x ∈ coneP ns fr, isIx x (coneN ns fr).length = true
theorem coneP_len (ns : List Nd) (fr : List Int) : (coneP ns fr).length = fr.length := pickL_len _ _
theorem triV_len (ls : List Int) (ns : List Nd) (fr : List Int) (k : Nat) : (triV ls ns fr k).length = ls.length := triL_len _ _ _
theorem triN_len (ls : List Int) (ns : List Nd) (fr : List Int) (k : Nat) : (triN ls ns fr k).length = fr.length := (pickL_len _ _).trans (coneP_len ns fr)

set_option maxRecDepth 100000 in
set_option maxHeartbeats 1600000 in
theorem trials1_in (n b3 b4 b5 b9 b7 b8 : Nat) (ls : List Int) (ns : List Nd) (fr : List Int) (ok : TriOK ls ns fr) (w0 : World) (hc : Caught w0 b3 b4 b5 b9 b7 b8 ls ns fr) (l : Nat) (J Jx : Nat → World → Prop)
    (hJb : ∀ k W W', J k W → Below W.heap.size W W' → J k W') (hJ0 : ∀ k W, J k W → Below w0.heap.size w0 W)
    (hY : ∀ (k : Nat) W A1 c1 A2 c2, J k W → (k : Int) < pw (bitsL ls ns fr) → LiesI W A1 (triV ls ns fr k) → (∀ ad, A1 = some ad → w0.heap.size ≤ ad.block) → LiesI W A2 (triN ls ns fr k) → YieldAt Fence.wide (n - 1) Tryz.prog l #[.slice A1 ls.length c1, .slice A2 fr.length c2] W fun e W' => ∃ b : Bool, e = .returned (.bool b) ∧ (b = true → J (k + 1) W') ∧ (b = false → Jx k W'))
    (W : World) (h0 : J 0 W) :
    CallsIn Fence.wide n Tryz.prog 100 #[.func (.yield l) #[] #[], .pointer (some ⟨b3, 0, none⟩), .pointer (some ⟨b4, 0, none⟩), .pointer (some ⟨b5, 0, none⟩), .pointer (some ⟨b9, 0, none⟩), .pointer (some ⟨b7, 0, none⟩), .pointer (some ⟨b8, 0, none⟩)] W fun e W' => (∃ v, e = .returned v) ∧ ((∃ k : Nat, (k : Int) = pw (bitsL ls ns fr) ∧ J k W') ∨ ∃ k : Nat, (k : Int) < pw (bitsL ls ns fr) ∧ Jx k W') := by
  have HOK := Lib.hid ok
  have HCT := Lib.hid (fun k W (h : J k W) => hc.below (hJ0 k W h))
  have HJ0 := Lib.hid hJ0
  have hbd := sumK_bd (xs := lbL ns fr ls.length) ok.lw (lbL ns fr ls.length).length
  have hb0 : 0 ≤ bitsL ls ns fr := hbd.1
  have hb1 : bitsL ls ns fr ≤ 16 := ok.bit
  have hpb := pw_bd hb0 hb1
  clear hbd ok
  obtain ⟨⟨A, ca, r3, l3⟩, ⟨N, cn, r4, l4⟩, ⟨F, cf, r5, l5⟩, _, _, _⟩ := HCT.out 0 W h0
  have q3 := cell_block (i := 0) r3
  have q4 := cell_block (i := 0) r4
  have q5 := cell_block (i := 0) r5
  simp at q3 q4 q5
  have HBI := Lib.hid (bitsBelow_c A ca ls HOK.out.l1 HOK.out.lw N cn ns HOK.out.n1 HOK.out.all F cf fr HOK.out.f1 HOK.out.fx W l3 l4 l5)
  have HJ1 := Lib.hid (fun W' (hb : Below W.heap.size W W') => hJb 0 W W' h0 hb)
  clear r3 r4 r5 l3 l4 l5
  refine callsIn_of_wp Tryz.func100 rfl trivial ?_
  simp only [Tryz.ntmps100, List.size_toArray, List.length_cons, List.length_nil, Nat.reduceAdd, Nat.reduceSub, Array.replicate_succ, Array.replicate_zero, List.push_toArray, List.append_toArray, List.nil_append, List.cons_append]
  gi_wp2_with (refine ⟨trivial, (fun h => (by cases h)), ?_⟩; gi_at_call 62; refine (callsIn_wide.2 HBI.out).mono ?_; rintro e w' ⟨rfl, x, rfl⟩)
  have hT : wrap64 (2 ^ (bitsL ls ns fr).toNat) = pw (bitsL ls ns fr) := IntWalk.wrap64_in _ (by show -9223372036854775808 ≤ pw (bitsL ls ns fr) ∧ pw (bitsL ls ns fr) ≤ 9223372036854775807; omega)
  rw [hT]
  have HJS := Lib.hid (HJ1.out _ x.pf)
  clear q3 q4 q5 hT HJ1 HBI
  obtain ⟨T, hT⟩ := Int.eq_ofNat_of_zero_le (show 0 ≤ pw (bitsL ls ns fr) by omega)
  rw [hT] at hpb hY ⊢
  have HTT := Lib.hid hT
  have hT1 : T ≤ 65536 := by omega
  have HY := Lib.hid hY
  have HJB := Lib.hid hJb
  clear hY hJb hpb hb0 hb1 hT hJ0 h0
  generalize x.val = W0 at *
  gi_loopw [15] (fun v15 wr => ∃ k : Nat, k ≤ T ∧ v15 = .int .i64 k ∧ J k wr) (fun v15 _ => T - (intOf v15).toNat)
  case atStart => exact ⟨0, by omega, rfl, HJS.out⟩
  case round =>
    clear HJS
    obtain ⟨k, hk, rfl, hj⟩ := hrel
    by_cases hlt : k < T
    · have hkk : (k : Int) < T := by omega
      obtain ⟨⟨A, ca, r3, l3⟩, _, _, ⟨U, cu, r9, l9⟩, ⟨C, cc, r7, l7⟩, ⟨D, cd, r8, l8⟩⟩ := HCT.out k wr hj
      have HJ := Lib.hid hj
      have HTR := Lib.hid (trialOf_c A ca ls HOK.out.l1 HOK.out.lw U cu (lbL ns fr ls.length) (Nat.le_trans lbL_len HOK.out.l1) (fun x hx => isIx_iff.2 (lbL_mem hx)) k (by omega) (by omega) wr l3 l9)
      have HTR : Hid (Calls Tryz.prog 101 #[.slice A ls.length ca, .slice U (lbL ns fr ls.length).length cu, .int .i64 k] wr (CopiedF wr (triV ls ns fr k))) := HTR
      have q3 := cell_block (i := 0) r3
      have q9 := cell_block (i := 0) r9
      simp at q3 q9
      clear hj r3 l3 r9 l9
      gi_wp2_with (refine ⟨trivial, (fun h => (by cases h)), ?_⟩; gi_at_call 101; refine (callsIn_wide.2 HTR.out).mono ?_; rintro e W1 ⟨A1, c1, rfl, hl1, hf1, hb1⟩; rw [triV_len])
      have s7 := (hb1.block _ (lt_of_get r7)).trans r7
      have s8 := (hb1.block _ (lt_of_get r8)).trans r8
      have q7 := cell_block (i := 0) s7
      have q8 := cell_block (i := 0) s8
      simp at q7 q8
      rw [coneP_len] at q8
      have HJ1 := Lib.hid (HJB.out k wr W1 HJ.out hb1)
      have HFF := Lib.hid (fun ad h => Nat.le_trans (HJ0.out k wr HJ.out).size (hf1 ad h))
      clear hf1
      have HL1 := Lib.hid hl1
      have HVO : Hid (Calls Tryz.prog 56 #[.slice C (coneN ns fr).length cc, .slice A1 ls.length c1] W1.drew (CopiedI W1.drew (valsL (coneN ns fr) (triV ls ns fr k)))) := Lib.hid (by
        have hbd : Below W1.heap.size W1 W1.drew := (Below.refl _ _).drew
        have h := valuesOf_c C cc (coneN ns fr) HOK.out.c1 A1 c1 (triV ls ns fr k) (by rw [triV_len]; exact HOK.out.l1) (triL_bd HOK.out.lw) (by rw [triV_len]; exact HOK.out.call) W1.drew ((l7.below hb1).below hbd) (hl1.below hbd)
        rw [triV_len] at h; exact h)
      have HPI : Hid (∀ (W2 : World) V cv, Below W1.heap.size W1 W2 → LiesI W2 V (valsL (coneN ns fr) (triV ls ns fr k)) → Calls Tryz.prog 75 #[.slice V (coneN ns fr).length cv, .slice D fr.length cd] W2 fun e w' => ∃ A' cap', e = .returned (.slice A' fr.length cap') ∧ LiesI w' A' (triN ls ns fr k) ∧ Below W2.heap.size W2 w') := Lib.hid (fun W2 V cv hb hV => by
        have h := picked_c V cv (valsL (coneN ns fr) (triV ls ns fr k)) (by rw [valsL_len]; exact HOK.out.c1) D cd (coneP ns fr) (by rw [coneP_len]; exact HOK.out.f1) (by rw [valsL_len]; exact HOK.out.px) W2 hV ((l8.below hb1).below hb)
        rw [valsL_len, coneP_len] at h
        exact h.mono fun e w' ⟨A', cap', h1, h2, _, h4⟩ => ⟨A', cap', h1, h2, h4⟩)
      have hs8 : b8 < W1.heap.size := lt_of_get s8
      clear r7 l7 r8 l8 hl1 hb1 s7 s8 q3 q9
      have hmx : Tryz.prog.follows .mixedOrders = true := by kernel_rfl
      gi_region_with_o (first
        | (refine ⟨trivial, (fun h => (by cases h)), ?_⟩; gi_at_call 56; refine (callsIn_wide.2 HVO.out).mono ?_; rintro e W2 ⟨V, cv, rfl, hlV, hbV⟩; rw [valsL_len]; have hb2 : Below W1.heap.size W1 W2 := ((Below.refl W1.heap.size W1).drew).trans hbV; have q8' := (hb2.cell (p := ⟨b8, 0, none⟩) hs8).trans q8; clear q8)
        | (refine ⟨trivial, (fun h => (by cases h)), ?_⟩; gi_at_call 75; refine (callsIn_wide.2 (HPI.out _ _ _ hb2 hlV)).mono ?_; rintro e W3 ⟨A2, c2, rfl, hl2, hb3⟩; have hb23 := hb2.trans (hb3.mono hb2.size); obtain ⟨fn, tm, asn, bo, hy, hR⟩ := HY.out k W3 A1 c1 A2 c2 (HJB.out k W1 W3 HJ1.out hb23) hkk (HL1.out.below hb23) HFF.out hl2)
        | (refine ⟨(fun h => (by cases h)), ?_⟩; refine hR.mono ?_; rintro e W4 ⟨b, rfl, hbt, hbf⟩))
      all_goals
        have HT := Lib.hid hbt
        have HF := Lib.hid hbf
        clear hbt hbf hb23 hb2 hb3 hlV hl2 q7 q8' hy hR hbV
        cases b
        · gi_wp2
          refine bodyPost_ret (results_none rfl _ _ _) rfl ?_
          exact ⟨⟨_, rfl⟩, .inr ⟨k, by rw [HTT.out]; exact hkk, HF.out (by simp)⟩⟩
        · gi_wp2
          go_roundw
          case rel => exact ⟨k + 1, by omega, by go_num, HT.out (by simp)⟩
          case measure => simp [intOf]; omega
    · obtain rfl : k = T := by omega
      gi_wp2
      go_end0
      exact ⟨⟨_, rfl⟩, .inl ⟨k, HTT.out.symm, hj⟩⟩

end Go.Proofs.YtkdonapgonegkaaGreatDoor

set_option linter.unusedSimpArgs false
set_option linter.unusedVariables false
namespace Go.Proofs.YtkdonapgonegkaaGreatDoor
open Go.RowKit Go.BigFrame
attribute [local go_sem] Oper.semAt_some

def fromE (ls : List Int) (ns : List Nd) (fr : List Int) : Int := thenE (chk ls ns).2 (argsE fr ns.length 6)
theorem fromE_first (ls : List Int) (ns : List Nd) (fr : List Int) : firstE [(chk ls ns).2, argsE fr ns.length 6] = fromE ls ns fr := by
  rw [firstE_cons, firstE_one]; rfl
theorem fromE_ok {ls : List Int} {ns : List Nd} {fr : List Int} (h : fromE ls ns fr = 0) : (chk ls ns).2 = 0 ∧ ∀ x ∈ fr, isIx x ns.length = true := by
  unfold fromE thenE at h
  by_cases h0 : (chk ls ns).2 = 0
  · rw [if_pos h0] at h
    refine ⟨h0, fun x hx => ?_⟩
    unfold argsE at h
    by_cases ha : (fr.all fun i => isIx i ns.length) = true
    · exact List.all_eq_true.1 ha x hx
    · rw [if_neg ha] at h; exact absurd h (by decide)
  · rw [if_neg h0] at h; exact absurd h h0

set_option maxRecDepth 100000 in
set_option maxHeartbeats 1600000 in
theorem errorOfFrom_c (A : Option Addr) (cap : Nat) (ls : List Int) (hls : ls.length ≤ 65536) (N : Option Addr) (capN : Nat) (ns : List Nd) (hns : ns.length ≤ 65536) (hcap : ns.length ≤ capN) (hla : ∀ n ∈ ns, n.args.length ≤ 65536) (F : Option Addr) (cf : Nat) (fr : List Int) (hfr : fr.length ≤ 65536) (w : World) (hA : LiesI w A ls) (hN : LiesN w N ns) (hF : LiesI w F fr) (ht : TabOps w) :
    Calls Tryz.prog 38 #[.slice A ls.length cap, .slice N ns.length capN, .slice F fr.length cf] w fun e w' => e = .returned (.int .i64 (fromE ls ns fr)) ∧ ∃ x : Aft w, w' = x.val := by
  have HC := Lib.hid (errorOfGraph_c A cap ls hls N capN ns hns hcap hla w hA hN ht)
  have HE := Lib.hid (fun (x : Aft w) => errorOfIndexes_c ns.length 6 (by decide) F cf fr hfr x.val (hF.aft x))
  have HR := Lib.hid (fromE_first ls ns fr)
  clear hA hN hF ht hla hcap
  generalize (chk ls ns).2 = e1 at *
  generalize argsE fr ns.length 6 = e2 at *
  go_enter Tryz.func38, Tryz.ntmps38
  go_wp2_with fail
  refine HC.out.mono ?_
  rintro e w' ⟨rfl, y, rfl⟩
  go_wp2_with fail
  refine (HE.out y).mono ?_
  rintro e w' ⟨rfl, z, rfl⟩
  go_wp2_with fail
  refine (firstError2 z.val.heap.size e1 e2 26 (0, 0) _ (heap_alloc_new _ _)).mono ?_
  rintro e w' ⟨rfl, rfl⟩
  rw [HR.out]
  have hb := z.below y.pf y.pf.size
  go_wp2
  go_ret
  exact ⟨rfl, Below.aft (hb.alloc hb.size _)⟩

section
variable {P : Program}
/-- A range over a function, in no fence: what its one call owes. -/
theorem range_wide {n : Nat} {g : Operand} {ps : Array Tmp} {assign body : Code} {Q : Exit → Act → World → Prop} {a : Act} {w : World} {gf : Nat} {lb : Array Value}
    (hg : a.eval g = .func (.func gf) #[] lb) (eg : ∀ args w, (callFunc gf args).run P w = .ok (.enter gf args) w)
    (h : ∀ (fn : FuncId) (r : Loop) (W : World), r = { state := .ready, pending := none, fn, tmps := a.tmps, params := ps, assign, body, defers := w.heap.size } → W.heap[w.heap.size + 1]? = some (.loop r) → W.heap[w.heap.size]? = some (.deferred (some [])) → Below w.heap.size w W →
      CallsIn Fence.wide (n - 1) P gf (#[.func (.yield (w.heap.size + 1)) #[] #[]] ++ lb) W (rangePost Fence.wide n P (w.heap.size + 1) Q { a with defers := { target := .collected w.heap.size, args := #[] } :: a.defers })) :
    (Code.rangeFunc g ps assign body).wpIn Fence.wide n P Q a w := by
  refine wpIn_rangeFunc fun fn _ => ?_
  obtain ⟨r, hr⟩ : ∃ r : Loop, r = { state := .ready, pending := none, fn, tmps := a.tmps, params := ps, assign, body, defers := w.heap.size } := ⟨_, rfl⟩
  obtain ⟨W1, hW1⟩ : ∃ W1, (w.alloc (.deferred (some []))).alloc (.loop r) = W1 := ⟨_, rfl⟩
  have he := run_enterLoop_outer (P := P) (w := w) fn a.tmps ps assign body
  rw [← hr, hW1] at he
  have hc := h fn r W1 hr (by rw [← hW1]; exact heap_alloc_at (by simp)) (by rw [← hW1]; exact heap_alloc' (by simp) (heap_alloc_new _ _)) (by rw [← hW1]; exact ((Below.refl _ _).alloc (Nat.le_refl _) _).alloc (by simp) _)
  refine ⟨w.heap.size + 1, [{ target := .collected w.heap.size, args := #[] }], W1, { target := .fn (.func gf) lb, args := #[.func (.yield (w.heap.size + 1)) #[] #[]] }, W1, gf, #[.func (.yield (w.heap.size + 1)) #[] #[]] ++ lb, W1, ?_, ?_, ?_, ?_, ?_, ?_⟩
  · exact he
  · simp only [resolve, hg]
    simp [go_sem]
  · intro f' _; trivial
  · simp [invoke, go_sem, eg]
  · intro hd; cases hd
  · exact hc
/-- The loop's record in a round. -/
def busyL (r : Loop) : Loop := { r with state := .busy }
/-- One round of such a loop, out of its body's walk. -/
theorem yield_wide {m l : Nat} {r : Loop} {args : Array Value} {W : World} {R : Ending → World → Prop} (hl : W.heap[l]? = some (.loop r)) (hs : args.size = r.params.size) (hr : r.state = .ready)
    (h : r.assign.wpIn (Fence.wide.inRound l) m P (Exit.then (fun a₁ w₁ => W = w₁ ∧ ∀ (rb : Loop) (Wb : World), Hid (rb = busyL r) → Hid (Wb = W.putObj l (.loop rb)) → r.body.wpIn (Fence.wide.inRound l) m P (roundPost P l R) a₁ Wb) (fun _ _ _ => False))
      { tmps := (r.params.zip args).foldl (fun tmps (t, a) => tmps.setIfInBounds t a) r.tmps, defers := [] } W) : YieldAt Fence.wide m P l args W R := by
  refine ⟨r.fn, _, r.assign, r.body, run_yield hl hs, roundIn_of_wpIn trivial (wpIn_mono h ?_)⟩
  intro e a w' hq
  cases e with
  | normal =>
    obtain ⟨rfl, hb⟩ := hq
    exact ⟨_, run_beginRound hl hr, hb _ _ (Lib.hid rfl) (Lib.hid rfl)⟩
  | _ => exact hq
end
theorem heap_put_ne {W : World} {l m : Nat} {o ob : Obj} (h : W.heap[m]? = some ob) (hne : ¬ m = l) : (W.putObj l o).heap[m]? = some ob := (World.putObj_heap_other (by omega)).trans h
theorem cell_put_ne {W : World} {l : Nat} {o : Obj} {p : Addr} {v : Value} (h : W.cell? p = some v) (hl : ¬ p.block = l) : (W.putObj l o).cell? p = some v := by
  unfold World.cell? at h ⊢
  rw [World.putObj_heap_other (by omega)]; exact h
theorem LiesI.put {W : World} {l : Nat} {o : Obj} {r : Loop} {A : Option Addr} {xs : List Int} (h : LiesI W A xs) (hl : W.heap[l]? = some (.loop r)) : LiesI (W.putObj l o) A xs := fun hp => by
  obtain ⟨ad, rfl, hb, hc⟩ := h hp
  refine ⟨ad, rfl, by simpa [World.putObj] using hb, fun i x hi => cell_put_ne (hc i x hi) ?_⟩
  intro e
  have h0 := hc i x hi
  unfold World.cell? at h0
  rw [e, hl] at h0
  cases h0

end Go.Proofs.YtkdonapgonegkaaGreatDoor

set_option linter.unusedSimpArgs false
set_option linter.unusedVariables false
namespace Go.Proofs.YtkdonapgonegkaaGreatDoor
open Go.RowKit Go.BigFrame

set_option maxRecDepth 100000 in
set_option maxHeartbeats 1600000 in
theorem IsNode_c (N : Option Addr) (capN n : Nat) (i : Int) (hn : n ≤ 65536) (w : World) :
    Calls Tryz.prog 43 #[.slice N n capN, .int .i64 i] w fun e w' => e = .returned (.bool (isIx i n)) ∧ w = w' := by
  rw [isIx_win]
  go_enter Tryz.func43, Tryz.ntmps43
  go_wp2_with (go_at_call 27; refine (Within_c _ _ _ _).mono ?_; rintro e w' ⟨rfl, rfl⟩)
  go_ret
  exact ⟨rfl, rfl⟩

theorem argsE_bad {xs : List Int} {n er : Int} {k : Nat} {x : Int} (h : xs[k]? = some x) (hx : isIx x n = false) : argsE xs n er = er := by
  unfold argsE
  rw [if_neg]
  intro ha
  have := List.all_eq_true.1 ha x (List.mem_of_getElem? h)
  rw [hx] at this; cases this
theorem argsE_good {xs : List Int} {n er : Int} (h : ∀ x ∈ xs, isIx x n = true) : argsE xs n er = 0 := by
  unfold argsE; exact if_pos (List.all_eq_true.2 h)

set_option maxRecDepth 100000 in
set_option maxHeartbeats 1600000 in
theorem refFromErr_c (N : Option Addr) (capN n : Nat) (hn : n ≤ 65536) (F : Option Addr) (cf : Nat) (fr : List Int) (hfr : fr.length ≤ 65536) (w : World) (hF : LiesI w F fr) :
    Calls Tryz.prog 18 #[.slice N n capN, .slice F fr.length cf] w fun e w' => e = .returned (.int .i64 (argsE fr n 6)) ∧ w = w' := by
  have HF := Lib.hid hF
  clear hF
  go_enter Tryz.func18, Tryz.ntmps18
  go_wp2
  go_loop [5] (fun v5 => ∃ k : Nat, k ≤ fr.length ∧ v5 = .int .i64 k ∧ ∀ x ∈ fr.take k, isIx x n = true) (fun v5 => fr.length - (intOf v5).toNat)
  case atStart => exact ⟨0, by omega, rfl, by simp⟩
  case round =>
    obtain ⟨k, hk, rfl, hall⟩ := hrel
    have HAL := Lib.hid hall
    clear hall
    by_cases hlt : k < fr.length
    · have hkk : (k : Int) < fr.length := by omega
      have HX := Lib.hid (List.getElem?_eq_getElem hlt)
      have HT := Lib.hid (List.take_succ_eq_append_getElem hlt)
      generalize fr[k] = x at *
      obtain ⟨ad, rfl, hbl, c0⟩ := HF.out.cell HX.out
      have HN := Lib.hid (fun (W : World) => IsNode_c N capN n x hn W)
      cases hx : isIx x n with
      | false =>
        rw [hx] at HN
        have HR := Lib.hid (argsE_bad (er := 6) HX.out hx)
        go_wp2_with (go_at_call 43; refine (HN.out _).mono ?_; rintro e w' ⟨rfl, rfl⟩)
        go_ret
        exact ⟨retI HR.out.symm, rfl⟩
      | true =>
        rw [hx] at HN
        have HAL2 := Lib.hid (show ∀ y ∈ fr.take (k + 1), isIx y n = true by
          rw [HT.out]
          intro y hy
          rcases List.mem_append.1 hy with hy | hy
          · exact HAL.out y hy
          · rw [List.mem_singleton.1 hy]; exact hx)
        clear hx
        go_wp2_with (go_at_call 43; refine (HN.out _).mono ?_; rintro e w' ⟨rfl, rfl⟩)
        go_round
        case rel => exact ⟨k + 1, by omega, by go_num, HAL2.out⟩
        case measure => simp [intOf]; omega
    · obtain rfl : k = fr.length := by omega
      have HR := Lib.hid (show argsE fr n 6 = 0 from argsE_good (by have := HAL.out; rwa [List.take_length] at this))
      go_wp2
      go_ret
      exact ⟨retI HR.out.symm, rfl⟩

theorem markL_keep {k : Nat} : ∀ (is : List Int) (bs : List Bool), bs[k]? = some true → (markL bs is)[k]? = some true := by
  intro is
  induction is with
  | nil => intro bs h; exact h
  | cons i is ih =>
    intro bs h
    show (markL (bs.set i.toNat true) is)[k]? = some true
    refine ih _ ?_
    rw [List.getElem?_set]
    split
    · rename_i e
      subst e
      have := (List.getElem?_eq_some_iff.1 h).1
      simp [this]
    · exact h

set_option maxRecDepth 100000 in
set_option maxHeartbeats 1600000 in
theorem baseBelow_c (N : Option Addr) (capN : Nat) (ns : List Nd) (hns : ns.length ≤ 65536) (L : Nat) (hall : ∀ k n, ns[k]? = some n → NodeOK ns L k n) (F : Option Addr) (cf : Nat) (fr : List Int) (hfr : fr.length ≤ 65536) (hf : ∀ x ∈ fr, isIx x ns.length = true) (w : World) (hN : LiesN w N ns) (hF : LiesI w F fr) :
    Calls Tryz.prog 44 #[.slice N ns.length capN, .slice F fr.length cf] w (CopiedB w (belL ns fr)) := by
  obtain ⟨i0, hi, hz0, hz1, hz2⟩ := info_parts bool_info
  have HNN := Lib.hid hN
  have HFF := Lib.hid hF
  have HALL := Lib.hid hall
  have HFX := Lib.hid hf
  clear hN hF hall hf
  go_enter Tryz.func44, Tryz.ntmps44
  go_wp2_with (refine wpList_make_full _ rfl _ _ 78 rfl w.heap.size 4 i0 _ 1 Tryz.underlying78 hi hz0 hz1 .i64 .i64 _ _ ns.length rfl rfl rfl rfl (by rw [hz2]; omega) (by unfold maxLen; omega) (Nat.le_refl _) ?_; intro W1 hown hgr; have hb2 := (Below.refl w.heap.size w).grown hgr (Nat.le_refl _) (fun q hq => by cases hq); have rg : W1.heap[w.heap.size]? = some (.cells (rowB (List.replicate ns.length false)) 4) := (by have := row_block hown rfl; rwa [rowB_made] at this); clear hown hgr)
  have lg := lt_of_get rg
  have lw : w.heap.size ≤ w.heap.size := Nat.le_refl _
  generalize hg : w.heap.size = g at *
  have hb0 : Below w.heap.size w W1 := by rw [hg]; exact hb2
  clear hb2
  go_loopw [6] (fun v6 wr => ∃ j : Nat, j ≤ fr.length ∧ v6 = .int .i64 j ∧ wr.heap[g]? = some (.cells (rowB (markL (List.replicate ns.length false) (fr.take j))) 4) ∧ Below w.heap.size w wr) (fun v6 _ => fr.length - (intOf v6).toNat)
  case atStart => exact ⟨0, by omega, rfl, rg, hb0⟩
  case round =>
    clear rg hb0 lg
    obtain ⟨j, hj, rfl, rg, hb⟩ := hrel
    by_cases hlt : j < fr.length
    · have hjj : (j : Int) < fr.length := by omega
      have HX := Lib.hid (List.getElem?_eq_getElem hlt)
      have HIX := Lib.hid (HFX.out _ (List.getElem_mem hlt))
      generalize fr[j] = a at *
      obtain ⟨g0, g1⟩ := isIx_iff.1 HIX.out
      obtain ⟨p, rfl⟩ := Int.eq_ofNat_of_zero_le g0
      obtain ⟨ba, rfl, hbal, ca⟩ := HFF.out.cell HX.out
      have ca1 := (hb.cell (p := ba.add j) (by rw [addB]; exact hbal)).trans ca
      have HS := Lib.hid (markL_step (bs := List.replicate ns.length false) HX.out)
      have hpl : p < (markL (List.replicate ns.length false) (fr.take j)).length := by rw [markL_len, List.length_replicate]; omega
      obtain ⟨u, hu⟩ : ∃ u, (markL (List.replicate ns.length false) (fr.take j))[p]? = some u := ⟨_, List.getElem?_eq_getElem hpl⟩
      have qp := (cell_block (i := p) rg).trans (rowB_in hu)
      have fp := free_block (i := p) rg
      have HFIN := Lib.hid (show (wr.setCell ⟨g, p, none⟩ (.bool true)).heap[g]? = some (.cells (rowB (markL (List.replicate ns.length false) (fr.take (j + 1)))) 4) ∧ Below w.heap.size w (wr.setCell ⟨g, p, none⟩ (.bool true)) from
        ⟨by rw [heap_set rg, rowB_set, HS.out]; rfl, hb.setCell (p := ⟨g, p, none⟩) (Nat.le_of_eq hg) _⟩)
      clear ca rg hb hpl hu
      go_wp2
      go_roundw
      case rel => exact ⟨j + 1, by omega, by go_num, HFIN.out.1, HFIN.out.2⟩
      case measure => simp [intOf]; omega
    · obtain rfl : j = fr.length := by omega
      rw [List.take_length] at rg
      have HML := Lib.hid (show (markL (List.replicate ns.length false) fr).length = ns.length by rw [markL_len, List.length_replicate])
      have HBE : Hid (belL ns fr = belD ns ns.length (markL (List.replicate ns.length false) fr)) := Lib.hid rfl
      generalize markL (List.replicate ns.length false) fr = bs0 at *
      go_wp2_with fail
      have hb0 := hb
      clear hb
      go_loopw [7] (fun v7 wr => ∃ (m : Nat) (bs : List Bool) (t : Int), m ≤ ns.length ∧ t + 1 = (m : Int) ∧ v7 = .int .i64 t ∧ bs.length = ns.length ∧ belL ns fr = belD ns m bs ∧ wr.heap[g]? = some (.cells (rowB bs) 4) ∧ Below w.heap.size w wr) (fun v7 _ => (intOf v7 + 1).toNat)
      case atStart => exact ⟨ns.length, bs0, _, Nat.le_refl _, by omega, rfl, HML.out, HBE.out, rg, hb0⟩
      case round =>
        clear rg hb0
        obtain ⟨m, bs, t, hm, ht, rfl, hbl, hbd, rg, hb⟩ := hrel
        have HBD := Lib.hid hbd
        have HBN := Lib.hid hbl
        clear hbd hbl
        match m, hm, ht, HBD with
        | 0, _, ht, HBD =>
          obtain rfl : t = -1 := by omega
          have HF := Lib.hid (show CopiedB w (belL ns fr) (.returned (.slice (some ⟨g, 0, none⟩) ns.length ns.length)) wr from ⟨_, ns.length, by rw [belL_len], by rw [HBD.out]; exact LiesB.block rg, fun ad h => (by injection h with h; subst h; exact Nat.le_of_eq hg), hb⟩)
          go_wp2
          go_ret
          exact HF.out
        | k + 1, hm, ht, HBD =>
          obtain rfl : t = (k : Int) := by omega
          have hk : k < ns.length := hm
          have hkk : (k : Int) < ns.length := by omega
          obtain ⟨u, hu⟩ : ∃ u, bs[k]? = some u := ⟨_, List.getElem?_eq_getElem (by rw [HBN.out]; exact hk)⟩
          have qk := (cell_block (i := k) rg).trans (rowB_in hu)
          have lg := lt_of_get rg
          cases u with
          | false =>
            have HFIN := Lib.hid (HBD.out.trans (belD_no hu))
            clear hu
            have HRG := Lib.hid rg
            have HBW := Lib.hid hb
            go_wp2_with fail
            go_loopw [8] (fun v8 w4 => v8 = .int .i64 0 ∧ w4.heap[g]? = some (.cells (rowB bs) 4) ∧ w4.cell? ⟨g, k, none⟩ = some (.bool false) ∧ Below w.heap.size w w4) (fun _ _ => 0)
            case atStart => exact ⟨rfl, HRG.out, qk, HBW.out⟩
            case round =>
              clear qk rg hb
              obtain ⟨rfl, rg, qk, hb⟩ := hrel
              go_wp2
              go_roundw
              case rel => exact ⟨k, bs, _, by omega, by omega, rfl, HBN.out, HFIN.out, rg, hb⟩
              case measure => simp [intOf]; try omega
          | true =>
            have HX := Lib.hid (List.getElem?_eq_getElem hk)
            generalize ns[k] = x at *
            have HFIN := Lib.hid (HBD.out.trans (belD_yes hu HX.out))
            have HOK := Lib.hid (HALL.out k x HX.out)
            have hu0 := hu
            clear hu
            obtain ⟨ad, rfl, hbl', c0, c1, c3, B, bc, c2, hB⟩ := HNN.out.cells HX.out
            have HA2 : Hid (∀ W : World, Below w.heap.size w W → W.cell? ⟨(ad.add (k * 4)).block, (ad.add (k * 4)).off + 2, none⟩ = some (.slice B x.args.length bc)) := Lib.hid (fun W hbW => (hbW.cell (p := (ad.add (k * 4)).add 2) (by rw [addB, addB]; exact hbl')).trans c2)
            have HKP := Lib.hid (fun (is : List Int) => markL_keep is bs hu0)
            have HBL := Lib.hid hB
            clear c0 c1 c2 c3 hB hu0
            have HAL : Hid (x.args.length ≤ 3) := Lib.hid HOK.out.al
            have hal := HAL.out
            go_wp2_with fail
            have hb1 := hb
            have HBN1 : Hid ((markL bs x.args).length = ns.length) := Lib.hid (by rw [markL_len]; exact HBN.out)
            go_loopw [8] (fun v8 w4 => ∃ j : Nat, j ≤ x.args.length ∧ v8 = .int .i64 j ∧ w4.heap[g]? = some (.cells (rowB (markL bs (x.args.take j))) 4) ∧ Below w.heap.size w w4) (fun v8 _ => x.args.length - (intOf v8).toNat)
            case atStart => exact ⟨0, by omega, rfl, rg, hb1⟩
            case round =>
              clear rg hb1 hb qk
              obtain ⟨j, hj, rfl, rg, hb⟩ := hrel
              have a2 := HA2.out _ hb
              have qk := (cell_block (i := k) rg).trans (rowB_in (HKP.out _))
              have lg := lt_of_get rg
              by_cases hlt2 : j < x.args.length
              · have hjj : (j : Int) < x.args.length := by omega
                have HXA := Lib.hid (List.getElem?_eq_getElem hlt2)
                generalize x.args[j] = a at *
                obtain ⟨g0, g1⟩ := HOK.out.ai j a HXA.out
                obtain ⟨p, rfl⟩ := Int.eq_ofNat_of_zero_le g0
                have hpk : (p : Int) < ns.length := by omega
                obtain ⟨ba, rfl, hbal, ca⟩ := HBL.out.cell HXA.out
                have ca1 := (hb.cell (p := ba.add j) (by rw [addB]; exact hbal)).trans ca
                have HS := Lib.hid (markL_step (bs := bs) HXA.out)
                have hpl : p < (markL bs (x.args.take j)).length := by rw [markL_len, HBN.out]; omega
                obtain ⟨u, hu⟩ : ∃ u, (markL bs (x.args.take j))[p]? = some u := ⟨_, List.getElem?_eq_getElem hpl⟩
                have qp := (cell_block (i := p) rg).trans (rowB_in hu)
                have fp := free_block (i := p) rg
                have HF2 := Lib.hid (show (wr.setCell ⟨g, p, none⟩ (.bool true)).heap[g]? = some (.cells (rowB (markL bs (x.args.take (j + 1)))) 4) ∧ Below w.heap.size w (wr.setCell ⟨g, p, none⟩ (.bool true)) from
                  ⟨by rw [heap_set rg, rowB_set, HS.out]; rfl, hb.setCell (p := ⟨g, p, none⟩) (Nat.le_of_eq hg) _⟩)
                clear ca rg hb hpl hu
                go_wp2
                go_roundw
                case rel => exact ⟨j + 1, by omega, by go_num, HF2.out.1, HF2.out.2⟩
                case measure => simp [intOf]; omega
              · obtain rfl : j = x.args.length := by omega
                rw [List.take_length] at rg
                go_wp2
                go_roundw
                case rel => exact ⟨k, _, _, by omega, by omega, rfl, HBN1.out, HFIN.out, rg, hb⟩
                case measure => simp [intOf]; try omega


end Go.Proofs.YtkdonapgonegkaaGreatDoor

set_option linter.unusedSimpArgs false
set_option linter.unusedVariables false
namespace Go.Proofs.YtkdonapgonegkaaGreatDoor
open Go.RowKit Go.BigFrame

end Go.Proofs.YtkdonapgonegkaaGreatDoor

set_option linter.unusedSimpArgs false
set_option linter.unusedVariables false
namespace Go.Proofs.YtkdonapgonegkaaGreatDoor
open Go.RowKit Go.BigFrame

end Go.Proofs.YtkdonapgonegkaaGreatDoor

set_option linter.unusedSimpArgs false
set_option linter.unusedVariables false
namespace Go.Proofs.YtkdonapgonegkaaGreatDoor
open Go.RowKit Go.BigFrame

/-- A number with a sign, as the reference has it. -/
def sgS (wd v : Int) : Int := if pw (wd - 1) ≤ v then v - pw wd else v
theorem sgS_eq (wd v : Int) : sgS wd v = sgG wd v := by
  unfold sgS sgG
  by_cases h : pw (wd - 1) ≤ v
  · rw [if_pos h, if_pos (by omega)]; omega
  · rw [if_neg h, if_neg (by omega)]
/-- What an operation from 2 on gives, as the reference has it. -/
def apG (op wd v aw av bw bv cv : Int) : Int :=
  if op = 2 then pw wd - 1 - av
  else if op = 3 then bits .and .i64 av bv
  else if op = 4 then bits .or .i64 av bv
  else if op = 5 then bits .xor .i64 av bv
  else if op = 6 then (av + bv) % pw wd
  else if op = 7 then (av - bv + pw wd) % pw wd
  else if op = 8 then av * bv % pw wd
  else if op = 9 then fl (av == bv)
  else if op = 10 then fl (decide (av < bv))
  else if op = 11 then fl (decide (sgS aw av < sgS bw bv))
  else if op = 12 then muxG av bv cv
  else if op = 13 then av * pw bw + bv
  else if op = 14 then av / pw v % pw wd
  else if op = 15 then av
  else if op = 16 then (sgS aw av + pw wd) % pw wd
  else if op = 17 then (if wd ≤ bv then 0 else av * pw bv % pw wd)
  else (if wd ≤ bv then 0 else av / pw bv)
theorem xor_neg1 {a : Int} (h0 : 0 ≤ a) (h1 : a < 65536) : bits .xor .i64 (-1) a = -1 - a := by
  obtain ⟨n, rfl⟩ := Int.eq_ofNat_of_zero_le h0
  show IntKind.i64.wrap ((BitVec.ofInt 64 (-1) ^^^ BitVec.ofInt 64 (n : Int)).toNat : Nat) = _
  rw [show BitVec.ofInt 64 (-1) = BitVec.allOnes 64 from by decide, BitVec.allOnes_xor, BitVec.toNat_not, ofInt_u64 n (by omega), IntKind.wrap_i64]
  omega
theorem pwN {wd : Int} (h0 : 0 ≤ wd) : pw wd = ((2 ^ wd.toNat : Nat) : Int) := by unfold pw; simp
theorem pwM {a b : Int} (h0 : 0 ≤ a) (h : a ≤ b) : pw a ≤ pw b := by
  rw [pwN h0, pwN (by omega)]
  exact_mod_cast Nat.pow_le_pow_right (by decide) (by omega)
theorem pwA {a b : Int} (h0 : 0 ≤ a) (h1 : 0 ≤ b) : pw (a + b) = pw a * pw b := by
  unfold pw
  rw [show (a + b).toNat = a.toNat + b.toNat by omega, Int.pow_add]
theorem fl_small (b : Bool) : 0 ≤ fl b ∧ fl b < 2 := by cases b <;> decide
theorem or_join {a b w : Int} (hw0 : 0 ≤ w) (hw1 : w ≤ 16) (a0 : 0 ≤ a) (a1 : a < 65536) (b0 : 0 ≤ b) (b1 : b < pw w) : bits .or .i64 (a * pw w) b = a * pw w + b := by
  obtain ⟨n, rfl⟩ := Int.eq_ofNat_of_zero_le a0
  obtain ⟨m, rfl⟩ := Int.eq_ofNat_of_zero_le b0
  have hp := pw_bd hw0 hw1
  rw [pwN hw0] at *
  generalize hk : w.toNat = k at *
  have hm : m < 2 ^ k := Int.ofNat_lt.1 b1
  have hk2 : 2 ^ k ≤ 65536 := Int.ofNat_le.1 hp.2
  have hn : n < 65536 := by omega
  have hnm : n * 2 ^ k < 2 ^ 62 := by
    calc n * 2 ^ k ≤ 65536 * 65536 := Nat.mul_le_mul (by omega) hk2
      _ < 2 ^ 62 := by decide
  have e : ((n : Int) * ((2 ^ k : Nat) : Int)) = ((n * 2 ^ k : Nat) : Int) := by simp
  rw [e, or_nat _ _ hnm (by omega), ← Nat.shiftLeft_eq, ← Nat.shiftLeft_add_eq_or_of_lt hm]
  simp
theorem apG_res {op wd v aw av bw bv cw cv : Int} (o0 : 2 ≤ op) (o1 : op ≤ 18) (w1 : 1 ≤ wd) (w2 : wd ≤ 16) (hf : fitW op wd v aw bw cw = true)
    (aw0 : 0 ≤ aw) (aw2 : aw ≤ 16) (bw0 : 0 ≤ bw) (bw2 : bw ≤ 16) (a0 : 0 ≤ av) (a1 : av < pw aw) (b0 : 0 ≤ bv) (b1 : bv < pw bw) (c0 : 0 ≤ cv) (c1 : cv < pw cw) :
    apG op wd v aw av bw bv cv = resG op wd v aw av bw bv cv := by
  have hp := pw_bd (n := wd) (by omega) w2
  have hpa := pw_bd aw0 aw2
  have hpb := pw_bd bw0 bw2
  have hcase : op = 2 ∨ op = 3 ∨ op = 4 ∨ op = 5 ∨ op = 6 ∨ op = 7 ∨ op = 8 ∨ op = 9 ∨ op = 10 ∨ op = 11 ∨ op = 12 ∨ op = 13 ∨ op = 14 ∨ op = 15 ∨ op = 16 ∨ op = 17 ∨ op = 18 := by omega
  have nat : ∀ x : Int, 0 ≤ x → x < pw wd → ∃ n : Nat, x = n ∧ n < 2 ^ wd.toNat ∧ n < 2 ^ 62 := by
    intro x x0 x1
    obtain ⟨n, rfl⟩ := Int.eq_ofNat_of_zero_le x0
    have h := x1
    rw [pwN (by omega)] at h
    exact ⟨n, rfl, by exact_mod_cast h, by omega⟩
  have back : ∀ n : Nat, n < 2 ^ wd.toNat → ((n : Nat) : Int) % pw wd = n := by
    intro n hn
    refine Int.emod_eq_of_lt (by omega) ?_
    rw [pwN (by omega)]
    exact_mod_cast hn
  unfold resG
  rcases hcase with rfl | rfl | rfl | rfl | rfl | rfl | rfl | rfl | rfl | rfl | rfl | rfl | rfl | rfl | rfl | rfl | rfl
  · have he : aw = wd := by simpa [fitW] using hf
    subst he
    show pw aw - 1 - av = bits .xor .i64 (-1) av % pw aw
    rw [xor_neg1 a0 (by omega), ← Int.add_emod_right]
    rw [Int.emod_eq_of_lt (by omega) (by omega)]
    omega
  · obtain ⟨rfl, rfl⟩ : aw = wd ∧ bw = wd := by simpa [fitW] using hf
    obtain ⟨n, rfl, hn, hn2⟩ := nat av a0 a1
    obtain ⟨m, rfl, hm, hm2⟩ := nat bv b0 b1
    show bits .and .i64 n m = bits .and .i64 n m % pw bw
    rw [and_nat n m hn2 hm2, back _ (Nat.lt_of_le_of_lt Nat.and_le_left hn)]
  · obtain ⟨rfl, rfl⟩ : aw = wd ∧ bw = wd := by simpa [fitW] using hf
    obtain ⟨n, rfl, hn, hn2⟩ := nat av a0 a1
    obtain ⟨m, rfl, hm, hm2⟩ := nat bv b0 b1
    show bits .or .i64 n m = bits .or .i64 n m % pw bw
    rw [or_nat n m hn2 hm2, back _ (Nat.or_lt_two_pow hn hm)]
  · obtain ⟨rfl, rfl⟩ : aw = wd ∧ bw = wd := by simpa [fitW] using hf
    obtain ⟨n, rfl, hn, hn2⟩ := nat av a0 a1
    obtain ⟨m, rfl, hm, hm2⟩ := nat bv b0 b1
    show bits .xor .i64 n m = bits .xor .i64 n m % pw bw
    rw [xor_nat n m hn2 hm2, back _ (Nat.xor_lt_two_pow hn hm)]
  · rfl
  · show (av - bv + pw wd) % pw wd = (av - bv) % pw wd
    rw [Int.add_emod_right]
  · rfl
  · obtain ⟨_, rfl⟩ : aw = bw ∧ wd = 1 := by simpa [fitW] using hf
    have := fl_small (av == bv)
    exact (Int.emod_eq_of_lt this.1 this.2).symm
  · obtain ⟨_, rfl⟩ : aw = bw ∧ wd = 1 := by simpa [fitW] using hf
    have := fl_small (decide (av < bv))
    exact (Int.emod_eq_of_lt this.1 this.2).symm
  · obtain ⟨_, rfl⟩ : aw = bw ∧ wd = 1 := by simpa [fitW] using hf
    show fl (decide (sgS aw av < sgS bw bv)) = fl (decide (sgG aw av < sgG bw bv)) % pw 1
    rw [sgS_eq, sgS_eq]
    have := fl_small (decide (sgG aw av < sgG bw bv))
    exact (Int.emod_eq_of_lt this.1 this.2).symm
  · obtain ⟨⟨_, rfl⟩, rfl⟩ : (aw = 1 ∧ bw = wd) ∧ cw = wd := by simpa [fitW] using hf
    show muxG av bv cv = muxG av bv cv % pw cw
    unfold muxG
    split
    · exact (Int.emod_eq_of_lt b0 b1).symm
    · exact (Int.emod_eq_of_lt c0 c1).symm
  · have he : aw + bw = wd := by simpa [fitW] using hf
    subst he
    show av * pw bw + bv = bits .or .i64 (av * pw bw) bv % pw (aw + bw)
    rw [or_join bw0 bw2 a0 (by omega) b0 b1, pwA aw0 bw0]
    have h1 : 0 ≤ av * pw bw := Int.mul_nonneg a0 (by omega)
    have h2 : (av + 1) * pw bw ≤ pw aw * pw bw := Int.mul_le_mul_of_nonneg_right (by omega) (by omega)
    have h3 : (av + 1) * pw bw = av * pw bw + pw bw := by rw [Int.add_mul, Int.one_mul]
    exact (Int.emod_eq_of_lt (by omega) (by omega)).symm
  · rfl
  · have he : aw ≤ wd := by simpa [fitW] using hf
    show av = av % pw wd
    have := pwM aw0 he
    exact (Int.emod_eq_of_lt a0 (by omega)).symm
  · show (sgS aw av + pw wd) % pw wd = sgG aw av % pw wd
    rw [sgS_eq, Int.add_emod_right]
  · show (if wd ≤ bv then 0 else av * pw bv % pw wd) = av * pw (min bv wd) % pw wd
    by_cases h : wd ≤ bv
    · rw [if_pos h, Int.min_eq_right h, Int.mul_emod_left]
    · rw [if_neg h, Int.min_eq_left (by omega)]
  · have he : aw = wd := by simpa [fitW] using hf
    subst he
    show (if aw ≤ bv then 0 else av / pw bv) = av / pw (min bv aw) % pw aw
    by_cases h : aw ≤ bv
    · rw [if_pos h, Int.min_eq_right h, Int.ediv_eq_zero_of_lt a0 a1]; rfl
    · rw [if_neg h, Int.min_eq_left (by omega)]
      have h1 := Int.ediv_nonneg a0 (by have := pw_pos bv; omega : 0 ≤ pw bv)
      have h2 := Int.ediv_le_self (pw bv) a0
      exact (Int.emod_eq_of_lt h1 (by omega)).symm

end Go.Proofs.YtkdonapgonegkaaGreatDoor
