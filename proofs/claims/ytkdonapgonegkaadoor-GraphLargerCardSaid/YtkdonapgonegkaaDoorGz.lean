/-
  Contracts of chapter 2 (graph): the values of all nodes, or the error.
-/
import Derived.Test.YtkdonapgonegkaaDoorGy
import Derived.Test.YtkdonapgonegkaaDoorGr
set_option linter.unusedSimpArgs false
set_option linter.unusedVariables false
namespace Go.Proofs.YtkdonapgonegkaaDoor
open Go.RowKit Go.BigFrame

theorem firstAt_zero {f : Nat → Int} : ∀ {m k : Nat}, (firstAt f m k).2 = 0 → ∀ j, k ≤ j → j < k + m → f j = 0 := by
  intro m
  induction m with
  | zero => intro k _ j h1 h2; omega
  | succ m ih =>
    intro k h j h1 h2
    unfold firstAt at h
    by_cases hk : f k = 0
    · rw [if_pos hk] at h
      by_cases hj : j = k
      · rw [hj]; exact hk
      · exact ih h j (by omega) (by omega)
    · rw [if_neg hk] at h; exact absurd h hk
theorem eIf_zero {b : Bool} {e : Int} (h : eIf b e = 0) (he : e ≠ 0) : b = false := by
  cases b
  · rfl
  · exact absurd h he

theorem nodeE_ok {ls : List Int} {before : List Nd} {n : Nd} (h : nodeE ls before n = 0) : isIx n.op 19 = true ∧ isW n.wd = true ∧ (n.args.length : Int) = argN n.op ∧ (∀ a ∈ n.args, isIx a before.length = true) ∧ numE ls n.op n.wd n.v = 0 ∧ fitW n.op n.wd n.v (wAt before n.args 0) (wAt before n.args 1) (wAt before n.args 2) = true := by
  unfold nodeE at h
  by_cases h1 : isIx n.op 19 = true
  · rw [if_pos h1] at h
    by_cases h2 : isW n.wd = true
    · rw [if_pos h2] at h
      simp only at h
      by_cases h3 : firstE [eIf ((n.args.length : Int) != argN n.op) 10, argsE n.args before.length 9, numE ls n.op n.wd n.v] = 0
      · rw [if_pos h3] at h
        have h4 := eIf_zero h (by decide)
        simp only [firstE_cons] at h3
        by_cases g1 : eIf ((n.args.length : Int) != argN n.op) 10 = 0
        · rw [if_pos g1] at h3
          by_cases g2 : argsE n.args before.length 9 = 0
          · rw [if_pos g2] at h3
            have g3 : numE ls n.op n.wd n.v = 0 := by
              by_cases g3 : numE ls n.op n.wd n.v = 0
              · exact g3
              · rw [if_neg g3] at h3; exact h3
            refine ⟨h1, h2, ?_, ?_, g3, by simpa using h4⟩
            · have := eIf_zero g1 (by decide); simpa using this
            · unfold argsE at g2
              intro a ha
              by_cases g4 : (n.args.all fun i => isIx i before.length) = true
              · exact List.all_eq_true.1 g4 a ha
              · rw [if_neg g4] at g2; exact absurd g2 (by decide)
          · rw [if_neg g2] at h3; exact absurd h3 g2
        · rw [if_neg g1] at h3; exact absurd h3 g1
      · rw [if_neg h3] at h; exact absurd h h3
    · rw [if_neg h2] at h; exact absurd h (by decide)
  · rw [if_neg h1] at h; exact absurd h (by decide)
theorem chk_ok {ls : List Int} {ns : List Nd} (h : (chk ls ns).2 = 0) : ls.length ≤ 40 ∧ (∀ x ∈ ls, isW x = true) ∧ ns.length ≤ 400 ∧ ∀ k n, ns[k]? = some n → nodeE ls (ns.take k) n = 0 := by
  unfold chk at h
  by_cases h1 : 40 < ls.length
  · rw [if_pos h1] at h; exact absurd h (by decide)
  · rw [if_neg h1] at h
    by_cases h2 : (firstAt (leafE ls) ls.length 0).2 = 0
    · rw [if_pos h2] at h
      by_cases h3 : 400 < ns.length
      · rw [if_pos h3] at h; exact absurd h (by decide)
      · rw [if_neg h3] at h
        refine ⟨by omega, ?_, by omega, ?_⟩
        · intro x hx
          obtain ⟨i, hi, rfl⟩ := List.mem_iff_getElem.1 hx
          have := firstAt_zero h2 i (by omega) (by omega)
          unfold leafE at this
          have := eIf_zero this (by decide)
          simpa [hi] using this
        · intro k n hn
          have := firstAt_zero h k (by omega) (by have := (List.getElem?_eq_some_iff.1 hn).1; omega)
          unfold nodesE at this
          rw [hn] at this
          exact this
    · rw [if_neg h2] at h; exact absurd h h2
theorem chk_nodes {ls : List Int} {ns : List Nd} (h : (chk ls ns).2 = 0) (k : Nat) (n : Nd) (hn : ns[k]? = some n) : NodeOK ns ls.length k n := by
  have hk := (List.getElem?_eq_some_iff.1 hn).1
  obtain ⟨h1, h2, h3, h4, h5, _⟩ := nodeE_ok ((chk_ok h).2.2.2 k n hn)
  obtain ⟨o0, o1⟩ := isIx_iff.1 h1
  obtain ⟨w1, w2⟩ := isW_iff.1 h2
  have al := argN_le n.op
  refine ⟨o0, by omega, w1, w2, by omega, ?_, ?_, ?_, ?_, ?_⟩
  · intro i a ha
    have := isIx_iff.1 (h4 a (List.mem_of_getElem? ha))
    rw [List.length_take_of_le (by omega)] at this
    exact this
  · intro e; rw [e] at h3; exact Int.ofNat_inj.1 h3
  · intro e; rw [e] at h3; exact Int.ofNat_inj.1 h3
  · intro e
    rw [e] at h5
    unfold numE at h5
    rw [if_neg (by decide), if_pos rfl] at h5
    by_cases hx : isIx n.v ls.length = true
    · exact isIx_iff.1 hx
    · rw [if_neg hx] at h5; exact absurd h5 (by decide)
  · intro e
    rw [e] at h5
    unfold numE at h5
    rw [if_neg (by decide), if_neg (by decide), if_pos rfl] at h5
    have := eIf_zero h5 (by decide)
    have := isIx_iff.1 (show isIx n.v 16 = true by simpa using this)
    omega
theorem valE_ok {ls vs : List Int} (hw : ∀ x ∈ ls, isW x = true) (h : valE ls vs = 0) : vs.length = ls.length ∧ ∀ x ∈ vs, 0 ≤ x ∧ x ≤ 65536 := by
  unfold valE at h
  by_cases h1 : vs.length = ls.length
  · rw [if_pos h1] at h
    refine ⟨h1, fun x hx => ?_⟩
    obtain ⟨i, hi, rfl⟩ := List.mem_iff_getElem.1 hx
    have hz := firstAt_zero h i (by omega) (by omega)
    rw [valK_at (List.getElem?_eq_getElem hi) (List.getElem?_eq_getElem (by omega))] at hz
    have hv := eIf_zero hz (by decide)
    have hiw := isW_iff.1 (hw ls[i] (List.getElem_mem _))
    have hp := pw_bd (n := ls[i]) (by omega) hiw.2
    have : isV vs[i] ls[i] = true := by simpa using hv
    unfold isV at this
    simp only [Bool.and_eq_true, decide_eq_true_eq] at this
    omega
  · rw [if_neg h1] at h; exact absurd h (by decide)
/-- A row of numbers, or an error and none. -/
def RowE (w : World) (er : Int) (xs : List Int) (e : Ending) (w' : World) : Prop :=
  (er ≠ 0 ∧ e = .returned (.tuple #[.slice none 0 0, .int .i64 er]) ∨ er = 0 ∧ ∃ A' cap', e = .returned (.tuple #[.slice A' xs.length cap', .int .i64 0]) ∧ LiesI w' A' xs) ∧ Below w.heap.size w w'
theorem RowE.bad {w w' : World} {er : Int} {xs : List Int} (h : er ≠ 0) (hb : Below w.heap.size w w') : RowE w er xs (.returned (.tuple #[.slice none 0 0, .int .i64 er])) w' := ⟨.inl ⟨h, rfl⟩, hb⟩
theorem RowE.good {w w' : World} {xs : List Int} {A' : Option Addr} {cap' : Nat} (hl : LiesI w' A' xs) (hb : Below w.heap.size w w') : RowE w 0 xs (.returned (.tuple #[.slice A' xs.length cap', .int .i64 0])) w' := ⟨.inr ⟨rfl, A', cap', rfl, hl⟩, hb⟩
/-- The error of a graph, then another one. -/
def thenE (a b : Int) : Int := if a = 0 then b else a


set_option maxRecDepth 100000 in
set_option maxHeartbeats 1600000 in
theorem ValuesOf_c (A : Option Addr) (cap : Nat) (ls : List Int) (hls : ls.length ≤ 65536) (N : Option Addr) (capN : Nat) (ns : List Nd) (hns : ns.length ≤ 65536) (hcap : ns.length ≤ capN) (hla : ∀ n ∈ ns, n.args.length ≤ 65536) (V : Option Addr) (cv : Nat) (vs : List Int) (hvs : vs.length ≤ 65536) (w : World) (hA : LiesI w A ls) (hN : LiesN w N ns) (hV : LiesI w V vs) (ht : TabOps w) :
    Calls Tryd.prog 14 #[.slice A ls.length cap, .slice N ns.length capN, .slice V vs.length cv] w (RowE w (thenE (chk ls ns).2 (valE ls vs)) (valsL ns vs)) := by
  have HC := errorOfGraph_c A cap ls hls N capN ns hns hcap hla w hA hN ht
  by_cases h0 : (chk ls ns).2 = 0
  case neg =>
    rw [show thenE (chk ls ns).2 (valE ls vs) = (chk ls ns).2 from if_neg h0]
    generalize (chk ls ns).2 = er at *
    have HC := Lib.hid HC
    have HE := Lib.hid h0
    have n1 : (er == 0) = false := by simpa using h0
    have n2 : (er != 0) = true := by simpa using h0
    clear h0 hA hN hV ht hla hcap
    go_enter Tryd.func14, Tryd.ntmps14
    go_wp2_with fail
    refine HC.out.mono ?_
    rintro e w' ⟨rfl, y, rfl⟩
    go_wp2
    go_ret2
    exact RowE.bad HE.out y.pf
  rw [show thenE (chk ls ns).2 (valE ls vs) = valE ls vs from if_pos h0]
  rw [h0] at HC
  have HC := Lib.hid HC
  have HOK := Lib.hid (chk_ok h0)
  have HND := Lib.hid (chk_nodes h0)
  have HV := Lib.hid (fun (x : Aft w) => errorOfValues_c A cap ls hls HOK.out.2.1 V cv vs hvs x.val (hA.aft x) (hV.aft x))
  have HVV := Lib.hid hV
  have HNN := Lib.hid hN
  clear h0 hA ht hla hcap hV hN
  by_cases h1 : valE ls vs = 0
  case neg =>
    generalize valE ls vs = er at *
    have HE := Lib.hid h1
    have n1 : (er == 0) = false := by simpa using h1
    have n2 : (er != 0) = true := by simpa using h1
    clear h1
    go_enter Tryd.func14, Tryd.ntmps14
    go_wp2_with fail
    refine HC.out.mono ?_
    rintro e w' ⟨rfl, y, rfl⟩
    go_wp2_with fail
    refine (HV.out y).mono ?_
    rintro e w' ⟨rfl, z, rfl⟩
    go_wp2
    go_ret2
    exact RowE.bad HE.out (z.below y.pf y.pf.size)
  have HVO := Lib.hid (valE_ok HOK.out.2.1 h1)
  rw [h1] at HV ⊢
  clear h1
  go_enter Tryd.func14, Tryd.ntmps14
  go_wp2_with fail
  refine HC.out.mono ?_
  rintro e w' ⟨rfl, y, rfl⟩
  go_wp2_with fail
  refine (HV.out y).mono ?_
  rintro e w' ⟨rfl, z, rfl⟩
  have HB := Lib.hid (z.below y.pf y.pf.size)
  generalize z.val = W at *
  go_wp2_with fail
  refine (valuesOf_c N capN ns hns V cv vs hvs HVO.out.2 (by rw [HVO.out.1]; exact HND.out) W (HNN.out.below HB.out) (HVV.out.below HB.out)).mono ?_
  rintro e w' ⟨A', cap', rfl, hl, hb⟩
  have HF := Lib.hid (RowE.good (cap' := cap') hl (HB.out.trans (hb.mono HB.out.size)))
  clear hl hb
  go_wp2
  go_ret2
  exact HF.out

end Go.Proofs.YtkdonapgonegkaaDoor
