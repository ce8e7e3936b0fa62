/-
  Contracts of chapter 2 (graph): the first item with an error, whatever the closure is that says so.
-/
import Derived.Test.YtkdonapgonegkaaDoorGb
set_option linter.unusedSimpArgs false
set_option linter.unusedVariables false
namespace Go.Proofs.YtkdonapgonegkaaDoor
open Go.RowKit Go.BigFrame

theorem firstAt_go {E : Nat → Int} {n k : Nat} (h : k < n) (h0 : E k = 0) : firstAt E (n - k) k = firstAt E (n - (k + 1)) (k + 1) := by rw [firstAt_step h, if_pos h0]
theorem firstAt_stop {E : Nat → Int} {n k : Nat} (h : k < n) (h0 : ¬ E k = 0) : firstAt E (n - k) k = ((k : Int), E k) := by rw [firstAt_step h, if_neg h0]
theorem tupII {a a' b b' : Int} (h : a = a') (g : b = b') : Ending.returned (.tuple #[.int .i64 a, .int .i64 b]) = .returned (.tuple #[.int .i64 a', .int .i64 b']) := by subst h; subst g; rfl
theorem LiesI.cell {w : World} {A : Option Addr} {ns : List Int} (h : LiesI w A ns) {k : Nat} {x : Int} (hx : ns[k]? = some x) : ∃ ad, A = some ad ∧ ad.block < w.heap.size ∧ w.cell? (ad.add k) = some (.int .i64 x) := by
  obtain ⟨ad, rfl, hb, hc⟩ := h (by have := (List.getElem?_eq_some_iff.1 hx).1; omega)
  exact ⟨ad, rfl, hb, hc k x hx⟩
theorem LiesI.below {w W : World} {A : Option Addr} {ns : List Int} (h : LiesI w A ns) (hb : Below w.heap.size w W) : LiesI W A ns := h.aft ⟨W, hb⟩
theorem LiesN.below {w W : World} {A : Option Addr} {ns : List Nd} (h : LiesN w A ns) (hb : Below w.heap.size w W) : LiesN W A ns := h.aft ⟨W, hb⟩
theorem LiesN.cells {w : World} {A : Option Addr} {ns : List Nd} (h : LiesN w A ns) {k : Nat} {n : Nd} (hx : ns[k]? = some n) : ∃ ad, A = some ad ∧ ad.block < w.heap.size ∧ w.cell? (ad.add (k * 4)) = some (.int .i64 n.op) ∧ w.cell? ((ad.add (k * 4)).add 1) = some (.int .i64 n.wd) ∧ w.cell? ((ad.add (k * 4)).add 3) = some (.int .i64 n.v) ∧
    ∃ B cap, w.cell? ((ad.add (k * 4)).add 2) = some (.slice B n.args.length cap) ∧ LiesI w B n.args := by
  obtain ⟨ad, rfl, hb, hc⟩ := h (by have := (List.getElem?_eq_some_iff.1 hx).1; omega)
  exact ⟨ad, rfl, hb, hc k n hx⟩

set_option maxRecDepth 100000 in
set_option maxHeartbeats 1600000 in
theorem firstWrong_leaf (E : Nat → Int) (A : Option Addr) (cap : Nat) (ns : List Int) (hl : ns.length ≤ 65536) (w : World) (h : LiesI w A ns)
    (hK : ∀ (k : Nat) (x : Int), ns[k]? = some x → ∀ W : World, Below w.heap.size w W → Calls Tryd.prog 46 #[.int .i64 k, .int .i64 x] W fun e w' => e = .returned (.int .i64 (E k)) ∧ ∃ y : Aft W, w' = y.val) :
    Calls Tryd.prog 45 #[.slice A ns.length cap, .func (.func 46) #[] #[]] w fun e w' => e = .returned (.tuple #[.int .i64 (firstAt E ns.length 0).1, .int .i64 (firstAt E ns.length 0).2]) ∧ ∃ x : Aft w, w' = x.val := by
  have HH := Lib.hid h
  have HK := Lib.hid hK
  clear h hK
  go_enter Tryd.func45, Tryd.ntmps45
  go_wp2
  go_loopw [11] (fun v11 wr => ∃ k : Nat, k ≤ ns.length ∧ v11 = .int .i64 k ∧ firstAt E ns.length 0 = firstAt E (ns.length - k) k ∧ Below w.heap.size w wr) (fun v11 _ => ns.length - (intOf v11).toNat)
  case atStart => exact ⟨0, by omega, rfl, rfl, Below.refl _ _⟩
  case round =>
    obtain ⟨k, hk, rfl, hf, hb⟩ := hrel
    have HF := Lib.hid hf
    have HB := Lib.hid hb
    clear hf hb
    by_cases hlt : k < ns.length
    · have hkk : (k : Int) < ns.length := by omega
      have HX := Lib.hid (List.getElem?_eq_getElem hlt)
      generalize ns[k] = x at *
      obtain ⟨ad, rfl, hbk, hcell⟩ := HH.out.cell HX.out
      have c : wr.cell? (ad.add k) = some (.int .i64 x) := (HB.out.cell (p := ad.add k) (by rw [addB]; exact hbk)).trans hcell
      clear hcell hbk
      go_wp2_with fail
      refine (HK.out k x HX.out _ HB.out).mono ?_
      rintro e w' ⟨rfl, y, rfl⟩
      by_cases h0 : E k = 0
      · have hn := Lib.hid (firstAt_go hlt h0)
        have h0' : (E k == 0) = true := by simpa using h0
        rw [h0]
        clear h0 h0' c
        go_wp2
        go_roundw
        case rel => exact ⟨k + 1, by omega, by go_num, HF.out.trans hn.out, y.below HB.out HB.out.size⟩
        case measure => simp [intOf]; omega
      · have hn := Lib.hid (firstAt_stop hlt h0)
        have n1 : (E k == 0) = false := by simpa using h0
        have n2 : (E k != 0) = true := by simpa using h0
        clear h0 c
        generalize E k = er at *
        go_wp2
        go_ret2
        exact ⟨tupII (by rw [HF.out, hn.out]) (by rw [HF.out, hn.out]), Below.aft (y.below HB.out HB.out.size)⟩
    · have hn := Lib.hid (firstAt_end (f := E) (n := ns.length) (k := k) (by omega))
      go_wp2
      go_ret2
      exact ⟨tupII (by rw [HF.out, hn.out]) (by rw [HF.out, hn.out]), Below.aft HB.out⟩

set_option maxRecDepth 100000 in
set_option maxHeartbeats 1600000 in
theorem firstWrong_index (c0 c1 : Value) (E : Nat → Int) (A : Option Addr) (cap : Nat) (ns : List Int) (hl : ns.length ≤ 65536) (w : World) (h : LiesI w A ns)
    (hK : ∀ (k : Nat) (x : Int), ns[k]? = some x → ∀ W : World, Below w.heap.size w W → Calls Tryd.prog 101 #[.int .i64 k, .int .i64 x, c0, c1] W fun e w' => e = .returned (.int .i64 (E k)) ∧ ∃ y : Aft W, w' = y.val) :
    Calls Tryd.prog 45 #[.slice A ns.length cap, .func (.func 101) #[] #[c0, c1]] w fun e w' => e = .returned (.tuple #[.int .i64 (firstAt E ns.length 0).1, .int .i64 (firstAt E ns.length 0).2]) ∧ ∃ x : Aft w, w' = x.val := by
  have HH := Lib.hid h
  have HK := Lib.hid hK
  clear h hK
  go_enter Tryd.func45, Tryd.ntmps45
  go_wp2
  go_loopw [11] (fun v11 wr => ∃ k : Nat, k ≤ ns.length ∧ v11 = .int .i64 k ∧ firstAt E ns.length 0 = firstAt E (ns.length - k) k ∧ Below w.heap.size w wr) (fun v11 _ => ns.length - (intOf v11).toNat)
  case atStart => exact ⟨0, by omega, rfl, rfl, Below.refl _ _⟩
  case round =>
    obtain ⟨k, hk, rfl, hf, hb⟩ := hrel
    have HF := Lib.hid hf
    have HB := Lib.hid hb
    clear hf hb
    by_cases hlt : k < ns.length
    · have hkk : (k : Int) < ns.length := by omega
      have HX := Lib.hid (List.getElem?_eq_getElem hlt)
      generalize ns[k] = x at *
      obtain ⟨ad, rfl, hbk, hcell⟩ := HH.out.cell HX.out
      have c : wr.cell? (ad.add k) = some (.int .i64 x) := (HB.out.cell (p := ad.add k) (by rw [addB]; exact hbk)).trans hcell
      clear hcell hbk
      go_wp2_with fail
      refine (HK.out k x HX.out _ HB.out).mono ?_
      rintro e w' ⟨rfl, y, rfl⟩
      by_cases h0 : E k = 0
      · have hn := Lib.hid (firstAt_go hlt h0)
        have h0' : (E k == 0) = true := by simpa using h0
        rw [h0]
        clear h0 h0' c
        go_wp2
        go_roundw
        case rel => exact ⟨k + 1, by omega, by go_num, HF.out.trans hn.out, y.below HB.out HB.out.size⟩
        case measure => simp [intOf]; omega
      · have hn := Lib.hid (firstAt_stop hlt h0)
        have n1 : (E k == 0) = false := by simpa using h0
        have n2 : (E k != 0) = true := by simpa using h0
        clear h0 c
        generalize E k = er at *
        go_wp2
        go_ret2
        exact ⟨tupII (by rw [HF.out, hn.out]) (by rw [HF.out, hn.out]), Below.aft (y.below HB.out HB.out.size)⟩
    · have hn := Lib.hid (firstAt_end (f := E) (n := ns.length) (k := k) (by omega))
      go_wp2
      go_ret2
      exact ⟨tupII (by rw [HF.out, hn.out]) (by rw [HF.out, hn.out]), Below.aft HB.out⟩

theorem CheckNodes1_c (i n : Int) (w : World) :
    Calls Tryd.prog 46 #[.int .i64 i, .int .i64 n] w fun e w' => e = .returned (.int .i64 (eIf (!isW n) 2)) ∧ w = w' := by
  go_enter Tryd.func46, Tryd.ntmps46
  go_wp2_with (first | (go_at_call 48; refine (isWidth_c _ _).mono ?_; rintro e w' ⟨rfl, rfl⟩) | (go_at_call 47; refine (errorIf_c _ _ _).mono ?_; rintro e w' ⟨rfl, rfl⟩))
  go_ret
  exact ⟨rfl, rfl⟩

theorem errorOfIndexes1_c (i x n er : Int) (P Q : Nat) (w : World) (c0 : w.cell? ⟨P, 0, none⟩ = some (.int .i64 n)) (c1 : w.cell? ⟨Q, 0, none⟩ = some (.int .i64 er)) (l0 : P < w.heap.size) (l1 : Q < w.heap.size) :
    Calls Tryd.prog 101 #[.int .i64 i, .int .i64 x, .pointer (some ⟨P, 0, none⟩), .pointer (some ⟨Q, 0, none⟩)] w fun e w' => e = .returned (.int .i64 (eIf (!isIx x n) er)) ∧ ∃ y : Aft w, w' = y.val := by
  go_enter Tryd.func101, Tryd.ntmps101
  go_wp2_with fail
  refine wp_region_aft (by kernel_rfl) (by kernel_rfl) ?_
  repeat (go_big_quiet_step (first | (go_at_call 66; exact Calls.qs (isIndex_c _ _ _)) | (go_at_call 47; exact Calls.qs (errorIf_c _ _ _))))
  refine wpQuiet_nil ?_
  intro y
  go_wp2
  go_ret
  exact ⟨rfl, y, rfl⟩
def ixE (args : List Int) (n er : Int) (k : Nat) : Int := eIf (!isIx (args.getD k 0) n) er
theorem ixE_all {args : List Int} {n er : Int} (he : er ≠ 0) : (firstAt (ixE args n er) args.length 0).2 = argsE args n er := by
  have key : ∀ (m k : Nat), m + k = args.length → (firstAt (ixE args n er) m k).2 = argsE (args.drop k) n er := by
    intro m
    induction m with
    | zero => intro k hk; rw [List.drop_of_length_le (by omega)]; rfl
    | succ m ih =>
      intro k hk
      have hk' : k < args.length := by omega
      have hd := List.drop_eq_getElem_cons hk'
      have hg : args.getD k 0 = args[k] := by simp [hk']
      unfold firstAt
      by_cases hx : isIx args[k] n = true
      · have e0 : ixE args n er k = 0 := by unfold ixE; rw [hg, hx]; rfl
        rw [if_pos e0, ih (k + 1) (by omega), hd]
        unfold argsE; simp only [List.all_cons, hx, Bool.true_and]
      · have hx' : isIx args[k] n = false := by simpa using hx
        have e0 : ixE args n er k = er := by unfold ixE; rw [hg, hx']; rfl
        rw [if_neg (by rw [e0]; exact he), e0, hd]
        unfold argsE; simp only [List.all_cons, hx', Bool.false_and]; rfl
  simpa using key args.length 0 (by omega)

set_option maxRecDepth 100000 in
set_option maxHeartbeats 1600000 in
theorem errorOfIndexes_c (n er : Int) (he : er ≠ 0) (A : Option Addr) (cap : Nat) (ns : List Int) (hl : ns.length ≤ 65536) (w : World) (h : LiesI w A ns) :
    Calls Tryd.prog 79 #[.slice A ns.length cap, .int .i64 n, .int .i64 er] w fun e w' => e = .returned (.int .i64 (argsE ns n er)) ∧ ∃ x : Aft w, w' = x.val := by
  have HH := Lib.hid h
  have HE := Lib.hid (ixE_all (args := ns) (n := n) he)
  have he1 : (er == 0) = false := by simpa using he
  clear h he
  go_enter Tryd.func79, Tryd.ntmps79
  go_wp2_with fail
  refine (firstWrong_index _ _ (ixE ns n er) A cap ns hl _ (HH.out.below (((Below.refl _ _).alloc (Nat.le_refl _) _).alloc (by simp) _)) ?hK).mono ?_
  case hK =>
    intro k x hx W hb
    have e0 : ixE ns n er k = eIf (!isIx x n) er := by unfold ixE; simp [List.getD, hx]
    rw [e0]
    refine errorOfIndexes1_c _ x n er _ _ W ?_ ?_ ?_ ?_
    · rw [hb.cell (p := ⟨w.heap.size, 0, none⟩) (by simp; omega)]; simp [go_sem]
    · rw [hb.cell (p := ⟨w.heap.size + 1, 0, none⟩) (by simp)]; simp [go_sem]
    · have := hb.size; simp at this; omega
    · have := hb.size; simp at this; omega
  rintro e w' ⟨rfl, y, rfl⟩
  rw [HE.out]
  go_wp2
  go_ret
  exact ⟨rfl, Below.aft (by (repeat' (first | (with_reducible exact Below.refl _ _) | (with_reducible assumption) | (with_reducible refine Below.alloc ?_ ?_ _) | (with_reducible refine Below.drew ?_) | (with_reducible refine Aft.below _ ?_ ?_) | (with_reducible refine Below.setCell_new ?_ ?_ _ _) | (with_reducible exact Nat.le_refl _) | (with_reducible refine Aft.le _ ?_) | (with_reducible refine le_alloc ?_) | (with_reducible refine le_drew ?_) | (with_reducible refine le_setCell ?_) | omega)))⟩

end Go.Proofs.YtkdonapgonegkaaDoor
