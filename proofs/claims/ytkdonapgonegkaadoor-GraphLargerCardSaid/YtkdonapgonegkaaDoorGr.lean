/-
  Contracts of chapter 2 (graph): the error of values of leaves.
-/
import Derived.Test.YtkdonapgonegkaaDoorGq
set_option linter.unusedSimpArgs false
set_option linter.unusedVariables false
namespace Go.Proofs.YtkdonapgonegkaaDoor
open Go.RowKit Go.BigFrame

set_option maxRecDepth 100000 in
set_option maxHeartbeats 1600000 in
theorem firstWrong_value (c0 : Value) (E : Nat → Int) (A : Option Addr) (cap : Nat) (ns : List Int) (hl : ns.length ≤ 65536) (w : World) (h : LiesI w A ns)
    (hK : ∀ (k : Nat) (x : Int), ns[k]? = some x → ∀ W : World, Below w.heap.size w W → Calls Tryd.prog 85 #[.int .i64 k, .int .i64 x, c0] W fun e w' => e = .returned (.int .i64 (E k)) ∧ ∃ y : Aft W, w' = y.val) :
    Calls Tryd.prog 45 #[.slice A ns.length cap, .func (.func 85) #[] #[c0]] w fun e w' => e = .returned (.tuple #[.int .i64 (firstAt E ns.length 0).1, .int .i64 (firstAt E ns.length 0).2]) ∧ ∃ x : Aft w, w' = x.val := by
  have HH := Lib.hid h
  have HK := Lib.hid hK
  clear h hK
  go_enter Tryd.func45, Tryd.ntmps45
  go_wp2
  go_loopw [11] (fun v11 wr => ∃ k : Nat, k ≤ ns.length ∧ v11 = .int .i64 k ∧ firstAt E ns.length 0 = firstAt E (ns.length - k) k ∧ Below w.heap.size w wr) (fun v11 _ => ns.length - (intOf v11).toNat)
  case atStart => exact ⟨0, by omega, rfl, rfl, Below.refl _ _⟩
  case round =>
    obtain ⟨k, hk, rfl, hf, hb⟩ := hrel
    have HF := Lib.hid hf
    have HB := Lib.hid hb
    clear hf hb
    by_cases hlt : k < ns.length
    · have hkk : (k : Int) < ns.length := by omega
      have HX := Lib.hid (List.getElem?_eq_getElem hlt)
      generalize ns[k] = x at *
      obtain ⟨ad, rfl, hbk, hcell⟩ := HH.out.cell HX.out
      have c : wr.cell? (ad.add k) = some (.int .i64 x) := (HB.out.cell (p := ad.add k) (by rw [addB]; exact hbk)).trans hcell
      clear hcell hbk
      go_wp2_with fail
      refine (HK.out k x HX.out _ HB.out).mono ?_
      rintro e w' ⟨rfl, y, rfl⟩
      by_cases h0 : E k = 0
      · have hn := Lib.hid (firstAt_go hlt h0)
        have h0' : (E k == 0) = true := by simpa using h0
        rw [h0]
        clear h0 h0' c
        go_wp2
        go_roundw
        case rel => exact ⟨k + 1, by omega, by go_num, HF.out.trans hn.out, y.below HB.out HB.out.size⟩
        case measure => simp [intOf]; omega
      · have hn := Lib.hid (firstAt_stop hlt h0)
        have n1 : (E k == 0) = false := by simpa using h0
        have n2 : (E k != 0) = true := by simpa using h0
        clear h0 c
        generalize E k = er at *
        go_wp2
        go_ret2
        exact ⟨tupII (by rw [HF.out, hn.out]) (by rw [HF.out, hn.out]), Below.aft (y.below HB.out HB.out.size)⟩
    · have hn := Lib.hid (firstAt_end (f := E) (n := ns.length) (k := k) (by omega))
      go_wp2
      go_ret2
      exact ⟨tupII (by rw [HF.out, hn.out]) (by rw [HF.out, hn.out]), Below.aft HB.out⟩


set_option maxRecDepth 100000 in
set_option maxHeartbeats 1600000 in
theorem errorOfValues1_c (k : Nat) (x y : Int) (P : Nat) (A : Option Addr) (cap : Nat) (ls : List Int) (hls : ls.length ≤ 65536) (hy : ls[k]? = some y) (h1 : 0 ≤ y) (h2 : y ≤ 16) (w : World) (c0 : w.cell? ⟨P, 0, none⟩ = some (.slice A ls.length cap)) (hA : LiesI w A ls) :
    Calls Tryd.prog 85 #[.int .i64 k, .int .i64 x, .pointer (some ⟨P, 0, none⟩)] w fun e w' => e = .returned (.int .i64 (eIf (!isV x y) 2)) ∧ w = w' := by
  obtain ⟨ad, rfl, _, c⟩ := hA.cell hy
  have hk := (List.getElem?_eq_some_iff.1 hy).1
  have hkk : (k : Int) < ls.length := by omega
  have HV := Lib.hid (fun w => isValue_c x y h1 h2 w)
  clear hA hy
  go_enter Tryd.func85, Tryd.ntmps85
  go_wp2_with (first | (go_at_call 67; ((with_reducible refine (HV.out _).mono ?_); rintro e w' ⟨rfl, rfl⟩)) | (go_at_call 47; refine (errorIf_c _ _ _).mono ?_; rintro e w' ⟨rfl, rfl⟩))
  go_ret
  exact ⟨rfl, rfl⟩
/-- The error of one value of a leaf; of values of all leaves. -/
def valK (ls vs : List Int) (k : Nat) : Int := eIf (!isV (vs.getD k 0) (ls.getD k 0)) 2
def valE (ls vs : List Int) : Int := if vs.length = ls.length then (firstAt (valK ls vs) vs.length 0).2 else 10
theorem valK_at {ls vs : List Int} {k : Nat} {x y : Int} (hx : vs[k]? = some x) (hy : ls[k]? = some y) : valK ls vs k = eIf (!isV x y) 2 := by unfold valK; simp [List.getD, hx, hy]

set_option maxRecDepth 100000 in
set_option maxHeartbeats 1600000 in
theorem errorOfValues_c (A : Option Addr) (cap : Nat) (ls : List Int) (hls : ls.length ≤ 65536) (hw : ∀ x ∈ ls, isW x = true) (V : Option Addr) (cv : Nat) (vs : List Int) (hvs : vs.length ≤ 65536) (w : World) (hA : LiesI w A ls) (hV : LiesI w V vs) :
    Calls Tryd.prog 55 #[.slice A ls.length cap, .slice V vs.length cv] w fun e w' => e = .returned (.int .i64 (valE ls vs)) ∧ ∃ x : Aft w, w' = x.val := by
  by_cases hl : vs.length = ls.length
  case neg =>
    have hl' : ((vs.length : Int) == ls.length) = false := by simpa using (by omega : ¬ (vs.length : Int) = ls.length)
    have HR := Lib.hid (show valE ls vs = 10 from if_neg hl)
    clear hA hV hl hw
    go_enter Tryd.func55, Tryd.ntmps55
    go_wp2
    go_ret
    exact ⟨retI HR.out.symm, Below.aft (by (repeat' (first | (with_reducible exact Below.refl _ _) | (with_reducible assumption) | (with_reducible refine Below.alloc ?_ ?_ _) | (with_reducible refine Below.drew ?_) | (with_reducible refine Aft.below _ ?_ ?_) | (with_reducible refine Below.setCell_new ?_ ?_ _ _) | (with_reducible exact Nat.le_refl _) | (with_reducible refine Aft.le _ ?_) | (with_reducible refine le_alloc ?_) | (with_reducible refine le_drew ?_) | (with_reducible refine le_setCell ?_) | omega)))⟩
  have HR := Lib.hid (show valE ls vs = (firstAt (valK ls vs) vs.length 0).2 from if_pos hl)
  have hb0 : Below w.heap.size w (w.alloc (.cells #[.slice A ls.length cap] 22)) := (Below.refl _ _).alloc (Nat.le_refl _) _
  have c0 : ((w.alloc (.cells #[.slice A ls.length cap] 22))).cell? ⟨w.heap.size, 0, none⟩ = some (.slice A ls.length cap) := cell_block (i := 0) (heap_alloc_new _ _)
  have z0 : w.heap.size < ((w.alloc (.cells #[.slice A ls.length cap] 22))).heap.size := by simp
  have HF := Lib.hid (firstWrong_value (.pointer (some ⟨w.heap.size, 0, none⟩)) (valK ls vs) V cv vs hvs (w.alloc (.cells #[.slice A ls.length cap] 22)) (hV.below hb0) (fun k x hx W hb => by
    have hk : k < ls.length := by have := (List.getElem?_eq_some_iff.1 hx).1; omega
    have hy := List.getElem?_eq_getElem hk
    have h12 := isW_iff.1 (hw _ (List.getElem_mem hk))
    rw [valK_at hx hy]
    exact (errorOfValues1_c k x ls[k] w.heap.size A cap ls hls hy (by omega) h12.2 W ((hb.cell (p := ⟨w.heap.size, 0, none⟩) z0).trans c0) ((hA.below hb0).below hb)).mono fun e w' ⟨he, hw⟩ => ⟨he, ⟨W, Below.refl _ _⟩, hw.symm⟩))
  have HB := Lib.hid hb0
  have hl' : ((vs.length : Int) == ls.length) = true := by simpa using (by omega : (vs.length : Int) = ls.length)
  clear hA hV hl hw hb0 c0 z0
  generalize firstAt (valK ls vs) vs.length 0 = q at *
  go_enter Tryd.func55, Tryd.ntmps55
  go_wp2_with fail
  refine HF.out.mono ?_
  rintro e w' ⟨rfl, y, rfl⟩
  go_wp2
  go_ret
  exact ⟨retI HR.out.symm, Below.aft (y.below HB.out HB.out.size)⟩

end Go.Proofs.YtkdonapgonegkaaDoor
