/-
  Contracts of the functions of chapter 1 (strings, first part; built for the door seat only).
-/
import Derived.Test.YtlplphigjejahaaDoorBi
import Derived.Test.YtlplphigjejahaaDoorBc
set_option linter.unusedSimpArgs false
set_option linter.unusedVariables false
namespace Go.Proofs.YtlplphigjejahaaDoor
open Go.RowKit Go.BigFrame

/-- The base is one of the three. -/
def isBase (b : Int) : Bool := b == 2 || b == 10 || b == 16
def fmE (wd v b : Int) : Int := if bErr wd v = 0 then eIf (!isBase b) 15 else bErr wd v

set_option maxRecDepth 20000 in
set_option maxHeartbeats 1600000 in
theorem FormatErr_c (wd v b : Int) (w : World) :
    Calls Tryd.prog 8 #[.agg #[.int .i64 wd, .int .i64 v], .int .i64 b] w fun e w' => e = .returned (.int .i64 (fmE wd v b)) ∧ ∃ x : Aft w, w' = x.val := by
  by_cases hE : bErr wd v = 0
  case neg =>
    have hz1 : (bErr wd v == 0) = false := by simpa using hE
    have hz2 : (bErr wd v != 0) = true := by simpa using hE
    have HR := Lib.hid (show fmE wd v b = bErr wd v from if_neg hE)
    clear hE
    go_enter Tryd.func8, Tryd.ntmps8
    go_wp2_with fail
    refine (BitsErr_c wd v _).mono ?_
    rintro e w' ⟨rfl, y, rfl⟩
    go_wp2
    go_ret
    exact ⟨retI HR.out.symm, Below.aft (by (repeat' (first | (with_reducible exact Below.refl _ _) | (with_reducible assumption) | (with_reducible exact Aft.pf _) | (with_reducible refine Below.alloc ?_ ?_ _) | (with_reducible refine Below.drew ?_) | (with_reducible refine Aft.below _ ?_ ?_) | (with_reducible refine Below.setCell_new ?_ ?_ _ _) | (with_reducible exact Nat.le_refl _) | (with_reducible refine Aft.le _ ?_) | (with_reducible refine le_alloc ?_) | (with_reducible refine le_drew ?_) | (with_reducible refine le_setCell ?_) | omega)))⟩
  have HE := Lib.hid hE
  by_cases h2 : b = 2
  · subst h2
    have HR := Lib.hid (show fmE wd v 2 = 0 by unfold fmE; rw [if_pos hE]; rfl)
    clear hE
    go_enter Tryd.func8, Tryd.ntmps8
    go_wp2_with fail
    refine (BitsErr_c wd v _).mono ?_
    rw [HE.out]
    rintro e w' ⟨rfl, y, rfl⟩
    go_wp2
    go_ret
    exact ⟨retI HR.out.symm, Below.aft (by (repeat' (first | (with_reducible exact Below.refl _ _) | (with_reducible assumption) | (with_reducible exact Aft.pf _) | (with_reducible refine Below.alloc ?_ ?_ _) | (with_reducible refine Below.drew ?_) | (with_reducible refine Aft.below _ ?_ ?_) | (with_reducible refine Below.setCell_new ?_ ?_ _ _) | (with_reducible exact Nat.le_refl _) | (with_reducible refine Aft.le _ ?_) | (with_reducible refine le_alloc ?_) | (with_reducible refine le_drew ?_) | (with_reducible refine le_setCell ?_) | omega)))⟩
  by_cases h10 : b = 10
  · subst h10
    have HR := Lib.hid (show fmE wd v 10 = 0 by unfold fmE; rw [if_pos hE]; rfl)
    clear hE
    go_enter Tryd.func8, Tryd.ntmps8
    go_wp2_with fail
    refine (BitsErr_c wd v _).mono ?_
    rw [HE.out]
    rintro e w' ⟨rfl, y, rfl⟩
    go_wp2
    go_ret
    exact ⟨retI HR.out.symm, Below.aft (by (repeat' (first | (with_reducible exact Below.refl _ _) | (with_reducible assumption) | (with_reducible exact Aft.pf _) | (with_reducible refine Below.alloc ?_ ?_ _) | (with_reducible refine Below.drew ?_) | (with_reducible refine Aft.below _ ?_ ?_) | (with_reducible refine Below.setCell_new ?_ ?_ _ _) | (with_reducible exact Nat.le_refl _) | (with_reducible refine Aft.le _ ?_) | (with_reducible refine le_alloc ?_) | (with_reducible refine le_drew ?_) | (with_reducible refine le_setCell ?_) | omega)))⟩
  by_cases h16 : b = 16
  · subst h16
    have HR := Lib.hid (show fmE wd v 16 = 0 by unfold fmE; rw [if_pos hE]; rfl)
    clear hE
    go_enter Tryd.func8, Tryd.ntmps8
    go_wp2_with fail
    refine (BitsErr_c wd v _).mono ?_
    rw [HE.out]
    rintro e w' ⟨rfl, y, rfl⟩
    go_wp2
    go_ret
    exact ⟨retI HR.out.symm, Below.aft (by (repeat' (first | (with_reducible exact Below.refl _ _) | (with_reducible assumption) | (with_reducible exact Aft.pf _) | (with_reducible refine Below.alloc ?_ ?_ _) | (with_reducible refine Below.drew ?_) | (with_reducible refine Aft.below _ ?_ ?_) | (with_reducible refine Below.setCell_new ?_ ?_ _ _) | (with_reducible exact Nat.le_refl _) | (with_reducible refine Aft.le _ ?_) | (with_reducible refine le_alloc ?_) | (with_reducible refine le_drew ?_) | (with_reducible refine le_setCell ?_) | omega)))⟩
  · have HR := Lib.hid (show fmE wd v b = 15 by unfold fmE isBase; rw [if_pos hE]; simp [h2, h10, h16, eIf])
    have n2 : (b == 2) = false := by simpa using h2
    have n10 : (b == 10) = false := by simpa using h10
    have n16 : (b == 16) = false := by simpa using h16
    have m2 : (b != 2) = true := by simpa using h2
    have m10 : (b != 10) = true := by simpa using h10
    have m16 : (b != 16) = true := by simpa using h16
    clear hE h2 h10 h16
    go_enter Tryd.func8, Tryd.ntmps8
    go_wp2_with fail
    refine (BitsErr_c wd v _).mono ?_
    rw [HE.out]
    rintro e w' ⟨rfl, y, rfl⟩
    go_wp2
    go_ret
    exact ⟨retI HR.out.symm, Below.aft (by (repeat' (first | (with_reducible exact Below.refl _ _) | (with_reducible assumption) | (with_reducible exact Aft.pf _) | (with_reducible refine Below.alloc ?_ ?_ _) | (with_reducible refine Below.drew ?_) | (with_reducible refine Aft.below _ ?_ ?_) | (with_reducible refine Below.setCell_new ?_ ?_ _ _) | (with_reducible exact Nat.le_refl _) | (with_reducible refine Aft.le _ ?_) | (with_reducible refine le_alloc ?_) | (with_reducible refine le_drew ?_) | (with_reducible refine le_setCell ?_) | omega)))⟩

set_option maxRecDepth 20000 in
set_option maxHeartbeats 1600000 in
theorem slcut_none (s : ByteArray) (hs : s.size ≤ 60) (hI : Lib.indexByte s.data.toList 39 = -1) (w : World) :
    Calls Tryd.prog 77 #[.string s, .string ⟨#[39]⟩] w fun e w' => e = .returned (.tuple #[.string s, .string ⟨#[]⟩, .bool false]) ∧ ∃ x : Aft w, w' = x.val := by
  have HI := Lib.hid hI
  clear hI
  go_enter Tryd.func77, Tryd.ntmps77
  go_wp2_with fail
  refine ((Tryd.stringslite_Index_one _ _ _).mono fun e w' h => (⟨h.1, h.2.symm⟩ : _ ∧ w = w')).mono ?_
  rw [HI.out]
  rintro e w' ⟨rfl, rfl⟩
  go_wp2
  go_ret3
  exact ⟨rfl, ⟨_, Below.refl _ _⟩, rfl⟩

set_option maxRecDepth 20000 in
set_option maxHeartbeats 1600000 in
theorem slcut_some (s : ByteArray) (hs : s.size ≤ 60) (k : Nat) (hk : k < s.size) (hI : Lib.indexByte s.data.toList 39 = k) (w : World) :
    Calls Tryd.prog 77 #[.string s, .string ⟨#[39]⟩] w fun e w' => e = .returned (.tuple #[.string (s.extract 0 k), .string (s.extract (k + 1) s.size), .bool true]) ∧ ∃ x : Aft w, w' = x.val := by
  have HI := Lib.hid hI
  clear hI
  go_enter Tryd.func77, Tryd.ntmps77
  go_wp2_with fail
  refine ((Tryd.stringslite_Index_one _ _ _).mono fun e w' h => (⟨h.1, h.2.symm⟩ : _ ∧ w = w')).mono ?_
  rw [HI.out]
  rintro e w' ⟨rfl, rfl⟩
  have hk1 : (k : Int) < s.size := by omega
  have hk2 : k + 1 ≤ s.size := by omega
  have hw1 : IntKind.i64.wrap ((k : Int) + 1) = (k : Int) + 1 := IntWalk.i64_in _ (by omega)
  have hw3 : ((k : Int) + 1).toNat = k + 1 := by omega
  have hw4 : (0 : Int) ≤ (k : Int) + 1 := by omega
  have hw5 : (k : Int) + 1 ≤ s.size := by omega
  have hw6 : (k : Int) ≤ s.size := by omega
  go_wp2_with fail
  refine wp_region_aft (by kernel_rfl) (by kernel_rfl) ?_
  repeat (go_big_quiet_step (fail))
  refine wpQuiet_nil ?_
  intro x
  go_wp2
  go_ret3
  exact ⟨rfl, x, rfl⟩

end Go.Proofs.YtlplphigjejahaaDoor
