/-
  Contracts of the functions of chapter 1 (strings, eighth part: FormatBits, walked; built for the door seat only).
-/
import Derived.Test.YtlplphigjejahaaDoorSj
set_option linter.unusedSimpArgs false
set_option linter.unusedVariables false
namespace Go.Proofs.YtlplphigjejahaaDoor
open Go.RowKit Go.BigFrame

theorem tupSE {a a' : ByteArray} {c c' : Int} (h : a = a') (g : c = c') : Ending.returned (.tuple #[.string a, .int .i64 c]) = .returned (.tuple #[.string a', .int .i64 c']) := by subst h; subst g; rfl

set_option maxRecDepth 100000 in
set_option maxHeartbeats 1600000 in
theorem Format_no0 (wd v er : Int) (hn : er ≠ 0) (hF : firstE [bErr wd v, eIf false 15] = er) (w : World) :
    Calls Tryd.prog 5 #[.agg #[.int .i64 wd, .int .i64 v], .int .i64 2] w fun e w' => e = .returned (.tuple #[.string ⟨#[]⟩, .int .i64 er]) ∧ ∃ x : Aft w, w' = x.val := by
  have HN := Lib.hid (fun S w cs ls => numerals_fmt0 S 2 w cs ls rfl)
  have HF := Lib.hid hF
  have hn1 : (er == 0) = false := by simpa using hn
  have hn2 : (er != 0) = true := by simpa using hn
  have HC := Lib.hid (fun w => CheckBits_c wd v w)
  clear hF hn
  go_enter Tryd.func5, Tryd.ntmps5
  go_wp2_with fail
  refine (HN.out (w.heap.size + 1) _ ?c1 ?c2).mono ?_
  case c1 => simp [go_sem]
  case c2 => simp
  rintro e w' ⟨rfl, x1, rfl⟩
  have z1 : w.heap.size + 1 < x1.val.heap.size := by have := x1.size; (try simp at this); omega
  have r0 : x1.val.heap[w.heap.size]? = some (.cells #[.int .i64 wd, .int .i64 v] 23) := by (repeat' (first | (with_reducible assumption) | omega | (simp only [World.size_alloc, World.size_drew, World.size_setCell]; omega) | exact heap_alloc_at (by first | rfl | (simp; done)) | (with_reducible refine heap_aft _ ?_ ?_) | (with_reducible refine heap_alloc' ?_ ?_) | (with_reducible refine heap_drew ?_)))
  have k0 := cell_block (i := 0) r0
  have k1 := cell_block (i := 1) r0
  simp at k0 k1
  have z0 : w.heap.size < x1.val.heap.size := by omega
  go_wp2_with fail
  refine (HC.out _).mono ?_
  rintro e w' ⟨rfl, x2, rfl⟩
  have z2 : w.heap.size + 1 < x2.val.heap.size := by have := x2.size; (try simp at this); omega
  go_wp2_with fail
  refine (errorIf_c _ _ _).mono ?_
  rintro e w' ⟨rfl, rfl⟩
  go_wp2_with fail
  refine (firstError2 _ _ _ _ _ _ (by exact heap_alloc_at (by simp [go_sem]))).mono ?_
  rw [HF.out]
  rintro e w' ⟨rfl, rfl⟩
  go_wp2
  go_ret2
  exact ⟨rfl, Below.aft (by (repeat' (first | (with_reducible exact Below.refl _ _) | (with_reducible assumption) | (with_reducible assumption) | (with_reducible exact Aft.pf _) | (with_reducible refine Below.alloc ?_ ?_ _) | (with_reducible refine Below.drew ?_) | (with_reducible refine Aft.below _ ?_ ?_) | (with_reducible refine Below.setCell_new ?_ ?_ _ _) | (with_reducible exact Nat.le_refl _) | (with_reducible refine Aft.le _ ?_) | (with_reducible refine le_alloc ?_) | (with_reducible refine le_drew ?_) | (with_reducible refine le_setCell ?_) | omega)))⟩

set_option maxRecDepth 100000 in
set_option maxHeartbeats 1600000 in
theorem Format_no1 (wd v er : Int) (hn : er ≠ 0) (hF : firstE [bErr wd v, eIf false 15] = er) (w : World) :
    Calls Tryd.prog 5 #[.agg #[.int .i64 wd, .int .i64 v], .int .i64 10] w fun e w' => e = .returned (.tuple #[.string ⟨#[]⟩, .int .i64 er]) ∧ ∃ x : Aft w, w' = x.val := by
  have HN := Lib.hid (fun S w cs ls => numerals_fmt1 S 10 w cs ls rfl rfl)
  have HF := Lib.hid hF
  have hn1 : (er == 0) = false := by simpa using hn
  have hn2 : (er != 0) = true := by simpa using hn
  have HC := Lib.hid (fun w => CheckBits_c wd v w)
  clear hF hn
  go_enter Tryd.func5, Tryd.ntmps5
  go_wp2_with fail
  refine (HN.out (w.heap.size + 1) _ ?c1 ?c2).mono ?_
  case c1 => simp [go_sem]
  case c2 => simp
  rintro e w' ⟨rfl, x1, rfl⟩
  have z1 : w.heap.size + 1 < x1.val.heap.size := by have := x1.size; (try simp at this); omega
  have r0 : x1.val.heap[w.heap.size]? = some (.cells #[.int .i64 wd, .int .i64 v] 23) := by (repeat' (first | (with_reducible assumption) | omega | (simp only [World.size_alloc, World.size_drew, World.size_setCell]; omega) | exact heap_alloc_at (by first | rfl | (simp; done)) | (with_reducible refine heap_aft _ ?_ ?_) | (with_reducible refine heap_alloc' ?_ ?_) | (with_reducible refine heap_drew ?_)))
  have k0 := cell_block (i := 0) r0
  have k1 := cell_block (i := 1) r0
  simp at k0 k1
  have z0 : w.heap.size < x1.val.heap.size := by omega
  go_wp2_with fail
  refine (HC.out _).mono ?_
  rintro e w' ⟨rfl, x2, rfl⟩
  have z2 : w.heap.size + 1 < x2.val.heap.size := by have := x2.size; (try simp at this); omega
  go_wp2_with fail
  refine (errorIf_c _ _ _).mono ?_
  rintro e w' ⟨rfl, rfl⟩
  go_wp2_with fail
  refine (firstError2 _ _ _ _ _ _ (by exact heap_alloc_at (by simp [go_sem]))).mono ?_
  rw [HF.out]
  rintro e w' ⟨rfl, rfl⟩
  go_wp2
  go_ret2
  exact ⟨rfl, Below.aft (by (repeat' (first | (with_reducible exact Below.refl _ _) | (with_reducible assumption) | (with_reducible assumption) | (with_reducible exact Aft.pf _) | (with_reducible refine Below.alloc ?_ ?_ _) | (with_reducible refine Below.drew ?_) | (with_reducible refine Aft.below _ ?_ ?_) | (with_reducible refine Below.setCell_new ?_ ?_ _ _) | (with_reducible exact Nat.le_refl _) | (with_reducible refine Aft.le _ ?_) | (with_reducible refine le_alloc ?_) | (with_reducible refine le_drew ?_) | (with_reducible refine le_setCell ?_) | omega)))⟩

set_option maxRecDepth 100000 in
set_option maxHeartbeats 1600000 in
theorem Format_no2 (wd v er : Int) (hn : er ≠ 0) (hF : firstE [bErr wd v, eIf false 15] = er) (w : World) :
    Calls Tryd.prog 5 #[.agg #[.int .i64 wd, .int .i64 v], .int .i64 16] w fun e w' => e = .returned (.tuple #[.string ⟨#[]⟩, .int .i64 er]) ∧ ∃ x : Aft w, w' = x.val := by
  have HN := Lib.hid (fun S w cs ls => numerals_fmt2 S 16 w cs ls rfl rfl rfl)
  have HF := Lib.hid hF
  have hn1 : (er == 0) = false := by simpa using hn
  have hn2 : (er != 0) = true := by simpa using hn
  have HC := Lib.hid (fun w => CheckBits_c wd v w)
  clear hF hn
  go_enter Tryd.func5, Tryd.ntmps5
  go_wp2_with fail
  refine (HN.out (w.heap.size + 1) _ ?c1 ?c2).mono ?_
  case c1 => simp [go_sem]
  case c2 => simp
  rintro e w' ⟨rfl, x1, rfl⟩
  have z1 : w.heap.size + 1 < x1.val.heap.size := by have := x1.size; (try simp at this); omega
  have r0 : x1.val.heap[w.heap.size]? = some (.cells #[.int .i64 wd, .int .i64 v] 23) := by (repeat' (first | (with_reducible assumption) | omega | (simp only [World.size_alloc, World.size_drew, World.size_setCell]; omega) | exact heap_alloc_at (by first | rfl | (simp; done)) | (with_reducible refine heap_aft _ ?_ ?_) | (with_reducible refine heap_alloc' ?_ ?_) | (with_reducible refine heap_drew ?_)))
  have k0 := cell_block (i := 0) r0
  have k1 := cell_block (i := 1) r0
  simp at k0 k1
  have z0 : w.heap.size < x1.val.heap.size := by omega
  go_wp2_with fail
  refine (HC.out _).mono ?_
  rintro e w' ⟨rfl, x2, rfl⟩
  have z2 : w.heap.size + 1 < x2.val.heap.size := by have := x2.size; (try simp at this); omega
  go_wp2_with fail
  refine (errorIf_c _ _ _).mono ?_
  rintro e w' ⟨rfl, rfl⟩
  go_wp2_with fail
  refine (firstError2 _ _ _ _ _ _ (by exact heap_alloc_at (by simp [go_sem]))).mono ?_
  rw [HF.out]
  rintro e w' ⟨rfl, rfl⟩
  go_wp2
  go_ret2
  exact ⟨rfl, Below.aft (by (repeat' (first | (with_reducible exact Below.refl _ _) | (with_reducible assumption) | (with_reducible assumption) | (with_reducible exact Aft.pf _) | (with_reducible refine Below.alloc ?_ ?_ _) | (with_reducible refine Below.drew ?_) | (with_reducible refine Aft.below _ ?_ ?_) | (with_reducible refine Below.setCell_new ?_ ?_ _ _) | (with_reducible exact Nat.le_refl _) | (with_reducible refine Aft.le _ ?_) | (with_reducible refine le_alloc ?_) | (with_reducible refine le_drew ?_) | (with_reducible refine le_setCell ?_) | omega)))⟩

set_option maxRecDepth 100000 in
set_option maxHeartbeats 1600000 in
theorem Format_no3 (wd v er : Int) (b : Int) (p0 : ((2 : Int) == b) = false) (p1 : ((10 : Int) == b) = false) (p2 : ((16 : Int) == b) = false) (hn : er ≠ 0) (hF : firstE [bErr wd v, eIf true 15] = er) (w : World) :
    Calls Tryd.prog 5 #[.agg #[.int .i64 wd, .int .i64 v], .int .i64 b] w fun e w' => e = .returned (.tuple #[.string ⟨#[]⟩, .int .i64 er]) ∧ ∃ x : Aft w, w' = x.val := by
  have HN := Lib.hid (fun S w cs ls => numerals_fmt3 S b w cs ls p0 p1 p2)
  clear p0 p1 p2
  have HF := Lib.hid hF
  have hn1 : (er == 0) = false := by simpa using hn
  have hn2 : (er != 0) = true := by simpa using hn
  have HC := Lib.hid (fun w => CheckBits_c wd v w)
  clear hF hn
  go_enter Tryd.func5, Tryd.ntmps5
  go_wp2_with fail
  refine (HN.out (w.heap.size + 1) _ ?c1 ?c2).mono ?_
  case c1 => simp [go_sem]
  case c2 => simp
  rintro e w' ⟨rfl, x1, rfl⟩
  have z1 : w.heap.size + 1 < x1.val.heap.size := by have := x1.size; (try simp at this); omega
  have r0 : x1.val.heap[w.heap.size]? = some (.cells #[.int .i64 wd, .int .i64 v] 23) := by (repeat' (first | (with_reducible assumption) | omega | (simp only [World.size_alloc, World.size_drew, World.size_setCell]; omega) | exact heap_alloc_at (by first | rfl | (simp; done)) | (with_reducible refine heap_aft _ ?_ ?_) | (with_reducible refine heap_alloc' ?_ ?_) | (with_reducible refine heap_drew ?_)))
  have k0 := cell_block (i := 0) r0
  have k1 := cell_block (i := 1) r0
  simp at k0 k1
  have z0 : w.heap.size < x1.val.heap.size := by omega
  go_wp2_with fail
  refine (HC.out _).mono ?_
  rintro e w' ⟨rfl, x2, rfl⟩
  have z2 : w.heap.size + 1 < x2.val.heap.size := by have := x2.size; (try simp at this); omega
  go_wp2_with fail
  refine (errorIf_c _ _ _).mono ?_
  rintro e w' ⟨rfl, rfl⟩
  go_wp2_with fail
  refine (firstError2 _ _ _ _ _ _ (by exact heap_alloc_at (by simp [go_sem]))).mono ?_
  rw [HF.out]
  rintro e w' ⟨rfl, rfl⟩
  go_wp2
  go_ret2
  exact ⟨rfl, Below.aft (by (repeat' (first | (with_reducible exact Below.refl _ _) | (with_reducible assumption) | (with_reducible assumption) | (with_reducible exact Aft.pf _) | (with_reducible refine Below.alloc ?_ ?_ _) | (with_reducible refine Below.drew ?_) | (with_reducible refine Aft.below _ ?_ ?_) | (with_reducible refine Below.setCell_new ?_ ?_ _ _) | (with_reducible exact Nat.le_refl _) | (with_reducible refine Aft.le _ ?_) | (with_reducible refine le_alloc ?_) | (with_reducible refine le_drew ?_) | (with_reducible refine le_setCell ?_) | omega)))⟩

theorem cat5 (a d e : List UInt8) (c : UInt8) : ((((⟨a.toArray⟩ : ByteArray) ++ ⟨#[39]⟩) ++ ⟨#[c]⟩) ++ ⟨d.toArray⟩) ++ ⟨e.toArray⟩ = ⟨(a ++ 39 :: c :: (d ++ e)).toArray⟩ := by
  apply ByteArray.ext; simp
theorem minD_pos {b n : Nat} (hb : 2 ≤ b) : 1 ≤ (minD b n).length := by
  by_cases h : n < b
  · rw [minD_small h]; simp
  · rw [minD_big (by omega) hb]; simp

set_option maxRecDepth 100000 in
set_option maxHeartbeats 1600000 in
theorem Format_ok0 (wn vn : Nat) (hE : bErr wn vn = 0) (w : World) (ht : Tabs w) :
    Calls Tryd.prog 5 #[.agg #[.int .i64 wn, .int .i64 vn], .int .i64 2] w fun e w' => e = .returned (.tuple #[.string ⟨(fmtL wn vn 2).toArray⟩, .int .i64 0]) ∧ ∃ x : Aft w, w' = x.val := by
  obtain ⟨e1, e2, _, e4⟩ := bErr_zero hE
  have h1 : 1 ≤ wn := by omega
  have h2 : wn ≤ 16 := by omega
  obtain ⟨h1v, h2v, h3v⟩ := val_bd h1 h2 e4
  have hl := (wid_parse h1 h2).2.2.2
  have hD1 := minD_pos (b := 2) (n := vn) (by decide)
  have hD2 := minD_len (b := 2) (by decide) (wn - 1) vn (by rw [show wn - 1 + 1 = wn by omega]; exact h1v)
  obtain ⟨n, hn⟩ : ∃ n, (minD 2 vn).length + n = wn := ⟨wn - (minD 2 vn).length, by omega⟩
  have hzf := zeros_fix (b := 2) (k := wn) (n := vn) (by decide) (by omega) h1v
  rw [show wn - (minD 2 vn).length = n by omega] at hzf
  have HR := Lib.hid (show minD 10 wn ++ 39 :: 98 :: (List.replicate n 48 ++ minD 2 vn) = fmtL wn vn 2 by rw [hzf]; simp [fmtL, bodyL, letB, plcN])
  clear hzf
  have HN := Lib.hid (fun S w cs ls => numerals_fmt0 S 2 w cs ls rfl)
  have HF := Lib.hid (show firstE [bErr wn vn, eIf false 15] = 0 by rw [hE]; rfl)
  have HC := Lib.hid (fun w => CheckBits_c wn vn w)
  have HT := Lib.hid ht
  have HI := Lib.hid (fun w ht => fint_2 vn h3v w ht)
  have HW := Lib.hid (fun w => itoa_c wn h2 w)
  have HP := Lib.hid (fun w => place_0 wn (by omega) (by omega) w)
  clear hE ht e1 e2 e4 h1v h2v
  generalize minD 2 vn = D at *
  generalize minD 10 wn = E at *
  generalize hwd : (wn : Int) = wd at *
  generalize hv : (vn : Int) = v at *
  go_enter Tryd.func5, Tryd.ntmps5
  go_wp2_with fail
  refine (HN.out (w.heap.size + 1) _ ?c1 ?c2).mono ?_
  case c1 => simp [go_sem]
  case c2 => simp
  rintro e w' ⟨rfl, x1, rfl⟩
  have z1 : w.heap.size + 1 < x1.val.heap.size := by have := x1.size; (try simp at this); omega
  have r0 : x1.val.heap[w.heap.size]? = some (.cells #[.int .i64 wd, .int .i64 v] 23) := by (repeat' (first | (with_reducible assumption) | omega | (simp only [World.size_alloc, World.size_drew, World.size_setCell]; omega) | exact heap_alloc_at (by first | rfl | (simp; done)) | (with_reducible refine heap_aft _ ?_ ?_) | (with_reducible refine heap_alloc' ?_ ?_) | (with_reducible refine heap_drew ?_)))
  have k0 := cell_block (i := 0) r0
  have k1 := cell_block (i := 1) r0
  simp at k0 k1
  have z0 : w.heap.size < x1.val.heap.size := by omega
  go_wp2_with fail
  refine (HC.out _).mono ?_
  rintro e w' ⟨rfl, x2, rfl⟩
  have z2 : w.heap.size + 1 < x2.val.heap.size := by have := x2.size; (try simp at this); omega
  go_wp2_with fail
  refine (errorIf_c _ _ _).mono ?_
  rintro e w' ⟨rfl, rfl⟩
  go_wp2_with fail
  refine (firstError2 _ _ _ _ _ _ (by exact heap_alloc_at (by simp [go_sem]))).mono ?_
  rw [HF.out]
  rintro e w' ⟨rfl, rfl⟩
  have rr0 : x2.val.heap[w.heap.size]? = some (.cells #[.int .i64 wd, .int .i64 v] 23) := by (repeat' (first | (with_reducible assumption) | omega | (simp only [World.size_alloc, World.size_drew, World.size_setCell]; omega) | exact heap_alloc_at (by first | rfl | (simp; done)) | (with_reducible refine heap_aft _ ?_ ?_) | (with_reducible refine heap_alloc' ?_ ?_) | (with_reducible refine heap_drew ?_)))
  have rr1 : x2.val.heap[w.heap.size + 1]? = some (.cells #[.int .i64 2] 3) := by (repeat' (first | (with_reducible assumption) | omega | (simp only [World.size_alloc, World.size_drew, World.size_setCell]; omega) | exact heap_alloc_at (by first | rfl | (simp; done)) | (with_reducible refine heap_aft _ ?_ ?_) | (with_reducible refine heap_alloc' ?_ ?_) | (with_reducible refine heap_drew ?_)))
  have rr2 : x2.val.heap[x1.val.heap.size]? = some (.cells #[.int .i64 2, .string ⟨#[98]⟩, .func (.func 65) #[] #[]] 46) := by (repeat' (first | (with_reducible assumption) | omega | (simp only [World.size_alloc, World.size_drew, World.size_setCell]; omega) | exact heap_alloc_at (by first | rfl | (simp; done)) | (with_reducible refine heap_aft _ ?_ ?_) | (with_reducible refine heap_alloc' ?_ ?_) | (with_reducible refine heap_drew ?_)))
  have q00 := cell_block (i := 0) rr0
  have q01 := cell_block (i := 1) rr0
  have q10 := cell_block (i := 0) rr1
  have q21 := cell_block (i := 1) rr2
  have q22 := cell_block (i := 2) rr2
  simp at q00 q01 q10 q21 q22
  have s0 : w.heap.size < x2.val.heap.size := by omega
  have s2 : x1.val.heap.size < x2.val.heap.size := by have := x2.size; (try simp at this); omega
  have hb0' : Below w.heap.size w x2.val := by (repeat' (first | (with_reducible exact Below.refl _ _) | (with_reducible assumption) | (with_reducible assumption) | (with_reducible exact Aft.pf _) | (with_reducible refine Below.alloc ?_ ?_ _) | (with_reducible refine Below.drew ?_) | (with_reducible refine Aft.below _ ?_ ?_) | (with_reducible refine Below.setCell_new ?_ ?_ _ _) | (with_reducible exact Nat.le_refl _) | (with_reducible refine Aft.le _ ?_) | (with_reducible refine le_alloc ?_) | (with_reducible refine le_drew ?_) | (with_reducible refine le_setCell ?_) | omega))
  clear rr0 rr1 rr2 r0 k0 k1 HF HC HN z0 z1
  generalize x1.val.heap.size = G1 at *
  generalize x2.val = W2 at *
  subst hwd hv
  go_wp2_with fail
  refine (HI.out _ (HT.out.below (by (repeat' (first | (with_reducible exact Below.refl _ _) | (with_reducible assumption) | (with_reducible assumption) | (with_reducible exact Aft.pf _) | (with_reducible refine Below.alloc ?_ ?_ _) | (with_reducible refine Below.drew ?_) | (with_reducible refine Aft.below _ ?_ ?_) | (with_reducible refine Below.setCell_new ?_ ?_ _ _) | (with_reducible exact Nat.le_refl _) | (with_reducible refine Aft.le _ ?_) | (with_reducible refine le_alloc ?_) | (with_reducible refine le_drew ?_) | (with_reducible refine le_setCell ?_) | omega))))).mono ?_
  rintro e w' ⟨rfl, x3, rfl⟩
  have t0 : w.heap.size < x3.val.heap.size := by have := x3.size; (try simp at this); omega
  have t2 : G1 < x3.val.heap.size := by have := x3.size; (try simp at this); omega
  have c00 : x3.val.cell? ⟨w.heap.size, 0, none⟩ = some (.int .i64 wn) := cell_aft x3 (lt_alloc s0) (cell_alloc s0 q00)
  have c21 : x3.val.cell? ⟨G1, 1, none⟩ = some (.string ⟨#[98]⟩) := cell_aft x3 (lt_alloc s2) (cell_alloc s2 q21)
  have c22 : x3.val.cell? ⟨G1, 2, none⟩ = some (.func (.func 65) #[] #[]) := cell_aft x3 (lt_alloc s2) (cell_alloc s2 q22)
  have hb3 : Below w.heap.size w x3.val := by (repeat' (first | (with_reducible exact Below.refl _ _) | (with_reducible assumption) | (with_reducible assumption) | (with_reducible exact Aft.pf _) | (with_reducible refine Below.alloc ?_ ?_ _) | (with_reducible refine Below.drew ?_) | (with_reducible refine Aft.below _ ?_ ?_) | (with_reducible refine Below.setCell_new ?_ ?_ _ _) | (with_reducible exact Nat.le_refl _) | (with_reducible refine Aft.le _ ?_) | (with_reducible refine le_alloc ?_) | (with_reducible refine le_drew ?_) | (with_reducible refine le_setCell ?_) | omega))
  clear q00 q01 q10 q21 q22 s0 s2 z2 hb0' HT HI
  generalize x3.val = W3 at *
  go_wp2_with fail
  refine (HP.out _).mono ?_
  rintro e w' ⟨rfl, rfl⟩
  go_wp2_with fail
  rw [show max 0 ((wn : Int) - (D.length : Int)) = ((n : Nat) : Int) by omega]
  refine (zeros_c n (by omega) _).mono ?_
  rintro e w' ⟨rfl, x4, rfl⟩
  have d00 : x4.val.cell? ⟨w.heap.size, 0, none⟩ = some (.int .i64 wn) := cell_aft x4 t0 c00
  have d21 : x4.val.cell? ⟨G1, 1, none⟩ = some (.string ⟨#[98]⟩) := cell_aft x4 t2 c21
  have hb4 : Below w.heap.size w x4.val := by (repeat' (first | (with_reducible exact Below.refl _ _) | (with_reducible assumption) | (with_reducible assumption) | (with_reducible exact Aft.pf _) | (with_reducible refine Below.alloc ?_ ?_ _) | (with_reducible refine Below.drew ?_) | (with_reducible refine Aft.below _ ?_ ?_) | (with_reducible refine Below.setCell_new ?_ ?_ _ _) | (with_reducible exact Nat.le_refl _) | (with_reducible refine Aft.le _ ?_) | (with_reducible refine le_alloc ?_) | (with_reducible refine le_drew ?_) | (with_reducible refine le_setCell ?_) | omega))
  have u0 : w.heap.size < x4.val.heap.size := x4.lt' t0
  have u2 : G1 < x4.val.heap.size := x4.lt' t2
  have HRl := Lib.hid (show (List.replicate n (48 : UInt8)).length ≤ 16 by rw [List.length_replicate]; omega)
  clear c00 c21 c22 hb3 t0 t2 HP
  generalize x4.val = W4 at *
  generalize List.replicate n (48 : UInt8) = Z at *
  have hZ := HRl.out
  clear HRl
  have hDs : D.length ≤ 17 := by omega
  clear hD1 hD2 hn
  go_wp2_with fail
  refine wp_region_aft (by kernel_rfl) (by kernel_rfl) ?_
  repeat (go_big_quiet_step (first | (go_at_call 22; exact Calls.qs (HW.out _))))
  refine wpQuiet_nil ?_
  intro x
  go_wp2
  go_ret2
  exact ⟨tupSE ((cat5 E Z D 98).trans (by rw [HR.out])) rfl, Below.aft (by (repeat' (first | (with_reducible exact Below.refl _ _) | (with_reducible assumption) | (with_reducible assumption) | (with_reducible exact Aft.pf _) | (with_reducible refine Below.alloc ?_ ?_ _) | (with_reducible refine Below.drew ?_) | (with_reducible refine Aft.below _ ?_ ?_) | (with_reducible refine Below.setCell_new ?_ ?_ _ _) | (with_reducible exact Nat.le_refl _) | (with_reducible refine Aft.le _ ?_) | (with_reducible refine le_alloc ?_) | (with_reducible refine le_drew ?_) | (with_reducible refine le_setCell ?_) | omega)))⟩

set_option maxRecDepth 100000 in
set_option maxHeartbeats 1600000 in
theorem Format_ok1 (wn vn : Nat) (hE : bErr wn vn = 0) (w : World) (ht : Tabs w) :
    Calls Tryd.prog 5 #[.agg #[.int .i64 wn, .int .i64 vn], .int .i64 10] w fun e w' => e = .returned (.tuple #[.string ⟨(fmtL wn vn 10).toArray⟩, .int .i64 0]) ∧ ∃ x : Aft w, w' = x.val := by
  obtain ⟨e1, e2, _, e4⟩ := bErr_zero hE
  have h1 : 1 ≤ wn := by omega
  have h2 : wn ≤ 16 := by omega
  obtain ⟨h1v, h2v, h3v⟩ := val_bd h1 h2 e4
  have hl := (wid_parse h1 h2).2.2.2
  have hD1 := minD_pos (b := 10) (n := vn) (by decide)
  have hD2 := minD_len (b := 10) (by decide) 4 vn (by omega)
  have HR := Lib.hid (show minD 10 wn ++ 39 :: 100 :: (List.replicate 0 48 ++ minD 10 vn) = fmtL wn vn 10 by simp [fmtL, bodyL, letB])
  have HN := Lib.hid (fun S w cs ls => numerals_fmt1 S 10 w cs ls rfl rfl)
  have HF := Lib.hid (show firstE [bErr wn vn, eIf false 15] = 0 by rw [hE]; rfl)
  have HC := Lib.hid (fun w => CheckBits_c wn vn w)
  have HT := Lib.hid ht
  have HI := Lib.hid (fun w ht => fint_10 vn h3v w ht)
  have HW := Lib.hid (fun w => itoa_c wn h2 w)
  have HP := Lib.hid (fun w => place_1 wn (by omega) (by omega) w)
  clear hE ht e1 e2 e4 h1v h2v
  generalize minD 10 vn = D at *
  generalize minD 10 wn = E at *
  generalize hwd : (wn : Int) = wd at *
  generalize hv : (vn : Int) = v at *
  go_enter Tryd.func5, Tryd.ntmps5
  go_wp2_with fail
  refine (HN.out (w.heap.size + 1) _ ?c1 ?c2).mono ?_
  case c1 => simp [go_sem]
  case c2 => simp
  rintro e w' ⟨rfl, x1, rfl⟩
  have z1 : w.heap.size + 1 < x1.val.heap.size := by have := x1.size; (try simp at this); omega
  have r0 : x1.val.heap[w.heap.size]? = some (.cells #[.int .i64 wd, .int .i64 v] 23) := by (repeat' (first | (with_reducible assumption) | omega | (simp only [World.size_alloc, World.size_drew, World.size_setCell]; omega) | exact heap_alloc_at (by first | rfl | (simp; done)) | (with_reducible refine heap_aft _ ?_ ?_) | (with_reducible refine heap_alloc' ?_ ?_) | (with_reducible refine heap_drew ?_)))
  have k0 := cell_block (i := 0) r0
  have k1 := cell_block (i := 1) r0
  simp at k0 k1
  have z0 : w.heap.size < x1.val.heap.size := by omega
  go_wp2_with fail
  refine (HC.out _).mono ?_
  rintro e w' ⟨rfl, x2, rfl⟩
  have z2 : w.heap.size + 1 < x2.val.heap.size := by have := x2.size; (try simp at this); omega
  go_wp2_with fail
  refine (errorIf_c _ _ _).mono ?_
  rintro e w' ⟨rfl, rfl⟩
  go_wp2_with fail
  refine (firstError2 _ _ _ _ _ _ (by exact heap_alloc_at (by simp [go_sem]))).mono ?_
  rw [HF.out]
  rintro e w' ⟨rfl, rfl⟩
  have rr0 : x2.val.heap[w.heap.size]? = some (.cells #[.int .i64 wd, .int .i64 v] 23) := by (repeat' (first | (with_reducible assumption) | omega | (simp only [World.size_alloc, World.size_drew, World.size_setCell]; omega) | exact heap_alloc_at (by first | rfl | (simp; done)) | (with_reducible refine heap_aft _ ?_ ?_) | (with_reducible refine heap_alloc' ?_ ?_) | (with_reducible refine heap_drew ?_)))
  have rr1 : x2.val.heap[w.heap.size + 1]? = some (.cells #[.int .i64 10] 3) := by (repeat' (first | (with_reducible assumption) | omega | (simp only [World.size_alloc, World.size_drew, World.size_setCell]; omega) | exact heap_alloc_at (by first | rfl | (simp; done)) | (with_reducible refine heap_aft _ ?_ ?_) | (with_reducible refine heap_alloc' ?_ ?_) | (with_reducible refine heap_drew ?_)))
  have rr2 : x2.val.heap[x1.val.heap.size]? = some (.cells #[.int .i64 10, .string ⟨#[100]⟩, .func (.func 66) #[] #[]] 46) := by (repeat' (first | (with_reducible assumption) | omega | (simp only [World.size_alloc, World.size_drew, World.size_setCell]; omega) | exact heap_alloc_at (by first | rfl | (simp; done)) | (with_reducible refine heap_aft _ ?_ ?_) | (with_reducible refine heap_alloc' ?_ ?_) | (with_reducible refine heap_drew ?_)))
  have q00 := cell_block (i := 0) rr0
  have q01 := cell_block (i := 1) rr0
  have q10 := cell_block (i := 0) rr1
  have q21 := cell_block (i := 1) rr2
  have q22 := cell_block (i := 2) rr2
  simp at q00 q01 q10 q21 q22
  have s0 : w.heap.size < x2.val.heap.size := by omega
  have s2 : x1.val.heap.size < x2.val.heap.size := by have := x2.size; (try simp at this); omega
  have hb0' : Below w.heap.size w x2.val := by (repeat' (first | (with_reducible exact Below.refl _ _) | (with_reducible assumption) | (with_reducible assumption) | (with_reducible exact Aft.pf _) | (with_reducible refine Below.alloc ?_ ?_ _) | (with_reducible refine Below.drew ?_) | (with_reducible refine Aft.below _ ?_ ?_) | (with_reducible refine Below.setCell_new ?_ ?_ _ _) | (with_reducible exact Nat.le_refl _) | (with_reducible refine Aft.le _ ?_) | (with_reducible refine le_alloc ?_) | (with_reducible refine le_drew ?_) | (with_reducible refine le_setCell ?_) | omega))
  clear rr0 rr1 rr2 r0 k0 k1 HF HC HN z0 z1
  generalize x1.val.heap.size = G1 at *
  generalize x2.val = W2 at *
  subst hwd hv
  go_wp2_with fail
  refine (HI.out _ (HT.out.below (by (repeat' (first | (with_reducible exact Below.refl _ _) | (with_reducible assumption) | (with_reducible assumption) | (with_reducible exact Aft.pf _) | (with_reducible refine Below.alloc ?_ ?_ _) | (with_reducible refine Below.drew ?_) | (with_reducible refine Aft.below _ ?_ ?_) | (with_reducible refine Below.setCell_new ?_ ?_ _ _) | (with_reducible exact Nat.le_refl _) | (with_reducible refine Aft.le _ ?_) | (with_reducible refine le_alloc ?_) | (with_reducible refine le_drew ?_) | (with_reducible refine le_setCell ?_) | omega))))).mono ?_
  rintro e w' ⟨rfl, x3, rfl⟩
  have t0 : w.heap.size < x3.val.heap.size := by have := x3.size; (try simp at this); omega
  have t2 : G1 < x3.val.heap.size := by have := x3.size; (try simp at this); omega
  have c00 : x3.val.cell? ⟨w.heap.size, 0, none⟩ = some (.int .i64 wn) := cell_aft x3 (lt_alloc s0) (cell_alloc s0 q00)
  have c21 : x3.val.cell? ⟨G1, 1, none⟩ = some (.string ⟨#[100]⟩) := cell_aft x3 (lt_alloc s2) (cell_alloc s2 q21)
  have c22 : x3.val.cell? ⟨G1, 2, none⟩ = some (.func (.func 66) #[] #[]) := cell_aft x3 (lt_alloc s2) (cell_alloc s2 q22)
  have hb3 : Below w.heap.size w x3.val := by (repeat' (first | (with_reducible exact Below.refl _ _) | (with_reducible assumption) | (with_reducible assumption) | (with_reducible exact Aft.pf _) | (with_reducible refine Below.alloc ?_ ?_ _) | (with_reducible refine Below.drew ?_) | (with_reducible refine Aft.below _ ?_ ?_) | (with_reducible refine Below.setCell_new ?_ ?_ _ _) | (with_reducible exact Nat.le_refl _) | (with_reducible refine Aft.le _ ?_) | (with_reducible refine le_alloc ?_) | (with_reducible refine le_drew ?_) | (with_reducible refine le_setCell ?_) | omega))
  clear q00 q01 q10 q21 q22 s0 s2 z2 hb0' HT HI
  generalize x3.val = W3 at *
  go_wp2_with fail
  refine (HP.out _).mono ?_
  rintro e w' ⟨rfl, rfl⟩
  go_wp2_with fail
  rw [show max 0 (1 - (D.length : Int)) = ((0 : Nat) : Int) by omega]
  refine (zeros_c 0 (by omega) _).mono ?_
  rintro e w' ⟨rfl, x4, rfl⟩
  have d00 : x4.val.cell? ⟨w.heap.size, 0, none⟩ = some (.int .i64 wn) := cell_aft x4 t0 c00
  have d21 : x4.val.cell? ⟨G1, 1, none⟩ = some (.string ⟨#[100]⟩) := cell_aft x4 t2 c21
  have hb4 : Below w.heap.size w x4.val := by (repeat' (first | (with_reducible exact Below.refl _ _) | (with_reducible assumption) | (with_reducible assumption) | (with_reducible exact Aft.pf _) | (with_reducible refine Below.alloc ?_ ?_ _) | (with_reducible refine Below.drew ?_) | (with_reducible refine Aft.below _ ?_ ?_) | (with_reducible refine Below.setCell_new ?_ ?_ _ _) | (with_reducible exact Nat.le_refl _) | (with_reducible refine Aft.le _ ?_) | (with_reducible refine le_alloc ?_) | (with_reducible refine le_drew ?_) | (with_reducible refine le_setCell ?_) | omega))
  have u0 : w.heap.size < x4.val.heap.size := x4.lt' t0
  have u2 : G1 < x4.val.heap.size := x4.lt' t2
  have HRl := Lib.hid (show (List.replicate 0 (48 : UInt8)).length ≤ 16 by rw [List.length_replicate]; omega)
  clear c00 c21 c22 hb3 t0 t2 HP
  generalize x4.val = W4 at *
  generalize List.replicate 0 (48 : UInt8) = Z at *
  have hZ := HRl.out
  clear HRl
  have hDs : D.length ≤ 17 := by omega
  clear hD1 hD2
  go_wp2_with fail
  refine wp_region_aft (by kernel_rfl) (by kernel_rfl) ?_
  repeat (go_big_quiet_step (first | (go_at_call 22; exact Calls.qs (HW.out _))))
  refine wpQuiet_nil ?_
  intro x
  go_wp2
  go_ret2
  exact ⟨tupSE ((cat5 E Z D 100).trans (by rw [HR.out])) rfl, Below.aft (by (repeat' (first | (with_reducible exact Below.refl _ _) | (with_reducible assumption) | (with_reducible assumption) | (with_reducible exact Aft.pf _) | (with_reducible refine Below.alloc ?_ ?_ _) | (with_reducible refine Below.drew ?_) | (with_reducible refine Aft.below _ ?_ ?_) | (with_reducible refine Below.setCell_new ?_ ?_ _ _) | (with_reducible exact Nat.le_refl _) | (with_reducible refine Aft.le _ ?_) | (with_reducible refine le_alloc ?_) | (with_reducible refine le_drew ?_) | (with_reducible refine le_setCell ?_) | omega)))⟩

set_option maxRecDepth 100000 in
set_option maxHeartbeats 1600000 in
theorem Format_ok2 (wn vn : Nat) (hE : bErr wn vn = 0) (w : World) (ht : Tabs w) :
    Calls Tryd.prog 5 #[.agg #[.int .i64 wn, .int .i64 vn], .int .i64 16] w fun e w' => e = .returned (.tuple #[.string ⟨(fmtL wn vn 16).toArray⟩, .int .i64 0]) ∧ ∃ x : Aft w, w' = x.val := by
  obtain ⟨e1, e2, _, e4⟩ := bErr_zero hE
  have h1 : 1 ≤ wn := by omega
  have h2 : wn ≤ 16 := by omega
  obtain ⟨h1v, h2v, h3v⟩ := val_bd h1 h2 e4
  have hl := (wid_parse h1 h2).2.2.2
  have hD1 := minD_pos (b := 16) (n := vn) (by decide)
  have hD2 := minD_len (b := 16) (by decide) ((wn + 3) / 4 - 1) vn (by rw [show (wn + 3) / 4 - 1 + 1 = (wn + 3) / 4 by omega]; exact h2v)
  obtain ⟨n, hn⟩ : ∃ n, (minD 16 vn).length + n = (wn + 3) / 4 := ⟨(wn + 3) / 4 - (minD 16 vn).length, by omega⟩
  have hzf := zeros_fix (b := 16) (k := (wn + 3) / 4) (n := vn) (by decide) (by omega) h2v
  rw [show (wn + 3) / 4 - (minD 16 vn).length = n by omega] at hzf
  have HR := Lib.hid (show minD 10 wn ++ 39 :: 104 :: (List.replicate n 48 ++ minD 16 vn) = fmtL wn vn 16 by rw [hzf]; simp [fmtL, bodyL, letB, plcN])
  clear hzf
  have HN := Lib.hid (fun S w cs ls => numerals_fmt2 S 16 w cs ls rfl rfl rfl)
  have HF := Lib.hid (show firstE [bErr wn vn, eIf false 15] = 0 by rw [hE]; rfl)
  have HC := Lib.hid (fun w => CheckBits_c wn vn w)
  have HT := Lib.hid ht
  have HI := Lib.hid (fun w ht => fint_16 vn h3v w ht)
  have HW := Lib.hid (fun w => itoa_c wn h2 w)
  have HP := Lib.hid (fun w => place_2 wn (by omega) (by omega) w)
  clear hE ht e1 e2 e4 h1v h2v
  generalize minD 16 vn = D at *
  generalize minD 10 wn = E at *
  generalize hwd : (wn : Int) = wd at *
  generalize hv : (vn : Int) = v at *
  go_enter Tryd.func5, Tryd.ntmps5
  go_wp2_with fail
  refine (HN.out (w.heap.size + 1) _ ?c1 ?c2).mono ?_
  case c1 => simp [go_sem]
  case c2 => simp
  rintro e w' ⟨rfl, x1, rfl⟩
  have z1 : w.heap.size + 1 < x1.val.heap.size := by have := x1.size; (try simp at this); omega
  have r0 : x1.val.heap[w.heap.size]? = some (.cells #[.int .i64 wd, .int .i64 v] 23) := by (repeat' (first | (with_reducible assumption) | omega | (simp only [World.size_alloc, World.size_drew, World.size_setCell]; omega) | exact heap_alloc_at (by first | rfl | (simp; done)) | (with_reducible refine heap_aft _ ?_ ?_) | (with_reducible refine heap_alloc' ?_ ?_) | (with_reducible refine heap_drew ?_)))
  have k0 := cell_block (i := 0) r0
  have k1 := cell_block (i := 1) r0
  simp at k0 k1
  have z0 : w.heap.size < x1.val.heap.size := by omega
  go_wp2_with fail
  refine (HC.out _).mono ?_
  rintro e w' ⟨rfl, x2, rfl⟩
  have z2 : w.heap.size + 1 < x2.val.heap.size := by have := x2.size; (try simp at this); omega
  go_wp2_with fail
  refine (errorIf_c _ _ _).mono ?_
  rintro e w' ⟨rfl, rfl⟩
  go_wp2_with fail
  refine (firstError2 _ _ _ _ _ _ (by exact heap_alloc_at (by simp [go_sem]))).mono ?_
  rw [HF.out]
  rintro e w' ⟨rfl, rfl⟩
  have rr0 : x2.val.heap[w.heap.size]? = some (.cells #[.int .i64 wd, .int .i64 v] 23) := by (repeat' (first | (with_reducible assumption) | omega | (simp only [World.size_alloc, World.size_drew, World.size_setCell]; omega) | exact heap_alloc_at (by first | rfl | (simp; done)) | (with_reducible refine heap_aft _ ?_ ?_) | (with_reducible refine heap_alloc' ?_ ?_) | (with_reducible refine heap_drew ?_)))
  have rr1 : x2.val.heap[w.heap.size + 1]? = some (.cells #[.int .i64 16] 3) := by (repeat' (first | (with_reducible assumption) | omega | (simp only [World.size_alloc, World.size_drew, World.size_setCell]; omega) | exact heap_alloc_at (by first | rfl | (simp; done)) | (with_reducible refine heap_aft _ ?_ ?_) | (with_reducible refine heap_alloc' ?_ ?_) | (with_reducible refine heap_drew ?_)))
  have rr2 : x2.val.heap[x1.val.heap.size]? = some (.cells #[.int .i64 16, .string ⟨#[104]⟩, .func (.func 67) #[] #[]] 46) := by (repeat' (first | (with_reducible assumption) | omega | (simp only [World.size_alloc, World.size_drew, World.size_setCell]; omega) | exact heap_alloc_at (by first | rfl | (simp; done)) | (with_reducible refine heap_aft _ ?_ ?_) | (with_reducible refine heap_alloc' ?_ ?_) | (with_reducible refine heap_drew ?_)))
  have q00 := cell_block (i := 0) rr0
  have q01 := cell_block (i := 1) rr0
  have q10 := cell_block (i := 0) rr1
  have q21 := cell_block (i := 1) rr2
  have q22 := cell_block (i := 2) rr2
  simp at q00 q01 q10 q21 q22
  have s0 : w.heap.size < x2.val.heap.size := by omega
  have s2 : x1.val.heap.size < x2.val.heap.size := by have := x2.size; (try simp at this); omega
  have hb0' : Below w.heap.size w x2.val := by (repeat' (first | (with_reducible exact Below.refl _ _) | (with_reducible assumption) | (with_reducible assumption) | (with_reducible exact Aft.pf _) | (with_reducible refine Below.alloc ?_ ?_ _) | (with_reducible refine Below.drew ?_) | (with_reducible refine Aft.below _ ?_ ?_) | (with_reducible refine Below.setCell_new ?_ ?_ _ _) | (with_reducible exact Nat.le_refl _) | (with_reducible refine Aft.le _ ?_) | (with_reducible refine le_alloc ?_) | (with_reducible refine le_drew ?_) | (with_reducible refine le_setCell ?_) | omega))
  clear rr0 rr1 rr2 r0 k0 k1 HF HC HN z0 z1
  generalize x1.val.heap.size = G1 at *
  generalize x2.val = W2 at *
  subst hwd hv
  go_wp2_with fail
  refine (HI.out _ (HT.out.below (by (repeat' (first | (with_reducible exact Below.refl _ _) | (with_reducible assumption) | (with_reducible assumption) | (with_reducible exact Aft.pf _) | (with_reducible refine Below.alloc ?_ ?_ _) | (with_reducible refine Below.drew ?_) | (with_reducible refine Aft.below _ ?_ ?_) | (with_reducible refine Below.setCell_new ?_ ?_ _ _) | (with_reducible exact Nat.le_refl _) | (with_reducible refine Aft.le _ ?_) | (with_reducible refine le_alloc ?_) | (with_reducible refine le_drew ?_) | (with_reducible refine le_setCell ?_) | omega))))).mono ?_
  rintro e w' ⟨rfl, x3, rfl⟩
  have t0 : w.heap.size < x3.val.heap.size := by have := x3.size; (try simp at this); omega
  have t2 : G1 < x3.val.heap.size := by have := x3.size; (try simp at this); omega
  have c00 : x3.val.cell? ⟨w.heap.size, 0, none⟩ = some (.int .i64 wn) := cell_aft x3 (lt_alloc s0) (cell_alloc s0 q00)
  have c21 : x3.val.cell? ⟨G1, 1, none⟩ = some (.string ⟨#[104]⟩) := cell_aft x3 (lt_alloc s2) (cell_alloc s2 q21)
  have c22 : x3.val.cell? ⟨G1, 2, none⟩ = some (.func (.func 67) #[] #[]) := cell_aft x3 (lt_alloc s2) (cell_alloc s2 q22)
  have hb3 : Below w.heap.size w x3.val := by (repeat' (first | (with_reducible exact Below.refl _ _) | (with_reducible assumption) | (with_reducible assumption) | (with_reducible exact Aft.pf _) | (with_reducible refine Below.alloc ?_ ?_ _) | (with_reducible refine Below.drew ?_) | (with_reducible refine Aft.below _ ?_ ?_) | (with_reducible refine Below.setCell_new ?_ ?_ _ _) | (with_reducible exact Nat.le_refl _) | (with_reducible refine Aft.le _ ?_) | (with_reducible refine le_alloc ?_) | (with_reducible refine le_drew ?_) | (with_reducible refine le_setCell ?_) | omega))
  clear q00 q01 q10 q21 q22 s0 s2 z2 hb0' HT HI
  generalize x3.val = W3 at *
  go_wp2_with fail
  refine (HP.out _).mono ?_
  rintro e w' ⟨rfl, rfl⟩
  go_wp2_with fail
  rw [show max 0 (((wn : Int) + 3) / 4 - (D.length : Int)) = ((n : Nat) : Int) by omega]
  refine (zeros_c n (by omega) _).mono ?_
  rintro e w' ⟨rfl, x4, rfl⟩
  have d00 : x4.val.cell? ⟨w.heap.size, 0, none⟩ = some (.int .i64 wn) := cell_aft x4 t0 c00
  have d21 : x4.val.cell? ⟨G1, 1, none⟩ = some (.string ⟨#[104]⟩) := cell_aft x4 t2 c21
  have hb4 : Below w.heap.size w x4.val := by (repeat' (first | (with_reducible exact Below.refl _ _) | (with_reducible assumption) | (with_reducible assumption) | (with_reducible exact Aft.pf _) | (with_reducible refine Below.alloc ?_ ?_ _) | (with_reducible refine Below.drew ?_) | (with_reducible refine Aft.below _ ?_ ?_) | (with_reducible refine Below.setCell_new ?_ ?_ _ _) | (with_reducible exact Nat.le_refl _) | (with_reducible refine Aft.le _ ?_) | (with_reducible refine le_alloc ?_) | (with_reducible refine le_drew ?_) | (with_reducible refine le_setCell ?_) | omega))
  have u0 : w.heap.size < x4.val.heap.size := x4.lt' t0
  have u2 : G1 < x4.val.heap.size := x4.lt' t2
  have HRl := Lib.hid (show (List.replicate n (48 : UInt8)).length ≤ 16 by rw [List.length_replicate]; omega)
  clear c00 c21 c22 hb3 t0 t2 HP
  generalize x4.val = W4 at *
  generalize List.replicate n (48 : UInt8) = Z at *
  have hZ := HRl.out
  clear HRl
  have hDs : D.length ≤ 17 := by omega
  clear hD1 hD2 hn
  go_wp2_with fail
  refine wp_region_aft (by kernel_rfl) (by kernel_rfl) ?_
  repeat (go_big_quiet_step (first | (go_at_call 22; exact Calls.qs (HW.out _))))
  refine wpQuiet_nil ?_
  intro x
  go_wp2
  go_ret2
  exact ⟨tupSE ((cat5 E Z D 104).trans (by rw [HR.out])) rfl, Below.aft (by (repeat' (first | (with_reducible exact Below.refl _ _) | (with_reducible assumption) | (with_reducible assumption) | (with_reducible exact Aft.pf _) | (with_reducible refine Below.alloc ?_ ?_ _) | (with_reducible refine Below.drew ?_) | (with_reducible refine Aft.below _ ?_ ?_) | (with_reducible refine Below.setCell_new ?_ ?_ _ _) | (with_reducible exact Nat.le_refl _) | (with_reducible refine Aft.le _ ?_) | (with_reducible refine le_alloc ?_) | (with_reducible refine le_drew ?_) | (with_reducible refine le_setCell ?_) | omega)))⟩

theorem Format_bad (wd v b er : Int) (hn : er ≠ 0) (hF : fmE wd v b = er) (w : World) :
    Calls Tryd.prog 5 #[.agg #[.int .i64 wd, .int .i64 v], .int .i64 b] w fun e w' => e = .returned (.tuple #[.string ⟨#[]⟩, .int .i64 er]) ∧ ∃ x : Aft w, w' = x.val := by
  have key : ∀ k : Bool, isBase b = !k → firstE [bErr wd v, eIf k 15] = er := by
    intro k hk
    unfold fmE at hF
    rw [hk] at hF
    unfold firstE
    by_cases h0 : bErr wd v = 0
    · rw [if_pos h0] at hF ⊢; rw [firstE_one, ← hF]; cases k <;> rfl
    · rw [if_neg h0] at hF ⊢; exact hF
  by_cases h2 : b = 2
  · subst h2; exact Format_no0 wd v er hn (key false rfl) w
  by_cases h10 : b = 10
  · subst h10; exact Format_no1 wd v er hn (key false rfl) w
  by_cases h16 : b = 16
  · subst h16; exact Format_no2 wd v er hn (key false rfl) w
  · exact Format_no3 wd v er b (by rw [beq_eq_false_iff_ne]; omega) (by rw [beq_eq_false_iff_ne]; omega) (by rw [beq_eq_false_iff_ne]; omega) hn (key true (by simp [isBase, h2, h10, h16])) w
theorem Format_good (wn vn b : Nat) (hF : fmE wn vn b = 0) (w : World) (ht : Tabs w) :
    (b = 2 ∨ b = 10 ∨ b = 16) ∧ bErr wn vn = 0 ∧ Calls Tryd.prog 5 #[.agg #[.int .i64 wn, .int .i64 vn], .int .i64 b] w fun e w' => e = .returned (.tuple #[.string ⟨(fmtL wn vn b).toArray⟩, .int .i64 0]) ∧ ∃ x : Aft w, w' = x.val := by
  unfold fmE at hF
  by_cases h0 : bErr wn vn = 0
  · rw [if_pos h0] at hF
    have hb : isBase b = true := by
      cases h : isBase b
      · rw [h] at hF; exact absurd hF (by decide)
      · rfl
    have hb' : b = 2 ∨ b = 10 ∨ b = 16 := by
      simp [isBase] at hb; omega
    refine ⟨hb', h0, ?_⟩
    rcases hb' with rfl | rfl | rfl
    · exact Format_ok0 wn vn h0 w ht
    · exact Format_ok1 wn vn h0 w ht
    · exact Format_ok2 wn vn h0 w ht
  · rw [if_neg h0] at hF; exact absurd hF h0

end Go.Proofs.YtlplphigjejahaaDoor
