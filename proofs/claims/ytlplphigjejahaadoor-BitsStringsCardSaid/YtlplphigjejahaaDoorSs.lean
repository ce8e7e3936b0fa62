/-
  The law BitsStrings, walked (built for the door seat only).
-/
import Derived.Test.YtlplphigjejahaaDoorSl
import Derived.Test.YtlplphigjejahaaDoorSp
import Derived.Test.YtlplphigjejahaaDoorSq
import Derived.Test.YtlplphigjejahaaDoorSr
set_option linter.unusedSimpArgs false
set_option linter.unusedVariables false
namespace Go.Proofs.YtlplphigjejahaaDoor
open Go.RowKit Go.BigFrame

theorem rparse_c (s : ByteArray) (hs : s.size ≤ 60) (w : World) :
    Calls Tryd.prog 7 #[.string s] w fun e w' => e = .returned (.tuple #[.agg #[.int .i64 (parW s.data.toList), .int .i64 (parV s.data.toList)], .int .i64 (parE s.data.toList)]) ∧ ∃ x : Aft w, w' = x.val := by
  by_cases hc : s.data.toList.count 39 = 1
  · by_cases h2 : (aftS s).size < 2
    · exact rparse_short s hs hc h2 w
    · cases hb : nmB 2 (befL s.data.toList) && decide (0 ≤ nmV 2 (befL s.data.toList))
      · by_cases k0 : ((aftS s)[0]'(by omega)).toNat = 98
        · exact rparse_bad0 s hs hc (by omega) k0 hb w
        by_cases k1 : ((aftS s)[0]'(by omega)).toNat = 100
        · exact rparse_bad1 s hs hc (by omega) k1 hb w
        by_cases k2 : ((aftS s)[0]'(by omega)).toNat = 104
        · exact rparse_bad2 s hs hc (by omega) k2 hb w
        · exact rparse_bad3 s hs hc (by omega) (by unfold baseN; rw [if_neg k0, if_neg k1, if_neg k2]) w
      · by_cases k0 : ((aftS s)[0]'(by omega)).toNat = 98
        · exact rparse_ok0 s hs hc (by omega) k0 hb w
        by_cases k1 : ((aftS s)[0]'(by omega)).toNat = 100
        · exact rparse_ok1 s hs hc (by omega) k1 hb w
        by_cases k2 : ((aftS s)[0]'(by omega)).toNat = 104
        · exact rparse_ok2 s hs hc (by omega) k2 hb w
        · exact rparse_bad3 s hs hc (by omega) (by unfold baseN; rw [if_neg k0, if_neg k1, if_neg k2]) w
  · exact rparse_other s hs hc w
theorem rFormat_c (wn vn b : Nat) (h1 : 1 ≤ wn) (h2 : wn ≤ 16) (h3 : vn ≤ 65535) (hb : b = 2 ∨ b = 10 ∨ b = 16) (w : World) :
    Calls Tryd.prog 9 #[.agg #[.int .i64 wn, .int .i64 vn], .int .i64 b] w fun e w' => e = .returned (.string ⟨(fmtL wn vn b).toArray⟩) ∧ ∃ x : Aft w, w' = x.val := by
  rcases hb with rfl | rfl | rfl
  · exact rFormat_2 wn vn h1 h2 h3 w
  · exact rFormat_10 wn vn h1 h2 h3 w
  · exact rFormat_16 wn vn h1 h2 h3 w

set_option maxRecDepth 100000 in
set_option maxHeartbeats 3200000 in
theorem strings_long (hawake : ∀ w, Calls Tryd.prog 4 #[] w fun e w' => e = .returned (.bool true) ∧ ∃ x : Aft w, w' = x.val) (wd v b : Int) (s : ByteArray) (hs : 60 < s.size) (w : World) : Calls Tryd.prog 3 #[.agg #[.int .i64 wd, .int .i64 v], .int .i64 b, .string s] w fun e w' => e = .returned (.bool true) ∧ ∃ x : Aft w, w' = x.val := by
  have hsi : (60 : Int) < s.size := by omega
  go_enter Tryd.func3, Tryd.ntmps3
  go_wp2_with fail
  refine (hawake _).mono ?_
  rintro e W1 ⟨rfl, y1, hW1⟩
  have r0_1 : W1.heap[w.heap.size]? = some (.cells #[.int .i64 wd, .int .i64 v] 23) := by rw [hW1]; (repeat' (first | (with_reducible assumption) | omega | (simp only [World.size_alloc, World.size_drew, World.size_setCell]; omega) | (refine heap_alloc_at ?_; (first | rfl | (simp; done))) | (with_reducible refine heap_aft _ ?_ ?_) | (with_reducible refine heap_alloc' ?_ ?_) | (with_reducible refine heap_drew ?_)))
  have q00_1 := cell_block (i := 0) r0_1
  have q01_1 := cell_block (i := 1) r0_1
  simp at q00_1 q01_1
  have s0_1 : w.heap.size < W1.heap.size := by rw [hW1]; have := y1.size; (try simp at this); omega
  have hb_1 : Below w.heap.size w W1 := by rw [hW1]; (repeat' (first | (with_reducible exact Below.refl _ _) | (with_reducible assumption) | (with_reducible assumption) | (with_reducible exact Aft.pf _) | (with_reducible refine Below.alloc ?_ ?_ _) | (with_reducible refine Below.drew ?_) | (with_reducible refine Aft.below _ ?_ ?_) | (with_reducible refine Below.setCell_new ?_ ?_ _ _) | (with_reducible exact Nat.le_refl _) | (with_reducible refine Aft.le _ ?_) | (with_reducible refine le_alloc ?_) | (with_reducible refine le_drew ?_) | (with_reducible refine le_setCell ?_) | omega))
  clear hW1 y1
  go_wp2
  go_ret
  exact ⟨rfl, Below.aft (by (repeat' (first | (with_reducible exact Below.refl _ _) | (with_reducible assumption) | (with_reducible assumption) | (with_reducible exact Aft.pf _) | (with_reducible refine Below.alloc ?_ ?_ _) | (with_reducible refine Below.drew ?_) | (with_reducible refine Aft.below _ ?_ ?_) | (with_reducible refine Below.setCell_new ?_ ?_ _ _) | (with_reducible exact Nat.le_refl _) | (with_reducible refine Aft.le _ ?_) | (with_reducible refine le_alloc ?_) | (with_reducible refine le_drew ?_) | (with_reducible refine le_setCell ?_) | omega)))⟩

set_option maxRecDepth 100000 in
set_option maxHeartbeats 3200000 in
theorem strings_bad (hawake : ∀ w, Calls Tryd.prog 4 #[] w fun e w' => e = .returned (.bool true) ∧ ∃ x : Aft w, w' = x.val) (wd v b er : Int) (hn : er ≠ 0) (hF : fmE wd v b = er) (s : ByteArray) (hs : s.size ≤ 60) (w : World) : Calls Tryd.prog 3 #[.agg #[.int .i64 wd, .int .i64 v], .int .i64 b, .string s] w fun e w' => e = .returned (.bool true) ∧ ∃ x : Aft w, w' = x.val := by
  have HB := Lib.hid (fun w => Format_bad wd v b er hn hF w)
  have HE := Lib.hid (fun w => by have h := FormatErr_c wd v b w; rw [hF] at h; exact h)
  have hn1 : (er != 0) = true := by simpa using hn
  have hn2 : (er == 0) = false := by simpa using hn
  clear hF hn
  have HP := Lib.hid (fun w => Parse_c s hs w)
  have HQ := Lib.hid (fun w => rparse_c s hs w)
  generalize parW s.data.toList = pw at *
  generalize parV s.data.toList = pv at *
  generalize parE s.data.toList = pe at *
  have hsi : ¬ (60 : Int) < s.size := by omega
  go_enter Tryd.func3, Tryd.ntmps3
  go_wp2_with fail
  refine (hawake _).mono ?_
  rintro e W1 ⟨rfl, y1, hW1⟩
  have r0_1 : W1.heap[w.heap.size]? = some (.cells #[.int .i64 wd, .int .i64 v] 23) := by rw [hW1]; (repeat' (first | (with_reducible assumption) | omega | (simp only [World.size_alloc, World.size_drew, World.size_setCell]; omega) | (refine heap_alloc_at ?_; (first | rfl | (simp; done))) | (with_reducible refine heap_aft _ ?_ ?_) | (with_reducible refine heap_alloc' ?_ ?_) | (with_reducible refine heap_drew ?_)))
  have q00_1 := cell_block (i := 0) r0_1
  have q01_1 := cell_block (i := 1) r0_1
  simp at q00_1 q01_1
  have s0_1 : w.heap.size < W1.heap.size := by rw [hW1]; have := y1.size; (try simp at this); omega
  have hb_1 : Below w.heap.size w W1 := by rw [hW1]; (repeat' (first | (with_reducible exact Below.refl _ _) | (with_reducible assumption) | (with_reducible assumption) | (with_reducible exact Aft.pf _) | (with_reducible refine Below.alloc ?_ ?_ _) | (with_reducible refine Below.drew ?_) | (with_reducible refine Aft.below _ ?_ ?_) | (with_reducible refine Below.setCell_new ?_ ?_ _ _) | (with_reducible exact Nat.le_refl _) | (with_reducible refine Aft.le _ ?_) | (with_reducible refine le_alloc ?_) | (with_reducible refine le_drew ?_) | (with_reducible refine le_setCell ?_) | omega))
  clear hW1 y1
  go_wp2_with fail
  refine (HB.out _).mono ?_
  rintro e W2 ⟨rfl, y2, hW2⟩
  have r0_2 : W2.heap[w.heap.size]? = some (.cells #[.int .i64 wd, .int .i64 v] 23) := by rw [hW2]; (repeat' (first | (with_reducible assumption) | omega | (simp only [World.size_alloc, World.size_drew, World.size_setCell]; omega) | (refine heap_alloc_at ?_; (first | rfl | (simp; done))) | (with_reducible refine heap_aft _ ?_ ?_) | (with_reducible refine heap_alloc' ?_ ?_) | (with_reducible refine heap_drew ?_)))
  have q00_2 := cell_block (i := 0) r0_2
  have q01_2 := cell_block (i := 1) r0_2
  simp at q00_2 q01_2
  have s0_2 : w.heap.size < W2.heap.size := by rw [hW2]; have := y2.size; (try simp at this); omega
  have hb_2 : Below w.heap.size w W2 := by rw [hW2]; (repeat' (first | (with_reducible exact Below.refl _ _) | (with_reducible assumption) | (with_reducible assumption) | (with_reducible exact Aft.pf _) | (with_reducible refine Below.alloc ?_ ?_ _) | (with_reducible refine Below.drew ?_) | (with_reducible refine Aft.below _ ?_ ?_) | (with_reducible refine Below.setCell_new ?_ ?_ _ _) | (with_reducible exact Nat.le_refl _) | (with_reducible refine Aft.le _ ?_) | (with_reducible refine le_alloc ?_) | (with_reducible refine le_drew ?_) | (with_reducible refine le_setCell ?_) | omega))
  clear hW2 y2
  clear r0_1 q00_1 q01_1 s0_1 hb_1
  go_wp2_with fail
  refine (HP.out _).mono ?_
  rintro e W3 ⟨rfl, y3, hW3⟩
  have r0_3 : W3.heap[w.heap.size]? = some (.cells #[.int .i64 wd, .int .i64 v] 23) := by rw [hW3]; (repeat' (first | (with_reducible assumption) | omega | (simp only [World.size_alloc, World.size_drew, World.size_setCell]; omega) | (refine heap_alloc_at ?_; (first | rfl | (simp; done))) | (with_reducible refine heap_aft _ ?_ ?_) | (with_reducible refine heap_alloc' ?_ ?_) | (with_reducible refine heap_drew ?_)))
  have q00_3 := cell_block (i := 0) r0_3
  have q01_3 := cell_block (i := 1) r0_3
  simp at q00_3 q01_3
  have s0_3 : w.heap.size < W3.heap.size := by rw [hW3]; have := y3.size; (try simp at this); omega
  have hb_3 : Below w.heap.size w W3 := by rw [hW3]; (repeat' (first | (with_reducible exact Below.refl _ _) | (with_reducible assumption) | (with_reducible assumption) | (with_reducible exact Aft.pf _) | (with_reducible refine Below.alloc ?_ ?_ _) | (with_reducible refine Below.drew ?_) | (with_reducible refine Aft.below _ ?_ ?_) | (with_reducible refine Below.setCell_new ?_ ?_ _ _) | (with_reducible exact Nat.le_refl _) | (with_reducible refine Aft.le _ ?_) | (with_reducible refine le_alloc ?_) | (with_reducible refine le_drew ?_) | (with_reducible refine le_setCell ?_) | omega))
  clear hW3 y3
  clear r0_2 q00_2 q01_2 s0_2 hb_2
  go_wp2_with fail
  refine (HQ.out _).mono ?_
  rintro e W4 ⟨rfl, y4, hW4⟩
  have r0_4 : W4.heap[w.heap.size]? = some (.cells #[.int .i64 wd, .int .i64 v] 23) := by rw [hW4]; (repeat' (first | (with_reducible assumption) | omega | (simp only [World.size_alloc, World.size_drew, World.size_setCell]; omega) | (refine heap_alloc_at ?_; (first | rfl | (simp; done))) | (with_reducible refine heap_aft _ ?_ ?_) | (with_reducible refine heap_alloc' ?_ ?_) | (with_reducible refine heap_drew ?_)))
  have q00_4 := cell_block (i := 0) r0_4
  have q01_4 := cell_block (i := 1) r0_4
  simp at q00_4 q01_4
  have s0_4 : w.heap.size < W4.heap.size := by rw [hW4]; have := y4.size; (try simp at this); omega
  have r1_4 : W4.heap[W3.heap.size]? = some (.cells #[.int .i64 pw, .int .i64 pv] 23) := by rw [hW4]; (repeat' (first | (with_reducible assumption) | omega | (simp only [World.size_alloc, World.size_drew, World.size_setCell]; omega) | (refine heap_alloc_at ?_; (first | rfl | (simp; done))) | (with_reducible refine heap_aft _ ?_ ?_) | (with_reducible refine heap_alloc' ?_ ?_) | (with_reducible refine heap_drew ?_)))
  have q10_4 := cell_block (i := 0) r1_4
  have q11_4 := cell_block (i := 1) r1_4
  simp at q10_4 q11_4
  have s1_4 : W3.heap.size < W4.heap.size := by rw [hW4]; have := y4.size; (try simp at this); omega
  have hb_4 : Below w.heap.size w W4 := by rw [hW4]; (repeat' (first | (with_reducible exact Below.refl _ _) | (with_reducible assumption) | (with_reducible assumption) | (with_reducible exact Aft.pf _) | (with_reducible refine Below.alloc ?_ ?_ _) | (with_reducible refine Below.drew ?_) | (with_reducible refine Aft.below _ ?_ ?_) | (with_reducible refine Below.setCell_new ?_ ?_ _ _) | (with_reducible exact Nat.le_refl _) | (with_reducible refine Aft.le _ ?_) | (with_reducible refine le_alloc ?_) | (with_reducible refine le_drew ?_) | (with_reducible refine le_setCell ?_) | omega))
  clear hW4 y4
  clear r0_3 q00_3 q01_3 s0_3 hb_3
  go_wp2_with fail
  refine (HE.out _).mono ?_
  rintro e W5 ⟨rfl, y5, hW5⟩
  have r0_5 : W5.heap[w.heap.size]? = some (.cells #[.int .i64 wd, .int .i64 v] 23) := by rw [hW5]; (repeat' (first | (with_reducible assumption) | omega | (simp only [World.size_alloc, World.size_drew, World.size_setCell]; omega) | (refine heap_alloc_at ?_; (first | rfl | (simp; done))) | (with_reducible refine heap_aft _ ?_ ?_) | (with_reducible refine heap_alloc' ?_ ?_) | (with_reducible refine heap_drew ?_)))
  have q00_5 := cell_block (i := 0) r0_5
  have q01_5 := cell_block (i := 1) r0_5
  simp at q00_5 q01_5
  have s0_5 : w.heap.size < W5.heap.size := by rw [hW5]; have := y5.size; (try simp at this); omega
  have r1_5 : W5.heap[W3.heap.size]? = some (.cells #[.int .i64 pw, .int .i64 pv] 23) := by rw [hW5]; (repeat' (first | (with_reducible assumption) | omega | (simp only [World.size_alloc, World.size_drew, World.size_setCell]; omega) | (refine heap_alloc_at ?_; (first | rfl | (simp; done))) | (with_reducible refine heap_aft _ ?_ ?_) | (with_reducible refine heap_alloc' ?_ ?_) | (with_reducible refine heap_drew ?_)))
  have q10_5 := cell_block (i := 0) r1_5
  have q11_5 := cell_block (i := 1) r1_5
  simp at q10_5 q11_5
  have s1_5 : W3.heap.size < W5.heap.size := by rw [hW5]; have := y5.size; (try simp at this); omega
  have r2_5 : W5.heap[W4.heap.size]? = some (.cells #[.int .i64 pw, .int .i64 pv] 23) := by rw [hW5]; (repeat' (first | (with_reducible assumption) | omega | (simp only [World.size_alloc, World.size_drew, World.size_setCell]; omega) | (refine heap_alloc_at ?_; (first | rfl | (simp; done))) | (with_reducible refine heap_aft _ ?_ ?_) | (with_reducible refine heap_alloc' ?_ ?_) | (with_reducible refine heap_drew ?_)))
  have q20_5 := cell_block (i := 0) r2_5
  have q21_5 := cell_block (i := 1) r2_5
  simp at q20_5 q21_5
  have s2_5 : W4.heap.size < W5.heap.size := by rw [hW5]; have := y5.size; (try simp at this); omega
  have hb_5 : Below w.heap.size w W5 := by rw [hW5]; (repeat' (first | (with_reducible exact Below.refl _ _) | (with_reducible assumption) | (with_reducible assumption) | (with_reducible exact Aft.pf _) | (with_reducible refine Below.alloc ?_ ?_ _) | (with_reducible refine Below.drew ?_) | (with_reducible refine Aft.below _ ?_ ?_) | (with_reducible refine Below.setCell_new ?_ ?_ _ _) | (with_reducible exact Nat.le_refl _) | (with_reducible refine Aft.le _ ?_) | (with_reducible refine le_alloc ?_) | (with_reducible refine le_drew ?_) | (with_reducible refine le_setCell ?_) | omega))
  clear hW5 y5
  clear r0_4 q00_4 q01_4 s0_4 r1_4 q10_4 q11_4 s1_4 hb_4
  go_wp2
  go_ret
  exact ⟨rfl, Below.aft (by (repeat' (first | (with_reducible exact Below.refl _ _) | (with_reducible assumption) | (with_reducible assumption) | (with_reducible exact Aft.pf _) | (with_reducible refine Below.alloc ?_ ?_ _) | (with_reducible refine Below.drew ?_) | (with_reducible refine Aft.below _ ?_ ?_) | (with_reducible refine Below.setCell_new ?_ ?_ _ _) | (with_reducible exact Nat.le_refl _) | (with_reducible refine Aft.le _ ?_) | (with_reducible refine le_alloc ?_) | (with_reducible refine le_drew ?_) | (with_reducible refine le_setCell ?_) | omega)))⟩

set_option maxRecDepth 100000 in
set_option maxHeartbeats 3200000 in
theorem strings_good (hawake : ∀ w, Calls Tryd.prog 4 #[] w fun e w' => e = .returned (.bool true) ∧ ∃ x : Aft w, w' = x.val) (wn vn bn : Nat) (hF : fmE wn vn bn = 0) (s : ByteArray) (hs : s.size ≤ 60) (w : World) (ht : Tabs w) : Calls Tryd.prog 3 #[.agg #[.int .i64 wn, .int .i64 vn], .int .i64 bn, .string s] w fun e w' => e = .returned (.bool true) ∧ ∃ x : Aft w, w' = x.val := by
  obtain ⟨hbn, hbe, _⟩ := Format_good wn vn bn hF w ht
  obtain ⟨e1, e2, _, e4⟩ := bErr_zero hbe
  have h1 : 1 ≤ wn := by omega
  have h2 : wn ≤ 16 := by omega
  obtain ⟨_, _, h3⟩ := val_bd h1 h2 e4
  obtain ⟨f1, f2, f3, f4⟩ := fmt_parse hbn hbe
  have HT := Lib.hid ht
  have HB := Lib.hid (fun w ht => (Format_good wn vn bn hF w ht).2.2)
  have HE := Lib.hid (fun w => by have h := FormatErr_c wn vn bn w; rw [hF] at h; exact h)
  have HR := Lib.hid (fun w => rFormat_c wn vn bn h1 h2 h3 hbn w)
  have HPP := Lib.hid (fun w => by
    have h := Parse_c ⟨(fmtL wn vn bn).toArray⟩ (by simpa [ByteArray.size] using f4) w
    rw [show (⟨(fmtL wn vn bn).toArray⟩ : ByteArray).data.toList = fmtL wn vn bn from rfl, f1, f2, f3] at h
    exact h)
  clear hF hbn hbe e1 e2 e4 h1 h2 h3 f1 f2 f3 f4 ht
  generalize fmtL wn vn bn = D at *
  generalize (bn : Int) = b at *
  generalize (wn : Int) = wd at *
  generalize (vn : Int) = v at *
  have HP := Lib.hid (fun w => Parse_c s hs w)
  have HQ := Lib.hid (fun w => rparse_c s hs w)
  generalize parW s.data.toList = pw at *
  generalize parV s.data.toList = pv at *
  generalize parE s.data.toList = pe at *
  have hsi : ¬ (60 : Int) < s.size := by omega
  go_enter Tryd.func3, Tryd.ntmps3
  go_wp2_with fail
  refine (hawake _).mono ?_
  rintro e W1 ⟨rfl, y1, hW1⟩
  have r0_1 : W1.heap[w.heap.size]? = some (.cells #[.int .i64 wd, .int .i64 v] 23) := by rw [hW1]; (repeat' (first | (with_reducible assumption) | omega | (simp only [World.size_alloc, World.size_drew, World.size_setCell]; omega) | (refine heap_alloc_at ?_; (first | rfl | (simp; done))) | (with_reducible refine heap_aft _ ?_ ?_) | (with_reducible refine heap_alloc' ?_ ?_) | (with_reducible refine heap_drew ?_)))
  have q00_1 := cell_block (i := 0) r0_1
  have q01_1 := cell_block (i := 1) r0_1
  simp at q00_1 q01_1
  have s0_1 : w.heap.size < W1.heap.size := by rw [hW1]; have := y1.size; (try simp at this); omega
  have hb_1 : Below w.heap.size w W1 := by rw [hW1]; (repeat' (first | (with_reducible exact Below.refl _ _) | (with_reducible assumption) | (with_reducible assumption) | (with_reducible exact Aft.pf _) | (with_reducible refine Below.alloc ?_ ?_ _) | (with_reducible refine Below.drew ?_) | (with_reducible refine Aft.below _ ?_ ?_) | (with_reducible refine Below.setCell_new ?_ ?_ _ _) | (with_reducible exact Nat.le_refl _) | (with_reducible refine Aft.le _ ?_) | (with_reducible refine le_alloc ?_) | (with_reducible refine le_drew ?_) | (with_reducible refine le_setCell ?_) | omega))
  clear hW1 y1
  go_wp2_with fail
  refine (HB.out _ (HT.out.below hb_1)).mono ?_
  rintro e W2 ⟨rfl, y2, hW2⟩
  have r0_2 : W2.heap[w.heap.size]? = some (.cells #[.int .i64 wd, .int .i64 v] 23) := by rw [hW2]; (repeat' (first | (with_reducible assumption) | omega | (simp only [World.size_alloc, World.size_drew, World.size_setCell]; omega) | (refine heap_alloc_at ?_; (first | rfl | (simp; done))) | (with_reducible refine heap_aft _ ?_ ?_) | (with_reducible refine heap_alloc' ?_ ?_) | (with_reducible refine heap_drew ?_)))
  have q00_2 := cell_block (i := 0) r0_2
  have q01_2 := cell_block (i := 1) r0_2
  simp at q00_2 q01_2
  have s0_2 : w.heap.size < W2.heap.size := by rw [hW2]; have := y2.size; (try simp at this); omega
  have hb_2 : Below w.heap.size w W2 := by rw [hW2]; (repeat' (first | (with_reducible exact Below.refl _ _) | (with_reducible assumption) | (with_reducible assumption) | (with_reducible exact Aft.pf _) | (with_reducible refine Below.alloc ?_ ?_ _) | (with_reducible refine Below.drew ?_) | (with_reducible refine Aft.below _ ?_ ?_) | (with_reducible refine Below.setCell_new ?_ ?_ _ _) | (with_reducible exact Nat.le_refl _) | (with_reducible refine Aft.le _ ?_) | (with_reducible refine le_alloc ?_) | (with_reducible refine le_drew ?_) | (with_reducible refine le_setCell ?_) | omega))
  clear hW2 y2
  clear r0_1 q00_1 q01_1 s0_1 hb_1
  go_wp2_with fail
  refine (HP.out _).mono ?_
  rintro e W3 ⟨rfl, y3, hW3⟩
  have r0_3 : W3.heap[w.heap.size]? = some (.cells #[.int .i64 wd, .int .i64 v] 23) := by rw [hW3]; (repeat' (first | (with_reducible assumption) | omega | (simp only [World.size_alloc, World.size_drew, World.size_setCell]; omega) | (refine heap_alloc_at ?_; (first | rfl | (simp; done))) | (with_reducible refine heap_aft _ ?_ ?_) | (with_reducible refine heap_alloc' ?_ ?_) | (with_reducible refine heap_drew ?_)))
  have q00_3 := cell_block (i := 0) r0_3
  have q01_3 := cell_block (i := 1) r0_3
  simp at q00_3 q01_3
  have s0_3 : w.heap.size < W3.heap.size := by rw [hW3]; have := y3.size; (try simp at this); omega
  have hb_3 : Below w.heap.size w W3 := by rw [hW3]; (repeat' (first | (with_reducible exact Below.refl _ _) | (with_reducible assumption) | (with_reducible assumption) | (with_reducible exact Aft.pf _) | (with_reducible refine Below.alloc ?_ ?_ _) | (with_reducible refine Below.drew ?_) | (with_reducible refine Aft.below _ ?_ ?_) | (with_reducible refine Below.setCell_new ?_ ?_ _ _) | (with_reducible exact Nat.le_refl _) | (with_reducible refine Aft.le _ ?_) | (with_reducible refine le_alloc ?_) | (with_reducible refine le_drew ?_) | (with_reducible refine le_setCell ?_) | omega))
  clear hW3 y3
  clear r0_2 q00_2 q01_2 s0_2 hb_2
  go_wp2_with fail
  refine (HQ.out _).mono ?_
  rintro e W4 ⟨rfl, y4, hW4⟩
  have r0_4 : W4.heap[w.heap.size]? = some (.cells #[.int .i64 wd, .int .i64 v] 23) := by rw [hW4]; (repeat' (first | (with_reducible assumption) | omega | (simp only [World.size_alloc, World.size_drew, World.size_setCell]; omega) | (refine heap_alloc_at ?_; (first | rfl | (simp; done))) | (with_reducible refine heap_aft _ ?_ ?_) | (with_reducible refine heap_alloc' ?_ ?_) | (with_reducible refine heap_drew ?_)))
  have q00_4 := cell_block (i := 0) r0_4
  have q01_4 := cell_block (i := 1) r0_4
  simp at q00_4 q01_4
  have s0_4 : w.heap.size < W4.heap.size := by rw [hW4]; have := y4.size; (try simp at this); omega
  have r1_4 : W4.heap[W3.heap.size]? = some (.cells #[.int .i64 pw, .int .i64 pv] 23) := by rw [hW4]; (repeat' (first | (with_reducible assumption) | omega | (simp only [World.size_alloc, World.size_drew, World.size_setCell]; omega) | (refine heap_alloc_at ?_; (first | rfl | (simp; done))) | (with_reducible refine heap_aft _ ?_ ?_) | (with_reducible refine heap_alloc' ?_ ?_) | (with_reducible refine heap_drew ?_)))
  have q10_4 := cell_block (i := 0) r1_4
  have q11_4 := cell_block (i := 1) r1_4
  simp at q10_4 q11_4
  have s1_4 : W3.heap.size < W4.heap.size := by rw [hW4]; have := y4.size; (try simp at this); omega
  have hb_4 : Below w.heap.size w W4 := by rw [hW4]; (repeat' (first | (with_reducible exact Below.refl _ _) | (with_reducible assumption) | (with_reducible assumption) | (with_reducible exact Aft.pf _) | (with_reducible refine Below.alloc ?_ ?_ _) | (with_reducible refine Below.drew ?_) | (with_reducible refine Aft.below _ ?_ ?_) | (with_reducible refine Below.setCell_new ?_ ?_ _ _) | (with_reducible exact Nat.le_refl _) | (with_reducible refine Aft.le _ ?_) | (with_reducible refine le_alloc ?_) | (with_reducible refine le_drew ?_) | (with_reducible refine le_setCell ?_) | omega))
  clear hW4 y4
  clear r0_3 q00_3 q01_3 s0_3 hb_3
  go_wp2_with fail
  refine (HE.out _).mono ?_
  rintro e W5 ⟨rfl, y5, hW5⟩
  have r0_5 : W5.heap[w.heap.size]? = some (.cells #[.int .i64 wd, .int .i64 v] 23) := by rw [hW5]; (repeat' (first | (with_reducible assumption) | omega | (simp only [World.size_alloc, World.size_drew, World.size_setCell]; omega) | (refine heap_alloc_at ?_; (first | rfl | (simp; done))) | (with_reducible refine heap_aft _ ?_ ?_) | (with_reducible refine heap_alloc' ?_ ?_) | (with_reducible refine heap_drew ?_)))
  have q00_5 := cell_block (i := 0) r0_5
  have q01_5 := cell_block (i := 1) r0_5
  simp at q00_5 q01_5
  have s0_5 : w.heap.size < W5.heap.size := by rw [hW5]; have := y5.size; (try simp at this); omega
  have r1_5 : W5.heap[W3.heap.size]? = some (.cells #[.int .i64 pw, .int .i64 pv] 23) := by rw [hW5]; (repeat' (first | (with_reducible assumption) | omega | (simp only [World.size_alloc, World.size_drew, World.size_setCell]; omega) | (refine heap_alloc_at ?_; (first | rfl | (simp; done))) | (with_reducible refine heap_aft _ ?_ ?_) | (with_reducible refine heap_alloc' ?_ ?_) | (with_reducible refine heap_drew ?_)))
  have q10_5 := cell_block (i := 0) r1_5
  have q11_5 := cell_block (i := 1) r1_5
  simp at q10_5 q11_5
  have s1_5 : W3.heap.size < W5.heap.size := by rw [hW5]; have := y5.size; (try simp at this); omega
  have r2_5 : W5.heap[W4.heap.size]? = some (.cells #[.int .i64 pw, .int .i64 pv] 23) := by rw [hW5]; (repeat' (first | (with_reducible assumption) | omega | (simp only [World.size_alloc, World.size_drew, World.size_setCell]; omega) | (refine heap_alloc_at ?_; (first | rfl | (simp; done))) | (with_reducible refine heap_aft _ ?_ ?_) | (with_reducible refine heap_alloc' ?_ ?_) | (with_reducible refine heap_drew ?_)))
  have q20_5 := cell_block (i := 0) r2_5
  have q21_5 := cell_block (i := 1) r2_5
  simp at q20_5 q21_5
  have s2_5 : W4.heap.size < W5.heap.size := by rw [hW5]; have := y5.size; (try simp at this); omega
  have hb_5 : Below w.heap.size w W5 := by rw [hW5]; (repeat' (first | (with_reducible exact Below.refl _ _) | (with_reducible assumption) | (with_reducible assumption) | (with_reducible exact Aft.pf _) | (with_reducible refine Below.alloc ?_ ?_ _) | (with_reducible refine Below.drew ?_) | (with_reducible refine Aft.below _ ?_ ?_) | (with_reducible refine Below.setCell_new ?_ ?_ _ _) | (with_reducible exact Nat.le_refl _) | (with_reducible refine Aft.le _ ?_) | (with_reducible refine le_alloc ?_) | (with_reducible refine le_drew ?_) | (with_reducible refine le_setCell ?_) | omega))
  clear hW5 y5
  clear r0_4 q00_4 q01_4 s0_4 r1_4 q10_4 q11_4 s1_4 hb_4
  go_wp2_with fail
  refine (HR.out _).mono ?_
  rintro e W6 ⟨rfl, y6, hW6⟩
  have r0_6 : W6.heap[w.heap.size]? = some (.cells #[.int .i64 wd, .int .i64 v] 23) := by rw [hW6]; (repeat' (first | (with_reducible assumption) | omega | (simp only [World.size_alloc, World.size_drew, World.size_setCell]; omega) | (refine heap_alloc_at ?_; (first | rfl | (simp; done))) | (with_reducible refine heap_aft _ ?_ ?_) | (with_reducible refine heap_alloc' ?_ ?_) | (with_reducible refine heap_drew ?_)))
  have q00_6 := cell_block (i := 0) r0_6
  have q01_6 := cell_block (i := 1) r0_6
  simp at q00_6 q01_6
  have s0_6 : w.heap.size < W6.heap.size := by rw [hW6]; have := y6.size; (try simp at this); omega
  have r1_6 : W6.heap[W3.heap.size]? = some (.cells #[.int .i64 pw, .int .i64 pv] 23) := by rw [hW6]; (repeat' (first | (with_reducible assumption) | omega | (simp only [World.size_alloc, World.size_drew, World.size_setCell]; omega) | (refine heap_alloc_at ?_; (first | rfl | (simp; done))) | (with_reducible refine heap_aft _ ?_ ?_) | (with_reducible refine heap_alloc' ?_ ?_) | (with_reducible refine heap_drew ?_)))
  have q10_6 := cell_block (i := 0) r1_6
  have q11_6 := cell_block (i := 1) r1_6
  simp at q10_6 q11_6
  have s1_6 : W3.heap.size < W6.heap.size := by rw [hW6]; have := y6.size; (try simp at this); omega
  have r2_6 : W6.heap[W4.heap.size]? = some (.cells #[.int .i64 pw, .int .i64 pv] 23) := by rw [hW6]; (repeat' (first | (with_reducible assumption) | omega | (simp only [World.size_alloc, World.size_drew, World.size_setCell]; omega) | (refine heap_alloc_at ?_; (first | rfl | (simp; done))) | (with_reducible refine heap_aft _ ?_ ?_) | (with_reducible refine heap_alloc' ?_ ?_) | (with_reducible refine heap_drew ?_)))
  have q20_6 := cell_block (i := 0) r2_6
  have q21_6 := cell_block (i := 1) r2_6
  simp at q20_6 q21_6
  have s2_6 : W4.heap.size < W6.heap.size := by rw [hW6]; have := y6.size; (try simp at this); omega
  have hb_6 : Below w.heap.size w W6 := by rw [hW6]; (repeat' (first | (with_reducible exact Below.refl _ _) | (with_reducible assumption) | (with_reducible assumption) | (with_reducible exact Aft.pf _) | (with_reducible refine Below.alloc ?_ ?_ _) | (with_reducible refine Below.drew ?_) | (with_reducible refine Aft.below _ ?_ ?_) | (with_reducible refine Below.setCell_new ?_ ?_ _ _) | (with_reducible exact Nat.le_refl _) | (with_reducible refine Aft.le _ ?_) | (with_reducible refine le_alloc ?_) | (with_reducible refine le_drew ?_) | (with_reducible refine le_setCell ?_) | omega))
  clear hW6 y6
  clear r0_5 q00_5 q01_5 s0_5 r1_5 q10_5 q11_5 s1_5 r2_5 q20_5 q21_5 s2_5 hb_5
  go_wp2_with fail
  refine (HPP.out _).mono ?_
  rintro e W7 ⟨rfl, y7, hW7⟩
  have r0_7 : W7.heap[w.heap.size]? = some (.cells #[.int .i64 wd, .int .i64 v] 23) := by rw [hW7]; (repeat' (first | (with_reducible assumption) | omega | (simp only [World.size_alloc, World.size_drew, World.size_setCell]; omega) | (refine heap_alloc_at ?_; (first | rfl | (simp; done))) | (with_reducible refine heap_aft _ ?_ ?_) | (with_reducible refine heap_alloc' ?_ ?_) | (with_reducible refine heap_drew ?_)))
  have q00_7 := cell_block (i := 0) r0_7
  have q01_7 := cell_block (i := 1) r0_7
  simp at q00_7 q01_7
  have s0_7 : w.heap.size < W7.heap.size := by rw [hW7]; have := y7.size; (try simp at this); omega
  have r1_7 : W7.heap[W3.heap.size]? = some (.cells #[.int .i64 pw, .int .i64 pv] 23) := by rw [hW7]; (repeat' (first | (with_reducible assumption) | omega | (simp only [World.size_alloc, World.size_drew, World.size_setCell]; omega) | (refine heap_alloc_at ?_; (first | rfl | (simp; done))) | (with_reducible refine heap_aft _ ?_ ?_) | (with_reducible refine heap_alloc' ?_ ?_) | (with_reducible refine heap_drew ?_)))
  have q10_7 := cell_block (i := 0) r1_7
  have q11_7 := cell_block (i := 1) r1_7
  simp at q10_7 q11_7
  have s1_7 : W3.heap.size < W7.heap.size := by rw [hW7]; have := y7.size; (try simp at this); omega
  have r2_7 : W7.heap[W4.heap.size]? = some (.cells #[.int .i64 pw, .int .i64 pv] 23) := by rw [hW7]; (repeat' (first | (with_reducible assumption) | omega | (simp only [World.size_alloc, World.size_drew, World.size_setCell]; omega) | (refine heap_alloc_at ?_; (first | rfl | (simp; done))) | (with_reducible refine heap_aft _ ?_ ?_) | (with_reducible refine heap_alloc' ?_ ?_) | (with_reducible refine heap_drew ?_)))
  have q20_7 := cell_block (i := 0) r2_7
  have q21_7 := cell_block (i := 1) r2_7
  simp at q20_7 q21_7
  have s2_7 : W4.heap.size < W7.heap.size := by rw [hW7]; have := y7.size; (try simp at this); omega
  have hb_7 : Below w.heap.size w W7 := by rw [hW7]; (repeat' (first | (with_reducible exact Below.refl _ _) | (with_reducible assumption) | (with_reducible assumption) | (with_reducible exact Aft.pf _) | (with_reducible refine Below.alloc ?_ ?_ _) | (with_reducible refine Below.drew ?_) | (with_reducible refine Aft.below _ ?_ ?_) | (with_reducible refine Below.setCell_new ?_ ?_ _ _) | (with_reducible exact Nat.le_refl _) | (with_reducible refine Aft.le _ ?_) | (with_reducible refine le_alloc ?_) | (with_reducible refine le_drew ?_) | (with_reducible refine le_setCell ?_) | omega))
  clear hW7 y7
  clear r0_6 q00_6 q01_6 s0_6 r1_6 q10_6 q11_6 s1_6 r2_6 q20_6 q21_6 s2_6 hb_6
  go_wp2
  go_ret
  exact ⟨rfl, Below.aft (by (repeat' (first | (with_reducible exact Below.refl _ _) | (with_reducible assumption) | (with_reducible assumption) | (with_reducible exact Aft.pf _) | (with_reducible refine Below.alloc ?_ ?_ _) | (with_reducible refine Below.drew ?_) | (with_reducible refine Aft.below _ ?_ ?_) | (with_reducible refine Below.setCell_new ?_ ?_ _ _) | (with_reducible exact Nat.le_refl _) | (with_reducible refine Aft.le _ ?_) | (with_reducible refine le_alloc ?_) | (with_reducible refine le_drew ?_) | (with_reducible refine le_setCell ?_) | omega)))⟩

theorem BitsStrings_all (hawake : ∀ w, Calls Tryd.prog 4 #[] w fun e w' => e = .returned (.bool true) ∧ ∃ x : Aft w, w' = x.val) (wd v b : Int) (s : ByteArray) (w : World) (ht : Tabs w) : Calls Tryd.prog 3 #[.agg #[.int .i64 wd, .int .i64 v], .int .i64 b, .string s] w fun e w' => e = .returned (.bool true) ∧ ∃ x : Aft w, w' = x.val := by
  by_cases hs : s.size ≤ 60
  · by_cases hF : fmE wd v b = 0
    · have h0 : bErr wd v = 0 ∧ isBase b = true := by
        unfold fmE at hF
        by_cases h : bErr wd v = 0
        · rw [if_pos h] at hF
          refine ⟨h, ?_⟩
          cases k : isBase b
          · rw [k] at hF; exact absurd hF (by decide)
          · rfl
        · rw [if_neg h] at hF; exact absurd hF h
      obtain ⟨e1, _, e3, _⟩ := bErr_zero h0.1
      have hb : 0 ≤ b := by have := h0.2; simp [isBase] at this; omega
      obtain ⟨wn, rfl⟩ := Int.eq_ofNat_of_zero_le (show 0 ≤ wd by omega)
      obtain ⟨vn, rfl⟩ := Int.eq_ofNat_of_zero_le e3
      obtain ⟨bn, rfl⟩ := Int.eq_ofNat_of_zero_le hb
      exact strings_good hawake wn vn bn hF s hs w ht
    · exact strings_bad hawake wd v b _ hF rfl s hs w
  · exact strings_long hawake wd v b s (by omega) w

end Go.Proofs.YtlplphigjejahaaDoor
