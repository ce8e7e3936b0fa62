/-
  Contracts of the functions of chapter 1 (strings, fourth part: literals, any string; built for the door seat only).
-/
import Derived.Test.YtlplphigjejahaaDoorSf
import Derived.Test.YtlplphigjejahaaDoorBb
import Derived.Test.YtlplphigjejahaaDoorBg
set_option linter.unusedSimpArgs false
set_option linter.unusedVariables false
namespace Go.Proofs.YtlplphigjejahaaDoor
open Go.RowKit Go.BigFrame

def befS (s : ByteArray) : ByteArray := ⟨(befL s.data.toList).toArray⟩
def aftS (s : ByteArray) : ByteArray := ⟨(aftL s.data.toList).toArray⟩
def foundB (s : ByteArray) : Bool := !(Lib.indexByte s.data.toList 39 == -1)
theorem befS_list (s : ByteArray) : (befS s).data.toList = befL s.data.toList := rfl
theorem aftS_list (s : ByteArray) : (aftS s).data.toList = aftL s.data.toList := rfl
theorem befS_size (s : ByteArray) : (befS s).size ≤ s.size := by
  have : (befS s).size = (befL s.data.toList).length := by simp [befS, ByteArray.size]
  rw [this]; unfold befL; split
  · simp
  · simp; omega
theorem aftS_size (s : ByteArray) : (aftS s).size ≤ s.size := by
  have : (aftS s).size = (aftL s.data.toList).length := by simp [aftS, ByteArray.size]
  rw [this]; unfold aftL; split
  · simp
  · simp
theorem ex1 (s : ByteArray) (h : 1 ≤ s.size) : (s.extract 1 s.size).data.toList = s.data.toList.drop 1 := by
  rw [extract_list s 1 s.size (by omega)]
  simp
  rw [List.take_of_length_le (by simp)]
theorem bytes_of_none {s : ByteArray} (h : Lib.indexByte s.data.toList 39 = -1) : befS s = s ∧ aftS s = ⟨#[]⟩ ∧ foundB s = false := by
  unfold befS aftS foundB befL aftL
  rw [if_pos h, if_pos h, h]
  exact ⟨rfl, rfl, rfl⟩
theorem bytes_of_some {s : ByteArray} {k : Nat} (hk : k < s.size) (h : Lib.indexByte s.data.toList 39 = k) : befS s = s.extract 0 k ∧ aftS s = s.extract (k + 1) s.size ∧ foundB s = true := by
  have n1 : ¬ ((k : Int) = -1) := by omega
  unfold befS aftS foundB befL aftL
  rw [h, if_neg n1, if_neg n1, Int.toNat_natCast, extract_list s 0 k (by omega), extract_list s (k + 1) s.size (by omega)]
  refine ⟨by simp, ?_, by simp⟩
  rw [List.take_of_length_le (by simp)]
theorem index_lt {l : List UInt8} {c : UInt8} (h : ¬ Lib.indexByte l c = -1) : ∃ k : Nat, k < l.length ∧ Lib.indexByte l c = k := by
  by_cases h0 : 0 < l.count c
  · obtain ⟨k, h1, h2, _⟩ := index_some c l h0; exact ⟨k, h1, h2⟩
  · exact absurd (index_none c l (by omega)) h
theorem tup3 {a c : ByteArray} {x a' c' : ByteArray} {b b' : Bool} (h : a = a') (g : c = c') (k : b = b') : Ending.returned (.tuple #[.string a, .string c, .bool b]) = .returned (.tuple #[.string a', .string c', .bool b']) := by subst h; subst g; subst k; rfl
theorem tupL {a b a' b' : Int} {c c' : Bool} (h : a = a') (g : b = b') (k : c = c') : Ending.returned (.tuple #[.agg #[.int .i64 a, .int .i64 b], .bool c]) = .returned (.tuple #[.agg #[.int .i64 a', .int .i64 b'], .bool c']) := by subst h; subst g; subst k; rfl
theorem tupE {a b a' b' c c' : Int} (h : a = a') (g : b = b') (k : c = c') : Ending.returned (.tuple #[.agg #[.int .i64 a, .int .i64 b], .int .i64 c]) = .returned (.tuple #[.agg #[.int .i64 a', .int .i64 b'], .int .i64 c']) := by subst h; subst g; subst k; rfl

set_option maxRecDepth 20000 in
set_option maxHeartbeats 1600000 in
theorem scut_c (s : ByteArray) (hs : s.size ≤ 60) (w : World) :
    Calls Tryd.prog 50 #[.string s, .string ⟨#[39]⟩] w fun e w' => e = .returned (.tuple #[.string (befS s), .string (aftS s), .bool (foundB s)]) ∧ ∃ x : Aft w, w' = x.val := by
  by_cases h : Lib.indexByte s.data.toList 39 = -1
  · obtain ⟨e1, e2, e3⟩ := bytes_of_none h
    rw [e1, e2, e3]
    clear e1 e2 e3
    have HC := Lib.hid (fun w => slcut_none s hs h w)
    clear h
    go_enter Tryd.func50, Tryd.ntmps50
    go_wp2_with (go_at_call 77; refine (HC.out _).mono ?_; rintro e w' ⟨rfl, x, rfl⟩)
    go_ret3
    exact ⟨rfl, x, rfl⟩
  · obtain ⟨k, hk, hI⟩ := index_lt h
    have hk' : k < s.size := by simpa using hk
    obtain ⟨e1, e2, e3⟩ := bytes_of_some hk' hI
    rw [e1, e2, e3]
    clear e1 e2 e3
    have HC := Lib.hid (fun w => slcut_some s hs k hk' hI w)
    clear h hI hk hk'
    go_enter Tryd.func50, Tryd.ntmps50
    go_wp2_with (go_at_call 77; refine (HC.out _).mono ?_; rintro e w' ⟨rfl, x, rfl⟩)
    go_ret3
    exact ⟨rfl, x, rfl⟩

theorem pre1 (a c : UInt8) (r : List UInt8) : Lib.hasPrefix (a :: r) [c] = (c == a) := by
  show (c == a && List.isPrefixOf [] r) = _
  simp
theorem pre_head {l : List UInt8} {c : UInt8} (h : Lib.hasPrefix l [c] = true) : ∃ r, l = c :: r := by
  cases l with
  | nil => cases h
  | cons a r =>
    rw [pre1] at h
    exact ⟨r, by rw [beq_iff_eq.1 h]⟩
theorem base_of {l : List UInt8} {c : UInt8} (h : Lib.hasPrefix l [c] = true) : baseL l = baseN c.toNat ∧ 1 ≤ l.length := by
  obtain ⟨r, rfl⟩ := pre_head h
  exact ⟨rfl, by simp⟩
theorem base_none {l : List UInt8} (h0 : Lib.hasPrefix l [98] = false) (h1 : Lib.hasPrefix l [100] = false) (h2 : Lib.hasPrefix l [104] = false) : baseL l = 0 := by
  cases l with
  | nil => rfl
  | cons a r =>
    rw [pre1] at h0 h1 h2
    show baseN a.toNat = 0
    unfold baseN
    have k : ∀ c : UInt8, (c == a) = false → ¬ a.toNat = c.toNat := fun c h e => by
      rw [beq_eq_false_iff_ne] at h; exact h (UInt8.toNat_inj.1 e.symm)
    have k0 : ¬ a.toNat = 98 := k 98 h0
    have k1 : ¬ a.toNat = 100 := k 100 h1
    have k2 : ¬ a.toNat = 104 := k 104 h2
    rw [if_neg k0, if_neg k1, if_neg k2]
theorem lit_bad {l : List UInt8} (h : litOk l = false) : litW l = 0 ∧ litV l = 0 ∧ litB l = false := by simp [litW, litV, litB, h]
theorem lit_good {l : List UInt8} (h : litOk l = true) : litW l = widV (befL l) ∧ litV l = numV (baseL (aftL l)) ((aftL l).drop 1) ∧ litB l = numB (baseL (aftL l)) ((aftL l).drop 1) := by simp [litW, litV, litB, h]

set_option maxRecDepth 20000 in
set_option maxHeartbeats 1600000 in
theorem literal_0true (s : ByteArray) (hs : s.size ≤ 60) (hb : widB (befS s).data.toList = true) (p0 : Lib.hasPrefix (aftS s).data.toList (⟨#[98]⟩ : ByteArray).data.toList = true) (w : World) :
    Calls Tryd.prog 23 #[.string s] w fun e w' => e = .returned (.tuple #[.agg #[.int .i64 (litW s.data.toList), .int .i64 (litV s.data.toList)], .bool (litB s.data.toList)]) ∧ ∃ x : Aft w, w' = x.val := by
  have hs1 := befS_size s
  have hs2 := aftS_size s
  have HC := Lib.hid (fun w => scut_c s hs w)
  have HW := Lib.hid (fun w => by have h := widthOf_c (befS s) (by omega) w; rw [hb] at h; exact h)
  have HN := Lib.hid (fun S w cs ls => numerals_lit0 S (aftS s) w cs ls p0)
  have hba := base_of p0
  have ha1 : 1 ≤ (aftS s).size := by have := hba.2; simpa using this
  have ha2 : (1 : Int) ≤ (aftS s).size := by omega
  have hB : baseL (aftL s.data.toList) = 2 := hba.1
  have hok : litOk s.data.toList = true := by
    unfold litOk; rw [hB]; rw [befS_list] at hb; rw [hb]; rfl
  have HL := Lib.hid (lit_good hok)
  have HV := Lib.hid (fun w => by have h := numberOf_c ((aftS s).extract 1 (aftS s).size) 2 w (by unfold maxLen; simp; omega) (by decide) (by decide); rw [ex1 _ ha1, aftS_list] at h; exact h)
  have HB := Lib.hid hB
  clear hba hB hok hb hs1 hs2 hs p0
  go_enter Tryd.func23, Tryd.ntmps23
  go_wp2_with fail
  refine (HC.out _).mono ?_
  rintro e w' ⟨rfl, x1, rfl⟩
  have zx1_0 : w.heap.size < x1.val.heap.size := by have := x1.size; (try simp at this); omega
  go_wp2_with fail
  refine (HW.out _).mono ?_
  rintro e w' ⟨rfl, rfl⟩
  go_wp2_with fail
  refine (HN.out x1.val.heap.size _ ?c1 ?c2).mono ?_
  case c1 => simp [go_sem]
  case c2 => simp
  rintro e w' ⟨rfl, x2, rfl⟩
  have zx2_0 : w.heap.size < x2.val.heap.size := by have := x2.size; (try simp at this); omega
  have zx2_1 : x1.val.heap.size < x2.val.heap.size := by have := x2.size; (try simp at this); omega
  have c3 : x2.val.cell? ⟨x1.val.heap.size, 0, none⟩ = some (.string (aftS s)) := cell_aft x2 (by simp) (by simp [go_sem])
  go_wp2_with fail
  refine wp_region_aft (by kernel_rfl) (by kernel_rfl) ?_
  repeat (go_big_quiet_step (first | (go_at_call 53; exact Calls.qs (HV.out _))))
  refine wpQuiet_nil ?_
  intro x3
  have zx3_0 : w.heap.size < x3.val.heap.size := by have := x3.size; (try simp at this); omega
  have rr : x3.val.heap[w.heap.size]? = some (.cells #[.int .i64 0, .int .i64 0] 23) := by (repeat' (first | (with_reducible assumption) | omega | (simp only [World.size_alloc, World.size_drew, World.size_setCell]; omega) | exact heap_alloc_at (by first | rfl | (simp; done)) | (with_reducible refine heap_aft _ ?_ ?_) | (with_reducible refine heap_alloc' ?_ ?_) | (with_reducible refine heap_drew ?_)))
  have q0 := cell_block (i := 0) rr
  have f0 := free_block (i := 0) rr
  have q1 := cell_block (i := 1) rr
  have f1 := free_block (i := 1) rr
  simp at q0 q1
  have hb0' : Below w.heap.size w x3.val := by (repeat' (first | (with_reducible exact Below.refl _ _) | (with_reducible assumption) | (with_reducible assumption) | (with_reducible exact Aft.pf _) | (with_reducible refine Below.alloc ?_ ?_ _) | (with_reducible refine Below.drew ?_) | (with_reducible refine Aft.below _ ?_ ?_) | (with_reducible refine Below.setCell_new ?_ ?_ _ _) | (with_reducible exact Nat.le_refl _) | (with_reducible refine Aft.le _ ?_) | (with_reducible refine le_alloc ?_) | (with_reducible refine le_drew ?_) | (with_reducible refine le_setCell ?_) | omega))
  clear rr c3 zx1_0 zx2_0 zx2_1
  generalize x3.val = W' at *
  go_wp2
  refine bodyPost_ret (by simp [results, Tryd.results23, go_sem, q0, q1]; try rfl) rfl ?_
  exact ⟨tupL HL.out.1.symm (by rw [HL.out.2.1, HB.out]; simp) (by rw [HL.out.2.2, HB.out]; simp), Below.aft (by first | exact hb0' | (repeat' (first | (with_reducible exact Below.refl _ _) | (with_reducible assumption) | (with_reducible assumption) | (with_reducible exact Aft.pf _) | (with_reducible refine Below.alloc ?_ ?_ _) | (with_reducible refine Below.drew ?_) | (with_reducible refine Aft.below _ ?_ ?_) | (with_reducible refine Below.setCell_new ?_ ?_ _ _) | (with_reducible exact Nat.le_refl _) | (with_reducible refine Aft.le _ ?_) | (with_reducible refine le_alloc ?_) | (with_reducible refine le_drew ?_) | (with_reducible refine le_setCell ?_) | omega)))⟩

set_option maxRecDepth 20000 in
set_option maxHeartbeats 1600000 in
theorem literal_0false (s : ByteArray) (hs : s.size ≤ 60) (hb : widB (befS s).data.toList = false) (p0 : Lib.hasPrefix (aftS s).data.toList (⟨#[98]⟩ : ByteArray).data.toList = true) (w : World) :
    Calls Tryd.prog 23 #[.string s] w fun e w' => e = .returned (.tuple #[.agg #[.int .i64 (litW s.data.toList), .int .i64 (litV s.data.toList)], .bool (litB s.data.toList)]) ∧ ∃ x : Aft w, w' = x.val := by
  have hs1 := befS_size s
  have hs2 := aftS_size s
  have HC := Lib.hid (fun w => scut_c s hs w)
  have HW := Lib.hid (fun w => by have h := widthOf_c (befS s) (by omega) w; rw [hb] at h; exact h)
  have HN := Lib.hid (fun S w cs ls => numerals_lit0 S (aftS s) w cs ls p0)
  have hok : litOk s.data.toList = false := by
    unfold litOk; rw [befS_list] at hb; rw [hb]; rfl
  have HL := Lib.hid (lit_bad hok)
  clear hok hb hs1 hs2 hs p0
  go_enter Tryd.func23, Tryd.ntmps23
  go_wp2_with fail
  refine (HC.out _).mono ?_
  rintro e w' ⟨rfl, x1, rfl⟩
  have zx1_0 : w.heap.size < x1.val.heap.size := by have := x1.size; (try simp at this); omega
  go_wp2_with fail
  refine (HW.out _).mono ?_
  rintro e w' ⟨rfl, rfl⟩
  go_wp2_with fail
  refine (HN.out x1.val.heap.size _ ?c1 ?c2).mono ?_
  case c1 => simp [go_sem]
  case c2 => simp
  rintro e w' ⟨rfl, x2, rfl⟩
  have zx2_0 : w.heap.size < x2.val.heap.size := by have := x2.size; (try simp at this); omega
  have zx2_1 : x1.val.heap.size < x2.val.heap.size := by have := x2.size; (try simp at this); omega
  have rr : x2.val.heap[w.heap.size]? = some (.cells #[.int .i64 0, .int .i64 0] 23) := by (repeat' (first | (with_reducible assumption) | omega | (simp only [World.size_alloc, World.size_drew, World.size_setCell]; omega) | exact heap_alloc_at (by first | rfl | (simp; done)) | (with_reducible refine heap_aft _ ?_ ?_) | (with_reducible refine heap_alloc' ?_ ?_) | (with_reducible refine heap_drew ?_)))
  have q0 := cell_block (i := 0) rr
  have f0 := free_block (i := 0) rr
  have q1 := cell_block (i := 1) rr
  have f1 := free_block (i := 1) rr
  simp at q0 q1
  have hb0' : Below w.heap.size w x2.val := by (repeat' (first | (with_reducible exact Below.refl _ _) | (with_reducible assumption) | (with_reducible assumption) | (with_reducible exact Aft.pf _) | (with_reducible refine Below.alloc ?_ ?_ _) | (with_reducible refine Below.drew ?_) | (with_reducible refine Aft.below _ ?_ ?_) | (with_reducible refine Below.setCell_new ?_ ?_ _ _) | (with_reducible exact Nat.le_refl _) | (with_reducible refine Aft.le _ ?_) | (with_reducible refine le_alloc ?_) | (with_reducible refine le_drew ?_) | (with_reducible refine le_setCell ?_) | omega))
  clear rr zx1_0 zx2_1
  generalize x2.val = W' at *
  go_wp2
  refine bodyPost_ret (by simp [results, Tryd.results23, go_sem, q0, q1, zx2_0]; try rfl) rfl ?_
  exact ⟨tupL HL.out.1.symm HL.out.2.1.symm HL.out.2.2.symm, Below.aft (by (repeat' (first | (with_reducible exact Below.refl _ _) | (with_reducible assumption) | (with_reducible assumption) | (with_reducible exact Aft.pf _) | (with_reducible refine Below.alloc ?_ ?_ _) | (with_reducible refine Below.drew ?_) | (with_reducible refine Aft.below _ ?_ ?_) | (with_reducible refine Below.setCell_new ?_ ?_ _ _) | (with_reducible exact Nat.le_refl _) | (with_reducible refine Aft.le _ ?_) | (with_reducible refine le_alloc ?_) | (with_reducible refine le_drew ?_) | (with_reducible refine le_setCell ?_) | omega)))⟩

set_option maxRecDepth 20000 in
set_option maxHeartbeats 1600000 in
theorem literal_1true (s : ByteArray) (hs : s.size ≤ 60) (hb : widB (befS s).data.toList = true) (p0 : Lib.hasPrefix (aftS s).data.toList (⟨#[98]⟩ : ByteArray).data.toList = false) (p1 : Lib.hasPrefix (aftS s).data.toList (⟨#[100]⟩ : ByteArray).data.toList = true) (w : World) :
    Calls Tryd.prog 23 #[.string s] w fun e w' => e = .returned (.tuple #[.agg #[.int .i64 (litW s.data.toList), .int .i64 (litV s.data.toList)], .bool (litB s.data.toList)]) ∧ ∃ x : Aft w, w' = x.val := by
  have hs1 := befS_size s
  have hs2 := aftS_size s
  have HC := Lib.hid (fun w => scut_c s hs w)
  have HW := Lib.hid (fun w => by have h := widthOf_c (befS s) (by omega) w; rw [hb] at h; exact h)
  have HN := Lib.hid (fun S w cs ls => numerals_lit1 S (aftS s) w cs ls p0 p1)
  have hba := base_of p1
  have ha1 : 1 ≤ (aftS s).size := by have := hba.2; simpa using this
  have ha2 : (1 : Int) ≤ (aftS s).size := by omega
  have hB : baseL (aftL s.data.toList) = 10 := hba.1
  have hok : litOk s.data.toList = true := by
    unfold litOk; rw [hB]; rw [befS_list] at hb; rw [hb]; rfl
  have HL := Lib.hid (lit_good hok)
  have HV := Lib.hid (fun w => by have h := numberOf_c ((aftS s).extract 1 (aftS s).size) 10 w (by unfold maxLen; simp; omega) (by decide) (by decide); rw [ex1 _ ha1, aftS_list] at h; exact h)
  have HB := Lib.hid hB
  clear hba hB hok hb hs1 hs2 hs p0 p1
  go_enter Tryd.func23, Tryd.ntmps23
  go_wp2_with fail
  refine (HC.out _).mono ?_
  rintro e w' ⟨rfl, x1, rfl⟩
  have zx1_0 : w.heap.size < x1.val.heap.size := by have := x1.size; (try simp at this); omega
  go_wp2_with fail
  refine (HW.out _).mono ?_
  rintro e w' ⟨rfl, rfl⟩
  go_wp2_with fail
  refine (HN.out x1.val.heap.size _ ?c1 ?c2).mono ?_
  case c1 => simp [go_sem]
  case c2 => simp
  rintro e w' ⟨rfl, x2, rfl⟩
  have zx2_0 : w.heap.size < x2.val.heap.size := by have := x2.size; (try simp at this); omega
  have zx2_1 : x1.val.heap.size < x2.val.heap.size := by have := x2.size; (try simp at this); omega
  have c3 : x2.val.cell? ⟨x1.val.heap.size, 0, none⟩ = some (.string (aftS s)) := cell_aft x2 (by simp) (by simp [go_sem])
  go_wp2_with fail
  refine wp_region_aft (by kernel_rfl) (by kernel_rfl) ?_
  repeat (go_big_quiet_step (first | (go_at_call 53; exact Calls.qs (HV.out _))))
  refine wpQuiet_nil ?_
  intro x3
  have zx3_0 : w.heap.size < x3.val.heap.size := by have := x3.size; (try simp at this); omega
  have rr : x3.val.heap[w.heap.size]? = some (.cells #[.int .i64 0, .int .i64 0] 23) := by (repeat' (first | (with_reducible assumption) | omega | (simp only [World.size_alloc, World.size_drew, World.size_setCell]; omega) | exact heap_alloc_at (by first | rfl | (simp; done)) | (with_reducible refine heap_aft _ ?_ ?_) | (with_reducible refine heap_alloc' ?_ ?_) | (with_reducible refine heap_drew ?_)))
  have q0 := cell_block (i := 0) rr
  have f0 := free_block (i := 0) rr
  have q1 := cell_block (i := 1) rr
  have f1 := free_block (i := 1) rr
  simp at q0 q1
  have hb0' : Below w.heap.size w x3.val := by (repeat' (first | (with_reducible exact Below.refl _ _) | (with_reducible assumption) | (with_reducible assumption) | (with_reducible exact Aft.pf _) | (with_reducible refine Below.alloc ?_ ?_ _) | (with_reducible refine Below.drew ?_) | (with_reducible refine Aft.below _ ?_ ?_) | (with_reducible refine Below.setCell_new ?_ ?_ _ _) | (with_reducible exact Nat.le_refl _) | (with_reducible refine Aft.le _ ?_) | (with_reducible refine le_alloc ?_) | (with_reducible refine le_drew ?_) | (with_reducible refine le_setCell ?_) | omega))
  clear rr c3 zx1_0 zx2_0 zx2_1
  generalize x3.val = W' at *
  go_wp2
  refine bodyPost_ret (by simp [results, Tryd.results23, go_sem, q0, q1]; try rfl) rfl ?_
  exact ⟨tupL HL.out.1.symm (by rw [HL.out.2.1, HB.out]; simp) (by rw [HL.out.2.2, HB.out]; simp), Below.aft (by first | exact hb0' | (repeat' (first | (with_reducible exact Below.refl _ _) | (with_reducible assumption) | (with_reducible assumption) | (with_reducible exact Aft.pf _) | (with_reducible refine Below.alloc ?_ ?_ _) | (with_reducible refine Below.drew ?_) | (with_reducible refine Aft.below _ ?_ ?_) | (with_reducible refine Below.setCell_new ?_ ?_ _ _) | (with_reducible exact Nat.le_refl _) | (with_reducible refine Aft.le _ ?_) | (with_reducible refine le_alloc ?_) | (with_reducible refine le_drew ?_) | (with_reducible refine le_setCell ?_) | omega)))⟩

set_option maxRecDepth 20000 in
set_option maxHeartbeats 1600000 in
theorem literal_1false (s : ByteArray) (hs : s.size ≤ 60) (hb : widB (befS s).data.toList = false) (p0 : Lib.hasPrefix (aftS s).data.toList (⟨#[98]⟩ : ByteArray).data.toList = false) (p1 : Lib.hasPrefix (aftS s).data.toList (⟨#[100]⟩ : ByteArray).data.toList = true) (w : World) :
    Calls Tryd.prog 23 #[.string s] w fun e w' => e = .returned (.tuple #[.agg #[.int .i64 (litW s.data.toList), .int .i64 (litV s.data.toList)], .bool (litB s.data.toList)]) ∧ ∃ x : Aft w, w' = x.val := by
  have hs1 := befS_size s
  have hs2 := aftS_size s
  have HC := Lib.hid (fun w => scut_c s hs w)
  have HW := Lib.hid (fun w => by have h := widthOf_c (befS s) (by omega) w; rw [hb] at h; exact h)
  have HN := Lib.hid (fun S w cs ls => numerals_lit1 S (aftS s) w cs ls p0 p1)
  have hok : litOk s.data.toList = false := by
    unfold litOk; rw [befS_list] at hb; rw [hb]; rfl
  have HL := Lib.hid (lit_bad hok)
  clear hok hb hs1 hs2 hs p0 p1
  go_enter Tryd.func23, Tryd.ntmps23
  go_wp2_with fail
  refine (HC.out _).mono ?_
  rintro e w' ⟨rfl, x1, rfl⟩
  have zx1_0 : w.heap.size < x1.val.heap.size := by have := x1.size; (try simp at this); omega
  go_wp2_with fail
  refine (HW.out _).mono ?_
  rintro e w' ⟨rfl, rfl⟩
  go_wp2_with fail
  refine (HN.out x1.val.heap.size _ ?c1 ?c2).mono ?_
  case c1 => simp [go_sem]
  case c2 => simp
  rintro e w' ⟨rfl, x2, rfl⟩
  have zx2_0 : w.heap.size < x2.val.heap.size := by have := x2.size; (try simp at this); omega
  have zx2_1 : x1.val.heap.size < x2.val.heap.size := by have := x2.size; (try simp at this); omega
  have rr : x2.val.heap[w.heap.size]? = some (.cells #[.int .i64 0, .int .i64 0] 23) := by (repeat' (first | (with_reducible assumption) | omega | (simp only [World.size_alloc, World.size_drew, World.size_setCell]; omega) | exact heap_alloc_at (by first | rfl | (simp; done)) | (with_reducible refine heap_aft _ ?_ ?_) | (with_reducible refine heap_alloc' ?_ ?_) | (with_reducible refine heap_drew ?_)))
  have q0 := cell_block (i := 0) rr
  have f0 := free_block (i := 0) rr
  have q1 := cell_block (i := 1) rr
  have f1 := free_block (i := 1) rr
  simp at q0 q1
  have hb0' : Below w.heap.size w x2.val := by (repeat' (first | (with_reducible exact Below.refl _ _) | (with_reducible assumption) | (with_reducible assumption) | (with_reducible exact Aft.pf _) | (with_reducible refine Below.alloc ?_ ?_ _) | (with_reducible refine Below.drew ?_) | (with_reducible refine Aft.below _ ?_ ?_) | (with_reducible refine Below.setCell_new ?_ ?_ _ _) | (with_reducible exact Nat.le_refl _) | (with_reducible refine Aft.le _ ?_) | (with_reducible refine le_alloc ?_) | (with_reducible refine le_drew ?_) | (with_reducible refine le_setCell ?_) | omega))
  clear rr zx1_0 zx2_1
  generalize x2.val = W' at *
  go_wp2
  refine bodyPost_ret (by simp [results, Tryd.results23, go_sem, q0, q1, zx2_0]; try rfl) rfl ?_
  exact ⟨tupL HL.out.1.symm HL.out.2.1.symm HL.out.2.2.symm, Below.aft (by (repeat' (first | (with_reducible exact Below.refl _ _) | (with_reducible assumption) | (with_reducible assumption) | (with_reducible exact Aft.pf _) | (with_reducible refine Below.alloc ?_ ?_ _) | (with_reducible refine Below.drew ?_) | (with_reducible refine Aft.below _ ?_ ?_) | (with_reducible refine Below.setCell_new ?_ ?_ _ _) | (with_reducible exact Nat.le_refl _) | (with_reducible refine Aft.le _ ?_) | (with_reducible refine le_alloc ?_) | (with_reducible refine le_drew ?_) | (with_reducible refine le_setCell ?_) | omega)))⟩

set_option maxRecDepth 20000 in
set_option maxHeartbeats 1600000 in
theorem literal_2true (s : ByteArray) (hs : s.size ≤ 60) (hb : widB (befS s).data.toList = true) (p0 : Lib.hasPrefix (aftS s).data.toList (⟨#[98]⟩ : ByteArray).data.toList = false) (p1 : Lib.hasPrefix (aftS s).data.toList (⟨#[100]⟩ : ByteArray).data.toList = false) (p2 : Lib.hasPrefix (aftS s).data.toList (⟨#[104]⟩ : ByteArray).data.toList = true) (w : World) :
    Calls Tryd.prog 23 #[.string s] w fun e w' => e = .returned (.tuple #[.agg #[.int .i64 (litW s.data.toList), .int .i64 (litV s.data.toList)], .bool (litB s.data.toList)]) ∧ ∃ x : Aft w, w' = x.val := by
  have hs1 := befS_size s
  have hs2 := aftS_size s
  have HC := Lib.hid (fun w => scut_c s hs w)
  have HW := Lib.hid (fun w => by have h := widthOf_c (befS s) (by omega) w; rw [hb] at h; exact h)
  have HN := Lib.hid (fun S w cs ls => numerals_lit2 S (aftS s) w cs ls p0 p1 p2)
  have hba := base_of p2
  have ha1 : 1 ≤ (aftS s).size := by have := hba.2; simpa using this
  have ha2 : (1 : Int) ≤ (aftS s).size := by omega
  have hB : baseL (aftL s.data.toList) = 16 := hba.1
  have hok : litOk s.data.toList = true := by
    unfold litOk; rw [hB]; rw [befS_list] at hb; rw [hb]; rfl
  have HL := Lib.hid (lit_good hok)
  have HV := Lib.hid (fun w => by have h := numberOf_c ((aftS s).extract 1 (aftS s).size) 16 w (by unfold maxLen; simp; omega) (by decide) (by decide); rw [ex1 _ ha1, aftS_list] at h; exact h)
  have HB := Lib.hid hB
  clear hba hB hok hb hs1 hs2 hs p0 p1 p2
  go_enter Tryd.func23, Tryd.ntmps23
  go_wp2_with fail
  refine (HC.out _).mono ?_
  rintro e w' ⟨rfl, x1, rfl⟩
  have zx1_0 : w.heap.size < x1.val.heap.size := by have := x1.size; (try simp at this); omega
  go_wp2_with fail
  refine (HW.out _).mono ?_
  rintro e w' ⟨rfl, rfl⟩
  go_wp2_with fail
  refine (HN.out x1.val.heap.size _ ?c1 ?c2).mono ?_
  case c1 => simp [go_sem]
  case c2 => simp
  rintro e w' ⟨rfl, x2, rfl⟩
  have zx2_0 : w.heap.size < x2.val.heap.size := by have := x2.size; (try simp at this); omega
  have zx2_1 : x1.val.heap.size < x2.val.heap.size := by have := x2.size; (try simp at this); omega
  have c3 : x2.val.cell? ⟨x1.val.heap.size, 0, none⟩ = some (.string (aftS s)) := cell_aft x2 (by simp) (by simp [go_sem])
  go_wp2_with fail
  refine wp_region_aft (by kernel_rfl) (by kernel_rfl) ?_
  repeat (go_big_quiet_step (first | (go_at_call 53; exact Calls.qs (HV.out _))))
  refine wpQuiet_nil ?_
  intro x3
  have zx3_0 : w.heap.size < x3.val.heap.size := by have := x3.size; (try simp at this); omega
  have rr : x3.val.heap[w.heap.size]? = some (.cells #[.int .i64 0, .int .i64 0] 23) := by (repeat' (first | (with_reducible assumption) | omega | (simp only [World.size_alloc, World.size_drew, World.size_setCell]; omega) | exact heap_alloc_at (by first | rfl | (simp; done)) | (with_reducible refine heap_aft _ ?_ ?_) | (with_reducible refine heap_alloc' ?_ ?_) | (with_reducible refine heap_drew ?_)))
  have q0 := cell_block (i := 0) rr
  have f0 := free_block (i := 0) rr
  have q1 := cell_block (i := 1) rr
  have f1 := free_block (i := 1) rr
  simp at q0 q1
  have hb0' : Below w.heap.size w x3.val := by (repeat' (first | (with_reducible exact Below.refl _ _) | (with_reducible assumption) | (with_reducible assumption) | (with_reducible exact Aft.pf _) | (with_reducible refine Below.alloc ?_ ?_ _) | (with_reducible refine Below.drew ?_) | (with_reducible refine Aft.below _ ?_ ?_) | (with_reducible refine Below.setCell_new ?_ ?_ _ _) | (with_reducible exact Nat.le_refl _) | (with_reducible refine Aft.le _ ?_) | (with_reducible refine le_alloc ?_) | (with_reducible refine le_drew ?_) | (with_reducible refine le_setCell ?_) | omega))
  clear rr c3 zx1_0 zx2_0 zx2_1
  generalize x3.val = W' at *
  go_wp2
  refine bodyPost_ret (by simp [results, Tryd.results23, go_sem, q0, q1]; try rfl) rfl ?_
  exact ⟨tupL HL.out.1.symm (by rw [HL.out.2.1, HB.out]; simp) (by rw [HL.out.2.2, HB.out]; simp), Below.aft (by first | exact hb0' | (repeat' (first | (with_reducible exact Below.refl _ _) | (with_reducible assumption) | (with_reducible assumption) | (with_reducible exact Aft.pf _) | (with_reducible refine Below.alloc ?_ ?_ _) | (with_reducible refine Below.drew ?_) | (with_reducible refine Aft.below _ ?_ ?_) | (with_reducible refine Below.setCell_new ?_ ?_ _ _) | (with_reducible exact Nat.le_refl _) | (with_reducible refine Aft.le _ ?_) | (with_reducible refine le_alloc ?_) | (with_reducible refine le_drew ?_) | (with_reducible refine le_setCell ?_) | omega)))⟩

set_option maxRecDepth 20000 in
set_option maxHeartbeats 1600000 in
theorem literal_2false (s : ByteArray) (hs : s.size ≤ 60) (hb : widB (befS s).data.toList = false) (p0 : Lib.hasPrefix (aftS s).data.toList (⟨#[98]⟩ : ByteArray).data.toList = false) (p1 : Lib.hasPrefix (aftS s).data.toList (⟨#[100]⟩ : ByteArray).data.toList = false) (p2 : Lib.hasPrefix (aftS s).data.toList (⟨#[104]⟩ : ByteArray).data.toList = true) (w : World) :
    Calls Tryd.prog 23 #[.string s] w fun e w' => e = .returned (.tuple #[.agg #[.int .i64 (litW s.data.toList), .int .i64 (litV s.data.toList)], .bool (litB s.data.toList)]) ∧ ∃ x : Aft w, w' = x.val := by
  have hs1 := befS_size s
  have hs2 := aftS_size s
  have HC := Lib.hid (fun w => scut_c s hs w)
  have HW := Lib.hid (fun w => by have h := widthOf_c (befS s) (by omega) w; rw [hb] at h; exact h)
  have HN := Lib.hid (fun S w cs ls => numerals_lit2 S (aftS s) w cs ls p0 p1 p2)
  have hok : litOk s.data.toList = false := by
    unfold litOk; rw [befS_list] at hb; rw [hb]; rfl
  have HL := Lib.hid (lit_bad hok)
  clear hok hb hs1 hs2 hs p0 p1 p2
  go_enter Tryd.func23, Tryd.ntmps23
  go_wp2_with fail
  refine (HC.out _).mono ?_
  rintro e w' ⟨rfl, x1, rfl⟩
  have zx1_0 : w.heap.size < x1.val.heap.size := by have := x1.size; (try simp at this); omega
  go_wp2_with fail
  refine (HW.out _).mono ?_
  rintro e w' ⟨rfl, rfl⟩
  go_wp2_with fail
  refine (HN.out x1.val.heap.size _ ?c1 ?c2).mono ?_
  case c1 => simp [go_sem]
  case c2 => simp
  rintro e w' ⟨rfl, x2, rfl⟩
  have zx2_0 : w.heap.size < x2.val.heap.size := by have := x2.size; (try simp at this); omega
  have zx2_1 : x1.val.heap.size < x2.val.heap.size := by have := x2.size; (try simp at this); omega
  have rr : x2.val.heap[w.heap.size]? = some (.cells #[.int .i64 0, .int .i64 0] 23) := by (repeat' (first | (with_reducible assumption) | omega | (simp only [World.size_alloc, World.size_drew, World.size_setCell]; omega) | exact heap_alloc_at (by first | rfl | (simp; done)) | (with_reducible refine heap_aft _ ?_ ?_) | (with_reducible refine heap_alloc' ?_ ?_) | (with_reducible refine heap_drew ?_)))
  have q0 := cell_block (i := 0) rr
  have f0 := free_block (i := 0) rr
  have q1 := cell_block (i := 1) rr
  have f1 := free_block (i := 1) rr
  simp at q0 q1
  have hb0' : Below w.heap.size w x2.val := by (repeat' (first | (with_reducible exact Below.refl _ _) | (with_reducible assumption) | (with_reducible assumption) | (with_reducible exact Aft.pf _) | (with_reducible refine Below.alloc ?_ ?_ _) | (with_reducible refine Below.drew ?_) | (with_reducible refine Aft.below _ ?_ ?_) | (with_reducible refine Below.setCell_new ?_ ?_ _ _) | (with_reducible exact Nat.le_refl _) | (with_reducible refine Aft.le _ ?_) | (with_reducible refine le_alloc ?_) | (with_reducible refine le_drew ?_) | (with_reducible refine le_setCell ?_) | omega))
  clear rr zx1_0 zx2_1
  generalize x2.val = W' at *
  go_wp2
  refine bodyPost_ret (by simp [results, Tryd.results23, go_sem, q0, q1, zx2_0]; try rfl) rfl ?_
  exact ⟨tupL HL.out.1.symm HL.out.2.1.symm HL.out.2.2.symm, Below.aft (by (repeat' (first | (with_reducible exact Below.refl _ _) | (with_reducible assumption) | (with_reducible assumption) | (with_reducible exact Aft.pf _) | (with_reducible refine Below.alloc ?_ ?_ _) | (with_reducible refine Below.drew ?_) | (with_reducible refine Aft.below _ ?_ ?_) | (with_reducible refine Below.setCell_new ?_ ?_ _ _) | (with_reducible exact Nat.le_refl _) | (with_reducible refine Aft.le _ ?_) | (with_reducible refine le_alloc ?_) | (with_reducible refine le_drew ?_) | (with_reducible refine le_setCell ?_) | omega)))⟩

set_option maxRecDepth 20000 in
set_option maxHeartbeats 1600000 in
theorem literal_3true (s : ByteArray) (hs : s.size ≤ 60) (hb : widB (befS s).data.toList = true) (p0 : Lib.hasPrefix (aftS s).data.toList (⟨#[98]⟩ : ByteArray).data.toList = false) (p1 : Lib.hasPrefix (aftS s).data.toList (⟨#[100]⟩ : ByteArray).data.toList = false) (p2 : Lib.hasPrefix (aftS s).data.toList (⟨#[104]⟩ : ByteArray).data.toList = false) (w : World) :
    Calls Tryd.prog 23 #[.string s] w fun e w' => e = .returned (.tuple #[.agg #[.int .i64 (litW s.data.toList), .int .i64 (litV s.data.toList)], .bool (litB s.data.toList)]) ∧ ∃ x : Aft w, w' = x.val := by
  have hs1 := befS_size s
  have hs2 := aftS_size s
  have HC := Lib.hid (fun w => scut_c s hs w)
  have HW := Lib.hid (fun w => by have h := widthOf_c (befS s) (by omega) w; rw [hb] at h; exact h)
  have HN := Lib.hid (fun S w cs ls => numerals_lit3 S (aftS s) w cs ls p0 p1 p2)
  have hok : litOk s.data.toList = false := by
    unfold litOk; have e := base_none p0 p1 p2; rw [aftS_list] at e; rw [e]; simp
  have HL := Lib.hid (lit_bad hok)
  clear hok hb hs1 hs2 hs p0 p1 p2
  go_enter Tryd.func23, Tryd.ntmps23
  go_wp2_with fail
  refine (HC.out _).mono ?_
  rintro e w' ⟨rfl, x1, rfl⟩
  have zx1_0 : w.heap.size < x1.val.heap.size := by have := x1.size; (try simp at this); omega
  go_wp2_with fail
  refine (HW.out _).mono ?_
  rintro e w' ⟨rfl, rfl⟩
  go_wp2_with fail
  refine (HN.out x1.val.heap.size _ ?c1 ?c2).mono ?_
  case c1 => simp [go_sem]
  case c2 => simp
  rintro e w' ⟨rfl, x2, rfl⟩
  have zx2_0 : w.heap.size < x2.val.heap.size := by have := x2.size; (try simp at this); omega
  have zx2_1 : x1.val.heap.size < x2.val.heap.size := by have := x2.size; (try simp at this); omega
  have rr : x2.val.heap[w.heap.size]? = some (.cells #[.int .i64 0, .int .i64 0] 23) := by (repeat' (first | (with_reducible assumption) | omega | (simp only [World.size_alloc, World.size_drew, World.size_setCell]; omega) | exact heap_alloc_at (by first | rfl | (simp; done)) | (with_reducible refine heap_aft _ ?_ ?_) | (with_reducible refine heap_alloc' ?_ ?_) | (with_reducible refine heap_drew ?_)))
  have q0 := cell_block (i := 0) rr
  have f0 := free_block (i := 0) rr
  have q1 := cell_block (i := 1) rr
  have f1 := free_block (i := 1) rr
  simp at q0 q1
  have hb0' : Below w.heap.size w x2.val := by (repeat' (first | (with_reducible exact Below.refl _ _) | (with_reducible assumption) | (with_reducible assumption) | (with_reducible exact Aft.pf _) | (with_reducible refine Below.alloc ?_ ?_ _) | (with_reducible refine Below.drew ?_) | (with_reducible refine Aft.below _ ?_ ?_) | (with_reducible refine Below.setCell_new ?_ ?_ _ _) | (with_reducible exact Nat.le_refl _) | (with_reducible refine Aft.le _ ?_) | (with_reducible refine le_alloc ?_) | (with_reducible refine le_drew ?_) | (with_reducible refine le_setCell ?_) | omega))
  clear rr zx1_0 zx2_1
  generalize x2.val = W' at *
  go_wp2
  refine bodyPost_ret (by simp [results, Tryd.results23, go_sem, q0, q1, zx2_0]; try rfl) rfl ?_
  exact ⟨tupL HL.out.1.symm HL.out.2.1.symm HL.out.2.2.symm, Below.aft (by (repeat' (first | (with_reducible exact Below.refl _ _) | (with_reducible assumption) | (with_reducible assumption) | (with_reducible exact Aft.pf _) | (with_reducible refine Below.alloc ?_ ?_ _) | (with_reducible refine Below.drew ?_) | (with_reducible refine Aft.below _ ?_ ?_) | (with_reducible refine Below.setCell_new ?_ ?_ _ _) | (with_reducible exact Nat.le_refl _) | (with_reducible refine Aft.le _ ?_) | (with_reducible refine le_alloc ?_) | (with_reducible refine le_drew ?_) | (with_reducible refine le_setCell ?_) | omega)))⟩

set_option maxRecDepth 20000 in
set_option maxHeartbeats 1600000 in
theorem literal_3false (s : ByteArray) (hs : s.size ≤ 60) (hb : widB (befS s).data.toList = false) (p0 : Lib.hasPrefix (aftS s).data.toList (⟨#[98]⟩ : ByteArray).data.toList = false) (p1 : Lib.hasPrefix (aftS s).data.toList (⟨#[100]⟩ : ByteArray).data.toList = false) (p2 : Lib.hasPrefix (aftS s).data.toList (⟨#[104]⟩ : ByteArray).data.toList = false) (w : World) :
    Calls Tryd.prog 23 #[.string s] w fun e w' => e = .returned (.tuple #[.agg #[.int .i64 (litW s.data.toList), .int .i64 (litV s.data.toList)], .bool (litB s.data.toList)]) ∧ ∃ x : Aft w, w' = x.val := by
  have hs1 := befS_size s
  have hs2 := aftS_size s
  have HC := Lib.hid (fun w => scut_c s hs w)
  have HW := Lib.hid (fun w => by have h := widthOf_c (befS s) (by omega) w; rw [hb] at h; exact h)
  have HN := Lib.hid (fun S w cs ls => numerals_lit3 S (aftS s) w cs ls p0 p1 p2)
  have hok : litOk s.data.toList = false := by
    unfold litOk; rw [befS_list] at hb; rw [hb]; rfl
  have HL := Lib.hid (lit_bad hok)
  clear hok hb hs1 hs2 hs p0 p1 p2
  go_enter Tryd.func23, Tryd.ntmps23
  go_wp2_with fail
  refine (HC.out _).mono ?_
  rintro e w' ⟨rfl, x1, rfl⟩
  have zx1_0 : w.heap.size < x1.val.heap.size := by have := x1.size; (try simp at this); omega
  go_wp2_with fail
  refine (HW.out _).mono ?_
  rintro e w' ⟨rfl, rfl⟩
  go_wp2_with fail
  refine (HN.out x1.val.heap.size _ ?c1 ?c2).mono ?_
  case c1 => simp [go_sem]
  case c2 => simp
  rintro e w' ⟨rfl, x2, rfl⟩
  have zx2_0 : w.heap.size < x2.val.heap.size := by have := x2.size; (try simp at this); omega
  have zx2_1 : x1.val.heap.size < x2.val.heap.size := by have := x2.size; (try simp at this); omega
  have rr : x2.val.heap[w.heap.size]? = some (.cells #[.int .i64 0, .int .i64 0] 23) := by (repeat' (first | (with_reducible assumption) | omega | (simp only [World.size_alloc, World.size_drew, World.size_setCell]; omega) | exact heap_alloc_at (by first | rfl | (simp; done)) | (with_reducible refine heap_aft _ ?_ ?_) | (with_reducible refine heap_alloc' ?_ ?_) | (with_reducible refine heap_drew ?_)))
  have q0 := cell_block (i := 0) rr
  have f0 := free_block (i := 0) rr
  have q1 := cell_block (i := 1) rr
  have f1 := free_block (i := 1) rr
  simp at q0 q1
  have hb0' : Below w.heap.size w x2.val := by (repeat' (first | (with_reducible exact Below.refl _ _) | (with_reducible assumption) | (with_reducible assumption) | (with_reducible exact Aft.pf _) | (with_reducible refine Below.alloc ?_ ?_ _) | (with_reducible refine Below.drew ?_) | (with_reducible refine Aft.below _ ?_ ?_) | (with_reducible refine Below.setCell_new ?_ ?_ _ _) | (with_reducible exact Nat.le_refl _) | (with_reducible refine Aft.le _ ?_) | (with_reducible refine le_alloc ?_) | (with_reducible refine le_drew ?_) | (with_reducible refine le_setCell ?_) | omega))
  clear rr zx1_0 zx2_1
  generalize x2.val = W' at *
  go_wp2
  refine bodyPost_ret (by simp [results, Tryd.results23, go_sem, q0, q1, zx2_0]; try rfl) rfl ?_
  exact ⟨tupL HL.out.1.symm HL.out.2.1.symm HL.out.2.2.symm, Below.aft (by (repeat' (first | (with_reducible exact Below.refl _ _) | (with_reducible assumption) | (with_reducible assumption) | (with_reducible exact Aft.pf _) | (with_reducible refine Below.alloc ?_ ?_ _) | (with_reducible refine Below.drew ?_) | (with_reducible refine Aft.below _ ?_ ?_) | (with_reducible refine Below.setCell_new ?_ ?_ _ _) | (with_reducible exact Nat.le_refl _) | (with_reducible refine Aft.le _ ?_) | (with_reducible refine le_alloc ?_) | (with_reducible refine le_drew ?_) | (with_reducible refine le_setCell ?_) | omega)))⟩

theorem literal_c (s : ByteArray) (hs : s.size ≤ 60) (w : World) :
    Calls Tryd.prog 23 #[.string s] w fun e w' => e = .returned (.tuple #[.agg #[.int .i64 (litW s.data.toList), .int .i64 (litV s.data.toList)], .bool (litB s.data.toList)]) ∧ ∃ x : Aft w, w' = x.val := by
  cases p0 : Lib.hasPrefix (aftS s).data.toList (⟨#[98]⟩ : ByteArray).data.toList
  case true => cases hb : widB (befS s).data.toList; exact literal_0false s hs hb p0 w; exact literal_0true s hs hb p0 w
  cases p1 : Lib.hasPrefix (aftS s).data.toList (⟨#[100]⟩ : ByteArray).data.toList
  case true => cases hb : widB (befS s).data.toList; exact literal_1false s hs hb p0 p1 w; exact literal_1true s hs hb p0 p1 w
  cases p2 : Lib.hasPrefix (aftS s).data.toList (⟨#[104]⟩ : ByteArray).data.toList
  case true => cases hb : widB (befS s).data.toList; exact literal_2false s hs hb p0 p1 p2 w; exact literal_2true s hs hb p0 p1 p2 w
  cases hb : widB (befS s).data.toList
  · exact literal_3false s hs hb p0 p1 p2 w
  · exact literal_3true s hs hb p0 p1 p2 w

end Go.Proofs.YtlplphigjejahaaDoor
