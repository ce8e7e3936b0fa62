/-
  Chapter 2 (graph): the errors of leaves and nodes, as plain functions; small lemmas.
-/
import Derived.Test.YtkdonapgonegkaaDoorProg
import Derived.Test.YtkdonapgonegkaaDoorQA
set_option linter.unusedSimpArgs false
set_option linter.unusedVariables false
namespace Go.Proofs.YtkdonapgonegkaaDoor
open Go.RowKit Go.BigFrame

def eIf (b : Bool) (e : Int) : Int := if b then e else 0
def fl (b : Bool) : Int := if b then 1 else 0
def isW (n : Int) : Bool := decide (1 ≤ n) && decide (n ≤ 16)
def firstE : List Int → Int
  | [] => 0
  | e :: r => if e = 0 then firstE r else e
theorem isW_iff {n : Int} : isW n = true ↔ 1 ≤ n ∧ n ≤ 16 := by simp [isW]
theorem firstE_drop (es : List Int) (k : Nat) (h : k < es.length) (h0 : es.getD k 0 = 0) : firstE (es.drop k) = firstE (es.drop (k + 1)) := by
  rw [List.drop_eq_getElem_cons h, firstE, if_pos (by simpa [h] using h0)]
theorem firstE_at (es : List Int) (k : Nat) (h : k < es.length) (h0 : es.getD k 0 ≠ 0) : firstE (es.drop k) = es.getD k 0 := by
  rw [List.drop_eq_getElem_cons h, firstE, if_neg (by simpa [h] using h0)]; simp [h]

def win (n lo hi : Int) : Bool := decide (lo ≤ n) && decide (n ≤ hi)
theorem firstE_cons (e : Int) (l : List Int) : firstE (e :: l) = if e = 0 then firstE l else e := rfl
theorem firstE_one (e : Int) : firstE [e] = e := by simp [firstE]; intro h; exact h.symm

/-- A node: its operation, its width, its arguments, its number. -/
structure Nd where
  op : Int
  wd : Int
  args : List Int
  v : Int
def isIx (i n : Int) : Bool := decide (0 ≤ i) && decide (i < n)
theorem isIx_win (i n : Int) : isIx i n = win i 0 (n - 1) := by
  unfold isIx win; rw [Bool.eq_iff_iff]; simp; omega
theorem isIx_true {i n : Int} (h0 : 0 ≤ i) (h1 : i < n) : isIx i n = true := by simp [isIx, h0, h1]
theorem isIx_iff {i n : Int} : isIx i n = true ↔ 0 ≤ i ∧ i < n := by simp [isIx]
def argN (op : Int) : Int := if op = 0 ∨ op = 1 then 0 else if op = 2 ∨ op = 14 ∨ op = 15 ∨ op = 16 then 1 else if op = 12 then 3 else 2
def fitW (op wd v a b c : Int) : Bool :=
  if op = 2 ∨ op = 17 ∨ op = 18 then a == wd
  else if 3 ≤ op ∧ op ≤ 8 then a == wd && b == wd
  else if 9 ≤ op ∧ op ≤ 11 then a == b && wd == 1
  else if op = 12 then a == 1 && b == wd && c == wd
  else if op = 13 then a + b == wd
  else if op = 14 then decide (v + wd ≤ a)
  else if op = 15 ∨ op = 16 then decide (a ≤ wd)
  else true
def isV (v wd : Int) : Bool := decide (0 ≤ v) && decide (v ≤ pw wd - 1)
def numE (ls : List Int) (op wd v : Int) : Int :=
  if op = 0 then eIf (!isV v wd) 2
  else if op = 1 then (if isIx v ls.length then eIf (ls.getD v.toNat 0 != wd) 25 else 6)
  else if op = 14 then eIf (!isIx v 16) 2
  else eIf (v != 0) 3
def argsE (args : List Int) (n : Int) (e : Int) : Int := if args.all fun i => isIx i n then 0 else e
def wAt (before : List Nd) (args : List Int) (k : Nat) : Int := match args[k]? with
  | none => 0
  | some i => match before[i.toNat]? with | none => 0 | some n => n.wd
def nodeE (ls : List Int) (before : List Nd) (n : Nd) : Int :=
  if isIx n.op 19 then
    if isW n.wd then
      let e := firstE [eIf ((n.args.length : Int) != argN n.op) 10, argsE n.args before.length 9, numE ls n.op n.wd n.v]
      if e = 0 then eIf (!fitW n.op n.wd n.v (wAt before n.args 0) (wAt before n.args 1) (wAt before n.args 2)) 25 else e
    else 2
  else 15
/-- The first place with an error, and the error. -/
def firstAt (f : Nat → Int) : Nat → Nat → Int × Int
  | 0, _ => (0, 0)
  | n + 1, k => if f k = 0 then firstAt f n (k + 1) else ((k : Int), f k)
theorem firstAt_step {f : Nat → Int} {n k : Nat} (h : k < n) : firstAt f (n - k) k = if f k = 0 then firstAt f (n - (k + 1)) (k + 1) else ((k : Int), f k) := by
  obtain ⟨m, hm⟩ : ∃ m, n - k = m + 1 := ⟨n - k - 1, by omega⟩
  rw [hm, show n - (k + 1) = m by omega]; rfl
theorem firstAt_end {f : Nat → Int} {n k : Nat} (h : n ≤ k) : firstAt f (n - k) k = (0, 0) := by
  rw [show n - k = 0 by omega]; rfl
def leafE (ls : List Int) (k : Nat) : Int := eIf (!isW (ls.getD k 0)) 2
def nodesE (ls : List Int) (ns : List Nd) (k : Nat) : Int := match ns[k]? with | none => 0 | some n => nodeE ls (ns.take k) n
def chk (ls : List Int) (ns : List Nd) : Int × Int :=
  if 40 < ls.length then (0, 8)
  else if (firstAt (leafE ls) ls.length 0).2 = 0 then
    (if 400 < ns.length then (0, 8) else firstAt (nodesE ls ns) ns.length 0)
  else firstAt (leafE ls) ls.length 0

theorem addB (a : Addr) (n : Nat) : (a.add n).block = a.block := by unfold Addr.add; split <;> rfl
@[go_sem] theorem Aft.cell_add {W : World} (x : Aft W) (a : Addr) (k : Nat) (h : (a.add k).block < W.heap.size) : x.val.cell? (a.add k) = W.cell? (a.add k) := x.pf.cell (p := a.add k) h

/-- The slice at A reads as the list ns of numbers. -/
def LiesI (w : World) (A : Option Addr) (ns : List Int) : Prop :=
  0 < ns.length → ∃ ad, A = some ad ∧ ad.block < w.heap.size ∧ ∀ i x, ns[i]? = some x → w.cell? (ad.add i) = some (.int .i64 x)
theorem LiesI.aft {w : World} {A : Option Addr} {ns : List Int} (h : LiesI w A ns) (x : Aft w) : LiesI x.val A ns := fun hp => by
  obtain ⟨ad, rfl, hb, hc⟩ := h hp
  exact ⟨ad, rfl, x.lt' hb, fun i z hi => (x.pf.cell (p := ad.add i) (by rw [addB]; exact hb)).trans (hc i z hi)⟩
theorem LiesI.take {w : World} {A : Option Addr} {ns : List Int} (h : LiesI w A ns) (k : Nat) : LiesI w A (ns.take k) := fun hp => by
  obtain ⟨ad, rfl, hb, hc⟩ := h (by simp at hp; omega)
  refine ⟨ad, rfl, hb, fun i z hi => hc i z ?_⟩
  rw [List.getElem?_take] at hi
  split at hi
  · exact hi
  · cases hi


/-- A slice of nodes in memory. -/
def LiesN (w : World) (A : Option Addr) (ns : List Nd) : Prop :=
  0 < ns.length → ∃ ad, A = some ad ∧ ad.block < w.heap.size ∧ ∀ i n, ns[i]? = some n →
    w.cell? (ad.add (i * 4)) = some (.int .i64 n.op) ∧ w.cell? ((ad.add (i * 4)).add 1) = some (.int .i64 n.wd) ∧ w.cell? ((ad.add (i * 4)).add 3) = some (.int .i64 n.v) ∧
    ∃ B cap, w.cell? ((ad.add (i * 4)).add 2) = some (.slice B n.args.length cap) ∧ LiesI w B n.args
theorem LiesN.aft {w : World} {A : Option Addr} {ns : List Nd} (h : LiesN w A ns) (x : Aft w) : LiesN x.val A ns := fun hp => by
  obtain ⟨ad, rfl, hb, hc⟩ := h hp
  refine ⟨ad, rfl, x.lt' hb, fun i n hi => ?_⟩
  obtain ⟨c0, c1, c3, B, cap, c2, hl⟩ := hc i n hi
  have k : ∀ q : Addr, q.block = ad.block → x.val.cell? q = w.cell? q := fun q hq => x.pf.cell (p := q) (by rw [hq]; exact hb)
  exact ⟨(k _ (by rw [addB])).trans c0, (k _ (by rw [addB, addB])).trans c1, (k _ (by rw [addB, addB])).trans c3, B, cap, (k _ (by rw [addB, addB])).trans c2, hl.aft x⟩
end Go.Proofs.YtkdonapgonegkaaDoor

set_option linter.unusedSimpArgs false
set_option linter.unusedVariables false
namespace Go.Proofs.YtkdonapgonegkaaDoor
open Go.RowKit Go.BigFrame

theorem isWidth_c (n : Int) (w : World) :
    Calls Tryd.prog 48 #[.int .i64 n] w fun e w' => e = .returned (.bool (isW n)) ∧ w = w' := by
  unfold isW
  by_cases h1 : 1 ≤ n
  all_goals
    go_enter Tryd.func48, Tryd.ntmps48
    go_wp2
    go_ret
    exact ⟨by simp [Int.not_le, *]; try omega, rfl⟩
theorem errorIf_c (b : Bool) (e0 : Int) (w : World) :
    Calls Tryd.prog 47 #[.bool b, .int .i64 e0] w fun e w' => e = .returned (.int .i64 (eIf b e0)) ∧ w = w' := by
  unfold eIf
  go_enter Tryd.func47, Tryd.ntmps47
  go_wp2
  all_goals (go_ret; exact ⟨by simp [*], rfl⟩)
theorem highest_c (n : Int) (h1 : 0 ≤ n) (h2 : n ≤ 16) (w : World) :
    Calls Tryd.prog 91 #[.int .i64 n] w fun e w' => e = .returned (.int .i64 (pw n - 1)) ∧ w = w' := by
  have hp := pw_bd h1 h2
  unfold pw at *
  go_enter Tryd.func91, Tryd.ntmps91
  go_wp2
  go_ret
  exact ⟨rfl, rfl⟩
theorem firstError_c (b : Nat) (es : List Int) (hl : es.length ≤ 100) (w : World) (hc : ∀ i, i < es.length → w.cell? ⟨b, i, none⟩ = some (.int .i64 (es.getD i 0))) :
    Calls Tryd.prog 65 #[.slice (some ⟨b, 0, none⟩) es.length es.length] w fun e w' => e = .returned (.int .i64 (firstE es)) ∧ w = w' := by
  go_enter Tryd.func65, Tryd.ntmps65
  go_wp2
  go_loop [7] (fun i => ∃ k : Nat, k ≤ es.length ∧ i = .int .i64 k ∧ firstE es = firstE (es.drop k)) (fun i => es.length - (intOf i).toNat)
  case atStart => exact ⟨0, Nat.zero_le _, rfl, rfl⟩
  case round =>
    obtain ⟨k, hk, rfl, hf⟩ := hrel
    have Hf := Lib.hid hf
    clear hf
    by_cases hlt : k < es.length
    · have hk1 := hc k hlt
      clear hc
      by_cases h0 : es.getD k 0 = 0
      · have hn := firstE_drop es k hlt h0
        have Hn := Lib.hid hn
        rw [h0] at hk1
        clear hn h0
        go_wp2
        go_round
        case rel => exact ⟨k + 1, by omega, by go_num, Hf.out.trans Hn.out⟩
        case measure => simp [intOf]; omega
      · have hn := firstE_at es k hlt h0
        have Hn := Lib.hid hn
        clear hn
        generalize es.getD k 0 = x at *
        have h0' : (x == 0) = false := by simpa using h0
        go_wp2
        go_ret
        refine ⟨?_, rfl⟩
        rw [Hf.out, Hn.out]; rfl
    · go_wp2
      go_ret
      refine ⟨?_, rfl⟩
      rw [Hf.out, List.drop_of_length_le (by omega)]; rfl
theorem firstError3 (b : Nat) (e0 e1 e2 : Int) (T : TypeId) (fr : Nat × Nat) (w : World) (hc : w.heap[b]? = some (.cells #[.int .i64 e0, .int .i64 e1, .int .i64 e2] T fr)) :
    Calls Tryd.prog 65 #[.slice (some ⟨b, 0, none⟩) 3 3] w fun e w' => e = .returned (.int .i64 (firstE [e0, e1, e2])) ∧ w = w' := by
  refine firstError_c b [e0, e1, e2] (by simp) w fun i hi => ?_
  have hi' : i < 3 := hi
  simp only [World.cell?, hc]
  rcases i with _ | _ | _ | i <;> first | rfl | omega
theorem firstError2 (b : Nat) (e0 e1 : Int) (T : TypeId) (fr : Nat × Nat) (w : World) (hc : w.heap[b]? = some (.cells #[.int .i64 e0, .int .i64 e1] T fr)) :
    Calls Tryd.prog 65 #[.slice (some ⟨b, 0, none⟩) 2 2] w fun e w' => e = .returned (.int .i64 (firstE [e0, e1])) ∧ w = w' := by
  refine firstError_c b [e0, e1] (by simp) w fun i hi => ?_
  have hi' : i < 2 := hi
  simp only [World.cell?, hc]
  rcases i with _ | _ | i <;> first | rfl | omega

theorem Within_c (n lo hi : Int) (w : World) :
    Calls Tryd.prog 31 #[.int .i64 n, .int .i64 lo, .int .i64 hi] w fun e w' => e = .returned (.bool (win n lo hi)) ∧ w = w' := by
  unfold win
  by_cases h1 : lo ≤ n
  all_goals
    go_enter Tryd.func31, Tryd.ntmps31
    go_wp2
    go_ret
    exact ⟨by simp [Int.not_le, *]; try omega, rfl⟩
theorem IsWidth_c (n : Int) (w : World) :
    Calls Tryd.prog 52 #[.int .i64 n] w fun e w' => e = .returned (.bool (isW n)) ∧ w = w' := by
  go_enter Tryd.func52, Tryd.ntmps52
  go_wp2_with (first | (go_at_call 31; refine (Within_c _ _ _ _).mono ?_; rintro e w' ⟨rfl, rfl⟩))
  go_ret
  exact ⟨rfl, rfl⟩
theorem Power_c (n : Int) (h1 : 0 ≤ n) (h2 : n ≤ 61) (w : World) :
    Calls Tryd.prog 41 #[.int .i64 n] w fun e w' => e = .returned (.int .i64 (pw n)) ∧ w = w' := by
  have hp := pw_le h1 h2
  unfold pw at *
  go_enter Tryd.func41, Tryd.ntmps41
  go_wp2
  go_ret
  exact ⟨rfl, rfl⟩
def fits (n wd : Int) : Bool := win n 0 (pw wd - 1)
theorem Fits_c (n wd : Int) (h1 : 0 ≤ wd) (h2 : wd ≤ 61) (w : World) :
    Calls Tryd.prog 32 #[.int .i64 n, .int .i64 wd] w fun e w' => e = .returned (.bool (fits n wd)) ∧ w = w' := by
  have hp := pw_le h1 h2
  go_enter Tryd.func32, Tryd.ntmps32
  go_wp2_with (first | (go_at_call 41; refine (Power_c _ (by omega) (by omega) _).mono ?_; rintro e w' ⟨rfl, rfl⟩) | (go_at_call 31; refine (Within_c _ _ _ _).mono ?_; rintro e w' ⟨rfl, rfl⟩))
  go_ret
  exact ⟨rfl, rfl⟩


theorem isIndex_c (i n : Int) (w : World) :
    Calls Tryd.prog 66 #[.int .i64 i, .int .i64 n] w fun e w' => e = .returned (.bool (isIx i n)) ∧ w = w' := by
  unfold isIx
  by_cases h1 : 0 ≤ i
  all_goals
    go_enter Tryd.func66, Tryd.ntmps66
    go_wp2
    go_ret
    exact ⟨by simp [Int.not_le, *]; try omega, rfl⟩
theorem isValue_c (v wd : Int) (h1 : 0 ≤ wd) (h2 : wd ≤ 16) (w : World) :
    Calls Tryd.prog 67 #[.int .i64 v, .int .i64 wd] w fun e w' => e = .returned (.bool (isV v wd)) ∧ w = w' := by
  unfold isV
  by_cases h : 0 ≤ v
  all_goals
    go_enter Tryd.func67, Tryd.ntmps67
    go_wp2_with (go_at_call 91; refine (highest_c _ h1 h2 _).mono ?_; rintro e w' ⟨rfl, rfl⟩)
    go_ret
    exact ⟨by simp [Int.not_le, *]; try omega, rfl⟩
end Go.Proofs.YtkdonapgonegkaaDoor

set_option linter.unusedSimpArgs false
set_option linter.unusedVariables false
namespace Go.Proofs.YtkdonapgonegkaaDoor
open Go.RowKit Go.BigFrame

theorem firstAt_go {E : Nat → Int} {n k : Nat} (h : k < n) (h0 : E k = 0) : firstAt E (n - k) k = firstAt E (n - (k + 1)) (k + 1) := by rw [firstAt_step h, if_pos h0]
theorem firstAt_stop {E : Nat → Int} {n k : Nat} (h : k < n) (h0 : ¬ E k = 0) : firstAt E (n - k) k = ((k : Int), E k) := by rw [firstAt_step h, if_neg h0]
theorem tupII {a a' b b' : Int} (h : a = a') (g : b = b') : Ending.returned (.tuple #[.int .i64 a, .int .i64 b]) = .returned (.tuple #[.int .i64 a', .int .i64 b']) := by subst h; subst g; rfl
theorem LiesI.cell {w : World} {A : Option Addr} {ns : List Int} (h : LiesI w A ns) {k : Nat} {x : Int} (hx : ns[k]? = some x) : ∃ ad, A = some ad ∧ ad.block < w.heap.size ∧ w.cell? (ad.add k) = some (.int .i64 x) := by
  obtain ⟨ad, rfl, hb, hc⟩ := h (by have := (List.getElem?_eq_some_iff.1 hx).1; omega)
  exact ⟨ad, rfl, hb, hc k x hx⟩
theorem LiesI.below {w W : World} {A : Option Addr} {ns : List Int} (h : LiesI w A ns) (hb : Below w.heap.size w W) : LiesI W A ns := h.aft ⟨W, hb⟩
theorem LiesN.below {w W : World} {A : Option Addr} {ns : List Nd} (h : LiesN w A ns) (hb : Below w.heap.size w W) : LiesN W A ns := h.aft ⟨W, hb⟩
theorem LiesN.cells {w : World} {A : Option Addr} {ns : List Nd} (h : LiesN w A ns) {k : Nat} {n : Nd} (hx : ns[k]? = some n) : ∃ ad, A = some ad ∧ ad.block < w.heap.size ∧ w.cell? (ad.add (k * 4)) = some (.int .i64 n.op) ∧ w.cell? ((ad.add (k * 4)).add 1) = some (.int .i64 n.wd) ∧ w.cell? ((ad.add (k * 4)).add 3) = some (.int .i64 n.v) ∧
    ∃ B cap, w.cell? ((ad.add (k * 4)).add 2) = some (.slice B n.args.length cap) ∧ LiesI w B n.args := by
  obtain ⟨ad, rfl, hb, hc⟩ := h (by have := (List.getElem?_eq_some_iff.1 hx).1; omega)
  exact ⟨ad, rfl, hb, hc k n hx⟩

set_option maxRecDepth 100000 in
set_option maxHeartbeats 1600000 in
theorem firstWrong_leaf (E : Nat → Int) (A : Option Addr) (cap : Nat) (ns : List Int) (hl : ns.length ≤ 65536) (w : World) (h : LiesI w A ns)
    (hK : ∀ (k : Nat) (x : Int), ns[k]? = some x → ∀ W : World, Below w.heap.size w W → Calls Tryd.prog 46 #[.int .i64 k, .int .i64 x] W fun e w' => e = .returned (.int .i64 (E k)) ∧ ∃ y : Aft W, w' = y.val) :
    Calls Tryd.prog 45 #[.slice A ns.length cap, .func (.func 46) #[] #[]] w fun e w' => e = .returned (.tuple #[.int .i64 (firstAt E ns.length 0).1, .int .i64 (firstAt E ns.length 0).2]) ∧ ∃ x : Aft w, w' = x.val := by
  have HH := Lib.hid h
  have HK := Lib.hid hK
  clear h hK
  go_enter Tryd.func45, Tryd.ntmps45
  go_wp2
  go_loopw [11] (fun v11 wr => ∃ k : Nat, k ≤ ns.length ∧ v11 = .int .i64 k ∧ firstAt E ns.length 0 = firstAt E (ns.length - k) k ∧ Below w.heap.size w wr) (fun v11 _ => ns.length - (intOf v11).toNat)
  case atStart => exact ⟨0, by omega, rfl, rfl, Below.refl _ _⟩
  case round =>
    obtain ⟨k, hk, rfl, hf, hb⟩ := hrel
    have HF := Lib.hid hf
    have HB := Lib.hid hb
    clear hf hb
    by_cases hlt : k < ns.length
    · have hkk : (k : Int) < ns.length := by omega
      have HX := Lib.hid (List.getElem?_eq_getElem hlt)
      generalize ns[k] = x at *
      obtain ⟨ad, rfl, hbk, hcell⟩ := HH.out.cell HX.out
      have c : wr.cell? (ad.add k) = some (.int .i64 x) := (HB.out.cell (p := ad.add k) (by rw [addB]; exact hbk)).trans hcell
      clear hcell hbk
      go_wp2_with fail
      refine (HK.out k x HX.out _ HB.out).mono ?_
      rintro e w' ⟨rfl, y, rfl⟩
      by_cases h0 : E k = 0
      · have hn := Lib.hid (firstAt_go hlt h0)
        have h0' : (E k == 0) = true := by simpa using h0
        rw [h0]
        clear h0 h0' c
        go_wp2
        go_roundw
        case rel => exact ⟨k + 1, by omega, by go_num, HF.out.trans hn.out, y.below HB.out HB.out.size⟩
        case measure => simp [intOf]; omega
      · have hn := Lib.hid (firstAt_stop hlt h0)
        have n1 : (E k == 0) = false := by simpa using h0
        have n2 : (E k != 0) = true := by simpa using h0
        clear h0 c
        generalize E k = er at *
        go_wp2
        go_ret2
        exact ⟨tupII (by rw [HF.out, hn.out]) (by rw [HF.out, hn.out]), Below.aft (y.below HB.out HB.out.size)⟩
    · have hn := Lib.hid (firstAt_end (f := E) (n := ns.length) (k := k) (by omega))
      go_wp2
      go_ret2
      exact ⟨tupII (by rw [HF.out, hn.out]) (by rw [HF.out, hn.out]), Below.aft HB.out⟩

set_option maxRecDepth 100000 in
set_option maxHeartbeats 1600000 in
theorem firstWrong_index (c0 c1 : Value) (E : Nat → Int) (A : Option Addr) (cap : Nat) (ns : List Int) (hl : ns.length ≤ 65536) (w : World) (h : LiesI w A ns)
    (hK : ∀ (k : Nat) (x : Int), ns[k]? = some x → ∀ W : World, Below w.heap.size w W → Calls Tryd.prog 101 #[.int .i64 k, .int .i64 x, c0, c1] W fun e w' => e = .returned (.int .i64 (E k)) ∧ ∃ y : Aft W, w' = y.val) :
    Calls Tryd.prog 45 #[.slice A ns.length cap, .func (.func 101) #[] #[c0, c1]] w fun e w' => e = .returned (.tuple #[.int .i64 (firstAt E ns.length 0).1, .int .i64 (firstAt E ns.length 0).2]) ∧ ∃ x : Aft w, w' = x.val := by
  have HH := Lib.hid h
  have HK := Lib.hid hK
  clear h hK
  go_enter Tryd.func45, Tryd.ntmps45
  go_wp2
  go_loopw [11] (fun v11 wr => ∃ k : Nat, k ≤ ns.length ∧ v11 = .int .i64 k ∧ firstAt E ns.length 0 = firstAt E (ns.length - k) k ∧ Below w.heap.size w wr) (fun v11 _ => ns.length - (intOf v11).toNat)
  case atStart => exact ⟨0, by omega, rfl, rfl, Below.refl _ _⟩
  case round =>
    obtain ⟨k, hk, rfl, hf, hb⟩ := hrel
    have HF := Lib.hid hf
    have HB := Lib.hid hb
    clear hf hb
    by_cases hlt : k < ns.length
    · have hkk : (k : Int) < ns.length := by omega
      have HX := Lib.hid (List.getElem?_eq_getElem hlt)
      generalize ns[k] = x at *
      obtain ⟨ad, rfl, hbk, hcell⟩ := HH.out.cell HX.out
      have c : wr.cell? (ad.add k) = some (.int .i64 x) := (HB.out.cell (p := ad.add k) (by rw [addB]; exact hbk)).trans hcell
      clear hcell hbk
      go_wp2_with fail
      refine (HK.out k x HX.out _ HB.out).mono ?_
      rintro e w' ⟨rfl, y, rfl⟩
      by_cases h0 : E k = 0
      · have hn := Lib.hid (firstAt_go hlt h0)
        have h0' : (E k == 0) = true := by simpa using h0
        rw [h0]
        clear h0 h0' c
        go_wp2
        go_roundw
        case rel => exact ⟨k + 1, by omega, by go_num, HF.out.trans hn.out, y.below HB.out HB.out.size⟩
        case measure => simp [intOf]; omega
      · have hn := Lib.hid (firstAt_stop hlt h0)
        have n1 : (E k == 0) = false := by simpa using h0
        have n2 : (E k != 0) = true := by simpa using h0
        clear h0 c
        generalize E k = er at *
        go_wp2
        go_ret2
        exact ⟨tupII (by rw [HF.out, hn.out]) (by rw [HF.out, hn.out]), Below.aft (y.below HB.out HB.out.size)⟩
    · have hn := Lib.hid (firstAt_end (f := E) (n := ns.length) (k := k) (by omega))
      go_wp2
      go_ret2
      exact ⟨tupII (by rw [HF.out, hn.out]) (by rw [HF.out, hn.out]), Below.aft HB.out⟩

theorem CheckNodes1_c (i n : Int) (w : World) :
    Calls Tryd.prog 46 #[.int .i64 i, .int .i64 n] w fun e w' => e = .returned (.int .i64 (eIf (!isW n) 2)) ∧ w = w' := by
  go_enter Tryd.func46, Tryd.ntmps46
  go_wp2_with (first | (go_at_call 48; refine (isWidth_c _ _).mono ?_; rintro e w' ⟨rfl, rfl⟩) | (go_at_call 47; refine (errorIf_c _ _ _).mono ?_; rintro e w' ⟨rfl, rfl⟩))
  go_ret
  exact ⟨rfl, rfl⟩

theorem errorOfIndexes1_c (i x n er : Int) (P Q : Nat) (w : World) (c0 : w.cell? ⟨P, 0, none⟩ = some (.int .i64 n)) (c1 : w.cell? ⟨Q, 0, none⟩ = some (.int .i64 er)) (l0 : P < w.heap.size) (l1 : Q < w.heap.size) :
    Calls Tryd.prog 101 #[.int .i64 i, .int .i64 x, .pointer (some ⟨P, 0, none⟩), .pointer (some ⟨Q, 0, none⟩)] w fun e w' => e = .returned (.int .i64 (eIf (!isIx x n) er)) ∧ ∃ y : Aft w, w' = y.val := by
  go_enter Tryd.func101, Tryd.ntmps101
  go_wp2_with fail
  refine wp_region_aft (by kernel_rfl) (by kernel_rfl) ?_
  repeat (go_big_quiet_step (first | (go_at_call 66; exact Calls.qs (isIndex_c _ _ _)) | (go_at_call 47; exact Calls.qs (errorIf_c _ _ _))))
  refine wpQuiet_nil ?_
  intro y
  go_wp2
  go_ret
  exact ⟨rfl, y, rfl⟩
def ixE (args : List Int) (n er : Int) (k : Nat) : Int := eIf (!isIx (args.getD k 0) n) er
theorem ixE_all {args : List Int} {n er : Int} (he : er ≠ 0) : (firstAt (ixE args n er) args.length 0).2 = argsE args n er := by
  have key : ∀ (m k : Nat), m + k = args.length → (firstAt (ixE args n er) m k).2 = argsE (args.drop k) n er := by
    intro m
    induction m with
    | zero => intro k hk; rw [List.drop_of_length_le (by omega)]; rfl
    | succ m ih =>
      intro k hk
      have hk' : k < args.length := by omega
      have hd := List.drop_eq_getElem_cons hk'
      have hg : args.getD k 0 = args[k] := by simp [hk']
      unfold firstAt
      by_cases hx : isIx args[k] n = true
      · have e0 : ixE args n er k = 0 := by unfold ixE; rw [hg, hx]; rfl
        rw [if_pos e0, ih (k + 1) (by omega), hd]
        unfold argsE; simp only [List.all_cons, hx, Bool.true_and]
      · have hx' : isIx args[k] n = false := by simpa using hx
        have e0 : ixE args n er k = er := by unfold ixE; rw [hg, hx']; rfl
        rw [if_neg (by rw [e0]; exact he), e0, hd]
        unfold argsE; simp only [List.all_cons, hx', Bool.false_and]; rfl
  simpa using key args.length 0 (by omega)

set_option maxRecDepth 100000 in
set_option maxHeartbeats 1600000 in
theorem errorOfIndexes_c (n er : Int) (he : er ≠ 0) (A : Option Addr) (cap : Nat) (ns : List Int) (hl : ns.length ≤ 65536) (w : World) (h : LiesI w A ns) :
    Calls Tryd.prog 79 #[.slice A ns.length cap, .int .i64 n, .int .i64 er] w fun e w' => e = .returned (.int .i64 (argsE ns n er)) ∧ ∃ x : Aft w, w' = x.val := by
  have HH := Lib.hid h
  have HE := Lib.hid (ixE_all (args := ns) (n := n) he)
  have he1 : (er == 0) = false := by simpa using he
  clear h he
  go_enter Tryd.func79, Tryd.ntmps79
  go_wp2_with fail
  refine (firstWrong_index _ _ (ixE ns n er) A cap ns hl _ (HH.out.below (((Below.refl _ _).alloc (Nat.le_refl _) _).alloc (by simp) _)) ?hK).mono ?_
  case hK =>
    intro k x hx W hb
    have e0 : ixE ns n er k = eIf (!isIx x n) er := by unfold ixE; simp [List.getD, hx]
    rw [e0]
    refine errorOfIndexes1_c _ x n er _ _ W ?_ ?_ ?_ ?_
    · rw [hb.cell (p := ⟨w.heap.size, 0, none⟩) (by simp; omega)]; simp [go_sem]
    · rw [hb.cell (p := ⟨w.heap.size + 1, 0, none⟩) (by simp)]; simp [go_sem]
    · have := hb.size; simp at this; omega
    · have := hb.size; simp at this; omega
  rintro e w' ⟨rfl, y, rfl⟩
  rw [HE.out]
  go_wp2
  go_ret
  exact ⟨rfl, Below.aft (by (repeat' (first | (with_reducible exact Below.refl _ _) | (with_reducible assumption) | (with_reducible refine Below.alloc ?_ ?_ _) | (with_reducible refine Below.drew ?_) | (with_reducible refine Aft.below _ ?_ ?_) | (with_reducible refine Below.setCell_new ?_ ?_ _ _) | (with_reducible exact Nat.le_refl _) | (with_reducible refine Aft.le _ ?_) | (with_reducible refine le_alloc ?_) | (with_reducible refine le_drew ?_) | (with_reducible refine le_setCell ?_) | omega)))⟩

end Go.Proofs.YtkdonapgonegkaaDoor

set_option linter.unusedSimpArgs false
set_option linter.unusedVariables false
namespace Go.Proofs.YtkdonapgonegkaaDoor
open Go.RowKit Go.BigFrame

set_option maxRecDepth 100000 in
set_option maxHeartbeats 1600000 in
theorem errorOfNumber_c (A : Option Addr) (cap : Nat) (ls : List Int) (hl : ls.length ≤ 65536) (op wd v : Int) (h1 : 1 ≤ wd) (h2 : wd ≤ 16) (B : Option Addr) (al bc : Nat) (w : World) (h : LiesI w A ls) :
    Calls Tryd.prog 80 #[.slice A ls.length cap, .agg #[.int .i64 op, .int .i64 wd, .slice B al bc, .int .i64 v]] w fun e w' => e = .returned (.int .i64 (numE ls op wd v)) ∧ ∃ x : Aft w, w' = x.val := by
  by_cases o0 : op = 0
  · subst o0
    have HR := Lib.hid (show numE ls 0 wd v = eIf (!isV v wd) 2 from rfl)
    go_enter Tryd.func80, Tryd.ntmps80
    go_wp2_with (first | (go_at_call 66; refine (isIndex_c _ _ _).mono ?_; rintro e w' ⟨rfl, rfl⟩) | (go_at_call 67; refine (isValue_c _ _ (by omega) (by omega) _).mono ?_; rintro e w' ⟨rfl, rfl⟩) | (go_at_call 47; refine (errorIf_c _ _ _).mono ?_; rintro e w' ⟨rfl, rfl⟩))
    go_ret
    exact ⟨retI HR.out.symm, Below.aft (by (repeat' (first | (with_reducible exact Below.refl _ _) | (with_reducible assumption) | (with_reducible refine Below.alloc ?_ ?_ _) | (with_reducible refine Below.drew ?_) | (with_reducible refine Aft.below _ ?_ ?_) | (with_reducible refine Below.setCell_new ?_ ?_ _ _) | (with_reducible exact Nat.le_refl _) | (with_reducible refine Aft.le _ ?_) | (with_reducible refine le_alloc ?_) | (with_reducible refine le_drew ?_) | (with_reducible refine le_setCell ?_) | omega)))⟩
  by_cases o1 : op = 1
  · subst o1
    cases hi : isIx v ls.length
    · have HR := Lib.hid (show numE ls 1 wd v = 6 by unfold numE; rw [if_neg (by decide), if_pos rfl, hi]; rfl)
      have HI := Lib.hid (fun w => by have h := isIndex_c v ls.length w; rw [hi] at h; exact h)
      clear hi
      go_enter Tryd.func80, Tryd.ntmps80
      go_wp2_with (go_at_call 66; ((with_reducible refine (HI.out _).mono ?_); rintro e w' ⟨rfl, rfl⟩))
      go_ret
      exact ⟨retI HR.out.symm, Below.aft (by (repeat' (first | (with_reducible exact Below.refl _ _) | (with_reducible assumption) | (with_reducible refine Below.alloc ?_ ?_ _) | (with_reducible refine Below.drew ?_) | (with_reducible refine Aft.below _ ?_ ?_) | (with_reducible refine Below.setCell_new ?_ ?_ _ _) | (with_reducible exact Nat.le_refl _) | (with_reducible refine Aft.le _ ?_) | (with_reducible refine le_alloc ?_) | (with_reducible refine le_drew ?_) | (with_reducible refine le_setCell ?_) | omega)))⟩
    · obtain ⟨hv0, hv1⟩ := isIx_iff.1 hi
      obtain ⟨k, rfl⟩ := Int.eq_ofNat_of_zero_le hv0
      have hk : k < ls.length := by omega
      have hg : ls.getD ((k : Nat) : Int).toNat 0 = ls[k] := by simp [hk]
      have HR := Lib.hid (show numE ls 1 wd k = eIf (ls[k] != wd) 25 by unfold numE; rw [if_neg (by decide), if_pos rfl, hi, if_pos rfl, hg])
      have HI := Lib.hid (fun w => by have h := isIndex_c k ls.length w; rw [hi] at h; exact h)
      obtain ⟨ad, rfl, hb, hc⟩ := h.cell (List.getElem?_eq_getElem hk)
      have hkk : (k : Int) < ls.length := by omega
      have c : (w.alloc (.cells #[.int .i64 1, .int .i64 wd, .slice B al bc, .int .i64 k] 65)).cell? (ad.add k) = some (.int .i64 ls[k]) := ((Below.refl _ _).alloc (Nat.le_refl _) _).cell (p := ad.add k) (by rw [addB]; exact hb) |>.trans hc
      generalize ls[k] = x at *
      clear hi hv0 hv1 hg h hc
      go_enter Tryd.func80, Tryd.ntmps80
      go_wp2_with (go_at_call 66; ((with_reducible refine (HI.out _).mono ?_); rintro e w' ⟨rfl, rfl⟩))
      have zw : w.heap.size < (w.alloc (.cells #[.int .i64 1, .int .i64 wd, .slice B al bc, .int .i64 k] 65)).heap.size := by simp
      have q0 : (w.alloc (.cells #[.int .i64 1, .int .i64 wd, .slice B al bc, .int .i64 k] 65)).cell? ⟨w.heap.size, 3, none⟩ = some (.int .i64 k) := by simp [go_sem]
      have q1 : (w.alloc (.cells #[.int .i64 1, .int .i64 wd, .slice B al bc, .int .i64 k] 65)).cell? ⟨w.heap.size, 1, none⟩ = some (.int .i64 wd) := by simp [go_sem]
      have hbw : Below w.heap.size w (w.alloc (.cells #[.int .i64 1, .int .i64 wd, .slice B al bc, .int .i64 k] 65)) := (Below.refl _ _).alloc (Nat.le_refl _) _
      have hbad : ad.block < (w.alloc (.cells #[.int .i64 1, .int .i64 wd, .slice B al bc, .int .i64 k] 65)).heap.size := by simp; omega
      generalize w.alloc (.cells #[.int .i64 1, .int .i64 wd, .slice B al bc, .int .i64 k] 65) = W1 at *
      have cx : ∀ x' : Aft W1, x'.val.cell? (ad.add k) = some (.int .i64 x) := fun x' => (x'.pf.cell (p := ad.add k) (by rw [addB]; exact hbad)).trans c
      refine wp_region_aft (by kernel_rfl) (by kernel_rfl) ?_
      repeat (go_big_quiet_step ((go_at_call 47; exact Calls.qs (errorIf_c _ _ _))))
      refine wpQuiet_nil ?_
      intro y
      go_wp2
      go_ret
      exact ⟨retI HR.out.symm, Below.aft (y.below hbw hbw.size)⟩
  by_cases o14 : op = 14
  · subst o14
    have HR := Lib.hid (show numE ls 14 wd v = eIf (!isIx v 16) 2 from rfl)
    go_enter Tryd.func80, Tryd.ntmps80
    go_wp2_with (first | (go_at_call 66; refine (isIndex_c _ _ _).mono ?_; rintro e w' ⟨rfl, rfl⟩) | (go_at_call 67; refine (isValue_c _ _ (by omega) (by omega) _).mono ?_; rintro e w' ⟨rfl, rfl⟩) | (go_at_call 47; refine (errorIf_c _ _ _).mono ?_; rintro e w' ⟨rfl, rfl⟩))
    go_ret
    exact ⟨retI HR.out.symm, Below.aft (by (repeat' (first | (with_reducible exact Below.refl _ _) | (with_reducible assumption) | (with_reducible refine Below.alloc ?_ ?_ _) | (with_reducible refine Below.drew ?_) | (with_reducible refine Aft.below _ ?_ ?_) | (with_reducible refine Below.setCell_new ?_ ?_ _ _) | (with_reducible exact Nat.le_refl _) | (with_reducible refine Aft.le _ ?_) | (with_reducible refine le_alloc ?_) | (with_reducible refine le_drew ?_) | (with_reducible refine le_setCell ?_) | omega)))⟩
  · have HR := Lib.hid (show numE ls op wd v = eIf (v != 0) 3 by unfold numE; rw [if_neg o0, if_neg o1, if_neg o14])
    have n0 : (op == 0) = false := by simpa using o0
    have n1 : (op == 1) = false := by simpa using o1
    have n14 : (op == 14) = false := by simpa using o14
    clear o0 o1 o14
    go_enter Tryd.func80, Tryd.ntmps80
    go_wp2_with (first | (go_at_call 66; refine (isIndex_c _ _ _).mono ?_; rintro e w' ⟨rfl, rfl⟩) | (go_at_call 67; refine (isValue_c _ _ (by omega) (by omega) _).mono ?_; rintro e w' ⟨rfl, rfl⟩) | (go_at_call 47; refine (errorIf_c _ _ _).mono ?_; rintro e w' ⟨rfl, rfl⟩))
    go_ret
    exact ⟨retI HR.out.symm, Below.aft (by (repeat' (first | (with_reducible exact Below.refl _ _) | (with_reducible assumption) | (with_reducible refine Below.alloc ?_ ?_ _) | (with_reducible refine Below.drew ?_) | (with_reducible refine Aft.below _ ?_ ?_) | (with_reducible refine Below.setCell_new ?_ ?_ _ _) | (with_reducible exact Nat.le_refl _) | (with_reducible refine Aft.le _ ?_) | (with_reducible refine le_alloc ?_) | (with_reducible refine le_drew ?_) | (with_reducible refine le_setCell ?_) | omega)))⟩

set_option maxRecDepth 100000 in
set_option maxHeartbeats 1600000 in
theorem fit_0 (wd v a b c : Int) (hw1 : 1 ≤ wd) (hw2 : wd ≤ 16) (a0 : 0 ≤ a) (a1 : a ≤ 16) (b0 : 0 ≤ b) (b1 : b ≤ 16) (B : Option Addr) (al bc : Nat) (w : World) :
    Calls Tryd.prog 83 #[.agg #[.int .i64 0, .int .i64 wd, .slice B al bc, .int .i64 v], .agg #[.int .i64 a, .int .i64 b, .int .i64 c]] w fun e w' => e = .returned (.bool (fitW 0 wd v a b c)) ∧ ∃ x : Aft w, w' = x.val := by
  have HR := Lib.hid (show fitW 0 wd v a b c = (true) from rfl)
  go_enter Tryd.func83, Tryd.ntmps83
  go_wp2_with fail
  refine wp_region_aft (by kernel_rfl) (by kernel_rfl) ?_
  repeat (go_big_quiet_step (fail))
  refine wpQuiet_nil ?_
  intro y
  go_wp2
  go_ret
  exact ⟨retB HR.out.symm, Below.aft (by (repeat' (first | (with_reducible exact Below.refl _ _) | (with_reducible assumption) | (with_reducible refine Below.alloc ?_ ?_ _) | (with_reducible refine Below.drew ?_) | (with_reducible refine Aft.below _ ?_ ?_) | (with_reducible refine Below.setCell_new ?_ ?_ _ _) | (with_reducible exact Nat.le_refl _) | (with_reducible refine Aft.le _ ?_) | (with_reducible refine le_alloc ?_) | (with_reducible refine le_drew ?_) | (with_reducible refine le_setCell ?_) | omega)))⟩

set_option maxRecDepth 100000 in
set_option maxHeartbeats 1600000 in
theorem fit_1 (wd v a b c : Int) (hw1 : 1 ≤ wd) (hw2 : wd ≤ 16) (a0 : 0 ≤ a) (a1 : a ≤ 16) (b0 : 0 ≤ b) (b1 : b ≤ 16) (B : Option Addr) (al bc : Nat) (w : World) :
    Calls Tryd.prog 83 #[.agg #[.int .i64 1, .int .i64 wd, .slice B al bc, .int .i64 v], .agg #[.int .i64 a, .int .i64 b, .int .i64 c]] w fun e w' => e = .returned (.bool (fitW 1 wd v a b c)) ∧ ∃ x : Aft w, w' = x.val := by
  have HR := Lib.hid (show fitW 1 wd v a b c = (true) from rfl)
  go_enter Tryd.func83, Tryd.ntmps83
  go_wp2_with fail
  refine wp_region_aft (by kernel_rfl) (by kernel_rfl) ?_
  repeat (go_big_quiet_step (fail))
  refine wpQuiet_nil ?_
  intro y
  go_wp2
  go_ret
  exact ⟨retB HR.out.symm, Below.aft (by (repeat' (first | (with_reducible exact Below.refl _ _) | (with_reducible assumption) | (with_reducible refine Below.alloc ?_ ?_ _) | (with_reducible refine Below.drew ?_) | (with_reducible refine Aft.below _ ?_ ?_) | (with_reducible refine Below.setCell_new ?_ ?_ _ _) | (with_reducible exact Nat.le_refl _) | (with_reducible refine Aft.le _ ?_) | (with_reducible refine le_alloc ?_) | (with_reducible refine le_drew ?_) | (with_reducible refine le_setCell ?_) | omega)))⟩

set_option maxRecDepth 100000 in
set_option maxHeartbeats 1600000 in
theorem fit_2 (wd v a b c : Int) (hw1 : 1 ≤ wd) (hw2 : wd ≤ 16) (a0 : 0 ≤ a) (a1 : a ≤ 16) (b0 : 0 ≤ b) (b1 : b ≤ 16) (B : Option Addr) (al bc : Nat) (w : World) :
    Calls Tryd.prog 83 #[.agg #[.int .i64 2, .int .i64 wd, .slice B al bc, .int .i64 v], .agg #[.int .i64 a, .int .i64 b, .int .i64 c]] w fun e w' => e = .returned (.bool (fitW 2 wd v a b c)) ∧ ∃ x : Aft w, w' = x.val := by
  have HR := Lib.hid (show fitW 2 wd v a b c = (a == wd) from rfl)
  go_enter Tryd.func83, Tryd.ntmps83
  go_wp2_with fail
  refine wp_region_aft (by kernel_rfl) (by kernel_rfl) ?_
  repeat (go_big_quiet_step (fail))
  refine wpQuiet_nil ?_
  intro y
  go_wp2
  go_ret
  exact ⟨retB HR.out.symm, Below.aft (by (repeat' (first | (with_reducible exact Below.refl _ _) | (with_reducible assumption) | (with_reducible refine Below.alloc ?_ ?_ _) | (with_reducible refine Below.drew ?_) | (with_reducible refine Aft.below _ ?_ ?_) | (with_reducible refine Below.setCell_new ?_ ?_ _ _) | (with_reducible exact Nat.le_refl _) | (with_reducible refine Aft.le _ ?_) | (with_reducible refine le_alloc ?_) | (with_reducible refine le_drew ?_) | (with_reducible refine le_setCell ?_) | omega)))⟩

set_option maxRecDepth 100000 in
set_option maxHeartbeats 1600000 in
theorem fit_3 (wd v a b c : Int) (hw1 : 1 ≤ wd) (hw2 : wd ≤ 16) (a0 : 0 ≤ a) (a1 : a ≤ 16) (b0 : 0 ≤ b) (b1 : b ≤ 16) (B : Option Addr) (al bc : Nat) (w : World) :
    Calls Tryd.prog 83 #[.agg #[.int .i64 3, .int .i64 wd, .slice B al bc, .int .i64 v], .agg #[.int .i64 a, .int .i64 b, .int .i64 c]] w fun e w' => e = .returned (.bool (fitW 3 wd v a b c)) ∧ ∃ x : Aft w, w' = x.val := by
  cases hE : (a == wd)
  · have HR := Lib.hid (show fitW 3 wd v a b c = false by show (a == wd && b == wd) = false; rw [hE]; rfl)
    go_enter Tryd.func83, Tryd.ntmps83
    go_wp2_with fail
    refine wp_region_aft (by kernel_rfl) (by kernel_rfl) ?_
    repeat (go_big_quiet_step (fail))
    refine wpQuiet_nil ?_
    intro y
    go_wp2
    go_ret
    exact ⟨retB HR.out.symm, Below.aft (by (repeat' (first | (with_reducible exact Below.refl _ _) | (with_reducible assumption) | (with_reducible refine Below.alloc ?_ ?_ _) | (with_reducible refine Below.drew ?_) | (with_reducible refine Aft.below _ ?_ ?_) | (with_reducible refine Below.setCell_new ?_ ?_ _ _) | (with_reducible exact Nat.le_refl _) | (with_reducible refine Aft.le _ ?_) | (with_reducible refine le_alloc ?_) | (with_reducible refine le_drew ?_) | (with_reducible refine le_setCell ?_) | omega)))⟩
  · have HR := Lib.hid (show fitW 3 wd v a b c = (b == wd) by show (a == wd && b == wd) = _; rw [hE]; rfl)
    go_enter Tryd.func83, Tryd.ntmps83
    go_wp2_with fail
    refine wp_region_aft (by kernel_rfl) (by kernel_rfl) ?_
    repeat (go_big_quiet_step (fail))
    refine wpQuiet_nil ?_
    intro y
    go_wp2
    go_ret
    exact ⟨retB HR.out.symm, Below.aft (by (repeat' (first | (with_reducible exact Below.refl _ _) | (with_reducible assumption) | (with_reducible refine Below.alloc ?_ ?_ _) | (with_reducible refine Below.drew ?_) | (with_reducible refine Aft.below _ ?_ ?_) | (with_reducible refine Below.setCell_new ?_ ?_ _ _) | (with_reducible exact Nat.le_refl _) | (with_reducible refine Aft.le _ ?_) | (with_reducible refine le_alloc ?_) | (with_reducible refine le_drew ?_) | (with_reducible refine le_setCell ?_) | omega)))⟩

set_option maxRecDepth 100000 in
set_option maxHeartbeats 1600000 in
theorem fit_4 (wd v a b c : Int) (hw1 : 1 ≤ wd) (hw2 : wd ≤ 16) (a0 : 0 ≤ a) (a1 : a ≤ 16) (b0 : 0 ≤ b) (b1 : b ≤ 16) (B : Option Addr) (al bc : Nat) (w : World) :
    Calls Tryd.prog 83 #[.agg #[.int .i64 4, .int .i64 wd, .slice B al bc, .int .i64 v], .agg #[.int .i64 a, .int .i64 b, .int .i64 c]] w fun e w' => e = .returned (.bool (fitW 4 wd v a b c)) ∧ ∃ x : Aft w, w' = x.val := by
  cases hE : (a == wd)
  · have HR := Lib.hid (show fitW 4 wd v a b c = false by show (a == wd && b == wd) = false; rw [hE]; rfl)
    go_enter Tryd.func83, Tryd.ntmps83
    go_wp2_with fail
    refine wp_region_aft (by kernel_rfl) (by kernel_rfl) ?_
    repeat (go_big_quiet_step (fail))
    refine wpQuiet_nil ?_
    intro y
    go_wp2
    go_ret
    exact ⟨retB HR.out.symm, Below.aft (by (repeat' (first | (with_reducible exact Below.refl _ _) | (with_reducible assumption) | (with_reducible refine Below.alloc ?_ ?_ _) | (with_reducible refine Below.drew ?_) | (with_reducible refine Aft.below _ ?_ ?_) | (with_reducible refine Below.setCell_new ?_ ?_ _ _) | (with_reducible exact Nat.le_refl _) | (with_reducible refine Aft.le _ ?_) | (with_reducible refine le_alloc ?_) | (with_reducible refine le_drew ?_) | (with_reducible refine le_setCell ?_) | omega)))⟩
  · have HR := Lib.hid (show fitW 4 wd v a b c = (b == wd) by show (a == wd && b == wd) = _; rw [hE]; rfl)
    go_enter Tryd.func83, Tryd.ntmps83
    go_wp2_with fail
    refine wp_region_aft (by kernel_rfl) (by kernel_rfl) ?_
    repeat (go_big_quiet_step (fail))
    refine wpQuiet_nil ?_
    intro y
    go_wp2
    go_ret
    exact ⟨retB HR.out.symm, Below.aft (by (repeat' (first | (with_reducible exact Below.refl _ _) | (with_reducible assumption) | (with_reducible refine Below.alloc ?_ ?_ _) | (with_reducible refine Below.drew ?_) | (with_reducible refine Aft.below _ ?_ ?_) | (with_reducible refine Below.setCell_new ?_ ?_ _ _) | (with_reducible exact Nat.le_refl _) | (with_reducible refine Aft.le _ ?_) | (with_reducible refine le_alloc ?_) | (with_reducible refine le_drew ?_) | (with_reducible refine le_setCell ?_) | omega)))⟩

set_option maxRecDepth 100000 in
set_option maxHeartbeats 1600000 in
theorem fit_5 (wd v a b c : Int) (hw1 : 1 ≤ wd) (hw2 : wd ≤ 16) (a0 : 0 ≤ a) (a1 : a ≤ 16) (b0 : 0 ≤ b) (b1 : b ≤ 16) (B : Option Addr) (al bc : Nat) (w : World) :
    Calls Tryd.prog 83 #[.agg #[.int .i64 5, .int .i64 wd, .slice B al bc, .int .i64 v], .agg #[.int .i64 a, .int .i64 b, .int .i64 c]] w fun e w' => e = .returned (.bool (fitW 5 wd v a b c)) ∧ ∃ x : Aft w, w' = x.val := by
  cases hE : (a == wd)
  · have HR := Lib.hid (show fitW 5 wd v a b c = false by show (a == wd && b == wd) = false; rw [hE]; rfl)
    go_enter Tryd.func83, Tryd.ntmps83
    go_wp2_with fail
    refine wp_region_aft (by kernel_rfl) (by kernel_rfl) ?_
    repeat (go_big_quiet_step (fail))
    refine wpQuiet_nil ?_
    intro y
    go_wp2
    go_ret
    exact ⟨retB HR.out.symm, Below.aft (by (repeat' (first | (with_reducible exact Below.refl _ _) | (with_reducible assumption) | (with_reducible refine Below.alloc ?_ ?_ _) | (with_reducible refine Below.drew ?_) | (with_reducible refine Aft.below _ ?_ ?_) | (with_reducible refine Below.setCell_new ?_ ?_ _ _) | (with_reducible exact Nat.le_refl _) | (with_reducible refine Aft.le _ ?_) | (with_reducible refine le_alloc ?_) | (with_reducible refine le_drew ?_) | (with_reducible refine le_setCell ?_) | omega)))⟩
  · have HR := Lib.hid (show fitW 5 wd v a b c = (b == wd) by show (a == wd && b == wd) = _; rw [hE]; rfl)
    go_enter Tryd.func83, Tryd.ntmps83
    go_wp2_with fail
    refine wp_region_aft (by kernel_rfl) (by kernel_rfl) ?_
    repeat (go_big_quiet_step (fail))
    refine wpQuiet_nil ?_
    intro y
    go_wp2
    go_ret
    exact ⟨retB HR.out.symm, Below.aft (by (repeat' (first | (with_reducible exact Below.refl _ _) | (with_reducible assumption) | (with_reducible refine Below.alloc ?_ ?_ _) | (with_reducible refine Below.drew ?_) | (with_reducible refine Aft.below _ ?_ ?_) | (with_reducible refine Below.setCell_new ?_ ?_ _ _) | (with_reducible exact Nat.le_refl _) | (with_reducible refine Aft.le _ ?_) | (with_reducible refine le_alloc ?_) | (with_reducible refine le_drew ?_) | (with_reducible refine le_setCell ?_) | omega)))⟩

set_option maxRecDepth 100000 in
set_option maxHeartbeats 1600000 in
theorem fit_6 (wd v a b c : Int) (hw1 : 1 ≤ wd) (hw2 : wd ≤ 16) (a0 : 0 ≤ a) (a1 : a ≤ 16) (b0 : 0 ≤ b) (b1 : b ≤ 16) (B : Option Addr) (al bc : Nat) (w : World) :
    Calls Tryd.prog 83 #[.agg #[.int .i64 6, .int .i64 wd, .slice B al bc, .int .i64 v], .agg #[.int .i64 a, .int .i64 b, .int .i64 c]] w fun e w' => e = .returned (.bool (fitW 6 wd v a b c)) ∧ ∃ x : Aft w, w' = x.val := by
  cases hE : (a == wd)
  · have HR := Lib.hid (show fitW 6 wd v a b c = false by show (a == wd && b == wd) = false; rw [hE]; rfl)
    go_enter Tryd.func83, Tryd.ntmps83
    go_wp2_with fail
    refine wp_region_aft (by kernel_rfl) (by kernel_rfl) ?_
    repeat (go_big_quiet_step (fail))
    refine wpQuiet_nil ?_
    intro y
    go_wp2
    go_ret
    exact ⟨retB HR.out.symm, Below.aft (by (repeat' (first | (with_reducible exact Below.refl _ _) | (with_reducible assumption) | (with_reducible refine Below.alloc ?_ ?_ _) | (with_reducible refine Below.drew ?_) | (with_reducible refine Aft.below _ ?_ ?_) | (with_reducible refine Below.setCell_new ?_ ?_ _ _) | (with_reducible exact Nat.le_refl _) | (with_reducible refine Aft.le _ ?_) | (with_reducible refine le_alloc ?_) | (with_reducible refine le_drew ?_) | (with_reducible refine le_setCell ?_) | omega)))⟩
  · have HR := Lib.hid (show fitW 6 wd v a b c = (b == wd) by show (a == wd && b == wd) = _; rw [hE]; rfl)
    go_enter Tryd.func83, Tryd.ntmps83
    go_wp2_with fail
    refine wp_region_aft (by kernel_rfl) (by kernel_rfl) ?_
    repeat (go_big_quiet_step (fail))
    refine wpQuiet_nil ?_
    intro y
    go_wp2
    go_ret
    exact ⟨retB HR.out.symm, Below.aft (by (repeat' (first | (with_reducible exact Below.refl _ _) | (with_reducible assumption) | (with_reducible refine Below.alloc ?_ ?_ _) | (with_reducible refine Below.drew ?_) | (with_reducible refine Aft.below _ ?_ ?_) | (with_reducible refine Below.setCell_new ?_ ?_ _ _) | (with_reducible exact Nat.le_refl _) | (with_reducible refine Aft.le _ ?_) | (with_reducible refine le_alloc ?_) | (with_reducible refine le_drew ?_) | (with_reducible refine le_setCell ?_) | omega)))⟩

set_option maxRecDepth 100000 in
set_option maxHeartbeats 1600000 in
theorem fit_7 (wd v a b c : Int) (hw1 : 1 ≤ wd) (hw2 : wd ≤ 16) (a0 : 0 ≤ a) (a1 : a ≤ 16) (b0 : 0 ≤ b) (b1 : b ≤ 16) (B : Option Addr) (al bc : Nat) (w : World) :
    Calls Tryd.prog 83 #[.agg #[.int .i64 7, .int .i64 wd, .slice B al bc, .int .i64 v], .agg #[.int .i64 a, .int .i64 b, .int .i64 c]] w fun e w' => e = .returned (.bool (fitW 7 wd v a b c)) ∧ ∃ x : Aft w, w' = x.val := by
  cases hE : (a == wd)
  · have HR := Lib.hid (show fitW 7 wd v a b c = false by show (a == wd && b == wd) = false; rw [hE]; rfl)
    go_enter Tryd.func83, Tryd.ntmps83
    go_wp2_with fail
    refine wp_region_aft (by kernel_rfl) (by kernel_rfl) ?_
    repeat (go_big_quiet_step (fail))
    refine wpQuiet_nil ?_
    intro y
    go_wp2
    go_ret
    exact ⟨retB HR.out.symm, Below.aft (by (repeat' (first | (with_reducible exact Below.refl _ _) | (with_reducible assumption) | (with_reducible refine Below.alloc ?_ ?_ _) | (with_reducible refine Below.drew ?_) | (with_reducible refine Aft.below _ ?_ ?_) | (with_reducible refine Below.setCell_new ?_ ?_ _ _) | (with_reducible exact Nat.le_refl _) | (with_reducible refine Aft.le _ ?_) | (with_reducible refine le_alloc ?_) | (with_reducible refine le_drew ?_) | (with_reducible refine le_setCell ?_) | omega)))⟩
  · have HR := Lib.hid (show fitW 7 wd v a b c = (b == wd) by show (a == wd && b == wd) = _; rw [hE]; rfl)
    go_enter Tryd.func83, Tryd.ntmps83
    go_wp2_with fail
    refine wp_region_aft (by kernel_rfl) (by kernel_rfl) ?_
    repeat (go_big_quiet_step (fail))
    refine wpQuiet_nil ?_
    intro y
    go_wp2
    go_ret
    exact ⟨retB HR.out.symm, Below.aft (by (repeat' (first | (with_reducible exact Below.refl _ _) | (with_reducible assumption) | (with_reducible refine Below.alloc ?_ ?_ _) | (with_reducible refine Below.drew ?_) | (with_reducible refine Aft.below _ ?_ ?_) | (with_reducible refine Below.setCell_new ?_ ?_ _ _) | (with_reducible exact Nat.le_refl _) | (with_reducible refine Aft.le _ ?_) | (with_reducible refine le_alloc ?_) | (with_reducible refine le_drew ?_) | (with_reducible refine le_setCell ?_) | omega)))⟩

set_option maxRecDepth 100000 in
set_option maxHeartbeats 1600000 in
theorem fit_8 (wd v a b c : Int) (hw1 : 1 ≤ wd) (hw2 : wd ≤ 16) (a0 : 0 ≤ a) (a1 : a ≤ 16) (b0 : 0 ≤ b) (b1 : b ≤ 16) (B : Option Addr) (al bc : Nat) (w : World) :
    Calls Tryd.prog 83 #[.agg #[.int .i64 8, .int .i64 wd, .slice B al bc, .int .i64 v], .agg #[.int .i64 a, .int .i64 b, .int .i64 c]] w fun e w' => e = .returned (.bool (fitW 8 wd v a b c)) ∧ ∃ x : Aft w, w' = x.val := by
  cases hE : (a == wd)
  · have HR := Lib.hid (show fitW 8 wd v a b c = false by show (a == wd && b == wd) = false; rw [hE]; rfl)
    go_enter Tryd.func83, Tryd.ntmps83
    go_wp2_with fail
    refine wp_region_aft (by kernel_rfl) (by kernel_rfl) ?_
    repeat (go_big_quiet_step (fail))
    refine wpQuiet_nil ?_
    intro y
    go_wp2
    go_ret
    exact ⟨retB HR.out.symm, Below.aft (by (repeat' (first | (with_reducible exact Below.refl _ _) | (with_reducible assumption) | (with_reducible refine Below.alloc ?_ ?_ _) | (with_reducible refine Below.drew ?_) | (with_reducible refine Aft.below _ ?_ ?_) | (with_reducible refine Below.setCell_new ?_ ?_ _ _) | (with_reducible exact Nat.le_refl _) | (with_reducible refine Aft.le _ ?_) | (with_reducible refine le_alloc ?_) | (with_reducible refine le_drew ?_) | (with_reducible refine le_setCell ?_) | omega)))⟩
  · have HR := Lib.hid (show fitW 8 wd v a b c = (b == wd) by show (a == wd && b == wd) = _; rw [hE]; rfl)
    go_enter Tryd.func83, Tryd.ntmps83
    go_wp2_with fail
    refine wp_region_aft (by kernel_rfl) (by kernel_rfl) ?_
    repeat (go_big_quiet_step (fail))
    refine wpQuiet_nil ?_
    intro y
    go_wp2
    go_ret
    exact ⟨retB HR.out.symm, Below.aft (by (repeat' (first | (with_reducible exact Below.refl _ _) | (with_reducible assumption) | (with_reducible refine Below.alloc ?_ ?_ _) | (with_reducible refine Below.drew ?_) | (with_reducible refine Aft.below _ ?_ ?_) | (with_reducible refine Below.setCell_new ?_ ?_ _ _) | (with_reducible exact Nat.le_refl _) | (with_reducible refine Aft.le _ ?_) | (with_reducible refine le_alloc ?_) | (with_reducible refine le_drew ?_) | (with_reducible refine le_setCell ?_) | omega)))⟩

set_option maxRecDepth 100000 in
set_option maxHeartbeats 1600000 in
theorem fit_9 (wd v a b c : Int) (hw1 : 1 ≤ wd) (hw2 : wd ≤ 16) (a0 : 0 ≤ a) (a1 : a ≤ 16) (b0 : 0 ≤ b) (b1 : b ≤ 16) (B : Option Addr) (al bc : Nat) (w : World) :
    Calls Tryd.prog 83 #[.agg #[.int .i64 9, .int .i64 wd, .slice B al bc, .int .i64 v], .agg #[.int .i64 a, .int .i64 b, .int .i64 c]] w fun e w' => e = .returned (.bool (fitW 9 wd v a b c)) ∧ ∃ x : Aft w, w' = x.val := by
  cases hE : (a == b)
  · have HR := Lib.hid (show fitW 9 wd v a b c = false by show (a == b && wd == 1) = false; rw [hE]; rfl)
    go_enter Tryd.func83, Tryd.ntmps83
    go_wp2_with fail
    refine wp_region_aft (by kernel_rfl) (by kernel_rfl) ?_
    repeat (go_big_quiet_step (fail))
    refine wpQuiet_nil ?_
    intro y
    go_wp2
    go_ret
    exact ⟨retB HR.out.symm, Below.aft (by (repeat' (first | (with_reducible exact Below.refl _ _) | (with_reducible assumption) | (with_reducible refine Below.alloc ?_ ?_ _) | (with_reducible refine Below.drew ?_) | (with_reducible refine Aft.below _ ?_ ?_) | (with_reducible refine Below.setCell_new ?_ ?_ _ _) | (with_reducible exact Nat.le_refl _) | (with_reducible refine Aft.le _ ?_) | (with_reducible refine le_alloc ?_) | (with_reducible refine le_drew ?_) | (with_reducible refine le_setCell ?_) | omega)))⟩
  · have HR := Lib.hid (show fitW 9 wd v a b c = (wd == 1) by show (a == b && wd == 1) = _; rw [hE]; rfl)
    go_enter Tryd.func83, Tryd.ntmps83
    go_wp2_with fail
    refine wp_region_aft (by kernel_rfl) (by kernel_rfl) ?_
    repeat (go_big_quiet_step (fail))
    refine wpQuiet_nil ?_
    intro y
    go_wp2
    go_ret
    exact ⟨retB HR.out.symm, Below.aft (by (repeat' (first | (with_reducible exact Below.refl _ _) | (with_reducible assumption) | (with_reducible refine Below.alloc ?_ ?_ _) | (with_reducible refine Below.drew ?_) | (with_reducible refine Aft.below _ ?_ ?_) | (with_reducible refine Below.setCell_new ?_ ?_ _ _) | (with_reducible exact Nat.le_refl _) | (with_reducible refine Aft.le _ ?_) | (with_reducible refine le_alloc ?_) | (with_reducible refine le_drew ?_) | (with_reducible refine le_setCell ?_) | omega)))⟩

set_option maxRecDepth 100000 in
set_option maxHeartbeats 1600000 in
theorem fit_10 (wd v a b c : Int) (hw1 : 1 ≤ wd) (hw2 : wd ≤ 16) (a0 : 0 ≤ a) (a1 : a ≤ 16) (b0 : 0 ≤ b) (b1 : b ≤ 16) (B : Option Addr) (al bc : Nat) (w : World) :
    Calls Tryd.prog 83 #[.agg #[.int .i64 10, .int .i64 wd, .slice B al bc, .int .i64 v], .agg #[.int .i64 a, .int .i64 b, .int .i64 c]] w fun e w' => e = .returned (.bool (fitW 10 wd v a b c)) ∧ ∃ x : Aft w, w' = x.val := by
  cases hE : (a == b)
  · have HR := Lib.hid (show fitW 10 wd v a b c = false by show (a == b && wd == 1) = false; rw [hE]; rfl)
    go_enter Tryd.func83, Tryd.ntmps83
    go_wp2_with fail
    refine wp_region_aft (by kernel_rfl) (by kernel_rfl) ?_
    repeat (go_big_quiet_step (fail))
    refine wpQuiet_nil ?_
    intro y
    go_wp2
    go_ret
    exact ⟨retB HR.out.symm, Below.aft (by (repeat' (first | (with_reducible exact Below.refl _ _) | (with_reducible assumption) | (with_reducible refine Below.alloc ?_ ?_ _) | (with_reducible refine Below.drew ?_) | (with_reducible refine Aft.below _ ?_ ?_) | (with_reducible refine Below.setCell_new ?_ ?_ _ _) | (with_reducible exact Nat.le_refl _) | (with_reducible refine Aft.le _ ?_) | (with_reducible refine le_alloc ?_) | (with_reducible refine le_drew ?_) | (with_reducible refine le_setCell ?_) | omega)))⟩
  · have HR := Lib.hid (show fitW 10 wd v a b c = (wd == 1) by show (a == b && wd == 1) = _; rw [hE]; rfl)
    go_enter Tryd.func83, Tryd.ntmps83
    go_wp2_with fail
    refine wp_region_aft (by kernel_rfl) (by kernel_rfl) ?_
    repeat (go_big_quiet_step (fail))
    refine wpQuiet_nil ?_
    intro y
    go_wp2
    go_ret
    exact ⟨retB HR.out.symm, Below.aft (by (repeat' (first | (with_reducible exact Below.refl _ _) | (with_reducible assumption) | (with_reducible refine Below.alloc ?_ ?_ _) | (with_reducible refine Below.drew ?_) | (with_reducible refine Aft.below _ ?_ ?_) | (with_reducible refine Below.setCell_new ?_ ?_ _ _) | (with_reducible exact Nat.le_refl _) | (with_reducible refine Aft.le _ ?_) | (with_reducible refine le_alloc ?_) | (with_reducible refine le_drew ?_) | (with_reducible refine le_setCell ?_) | omega)))⟩

set_option maxRecDepth 100000 in
set_option maxHeartbeats 1600000 in
theorem fit_11 (wd v a b c : Int) (hw1 : 1 ≤ wd) (hw2 : wd ≤ 16) (a0 : 0 ≤ a) (a1 : a ≤ 16) (b0 : 0 ≤ b) (b1 : b ≤ 16) (B : Option Addr) (al bc : Nat) (w : World) :
    Calls Tryd.prog 83 #[.agg #[.int .i64 11, .int .i64 wd, .slice B al bc, .int .i64 v], .agg #[.int .i64 a, .int .i64 b, .int .i64 c]] w fun e w' => e = .returned (.bool (fitW 11 wd v a b c)) ∧ ∃ x : Aft w, w' = x.val := by
  cases hE : (a == b)
  · have HR := Lib.hid (show fitW 11 wd v a b c = false by show (a == b && wd == 1) = false; rw [hE]; rfl)
    go_enter Tryd.func83, Tryd.ntmps83
    go_wp2_with fail
    refine wp_region_aft (by kernel_rfl) (by kernel_rfl) ?_
    repeat (go_big_quiet_step (fail))
    refine wpQuiet_nil ?_
    intro y
    go_wp2
    go_ret
    exact ⟨retB HR.out.symm, Below.aft (by (repeat' (first | (with_reducible exact Below.refl _ _) | (with_reducible assumption) | (with_reducible refine Below.alloc ?_ ?_ _) | (with_reducible refine Below.drew ?_) | (with_reducible refine Aft.below _ ?_ ?_) | (with_reducible refine Below.setCell_new ?_ ?_ _ _) | (with_reducible exact Nat.le_refl _) | (with_reducible refine Aft.le _ ?_) | (with_reducible refine le_alloc ?_) | (with_reducible refine le_drew ?_) | (with_reducible refine le_setCell ?_) | omega)))⟩
  · have HR := Lib.hid (show fitW 11 wd v a b c = (wd == 1) by show (a == b && wd == 1) = _; rw [hE]; rfl)
    go_enter Tryd.func83, Tryd.ntmps83
    go_wp2_with fail
    refine wp_region_aft (by kernel_rfl) (by kernel_rfl) ?_
    repeat (go_big_quiet_step (fail))
    refine wpQuiet_nil ?_
    intro y
    go_wp2
    go_ret
    exact ⟨retB HR.out.symm, Below.aft (by (repeat' (first | (with_reducible exact Below.refl _ _) | (with_reducible assumption) | (with_reducible refine Below.alloc ?_ ?_ _) | (with_reducible refine Below.drew ?_) | (with_reducible refine Aft.below _ ?_ ?_) | (with_reducible refine Below.setCell_new ?_ ?_ _ _) | (with_reducible exact Nat.le_refl _) | (with_reducible refine Aft.le _ ?_) | (with_reducible refine le_alloc ?_) | (with_reducible refine le_drew ?_) | (with_reducible refine le_setCell ?_) | omega)))⟩

set_option maxRecDepth 100000 in
set_option maxHeartbeats 1600000 in
theorem fit_12 (wd v a b c : Int) (hw1 : 1 ≤ wd) (hw2 : wd ≤ 16) (a0 : 0 ≤ a) (a1 : a ≤ 16) (b0 : 0 ≤ b) (b1 : b ≤ 16) (B : Option Addr) (al bc : Nat) (w : World) :
    Calls Tryd.prog 83 #[.agg #[.int .i64 12, .int .i64 wd, .slice B al bc, .int .i64 v], .agg #[.int .i64 a, .int .i64 b, .int .i64 c]] w fun e w' => e = .returned (.bool (fitW 12 wd v a b c)) ∧ ∃ x : Aft w, w' = x.val := by
  cases hE : (a == 1)
  · have HR := Lib.hid (show fitW 12 wd v a b c = false by show (a == 1 && b == wd && c == wd) = false; rw [hE]; rfl)
    go_enter Tryd.func83, Tryd.ntmps83
    go_wp2_with fail
    refine wp_region_aft (by kernel_rfl) (by kernel_rfl) ?_
    repeat (go_big_quiet_step (fail))
    refine wpQuiet_nil ?_
    intro y
    go_wp2
    go_ret
    exact ⟨retB HR.out.symm, Below.aft (by (repeat' (first | (with_reducible exact Below.refl _ _) | (with_reducible assumption) | (with_reducible refine Below.alloc ?_ ?_ _) | (with_reducible refine Below.drew ?_) | (with_reducible refine Aft.below _ ?_ ?_) | (with_reducible refine Below.setCell_new ?_ ?_ _ _) | (with_reducible exact Nat.le_refl _) | (with_reducible refine Aft.le _ ?_) | (with_reducible refine le_alloc ?_) | (with_reducible refine le_drew ?_) | (with_reducible refine le_setCell ?_) | omega)))⟩
  cases hF : (b == wd)
  · have HR := Lib.hid (show fitW 12 wd v a b c = false by show (a == 1 && b == wd && c == wd) = false; rw [hE, hF]; rfl)
    go_enter Tryd.func83, Tryd.ntmps83
    go_wp2_with fail
    refine wp_region_aft (by kernel_rfl) (by kernel_rfl) ?_
    repeat (go_big_quiet_step (fail))
    refine wpQuiet_nil ?_
    intro y
    go_wp2
    go_ret
    exact ⟨retB HR.out.symm, Below.aft (by (repeat' (first | (with_reducible exact Below.refl _ _) | (with_reducible assumption) | (with_reducible refine Below.alloc ?_ ?_ _) | (with_reducible refine Below.drew ?_) | (with_reducible refine Aft.below _ ?_ ?_) | (with_reducible refine Below.setCell_new ?_ ?_ _ _) | (with_reducible exact Nat.le_refl _) | (with_reducible refine Aft.le _ ?_) | (with_reducible refine le_alloc ?_) | (with_reducible refine le_drew ?_) | (with_reducible refine le_setCell ?_) | omega)))⟩
  · have HR := Lib.hid (show fitW 12 wd v a b c = (c == wd) by show (a == 1 && b == wd && c == wd) = _; rw [hE, hF]; rfl)
    go_enter Tryd.func83, Tryd.ntmps83
    go_wp2_with fail
    refine wp_region_aft (by kernel_rfl) (by kernel_rfl) ?_
    repeat (go_big_quiet_step (fail))
    refine wpQuiet_nil ?_
    intro y
    go_wp2
    go_ret
    exact ⟨retB HR.out.symm, Below.aft (by (repeat' (first | (with_reducible exact Below.refl _ _) | (with_reducible assumption) | (with_reducible refine Below.alloc ?_ ?_ _) | (with_reducible refine Below.drew ?_) | (with_reducible refine Aft.below _ ?_ ?_) | (with_reducible refine Below.setCell_new ?_ ?_ _ _) | (with_reducible exact Nat.le_refl _) | (with_reducible refine Aft.le _ ?_) | (with_reducible refine le_alloc ?_) | (with_reducible refine le_drew ?_) | (with_reducible refine le_setCell ?_) | omega)))⟩

set_option maxRecDepth 100000 in
set_option maxHeartbeats 1600000 in
theorem fit_13 (wd v a b c : Int) (hw1 : 1 ≤ wd) (hw2 : wd ≤ 16) (a0 : 0 ≤ a) (a1 : a ≤ 16) (b0 : 0 ≤ b) (b1 : b ≤ 16) (B : Option Addr) (al bc : Nat) (w : World) :
    Calls Tryd.prog 83 #[.agg #[.int .i64 13, .int .i64 wd, .slice B al bc, .int .i64 v], .agg #[.int .i64 a, .int .i64 b, .int .i64 c]] w fun e w' => e = .returned (.bool (fitW 13 wd v a b c)) ∧ ∃ x : Aft w, w' = x.val := by
  have HR := Lib.hid (show fitW 13 wd v a b c = (a + b == wd) from rfl)
  go_enter Tryd.func83, Tryd.ntmps83
  go_wp2_with fail
  refine wp_region_aft (by kernel_rfl) (by kernel_rfl) ?_
  repeat (go_big_quiet_step (fail))
  refine wpQuiet_nil ?_
  intro y
  go_wp2
  go_ret
  exact ⟨retB HR.out.symm, Below.aft (by (repeat' (first | (with_reducible exact Below.refl _ _) | (with_reducible assumption) | (with_reducible refine Below.alloc ?_ ?_ _) | (with_reducible refine Below.drew ?_) | (with_reducible refine Aft.below _ ?_ ?_) | (with_reducible refine Below.setCell_new ?_ ?_ _ _) | (with_reducible exact Nat.le_refl _) | (with_reducible refine Aft.le _ ?_) | (with_reducible refine le_alloc ?_) | (with_reducible refine le_drew ?_) | (with_reducible refine le_setCell ?_) | omega)))⟩

set_option maxRecDepth 100000 in
set_option maxHeartbeats 1600000 in
theorem fit_14 (wd v a b c : Int) (hw1 : 1 ≤ wd) (hw2 : wd ≤ 16) (a0 : 0 ≤ a) (a1 : a ≤ 16) (b0 : 0 ≤ b) (b1 : b ≤ 16) (v0 : 0 ≤ v) (v1 : v ≤ 15) (B : Option Addr) (al bc : Nat) (w : World) :
    Calls Tryd.prog 83 #[.agg #[.int .i64 14, .int .i64 wd, .slice B al bc, .int .i64 v], .agg #[.int .i64 a, .int .i64 b, .int .i64 c]] w fun e w' => e = .returned (.bool (fitW 14 wd v a b c)) ∧ ∃ x : Aft w, w' = x.val := by
  have HR := Lib.hid (show fitW 14 wd v a b c = (decide (v + wd ≤ a)) from rfl)
  go_enter Tryd.func83, Tryd.ntmps83
  go_wp2_with fail
  refine wp_region_aft (by kernel_rfl) (by kernel_rfl) ?_
  repeat (go_big_quiet_step (fail))
  refine wpQuiet_nil ?_
  intro y
  go_wp2
  go_ret
  exact ⟨retB HR.out.symm, Below.aft (by (repeat' (first | (with_reducible exact Below.refl _ _) | (with_reducible assumption) | (with_reducible refine Below.alloc ?_ ?_ _) | (with_reducible refine Below.drew ?_) | (with_reducible refine Aft.below _ ?_ ?_) | (with_reducible refine Below.setCell_new ?_ ?_ _ _) | (with_reducible exact Nat.le_refl _) | (with_reducible refine Aft.le _ ?_) | (with_reducible refine le_alloc ?_) | (with_reducible refine le_drew ?_) | (with_reducible refine le_setCell ?_) | omega)))⟩

set_option maxRecDepth 100000 in
set_option maxHeartbeats 1600000 in
theorem fit_15 (wd v a b c : Int) (hw1 : 1 ≤ wd) (hw2 : wd ≤ 16) (a0 : 0 ≤ a) (a1 : a ≤ 16) (b0 : 0 ≤ b) (b1 : b ≤ 16) (B : Option Addr) (al bc : Nat) (w : World) :
    Calls Tryd.prog 83 #[.agg #[.int .i64 15, .int .i64 wd, .slice B al bc, .int .i64 v], .agg #[.int .i64 a, .int .i64 b, .int .i64 c]] w fun e w' => e = .returned (.bool (fitW 15 wd v a b c)) ∧ ∃ x : Aft w, w' = x.val := by
  have HR := Lib.hid (show fitW 15 wd v a b c = (decide (a ≤ wd)) from rfl)
  go_enter Tryd.func83, Tryd.ntmps83
  go_wp2_with fail
  refine wp_region_aft (by kernel_rfl) (by kernel_rfl) ?_
  repeat (go_big_quiet_step (fail))
  refine wpQuiet_nil ?_
  intro y
  go_wp2
  go_ret
  exact ⟨retB HR.out.symm, Below.aft (by (repeat' (first | (with_reducible exact Below.refl _ _) | (with_reducible assumption) | (with_reducible refine Below.alloc ?_ ?_ _) | (with_reducible refine Below.drew ?_) | (with_reducible refine Aft.below _ ?_ ?_) | (with_reducible refine Below.setCell_new ?_ ?_ _ _) | (with_reducible exact Nat.le_refl _) | (with_reducible refine Aft.le _ ?_) | (with_reducible refine le_alloc ?_) | (with_reducible refine le_drew ?_) | (with_reducible refine le_setCell ?_) | omega)))⟩

set_option maxRecDepth 100000 in
set_option maxHeartbeats 1600000 in
theorem fit_16 (wd v a b c : Int) (hw1 : 1 ≤ wd) (hw2 : wd ≤ 16) (a0 : 0 ≤ a) (a1 : a ≤ 16) (b0 : 0 ≤ b) (b1 : b ≤ 16) (B : Option Addr) (al bc : Nat) (w : World) :
    Calls Tryd.prog 83 #[.agg #[.int .i64 16, .int .i64 wd, .slice B al bc, .int .i64 v], .agg #[.int .i64 a, .int .i64 b, .int .i64 c]] w fun e w' => e = .returned (.bool (fitW 16 wd v a b c)) ∧ ∃ x : Aft w, w' = x.val := by
  have HR := Lib.hid (show fitW 16 wd v a b c = (decide (a ≤ wd)) from rfl)
  go_enter Tryd.func83, Tryd.ntmps83
  go_wp2_with fail
  refine wp_region_aft (by kernel_rfl) (by kernel_rfl) ?_
  repeat (go_big_quiet_step (fail))
  refine wpQuiet_nil ?_
  intro y
  go_wp2
  go_ret
  exact ⟨retB HR.out.symm, Below.aft (by (repeat' (first | (with_reducible exact Below.refl _ _) | (with_reducible assumption) | (with_reducible refine Below.alloc ?_ ?_ _) | (with_reducible refine Below.drew ?_) | (with_reducible refine Aft.below _ ?_ ?_) | (with_reducible refine Below.setCell_new ?_ ?_ _ _) | (with_reducible exact Nat.le_refl _) | (with_reducible refine Aft.le _ ?_) | (with_reducible refine le_alloc ?_) | (with_reducible refine le_drew ?_) | (with_reducible refine le_setCell ?_) | omega)))⟩

set_option maxRecDepth 100000 in
set_option maxHeartbeats 1600000 in
theorem fit_17 (wd v a b c : Int) (hw1 : 1 ≤ wd) (hw2 : wd ≤ 16) (a0 : 0 ≤ a) (a1 : a ≤ 16) (b0 : 0 ≤ b) (b1 : b ≤ 16) (B : Option Addr) (al bc : Nat) (w : World) :
    Calls Tryd.prog 83 #[.agg #[.int .i64 17, .int .i64 wd, .slice B al bc, .int .i64 v], .agg #[.int .i64 a, .int .i64 b, .int .i64 c]] w fun e w' => e = .returned (.bool (fitW 17 wd v a b c)) ∧ ∃ x : Aft w, w' = x.val := by
  have HR := Lib.hid (show fitW 17 wd v a b c = (a == wd) from rfl)
  go_enter Tryd.func83, Tryd.ntmps83
  go_wp2_with fail
  refine wp_region_aft (by kernel_rfl) (by kernel_rfl) ?_
  repeat (go_big_quiet_step (fail))
  refine wpQuiet_nil ?_
  intro y
  go_wp2
  go_ret
  exact ⟨retB HR.out.symm, Below.aft (by (repeat' (first | (with_reducible exact Below.refl _ _) | (with_reducible assumption) | (with_reducible refine Below.alloc ?_ ?_ _) | (with_reducible refine Below.drew ?_) | (with_reducible refine Aft.below _ ?_ ?_) | (with_reducible refine Below.setCell_new ?_ ?_ _ _) | (with_reducible exact Nat.le_refl _) | (with_reducible refine Aft.le _ ?_) | (with_reducible refine le_alloc ?_) | (with_reducible refine le_drew ?_) | (with_reducible refine le_setCell ?_) | omega)))⟩

set_option maxRecDepth 100000 in
set_option maxHeartbeats 1600000 in
theorem fit_18 (wd v a b c : Int) (hw1 : 1 ≤ wd) (hw2 : wd ≤ 16) (a0 : 0 ≤ a) (a1 : a ≤ 16) (b0 : 0 ≤ b) (b1 : b ≤ 16) (B : Option Addr) (al bc : Nat) (w : World) :
    Calls Tryd.prog 83 #[.agg #[.int .i64 18, .int .i64 wd, .slice B al bc, .int .i64 v], .agg #[.int .i64 a, .int .i64 b, .int .i64 c]] w fun e w' => e = .returned (.bool (fitW 18 wd v a b c)) ∧ ∃ x : Aft w, w' = x.val := by
  have HR := Lib.hid (show fitW 18 wd v a b c = (a == wd) from rfl)
  go_enter Tryd.func83, Tryd.ntmps83
  go_wp2_with fail
  refine wp_region_aft (by kernel_rfl) (by kernel_rfl) ?_
  repeat (go_big_quiet_step (fail))
  refine wpQuiet_nil ?_
  intro y
  go_wp2
  go_ret
  exact ⟨retB HR.out.symm, Below.aft (by (repeat' (first | (with_reducible exact Below.refl _ _) | (with_reducible assumption) | (with_reducible refine Below.alloc ?_ ?_ _) | (with_reducible refine Below.drew ?_) | (with_reducible refine Aft.below _ ?_ ?_) | (with_reducible refine Below.setCell_new ?_ ?_ _ _) | (with_reducible exact Nat.le_refl _) | (with_reducible refine Aft.le _ ?_) | (with_reducible refine le_alloc ?_) | (with_reducible refine le_drew ?_) | (with_reducible refine le_setCell ?_) | omega)))⟩

theorem widthsFit_c (op wd v a b c : Int) (ho : 0 ≤ op) (ho2 : op ≤ 18) (hw1 : 1 ≤ wd) (hw2 : wd ≤ 16) (ha : 0 ≤ a ∧ a ≤ 16) (hb : 0 ≤ b ∧ b ≤ 16) (hv : op = 14 → 0 ≤ v ∧ v ≤ 15) (B : Option Addr) (al bc : Nat) (w : World) :
    Calls Tryd.prog 83 #[.agg #[.int .i64 op, .int .i64 wd, .slice B al bc, .int .i64 v], .agg #[.int .i64 a, .int .i64 b, .int .i64 c]] w fun e w' => e = .returned (.bool (fitW op wd v a b c)) ∧ ∃ x : Aft w, w' = x.val := by
  obtain ⟨a0, a1⟩ := ha
  obtain ⟨b0, b1⟩ := hb
  have hcase : op = 0 ∨ op = 1 ∨ op = 2 ∨ op = 3 ∨ op = 4 ∨ op = 5 ∨ op = 6 ∨ op = 7 ∨ op = 8 ∨ op = 9 ∨ op = 10 ∨ op = 11 ∨ op = 12 ∨ op = 13 ∨ op = 14 ∨ op = 15 ∨ op = 16 ∨ op = 17 ∨ op = 18 := by omega
  rcases hcase with rfl | rfl | rfl | rfl | rfl | rfl | rfl | rfl | rfl | rfl | rfl | rfl | rfl | rfl | rfl | rfl | rfl | rfl | rfl
  · exact fit_0 wd v a b c hw1 hw2 a0 a1 b0 b1 B al bc w
  · exact fit_1 wd v a b c hw1 hw2 a0 a1 b0 b1 B al bc w
  · exact fit_2 wd v a b c hw1 hw2 a0 a1 b0 b1 B al bc w
  · exact fit_3 wd v a b c hw1 hw2 a0 a1 b0 b1 B al bc w
  · exact fit_4 wd v a b c hw1 hw2 a0 a1 b0 b1 B al bc w
  · exact fit_5 wd v a b c hw1 hw2 a0 a1 b0 b1 B al bc w
  · exact fit_6 wd v a b c hw1 hw2 a0 a1 b0 b1 B al bc w
  · exact fit_7 wd v a b c hw1 hw2 a0 a1 b0 b1 B al bc w
  · exact fit_8 wd v a b c hw1 hw2 a0 a1 b0 b1 B al bc w
  · exact fit_9 wd v a b c hw1 hw2 a0 a1 b0 b1 B al bc w
  · exact fit_10 wd v a b c hw1 hw2 a0 a1 b0 b1 B al bc w
  · exact fit_11 wd v a b c hw1 hw2 a0 a1 b0 b1 B al bc w
  · exact fit_12 wd v a b c hw1 hw2 a0 a1 b0 b1 B al bc w
  · exact fit_13 wd v a b c hw1 hw2 a0 a1 b0 b1 B al bc w
  · exact fit_14 wd v a b c hw1 hw2 a0 a1 b0 b1 (hv rfl).1 (hv rfl).2 B al bc w
  · exact fit_15 wd v a b c hw1 hw2 a0 a1 b0 b1 B al bc w
  · exact fit_16 wd v a b c hw1 hw2 a0 a1 b0 b1 B al bc w
  · exact fit_17 wd v a b c hw1 hw2 a0 a1 b0 b1 B al bc w
  · exact fit_18 wd v a b c hw1 hw2 a0 a1 b0 b1 B al bc w

end Go.Proofs.YtkdonapgonegkaaDoor

set_option linter.unusedSimpArgs false
set_option linter.unusedVariables false
namespace Go.Proofs.YtkdonapgonegkaaDoor
open Go.RowKit Go.BigFrame

theorem heap_set {w : World} {g k : Nat} {T : TypeId} {arr : Array Value} {v : Value} (h : w.heap[g]? = some (.cells arr T)) : (w.setCell ⟨g, k, none⟩ v).heap[g]? = some (.cells (arr.setIfInBounds k v) T) := by
  simp [World.setCell, Array.getElem?_modify, h]
theorem heap_set_ne {w : World} {g m k : Nat} {o : Obj} {v : Value} (h : w.heap[g]? = some o) (hne : ¬ m = g) : (w.setCell ⟨m, k, none⟩ v).heap[g]? = some o := (heap_setCell_ne hne).trans h
theorem wAt_in {before : List Nd} {args : List Int} {k i : Nat} {n : Nd} (ha : args[i]? = some (k : Int)) (hn : before[k]? = some n) : wAt before args i = n.wd := by
  unfold wAt; rw [ha]; simp [hn]
theorem wAt_out {before : List Nd} {args : List Int} {i : Nat} (ha : args.length ≤ i) : wAt before args i = 0 := by
  unfold wAt; rw [List.getElem?_eq_none ha]

theorem errorOfNode1_c (k : Nat) (P : Nat) (A : Option Addr) (cap : Nat) (before : List Nd) (n : Nd) (hn : before[k]? = some n) (hl : before.length ≤ 65536) (w : World) (c0 : w.cell? ⟨P, 0, none⟩ = some (.slice A before.length cap)) (h : LiesN w A before) :
    Calls Tryd.prog 82 #[.int .i64 k, .pointer (some ⟨P, 0, none⟩)] w fun e w' => e = .returned (.int .i64 n.wd) ∧ w = w' := by
  obtain ⟨ad, rfl, hb, h0, h1, _⟩ := h.cells hn
  have hk := (List.getElem?_eq_some_iff.1 hn).1
  have hkk : (k : Int) < before.length := by omega
  have h1' : w.cell? ⟨(ad.add (k * 4)).block, (ad.add (k * 4)).off + 1, none⟩ = some (.int .i64 n.wd) := h1
  clear hn h h0 h1
  go_enter Tryd.func82, Tryd.ntmps82
  go_wp2
  go_ret
  exact ⟨rfl, rfl⟩

set_option maxRecDepth 100000 in
set_option maxHeartbeats 1600000 in
theorem argsOf0 (op wd v : Int) (B : Option Addr) (bc : Nat) (P : Nat) (A : Option Addr) (cap : Nat) (before : List Nd) (hl : before.length ≤ 65536)  (w : World) (lP : P < w.heap.size) (c0 : w.cell? ⟨P, 0, none⟩ = some (.slice A before.length cap)) (h : LiesN w A before) (hB : LiesI w B []) :
    Calls Tryd.prog 81 #[.agg #[.int .i64 op, .int .i64 wd, .slice B 0 bc, .int .i64 v], .func (.func 82) #[] #[.pointer (some ⟨P, 0, none⟩)]] w fun e w' => e = .returned (.agg #[.int .i64 0, .int .i64 0, .int .i64 0]) ∧ ∃ x : Aft w, w' = x.val := by
  clear h hB c0 
  go_enter Tryd.func81, Tryd.ntmps81
  go_wp2_with fail
  have rL : (((w.alloc (.cells #[.int .i64 op, .int .i64 wd, .slice B 0 bc, .int .i64 v] 65)).alloc (.cells #[.int .i64 0, .int .i64 0, .int .i64 0] 117)).alloc (.cells #[.int .i64 0, .int .i64 0, .int .i64 0] 117)).heap[w.heap.size + 2]? = some (.cells #[.int .i64 0, .int .i64 0, .int .i64 0] 117) := by
    exact heap_alloc_at (by simp)
  have rR : (((w.alloc (.cells #[.int .i64 op, .int .i64 wd, .slice B 0 bc, .int .i64 v] 65)).alloc (.cells #[.int .i64 0, .int .i64 0, .int .i64 0] 117)).alloc (.cells #[.int .i64 0, .int .i64 0, .int .i64 0] 117)).heap[w.heap.size + 1]? = some (.cells #[.int .i64 0, .int .i64 0, .int .i64 0] 117) := by
    exact heap_alloc' (by simp) (heap_alloc_at (by simp))
  have rN : (((w.alloc (.cells #[.int .i64 op, .int .i64 wd, .slice B 0 bc, .int .i64 v] 65)).alloc (.cells #[.int .i64 0, .int .i64 0, .int .i64 0] 117)).alloc (.cells #[.int .i64 0, .int .i64 0, .int .i64 0] 117)).heap[w.heap.size]? = some (.cells #[.int .i64 op, .int .i64 wd, .slice B 0 bc, .int .i64 v] 65) := heap_alloc' (by simp; omega) (heap_alloc' (by simp) (heap_alloc_new _ _))
  have hb0 : Below w.heap.size w (((w.alloc (.cells #[.int .i64 op, .int .i64 wd, .slice B 0 bc, .int .i64 v] 65)).alloc (.cells #[.int .i64 0, .int .i64 0, .int .i64 0] 117)).alloc (.cells #[.int .i64 0, .int .i64 0, .int .i64 0] 117)) := (((Below.refl _ _).alloc (Nat.le_refl _) _).alloc (by simp) _).alloc (by simp; omega) _
  have qN := cell_block (i := 2) rN
  simp at qN
  generalize (((w.alloc (.cells #[.int .i64 op, .int .i64 wd, .slice B 0 bc, .int .i64 v] 65)).alloc (.cells #[.int .i64 0, .int .i64 0, .int .i64 0] 117)).alloc (.cells #[.int .i64 0, .int .i64 0, .int .i64 0] 117)) = W0 at *
  refine wp_loop_rounds 1 ?_
  rw [rounds_succ]
  have u0 := cell_block (i := 0) rL
  have u1 := cell_block (i := 1) rL
  have u2 := cell_block (i := 2) rL
  have p0 := cell_block (i := 0) rR
  have p1 := cell_block (i := 1) rR
  have p2 := cell_block (i := 2) rR
  have f0 := free_block (i := 0) rR
  have f1 := free_block (i := 1) rR
  have f2 := free_block (i := 2) rR
  simp at u0 u1 u2 p0 p1 p2
  go_wp2
  refine bodyPost_ret (by simp [results, Tryd.results81, go_sem, p0, p1, p2]; try rfl) rfl ?_
  exact ⟨rfl, Below.aft (by (repeat' (first | (with_reducible exact Below.refl _ _) | (with_reducible assumption) | (with_reducible refine Below.alloc ?_ ?_ _) | (with_reducible refine Below.drew ?_) | (with_reducible refine Aft.below _ ?_ ?_) | (with_reducible refine Below.setCell_new ?_ ?_ _ _) | (with_reducible exact Nat.le_refl _) | (with_reducible refine Aft.le _ ?_) | (with_reducible refine le_alloc ?_) | (with_reducible refine le_drew ?_) | (with_reducible refine le_setCell ?_) | omega)))⟩

set_option maxRecDepth 100000 in
set_option maxHeartbeats 1600000 in
theorem argsOf1 (op wd v : Int) (B : Option Addr) (bc : Nat) (P : Nat) (A : Option Addr) (cap : Nat) (before : List Nd) (hl : before.length ≤ 65536) (k0 : Nat) (n0 : Nd) (g0 : before[k0]? = some n0) (w : World) (lP : P < w.heap.size) (c0 : w.cell? ⟨P, 0, none⟩ = some (.slice A before.length cap)) (h : LiesN w A before) (hB : LiesI w B [(k0 : Int)]) :
    Calls Tryd.prog 81 #[.agg #[.int .i64 op, .int .i64 wd, .slice B 1 bc, .int .i64 v], .func (.func 82) #[] #[.pointer (some ⟨P, 0, none⟩)]] w fun e w' => e = .returned (.agg #[.int .i64 n0.wd, .int .i64 0, .int .i64 0]) ∧ ∃ x : Aft w, w' = x.val := by
  have HC0 := Lib.hid (fun (W : World) (hb : Below w.heap.size w W) => errorOfNode1_c k0 P A cap before n0 g0 hl W ((hb.cell (p := ⟨P, 0, none⟩) lP).trans c0) (h.below hb))
  obtain ⟨ad, rfl, hbk, hcell⟩ := hB (by simp)
  have hx0 := hcell 0 k0 (by rfl)
  have HX := Lib.hid (fun (W : World) (hb : Below w.heap.size w W) (i : Nat) => (hb.cell (p := ad.add i) (by rw [addB]; exact hbk)))
  clear h hB c0 hcell
  go_enter Tryd.func81, Tryd.ntmps81
  go_wp2_with fail
  have rL : (((w.alloc (.cells #[.int .i64 op, .int .i64 wd, .slice (some ad) 1 bc, .int .i64 v] 65)).alloc (.cells #[.int .i64 0, .int .i64 0, .int .i64 0] 117)).alloc (.cells #[.int .i64 0, .int .i64 0, .int .i64 0] 117)).heap[w.heap.size + 2]? = some (.cells #[.int .i64 0, .int .i64 0, .int .i64 0] 117) := by
    exact heap_alloc_at (by simp)
  have rR : (((w.alloc (.cells #[.int .i64 op, .int .i64 wd, .slice (some ad) 1 bc, .int .i64 v] 65)).alloc (.cells #[.int .i64 0, .int .i64 0, .int .i64 0] 117)).alloc (.cells #[.int .i64 0, .int .i64 0, .int .i64 0] 117)).heap[w.heap.size + 1]? = some (.cells #[.int .i64 0, .int .i64 0, .int .i64 0] 117) := by
    exact heap_alloc' (by simp) (heap_alloc_at (by simp))
  have rN : (((w.alloc (.cells #[.int .i64 op, .int .i64 wd, .slice (some ad) 1 bc, .int .i64 v] 65)).alloc (.cells #[.int .i64 0, .int .i64 0, .int .i64 0] 117)).alloc (.cells #[.int .i64 0, .int .i64 0, .int .i64 0] 117)).heap[w.heap.size]? = some (.cells #[.int .i64 op, .int .i64 wd, .slice (some ad) 1 bc, .int .i64 v] 65) := heap_alloc' (by simp; omega) (heap_alloc' (by simp) (heap_alloc_new _ _))
  have hb0 : Below w.heap.size w (((w.alloc (.cells #[.int .i64 op, .int .i64 wd, .slice (some ad) 1 bc, .int .i64 v] 65)).alloc (.cells #[.int .i64 0, .int .i64 0, .int .i64 0] 117)).alloc (.cells #[.int .i64 0, .int .i64 0, .int .i64 0] 117)) := (((Below.refl _ _).alloc (Nat.le_refl _) _).alloc (by simp) _).alloc (by simp; omega) _
  have qN := cell_block (i := 2) rN
  simp at qN
  generalize (((w.alloc (.cells #[.int .i64 op, .int .i64 wd, .slice (some ad) 1 bc, .int .i64 v] 65)).alloc (.cells #[.int .i64 0, .int .i64 0, .int .i64 0] 117)).alloc (.cells #[.int .i64 0, .int .i64 0, .int .i64 0] 117)) = W0 at *
  have cc0 : W0.cell? ad = some (.int .i64 k0) := (HX.out _ hb0 0).trans hx0
  refine wp_loop_rounds 2 ?_
  rw [rounds_succ]
  have qL0 := cell_block (i := 0) rL
  have fL0 := free_block (i := 0) rL
  simp at qL0
  go_wp2_with fail
  refine (HC0.out _ hb0).mono ?_
  rintro e w' ⟨rfl, rfl⟩
  have rL1 : (W0.setCell ⟨w.heap.size + 2, 0, none⟩ (.int .i64 n0.wd)).heap[w.heap.size + 2]? = some (.cells #[.int .i64 n0.wd, .int .i64 0, .int .i64 0] 117) := heap_set rL
  have rR1 : (W0.setCell ⟨w.heap.size + 2, 0, none⟩ (.int .i64 n0.wd)).heap[w.heap.size + 1]? = some (.cells #[.int .i64 0, .int .i64 0, .int .i64 0] 117) := heap_set_ne rR (by omega)
  have hb1 : Below w.heap.size w (W0.setCell ⟨w.heap.size + 2, 0, none⟩ (.int .i64 n0.wd)) := hb0.setCell (by first | omega | (simp; done) | (simp; omega)) _
  go_wp2_with fail
  clear rL rR cc0 qL0 fL0
  have rL := rL1
  have rR := rR1
  clear rL1 rR1
  generalize W0.setCell ⟨w.heap.size + 2, 0, none⟩ (.int .i64 n0.wd) = W1 at *
  rw [rounds_succ]
  have u0 := cell_block (i := 0) rL
  have u1 := cell_block (i := 1) rL
  have u2 := cell_block (i := 2) rL
  have p0 := cell_block (i := 0) rR
  have p1 := cell_block (i := 1) rR
  have p2 := cell_block (i := 2) rR
  have f0 := free_block (i := 0) rR
  have f1 := free_block (i := 1) rR
  have f2 := free_block (i := 2) rR
  simp at u0 u1 u2 p0 p1 p2
  go_wp2
  refine bodyPost_ret (by simp [results, Tryd.results81, go_sem, p0, p1, p2]; try rfl) rfl ?_
  exact ⟨rfl, Below.aft (by (repeat' (first | (with_reducible exact Below.refl _ _) | (with_reducible assumption) | (with_reducible refine Below.alloc ?_ ?_ _) | (with_reducible refine Below.drew ?_) | (with_reducible refine Aft.below _ ?_ ?_) | (with_reducible refine Below.setCell_new ?_ ?_ _ _) | (with_reducible exact Nat.le_refl _) | (with_reducible refine Aft.le _ ?_) | (with_reducible refine le_alloc ?_) | (with_reducible refine le_drew ?_) | (with_reducible refine le_setCell ?_) | omega)))⟩

set_option maxRecDepth 100000 in
set_option maxHeartbeats 1600000 in
theorem argsOf2 (op wd v : Int) (B : Option Addr) (bc : Nat) (P : Nat) (A : Option Addr) (cap : Nat) (before : List Nd) (hl : before.length ≤ 65536) (k0 : Nat) (n0 : Nd) (g0 : before[k0]? = some n0) (k1 : Nat) (n1 : Nd) (g1 : before[k1]? = some n1) (w : World) (lP : P < w.heap.size) (c0 : w.cell? ⟨P, 0, none⟩ = some (.slice A before.length cap)) (h : LiesN w A before) (hB : LiesI w B [(k0 : Int), (k1 : Int)]) :
    Calls Tryd.prog 81 #[.agg #[.int .i64 op, .int .i64 wd, .slice B 2 bc, .int .i64 v], .func (.func 82) #[] #[.pointer (some ⟨P, 0, none⟩)]] w fun e w' => e = .returned (.agg #[.int .i64 n0.wd, .int .i64 n1.wd, .int .i64 0]) ∧ ∃ x : Aft w, w' = x.val := by
  have HC0 := Lib.hid (fun (W : World) (hb : Below w.heap.size w W) => errorOfNode1_c k0 P A cap before n0 g0 hl W ((hb.cell (p := ⟨P, 0, none⟩) lP).trans c0) (h.below hb))
  have HC1 := Lib.hid (fun (W : World) (hb : Below w.heap.size w W) => errorOfNode1_c k1 P A cap before n1 g1 hl W ((hb.cell (p := ⟨P, 0, none⟩) lP).trans c0) (h.below hb))
  obtain ⟨ad, rfl, hbk, hcell⟩ := hB (by simp)
  have hx0 := hcell 0 k0 (by rfl)
  have hx1 := hcell 1 k1 (by rfl)
  have HX := Lib.hid (fun (W : World) (hb : Below w.heap.size w W) (i : Nat) => (hb.cell (p := ad.add i) (by rw [addB]; exact hbk)))
  clear h hB c0 hcell
  go_enter Tryd.func81, Tryd.ntmps81
  go_wp2_with fail
  have rL : (((w.alloc (.cells #[.int .i64 op, .int .i64 wd, .slice (some ad) 2 bc, .int .i64 v] 65)).alloc (.cells #[.int .i64 0, .int .i64 0, .int .i64 0] 117)).alloc (.cells #[.int .i64 0, .int .i64 0, .int .i64 0] 117)).heap[w.heap.size + 2]? = some (.cells #[.int .i64 0, .int .i64 0, .int .i64 0] 117) := by
    exact heap_alloc_at (by simp)
  have rR : (((w.alloc (.cells #[.int .i64 op, .int .i64 wd, .slice (some ad) 2 bc, .int .i64 v] 65)).alloc (.cells #[.int .i64 0, .int .i64 0, .int .i64 0] 117)).alloc (.cells #[.int .i64 0, .int .i64 0, .int .i64 0] 117)).heap[w.heap.size + 1]? = some (.cells #[.int .i64 0, .int .i64 0, .int .i64 0] 117) := by
    exact heap_alloc' (by simp) (heap_alloc_at (by simp))
  have rN : (((w.alloc (.cells #[.int .i64 op, .int .i64 wd, .slice (some ad) 2 bc, .int .i64 v] 65)).alloc (.cells #[.int .i64 0, .int .i64 0, .int .i64 0] 117)).alloc (.cells #[.int .i64 0, .int .i64 0, .int .i64 0] 117)).heap[w.heap.size]? = some (.cells #[.int .i64 op, .int .i64 wd, .slice (some ad) 2 bc, .int .i64 v] 65) := heap_alloc' (by simp; omega) (heap_alloc' (by simp) (heap_alloc_new _ _))
  have hb0 : Below w.heap.size w (((w.alloc (.cells #[.int .i64 op, .int .i64 wd, .slice (some ad) 2 bc, .int .i64 v] 65)).alloc (.cells #[.int .i64 0, .int .i64 0, .int .i64 0] 117)).alloc (.cells #[.int .i64 0, .int .i64 0, .int .i64 0] 117)) := (((Below.refl _ _).alloc (Nat.le_refl _) _).alloc (by simp) _).alloc (by simp; omega) _
  have qN := cell_block (i := 2) rN
  simp at qN
  generalize (((w.alloc (.cells #[.int .i64 op, .int .i64 wd, .slice (some ad) 2 bc, .int .i64 v] 65)).alloc (.cells #[.int .i64 0, .int .i64 0, .int .i64 0] 117)).alloc (.cells #[.int .i64 0, .int .i64 0, .int .i64 0] 117)) = W0 at *
  have cc0 : W0.cell? ad = some (.int .i64 k0) := (HX.out _ hb0 0).trans hx0
  refine wp_loop_rounds 3 ?_
  rw [rounds_succ]
  have qL0 := cell_block (i := 0) rL
  have fL0 := free_block (i := 0) rL
  simp at qL0
  go_wp2_with fail
  refine (HC0.out _ hb0).mono ?_
  rintro e w' ⟨rfl, rfl⟩
  have rL1 : (W0.setCell ⟨w.heap.size + 2, 0, none⟩ (.int .i64 n0.wd)).heap[w.heap.size + 2]? = some (.cells #[.int .i64 n0.wd, .int .i64 0, .int .i64 0] 117) := heap_set rL
  have rR1 : (W0.setCell ⟨w.heap.size + 2, 0, none⟩ (.int .i64 n0.wd)).heap[w.heap.size + 1]? = some (.cells #[.int .i64 0, .int .i64 0, .int .i64 0] 117) := heap_set_ne rR (by omega)
  have hb1 : Below w.heap.size w (W0.setCell ⟨w.heap.size + 2, 0, none⟩ (.int .i64 n0.wd)) := hb0.setCell (by first | omega | (simp; done) | (simp; omega)) _
  go_wp2_with fail
  clear rL rR cc0 qL0 fL0
  have rL := rL1
  have rR := rR1
  clear rL1 rR1
  generalize W0.setCell ⟨w.heap.size + 2, 0, none⟩ (.int .i64 n0.wd) = W1 at *
  have cc1 : W1.cell? ⟨ad.block, ad.off + 1, none⟩ = some (.int .i64 k1) := (HX.out _ hb1 1).trans hx1
  rw [rounds_succ]
  have qL1 := cell_block (i := 1) rL
  have fL1 := free_block (i := 1) rL
  simp at qL1
  go_wp2_with fail
  refine (HC1.out _ hb1).mono ?_
  rintro e w' ⟨rfl, rfl⟩
  have rL1 : (W1.setCell ⟨w.heap.size + 2, 1, none⟩ (.int .i64 n1.wd)).heap[w.heap.size + 2]? = some (.cells #[.int .i64 n0.wd, .int .i64 n1.wd, .int .i64 0] 117) := heap_set rL
  have rR1 : (W1.setCell ⟨w.heap.size + 2, 1, none⟩ (.int .i64 n1.wd)).heap[w.heap.size + 1]? = some (.cells #[.int .i64 0, .int .i64 0, .int .i64 0] 117) := heap_set_ne rR (by omega)
  have hb2 : Below w.heap.size w (W1.setCell ⟨w.heap.size + 2, 1, none⟩ (.int .i64 n1.wd)) := hb1.setCell (by first | omega | (simp; done) | (simp; omega)) _
  go_wp2_with fail
  clear rL rR cc1 qL1 fL1
  have rL := rL1
  have rR := rR1
  clear rL1 rR1
  generalize W1.setCell ⟨w.heap.size + 2, 1, none⟩ (.int .i64 n1.wd) = W2 at *
  rw [rounds_succ]
  have u0 := cell_block (i := 0) rL
  have u1 := cell_block (i := 1) rL
  have u2 := cell_block (i := 2) rL
  have p0 := cell_block (i := 0) rR
  have p1 := cell_block (i := 1) rR
  have p2 := cell_block (i := 2) rR
  have f0 := free_block (i := 0) rR
  have f1 := free_block (i := 1) rR
  have f2 := free_block (i := 2) rR
  simp at u0 u1 u2 p0 p1 p2
  go_wp2
  refine bodyPost_ret (by simp [results, Tryd.results81, go_sem, p0, p1, p2]; try rfl) rfl ?_
  exact ⟨rfl, Below.aft (by (repeat' (first | (with_reducible exact Below.refl _ _) | (with_reducible assumption) | (with_reducible refine Below.alloc ?_ ?_ _) | (with_reducible refine Below.drew ?_) | (with_reducible refine Aft.below _ ?_ ?_) | (with_reducible refine Below.setCell_new ?_ ?_ _ _) | (with_reducible exact Nat.le_refl _) | (with_reducible refine Aft.le _ ?_) | (with_reducible refine le_alloc ?_) | (with_reducible refine le_drew ?_) | (with_reducible refine le_setCell ?_) | omega)))⟩

set_option maxRecDepth 100000 in
set_option maxHeartbeats 1600000 in
theorem argsOf3 (op wd v : Int) (B : Option Addr) (bc : Nat) (P : Nat) (A : Option Addr) (cap : Nat) (before : List Nd) (hl : before.length ≤ 65536) (k0 : Nat) (n0 : Nd) (g0 : before[k0]? = some n0) (k1 : Nat) (n1 : Nd) (g1 : before[k1]? = some n1) (k2 : Nat) (n2 : Nd) (g2 : before[k2]? = some n2) (w : World) (lP : P < w.heap.size) (c0 : w.cell? ⟨P, 0, none⟩ = some (.slice A before.length cap)) (h : LiesN w A before) (hB : LiesI w B [(k0 : Int), (k1 : Int), (k2 : Int)]) :
    Calls Tryd.prog 81 #[.agg #[.int .i64 op, .int .i64 wd, .slice B 3 bc, .int .i64 v], .func (.func 82) #[] #[.pointer (some ⟨P, 0, none⟩)]] w fun e w' => e = .returned (.agg #[.int .i64 n0.wd, .int .i64 n1.wd, .int .i64 n2.wd]) ∧ ∃ x : Aft w, w' = x.val := by
  have HC0 := Lib.hid (fun (W : World) (hb : Below w.heap.size w W) => errorOfNode1_c k0 P A cap before n0 g0 hl W ((hb.cell (p := ⟨P, 0, none⟩) lP).trans c0) (h.below hb))
  have HC1 := Lib.hid (fun (W : World) (hb : Below w.heap.size w W) => errorOfNode1_c k1 P A cap before n1 g1 hl W ((hb.cell (p := ⟨P, 0, none⟩) lP).trans c0) (h.below hb))
  have HC2 := Lib.hid (fun (W : World) (hb : Below w.heap.size w W) => errorOfNode1_c k2 P A cap before n2 g2 hl W ((hb.cell (p := ⟨P, 0, none⟩) lP).trans c0) (h.below hb))
  obtain ⟨ad, rfl, hbk, hcell⟩ := hB (by simp)
  have hx0 := hcell 0 k0 (by rfl)
  have hx1 := hcell 1 k1 (by rfl)
  have hx2 := hcell 2 k2 (by rfl)
  have HX := Lib.hid (fun (W : World) (hb : Below w.heap.size w W) (i : Nat) => (hb.cell (p := ad.add i) (by rw [addB]; exact hbk)))
  clear h hB c0 hcell
  go_enter Tryd.func81, Tryd.ntmps81
  go_wp2_with fail
  have rL : (((w.alloc (.cells #[.int .i64 op, .int .i64 wd, .slice (some ad) 3 bc, .int .i64 v] 65)).alloc (.cells #[.int .i64 0, .int .i64 0, .int .i64 0] 117)).alloc (.cells #[.int .i64 0, .int .i64 0, .int .i64 0] 117)).heap[w.heap.size + 2]? = some (.cells #[.int .i64 0, .int .i64 0, .int .i64 0] 117) := by
    exact heap_alloc_at (by simp)
  have rR : (((w.alloc (.cells #[.int .i64 op, .int .i64 wd, .slice (some ad) 3 bc, .int .i64 v] 65)).alloc (.cells #[.int .i64 0, .int .i64 0, .int .i64 0] 117)).alloc (.cells #[.int .i64 0, .int .i64 0, .int .i64 0] 117)).heap[w.heap.size + 1]? = some (.cells #[.int .i64 0, .int .i64 0, .int .i64 0] 117) := by
    exact heap_alloc' (by simp) (heap_alloc_at (by simp))
  have rN : (((w.alloc (.cells #[.int .i64 op, .int .i64 wd, .slice (some ad) 3 bc, .int .i64 v] 65)).alloc (.cells #[.int .i64 0, .int .i64 0, .int .i64 0] 117)).alloc (.cells #[.int .i64 0, .int .i64 0, .int .i64 0] 117)).heap[w.heap.size]? = some (.cells #[.int .i64 op, .int .i64 wd, .slice (some ad) 3 bc, .int .i64 v] 65) := heap_alloc' (by simp; omega) (heap_alloc' (by simp) (heap_alloc_new _ _))
  have hb0 : Below w.heap.size w (((w.alloc (.cells #[.int .i64 op, .int .i64 wd, .slice (some ad) 3 bc, .int .i64 v] 65)).alloc (.cells #[.int .i64 0, .int .i64 0, .int .i64 0] 117)).alloc (.cells #[.int .i64 0, .int .i64 0, .int .i64 0] 117)) := (((Below.refl _ _).alloc (Nat.le_refl _) _).alloc (by simp) _).alloc (by simp; omega) _
  have qN := cell_block (i := 2) rN
  simp at qN
  generalize (((w.alloc (.cells #[.int .i64 op, .int .i64 wd, .slice (some ad) 3 bc, .int .i64 v] 65)).alloc (.cells #[.int .i64 0, .int .i64 0, .int .i64 0] 117)).alloc (.cells #[.int .i64 0, .int .i64 0, .int .i64 0] 117)) = W0 at *
  have cc0 : W0.cell? ad = some (.int .i64 k0) := (HX.out _ hb0 0).trans hx0
  refine wp_loop_rounds 4 ?_
  rw [rounds_succ]
  have qL0 := cell_block (i := 0) rL
  have fL0 := free_block (i := 0) rL
  simp at qL0
  go_wp2_with fail
  refine (HC0.out _ hb0).mono ?_
  rintro e w' ⟨rfl, rfl⟩
  have rL1 : (W0.setCell ⟨w.heap.size + 2, 0, none⟩ (.int .i64 n0.wd)).heap[w.heap.size + 2]? = some (.cells #[.int .i64 n0.wd, .int .i64 0, .int .i64 0] 117) := heap_set rL
  have rR1 : (W0.setCell ⟨w.heap.size + 2, 0, none⟩ (.int .i64 n0.wd)).heap[w.heap.size + 1]? = some (.cells #[.int .i64 0, .int .i64 0, .int .i64 0] 117) := heap_set_ne rR (by omega)
  have hb1 : Below w.heap.size w (W0.setCell ⟨w.heap.size + 2, 0, none⟩ (.int .i64 n0.wd)) := hb0.setCell (by first | omega | (simp; done) | (simp; omega)) _
  go_wp2_with fail
  clear rL rR cc0 qL0 fL0
  have rL := rL1
  have rR := rR1
  clear rL1 rR1
  generalize W0.setCell ⟨w.heap.size + 2, 0, none⟩ (.int .i64 n0.wd) = W1 at *
  have cc1 : W1.cell? ⟨ad.block, ad.off + 1, none⟩ = some (.int .i64 k1) := (HX.out _ hb1 1).trans hx1
  rw [rounds_succ]
  have qL1 := cell_block (i := 1) rL
  have fL1 := free_block (i := 1) rL
  simp at qL1
  go_wp2_with fail
  refine (HC1.out _ hb1).mono ?_
  rintro e w' ⟨rfl, rfl⟩
  have rL1 : (W1.setCell ⟨w.heap.size + 2, 1, none⟩ (.int .i64 n1.wd)).heap[w.heap.size + 2]? = some (.cells #[.int .i64 n0.wd, .int .i64 n1.wd, .int .i64 0] 117) := heap_set rL
  have rR1 : (W1.setCell ⟨w.heap.size + 2, 1, none⟩ (.int .i64 n1.wd)).heap[w.heap.size + 1]? = some (.cells #[.int .i64 0, .int .i64 0, .int .i64 0] 117) := heap_set_ne rR (by omega)
  have hb2 : Below w.heap.size w (W1.setCell ⟨w.heap.size + 2, 1, none⟩ (.int .i64 n1.wd)) := hb1.setCell (by first | omega | (simp; done) | (simp; omega)) _
  go_wp2_with fail
  clear rL rR cc1 qL1 fL1
  have rL := rL1
  have rR := rR1
  clear rL1 rR1
  generalize W1.setCell ⟨w.heap.size + 2, 1, none⟩ (.int .i64 n1.wd) = W2 at *
  have cc2 : W2.cell? ⟨ad.block, ad.off + 2, none⟩ = some (.int .i64 k2) := (HX.out _ hb2 2).trans hx2
  rw [rounds_succ]
  have qL2 := cell_block (i := 2) rL
  have fL2 := free_block (i := 2) rL
  simp at qL2
  go_wp2_with fail
  refine (HC2.out _ hb2).mono ?_
  rintro e w' ⟨rfl, rfl⟩
  have rL1 : (W2.setCell ⟨w.heap.size + 2, 2, none⟩ (.int .i64 n2.wd)).heap[w.heap.size + 2]? = some (.cells #[.int .i64 n0.wd, .int .i64 n1.wd, .int .i64 n2.wd] 117) := heap_set rL
  have rR1 : (W2.setCell ⟨w.heap.size + 2, 2, none⟩ (.int .i64 n2.wd)).heap[w.heap.size + 1]? = some (.cells #[.int .i64 0, .int .i64 0, .int .i64 0] 117) := heap_set_ne rR (by omega)
  have hb3 : Below w.heap.size w (W2.setCell ⟨w.heap.size + 2, 2, none⟩ (.int .i64 n2.wd)) := hb2.setCell (by first | omega | (simp; done) | (simp; omega)) _
  go_wp2_with fail
  clear rL rR cc2 qL2 fL2
  have rL := rL1
  have rR := rR1
  clear rL1 rR1
  generalize W2.setCell ⟨w.heap.size + 2, 2, none⟩ (.int .i64 n2.wd) = W3 at *
  rw [rounds_succ]
  have u0 := cell_block (i := 0) rL
  have u1 := cell_block (i := 1) rL
  have u2 := cell_block (i := 2) rL
  have p0 := cell_block (i := 0) rR
  have p1 := cell_block (i := 1) rR
  have p2 := cell_block (i := 2) rR
  have f0 := free_block (i := 0) rR
  have f1 := free_block (i := 1) rR
  have f2 := free_block (i := 2) rR
  simp at u0 u1 u2 p0 p1 p2
  go_wp2
  refine bodyPost_ret (by simp [results, Tryd.results81, go_sem, p0, p1, p2]; try rfl) rfl ?_
  exact ⟨rfl, Below.aft (by (repeat' (first | (with_reducible exact Below.refl _ _) | (with_reducible assumption) | (with_reducible refine Below.alloc ?_ ?_ _) | (with_reducible refine Below.drew ?_) | (with_reducible refine Aft.below _ ?_ ?_) | (with_reducible refine Below.setCell_new ?_ ?_ _ _) | (with_reducible exact Nat.le_refl _) | (with_reducible refine Aft.le _ ?_) | (with_reducible refine le_alloc ?_) | (with_reducible refine le_drew ?_) | (with_reducible refine le_setCell ?_) | omega)))⟩

end Go.Proofs.YtkdonapgonegkaaDoor

set_option linter.unusedSimpArgs false
set_option linter.unusedVariables false
namespace Go.Proofs.YtkdonapgonegkaaDoor
open Go.RowKit Go.BigFrame

/-- The names of the operations, and whether they have a number. -/
def opL (o : Nat) : List UInt8 := ([[99, 111, 110, 115, 116], [108, 101, 97, 102], [110, 111, 116], [97, 110, 100], [111, 114], [120, 111, 114], [97, 100, 100], [115, 117, 98], [109, 117, 108], [101, 113], [108, 116], [115, 108, 116], [109, 117, 120], [106, 111, 105, 110], [115, 108, 105, 99, 101], [122, 101, 120, 116], [115, 101, 120, 116], [115, 104, 108], [115, 104, 114]] : List (List UInt8)).getD o [63]
def opN (o : Nat) : Bool := o == 0 || o == 1 || o == 14
/-- What the program's table of operations says of them. -/
structure TabOps (w : World) : Prop where
  args : ∀ o : Nat, o < 19 → w.cell? ⟨0, o * 3 + 1, none⟩ = some (.int .i64 (argN o))
  names : ∀ o : Nat, o < 19 → w.cell? ⟨0, o * 3, none⟩ = some (.string ⟨(opL o).toArray⟩)
  nums : ∀ o : Nat, o < 19 → w.cell? ⟨0, o * 3 + 2, none⟩ = some (.bool (opN o))
  big : 0 < w.heap.size
theorem TabOps.below {w W : World} (h : TabOps w) (hb : Below w.heap.size w W) : TabOps W where
  args o ho := (hb.cell (p := ⟨0, o * 3 + 1, none⟩) h.big).trans (h.args o ho)
  names o ho := (hb.cell (p := ⟨0, o * 3, none⟩) h.big).trans (h.names o ho)
  nums o ho := (hb.cell (p := ⟨0, o * 3 + 2, none⟩) h.big).trans (h.nums o ho)
  big := Nat.lt_of_lt_of_le h.big hb.size
def node3 (ls : List Int) (before : List Nd) (n : Nd) : Int := firstE [eIf ((n.args.length : Int) != argN n.op) 10, argsE n.args before.length 9, numE ls n.op n.wd n.v]
theorem nodeE_15 {ls : List Int} {before : List Nd} {n : Nd} (h : isIx n.op 19 = false) : nodeE ls before n = 15 := by unfold nodeE; rw [h]; rfl
theorem nodeE_2 {ls : List Int} {before : List Nd} {n : Nd} (h : isIx n.op 19 = true) (h2 : isW n.wd = false) : nodeE ls before n = 2 := by unfold nodeE; rw [h, h2]; rfl
theorem nodeE_3 {ls : List Int} {before : List Nd} {n : Nd} (h : isIx n.op 19 = true) (h2 : isW n.wd = true) (h3 : ¬ node3 ls before n = 0) : nodeE ls before n = node3 ls before n := by
  unfold nodeE; rw [h, h2, if_pos rfl, if_pos rfl]; exact if_neg h3
theorem nodeE_4 {ls : List Int} {before : List Nd} {n : Nd} (h : isIx n.op 19 = true) (h2 : isW n.wd = true) (h3 : node3 ls before n = 0) : nodeE ls before n = eIf (!fitW n.op n.wd n.v (wAt before n.args 0) (wAt before n.args 1) (wAt before n.args 2)) 25 := by
  unfold nodeE; rw [h, h2, if_pos rfl, if_pos rfl]; exact if_pos h3
theorem node3_zero {ls : List Int} {before : List Nd} {n : Nd} (h : node3 ls before n = 0) : (n.args.length : Int) = argN n.op ∧ (∀ i ∈ n.args, isIx i before.length = true) ∧ numE ls n.op n.wd n.v = 0 := by
  unfold node3 firstE at h
  by_cases h1 : eIf ((n.args.length : Int) != argN n.op) 10 = 0
  · rw [if_pos h1] at h
    unfold firstE at h
    by_cases h2 : argsE n.args before.length 9 = 0
    · rw [if_pos h2, firstE_one] at h
      refine ⟨?_, ?_, h⟩
      · by_cases k : (n.args.length : Int) = argN n.op
        · exact k
        · have : ((n.args.length : Int) != argN n.op) = true := by simpa using k
          rw [this] at h1; cases h1
      · unfold argsE at h2
        by_cases k : n.args.all (fun i => isIx i before.length) = true
        · exact List.all_eq_true.1 k
        · rw [if_neg k] at h2; cases h2
    · rw [if_neg h2] at h; exact absurd h h2
  · rw [if_neg h1] at h; exact absurd h h1
theorem argN_le (op : Int) : argN op ≤ 3 := by unfold argN; split <;> (try split) <;> (try split) <;> decide

set_option maxRecDepth 100000 in
set_option maxHeartbeats 1600000 in
theorem errorOfNode_15 (A : Option Addr) (cap : Nat) (ls : List Int) (hls : ls.length ≤ 65536) (N : Option Addr) (capN : Nat) (before : List Nd) (hbe : before.length ≤ 65536) (nd : Nd) (hla : nd.args.length ≤ 65536) (B : Option Addr) (bc : Nat) (w : World) (hA : LiesI w A ls) (hN : LiesN w N before) (hB : LiesI w B nd.args) (ht : TabOps w) (h : isIx nd.op 19 = false) :
    Calls Tryd.prog 51 #[.slice A ls.length cap, .slice N before.length capN, .agg #[.int .i64 nd.op, .int .i64 nd.wd, .slice B nd.args.length bc, .int .i64 nd.v]] w fun e w' => e = .returned (.int .i64 (nodeE ls before nd)) ∧ ∃ x : Aft w, w' = x.val := by
  have HI := Lib.hid (fun w => by have k := isIndex_c nd.op 19 w; rw [h] at k; exact k)
  have HR := Lib.hid (nodeE_15 (ls := ls) (before := before) h)
  clear hA hN hB ht h
  go_enter Tryd.func51, Tryd.ntmps51
  go_wp2_with (go_at_call 66; ((with_reducible refine (HI.out _).mono ?_); rintro e w' ⟨rfl, rfl⟩))
  go_ret
  exact ⟨retI HR.out.symm, Below.aft (by (repeat' (first | (with_reducible exact Below.refl _ _) | (with_reducible assumption) | (with_reducible refine Below.alloc ?_ ?_ _) | (with_reducible refine Below.drew ?_) | (with_reducible refine Aft.below _ ?_ ?_) | (with_reducible refine Below.setCell_new ?_ ?_ _ _) | (with_reducible exact Nat.le_refl _) | (with_reducible refine Aft.le _ ?_) | (with_reducible refine le_alloc ?_) | (with_reducible refine le_drew ?_) | (with_reducible refine le_setCell ?_) | omega)))⟩

set_option maxRecDepth 100000 in
set_option maxHeartbeats 1600000 in
theorem errorOfNode_2 (A : Option Addr) (cap : Nat) (ls : List Int) (hls : ls.length ≤ 65536) (N : Option Addr) (capN : Nat) (before : List Nd) (hbe : before.length ≤ 65536) (nd : Nd) (hla : nd.args.length ≤ 65536) (B : Option Addr) (bc : Nat) (w : World) (hA : LiesI w A ls) (hN : LiesN w N before) (hB : LiesI w B nd.args) (ht : TabOps w) (h : isIx nd.op 19 = true) (h2 : isW nd.wd = false) :
    Calls Tryd.prog 51 #[.slice A ls.length cap, .slice N before.length capN, .agg #[.int .i64 nd.op, .int .i64 nd.wd, .slice B nd.args.length bc, .int .i64 nd.v]] w fun e w' => e = .returned (.int .i64 (nodeE ls before nd)) ∧ ∃ x : Aft w, w' = x.val := by
  have HI := Lib.hid (fun w => by have k := isIndex_c nd.op 19 w; rw [h] at k; exact k)
  have HW := Lib.hid (fun w => by have k := isWidth_c nd.wd w; rw [h2] at k; exact k)
  have HR := Lib.hid (nodeE_2 (ls := ls) (before := before) h h2)
  clear hA hN hB ht h h2
  go_enter Tryd.func51, Tryd.ntmps51
  go_wp2_with (first | (go_at_call 66; ((with_reducible refine (HI.out _).mono ?_); rintro e w' ⟨rfl, rfl⟩)) | (go_at_call 48; ((with_reducible refine (HW.out _).mono ?_); rintro e w' ⟨rfl, rfl⟩)))
  go_ret
  exact ⟨retI HR.out.symm, Below.aft (by (repeat' (first | (with_reducible exact Below.refl _ _) | (with_reducible assumption) | (with_reducible refine Below.alloc ?_ ?_ _) | (with_reducible refine Below.drew ?_) | (with_reducible refine Aft.below _ ?_ ?_) | (with_reducible refine Below.setCell_new ?_ ?_ _ _) | (with_reducible exact Nat.le_refl _) | (with_reducible refine Aft.le _ ?_) | (with_reducible refine le_alloc ?_) | (with_reducible refine le_drew ?_) | (with_reducible refine le_setCell ?_) | omega)))⟩

set_option maxRecDepth 100000 in
set_option maxHeartbeats 1600000 in
theorem errorOfNode_3 (A : Option Addr) (cap : Nat) (ls : List Int) (hls : ls.length ≤ 65536) (N : Option Addr) (capN : Nat) (before : List Nd) (hbe : before.length ≤ 65536) (nd : Nd) (hla : nd.args.length ≤ 65536) (B : Option Addr) (bc : Nat) (w : World) (hA : LiesI w A ls) (hN : LiesN w N before) (hB : LiesI w B nd.args) (ht : TabOps w) (h : isIx nd.op 19 = true) (h2 : isW nd.wd = true) (h3 : ¬ node3 ls before nd = 0) :
    Calls Tryd.prog 51 #[.slice A ls.length cap, .slice N before.length capN, .agg #[.int .i64 nd.op, .int .i64 nd.wd, .slice B nd.args.length bc, .int .i64 nd.v]] w fun e w' => e = .returned (.int .i64 (nodeE ls before nd)) ∧ ∃ x : Aft w, w' = x.val := by
  obtain ⟨op, wd, args, v⟩ := nd
  simp only at *
  obtain ⟨o0, o1⟩ := isIx_iff.1 h
  obtain ⟨w1, w2⟩ := isW_iff.1 h2
  obtain ⟨o, rfl⟩ := Int.eq_ofNat_of_zero_le o0
  have HI := Lib.hid (fun w => by have k := isIndex_c (o : Int) 19 w; rw [h] at k; exact k)
  have HW := Lib.hid (fun w => by have k := isWidth_c wd w; rw [h2] at k; exact k)
  have hb0 : Below w.heap.size w ((w.alloc (.cells #[.slice N before.length capN] 23)).alloc (.cells #[.int .i64 (o : Int), .int .i64 wd, .slice B args.length bc, .int .i64 v] 65)) := ((Below.refl _ _).alloc (Nat.le_refl _) _).alloc (by simp) _
  have HX := Lib.hid (fun y : Aft ((w.alloc (.cells #[.slice N before.length capN] 23)).alloc (.cells #[.int .i64 (o : Int), .int .i64 wd, .slice B args.length bc, .int .i64 v] 65)) => errorOfIndexes_c before.length 9 (by decide) B bc args hla y.val ((hB.below hb0).aft y))
  have HN := Lib.hid (fun y : Aft ((w.alloc (.cells #[.slice N before.length capN] 23)).alloc (.cells #[.int .i64 (o : Int), .int .i64 wd, .slice B args.length bc, .int .i64 v] 65)) => errorOfNumber_c A cap ls hls (o : Int) wd v w1 w2 B args.length bc y.val ((hA.below hb0).aft y))
  have hF : firstE [eIf ((args.length : Int) != argN (o : Int)) 10, argsE args before.length 9, numE ls (o : Int) wd v] = node3 ls before ⟨o, wd, args, v⟩ := rfl
  have HF := Lib.hid hF
  clear hF
  have HR := Lib.hid (nodeE_3 h h2 h3)
  have n1 : (node3 ls before ⟨o, wd, args, v⟩ == 0) = false := by simpa using h3
  have n2 : (node3 ls before ⟨o, wd, args, v⟩ != 0) = true := by simpa using h3
  have HTT := Lib.hid ht
  clear hA hN hB ht h h2 h3
  go_enter Tryd.func51, Tryd.ntmps51
  go_wp2_with (first | (go_at_call 66; ((with_reducible refine (HI.out _).mono ?_); rintro e w' ⟨rfl, rfl⟩)) | (go_at_call 48; ((with_reducible refine (HW.out _).mono ?_); rintro e w' ⟨rfl, rfl⟩)))
  have tb := (HTT.out.below hb0).big
  have tc := (HTT.out.below hb0).args o (by omega)
  have r0 : ((w.alloc (.cells #[.slice N before.length capN] 23)).alloc (.cells #[.int .i64 (o : Int), .int .i64 wd, .slice B args.length bc, .int .i64 v] 65)).heap[w.heap.size]? = some (.cells #[.slice N before.length capN] 23) := heap_alloc' (by simp) (heap_alloc_new _ _)
  have r1 : ((w.alloc (.cells #[.slice N before.length capN] 23)).alloc (.cells #[.int .i64 (o : Int), .int .i64 wd, .slice B args.length bc, .int .i64 v] 65)).heap[w.heap.size + 1]? = some (.cells #[.int .i64 (o : Int), .int .i64 wd, .slice B args.length bc, .int .i64 v] 65) := heap_alloc_at (by simp)
  have z0 : w.heap.size < ((w.alloc (.cells #[.slice N before.length capN] 23)).alloc (.cells #[.int .i64 (o : Int), .int .i64 wd, .slice B args.length bc, .int .i64 v] 65)).heap.size := by simp; omega
  have z1 : w.heap.size + 1 < ((w.alloc (.cells #[.slice N before.length capN] 23)).alloc (.cells #[.int .i64 (o : Int), .int .i64 wd, .slice B args.length bc, .int .i64 v] 65)).heap.size := by simp
  generalize ((w.alloc (.cells #[.slice N before.length capN] 23)).alloc (.cells #[.int .i64 (o : Int), .int .i64 wd, .slice B args.length bc, .int .i64 v] 65)) = W0 at *
  have q0 := cell_block (i := 0) r0
  have p0 := cell_block (i := 0) r1
  have p1 := cell_block (i := 1) r1
  have p2 := cell_block (i := 2) r1
  have p3 := cell_block (i := 3) r1
  simp at q0 p0 p1 p2 p3
  refine wp_region_aft_tail 18 (by kernel_rfl) (by kernel_rfl) ?_
  simp only [List.take_succ_cons, List.take_zero, List.drop_succ_cons, List.drop_zero]
  repeat (go_big_quiet_step (first | (go_at_call 47; exact Calls.qs (errorIf_c _ _ _)) | (go_at_call 79; exact Calls.qa (HX.out _)) | (go_at_call 80; exact Calls.qa (HN.out _))))
  refine wpQuiet_nil ?_
  intro x
  go_wp2_with fail
  refine (firstError3 _ _ _ _ _ _ _ (by exact heap_alloc_at (by simp [go_sem]))).mono ?_
  rw [HF.out]
  rintro e w' ⟨rfl, rfl⟩
  have hbx : Below w.heap.size w x.val := x.below hb0 hb0.size
  clear q0 p0 p1 p2 p3 tb tc HX HN
  go_wp2
  go_ret
  exact ⟨retI HR.out.symm, Below.aft (hbx.alloc hbx.size _)⟩

set_option maxRecDepth 100000 in
set_option maxHeartbeats 1600000 in
theorem errorOfNode_ok0 (A : Option Addr) (cap : Nat) (ls : List Int) (hls : ls.length ≤ 65536) (N : Option Addr) (capN : Nat) (before : List Nd) (hbe : before.length ≤ 65536) (o : Nat) (wd v : Int)  (B : Option Addr) (bc : Nat) (w : World) (hA : LiesI w A ls) (hN : LiesN w N before) (hB : LiesI w B ([] : List Int)) (ht : TabOps w) (hv : ∀ n ∈ before, isW n.wd = true) (h : isIx (o : Int) 19 = true) (h2 : isW wd = true) (h3 : node3 ls before (⟨(o : Int), wd, ([] : List Int), v⟩ : Nd) = 0) :
    Calls Tryd.prog 51 #[.slice A ls.length cap, .slice N before.length capN, .agg #[.int .i64 (o : Int), .int .i64 wd, .slice B 0 bc, .int .i64 v]] w fun e w' => e = .returned (.int .i64 (nodeE ls before (⟨(o : Int), wd, ([] : List Int), v⟩ : Nd))) ∧ ∃ x : Aft w, w' = x.val := by
  have hz := node3_zero h3
  have HR := Lib.hid (nodeE_4 h h2 h3)
  have HW3 := Lib.hid (show wAt before ([] : List Int) 0 = (0 : Int) ∧ wAt before ([] : List Int) 1 = (0 : Int) ∧ wAt before ([] : List Int) 2 = (0 : Int) from ⟨wAt_out (by simp), wAt_out (by simp), wAt_out (by simp)⟩)
  have bd : ∀ {k : Nat} {n : Nd}, before[k]? = some n → 0 ≤ n.wd ∧ n.wd ≤ 16 := fun hk => by
    have := isW_iff.1 (hv _ (List.mem_of_getElem? hk)); omega
  have ba : 0 ≤ (0 : Int) ∧ (0 : Int) ≤ 16 := by decide
  have bb : 0 ≤ (0 : Int) ∧ (0 : Int) ≤ 16 := by decide
  have bv : (o : Int) = 14 → 0 ≤ v ∧ v ≤ 15 := fun h14 => by
    have hn := hz.2.2
    simp only at hn
    rw [h14] at hn
    have hn' : eIf (!isIx v 16) 2 = 0 := hn
    cases hx : isIx v 16
    · rw [hx] at hn'; cases hn'
    · have := isIx_iff.1 hx; omega
  have HFit := Lib.hid (fun (B' : Option Addr) W => widthsFit_c (o : Int) wd v (0 : Int) (0 : Int) (0 : Int) (isIx_iff.1 h).1 (by have := (isIx_iff.1 h).2; omega) (isW_iff.1 h2).1 (isW_iff.1 h2).2 ba bb bv B' 0 bc W)
  obtain ⟨o0, o1⟩ := isIx_iff.1 h
  obtain ⟨w1, w2⟩ := isW_iff.1 h2
  have hla : ([] : List Int).length ≤ 65536 := by simp
  have HI := Lib.hid (fun w => by have k := isIndex_c (o : Int) 19 w; rw [h] at k; exact k)
  have HW := Lib.hid (fun w => by have k := isWidth_c wd w; rw [h2] at k; exact k)
  have hb0 : Below w.heap.size w ((w.alloc (.cells #[.slice N before.length capN] 23)).alloc (.cells #[.int .i64 (o : Int), .int .i64 wd, .slice B 0 bc, .int .i64 v] 65)) := ((Below.refl _ _).alloc (Nat.le_refl _) _).alloc (by simp) _
  have HX := Lib.hid (fun y : Aft ((w.alloc (.cells #[.slice N before.length capN] 23)).alloc (.cells #[.int .i64 (o : Int), .int .i64 wd, .slice B 0 bc, .int .i64 v] 65)) => errorOfIndexes_c before.length 9 (by decide) B bc ([] : List Int) hla y.val ((hB.below hb0).aft y))
  have HN := Lib.hid (fun y : Aft ((w.alloc (.cells #[.slice N before.length capN] 23)).alloc (.cells #[.int .i64 (o : Int), .int .i64 wd, .slice B 0 bc, .int .i64 v] 65)) => errorOfNumber_c A cap ls hls (o : Int) wd v w1 w2 B 0 bc y.val ((hA.below hb0).aft y))
  have hF : firstE [eIf ((0 : Int) != argN (o : Int)) 10, argsE ([] : List Int) before.length 9, numE ls (o : Int) wd v] = node3 ls before (⟨(o : Int), wd, ([] : List Int), v⟩ : Nd) := rfl
  have HF := Lib.hid hF
  clear hF
  have HTT := Lib.hid ht
  have HAr := Lib.hid (fun (W : World) (hb : Below w.heap.size w W) (hl : w.heap.size < W.heap.size) (hc : W.cell? ⟨w.heap.size, 0, none⟩ = some (.slice N before.length capN)) => argsOf0 (o : Int) wd v B bc w.heap.size N capN before hbe  W hl hc (hN.below hb) (hB.below hb))
  clear hA hN hB ht h h2 hz ba bb bv bd hv
  rw [h3] at HF
  clear h3
  go_enter Tryd.func51, Tryd.ntmps51
  go_wp2_with (first | (go_at_call 66; ((with_reducible refine (HI.out _).mono ?_); rintro e w' ⟨rfl, rfl⟩)) | (go_at_call 48; ((with_reducible refine (HW.out _).mono ?_); rintro e w' ⟨rfl, rfl⟩)))
  have tb := (HTT.out.below hb0).big
  have tc := (HTT.out.below hb0).args o (by omega)
  have r0 : ((w.alloc (.cells #[.slice N before.length capN] 23)).alloc (.cells #[.int .i64 (o : Int), .int .i64 wd, .slice B 0 bc, .int .i64 v] 65)).heap[w.heap.size]? = some (.cells #[.slice N before.length capN] 23) := heap_alloc' (by simp) (heap_alloc_new _ _)
  have r1 : ((w.alloc (.cells #[.slice N before.length capN] 23)).alloc (.cells #[.int .i64 (o : Int), .int .i64 wd, .slice B 0 bc, .int .i64 v] 65)).heap[w.heap.size + 1]? = some (.cells #[.int .i64 (o : Int), .int .i64 wd, .slice B 0 bc, .int .i64 v] 65) := heap_alloc_at (by simp)
  have z0 : w.heap.size < ((w.alloc (.cells #[.slice N before.length capN] 23)).alloc (.cells #[.int .i64 (o : Int), .int .i64 wd, .slice B 0 bc, .int .i64 v] 65)).heap.size := by simp; omega
  have z1 : w.heap.size + 1 < ((w.alloc (.cells #[.slice N before.length capN] 23)).alloc (.cells #[.int .i64 (o : Int), .int .i64 wd, .slice B 0 bc, .int .i64 v] 65)).heap.size := by simp
  generalize ((w.alloc (.cells #[.slice N before.length capN] 23)).alloc (.cells #[.int .i64 (o : Int), .int .i64 wd, .slice B 0 bc, .int .i64 v] 65)) = W0 at *
  have q0 := cell_block (i := 0) r0
  have p0 := cell_block (i := 0) r1
  have p1 := cell_block (i := 1) r1
  have p2 := cell_block (i := 2) r1
  have p3 := cell_block (i := 3) r1
  simp at q0 p0 p1 p2 p3
  refine wp_region_aft_tail 18 (by kernel_rfl) (by kernel_rfl) ?_
  simp only [List.take_succ_cons, List.take_zero, List.drop_succ_cons, List.drop_zero]
  repeat (go_big_quiet_step (first | (go_at_call 47; exact Calls.qs (errorIf_c _ _ _)) | (go_at_call 79; exact Calls.qa (HX.out _)) | (go_at_call 80; exact Calls.qa (HN.out _))))
  refine wpQuiet_nil ?_
  intro x
  go_wp2_with fail
  refine (firstError3 _ _ _ _ _ _ _ (by exact heap_alloc_at (by simp [go_sem]))).mono ?_
  rw [show firstE _ = 0 from HF.out]
  rintro e V ⟨rfl, hV⟩
  have hbx : Below w.heap.size w V := by rw [← hV]; exact (x.below hb0 hb0.size).alloc (x.below hb0 hb0.size).size _
  have y0 : w.heap.size < V.heap.size := by rw [← hV]; exact lt_alloc (x.lt' z0)
  have y1 : w.heap.size + 1 < V.heap.size := by rw [← hV]; exact lt_alloc (x.lt' z1)
  have qv : V.cell? ⟨w.heap.size, 0, none⟩ = some (.slice N before.length capN) := by rw [← hV]; exact cell_alloc (x.lt' z0) (cell_aft x z0 q0)
  have pv0 : V.cell? ⟨w.heap.size + 1, 0, none⟩ = some (.int .i64 o) := by rw [← hV]; exact cell_alloc (x.lt' z1) (cell_aft x z1 p0)
  have pv1 : V.cell? ⟨w.heap.size + 1, 1, none⟩ = some (.int .i64 wd) := by rw [← hV]; exact cell_alloc (x.lt' z1) (cell_aft x z1 p1)
  have pv2 : V.cell? ⟨w.heap.size + 1, 2, none⟩ = some (.slice B 0 bc) := by rw [← hV]; exact cell_alloc (x.lt' z1) (cell_aft x z1 p2)
  have pv3 : V.cell? ⟨w.heap.size + 1, 3, none⟩ = some (.int .i64 v) := by rw [← hV]; exact cell_alloc (x.lt' z1) (cell_aft x z1 p3)
  clear hV q0 p0 p1 p2 p3 tb tc HX HN z0 z1 hb0 HTT
  go_wp2_with fail
  refine (HAr.out _ hbx y0 qv).mono ?_
  rintro e U ⟨rfl, y, hU⟩
  have hbu : Below w.heap.size w U := by rw [hU]; exact y.below hbx hbx.size
  have u1 : w.heap.size + 1 < U.heap.size := by rw [hU]; exact y.lt' y1
  have pu0 : U.cell? ⟨w.heap.size + 1, 0, none⟩ = some (.int .i64 o) := by rw [hU]; exact cell_aft y y1 pv0
  have pu1 : U.cell? ⟨w.heap.size + 1, 1, none⟩ = some (.int .i64 wd) := by rw [hU]; exact cell_aft y y1 pv1
  have pu2 : U.cell? ⟨w.heap.size + 1, 2, none⟩ = some (.slice B 0 bc) := by rw [hU]; exact cell_aft y y1 pv2
  have pu3 : U.cell? ⟨w.heap.size + 1, 3, none⟩ = some (.int .i64 v) := by rw [hU]; exact cell_aft y y1 pv3
  clear hU qv pv0 pv1 pv2 pv3 y0 y1 hbx
  go_wp2_with fail
  refine (HFit.out _ _).mono ?_
  rintro e w' ⟨rfl, y2, rfl⟩
  go_wp2_with fail
  refine (errorIf_c _ _ _).mono ?_
  rintro e w' ⟨rfl, rfl⟩
  go_wp2
  go_ret
  exact ⟨retI (by rw [HR.out]; simp only [HW3.out.1, HW3.out.2.1, HW3.out.2.2]), Below.aft (y2.below (hbu.alloc hbu.size _) (hbu.alloc hbu.size _).size)⟩

set_option maxRecDepth 100000 in
set_option maxHeartbeats 1600000 in
theorem errorOfNode_ok1 (A : Option Addr) (cap : Nat) (ls : List Int) (hls : ls.length ≤ 65536) (N : Option Addr) (capN : Nat) (before : List Nd) (hbe : before.length ≤ 65536) (o : Nat) (wd v : Int) (k0 : Nat) (n0 : Nd) (g0 : before[k0]? = some n0) (B : Option Addr) (bc : Nat) (w : World) (hA : LiesI w A ls) (hN : LiesN w N before) (hB : LiesI w B [(k0 : Int)]) (ht : TabOps w) (hv : ∀ n ∈ before, isW n.wd = true) (h : isIx (o : Int) 19 = true) (h2 : isW wd = true) (h3 : node3 ls before (⟨(o : Int), wd, [(k0 : Int)], v⟩ : Nd) = 0) :
    Calls Tryd.prog 51 #[.slice A ls.length cap, .slice N before.length capN, .agg #[.int .i64 (o : Int), .int .i64 wd, .slice B 1 bc, .int .i64 v]] w fun e w' => e = .returned (.int .i64 (nodeE ls before (⟨(o : Int), wd, [(k0 : Int)], v⟩ : Nd))) ∧ ∃ x : Aft w, w' = x.val := by
  have hz := node3_zero h3
  have HR := Lib.hid (nodeE_4 h h2 h3)
  have HW3 := Lib.hid (show wAt before [(k0 : Int)] 0 = n0.wd ∧ wAt before [(k0 : Int)] 1 = (0 : Int) ∧ wAt before [(k0 : Int)] 2 = (0 : Int) from ⟨wAt_in (by rfl) g0, wAt_out (by simp), wAt_out (by simp)⟩)
  have bd : ∀ {k : Nat} {n : Nd}, before[k]? = some n → 0 ≤ n.wd ∧ n.wd ≤ 16 := fun hk => by
    have := isW_iff.1 (hv _ (List.mem_of_getElem? hk)); omega
  have ba : 0 ≤ n0.wd ∧ n0.wd ≤ 16 := bd g0
  have bb : 0 ≤ (0 : Int) ∧ (0 : Int) ≤ 16 := by decide
  have bv : (o : Int) = 14 → 0 ≤ v ∧ v ≤ 15 := fun h14 => by
    have hn := hz.2.2
    simp only at hn
    rw [h14] at hn
    have hn' : eIf (!isIx v 16) 2 = 0 := hn
    cases hx : isIx v 16
    · rw [hx] at hn'; cases hn'
    · have := isIx_iff.1 hx; omega
  have HFit := Lib.hid (fun (B' : Option Addr) W => widthsFit_c (o : Int) wd v n0.wd (0 : Int) (0 : Int) (isIx_iff.1 h).1 (by have := (isIx_iff.1 h).2; omega) (isW_iff.1 h2).1 (isW_iff.1 h2).2 ba bb bv B' 1 bc W)
  obtain ⟨o0, o1⟩ := isIx_iff.1 h
  obtain ⟨w1, w2⟩ := isW_iff.1 h2
  have hla : [(k0 : Int)].length ≤ 65536 := by simp
  have HI := Lib.hid (fun w => by have k := isIndex_c (o : Int) 19 w; rw [h] at k; exact k)
  have HW := Lib.hid (fun w => by have k := isWidth_c wd w; rw [h2] at k; exact k)
  have hb0 : Below w.heap.size w ((w.alloc (.cells #[.slice N before.length capN] 23)).alloc (.cells #[.int .i64 (o : Int), .int .i64 wd, .slice B 1 bc, .int .i64 v] 65)) := ((Below.refl _ _).alloc (Nat.le_refl _) _).alloc (by simp) _
  have HX := Lib.hid (fun y : Aft ((w.alloc (.cells #[.slice N before.length capN] 23)).alloc (.cells #[.int .i64 (o : Int), .int .i64 wd, .slice B 1 bc, .int .i64 v] 65)) => errorOfIndexes_c before.length 9 (by decide) B bc [(k0 : Int)] hla y.val ((hB.below hb0).aft y))
  have HN := Lib.hid (fun y : Aft ((w.alloc (.cells #[.slice N before.length capN] 23)).alloc (.cells #[.int .i64 (o : Int), .int .i64 wd, .slice B 1 bc, .int .i64 v] 65)) => errorOfNumber_c A cap ls hls (o : Int) wd v w1 w2 B 1 bc y.val ((hA.below hb0).aft y))
  have hF : firstE [eIf ((1 : Int) != argN (o : Int)) 10, argsE [(k0 : Int)] before.length 9, numE ls (o : Int) wd v] = node3 ls before (⟨(o : Int), wd, [(k0 : Int)], v⟩ : Nd) := rfl
  have HF := Lib.hid hF
  clear hF
  have HTT := Lib.hid ht
  have HAr := Lib.hid (fun (W : World) (hb : Below w.heap.size w W) (hl : w.heap.size < W.heap.size) (hc : W.cell? ⟨w.heap.size, 0, none⟩ = some (.slice N before.length capN)) => argsOf1 (o : Int) wd v B bc w.heap.size N capN before hbe k0 n0 g0 W hl hc (hN.below hb) (hB.below hb))
  clear hA hN hB ht h h2 hz ba bb bv bd hv
  rw [h3] at HF
  clear h3
  go_enter Tryd.func51, Tryd.ntmps51
  go_wp2_with (first | (go_at_call 66; ((with_reducible refine (HI.out _).mono ?_); rintro e w' ⟨rfl, rfl⟩)) | (go_at_call 48; ((with_reducible refine (HW.out _).mono ?_); rintro e w' ⟨rfl, rfl⟩)))
  have tb := (HTT.out.below hb0).big
  have tc := (HTT.out.below hb0).args o (by omega)
  have r0 : ((w.alloc (.cells #[.slice N before.length capN] 23)).alloc (.cells #[.int .i64 (o : Int), .int .i64 wd, .slice B 1 bc, .int .i64 v] 65)).heap[w.heap.size]? = some (.cells #[.slice N before.length capN] 23) := heap_alloc' (by simp) (heap_alloc_new _ _)
  have r1 : ((w.alloc (.cells #[.slice N before.length capN] 23)).alloc (.cells #[.int .i64 (o : Int), .int .i64 wd, .slice B 1 bc, .int .i64 v] 65)).heap[w.heap.size + 1]? = some (.cells #[.int .i64 (o : Int), .int .i64 wd, .slice B 1 bc, .int .i64 v] 65) := heap_alloc_at (by simp)
  have z0 : w.heap.size < ((w.alloc (.cells #[.slice N before.length capN] 23)).alloc (.cells #[.int .i64 (o : Int), .int .i64 wd, .slice B 1 bc, .int .i64 v] 65)).heap.size := by simp; omega
  have z1 : w.heap.size + 1 < ((w.alloc (.cells #[.slice N before.length capN] 23)).alloc (.cells #[.int .i64 (o : Int), .int .i64 wd, .slice B 1 bc, .int .i64 v] 65)).heap.size := by simp
  generalize ((w.alloc (.cells #[.slice N before.length capN] 23)).alloc (.cells #[.int .i64 (o : Int), .int .i64 wd, .slice B 1 bc, .int .i64 v] 65)) = W0 at *
  have q0 := cell_block (i := 0) r0
  have p0 := cell_block (i := 0) r1
  have p1 := cell_block (i := 1) r1
  have p2 := cell_block (i := 2) r1
  have p3 := cell_block (i := 3) r1
  simp at q0 p0 p1 p2 p3
  refine wp_region_aft_tail 18 (by kernel_rfl) (by kernel_rfl) ?_
  simp only [List.take_succ_cons, List.take_zero, List.drop_succ_cons, List.drop_zero]
  repeat (go_big_quiet_step (first | (go_at_call 47; exact Calls.qs (errorIf_c _ _ _)) | (go_at_call 79; exact Calls.qa (HX.out _)) | (go_at_call 80; exact Calls.qa (HN.out _))))
  refine wpQuiet_nil ?_
  intro x
  go_wp2_with fail
  refine (firstError3 _ _ _ _ _ _ _ (by exact heap_alloc_at (by simp [go_sem]))).mono ?_
  rw [show firstE _ = 0 from HF.out]
  rintro e V ⟨rfl, hV⟩
  have hbx : Below w.heap.size w V := by rw [← hV]; exact (x.below hb0 hb0.size).alloc (x.below hb0 hb0.size).size _
  have y0 : w.heap.size < V.heap.size := by rw [← hV]; exact lt_alloc (x.lt' z0)
  have y1 : w.heap.size + 1 < V.heap.size := by rw [← hV]; exact lt_alloc (x.lt' z1)
  have qv : V.cell? ⟨w.heap.size, 0, none⟩ = some (.slice N before.length capN) := by rw [← hV]; exact cell_alloc (x.lt' z0) (cell_aft x z0 q0)
  have pv0 : V.cell? ⟨w.heap.size + 1, 0, none⟩ = some (.int .i64 o) := by rw [← hV]; exact cell_alloc (x.lt' z1) (cell_aft x z1 p0)
  have pv1 : V.cell? ⟨w.heap.size + 1, 1, none⟩ = some (.int .i64 wd) := by rw [← hV]; exact cell_alloc (x.lt' z1) (cell_aft x z1 p1)
  have pv2 : V.cell? ⟨w.heap.size + 1, 2, none⟩ = some (.slice B 1 bc) := by rw [← hV]; exact cell_alloc (x.lt' z1) (cell_aft x z1 p2)
  have pv3 : V.cell? ⟨w.heap.size + 1, 3, none⟩ = some (.int .i64 v) := by rw [← hV]; exact cell_alloc (x.lt' z1) (cell_aft x z1 p3)
  clear hV q0 p0 p1 p2 p3 tb tc HX HN z0 z1 hb0 HTT
  go_wp2_with fail
  refine (HAr.out _ hbx y0 qv).mono ?_
  rintro e U ⟨rfl, y, hU⟩
  have hbu : Below w.heap.size w U := by rw [hU]; exact y.below hbx hbx.size
  have u1 : w.heap.size + 1 < U.heap.size := by rw [hU]; exact y.lt' y1
  have pu0 : U.cell? ⟨w.heap.size + 1, 0, none⟩ = some (.int .i64 o) := by rw [hU]; exact cell_aft y y1 pv0
  have pu1 : U.cell? ⟨w.heap.size + 1, 1, none⟩ = some (.int .i64 wd) := by rw [hU]; exact cell_aft y y1 pv1
  have pu2 : U.cell? ⟨w.heap.size + 1, 2, none⟩ = some (.slice B 1 bc) := by rw [hU]; exact cell_aft y y1 pv2
  have pu3 : U.cell? ⟨w.heap.size + 1, 3, none⟩ = some (.int .i64 v) := by rw [hU]; exact cell_aft y y1 pv3
  clear hU qv pv0 pv1 pv2 pv3 y0 y1 hbx
  go_wp2_with fail
  refine (HFit.out _ _).mono ?_
  rintro e w' ⟨rfl, y2, rfl⟩
  go_wp2_with fail
  refine (errorIf_c _ _ _).mono ?_
  rintro e w' ⟨rfl, rfl⟩
  go_wp2
  go_ret
  exact ⟨retI (by rw [HR.out]; simp only [HW3.out.1, HW3.out.2.1, HW3.out.2.2]), Below.aft (y2.below (hbu.alloc hbu.size _) (hbu.alloc hbu.size _).size)⟩

set_option maxRecDepth 100000 in
set_option maxHeartbeats 1600000 in
theorem errorOfNode_ok2 (A : Option Addr) (cap : Nat) (ls : List Int) (hls : ls.length ≤ 65536) (N : Option Addr) (capN : Nat) (before : List Nd) (hbe : before.length ≤ 65536) (o : Nat) (wd v : Int) (k0 : Nat) (n0 : Nd) (g0 : before[k0]? = some n0) (k1 : Nat) (n1 : Nd) (g1 : before[k1]? = some n1) (B : Option Addr) (bc : Nat) (w : World) (hA : LiesI w A ls) (hN : LiesN w N before) (hB : LiesI w B [(k0 : Int), (k1 : Int)]) (ht : TabOps w) (hv : ∀ n ∈ before, isW n.wd = true) (h : isIx (o : Int) 19 = true) (h2 : isW wd = true) (h3 : node3 ls before (⟨(o : Int), wd, [(k0 : Int), (k1 : Int)], v⟩ : Nd) = 0) :
    Calls Tryd.prog 51 #[.slice A ls.length cap, .slice N before.length capN, .agg #[.int .i64 (o : Int), .int .i64 wd, .slice B 2 bc, .int .i64 v]] w fun e w' => e = .returned (.int .i64 (nodeE ls before (⟨(o : Int), wd, [(k0 : Int), (k1 : Int)], v⟩ : Nd))) ∧ ∃ x : Aft w, w' = x.val := by
  have hz := node3_zero h3
  have HR := Lib.hid (nodeE_4 h h2 h3)
  have HW3 := Lib.hid (show wAt before [(k0 : Int), (k1 : Int)] 0 = n0.wd ∧ wAt before [(k0 : Int), (k1 : Int)] 1 = n1.wd ∧ wAt before [(k0 : Int), (k1 : Int)] 2 = (0 : Int) from ⟨wAt_in (by rfl) g0, wAt_in (by rfl) g1, wAt_out (by simp)⟩)
  have bd : ∀ {k : Nat} {n : Nd}, before[k]? = some n → 0 ≤ n.wd ∧ n.wd ≤ 16 := fun hk => by
    have := isW_iff.1 (hv _ (List.mem_of_getElem? hk)); omega
  have ba : 0 ≤ n0.wd ∧ n0.wd ≤ 16 := bd g0
  have bb : 0 ≤ n1.wd ∧ n1.wd ≤ 16 := bd g1
  have bv : (o : Int) = 14 → 0 ≤ v ∧ v ≤ 15 := fun h14 => by
    have hn := hz.2.2
    simp only at hn
    rw [h14] at hn
    have hn' : eIf (!isIx v 16) 2 = 0 := hn
    cases hx : isIx v 16
    · rw [hx] at hn'; cases hn'
    · have := isIx_iff.1 hx; omega
  have HFit := Lib.hid (fun (B' : Option Addr) W => widthsFit_c (o : Int) wd v n0.wd n1.wd (0 : Int) (isIx_iff.1 h).1 (by have := (isIx_iff.1 h).2; omega) (isW_iff.1 h2).1 (isW_iff.1 h2).2 ba bb bv B' 2 bc W)
  obtain ⟨o0, o1⟩ := isIx_iff.1 h
  obtain ⟨w1, w2⟩ := isW_iff.1 h2
  have hla : [(k0 : Int), (k1 : Int)].length ≤ 65536 := by simp
  have HI := Lib.hid (fun w => by have k := isIndex_c (o : Int) 19 w; rw [h] at k; exact k)
  have HW := Lib.hid (fun w => by have k := isWidth_c wd w; rw [h2] at k; exact k)
  have hb0 : Below w.heap.size w ((w.alloc (.cells #[.slice N before.length capN] 23)).alloc (.cells #[.int .i64 (o : Int), .int .i64 wd, .slice B 2 bc, .int .i64 v] 65)) := ((Below.refl _ _).alloc (Nat.le_refl _) _).alloc (by simp) _
  have HX := Lib.hid (fun y : Aft ((w.alloc (.cells #[.slice N before.length capN] 23)).alloc (.cells #[.int .i64 (o : Int), .int .i64 wd, .slice B 2 bc, .int .i64 v] 65)) => errorOfIndexes_c before.length 9 (by decide) B bc [(k0 : Int), (k1 : Int)] hla y.val ((hB.below hb0).aft y))
  have HN := Lib.hid (fun y : Aft ((w.alloc (.cells #[.slice N before.length capN] 23)).alloc (.cells #[.int .i64 (o : Int), .int .i64 wd, .slice B 2 bc, .int .i64 v] 65)) => errorOfNumber_c A cap ls hls (o : Int) wd v w1 w2 B 2 bc y.val ((hA.below hb0).aft y))
  have hF : firstE [eIf ((2 : Int) != argN (o : Int)) 10, argsE [(k0 : Int), (k1 : Int)] before.length 9, numE ls (o : Int) wd v] = node3 ls before (⟨(o : Int), wd, [(k0 : Int), (k1 : Int)], v⟩ : Nd) := rfl
  have HF := Lib.hid hF
  clear hF
  have HTT := Lib.hid ht
  have HAr := Lib.hid (fun (W : World) (hb : Below w.heap.size w W) (hl : w.heap.size < W.heap.size) (hc : W.cell? ⟨w.heap.size, 0, none⟩ = some (.slice N before.length capN)) => argsOf2 (o : Int) wd v B bc w.heap.size N capN before hbe k0 n0 g0 k1 n1 g1 W hl hc (hN.below hb) (hB.below hb))
  clear hA hN hB ht h h2 hz ba bb bv bd hv
  rw [h3] at HF
  clear h3
  go_enter Tryd.func51, Tryd.ntmps51
  go_wp2_with (first | (go_at_call 66; ((with_reducible refine (HI.out _).mono ?_); rintro e w' ⟨rfl, rfl⟩)) | (go_at_call 48; ((with_reducible refine (HW.out _).mono ?_); rintro e w' ⟨rfl, rfl⟩)))
  have tb := (HTT.out.below hb0).big
  have tc := (HTT.out.below hb0).args o (by omega)
  have r0 : ((w.alloc (.cells #[.slice N before.length capN] 23)).alloc (.cells #[.int .i64 (o : Int), .int .i64 wd, .slice B 2 bc, .int .i64 v] 65)).heap[w.heap.size]? = some (.cells #[.slice N before.length capN] 23) := heap_alloc' (by simp) (heap_alloc_new _ _)
  have r1 : ((w.alloc (.cells #[.slice N before.length capN] 23)).alloc (.cells #[.int .i64 (o : Int), .int .i64 wd, .slice B 2 bc, .int .i64 v] 65)).heap[w.heap.size + 1]? = some (.cells #[.int .i64 (o : Int), .int .i64 wd, .slice B 2 bc, .int .i64 v] 65) := heap_alloc_at (by simp)
  have z0 : w.heap.size < ((w.alloc (.cells #[.slice N before.length capN] 23)).alloc (.cells #[.int .i64 (o : Int), .int .i64 wd, .slice B 2 bc, .int .i64 v] 65)).heap.size := by simp; omega
  have z1 : w.heap.size + 1 < ((w.alloc (.cells #[.slice N before.length capN] 23)).alloc (.cells #[.int .i64 (o : Int), .int .i64 wd, .slice B 2 bc, .int .i64 v] 65)).heap.size := by simp
  generalize ((w.alloc (.cells #[.slice N before.length capN] 23)).alloc (.cells #[.int .i64 (o : Int), .int .i64 wd, .slice B 2 bc, .int .i64 v] 65)) = W0 at *
  have q0 := cell_block (i := 0) r0
  have p0 := cell_block (i := 0) r1
  have p1 := cell_block (i := 1) r1
  have p2 := cell_block (i := 2) r1
  have p3 := cell_block (i := 3) r1
  simp at q0 p0 p1 p2 p3
  refine wp_region_aft_tail 18 (by kernel_rfl) (by kernel_rfl) ?_
  simp only [List.take_succ_cons, List.take_zero, List.drop_succ_cons, List.drop_zero]
  repeat (go_big_quiet_step (first | (go_at_call 47; exact Calls.qs (errorIf_c _ _ _)) | (go_at_call 79; exact Calls.qa (HX.out _)) | (go_at_call 80; exact Calls.qa (HN.out _))))
  refine wpQuiet_nil ?_
  intro x
  go_wp2_with fail
  refine (firstError3 _ _ _ _ _ _ _ (by exact heap_alloc_at (by simp [go_sem]))).mono ?_
  rw [show firstE _ = 0 from HF.out]
  rintro e V ⟨rfl, hV⟩
  have hbx : Below w.heap.size w V := by rw [← hV]; exact (x.below hb0 hb0.size).alloc (x.below hb0 hb0.size).size _
  have y0 : w.heap.size < V.heap.size := by rw [← hV]; exact lt_alloc (x.lt' z0)
  have y1 : w.heap.size + 1 < V.heap.size := by rw [← hV]; exact lt_alloc (x.lt' z1)
  have qv : V.cell? ⟨w.heap.size, 0, none⟩ = some (.slice N before.length capN) := by rw [← hV]; exact cell_alloc (x.lt' z0) (cell_aft x z0 q0)
  have pv0 : V.cell? ⟨w.heap.size + 1, 0, none⟩ = some (.int .i64 o) := by rw [← hV]; exact cell_alloc (x.lt' z1) (cell_aft x z1 p0)
  have pv1 : V.cell? ⟨w.heap.size + 1, 1, none⟩ = some (.int .i64 wd) := by rw [← hV]; exact cell_alloc (x.lt' z1) (cell_aft x z1 p1)
  have pv2 : V.cell? ⟨w.heap.size + 1, 2, none⟩ = some (.slice B 2 bc) := by rw [← hV]; exact cell_alloc (x.lt' z1) (cell_aft x z1 p2)
  have pv3 : V.cell? ⟨w.heap.size + 1, 3, none⟩ = some (.int .i64 v) := by rw [← hV]; exact cell_alloc (x.lt' z1) (cell_aft x z1 p3)
  clear hV q0 p0 p1 p2 p3 tb tc HX HN z0 z1 hb0 HTT
  go_wp2_with fail
  refine (HAr.out _ hbx y0 qv).mono ?_
  rintro e U ⟨rfl, y, hU⟩
  have hbu : Below w.heap.size w U := by rw [hU]; exact y.below hbx hbx.size
  have u1 : w.heap.size + 1 < U.heap.size := by rw [hU]; exact y.lt' y1
  have pu0 : U.cell? ⟨w.heap.size + 1, 0, none⟩ = some (.int .i64 o) := by rw [hU]; exact cell_aft y y1 pv0
  have pu1 : U.cell? ⟨w.heap.size + 1, 1, none⟩ = some (.int .i64 wd) := by rw [hU]; exact cell_aft y y1 pv1
  have pu2 : U.cell? ⟨w.heap.size + 1, 2, none⟩ = some (.slice B 2 bc) := by rw [hU]; exact cell_aft y y1 pv2
  have pu3 : U.cell? ⟨w.heap.size + 1, 3, none⟩ = some (.int .i64 v) := by rw [hU]; exact cell_aft y y1 pv3
  clear hU qv pv0 pv1 pv2 pv3 y0 y1 hbx
  go_wp2_with fail
  refine (HFit.out _ _).mono ?_
  rintro e w' ⟨rfl, y2, rfl⟩
  go_wp2_with fail
  refine (errorIf_c _ _ _).mono ?_
  rintro e w' ⟨rfl, rfl⟩
  go_wp2
  go_ret
  exact ⟨retI (by rw [HR.out]; simp only [HW3.out.1, HW3.out.2.1, HW3.out.2.2]), Below.aft (y2.below (hbu.alloc hbu.size _) (hbu.alloc hbu.size _).size)⟩

set_option maxRecDepth 100000 in
set_option maxHeartbeats 1600000 in
theorem errorOfNode_ok3 (A : Option Addr) (cap : Nat) (ls : List Int) (hls : ls.length ≤ 65536) (N : Option Addr) (capN : Nat) (before : List Nd) (hbe : before.length ≤ 65536) (o : Nat) (wd v : Int) (k0 : Nat) (n0 : Nd) (g0 : before[k0]? = some n0) (k1 : Nat) (n1 : Nd) (g1 : before[k1]? = some n1) (k2 : Nat) (n2 : Nd) (g2 : before[k2]? = some n2) (B : Option Addr) (bc : Nat) (w : World) (hA : LiesI w A ls) (hN : LiesN w N before) (hB : LiesI w B [(k0 : Int), (k1 : Int), (k2 : Int)]) (ht : TabOps w) (hv : ∀ n ∈ before, isW n.wd = true) (h : isIx (o : Int) 19 = true) (h2 : isW wd = true) (h3 : node3 ls before (⟨(o : Int), wd, [(k0 : Int), (k1 : Int), (k2 : Int)], v⟩ : Nd) = 0) :
    Calls Tryd.prog 51 #[.slice A ls.length cap, .slice N before.length capN, .agg #[.int .i64 (o : Int), .int .i64 wd, .slice B 3 bc, .int .i64 v]] w fun e w' => e = .returned (.int .i64 (nodeE ls before (⟨(o : Int), wd, [(k0 : Int), (k1 : Int), (k2 : Int)], v⟩ : Nd))) ∧ ∃ x : Aft w, w' = x.val := by
  have hz := node3_zero h3
  have HR := Lib.hid (nodeE_4 h h2 h3)
  have HW3 := Lib.hid (show wAt before [(k0 : Int), (k1 : Int), (k2 : Int)] 0 = n0.wd ∧ wAt before [(k0 : Int), (k1 : Int), (k2 : Int)] 1 = n1.wd ∧ wAt before [(k0 : Int), (k1 : Int), (k2 : Int)] 2 = n2.wd from ⟨wAt_in (by rfl) g0, wAt_in (by rfl) g1, wAt_in (by rfl) g2⟩)
  have bd : ∀ {k : Nat} {n : Nd}, before[k]? = some n → 0 ≤ n.wd ∧ n.wd ≤ 16 := fun hk => by
    have := isW_iff.1 (hv _ (List.mem_of_getElem? hk)); omega
  have ba : 0 ≤ n0.wd ∧ n0.wd ≤ 16 := bd g0
  have bb : 0 ≤ n1.wd ∧ n1.wd ≤ 16 := bd g1
  have bv : (o : Int) = 14 → 0 ≤ v ∧ v ≤ 15 := fun h14 => by
    have hn := hz.2.2
    simp only at hn
    rw [h14] at hn
    have hn' : eIf (!isIx v 16) 2 = 0 := hn
    cases hx : isIx v 16
    · rw [hx] at hn'; cases hn'
    · have := isIx_iff.1 hx; omega
  have HFit := Lib.hid (fun (B' : Option Addr) W => widthsFit_c (o : Int) wd v n0.wd n1.wd n2.wd (isIx_iff.1 h).1 (by have := (isIx_iff.1 h).2; omega) (isW_iff.1 h2).1 (isW_iff.1 h2).2 ba bb bv B' 3 bc W)
  obtain ⟨o0, o1⟩ := isIx_iff.1 h
  obtain ⟨w1, w2⟩ := isW_iff.1 h2
  have hla : [(k0 : Int), (k1 : Int), (k2 : Int)].length ≤ 65536 := by simp
  have HI := Lib.hid (fun w => by have k := isIndex_c (o : Int) 19 w; rw [h] at k; exact k)
  have HW := Lib.hid (fun w => by have k := isWidth_c wd w; rw [h2] at k; exact k)
  have hb0 : Below w.heap.size w ((w.alloc (.cells #[.slice N before.length capN] 23)).alloc (.cells #[.int .i64 (o : Int), .int .i64 wd, .slice B 3 bc, .int .i64 v] 65)) := ((Below.refl _ _).alloc (Nat.le_refl _) _).alloc (by simp) _
  have HX := Lib.hid (fun y : Aft ((w.alloc (.cells #[.slice N before.length capN] 23)).alloc (.cells #[.int .i64 (o : Int), .int .i64 wd, .slice B 3 bc, .int .i64 v] 65)) => errorOfIndexes_c before.length 9 (by decide) B bc [(k0 : Int), (k1 : Int), (k2 : Int)] hla y.val ((hB.below hb0).aft y))
  have HN := Lib.hid (fun y : Aft ((w.alloc (.cells #[.slice N before.length capN] 23)).alloc (.cells #[.int .i64 (o : Int), .int .i64 wd, .slice B 3 bc, .int .i64 v] 65)) => errorOfNumber_c A cap ls hls (o : Int) wd v w1 w2 B 3 bc y.val ((hA.below hb0).aft y))
  have hF : firstE [eIf ((3 : Int) != argN (o : Int)) 10, argsE [(k0 : Int), (k1 : Int), (k2 : Int)] before.length 9, numE ls (o : Int) wd v] = node3 ls before (⟨(o : Int), wd, [(k0 : Int), (k1 : Int), (k2 : Int)], v⟩ : Nd) := rfl
  have HF := Lib.hid hF
  clear hF
  have HTT := Lib.hid ht
  have HAr := Lib.hid (fun (W : World) (hb : Below w.heap.size w W) (hl : w.heap.size < W.heap.size) (hc : W.cell? ⟨w.heap.size, 0, none⟩ = some (.slice N before.length capN)) => argsOf3 (o : Int) wd v B bc w.heap.size N capN before hbe k0 n0 g0 k1 n1 g1 k2 n2 g2 W hl hc (hN.below hb) (hB.below hb))
  clear hA hN hB ht h h2 hz ba bb bv bd hv
  rw [h3] at HF
  clear h3
  go_enter Tryd.func51, Tryd.ntmps51
  go_wp2_with (first | (go_at_call 66; ((with_reducible refine (HI.out _).mono ?_); rintro e w' ⟨rfl, rfl⟩)) | (go_at_call 48; ((with_reducible refine (HW.out _).mono ?_); rintro e w' ⟨rfl, rfl⟩)))
  have tb := (HTT.out.below hb0).big
  have tc := (HTT.out.below hb0).args o (by omega)
  have r0 : ((w.alloc (.cells #[.slice N before.length capN] 23)).alloc (.cells #[.int .i64 (o : Int), .int .i64 wd, .slice B 3 bc, .int .i64 v] 65)).heap[w.heap.size]? = some (.cells #[.slice N before.length capN] 23) := heap_alloc' (by simp) (heap_alloc_new _ _)
  have r1 : ((w.alloc (.cells #[.slice N before.length capN] 23)).alloc (.cells #[.int .i64 (o : Int), .int .i64 wd, .slice B 3 bc, .int .i64 v] 65)).heap[w.heap.size + 1]? = some (.cells #[.int .i64 (o : Int), .int .i64 wd, .slice B 3 bc, .int .i64 v] 65) := heap_alloc_at (by simp)
  have z0 : w.heap.size < ((w.alloc (.cells #[.slice N before.length capN] 23)).alloc (.cells #[.int .i64 (o : Int), .int .i64 wd, .slice B 3 bc, .int .i64 v] 65)).heap.size := by simp; omega
  have z1 : w.heap.size + 1 < ((w.alloc (.cells #[.slice N before.length capN] 23)).alloc (.cells #[.int .i64 (o : Int), .int .i64 wd, .slice B 3 bc, .int .i64 v] 65)).heap.size := by simp
  generalize ((w.alloc (.cells #[.slice N before.length capN] 23)).alloc (.cells #[.int .i64 (o : Int), .int .i64 wd, .slice B 3 bc, .int .i64 v] 65)) = W0 at *
  have q0 := cell_block (i := 0) r0
  have p0 := cell_block (i := 0) r1
  have p1 := cell_block (i := 1) r1
  have p2 := cell_block (i := 2) r1
  have p3 := cell_block (i := 3) r1
  simp at q0 p0 p1 p2 p3
  refine wp_region_aft_tail 18 (by kernel_rfl) (by kernel_rfl) ?_
  simp only [List.take_succ_cons, List.take_zero, List.drop_succ_cons, List.drop_zero]
  repeat (go_big_quiet_step (first | (go_at_call 47; exact Calls.qs (errorIf_c _ _ _)) | (go_at_call 79; exact Calls.qa (HX.out _)) | (go_at_call 80; exact Calls.qa (HN.out _))))
  refine wpQuiet_nil ?_
  intro x
  go_wp2_with fail
  refine (firstError3 _ _ _ _ _ _ _ (by exact heap_alloc_at (by simp [go_sem]))).mono ?_
  rw [show firstE _ = 0 from HF.out]
  rintro e V ⟨rfl, hV⟩
  have hbx : Below w.heap.size w V := by rw [← hV]; exact (x.below hb0 hb0.size).alloc (x.below hb0 hb0.size).size _
  have y0 : w.heap.size < V.heap.size := by rw [← hV]; exact lt_alloc (x.lt' z0)
  have y1 : w.heap.size + 1 < V.heap.size := by rw [← hV]; exact lt_alloc (x.lt' z1)
  have qv : V.cell? ⟨w.heap.size, 0, none⟩ = some (.slice N before.length capN) := by rw [← hV]; exact cell_alloc (x.lt' z0) (cell_aft x z0 q0)
  have pv0 : V.cell? ⟨w.heap.size + 1, 0, none⟩ = some (.int .i64 o) := by rw [← hV]; exact cell_alloc (x.lt' z1) (cell_aft x z1 p0)
  have pv1 : V.cell? ⟨w.heap.size + 1, 1, none⟩ = some (.int .i64 wd) := by rw [← hV]; exact cell_alloc (x.lt' z1) (cell_aft x z1 p1)
  have pv2 : V.cell? ⟨w.heap.size + 1, 2, none⟩ = some (.slice B 3 bc) := by rw [← hV]; exact cell_alloc (x.lt' z1) (cell_aft x z1 p2)
  have pv3 : V.cell? ⟨w.heap.size + 1, 3, none⟩ = some (.int .i64 v) := by rw [← hV]; exact cell_alloc (x.lt' z1) (cell_aft x z1 p3)
  clear hV q0 p0 p1 p2 p3 tb tc HX HN z0 z1 hb0 HTT
  go_wp2_with fail
  refine (HAr.out _ hbx y0 qv).mono ?_
  rintro e U ⟨rfl, y, hU⟩
  have hbu : Below w.heap.size w U := by rw [hU]; exact y.below hbx hbx.size
  have u1 : w.heap.size + 1 < U.heap.size := by rw [hU]; exact y.lt' y1
  have pu0 : U.cell? ⟨w.heap.size + 1, 0, none⟩ = some (.int .i64 o) := by rw [hU]; exact cell_aft y y1 pv0
  have pu1 : U.cell? ⟨w.heap.size + 1, 1, none⟩ = some (.int .i64 wd) := by rw [hU]; exact cell_aft y y1 pv1
  have pu2 : U.cell? ⟨w.heap.size + 1, 2, none⟩ = some (.slice B 3 bc) := by rw [hU]; exact cell_aft y y1 pv2
  have pu3 : U.cell? ⟨w.heap.size + 1, 3, none⟩ = some (.int .i64 v) := by rw [hU]; exact cell_aft y y1 pv3
  clear hU qv pv0 pv1 pv2 pv3 y0 y1 hbx
  go_wp2_with fail
  refine (HFit.out _ _).mono ?_
  rintro e w' ⟨rfl, y2, rfl⟩
  go_wp2_with fail
  refine (errorIf_c _ _ _).mono ?_
  rintro e w' ⟨rfl, rfl⟩
  go_wp2
  go_ret
  exact ⟨retI (by rw [HR.out]; simp only [HW3.out.1, HW3.out.2.1, HW3.out.2.2]), Below.aft (y2.below (hbu.alloc hbu.size _) (hbu.alloc hbu.size _).size)⟩

end Go.Proofs.YtkdonapgonegkaaDoor

set_option linter.unusedSimpArgs false
set_option linter.unusedVariables false
namespace Go.Proofs.YtkdonapgonegkaaDoor
open Go.RowKit Go.BigFrame

theorem idx_nat {before : List Nd} {i : Int} (h : isIx i before.length = true) : ∃ (k : Nat) (n : Nd), i = (k : Int) ∧ before[k]? = some n := by
  obtain ⟨h0, h1⟩ := isIx_iff.1 h
  obtain ⟨k, rfl⟩ := Int.eq_ofNat_of_zero_le h0
  exact ⟨k, _, rfl, List.getElem?_eq_getElem (by omega)⟩
theorem errorOfNode_c (A : Option Addr) (cap : Nat) (ls : List Int) (hls : ls.length ≤ 65536) (N : Option Addr) (capN : Nat) (before : List Nd) (hbe : before.length ≤ 65536) (nd : Nd) (hla : nd.args.length ≤ 65536) (B : Option Addr) (bc : Nat) (w : World) (hA : LiesI w A ls) (hN : LiesN w N before) (hB : LiesI w B nd.args) (ht : TabOps w) (hv : ∀ n ∈ before, isW n.wd = true) :
    Calls Tryd.prog 51 #[.slice A ls.length cap, .slice N before.length capN, .agg #[.int .i64 nd.op, .int .i64 nd.wd, .slice B nd.args.length bc, .int .i64 nd.v]] w fun e w' => e = .returned (.int .i64 (nodeE ls before nd)) ∧ ∃ x : Aft w, w' = x.val := by
  cases h : isIx nd.op 19
  · exact errorOfNode_15 A cap ls hls N capN before hbe nd hla B bc w hA hN hB ht h
  cases h2 : isW nd.wd
  · exact errorOfNode_2 A cap ls hls N capN before hbe nd hla B bc w hA hN hB ht h h2
  by_cases h3 : node3 ls before nd = 0
  · obtain ⟨op, wd, args, v⟩ := nd
    simp only at *
    obtain ⟨o, rfl⟩ := Int.eq_ofNat_of_zero_le (isIx_iff.1 h).1
    obtain ⟨z1, z2, _⟩ := node3_zero h3
    simp only at z1 z2
    have h4 := argN_le (o : Int)
    match args, hB, h3, z1, z2 with
    | [], hB, h3, _, _ => exact errorOfNode_ok0 A cap ls hls N capN before hbe o wd v B bc w hA hN hB ht hv h h2 h3
    | [a], hB, h3, _, z2 =>
      obtain ⟨k0, n0, rfl, g0⟩ := idx_nat (z2 a (by simp))
      exact errorOfNode_ok1 A cap ls hls N capN before hbe o wd v k0 n0 g0 B bc w hA hN hB ht hv h h2 h3
    | [a, b], hB, h3, _, z2 =>
      obtain ⟨k0, n0, rfl, g0⟩ := idx_nat (z2 a (by simp))
      obtain ⟨k1, n1, rfl, g1⟩ := idx_nat (z2 b (by simp))
      exact errorOfNode_ok2 A cap ls hls N capN before hbe o wd v k0 n0 g0 k1 n1 g1 B bc w hA hN hB ht hv h h2 h3
    | [a, b, c], hB, h3, _, z2 =>
      obtain ⟨k0, n0, rfl, g0⟩ := idx_nat (z2 a (by simp))
      obtain ⟨k1, n1, rfl, g1⟩ := idx_nat (z2 b (by simp))
      obtain ⟨k2, n2, rfl, g2⟩ := idx_nat (z2 c (by simp))
      exact errorOfNode_ok3 A cap ls hls N capN before hbe o wd v k0 n0 g0 k1 n1 g1 k2 n2 g2 B bc w hA hN hB ht hv h h2 h3
    | a :: b :: c :: d :: r, _, _, z1, _ => exfalso; simp at z1; omega
  · exact errorOfNode_3 A cap ls hls N capN before hbe nd hla B bc w hA hN hB ht h h2 h3

set_option maxRecDepth 100000 in
set_option maxHeartbeats 1600000 in
theorem LiesN.take {w : World} {A : Option Addr} {ns : List Nd} (h : LiesN w A ns) (k : Nat) : LiesN w A (ns.take k) := fun hp => by
  obtain ⟨ad, rfl, hb, hc⟩ := h (by simp at hp; omega)
  refine ⟨ad, rfl, hb, fun i n hi => hc i n ?_⟩
  rw [List.getElem?_take] at hi
  split at hi
  · exact hi
  · cases hi
theorem CheckNodes2_c (k : Nat) (P Q : Nat) (A : Option Addr) (cap : Nat) (ls : List Int) (hls : ls.length ≤ 65536) (N : Option Addr) (capN : Nat) (ns : List Nd) (hns : ns.length ≤ 65536) (hk : k < ns.length) (hcap : ns.length ≤ capN) (nd : Nd) (hla : nd.args.length ≤ 65536) (B : Option Addr) (bc : Nat) (w : World)
    (c0 : w.cell? ⟨P, 0, none⟩ = some (.slice A ls.length cap)) (c1 : w.cell? ⟨Q, 0, none⟩ = some (.slice N ns.length capN)) (l0 : P < w.heap.size) (l1 : Q < w.heap.size) (hA : LiesI w A ls) (hN : LiesN w N ns) (hB : LiesI w B nd.args) (ht : TabOps w) (hv : ∀ n ∈ ns.take k, isW n.wd = true) :
    Calls Tryd.prog 50 #[.int .i64 k, .agg #[.int .i64 nd.op, .int .i64 nd.wd, .slice B nd.args.length bc, .int .i64 nd.v], .pointer (some ⟨P, 0, none⟩), .pointer (some ⟨Q, 0, none⟩)] w fun e w' => e = .returned (.int .i64 (nodeE ls (ns.take k) nd)) ∧ ∃ x : Aft w, w' = x.val := by
  have hb0 : Below w.heap.size w (w.alloc (.cells #[.int .i64 nd.op, .int .i64 nd.wd, .slice B nd.args.length bc, .int .i64 nd.v] 65)) := (Below.refl _ _).alloc (Nat.le_refl _) _
  have hlk : (ns.take k).length = k := by simp; omega
  have HE := Lib.hid (fun y : Aft (w.alloc (.cells #[.int .i64 nd.op, .int .i64 nd.wd, .slice B nd.args.length bc, .int .i64 nd.v] 65)) => by
    have h := errorOfNode_c A cap ls hls N capN (ns.take k) (by omega) nd hla B bc y.val ((hA.below hb0).aft y) (((hN.take k).below hb0).aft y) ((hB.below hb0).aft y) ((ht.below hb0).below y.pf) hv
    rw [hlk] at h; exact h)
  have HC0 := Lib.hid (cell_alloc (o := .cells #[.int .i64 nd.op, .int .i64 nd.wd, .slice B nd.args.length bc, .int .i64 nd.v] 65) l0 c0)
  have HC1 := Lib.hid (cell_alloc (o := .cells #[.int .i64 nd.op, .int .i64 nd.wd, .slice B nd.args.length bc, .int .i64 nd.v] 65) l1 c1)
  obtain ⟨ad, rfl, _⟩ := hN (by omega)
  clear hA hN hB ht hv c0 c1 hlk
  go_enter Tryd.func50, Tryd.ntmps50
  go_wp2_with fail
  have r0 : (w.alloc (.cells #[.int .i64 nd.op, .int .i64 nd.wd, .slice B nd.args.length bc, .int .i64 nd.v] 65)).heap[w.heap.size]? = some (.cells #[.int .i64 nd.op, .int .i64 nd.wd, .slice B nd.args.length bc, .int .i64 nd.v] 65) := heap_alloc_new _ _
  have z0 : P < (w.alloc (.cells #[.int .i64 nd.op, .int .i64 nd.wd, .slice B nd.args.length bc, .int .i64 nd.v] 65)).heap.size := lt_alloc l0
  have z1 : Q < (w.alloc (.cells #[.int .i64 nd.op, .int .i64 nd.wd, .slice B nd.args.length bc, .int .i64 nd.v] 65)).heap.size := lt_alloc l1
  have z2 : w.heap.size < (w.alloc (.cells #[.int .i64 nd.op, .int .i64 nd.wd, .slice B nd.args.length bc, .int .i64 nd.v] 65)).heap.size := by simp
  generalize w.alloc (.cells #[.int .i64 nd.op, .int .i64 nd.wd, .slice B nd.args.length bc, .int .i64 nd.v] 65) = W0 at *
  have c0 := HC0.out
  have c1 := HC1.out
  have p0 := cell_block (i := 0) r0
  have p1 := cell_block (i := 1) r0
  have p2 := cell_block (i := 2) r0
  have p3 := cell_block (i := 3) r0
  simp at p0 p1 p2 p3
  have hki : (k : Int) ≤ capN := by omega
  have hk0 : (0 : Int) ≤ k := by omega
  refine wp_region_aft (by kernel_rfl) (by kernel_rfl) ?_
  repeat (go_big_quiet_step ((go_at_call 51; exact Calls.qa (HE.out _))))
  refine wpQuiet_nil ?_
  intro y
  go_wp2
  go_ret
  exact ⟨rfl, Below.aft (y.below hb0 hb0.size)⟩

end Go.Proofs.YtkdonapgonegkaaDoor

set_option linter.unusedSimpArgs false
set_option linter.unusedVariables false
namespace Go.Proofs.YtkdonapgonegkaaDoor
open Go.RowKit Go.BigFrame

theorem nodesE_at {ls : List Int} {ns : List Nd} {k : Nat} {n : Nd} (h : ns[k]? = some n) : nodesE ls ns k = nodeE ls (ns.take k) n := by unfold nodesE; rw [h]
theorem nodeE_wd {ls : List Int} {before : List Nd} {n : Nd} (h : nodeE ls before n = 0) : isW n.wd = true := by
  cases h1 : isIx n.op 19
  · rw [nodeE_15 h1] at h; cases h
  · cases h2 : isW n.wd
    · rw [nodeE_2 h1 h2] at h; cases h
    · rfl
theorem take_more {ns : List Nd} {k : Nat} {n : Nd} (h : ns[k]? = some n) (hv : ∀ x ∈ ns.take k, isW x.wd = true) (hn : isW n.wd = true) : ∀ x ∈ ns.take (k + 1), isW x.wd = true := by
  obtain ⟨hk, e⟩ := List.getElem?_eq_some_iff.1 h
  intro x hx
  rw [List.take_succ_eq_append_getElem hk, e, List.mem_append] at hx
  rcases hx with hx | hx
  · exact hv x hx
  · rw [List.mem_singleton.1 hx]; exact hn

set_option maxRecDepth 100000 in
set_option maxHeartbeats 1600000 in
theorem firstWrong_node (P Q : Nat) (A : Option Addr) (cap : Nat) (ls : List Int) (hls : ls.length ≤ 65536) (N : Option Addr) (capN : Nat) (ns : List Nd) (hns : ns.length ≤ 65536) (hcap : ns.length ≤ capN) (hla : ∀ n ∈ ns, n.args.length ≤ 65536) (w : World)
    (c0 : w.cell? ⟨P, 0, none⟩ = some (.slice A ls.length cap)) (c1 : w.cell? ⟨Q, 0, none⟩ = some (.slice N ns.length capN)) (l0 : P < w.heap.size) (l1 : Q < w.heap.size) (hA : LiesI w A ls) (hN : LiesN w N ns) (ht : TabOps w) :
    Calls Tryd.prog 49 #[.slice N ns.length capN, .func (.func 50) #[] #[.pointer (some ⟨P, 0, none⟩), .pointer (some ⟨Q, 0, none⟩)]] w fun e w' => e = .returned (.tuple #[.int .i64 (firstAt (nodesE ls ns) ns.length 0).1, .int .i64 (firstAt (nodesE ls ns) ns.length 0).2]) ∧ ∃ x : Aft w, w' = x.val := by
  have HH := Lib.hid hN
  have HCl := Lib.hid (fun (k : Nat) (hk : k < ns.length) (nd : Nd) (hnd : nd ∈ ns) (B : Option Addr) (bc : Nat) (hv : ∀ n ∈ ns.take k, isW n.wd = true) (W : World) (hb : Below w.heap.size w W) (hB : LiesI W B nd.args) =>
    CheckNodes2_c k P Q A cap ls hls N capN ns hns hk hcap nd (hla nd hnd) B bc W ((hb.cell (p := ⟨P, 0, none⟩) l0).trans c0) ((hb.cell (p := ⟨Q, 0, none⟩) l1).trans c1) (Nat.lt_of_lt_of_le l0 hb.size) (Nat.lt_of_lt_of_le l1 hb.size) (hA.below hb) (hN.below hb) hB (ht.below hb) hv)
  clear hN hA c0 c1 ht hla
  go_enter Tryd.func49, Tryd.ntmps49
  go_wp2
  go_loopw [11] (fun v11 wr => ∃ k : Nat, k ≤ ns.length ∧ v11 = .int .i64 k ∧ firstAt (nodesE ls ns) ns.length 0 = firstAt (nodesE ls ns) (ns.length - k) k ∧ (∀ x ∈ ns.take k, isW x.wd = true) ∧ Below w.heap.size w wr) (fun v11 _ => ns.length - (intOf v11).toNat)
  case atStart => exact ⟨0, by omega, rfl, rfl, by simp, Below.refl _ _⟩
  case round =>
    obtain ⟨k, hk, rfl, hf, hv, hb⟩ := hrel
    have HF := Lib.hid hf
    have HB := Lib.hid hb
    have HV := Lib.hid hv
    clear hf hb hv
    by_cases hlt : k < ns.length
    · have hkk : (k : Int) < ns.length := by omega
      have HX := Lib.hid (List.getElem?_eq_getElem hlt)
      have HM := Lib.hid (List.getElem_mem hlt)
      generalize ns[k] = x at *
      obtain ⟨ad, rfl, hbk, h0, h1, h3, B, bc, h2, hB⟩ := (HH.out.below HB.out).cells HX.out
      have HLi := Lib.hid hB
      have HE := Lib.hid (nodesE_at (ls := ls) HX.out)
      have h1' : wr.cell? ⟨(ad.add (k * 4)).block, (ad.add (k * 4)).off + 1, none⟩ = some (.int .i64 x.wd) := h1
      have h2' : wr.cell? ⟨(ad.add (k * 4)).block, (ad.add (k * 4)).off + 2, none⟩ = some (.slice B x.args.length bc) := h2
      have h3' : wr.cell? ⟨(ad.add (k * 4)).block, (ad.add (k * 4)).off + 3, none⟩ = some (.int .i64 x.v) := h3
      clear hB hbk h1 h2 h3
      go_wp2_with fail
      refine (HCl.out k hlt x HM.out B bc HV.out _ (HB.out.alloc HB.out.size _) (HLi.out.below ((Below.refl _ _).alloc (Nat.le_refl _) _))).mono ?_
      rintro e w' ⟨rfl, y, rfl⟩
      have hby : Below w.heap.size w y.val := y.below (HB.out.alloc HB.out.size _) (HB.out.alloc HB.out.size _).size
      have HY := Lib.hid hby
      clear hby
      by_cases hz : nodeE ls (ns.take k) x = 0
      · have hn := Lib.hid (firstAt_go hlt (HE.out.trans hz))
        have HW := Lib.hid (take_more HX.out HV.out (nodeE_wd hz))
        rw [hz]
        clear hz h0 h1' h2' h3'
        go_wp2
        go_roundw
        case rel => exact ⟨k + 1, by omega, by go_num, HF.out.trans hn.out, HW.out, HY.out⟩
        case measure => simp [intOf]; omega
      · have hn := Lib.hid (firstAt_stop hlt (show ¬ nodesE ls ns k = 0 by rw [HE.out]; exact hz))
        have n1 : (nodeE ls (ns.take k) x == 0) = false := by simpa using hz
        have n2 : (nodeE ls (ns.take k) x != 0) = true := by simpa using hz
        clear hz h0 h1' h2' h3'
        generalize nodeE ls (ns.take k) x = er at *
        go_wp2
        go_ret2
        exact ⟨tupII (by rw [HF.out, hn.out]) (by rw [HF.out, hn.out, HE.out]), Below.aft HY.out⟩
    · have hn := Lib.hid (firstAt_end (f := nodesE ls ns) (n := ns.length) (k := k) (by omega))
      go_wp2
      go_ret2
      exact ⟨tupII (by rw [HF.out, hn.out]) (by rw [HF.out, hn.out]), Below.aft HB.out⟩

set_option maxRecDepth 100000 in
set_option maxHeartbeats 1600000 in
theorem CheckNodes_c (A : Option Addr) (cap : Nat) (ls : List Int) (hls : ls.length ≤ 65536) (N : Option Addr) (capN : Nat) (ns : List Nd) (hns : ns.length ≤ 65536) (hcap : ns.length ≤ capN) (hla : ∀ n ∈ ns, n.args.length ≤ 65536) (w : World) (hA : LiesI w A ls) (hN : LiesN w N ns) (ht : TabOps w) :
    Calls Tryd.prog 10 #[.slice A ls.length cap, .slice N ns.length capN] w fun e w' => e = .returned (.tuple #[.int .i64 (chk ls ns).1, .int .i64 (chk ls ns).2]) ∧ ∃ x : Aft w, w' = x.val := by
  by_cases hA40 : 40 < ls.length
  · have h40 : (40 : Int) < ls.length := by omega
    have HR := Lib.hid (show chk ls ns = (0, 8) from if_pos hA40)
    clear hA hN ht hla hA40
    go_enter Tryd.func10, Tryd.ntmps10
    go_wp2
    go_ret2
    exact ⟨tupII (by rw [HR.out]) (by rw [HR.out]), Below.aft (by (repeat' (first | (with_reducible exact Below.refl _ _) | (with_reducible assumption) | (with_reducible refine Below.alloc ?_ ?_ _) | (with_reducible refine Below.drew ?_) | (with_reducible refine Aft.below _ ?_ ?_) | (with_reducible refine Below.setCell_new ?_ ?_ _ _) | (with_reducible exact Nat.le_refl _) | (with_reducible refine Aft.le _ ?_) | (with_reducible refine le_alloc ?_) | (with_reducible refine le_drew ?_) | (with_reducible refine le_setCell ?_) | omega)))⟩
  have h40 : ¬ (40 : Int) < ls.length := by omega
  have hb0 : Below w.heap.size w ((w.alloc (.cells #[.slice A ls.length cap] 22)).alloc (.cells #[.slice N ns.length capN] 23)) := ((Below.refl _ _).alloc (Nat.le_refl _) _).alloc (by simp) _
  have HL := Lib.hid (firstWrong_leaf (leafE ls) A cap ls hls ((w.alloc (.cells #[.slice A ls.length cap] 22)).alloc (.cells #[.slice N ns.length capN] 23)) (hA.below hb0) (fun k x hx W hb => by
    have e0 : leafE ls k = eIf (!isW x) 2 := by unfold leafE; simp [List.getD, hx]
    rw [e0]
    exact (CheckNodes1_c k x W).mono fun e w' ⟨he, hw⟩ => ⟨he, ⟨W, Below.refl _ _⟩, hw.symm⟩))
  by_cases hE : (firstAt (leafE ls) ls.length 0).2 = 0
  · have HN := Lib.hid (fun (W : World) (hb : Below w.heap.size w W) (l0 : w.heap.size < W.heap.size) (l1 : w.heap.size + 1 < W.heap.size) (c0 : W.cell? ⟨w.heap.size, 0, none⟩ = some (.slice A ls.length cap)) (c1 : W.cell? ⟨w.heap.size + 1, 0, none⟩ = some (.slice N ns.length capN)) =>
      firstWrong_node w.heap.size (w.heap.size + 1) A cap ls hls N capN ns hns hcap hla W c0 c1 l0 l1 (hA.below hb) (hN.below hb) (ht.below hb))
    have hR : chk ls ns = if 400 < ns.length then (0, 8) else firstAt (nodesE ls ns) ns.length 0 := by unfold chk; rw [if_neg hA40, if_pos hE]
    have HE := Lib.hid hE
    have hb0' := Lib.hid hb0
    by_cases h4 : 400 < ns.length
    · have h400 : (400 : Int) < ns.length := by omega
      rw [if_pos h4] at hR
      have HR := Lib.hid hR
      clear hA hN ht hla hA40 hE hb0 hR h4
      go_enter Tryd.func10, Tryd.ntmps10
      go_wp2_with fail
      refine HL.out.mono ?_
      rw [HE.out]
      rintro e W1 ⟨rfl, y, hW⟩
      have r0 : ((w.alloc (.cells #[.slice A ls.length cap] 22)).alloc (.cells #[.slice N ns.length capN] 23)).heap[w.heap.size]? = some (.cells #[.slice A ls.length cap] 22) := heap_alloc' (by simp) (heap_alloc_new _ _)
      have r1 : ((w.alloc (.cells #[.slice A ls.length cap] 22)).alloc (.cells #[.slice N ns.length capN] 23)).heap[w.heap.size + 1]? = some (.cells #[.slice N ns.length capN] 23) := heap_alloc_at (by simp)
      have hb1 : Below w.heap.size w W1 := by rw [hW]; exact y.below hb0'.out hb0'.out.size
      have l0 : w.heap.size < W1.heap.size := by rw [hW]; exact y.lt' (by simp; omega)
      have l1 : w.heap.size + 1 < W1.heap.size := by rw [hW]; exact y.lt' (by simp)
      have c0 : W1.cell? ⟨w.heap.size, 0, none⟩ = some (.slice A ls.length cap) := by rw [hW]; exact cell_aft y (by simp; omega) (cell_block (i := 0) r0)
      have c1 : W1.cell? ⟨w.heap.size + 1, 0, none⟩ = some (.slice N ns.length capN) := by rw [hW]; exact cell_aft y (by simp) (cell_block (i := 0) r1)
      clear hW r0 r1 HL y
      go_wp2
      go_ret2
      exact ⟨tupII (by rw [HR.out]) (by rw [HR.out]), Below.aft hb1⟩
    · have h400 : ¬ (400 : Int) < ns.length := by omega
      rw [if_neg h4] at hR
      have HR := Lib.hid hR
      clear hA hN ht hla hA40 hE hb0 hR h4
      go_enter Tryd.func10, Tryd.ntmps10
      go_wp2_with fail
      refine HL.out.mono ?_
      rw [HE.out]
      rintro e W1 ⟨rfl, y, hW⟩
      have r0 : ((w.alloc (.cells #[.slice A ls.length cap] 22)).alloc (.cells #[.slice N ns.length capN] 23)).heap[w.heap.size]? = some (.cells #[.slice A ls.length cap] 22) := heap_alloc' (by simp) (heap_alloc_new _ _)
      have r1 : ((w.alloc (.cells #[.slice A ls.length cap] 22)).alloc (.cells #[.slice N ns.length capN] 23)).heap[w.heap.size + 1]? = some (.cells #[.slice N ns.length capN] 23) := heap_alloc_at (by simp)
      have hb1 : Below w.heap.size w W1 := by rw [hW]; exact y.below hb0'.out hb0'.out.size
      have l0 : w.heap.size < W1.heap.size := by rw [hW]; exact y.lt' (by simp; omega)
      have l1 : w.heap.size + 1 < W1.heap.size := by rw [hW]; exact y.lt' (by simp)
      have c0 : W1.cell? ⟨w.heap.size, 0, none⟩ = some (.slice A ls.length cap) := by rw [hW]; exact cell_aft y (by simp; omega) (cell_block (i := 0) r0)
      have c1 : W1.cell? ⟨w.heap.size + 1, 0, none⟩ = some (.slice N ns.length capN) := by rw [hW]; exact cell_aft y (by simp) (cell_block (i := 0) r1)
      clear hW r0 r1 HL y
      go_wp2_with fail
      refine (HN.out _ hb1 l0 l1 c0 c1).mono ?_
      rintro e w' ⟨rfl, y, rfl⟩
      go_wp2
      go_ret2
      exact ⟨tupII (by rw [HR.out]) (by rw [HR.out]), Below.aft (y.below hb1 hb1.size)⟩
  · have HR := Lib.hid (show chk ls ns = firstAt (leafE ls) ls.length 0 by unfold chk; rw [if_neg hA40, if_neg hE])
    have n1 : ((firstAt (leafE ls) ls.length 0).2 == 0) = false := by simpa using hE
    have n2 : ((firstAt (leafE ls) ls.length 0).2 != 0) = true := by simpa using hE
    clear hA hN ht hla hA40 hE
    have hb0' := Lib.hid hb0
    clear hb0
    generalize firstAt (leafE ls) ls.length 0 = q at *
    go_enter Tryd.func10, Tryd.ntmps10
    go_wp2_with fail
    refine HL.out.mono ?_
    rintro e w' ⟨rfl, y, rfl⟩
    go_wp2
    go_ret2
    exact ⟨tupII (by rw [HR.out]) (by rw [HR.out]), Below.aft (y.below hb0'.out hb0'.out.size)⟩

end Go.Proofs.YtkdonapgonegkaaDoor
