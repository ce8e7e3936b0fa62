/-
  Chapter 2 (graph): the errors of leaves and nodes, as plain functions; small lemmas.
-/
import Derived.Test.YtkdonapgonegkaaDoorProg
import Derived.Test.YtkdonapgonegkaaDoorKid
import Derived.Test.YtkdonapgonegkaaDoorMath
set_option linter.unusedSimpArgs false
set_option linter.unusedVariables false
namespace Go.Proofs.YtkdonapgonegkaaDoor
open Go.RowKit Go.BigFrame

def eIf (b : Bool) (e : Int) : Int := if b then e else 0
def fl (b : Bool) : Int := if b then 1 else 0
def isW (n : Int) : Bool := decide (1 ≤ n) && decide (n ≤ 16)
def firstE : List Int → Int
  | [] => 0
  | e :: r => if e = 0 then firstE r else e
theorem isW_true {n : Int} (h1 : 1 ≤ n) (h2 : n ≤ 16) : isW n = true := by simp [isW, h1, h2]
theorem isW_iff {n : Int} : isW n = true ↔ 1 ≤ n ∧ n ≤ 16 := by simp [isW]
theorem firstE_drop (es : List Int) (k : Nat) (h : k < es.length) (h0 : es.getD k 0 = 0) : firstE (es.drop k) = firstE (es.drop (k + 1)) := by
  rw [List.drop_eq_getElem_cons h, firstE, if_pos (by simpa [h] using h0)]
theorem firstE_at (es : List Int) (k : Nat) (h : k < es.length) (h0 : es.getD k 0 ≠ 0) : firstE (es.drop k) = es.getD k 0 := by
  rw [List.drop_eq_getElem_cons h, firstE, if_neg (by simpa [h] using h0)]; simp [h]

def win (n lo hi : Int) : Bool := decide (lo ≤ n) && decide (n ≤ hi)
theorem firstE_cons (e : Int) (l : List Int) : firstE (e :: l) = if e = 0 then firstE l else e := rfl
theorem firstE_one (e : Int) : firstE [e] = e := by simp [firstE]; intro h; exact h.symm

/-- A node: its operation, its width, its arguments, its number. -/
structure Nd where
  op : Int
  wd : Int
  args : List Int
  v : Int
def isIx (i n : Int) : Bool := decide (0 ≤ i) && decide (i < n)
theorem isIx_win (i n : Int) : isIx i n = win i 0 (n - 1) := by
  unfold isIx win; rw [Bool.eq_iff_iff]; simp; omega
theorem isIx_true {i n : Int} (h0 : 0 ≤ i) (h1 : i < n) : isIx i n = true := by simp [isIx, h0, h1]
theorem isIx_iff {i n : Int} : isIx i n = true ↔ 0 ≤ i ∧ i < n := by simp [isIx]
def argN (op : Int) : Int := if op = 0 ∨ op = 1 then 0 else if op = 2 ∨ op = 14 ∨ op = 15 ∨ op = 16 then 1 else if op = 12 then 3 else 2
def fitW (op wd v a b c : Int) : Bool :=
  if op = 2 ∨ op = 17 ∨ op = 18 then a == wd
  else if 3 ≤ op ∧ op ≤ 8 then a == wd && b == wd
  else if 9 ≤ op ∧ op ≤ 11 then a == b && wd == 1
  else if op = 12 then a == 1 && b == wd && c == wd
  else if op = 13 then a + b == wd
  else if op = 14 then decide (v + wd ≤ a)
  else if op = 15 ∨ op = 16 then decide (a ≤ wd)
  else true
def isV (v wd : Int) : Bool := decide (0 ≤ v) && decide (v ≤ pw wd - 1)
def numE (ls : List Int) (op wd v : Int) : Int :=
  if op = 0 then eIf (!isV v wd) 2
  else if op = 1 then (if isIx v ls.length then eIf (ls.getD v.toNat 0 != wd) 25 else 6)
  else if op = 14 then eIf (!isIx v 16) 2
  else eIf (v != 0) 3
/-- The first of some numbers that is none of so many indexes: its place; or as many as there are. -/
def badAt (n : Int) : List Int → Nat
  | [] => 0
  | i :: r => if isIx i n then badAt n r + 1 else 0
def argsE (args : List Int) (n : Int) (e : Int) : Int := if args.all fun i => isIx i n then 0 else e
def wAt (before : List Nd) (args : List Int) (k : Nat) : Int := match args[k]? with
  | none => 0
  | some i => match before[i.toNat]? with | none => 0 | some n => n.wd
def nodeE (ls : List Int) (before : List Nd) (n : Nd) : Int :=
  if isIx n.op 19 then
    if isW n.wd then
      let e := firstE [eIf ((n.args.length : Int) != argN n.op) 10, argsE n.args before.length 9, numE ls n.op n.wd n.v]
      if e = 0 then eIf (!fitW n.op n.wd n.v (wAt before n.args 0) (wAt before n.args 1) (wAt before n.args 2)) 25 else e
    else 2
  else 15
/-- The first place with an error, and the error. -/
def firstAt (f : Nat → Int) : Nat → Nat → Int × Int
  | 0, _ => (0, 0)
  | n + 1, k => if f k = 0 then firstAt f n (k + 1) else ((k : Int), f k)
theorem firstAt_step {f : Nat → Int} {n k : Nat} (h : k < n) : firstAt f (n - k) k = if f k = 0 then firstAt f (n - (k + 1)) (k + 1) else ((k : Int), f k) := by
  obtain ⟨m, hm⟩ : ∃ m, n - k = m + 1 := ⟨n - k - 1, by omega⟩
  rw [hm, show n - (k + 1) = m by omega]; rfl
theorem firstAt_end {f : Nat → Int} {n k : Nat} (h : n ≤ k) : firstAt f (n - k) k = (0, 0) := by
  rw [show n - k = 0 by omega]; rfl
def leafE (ls : List Int) (k : Nat) : Int := eIf (!isW (ls.getD k 0)) 2
def nodesE (ls : List Int) (ns : List Nd) (k : Nat) : Int := match ns[k]? with | none => 0 | some n => nodeE ls (ns.take k) n
def chk (ls : List Int) (ns : List Nd) : Int × Int :=
  if 40 < ls.length then (0, 8)
  else if (firstAt (leafE ls) ls.length 0).2 = 0 then
    (if 400 < ns.length then (0, 8) else firstAt (nodesE ls ns) ns.length 0)
  else firstAt (leafE ls) ls.length 0

theorem addB (a : Addr) (n : Nat) : (a.add n).block = a.block := by unfold Addr.add; split <;> rfl
@[go_sem] theorem Aft.cell_add {W : World} (x : Aft W) (a : Addr) (k : Nat) (h : (a.add k).block < W.heap.size) : x.val.cell? (a.add k) = W.cell? (a.add k) := x.pf.cell (p := a.add k) h

/-- The slice at A reads as the list ns of numbers. -/
def LiesI (w : World) (A : Option Addr) (ns : List Int) : Prop :=
  0 < ns.length → ∃ ad, A = some ad ∧ ad.block < w.heap.size ∧ ∀ i x, ns[i]? = some x → w.cell? (ad.add i) = some (.int .i64 x)
theorem LiesI.aft {w : World} {A : Option Addr} {ns : List Int} (h : LiesI w A ns) (x : Aft w) : LiesI x.val A ns := fun hp => by
  obtain ⟨ad, rfl, hb, hc⟩ := h hp
  exact ⟨ad, rfl, x.lt' hb, fun i z hi => (x.pf.cell (p := ad.add i) (by rw [addB]; exact hb)).trans (hc i z hi)⟩
theorem LiesI.take {w : World} {A : Option Addr} {ns : List Int} (h : LiesI w A ns) (k : Nat) : LiesI w A (ns.take k) := fun hp => by
  obtain ⟨ad, rfl, hb, hc⟩ := h (by simp at hp; omega)
  refine ⟨ad, rfl, hb, fun i z hi => hc i z ?_⟩
  rw [List.getElem?_take] at hi
  split at hi
  · exact hi
  · cases hi


/-- A slice of nodes in memory. -/
def LiesN (w : World) (A : Option Addr) (ns : List Nd) : Prop :=
  0 < ns.length → ∃ ad, A = some ad ∧ ad.block < w.heap.size ∧ ∀ i n, ns[i]? = some n →
    w.cell? (ad.add (i * 4)) = some (.int .i64 n.op) ∧ w.cell? ((ad.add (i * 4)).add 1) = some (.int .i64 n.wd) ∧ w.cell? ((ad.add (i * 4)).add 3) = some (.int .i64 n.v) ∧
    ∃ B cap, w.cell? ((ad.add (i * 4)).add 2) = some (.slice B n.args.length cap) ∧ LiesI w B n.args
theorem LiesN.aft {w : World} {A : Option Addr} {ns : List Nd} (h : LiesN w A ns) (x : Aft w) : LiesN x.val A ns := fun hp => by
  obtain ⟨ad, rfl, hb, hc⟩ := h hp
  refine ⟨ad, rfl, x.lt' hb, fun i n hi => ?_⟩
  obtain ⟨c0, c1, c3, B, cap, c2, hl⟩ := hc i n hi
  have k : ∀ q : Addr, q.block = ad.block → x.val.cell? q = w.cell? q := fun q hq => x.pf.cell (p := q) (by rw [hq]; exact hb)
  exact ⟨(k _ (by rw [addB])).trans c0, (k _ (by rw [addB, addB])).trans c1, (k _ (by rw [addB, addB])).trans c3, B, cap, (k _ (by rw [addB, addB])).trans c2, hl.aft x⟩
end Go.Proofs.YtkdonapgonegkaaDoor
