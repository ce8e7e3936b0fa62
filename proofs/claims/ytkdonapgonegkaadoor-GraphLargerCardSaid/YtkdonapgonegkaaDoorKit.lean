/-
  Plain lemmas of the verifier's own, over any program: a world that has grown out of another one ('Aft'), what it still holds, and a region that draws its order whose calls only make memory, with a forced tail. No Go text.
-/
import Derived.WalkKit
import Derived.WalkSpells
import Derived.StillTactics
import Derived.StillTail
import Derived.Laws.Pointers
import Derived.Deep.RegionHeld3
import Derived.Deep.QuietTactic
import Derived.BigQuiet
import Derived.RowKit3
import Derived.Handy
import Derived.Outline
import Derived.WalkSmall
import Derived.Laws.EntriesVeiled
import Derived.Lib.Hide
set_option linter.unusedSimpArgs false
set_option linter.unusedVariables false
namespace Go.Proofs.YtkdonapgonegkaaDoor
open Go.RowKit

/-- A world that has grown out of W: nothing that was there has turned. -/
structure Aft (W : World) where
  val : World
  pf : Below W.heap.size W val

instance Aft.inst (W : World) : Nonempty (Aft W) := ⟨⟨W, Below.refl _ _⟩⟩

section
variable {W : World}

@[go_sem] theorem Aft.cell (x : Aft W) (n i : Nat) (h : n < W.heap.size) : x.val.cell? ⟨n, i, none⟩ = W.cell? ⟨n, i, none⟩ := x.pf.cell (p := ⟨n, i, none⟩) h
@[go_sem] theorem Aft.frozen (x : Aft W) (n i : Nat) (h : n < W.heap.size) : x.val.frozen? ⟨n, i, none⟩ = W.frozen? ⟨n, i, none⟩ := x.pf.frozen (p := ⟨n, i, none⟩) h
@[go_sem] theorem Aft.heap (x : Aft W) (n : Nat) (h : n < W.heap.size) : x.val.heap[n]? = W.heap[n]? := x.pf.block n h
@[go_sem] theorem Aft.lt (x : Aft W) (n : Nat) (h : n < W.heap.size) : (n < x.val.heap.size) = True := by
  have := x.pf.size; simp; omega
@[go_sem] theorem Aft.leq (x : Aft W) (n : Nat) (h : n ≤ W.heap.size) : (n ≤ x.val.heap.size) = True := by
  have := x.pf.size; simp; omega
@[go_sem] theorem Aft.ne (x : Aft W) (n : Nat) (h : n < W.heap.size) : (n = x.val.heap.size) = False := by
  have := x.pf.size; simp; omega
@[go_sem] theorem Aft.ne' (x : Aft W) (n : Nat) (h : n < W.heap.size) : (x.val.heap.size = n) = False := by
  have := x.pf.size; simp; omega
@[go_sem] theorem Aft.leq_add (x : Aft W) (n k : Nat) (h : n ≤ W.heap.size) : (n ≤ x.val.heap.size + k) = True := by
  have := x.pf.size; simp; omega
@[go_sem] theorem Aft.lt_add (x : Aft W) (n k : Nat) (h : n < W.heap.size) : (n < x.val.heap.size + k) = True := by
  have := x.pf.size; simp; omega
@[go_sem] theorem Aft.cell_drew (x : Aft W.drew) (n i : Nat) (h : n < W.heap.size) : x.val.cell? ⟨n, i, none⟩ = W.cell? ⟨n, i, none⟩ := x.pf.cell (p := ⟨n, i, none⟩) h
@[go_sem] theorem Aft.frozen_drew (x : Aft W.drew) (n i : Nat) (h : n < W.heap.size) : x.val.frozen? ⟨n, i, none⟩ = W.frozen? ⟨n, i, none⟩ := x.pf.frozen (p := ⟨n, i, none⟩) h
@[go_sem] theorem Aft.lt_drew (x : Aft W.drew) (n : Nat) (h : n < W.heap.size) : (n < x.val.heap.size) = True := by
  have := x.pf.size; simp at *; omega
theorem Aft.lt' (x : Aft W) {n : Nat} (h : n < W.heap.size) : n < x.val.heap.size := Nat.lt_of_lt_of_le h x.pf.size
theorem Aft.le (x : Aft W) {n : Nat} (h : n ≤ W.heap.size) : n ≤ x.val.heap.size := Nat.le_trans h x.pf.size
theorem Aft.size (x : Aft W) : W.heap.size ≤ x.val.heap.size := x.pf.size

/-- A store into a block that W holds: the same store made in W, and grown. -/
def Aft.set (x : Aft W) (n i : Nat) (v : Value) (h : n < W.heap.size) : Aft (W.setCell ⟨n, i, none⟩ v) where
  val := x.val.setCell ⟨n, i, none⟩ v
  pf := by
    refine ⟨x.pf.os, x.pf.tape, x.pf.output, by simpa using x.pf.size, fun k hk => ?_⟩
    have hk' : k < W.heap.size := by simpa using hk
    have e := x.pf.block k hk'
    simp only [World.setCell, Array.getElem?_modify] at *
    split <;> simp_all
@[go_sem] theorem Aft.setCell (x : Aft W) (n i : Nat) (v : Value) (h : n < W.heap.size) : x.val.setCell ⟨n, i, none⟩ v = (x.set n i v h).val := rfl

@[go_sem high] theorem Aft.size_set (x : Aft W) (n i : Nat) (v : Value) (h : n < W.heap.size) : (x.set n i v h).val.heap.size = x.val.heap.size := by simp [Aft.set]
@[go_sem high] theorem Aft.frozen_set (x : Aft W) (n i : Nat) (v : Value) (h : n < W.heap.size) (a : Addr) : (x.set n i v h).val.frozen? a = x.val.frozen? a := by simp [Aft.set]
@[go_sem high] theorem Aft.cell_set_off (x : Aft W) (n i : Nat) (v : Value) (h : n < W.heap.size) (j : Nat) (hj : ¬ i = j) : (x.set n i v h).val.cell? ⟨n, j, none⟩ = x.val.cell? ⟨n, j, none⟩ :=
  World.cell?_setCell_other _ _ _ _ (fun e => hj (congrArg Addr.off e))
@[go_sem high] theorem Aft.cell_set_ne (x : Aft W) (n i : Nat) (v : Value) (h : n < W.heap.size) (m j : Nat) (hm : ¬ n = m) : (x.set n i v h).val.cell? ⟨m, j, none⟩ = x.val.cell? ⟨m, j, none⟩ :=
  World.cell?_setCell_other _ _ _ _ (fun e => hm (congrArg Addr.block e))
@[go_sem high] theorem Aft.cell_set (x : Aft W) (n i : Nat) (v : Value) (h : n < W.heap.size) (hs : (x.val.cell? ⟨n, i, none⟩).isSome = true) : (x.set n i v h).val.cell? ⟨n, i, none⟩ = some v := by
  obtain ⟨u, hu⟩ := Option.isSome_iff_exists.1 hs
  exact World.cell?_setCell_same _ _ _ hu
@[go_sem high] theorem Aft.set_set (x : Aft W) (n i : Nat) (v : Value) (h : n < W.heap.size) (m j : Nat) (u : Value) (hm : m < x.val.heap.size) (hm' : m < W.heap.size) : (x.set n i v h).val.setCell ⟨m, j, none⟩ u = ((x.set n i v h).set m j u (by simpa using hm')).val := rfl

theorem Aft.below (x : Aft W) {B : Nat} {w : World} (h : Below B w W) (hB : B ≤ W.heap.size) : Below B w x.val := h.trans (x.pf.mono hB)

/-- What a contract says of a function that only makes memory. -/
theorem Below.aft {w w' : World} (h : Below w.heap.size w w') : ∃ x : Aft w, w' = x.val := ⟨⟨w', h⟩, rfl⟩
theorem Below.setCell_new {B : Nat} {w W : World} (h : Below B w W) {n : Nat} (hn : B ≤ n) (i : Nat) (v : Value) : Below B w (W.setCell ⟨n, i, none⟩ v) := h.setCell hn v
end

theorem le_alloc {W : World} {o : Obj} {n : Nat} (h : n ≤ W.heap.size) : n ≤ (W.alloc o).heap.size := by simp; omega
theorem le_drew {W : World} {n : Nat} (h : n ≤ W.heap.size) : n ≤ W.drew.heap.size := h
theorem le_setCell {W : World} {a : Addr} {v : Value} {n : Nat} (h : n ≤ W.heap.size) : n ≤ (W.setCell a v).heap.size := by simpa using h

@[go_sem] theorem cell_setCell_ne {W : World} {n m i j : Nat} {v : Value} (h : ¬ n = m) : (W.setCell ⟨n, i, none⟩ v).cell? ⟨m, j, none⟩ = W.cell? ⟨m, j, none⟩ :=
  World.cell?_setCell_other _ _ _ _ (fun e => h (congrArg Addr.block e))
theorem heap_alloc_at {W : World} {o : Obj} {n : Nat} (h : n = W.heap.size) : (W.alloc o).heap[n]? = some o := by subst h; exact heap_alloc_new _ _
theorem lt_alloc {W : World} {o : Obj} {n : Nat} (h : n < W.heap.size) : n < (W.alloc o).heap.size := by simp; omega
theorem lt_drew {W : World} {n : Nat} (h : n < W.heap.size) : n < W.drew.heap.size := h
theorem lt_setCell {W : World} {a : Addr} {v : Value} {n : Nat} (h : n < W.heap.size) : n < (W.setCell a v).heap.size := by simpa using h
theorem cell_aft {W : World} (x : Aft W) {n i : Nat} {v : Value} (h : n < W.heap.size) (hc : W.cell? ⟨n, i, none⟩ = some v) : x.val.cell? ⟨n, i, none⟩ = some v := (x.cell n i h).trans hc
theorem cell_alloc {W : World} {o : Obj} {n i : Nat} {v : Value} (h : n < W.heap.size) (hc : W.cell? ⟨n, i, none⟩ = some v) : (W.alloc o).cell? ⟨n, i, none⟩ = some v := (World.cell?_alloc_past o n i h).trans hc
theorem cell_drew' {W : World} {n i : Nat} {v : Value} (hc : W.cell? ⟨n, i, none⟩ = some v) : W.drew.cell? ⟨n, i, none⟩ = some v := hc
theorem cell_setCell {W : World} {m j n i : Nat} {u v : Value} (h : n < m) (hc : W.cell? ⟨n, i, none⟩ = some v) : (W.setCell ⟨m, j, none⟩ u).cell? ⟨n, i, none⟩ = some v := (cell_setCell_ne (by omega)).trans hc
@[go_sem] theorem cell_setCell_off {W : World} {n i j : Nat} {v : Value} (h : ¬ i = j) : (W.setCell ⟨n, i, none⟩ v).cell? ⟨n, j, none⟩ = W.cell? ⟨n, j, none⟩ :=
  World.cell?_setCell_other _ _ _ _ (fun e => h (congrArg Addr.off e))
theorem heap_setCell_ne {W : World} {n m i : Nat} {v : Value} (h : ¬ n = m) : (W.setCell ⟨n, i, none⟩ v).heap[m]? = W.heap[m]? := Below.heap_setCell _ _ _ _ (fun e => h e.symm)
theorem cell_block {W : World} {n i : Nat} {c : Array Value} {T : TypeId} {fr : Nat × Nat} (h : W.heap[n]? = some (.cells c T fr)) : W.cell? ⟨n, i, none⟩ = c[i]? := by simp [World.cell?, h]
theorem free_block {W : World} {n i : Nat} {c : Array Value} {T : TypeId} (h : W.heap[n]? = some (.cells c T (0, 0))) : W.frozen? ⟨n, i, none⟩ = false := by simp [World.frozen?, h]
theorem heap_aft_alloc {W : World} {o ob : Obj} {n : Nat} (x : Aft (W.alloc o)) (h : n < W.heap.size) (hb : W.heap[n]? = some ob) : x.val.heap[n]? = some ob := by
  rw [x.heap n (lt_alloc h), Below.heap_alloc _ _ _ h]; exact hb
theorem heap_aft {W : World} {ob : Obj} {n : Nat} (x : Aft W) (h : n < W.heap.size) (hb : W.heap[n]? = some ob) : x.val.heap[n]? = some ob := (x.heap n h).trans hb
theorem heap_alloc' {W : World} {o ob : Obj} {n : Nat} (h : n < W.heap.size) (hb : W.heap[n]? = some ob) : (W.alloc o).heap[n]? = some ob := by
  rw [Below.heap_alloc _ _ _ h]; exact hb
theorem heap_drew {W : World} {ob : Obj} {n : Nat} (hb : W.heap[n]? = some ob) : W.drew.heap[n]? = some ob := hb
theorem retI {a b : Int} (h : a = b) : Ending.returned (.int .i64 a) = .returned (.int .i64 b) := by rw [h]
theorem retB {a b : Bool} (h : a = b) : Ending.returned (.bool a) = .returned (.bool b) := by rw [h]

/-- A quiet call inside a region: the world is as it was, or one that has grown. -/
theorem Calls.qs {P : Program} {f : FuncId} {args : Array Value} {W : World} {x : Aft W} {v : Value}
    (h : Calls P f args x.val fun e w' => e = .returned v ∧ x.val = w') : Calls P f args x.val fun e w'' => e = .returned v ∧ ∃ y : Aft W, w'' = y.val :=
  h.mono fun _ _ ⟨he, hm⟩ => ⟨he, x, hm.symm⟩
theorem Calls.qa {P : Program} {f : FuncId} {args : Array Value} {W : World} {x : Aft W} {v : Value}
    (h : Calls P f args x.val fun e w' => e = .returned v ∧ ∃ y : Aft x.val, w' = y.val) : Calls P f args x.val fun e w'' => e = .returned v ∧ ∃ y : Aft W, w'' = y.val :=
  h.mono fun _ _ ⟨he, y, hm⟩ => ⟨he, ⟨y.val, y.below x.pf x.pf.size⟩, hm⟩

section
variable {P : Program} {ops : Array Oper} {md : Region.Mode} {C : World → Prop}

/-- The first f picks are quiet operations below n; behind them L. -/
def wpHeadQ (P : Program) (md : Region.Mode) (ops : Array Oper) (C : World → Prop) (n : Nat) (L : Array Bool → Act → Prop) : Nat → Array Bool → Act → Prop
  | 0, listed, a => L listed a
  | f + 1, listed, a => Region.ready md ops listed ≠ [] ∧ ∀ i ∈ Region.ready md ops listed, i < n ∧ qOp P ops C i (wpHeadQ P md ops C n L f (listed.setIfInBounds i true)) a

theorem wpAny_of_headQ {n g : Nat} {L : Array Bool → Act → Prop} {Q' : Exit → Act → World → Prop} (hL : ∀ listed a w, C w → L listed a → wpAny P md ops Q' g listed a w) :
    ∀ (f : Nat) (listed : Array Bool) (a : Act) (w : World), C w → wpHeadQ P md ops C n L f listed a → wpAny P md ops Q' (f + g) listed a w
  | 0, listed, a, w, hw, h => by rw [Nat.zero_add]; exact hL _ _ _ hw h
  | f + 1, listed, a, w, hw, h => by
    rw [Nat.add_right_comm]
    exact ⟨fun h0 => absurd h0 h.1, fun i hi => wpOp_of_qOp hw (fun a' w' hw' h' => wpAny_of_headQ hL f _ a' w' hw' h') (h.2 i hi).2⟩

theorem wpHeadQ_first {n i : Nat} {oi : Oper} {v : Value} {L : Array Bool → Act → Prop} (hi : ops[i]? = some oi) (hsel : ∀ (j : Nat) (o : Oper) cs b, ops[j]? = some o → o.op ≠ .select cs b)
    (hs : Region.sinkB md ops n = true) (hc : Region.chainB md ops n = true) (hn : n < ops.size) (hin : i < n)
    (hdone : ∀ listed a, L listed a → ∀ j ∈ Region.ready md ops listed, n ≤ j) :
    ∀ (f : Nat) (listed : Array Bool) (a : Act), HeadInv md ops n listed →
      (∀ j oj, ops[j]? = some oj → j ≠ i → listed.getD j true = false → (∀ e ∈ oj.after, Region.binds md e = true → e.on ≠ i) → oi.apart ops oj = true) →
      i ∈ Region.ready md ops listed → YieldsIn P ops C oi v a →
      wpHeadQ P md ops C n L f (listed.setIfInBounds i true) (a.put oi.dst v) → wpHeadQ P md ops C n L (f + 1) listed a := by
  intro f
  induction f with
  | zero =>
    intro listed a inv _ hr hy H
    have hun := (mem_ready.1 hr).1
    refine ⟨List.ne_nil_of_mem hr, fun j hj => ?_⟩
    have hjn : j < n := Nat.lt_of_not_le fun h => tail_waits hs hc hn inv _ i rfl hin hun j h hj
    refine ⟨hjn, ?_⟩
    by_cases hji : j = i
    · subst hji; exact hy.qOp hi H
    · have := hdone _ _ H j (ready_mono hj hji)
      omega
  | succ f ih =>
    intro listed a inv hfree hr hy H
    have hun := (mem_ready.1 hr).1
    refine ⟨List.ne_nil_of_mem hr, fun j hj => ?_⟩
    have hjn : j < n := Nat.lt_of_not_le fun h => tail_waits hs hc hn inv _ i rfl hin hun j h hj
    refine ⟨hjn, ?_⟩
    by_cases hji : j = i
    · subst hji; exact hy.qOp hi H
    · have h1 := (H.2 j (ready_mono hj hji)).2
      obtain ⟨hjun, oj, hoj, hall⟩ := mem_ready.1 hj
      have hnot : ∀ e ∈ oj.after, Region.binds md e = true → e.on ≠ i := fun e he hb heq => by
        have h3 := hall e he hb
        rw [heq, getD_both hun] at h3
        cases h3
      have h2 := qOp_put hoj (hfree j oj hoj hji hjun hnot) (fun cs b => hsel i oi cs b hi) (fun cs b => hsel j oj cs b hoj) hy h1
      refine qOp_mono (fun a' h3 => ih (listed.setIfInBounds j true) a' (inv.set hj hjn) (fun k ok hk hki hun' hno => hfree k ok hk hki ?_ hno) (ready_mono hr (Ne.symm hji)) h3.1 ?_) h2
      · by_cases hjk : j = k
        · subst hjk; exact hjun
        · rw [getD_set_ne true hjk] at hun'; exact hun'
      · rw [Array.setIfInBounds_comm _ _ hji]
        exact h3.2

theorem wpHeadQ_lex {n g : Nat} {Lq : Act → Prop} (hsel : Region.noSelect ops = true) (hs : Region.sinkB md ops n = true) (hc : Region.chainB md ops n = true) (hn : n < ops.size) :
    ∀ (l : List Oper) (k : Nat) (listed : Array Bool) (a : Act), (∀ j, j < l.length → l[j]? = ops[k + j]?) → k + l.length = n → HeadInv md ops n listed →
    Region.lexHead md ops g l.length k listed = true → wpQuiet P ops C Lq l a →
    wpHeadQ P md ops C n (fun listed' a' => Region.seqB md ops g n listed' = true ∧ Lq a') l.length listed a
  | [], k, listed, a, _, hk, _, hB, h => by
    have : k = n := by simpa using hk
    subst this
    exact ⟨by simpa [Region.lexHead] using hB, h⟩
  | o :: l, k, listed, a, hl, hk, inv, hB, h => by
    have h0 : ops[k]? = some o := by simpa using (hl 0 (by simp)).symm
    simp only [List.length_cons, Region.lexHead, Bool.and_eq_true] at hB
    obtain ⟨⟨hr, hf⟩, hB'⟩ := hB
    have hkn : k < n := by simp only [List.length_cons] at hk; omega
    have hr' : k ∈ Region.ready md ops listed := by simpa using hr
    have hq : qOp P ops C k (wpQuiet P ops C Lq l) a := by unfold qOp; simp only [h0]; exact h
    obtain ⟨v, hy, hK⟩ := yieldsIn_of_qOp h0 hq
    exact wpHeadQ_first h0 (Region.noSelect_spec hsel) hs hc hn hkn (fun _ _ hL => seqB_ready hL.1) l.length listed a inv (Region.free_spec h0 hf) hr' hy
      (wpHeadQ_lex hsel hs hc hn l (k + 1) _ _ (fun j hj => by have := hl (j + 1) (by simp; omega); simpa [Nat.add_assoc, Nat.add_comm 1 j] using this)
        (by simp only [List.length_cons] at hk; omega) (inv.set hr' hkn) hB' hK)

theorem wp_region_quiet_tail {id : Nat} {Q : Exit → Act → World → Prop} {a : Act} {w : World} {l : List Oper} (n : Nat) (hm : P.follows .mixedOrders = true) (hB : Region.lexTailB .any l.toArray n = true)
    (hC : C { w with drawn := w.drawn + 1 })
    (h : wpQuiet P l.toArray C (fun a' => ∀ w', C w' → wpList P l.toArray Q (l.drop n) a' w') (l.take n) a) : (Code.region id l.toArray true).wp P Q a w := by
  simp only [Region.lexTailB, Bool.and_eq_true, decide_eq_true_eq] at hB
  obtain ⟨⟨⟨⟨hsel, hn⟩, hs⟩, hc⟩, hlex⟩ := hB
  have hn' : n < l.length := by simpa using hn
  have htl : (l.take n).length = n := by simp; omega
  have hdl : (l.drop n).length = l.toArray.size - n := by simp
  have inv0 : HeadInv .any l.toArray n (Array.replicate l.toArray.size false) :=
    ⟨by simp, fun j oj _ hl => (by rw [getD_replicate_false] at hl; cases hl), fun t _ ht => getD_in (by simpa using ht) (getD_replicate_false _ _)⟩
  have H := wpHeadQ_lex (md := .any) (g := l.toArray.size - n) hsel hs hc hn (l.take n) 0 _ a (fun j hj => by
    have hj' : j < n := by rw [htl] at hj; exact hj
    simp [hj']) (by simpa using htl) inv0 (by rw [htl]; exact hlex) h
  refine wp_region_any hm ?_
  have := wpAny_of_headQ (Q' := Q) (g := l.toArray.size - n) (fun listed a' w' hw' hL => by
    have := wpAny_of_seq (md := .any) (Q' := Q) (l.drop n) n listed a' w' (fun j => by simp [List.getElem?_drop]) (by rw [hdl]; exact hL.1) (hL.2 w' hw')
    rwa [hdl] at this) _ _ _ _ hC H
  rw [htl, show n + (l.toArray.size - n) = l.toArray.size by omega] at this
  exact this
end

/-- The class of the worlds that have grown out of w. -/
def Later (w : World) : World → Prop := fun w' => ∃ x : Aft w, w' = x.val

/-- A region whose operations read, reckon and call what only makes memory: one walk in the order of the text. -/
theorem wp_region_aft {P : Program} {id : Nat} {Q : Exit → Act → World → Prop} {a : Act} {w : World} {l : List Oper} (hm : P.follows .mixedOrders = true) (hB : Region.lexB .any l.toArray = true)
    (h : wpQuiet P l.toArray (fun w' => ∃ x : Aft w, w' = x.val) (fun a' => ∀ x : Aft w, Q .normal a' x.val) l a) : (Code.region id l.toArray true).wp P Q a w :=
  wp_region_quiet (C := fun w' => ∃ x : Aft w, w' = x.val) hm hB ⟨⟨_, (Below.refl _ _).drew⟩, rfl⟩ (by
    have e : (fun a' => ∀ w', (∃ x : Aft w, w' = x.val) → Q .normal a' w') = (fun a' => ∀ x : Aft w, Q .normal a' x.val) := by
      funext a'; exact propext ⟨fun h x => h _ ⟨x, rfl⟩, fun h _ ⟨x, hx⟩ => hx ▸ h x⟩
    rw [e]; simpa using h)

/-- The same with a tail of operations that come last in any order. -/
theorem wp_region_aft_tail {P : Program} {id : Nat} {Q : Exit → Act → World → Prop} {a : Act} {w : World} {l : List Oper} (n : Nat) (hm : P.follows .mixedOrders = true) (hB : Region.lexTailB .any l.toArray n = true)
    (h : wpQuiet P l.toArray (fun w' => ∃ x : Aft w, w' = x.val) (fun a' => ∀ x : Aft w, wpList P l.toArray Q (l.drop n) a' x.val) (l.take n) a) : (Code.region id l.toArray true).wp P Q a w :=
  wp_region_quiet_tail (C := fun w' => ∃ x : Aft w, w' = x.val) n hm hB ⟨⟨_, (Below.refl _ _).drew⟩, rfl⟩ (by
    have e : (fun a' => ∀ w', (∃ x : Aft w, w' = x.val) → wpList P l.toArray Q (l.drop n) a' w') = (fun a' => ∀ x : Aft w, wpList P l.toArray Q (l.drop n) a' x.val) := by
      funext a'; exact propext ⟨fun h x => h _ ⟨x, rfl⟩, fun h _ ⟨x, hx⟩ => hx ▸ h x⟩
    rw [e]; exact h)
end Go.Proofs.YtkdonapgonegkaaDoor
