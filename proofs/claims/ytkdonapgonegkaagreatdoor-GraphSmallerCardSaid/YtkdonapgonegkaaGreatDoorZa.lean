/-
  Plain lemmas of the verifier's own, over any program: a world that has grown out of another one ('Aft'), what it still holds, and a region that draws its order whose calls only make memory, with a forced tail. No Go text.
-/
import Derived.WalkKit
import Derived.WalkSpells
import Derived.StillTactics
import Derived.StillTail
import Derived.Laws.Pointers
import Derived.Deep.RegionHeld3
import Derived.Deep.QuietTactic
import Derived.BigQuiet
import Derived.RowKit3
import Derived.Handy
import Derived.Outline
import Derived.WalkSmall
import Derived.Laws.EntriesVeiled
import Derived.Lib.Hide
import Derived.ProofKit
import Derived.Laws.BitsAllLaws
import Derived.Laws.BitsLemmas
import Derived.IntWalk
import Derived.Test.YtkdonapgonegkaaGreatDoorProg
set_option linter.unusedSimpArgs false
set_option linter.unusedVariables false
namespace Go.Proofs.YtkdonapgonegkaaGreatDoor
open Go.RowKit

/-- A world that has grown out of W: nothing that was there has turned. -/
structure Aft (W : World) where
  val : World
  pf : Below W.heap.size W val

instance Aft.inst (W : World) : Nonempty (Aft W) := ⟨⟨W, Below.refl _ _⟩⟩

section
variable {W : World}

@[go_sem] theorem Aft.cell (x : Aft W) (n i : Nat) (h : n < W.heap.size) : x.val.cell? ⟨n, i, none⟩ = W.cell? ⟨n, i, none⟩ := x.pf.cell (p := ⟨n, i, none⟩) h
@[go_sem] theorem Aft.frozen (x : Aft W) (n i : Nat) (h : n < W.heap.size) : x.val.frozen? ⟨n, i, none⟩ = W.frozen? ⟨n, i, none⟩ := x.pf.frozen (p := ⟨n, i, none⟩) h
@[go_sem] theorem Aft.heap (x : Aft W) (n : Nat) (h : n < W.heap.size) : x.val.heap[n]? = W.heap[n]? := x.pf.block n h
@[go_sem] theorem Aft.lt (x : Aft W) (n : Nat) (h : n < W.heap.size) : (n < x.val.heap.size) = True := by
  have := x.pf.size; simp; omega
@[go_sem] theorem Aft.leq (x : Aft W) (n : Nat) (h : n ≤ W.heap.size) : (n ≤ x.val.heap.size) = True := by
  have := x.pf.size; simp; omega
@[go_sem] theorem Aft.ne (x : Aft W) (n : Nat) (h : n < W.heap.size) : (n = x.val.heap.size) = False := by
  have := x.pf.size; simp; omega
@[go_sem] theorem Aft.ne' (x : Aft W) (n : Nat) (h : n < W.heap.size) : (x.val.heap.size = n) = False := by
  have := x.pf.size; simp; omega
@[go_sem] theorem Aft.leq_add (x : Aft W) (n k : Nat) (h : n ≤ W.heap.size) : (n ≤ x.val.heap.size + k) = True := by
  have := x.pf.size; simp; omega
@[go_sem] theorem Aft.lt_add (x : Aft W) (n k : Nat) (h : n < W.heap.size) : (n < x.val.heap.size + k) = True := by
  have := x.pf.size; simp; omega
@[go_sem] theorem Aft.cell_drew (x : Aft W.drew) (n i : Nat) (h : n < W.heap.size) : x.val.cell? ⟨n, i, none⟩ = W.cell? ⟨n, i, none⟩ := x.pf.cell (p := ⟨n, i, none⟩) h
@[go_sem] theorem Aft.frozen_drew (x : Aft W.drew) (n i : Nat) (h : n < W.heap.size) : x.val.frozen? ⟨n, i, none⟩ = W.frozen? ⟨n, i, none⟩ := x.pf.frozen (p := ⟨n, i, none⟩) h
@[go_sem] theorem Aft.lt_drew (x : Aft W.drew) (n : Nat) (h : n < W.heap.size) : (n < x.val.heap.size) = True := by
  have := x.pf.size; simp at *; omega
theorem Aft.lt' (x : Aft W) {n : Nat} (h : n < W.heap.size) : n < x.val.heap.size := Nat.lt_of_lt_of_le h x.pf.size
theorem Aft.le (x : Aft W) {n : Nat} (h : n ≤ W.heap.size) : n ≤ x.val.heap.size := Nat.le_trans h x.pf.size
theorem Aft.size (x : Aft W) : W.heap.size ≤ x.val.heap.size := x.pf.size

/-- A store into a block that W holds: the same store made in W, and grown. -/
def Aft.set (x : Aft W) (n i : Nat) (v : Value) (h : n < W.heap.size) : Aft (W.setCell ⟨n, i, none⟩ v) where
  val := x.val.setCell ⟨n, i, none⟩ v
  pf := by
    refine ⟨x.pf.os, x.pf.tape, x.pf.output, by simpa using x.pf.size, fun k hk => ?_⟩
    have hk' : k < W.heap.size := by simpa using hk
    have e := x.pf.block k hk'
    simp only [World.setCell, Array.getElem?_modify] at *
    split <;> simp_all
@[go_sem] theorem Aft.setCell (x : Aft W) (n i : Nat) (v : Value) (h : n < W.heap.size) : x.val.setCell ⟨n, i, none⟩ v = (x.set n i v h).val := rfl

@[go_sem high] theorem Aft.size_set (x : Aft W) (n i : Nat) (v : Value) (h : n < W.heap.size) : (x.set n i v h).val.heap.size = x.val.heap.size := by simp [Aft.set]
@[go_sem high] theorem Aft.frozen_set (x : Aft W) (n i : Nat) (v : Value) (h : n < W.heap.size) (a : Addr) : (x.set n i v h).val.frozen? a = x.val.frozen? a := by simp [Aft.set]
@[go_sem high] theorem Aft.cell_set_off (x : Aft W) (n i : Nat) (v : Value) (h : n < W.heap.size) (j : Nat) (hj : ¬ i = j) : (x.set n i v h).val.cell? ⟨n, j, none⟩ = x.val.cell? ⟨n, j, none⟩ :=
  World.cell?_setCell_other _ _ _ _ (fun e => hj (congrArg Addr.off e))
@[go_sem high] theorem Aft.cell_set_ne (x : Aft W) (n i : Nat) (v : Value) (h : n < W.heap.size) (m j : Nat) (hm : ¬ n = m) : (x.set n i v h).val.cell? ⟨m, j, none⟩ = x.val.cell? ⟨m, j, none⟩ :=
  World.cell?_setCell_other _ _ _ _ (fun e => hm (congrArg Addr.block e))
@[go_sem high] theorem Aft.cell_set (x : Aft W) (n i : Nat) (v : Value) (h : n < W.heap.size) (hs : (x.val.cell? ⟨n, i, none⟩).isSome = true) : (x.set n i v h).val.cell? ⟨n, i, none⟩ = some v := by
  obtain ⟨u, hu⟩ := Option.isSome_iff_exists.1 hs
  exact World.cell?_setCell_same _ _ _ hu
@[go_sem high] theorem Aft.set_set (x : Aft W) (n i : Nat) (v : Value) (h : n < W.heap.size) (m j : Nat) (u : Value) (hm : m < x.val.heap.size) (hm' : m < W.heap.size) : (x.set n i v h).val.setCell ⟨m, j, none⟩ u = ((x.set n i v h).set m j u (by simpa using hm')).val := rfl

theorem Aft.below (x : Aft W) {B : Nat} {w : World} (h : Below B w W) (hB : B ≤ W.heap.size) : Below B w x.val := h.trans (x.pf.mono hB)

/-- What a contract says of a function that only makes memory. -/
theorem Below.aft {w w' : World} (h : Below w.heap.size w w') : ∃ x : Aft w, w' = x.val := ⟨⟨w', h⟩, rfl⟩
theorem Below.setCell_new {B : Nat} {w W : World} (h : Below B w W) {n : Nat} (hn : B ≤ n) (i : Nat) (v : Value) : Below B w (W.setCell ⟨n, i, none⟩ v) := h.setCell hn v
end

theorem le_alloc {W : World} {o : Obj} {n : Nat} (h : n ≤ W.heap.size) : n ≤ (W.alloc o).heap.size := by simp; omega
theorem le_drew {W : World} {n : Nat} (h : n ≤ W.heap.size) : n ≤ W.drew.heap.size := h
theorem le_setCell {W : World} {a : Addr} {v : Value} {n : Nat} (h : n ≤ W.heap.size) : n ≤ (W.setCell a v).heap.size := by simpa using h

@[go_sem] theorem cell_setCell_ne {W : World} {n m i j : Nat} {v : Value} (h : ¬ n = m) : (W.setCell ⟨n, i, none⟩ v).cell? ⟨m, j, none⟩ = W.cell? ⟨m, j, none⟩ :=
  World.cell?_setCell_other _ _ _ _ (fun e => h (congrArg Addr.block e))
theorem heap_alloc_at {W : World} {o : Obj} {n : Nat} (h : n = W.heap.size) : (W.alloc o).heap[n]? = some o := by subst h; exact heap_alloc_new _ _
theorem lt_alloc {W : World} {o : Obj} {n : Nat} (h : n < W.heap.size) : n < (W.alloc o).heap.size := by simp; omega
theorem lt_drew {W : World} {n : Nat} (h : n < W.heap.size) : n < W.drew.heap.size := h
theorem cell_aft {W : World} (x : Aft W) {n i : Nat} {v : Value} (h : n < W.heap.size) (hc : W.cell? ⟨n, i, none⟩ = some v) : x.val.cell? ⟨n, i, none⟩ = some v := (x.cell n i h).trans hc
theorem cell_alloc {W : World} {o : Obj} {n i : Nat} {v : Value} (h : n < W.heap.size) (hc : W.cell? ⟨n, i, none⟩ = some v) : (W.alloc o).cell? ⟨n, i, none⟩ = some v := (World.cell?_alloc_past o n i h).trans hc
@[go_sem] theorem cell_setCell_off {W : World} {n i j : Nat} {v : Value} (h : ¬ i = j) : (W.setCell ⟨n, i, none⟩ v).cell? ⟨n, j, none⟩ = W.cell? ⟨n, j, none⟩ :=
  World.cell?_setCell_other _ _ _ _ (fun e => h (congrArg Addr.off e))
theorem heap_setCell_ne {W : World} {n m i : Nat} {v : Value} (h : ¬ n = m) : (W.setCell ⟨n, i, none⟩ v).heap[m]? = W.heap[m]? := Below.heap_setCell _ _ _ _ (fun e => h e.symm)
theorem cell_block {W : World} {n i : Nat} {c : Array Value} {T : TypeId} {fr : Nat × Nat} (h : W.heap[n]? = some (.cells c T fr)) : W.cell? ⟨n, i, none⟩ = c[i]? := by simp [World.cell?, h]
theorem free_block {W : World} {n i : Nat} {c : Array Value} {T : TypeId} (h : W.heap[n]? = some (.cells c T (0, 0))) : W.frozen? ⟨n, i, none⟩ = false := by simp [World.frozen?, h]
theorem heap_aft {W : World} {ob : Obj} {n : Nat} (x : Aft W) (h : n < W.heap.size) (hb : W.heap[n]? = some ob) : x.val.heap[n]? = some ob := (x.heap n h).trans hb
theorem heap_alloc' {W : World} {o ob : Obj} {n : Nat} (h : n < W.heap.size) (hb : W.heap[n]? = some ob) : (W.alloc o).heap[n]? = some ob := by
  rw [Below.heap_alloc _ _ _ h]; exact hb
theorem retI {a b : Int} (h : a = b) : Ending.returned (.int .i64 a) = .returned (.int .i64 b) := by rw [h]
theorem retB {a b : Bool} (h : a = b) : Ending.returned (.bool a) = .returned (.bool b) := by rw [h]

/-- A quiet call inside a region: the world is as it was, or one that has grown. -/
theorem Calls.qs {P : Program} {f : FuncId} {args : Array Value} {W : World} {x : Aft W} {v : Value}
    (h : Calls P f args x.val fun e w' => e = .returned v ∧ x.val = w') : Calls P f args x.val fun e w'' => e = .returned v ∧ ∃ y : Aft W, w'' = y.val :=
  h.mono fun _ _ ⟨he, hm⟩ => ⟨he, x, hm.symm⟩
theorem Calls.qa {P : Program} {f : FuncId} {args : Array Value} {W : World} {x : Aft W} {v : Value}
    (h : Calls P f args x.val fun e w' => e = .returned v ∧ ∃ y : Aft x.val, w' = y.val) : Calls P f args x.val fun e w'' => e = .returned v ∧ ∃ y : Aft W, w'' = y.val :=
  h.mono fun _ _ ⟨he, y, hm⟩ => ⟨he, ⟨y.val, y.below x.pf x.pf.size⟩, hm⟩

section
variable {P : Program} {ops : Array Oper} {md : Region.Mode} {C : World → Prop}

/-- The first f picks are quiet operations below n; behind them L. -/
def wpHeadQ (P : Program) (md : Region.Mode) (ops : Array Oper) (C : World → Prop) (n : Nat) (L : Array Bool → Act → Prop) : Nat → Array Bool → Act → Prop
  | 0, listed, a => L listed a
  | f + 1, listed, a => Region.ready md ops listed ≠ [] ∧ ∀ i ∈ Region.ready md ops listed, i < n ∧ qOp P ops C i (wpHeadQ P md ops C n L f (listed.setIfInBounds i true)) a

theorem wpAny_of_headQ {n g : Nat} {L : Array Bool → Act → Prop} {Q' : Exit → Act → World → Prop} (hL : ∀ listed a w, C w → L listed a → wpAny P md ops Q' g listed a w) :
    ∀ (f : Nat) (listed : Array Bool) (a : Act) (w : World), C w → wpHeadQ P md ops C n L f listed a → wpAny P md ops Q' (f + g) listed a w
  | 0, listed, a, w, hw, h => by rw [Nat.zero_add]; exact hL _ _ _ hw h
  | f + 1, listed, a, w, hw, h => by
    rw [Nat.add_right_comm]
    exact ⟨fun h0 => absurd h0 h.1, fun i hi => wpOp_of_qOp hw (fun a' w' hw' h' => wpAny_of_headQ hL f _ a' w' hw' h') (h.2 i hi).2⟩

theorem wpHeadQ_first {n i : Nat} {oi : Oper} {v : Value} {L : Array Bool → Act → Prop} (hi : ops[i]? = some oi) (hsel : ∀ (j : Nat) (o : Oper) cs b, ops[j]? = some o → o.op ≠ .select cs b)
    (hs : Region.sinkB md ops n = true) (hc : Region.chainB md ops n = true) (hn : n < ops.size) (hin : i < n)
    (hdone : ∀ listed a, L listed a → ∀ j ∈ Region.ready md ops listed, n ≤ j) :
    ∀ (f : Nat) (listed : Array Bool) (a : Act), HeadInv md ops n listed →
      (∀ j oj, ops[j]? = some oj → j ≠ i → listed.getD j true = false → (∀ e ∈ oj.after, Region.binds md e = true → e.on ≠ i) → oi.apart ops oj = true) →
      i ∈ Region.ready md ops listed → YieldsIn P ops C oi v a →
      wpHeadQ P md ops C n L f (listed.setIfInBounds i true) (a.put oi.dst v) → wpHeadQ P md ops C n L (f + 1) listed a := by
  intro f
  induction f with
  | zero =>
    intro listed a inv _ hr hy H
    have hun := (mem_ready.1 hr).1
    refine ⟨List.ne_nil_of_mem hr, fun j hj => ?_⟩
    have hjn : j < n := Nat.lt_of_not_le fun h => tail_waits hs hc hn inv _ i rfl hin hun j h hj
    refine ⟨hjn, ?_⟩
    by_cases hji : j = i
    · subst hji; exact hy.qOp hi H
    · have := hdone _ _ H j (ready_mono hj hji)
      omega
  | succ f ih =>
    intro listed a inv hfree hr hy H
    have hun := (mem_ready.1 hr).1
    refine ⟨List.ne_nil_of_mem hr, fun j hj => ?_⟩
    have hjn : j < n := Nat.lt_of_not_le fun h => tail_waits hs hc hn inv _ i rfl hin hun j h hj
    refine ⟨hjn, ?_⟩
    by_cases hji : j = i
    · subst hji; exact hy.qOp hi H
    · have h1 := (H.2 j (ready_mono hj hji)).2
      obtain ⟨hjun, oj, hoj, hall⟩ := mem_ready.1 hj
      have hnot : ∀ e ∈ oj.after, Region.binds md e = true → e.on ≠ i := fun e he hb heq => by
        have h3 := hall e he hb
        rw [heq, getD_both hun] at h3
        cases h3
      have h2 := qOp_put hoj (hfree j oj hoj hji hjun hnot) (fun cs b => hsel i oi cs b hi) (fun cs b => hsel j oj cs b hoj) hy h1
      refine qOp_mono (fun a' h3 => ih (listed.setIfInBounds j true) a' (inv.set hj hjn) (fun k ok hk hki hun' hno => hfree k ok hk hki ?_ hno) (ready_mono hr (Ne.symm hji)) h3.1 ?_) h2
      · by_cases hjk : j = k
        · subst hjk; exact hjun
        · rw [getD_set_ne true hjk] at hun'; exact hun'
      · rw [Array.setIfInBounds_comm _ _ hji]
        exact h3.2

theorem wpHeadQ_lex {n g : Nat} {Lq : Act → Prop} (hsel : Region.noSelect ops = true) (hs : Region.sinkB md ops n = true) (hc : Region.chainB md ops n = true) (hn : n < ops.size) :
    ∀ (l : List Oper) (k : Nat) (listed : Array Bool) (a : Act), (∀ j, j < l.length → l[j]? = ops[k + j]?) → k + l.length = n → HeadInv md ops n listed →
    Region.lexHead md ops g l.length k listed = true → wpQuiet P ops C Lq l a →
    wpHeadQ P md ops C n (fun listed' a' => Region.seqB md ops g n listed' = true ∧ Lq a') l.length listed a
  | [], k, listed, a, _, hk, _, hB, h => by
    have : k = n := by simpa using hk
    subst this
    exact ⟨by simpa [Region.lexHead] using hB, h⟩
  | o :: l, k, listed, a, hl, hk, inv, hB, h => by
    have h0 : ops[k]? = some o := by simpa using (hl 0 (by simp)).symm
    simp only [List.length_cons, Region.lexHead, Bool.and_eq_true] at hB
    obtain ⟨⟨hr, hf⟩, hB'⟩ := hB
    have hkn : k < n := by simp only [List.length_cons] at hk; omega
    have hr' : k ∈ Region.ready md ops listed := by simpa using hr
    have hq : qOp P ops C k (wpQuiet P ops C Lq l) a := by unfold qOp; simp only [h0]; exact h
    obtain ⟨v, hy, hK⟩ := yieldsIn_of_qOp h0 hq
    exact wpHeadQ_first h0 (Region.noSelect_spec hsel) hs hc hn hkn (fun _ _ hL => seqB_ready hL.1) l.length listed a inv (Region.free_spec h0 hf) hr' hy
      (wpHeadQ_lex hsel hs hc hn l (k + 1) _ _ (fun j hj => by have := hl (j + 1) (by simp; omega); simpa [Nat.add_assoc, Nat.add_comm 1 j] using this)
        (by simp only [List.length_cons] at hk; omega) (inv.set hr' hkn) hB' hK)

theorem wp_region_quiet_tail {id : Nat} {Q : Exit → Act → World → Prop} {a : Act} {w : World} {l : List Oper} (n : Nat) (hm : P.follows .mixedOrders = true) (hB : Region.lexTailB .any l.toArray n = true)
    (hC : C { w with drawn := w.drawn + 1 })
    (h : wpQuiet P l.toArray C (fun a' => ∀ w', C w' → wpList P l.toArray Q (l.drop n) a' w') (l.take n) a) : (Code.region id l.toArray true).wp P Q a w := by
  simp only [Region.lexTailB, Bool.and_eq_true, decide_eq_true_eq] at hB
  obtain ⟨⟨⟨⟨hsel, hn⟩, hs⟩, hc⟩, hlex⟩ := hB
  have hn' : n < l.length := by simpa using hn
  have htl : (l.take n).length = n := by simp; omega
  have hdl : (l.drop n).length = l.toArray.size - n := by simp
  have inv0 : HeadInv .any l.toArray n (Array.replicate l.toArray.size false) :=
    ⟨by simp, fun j oj _ hl => (by rw [getD_replicate_false] at hl; cases hl), fun t _ ht => getD_in (by simpa using ht) (getD_replicate_false _ _)⟩
  have H := wpHeadQ_lex (md := .any) (g := l.toArray.size - n) hsel hs hc hn (l.take n) 0 _ a (fun j hj => by
    have hj' : j < n := by rw [htl] at hj; exact hj
    simp [hj']) (by simpa using htl) inv0 (by rw [htl]; exact hlex) h
  refine wp_region_any hm ?_
  have := wpAny_of_headQ (Q' := Q) (g := l.toArray.size - n) (fun listed a' w' hw' hL => by
    have := wpAny_of_seq (md := .any) (Q' := Q) (l.drop n) n listed a' w' (fun j => by simp [List.getElem?_drop]) (by rw [hdl]; exact hL.1) (hL.2 w' hw')
    rwa [hdl] at this) _ _ _ _ hC H
  rw [htl, show n + (l.toArray.size - n) = l.toArray.size by omega] at this
  exact this
end

/-- A region whose operations read, reckon and call what only makes memory: one walk in the order of the text. -/
theorem wp_region_aft {P : Program} {id : Nat} {Q : Exit → Act → World → Prop} {a : Act} {w : World} {l : List Oper} (hm : P.follows .mixedOrders = true) (hB : Region.lexB .any l.toArray = true)
    (h : wpQuiet P l.toArray (fun w' => ∃ x : Aft w, w' = x.val) (fun a' => ∀ x : Aft w, Q .normal a' x.val) l a) : (Code.region id l.toArray true).wp P Q a w :=
  wp_region_quiet (C := fun w' => ∃ x : Aft w, w' = x.val) hm hB ⟨⟨_, (Below.refl _ _).drew⟩, rfl⟩ (by
    have e : (fun a' => ∀ w', (∃ x : Aft w, w' = x.val) → Q .normal a' w') = (fun a' => ∀ x : Aft w, Q .normal a' x.val) := by
      funext a'; exact propext ⟨fun h x => h _ ⟨x, rfl⟩, fun h _ ⟨x, hx⟩ => hx ▸ h x⟩
    rw [e]; simpa using h)

/-- The same with a tail of operations that come last in any order. -/
theorem wp_region_aft_tail {P : Program} {id : Nat} {Q : Exit → Act → World → Prop} {a : Act} {w : World} {l : List Oper} (n : Nat) (hm : P.follows .mixedOrders = true) (hB : Region.lexTailB .any l.toArray n = true)
    (h : wpQuiet P l.toArray (fun w' => ∃ x : Aft w, w' = x.val) (fun a' => ∀ x : Aft w, wpList P l.toArray Q (l.drop n) a' x.val) (l.take n) a) : (Code.region id l.toArray true).wp P Q a w :=
  wp_region_quiet_tail (C := fun w' => ∃ x : Aft w, w' = x.val) n hm hB ⟨⟨_, (Below.refl _ _).drew⟩, rfl⟩ (by
    have e : (fun a' => ∀ w', (∃ x : Aft w, w' = x.val) → wpList P l.toArray Q (l.drop n) a' w') = (fun a' => ∀ x : Aft w, wpList P l.toArray Q (l.drop n) a' x.val) := by
      funext a'; exact propext ⟨fun h x => h _ ⟨x, rfl⟩, fun h _ ⟨x, hx⟩ => hx ▸ h x⟩
    rw [e]; exact h)
end Go.Proofs.YtkdonapgonegkaaGreatDoor

set_option linter.unusedSimpArgs false
set_option linter.unusedVariables false
namespace Go.Proofs.YtkdonapgonegkaaGreatDoor
open Go.RowKit Go.ChangeShapes Go.WideShapes Go.ChangeAt

end Go.Proofs.YtkdonapgonegkaaGreatDoor

set_option linter.unusedSimpArgs false
set_option linter.unusedVariables false
namespace Go.Proofs.YtkdonapgonegkaaGreatDoor
open Go.RowKit

/-- What a quiet operation may do in the world w: yield v, the world as it was; or call what returns v and only makes memory. -/
def upQ (P : Program) (w : World) (v : Value) : Result Next → Prop
  | .ok (.value u) w' => w' = w ∧ u = v
  | .ok .skip w' => w' = w ∧ v = undef
  | .ok (.enter f args) w' => w' = w ∧ Calls P f args w (fun e w'' => e = .returned v ∧ ∃ y : Aft w, w'' = y.val)
  | _ => False

def Oper.qU (P : Program) (w0 : World) (o : Oper) (a : Act) (K : Act → Prop) : Prop :=
  ∃ v, (∀ w, (∃ x : Aft w0, w = x.val) → upQ P w v ((execOp a.eval o).run P w)) ∧ K (a.put o.dst v)

attribute [go_sem] upQ Oper.qU

theorem Calls.q0 {P : Program} {f : FuncId} {args : Array Value} {w : World} {v : Value}
    (h : Calls P f args w fun e w' => e = .returned v ∧ w = w') : Calls P f args w fun e w'' => e = .returned v ∧ ∃ y : Aft w, w'' = y.val :=
  h.mono fun _ _ ⟨he, hm⟩ => ⟨he, ⟨w, Below.refl _ _⟩, hm.symm⟩

section
variable {P : Program} {ops : Array Oper} {md : Region.Mode} {w0 : World} {al : Nat → Option Obj}

/-- What is known of a world, and which blocks are taken. -/
structure Known where
  of : World → Prop
  taken : Nat → Prop
  lim : ∃ b, ∀ n, taken n → n < b
theorem Known.fresh (C : Known) : ∃ g, ¬ C.taken g := by
  obtain ⟨b, hb⟩ := C.lim
  exact ⟨b, fun h => Nat.lt_irrefl _ (hb b h)⟩
def Known.none : Known := ⟨fun _ => True, fun _ => False, ⟨0, fun _ h => h.elim⟩⟩
def Known.more (C : Known) (w0 : World) (g : Nat) (ob : Obj) : Known := ⟨fun w => C.of w ∧ w0.heap.size ≤ g ∧ w.heap[g]? = some ob, fun n => n = g ∨ C.taken n, by
    obtain ⟨b, hb⟩ := C.lim
    refine ⟨max b (g + 1), fun n hn => ?_⟩
    rcases hn with h | h
    · omega
    · have := hb n h
      omega⟩
def Known.at (C : Known) (w : World) : Prop := C.of w ∧ ∀ n, C.taken n → n < w.heap.size
theorem wanted_none {o : Oper} {y : Nat → Option Bool} (h : o.guard = none) : Region.wanted o y = true := by simp [Region.wanted, h]

end

end Go.Proofs.YtkdonapgonegkaaGreatDoor

set_option linter.unusedSimpArgs false
set_option linter.unusedVariables false
namespace Go.Proofs.YtkdonapgonegkaaGreatDoor
open Go.RowKit

/-- The new blocks of a region: what each holds, and whether it has had its store. -/
structure Held where
  at' : Nat → Option (Obj × Bool)
  lim : ∃ b, ∀ n, (at' n).isSome = true → n < b
def Held.nil : Held := ⟨fun _ => none, 0, fun _ h => by simp at h⟩
def Held.put (C : Held) (g : Nat) (ob : Obj) (d : Bool) : Held := ⟨fun n => if n = g then some (ob, d) else C.at' n, by
    obtain ⟨b, hb⟩ := C.lim
    refine ⟨max b (g + 1), fun n hn => ?_⟩
    by_cases h : n = g
    · omega
    · simp only [h, if_false] at hn
      have := hb n hn
      omega⟩
theorem Held.at_self (C : Held) (g : Nat) (ob : Obj) (d : Bool) : (C.put g ob d).at' g = some (ob, d) := by simp [Held.put]
theorem Held.at_ne (C : Held) {g n : Nat} (ob : Obj) (d : Bool) (h : ¬ n = g) : (C.put g ob d).at' n = C.at' n := by simp [Held.put, h]
theorem Held.put_comm (C : Held) {g n : Nat} (h : ¬ n = g) (ob ob' : Obj) (d d' : Bool) : (C.put g ob d).put n ob' d' = (C.put n ob' d').put g ob d := by
  unfold Held.put
  simp only [Held.mk.injEq]
  funext m
  by_cases h1 : m = g
  · by_cases h2 : m = n
    · omega
    · simp [h1, h2]; intro h3; omega
  · by_cases h2 : m = n
    · simp [h1, h2]; intro h3; exact absurd h3 h
    · simp [h1, h2]
theorem Held.fresh (C : Held) : ∃ b, ∀ g, b ≤ g → C.at' g = none := by
  obtain ⟨b, hb⟩ := C.lim
  refine ⟨b, fun g hg => ?_⟩
  cases h : C.at' g with
  | none => rfl
  | some x => have := hb g (by simp [h]); omega
def Held.In (C : Held) (w0 w : World) : Prop := ∀ g ob d, C.at' g = some (ob, d) → w0.heap.size ≤ g ∧ w.heap[g]? = some ob
theorem lt_of_get {w : World} {g : Nat} {ob : Obj} (h : w.heap[g]? = some ob) : g < w.heap.size := (Array.getElem?_eq_some_iff.1 h).1

/-- Block g holds ob now; nothing else has turned. -/
structure Setted (w : World) (g : Nat) (ob : Obj) (w' : World) : Prop where
  os : w'.os = w.os
  tape : w'.tape = w.tape
  output : w'.output = w.output
  size : w'.heap.size = w.heap.size
  block : ∀ k, ¬ k = g → w'.heap[k]? = w.heap[k]?
  here : w'.heap[g]? = some ob
theorem Setted.start {w : World} {g : Nat} {ob : Obj} (h : w.heap[g]? = some ob) : Setted w g ob w := ⟨rfl, rfl, rfl, rfl, fun _ _ => rfl, h⟩
theorem Setted.step {w w1 : World} {g : Nat} {cs : Array Value} {T : TypeId} {fr : Nat × Nat} (h : Setted w g (.cells cs T fr) w1) (i : Nat) (u : Value) : Setted w g (.cells (cs.setIfInBounds i u) T fr) (w1.setCell ⟨g, i, none⟩ u) := by
  refine ⟨h.os, h.tape, h.output, by simpa using h.size, fun k hk => ?_, ?_⟩
  · rw [← h.block k hk]
    exact Below.heap_setCell _ _ _ _ (fun e => hk e)
  · have h1 := h.here
    simp [World.setCell, Array.getElem?_modify, h1]
theorem Setted.eq {w w' : World} {g : Nat} {ob ob' : Obj} (h : Setted w g ob w') (e : ob = ob') : Setted w g ob' w' := e ▸ h

def upPut (w : World) (g : Nat) (ob : Obj) : Result Next → Prop
  | .ok (.value _) w' => Setted w g ob w'
  | .ok .skip w' => Setted w g ob w'
  | _ => False
def wrote : Obj → Value → Obj
  | .cells _ T fr, v => .cells v.cells T fr
  | o, _ => o

inductive Kd where
  | quiet
  | new (ob : Obj)
  | put (ad vl : Operand)
  | late
def Kd.rank : Kd → Nat
  | .quiet => 0
  | .new _ => 1
  | .put _ _ => 2
  | .late => 3

section
variable {P : Program} {ops : Array Oper} {md : Region.Mode} {w0 : World} {kd : Nat → Kd}

def dOp (P : Program) (ops : Array Oper) (w0 : World) (kd : Nat → Kd) (i : Nat) (K : Act → Held → Prop) (a : Act) (C : Held) : Prop :=
  match ops[i]? with
  | none => K a C
  | some o => match kd i with
    | .quiet => if Region.wanted o (yielded ops a.tmps) then Oper.qU P w0 o a (fun a' => K a' C) else K (a.put o.dst undef) C
    | .new ob => ∀ g, C.at' g = none → K (a.put o.dst (.pointer (some ⟨g, 0, none⟩))) (C.put g ob false)
    | .put ad vl => ∃ g ob, a.eval ad = .pointer (some ⟨g, 0, none⟩) ∧ C.at' g = some (ob, false) ∧
        (∀ w, w.heap[g]? = some ob → upPut w g (wrote ob (a.eval vl)) ((execOp a.eval o).run P w)) ∧ K a (C.put g (wrote ob (a.eval vl)) true)
    | .late => ∃ u, (∀ w, (execOp a.eval o).run P w = .ok (.value u) w) ∧ K (a.put o.dst u) C

theorem dOp_mono {i : Nat} {a : Act} {C : Held} {K K' : Act → Held → Prop} (h : ∀ a C, K a C → K' a C) (hh : dOp P ops w0 kd i K a C) : dOp P ops w0 kd i K' a C := by
  unfold dOp at *
  split
  · rename_i ho; simp only [ho] at hh; exact h _ _ hh
  · rename_i o ho
    simp only [ho] at hh
    cases hk : kd i with
    | quiet =>
      simp only [hk] at hh ⊢
      split
      · rename_i hw; simp only [hw, if_true] at hh; obtain ⟨v, h1, h2⟩ := hh; exact ⟨v, h1, h _ _ h2⟩
      · rename_i hw; simp only [hw] at hh; exact h _ _ hh
    | new ob => simp only [hk] at hh ⊢; exact fun g hg => h _ _ (hh g hg)
    | put ad vl => simp only [hk] at hh ⊢; obtain ⟨g, ob, h1, h2, h3, h4⟩ := hh; exact ⟨g, ob, h1, h2, h3, h _ _ h4⟩
    | late => simp only [hk] at hh ⊢; obtain ⟨u, h1, h2⟩ := hh; exact ⟨u, h1, h _ _ h2⟩

theorem dOp_some {i : Nat} {a : Act} {C : Held} {K : Act → Held → Prop} (hh : dOp P ops w0 kd i K a C) : ∃ a' C', K a' C' := by
  unfold dOp at hh
  split at hh
  · exact ⟨_, _, hh⟩
  · split at hh
    · split at hh
      · obtain ⟨v, h1, h2⟩ := hh; exact ⟨_, _, h2⟩
      · exact ⟨_, _, hh⟩
    · obtain ⟨b, hb⟩ := C.fresh
      exact ⟨_, _, hh b (hb b (Nat.le_refl _))⟩
    · obtain ⟨g, ob, h1, h2, h3, h4⟩ := hh; exact ⟨_, _, h4⟩
    · obtain ⟨u, h1, h2⟩ := hh; exact ⟨_, _, h2⟩

/-- What is asked of the operations. -/
def fit1 (P : Program) (o : Oper) : Kd → Prop
  | .quiet => True
  | .new ob => o.guard = none ∧ ∀ (a : Act) w, (execOp a.eval o).run P w = .ok (.value (.pointer (some ⟨w.heap.size, 0, none⟩))) (w.alloc ob)
  | .put ad vl => (o.guard = none ∧ o.dst = none) ∧ ad ∈ o.op.operands.toList ∧ vl ∈ o.op.operands.toList
  | .late => o.guard = none
def Fits (P : Program) (ops : Array Oper) (kd : Nat → Kd) : Prop := ∀ i o, ops[i]? = some o → fit1 P o (kd i)

theorem eval_put' {o : Oper} {x : Operand} (hx : x ∈ o.op.operands.toList) (a : Act) (dst : Option Tmp) (v : Value) (h : ∀ d, dst = some d → d ∉ o.looksAt ops) : (a.put dst v).eval x = a.eval x :=
  Act.eval_put fun d hd hxd => h d hd (by
    subst hxd
    exact List.mem_append_left _ (List.mem_filterMap.2 ⟨.tmp d, hx, rfl⟩))

theorem dOp_comm (hF : Fits P ops kd) (hsel : ∀ (j : Nat) (o : Oper) cs b, ops[j]? = some o → o.op ≠ .select cs b) {i j : Nat} {oi oj : Oper} (hi : ops[i]? = some oi) (hj : ops[j]? = some oj) (hap : oi.apart ops oj = true)
    (hrk : (kd i).rank ≤ (kd j).rank) {K : Act → Held → Prop} {a : Act} {C : Held}
    (h : dOp P ops w0 kd i (fun a C => dOp P ops w0 kd j K a C) a C) : dOp P ops w0 kd j (fun a C => dOp P ops w0 kd i K a C) a C := by
  obtain ⟨p1, p2, p3⟩ := Oper.apart_spec hap
  have hFi := hF i oi hi
  have hFj := hF j oj hj
  have hsi := fun cs b => hsel i oi cs b hi
  have hsj := fun cs b => hsel j oj cs b hj
  have ei : ∀ (a : Act) u, execOp (a.put oj.dst u).eval oi = execOp a.eval oi := fun a u => execOp_put oi hsi a oj.dst u p3
  have ej : ∀ (a : Act) u, execOp (a.put oi.dst u).eval oj = execOp a.eval oj := fun a u => execOp_put oj hsj a oi.dst u p1
  have wi : ∀ (a : Act) u, Region.wanted oi (yielded ops (a.put oj.dst u).tmps) = Region.wanted oi (yielded ops a.tmps) := fun a u => wanted_put oi a oj.dst u p3
  have wj : ∀ (a : Act) u, Region.wanted oj (yielded ops (a.put oi.dst u).tmps) = Region.wanted oj (yielded ops a.tmps) := fun a u => wanted_put oj a oi.dst u p1
  have cm : ∀ (a : Act) u v, (a.put oi.dst u).put oj.dst v = (a.put oj.dst v).put oi.dst u := fun a u v => Act.put_comm a u v p2
  unfold dOp at h ⊢
  simp only [hi, hj] at h ⊢
  unfold Oper.qU at h ⊢
  cases hki : kd i with
  | quiet =>
    cases hkj : kd j with
    | quiet =>
      simp only [hki, hkj, ei, ej, wi, wj] at h ⊢
      by_cases h1 : Region.wanted oi (yielded ops a.tmps) = true <;> by_cases h2 : Region.wanted oj (yielded ops a.tmps) = true <;> simp only [h1, h2, if_true, if_false, Bool.false_eq_true] at h ⊢
      · obtain ⟨u, hu, v, hv, hk⟩ := h; exact ⟨v, hv, u, hu, by rw [← cm]; exact hk⟩
      · obtain ⟨u, hu, hk⟩ := h; exact ⟨u, hu, by rw [← cm]; exact hk⟩
      · obtain ⟨v, hv, hk⟩ := h; exact ⟨v, hv, by rw [← cm]; exact hk⟩
      · rw [← cm]; exact h
    | new ob =>
      simp only [hki, hkj, ei, ej, wi, wj] at h ⊢
      intro g hg
      by_cases h1 : Region.wanted oi (yielded ops a.tmps) = true <;> simp only [h1, if_true, if_false, Bool.false_eq_true] at h ⊢
      · obtain ⟨u, hu, hk⟩ := h; exact ⟨u, hu, by rw [← cm]; exact hk g hg⟩
      · rw [← cm]; exact h g hg
    | put ad vl =>
      simp only [hkj, fit1] at hFj
      obtain ⟨⟨f1, f2⟩, f3, f4⟩ := hFj
      have e3 := fun a u => eval_put' f3 a oi.dst u p1
      have e4 := fun a u => eval_put' f4 a oi.dst u p1
      simp only [hki, hkj, ei, ej, wi, wj, e3, e4] at h ⊢
      by_cases h1 : Region.wanted oi (yielded ops a.tmps) = true <;> simp only [h1, if_true, if_false, Bool.false_eq_true] at h ⊢
      · obtain ⟨u, hu, g, ob, k1, k2, k3, k4⟩ := h; exact ⟨g, ob, k1, k2, k3, u, hu, k4⟩
      · exact h
    | late =>
      simp only [hki, hkj, ei, ej, wi, wj] at h ⊢
      by_cases h1 : Region.wanted oi (yielded ops a.tmps) = true <;> simp only [h1, if_true, if_false, Bool.false_eq_true] at h ⊢
      · obtain ⟨u, hu, v, hv, hk⟩ := h; exact ⟨v, hv, u, hu, by rw [← cm]; exact hk⟩
      · obtain ⟨v, hv, hk⟩ := h; exact ⟨v, hv, by rw [← cm]; exact hk⟩
  | new ob =>
    cases hkj : kd j with
    | quiet => rw [hki, hkj] at hrk; simp [Kd.rank] at hrk
    | new ob' =>
      simp only [hki, hkj] at h ⊢
      intro g' hg' g hg
      have hne : ¬ g = g' := fun e => by subst e; rw [Held.at_self] at hg; cases hg
      rw [Held.at_ne _ _ _ hne] at hg
      have := h g hg g' (by rw [Held.at_ne _ _ _ (Ne.symm hne)]; exact hg')
      rw [← cm, Held.put_comm _ hne]
      exact this
    | put ad vl =>
      simp only [hkj, fit1] at hFj
      obtain ⟨⟨f1, f2⟩, f3, f4⟩ := hFj
      have e3 := fun a u => eval_put' f3 a oi.dst u p1
      have e4 := fun a u => eval_put' f4 a oi.dst u p1
      simp only [hki, hkj, ej, e3, e4] at h ⊢
      obtain ⟨b, hb⟩ := C.fresh
      have key : ∀ g, C.at' g = none → ∀ x, (∃ g1 ob1, a.eval ad = .pointer (some ⟨g1, 0, none⟩) ∧ (C.put g ob false).at' g1 = some (ob1, false) ∧ x = (g1, ob1)) → ¬ x.1 = g → C.at' x.1 = some (x.2, false) := by
        rintro g hg x ⟨g1, ob1, k1, k2, rfl⟩ hne
        rw [Held.at_ne _ _ _ hne] at k2
        exact k2
      obtain ⟨g1, ob1, k1, k2, _, _⟩ := h b (hb b (Nat.le_refl _))
      have hC : ∃ ob2, C.at' g1 = some (ob2, false) := by
        by_cases e : g1 = b
        · obtain ⟨g2, ob2, l1, l2, _, _⟩ := h (b + 1) (hb _ (by omega))
          rw [k1] at l1
          injection l1 with l1; injection l1 with l1; injection l1 with l1
          subst l1
          rw [Held.at_ne _ _ _ (by omega)] at l2
          exact ⟨_, l2⟩
        · rw [Held.at_ne _ _ _ e] at k2
          exact ⟨_, k2⟩
      obtain ⟨ob2, hC⟩ := hC
      have all : ∀ g, C.at' g = none → (∀ w, w.heap[g1]? = some ob2 → upPut w g1 (wrote ob2 (a.eval vl)) ((execOp a.eval oj).run P w)) ∧ K (a.put oi.dst (.pointer (some ⟨g, 0, none⟩))) ((C.put g ob false).put g1 (wrote ob2 (a.eval vl)) true) := by
        intro g hg
        obtain ⟨g2, ob3, l1, l2, l3, l4⟩ := h g hg
        rw [k1] at l1
        injection l1 with l1; injection l1 with l1; injection l1 with l1
        subst l1
        have hne : ¬ g1 = g := fun e => by subst e; rw [hC] at hg; cases hg
        rw [Held.at_ne _ _ _ hne, hC] at l2
        injection l2 with l2; injection l2 with l2
        subst l2
        exact ⟨l3, l4⟩
      refine ⟨g1, ob2, k1, hC, (all b (hb b (Nat.le_refl _))).1, fun g hg => ?_⟩
      have hne : ¬ g = g1 := fun e => by subst e; rw [Held.at_self] at hg; cases hg
      rw [Held.at_ne _ _ _ hne] at hg
      rw [Held.put_comm _ hne]
      exact (all g hg).2
    | late =>
      simp only [hki, hkj, ei, ej] at h ⊢
      obtain ⟨b, hb⟩ := C.fresh
      obtain ⟨u, hu, _⟩ := h b (hb b (Nat.le_refl _))
      refine ⟨u, hu, fun g hg => ?_⟩
      obtain ⟨u', hu', hk⟩ := h g hg
      have e := (hu w0).symm.trans (hu' w0)
      injection e with e; injection e with e
      subst e
      rw [← cm]; exact hk
  | late =>
    cases hkj : kd j with
    | quiet => rw [hki, hkj] at hrk; simp [Kd.rank] at hrk
    | new ob' => rw [hki, hkj] at hrk; simp [Kd.rank] at hrk
    | put ad vl => rw [hki, hkj] at hrk; simp [Kd.rank] at hrk
    | late =>
      simp only [hki, hkj, ei, ej] at h ⊢
      obtain ⟨u, hu, v, hv, hk⟩ := h; exact ⟨v, hv, u, hu, by rw [← cm]; exact hk⟩
  | put ad vl =>
    cases hkj : kd j with
    | quiet => rw [hki, hkj] at hrk; simp [Kd.rank] at hrk
    | new ob' => rw [hki, hkj] at hrk; simp [Kd.rank] at hrk
    | put ad' vl' =>
      simp only [hki, hkj] at h ⊢
      obtain ⟨g, ob, k1, k2, k3, g', ob', l1, l2, l3, l4⟩ := h
      have hne : ¬ g' = g := fun e => by subst e; rw [Held.at_self] at l2; cases l2
      rw [Held.at_ne _ _ _ hne] at l2
      refine ⟨g', ob', l1, l2, l3, g, ob, k1, by rw [Held.at_ne _ _ _ (Ne.symm hne)]; exact k2, k3, ?_⟩
      rw [Held.put_comm _ (Ne.symm hne)]
      exact l4
    | late =>
      simp only [hki, fit1] at hFi
      obtain ⟨⟨f1, f2⟩, f3, f4⟩ := hFi
      have e3 := fun a u => eval_put' f3 a oj.dst u p3
      have e4 := fun a u => eval_put' f4 a oj.dst u p3
      simp only [hki, hkj, ei, ej, e3, e4] at h ⊢
      obtain ⟨g, ob, k1, k2, k3, u, hu, hk⟩ := h
      exact ⟨u, hu, g, ob, k1, k2, k3, hk⟩

def wpHd (P : Program) (md : Region.Mode) (ops : Array Oper) (w0 : World) (kd : Nat → Kd) (L : Act → Held → Prop) : Nat → Array Bool → Act → Held → Prop
  | 0, listed, a, C => Region.ready md ops listed = [] ∧ L a C
  | f + 1, listed, a, C => Region.ready md ops listed ≠ [] ∧ ∀ i ∈ Region.ready md ops listed, dOp P ops w0 kd i (wpHd P md ops w0 kd L f (listed.setIfInBounds i true)) a C

theorem hd_first (hF : Fits P ops kd) (hsel : ∀ (j : Nat) (o : Oper) cs b, ops[j]? = some o → o.op ≠ .select cs b) {i : Nat} {oi : Oper} {L : Act → Held → Prop} (hi : ops[i]? = some oi) :
    ∀ (f : Nat) (listed : Array Bool) (a : Act) (C : Held),
      (∀ j oj, ops[j]? = some oj → j ≠ i → listed.getD j true = false → (∀ e ∈ oj.after, Region.binds md e = true → e.on ≠ i) → oi.apart ops oj = true) →
      (∀ j, listed.getD j true = false → (kd i).rank ≤ (kd j).rank) →
      i ∈ Region.ready md ops listed →
      dOp P ops w0 kd i (wpHd P md ops w0 kd L f (listed.setIfInBounds i true)) a C → wpHd P md ops w0 kd L (f + 1) listed a C := by
  intro f
  induction f with
  | zero =>
    intro listed a C _ _ hr H
    refine ⟨List.ne_nil_of_mem hr, fun j hj => ?_⟩
    by_cases hji : j = i
    · subst hji; exact H
    · have := ready_mono hj hji
      obtain ⟨_, _, h0, _⟩ := dOp_some H
      rw [h0] at this
      cases this
  | succ f ih =>
    intro listed a C hfree hrk hr H
    refine ⟨List.ne_nil_of_mem hr, fun j hj => ?_⟩
    by_cases hji : j = i
    · subst hji; exact H
    · have hun := (mem_ready.1 hr).1
      obtain ⟨hjun, oj, hoj, hall⟩ := mem_ready.1 hj
      have hnot : ∀ e ∈ oj.after, Region.binds md e = true → e.on ≠ i := fun e he hb heq => by
        have h3 := hall e he hb
        rw [heq, getD_both hun] at h3
        cases h3
      have h1 : dOp P ops w0 kd i (fun a C => dOp P ops w0 kd j (wpHd P md ops w0 kd L f ((listed.setIfInBounds i true).setIfInBounds j true)) a C) a C :=
        dOp_mono (fun a' C' h => h.2 j (ready_mono hj hji)) H
      have h2 := dOp_comm hF hsel hi hoj (hfree j oj hoj hji hjun hnot) (hrk j hjun) h1
      refine dOp_mono (fun a' C' h3 => ih (listed.setIfInBounds j true) a' C' (fun k ok hk hki hun' hno => hfree k ok hk hki ?_ hno) (fun k hk => hrk k ?_) (ready_mono hr (Ne.symm hji)) ?_) h2
      · by_cases hjk : j = k
        · subst hjk; exact hjun
        · rw [getD_set_ne true hjk] at hun'; exact hun'
      · by_cases hjk : j = k
        · subst hjk; exact hjun
        · rw [getD_set_ne true hjk] at hk; exact hk
      · rw [Array.setIfInBounds_comm _ _ hji]
        exact h3

/-- The order of one's choice is one of those that may be drawn, and its steps may be taken first. -/
def ordB (md : Region.Mode) (ops : Array Oper) (kd : Nat → Kd) : List Nat → Array Bool → Bool
  | [], listed => (Region.ready md ops listed).isEmpty
  | k :: r, listed => (Region.ready md ops listed).contains k && Region.free md ops listed k && ((List.range ops.size).all fun j => listed.getD j true || decide ((kd k).rank ≤ (kd j).rank)) && ordB md ops kd r (listed.setIfInBounds k true)

def wpOrd (P : Program) (ops : Array Oper) (w0 : World) (kd : Nat → Kd) (L : Act → Held → Prop) : List Nat → Act → Held → Prop
  | [], a, C => L a C
  | k :: r, a, C => dOp P ops w0 kd k (wpOrd P ops w0 kd L r) a C

theorem hd_ord (hF : Fits P ops kd) (hsel : Region.noSelect ops = true) {L : Act → Held → Prop} :
    ∀ (l : List Nat) (listed : Array Bool) (a : Act) (C : Held), listed.size = ops.size → ordB md ops kd l listed = true → wpOrd P ops w0 kd L l a C → wpHd P md ops w0 kd L l.length listed a C
  | [], listed, a, C, _, hB, h => ⟨by simpa [ordB] using hB, h⟩
  | k :: r, listed, a, C, hz, hB, h => by
    simp only [ordB, Bool.and_eq_true] at hB
    obtain ⟨⟨⟨hr, hf⟩, hk⟩, hB'⟩ := hB
    have hr' : k ∈ Region.ready md ops listed := by simpa using hr
    obtain ⟨_, o, ho, _⟩ := mem_ready.1 hr'
    refine hd_first hF (Region.noSelect_spec hsel) ho r.length listed a C (Region.free_spec ho hf) (fun j hj => ?_) hr' (dOp_mono (fun a' C' h' => hd_ord hF hsel r _ a' C' (by simpa using hz) hB' h') h)
    have hlt : j < ops.size := by
      rcases Nat.lt_or_ge j listed.size with h1 | h1
      · omega
      · simp [Array.getElem?_eq_none h1] at hj
    have := (List.all_eq_true.1 hk) j (List.mem_range.2 hlt)
    simp only [hj, Bool.false_or, decide_eq_true_eq] at this
    exact this

theorem wpOp_of_dOp (hF : Fits P ops kd) {i : Nat} {K : Act → Held → Prop} {a : Act} {C : Held} {K' : Act → World → Prop} {Q' : Exit → Act → World → Prop} {w : World}
    (hw : ∃ x : Aft w0, w = x.val) (hC : C.In w0 w)
    (hK : ∀ a' C' w', (∃ x : Aft w0, w' = x.val) → C'.In w0 w' → K a' C' → K' a' w') (hh : dOp P ops w0 kd i K a C) : wpOp P ops Q' i K' a w := by
  unfold dOp at hh
  unfold wpOp
  split
  · rename_i ho; simp only [ho] at hh; exact hK _ _ _ hw hC hh
  · rename_i o ho
    simp only [ho] at hh
    have hFi := hF i o ho
    cases hk : kd i with
    | new ob =>
      simp only [hk, fit1] at hh hFi
      obtain ⟨hg, hr⟩ := hFi
      rw [if_pos (wanted_none hg)]
      refine .inl ?_
      unfold Oper.wp
      rw [hr a w]
      simp only [Oper.upon]
      obtain ⟨x, rfl⟩ := hw
      have hnew : C.at' x.val.heap.size = none := by
        cases h : C.at' x.val.heap.size with
        | none => rfl
        | some y => have := lt_of_get (hC _ y.1 y.2 h).2; omega
      refine hK _ _ _ ⟨⟨_, x.pf.alloc x.pf.size _⟩, rfl⟩ (fun g ob' d h => ?_) (hh _ hnew)
      by_cases e : g = x.val.heap.size
      · subst e
        rw [Held.at_self] at h
        injection h with h; injection h with h1 h2
        subst h1
        exact ⟨x.pf.size, heap_alloc_new _ _⟩
      · rw [Held.at_ne _ _ _ e] at h
        obtain ⟨c1, c2⟩ := hC g ob' d h
        exact ⟨c1, by rw [Below.heap_alloc _ _ _ (lt_of_get c2)]; exact c2⟩
    | put ad vl =>
      simp only [hk, fit1] at hh hFi
      obtain ⟨⟨hg, hd⟩, _, _⟩ := hFi
      rw [if_pos (wanted_none hg)]
      refine .inl ?_
      obtain ⟨g, ob, k1, k2, k3, k4⟩ := hh
      obtain ⟨c1, c2⟩ := hC g ob false k2
      have h3 := k3 w c2
      have fin : ∀ w', Setted w g (wrote ob (a.eval vl)) w' → K' a w' := fun w' hs => by
        obtain ⟨x, rfl⟩ := hw
        refine hK _ _ _ ⟨⟨w', ⟨hs.os.trans x.pf.os, hs.tape.trans x.pf.tape, hs.output.trans x.pf.output, by rw [hs.size]; exact x.pf.size, fun k hk => ?_⟩⟩, rfl⟩ (fun g' ob' d h => ?_) k4
        · rw [hs.block k (by omega)]; exact x.pf.block k hk
        · by_cases e : g' = g
          · subst e
            rw [Held.at_self] at h
            injection h with h; injection h with h1 h2
            subst h1
            exact ⟨c1, hs.here⟩
          · rw [Held.at_ne _ _ _ e] at h
            obtain ⟨d1, d2⟩ := hC g' ob' d h
            exact ⟨d1, by rw [hs.block _ e]; exact d2⟩
      unfold Oper.wp
      generalize (execOp a.eval o).run P w = r at *
      cases r with
      | ok n w' =>
        cases n <;> simp only [upPut] at h3 <;> simp only [Oper.upon, hd, Act.put] <;> exact fin _ h3
      | halt x w' => simp only [upPut] at h3
    | late =>
      simp only [hk, fit1] at hh hFi
      rw [if_pos (wanted_none hFi)]
      refine .inl ?_
      obtain ⟨u, h1, h2⟩ := hh
      unfold Oper.wp
      rw [h1 w]
      simp only [Oper.upon]
      exact hK _ _ _ hw hC h2
    | quiet =>
      simp only [hk] at hh
      split
      · rename_i hwd
        simp only [hwd, if_true] at hh
        obtain ⟨v, h1, h2⟩ := hh
        refine .inl ?_
        have h3 := h1 w hw
        unfold Oper.wp
        generalize (execOp a.eval o).run P w = r at *
        cases r with
        | ok n w' =>
          cases n <;> simp only [upQ] at h3 <;> simp only [Oper.upon]
          case value u =>
            obtain ⟨e1, e2⟩ := h3
            rw [e1, e2]
            exact hK _ _ _ hw hC h2
          case skip =>
            obtain ⟨e1, e2⟩ := h3
            rw [e1, ← e2]
            exact hK _ _ _ hw hC h2
          case enter f args =>
            obtain ⟨e1, hc⟩ := h3
            rw [e1]
            refine hc.mono fun e w'' ⟨he, y, hy⟩ => ?_
            subst he; subst hy
            obtain ⟨x, rfl⟩ := hw
            refine hK _ _ _ ⟨⟨_, y.below x.pf x.pf.size⟩, rfl⟩ (fun g ob d h => ?_) h2
            obtain ⟨c1, c2⟩ := hC g ob d h
            exact ⟨c1, by rw [y.pf.block _ (lt_of_get c2)]; exact c2⟩
        | halt x w' => simp only [upQ] at h3
      · rename_i hwd
        simp only [hwd] at hh
        exact hK _ _ _ hw hC hh

theorem wpAny_of_hd (hF : Fits P ops kd) {L : Act → Held → Prop} {Q' : Exit → Act → World → Prop}
    (hL : ∀ a C w, (∃ x : Aft w0, w = x.val) → C.In w0 w → L a C → Q' .normal a w) :
    ∀ (f : Nat) (listed : Array Bool) (a : Act) (C : Held) (w : World), (∃ x : Aft w0, w = x.val) → C.In w0 w → wpHd P md ops w0 kd L f listed a C → wpAny P md ops Q' f listed a w
  | 0, listed, a, C, w, hw, hC, h => ⟨h.1, hL _ _ _ hw hC h.2⟩
  | f + 1, listed, a, C, w, hw, hC, h =>
    ⟨fun h0 => absurd h0 h.1, fun i hi => wpOp_of_dOp hF hw hC (fun a' C' w' hw' hC' h' => wpAny_of_hd hF hL f _ a' C' w' hw' hC' h') (h.2 i hi)⟩

/-- The operations of one kind, from number k on. -/
def idx (r : Nat) : Nat → List Kd → List Nat
  | _, [] => []
  | k, d :: ks => if d.rank = r then k :: idx r (k + 1) ks else idx r (k + 1) ks
def FitsL (P : Program) : List Oper → List Kd → Prop
  | o :: l, d :: ks => fit1 P o d ∧ FitsL P l ks
  | _, _ => True
theorem FitsL.fits : ∀ {l : List Oper} {ks : List Kd}, FitsL P l ks → l.length = ks.length → ∀ i o, l[i]? = some o → fit1 P o (ks.getD i .quiet)
  | [], [], _, _, i, o, h => by simp at h
  | o :: l, d :: ks, h, hl, 0, o', ho => by simp at ho; subst ho; simpa using h.1
  | o :: l, d :: ks, h, hl, i + 1, o', ho => by
    simp only [List.getElem?_cons_succ] at ho
    simpa using FitsL.fits h.2 (by simpa using hl) i o' ho
  | [], d :: ks, _, hl, _, _, _ => by simp at hl
  | o :: l, [], _, hl, _, _, _ => by simp at hl

/-- The walk of the quiet operations, in the order of the text; of the new variables; of the stores. -/
def wpQ (P : Program) (ops : Array Oper) (w0 : World) (Q : Act → Held → Prop) : List Oper → List Kd → Act → Held → Prop
  | o :: l, d :: ks, a, C => match d with
    | .quiet => if Region.wanted o (yielded ops a.tmps) then Oper.qU P w0 o a (fun a' => wpQ P ops w0 Q l ks a' C) else wpQ P ops w0 Q l ks (a.put o.dst undef) C
    | _ => wpQ P ops w0 Q l ks a C
  | _, _, a, C => Q a C
def wpN (Q : Act → Held → Prop) : List Oper → List Kd → Act → Held → Prop
  | o :: l, d :: ks, a, C => match d with
    | .new ob => ∀ g, C.at' g = none → wpN Q l ks (a.put o.dst (.pointer (some ⟨g, 0, none⟩))) (C.put g ob false)
    | _ => wpN Q l ks a C
  | _, _, a, C => Q a C
def wpP (P : Program) (Q : Act → Held → Prop) : List Oper → List Kd → Act → Held → Prop
  | o :: l, d :: ks, a, C => match d with
    | .put ad vl => ∃ g ob, a.eval ad = .pointer (some ⟨g, 0, none⟩) ∧ C.at' g = some (ob, false) ∧
        (∀ w, w.heap[g]? = some ob → upPut w g (wrote ob (a.eval vl)) ((execOp a.eval o).run P w)) ∧ wpP P Q l ks a (C.put g (wrote ob (a.eval vl)) true)
    | _ => wpP P Q l ks a C
  | _, _, a, C => Q a C
def wpL (P : Program) (Q : Act → Held → Prop) : List Oper → List Kd → Act → Held → Prop
  | o :: l, d :: ks, a, C => match d with
    | .late => ∃ u, (∀ w, (execOp a.eval o).run P w = .ok (.value u) w) ∧ wpL P Q l ks (a.put o.dst u) C
    | _ => wpL P Q l ks a C
  | _, _, a, C => Q a C

theorem ord_q {Q L : Act → Held → Prop} {rest : List Nat} (hQ : ∀ a C, Q a C → wpOrd P ops w0 kd L rest a C) : ∀ (l : List Oper) (ks : List Kd) (k : Nat) (a : Act) (C : Held),
    l.length = ks.length → (∀ j, j < l.length → l[j]? = ops[k + j]?) → (∀ j d, ks[j]? = some d → kd (k + j) = d) → wpQ P ops w0 Q l ks a C → wpOrd P ops w0 kd L (idx 0 k ks ++ rest) a C
  | [], [], k, a, C, _, _, _, h => by simpa [idx] using hQ _ _ h
  | o :: l, d :: ks, k, a, C, hl, ho, hd, h => by
    have h0 : ops[k]? = some o := by simpa using (ho 0 (by simp)).symm
    have d0 : kd k = d := by simpa using hd 0 d (by simp)
    have ih := fun a C => ord_q hQ l ks (k + 1) a C (by simpa using hl) (fun j hj => by have := ho (j + 1) (by simp; omega); simpa [Nat.add_assoc, Nat.add_comm 1 j] using this)
      (fun j d' hj => by have := hd (j + 1) d' (by simpa using hj); simpa [Nat.add_assoc, Nat.add_comm 1 j] using this)
    cases d with
    | quiet =>
      simp only [idx, Kd.rank, if_true, List.cons_append, wpOrd, dOp, h0, d0]
      simp only [wpQ] at h
      split
      · rename_i hw; simp only [hw, if_true] at h; obtain ⟨v, h1, h2⟩ := h; exact ⟨v, h1, ih _ _ h2⟩
      · rename_i hw; simp only [hw] at h; exact ih _ _ h
    | new ob => simp only [wpQ] at h; simpa [idx, Kd.rank] using ih _ _ h
    | put ad vl => simp only [wpQ] at h; simpa [idx, Kd.rank] using ih _ _ h
    | late => simp only [wpQ] at h; simpa [idx, Kd.rank] using ih _ _ h
  | [], _ :: _, _, _, _, hl, _, _, _ => by simp at hl
  | _ :: _, [], _, _, _, hl, _, _, _ => by simp at hl
theorem ord_n {Q L : Act → Held → Prop} {rest : List Nat} (hQ : ∀ a C, Q a C → wpOrd P ops w0 kd L rest a C) : ∀ (l : List Oper) (ks : List Kd) (k : Nat) (a : Act) (C : Held),
    l.length = ks.length → (∀ j, j < l.length → l[j]? = ops[k + j]?) → (∀ j d, ks[j]? = some d → kd (k + j) = d) → wpN Q l ks a C → wpOrd P ops w0 kd L (idx 1 k ks ++ rest) a C
  | [], [], k, a, C, _, _, _, h => by simpa [idx] using hQ _ _ h
  | o :: l, d :: ks, k, a, C, hl, ho, hd, h => by
    have h0 : ops[k]? = some o := by simpa using (ho 0 (by simp)).symm
    have d0 : kd k = d := by simpa using hd 0 d (by simp)
    have ih := fun a C => ord_n hQ l ks (k + 1) a C (by simpa using hl) (fun j hj => by have := ho (j + 1) (by simp; omega); simpa [Nat.add_assoc, Nat.add_comm 1 j] using this)
      (fun j d' hj => by have := hd (j + 1) d' (by simpa using hj); simpa [Nat.add_assoc, Nat.add_comm 1 j] using this)
    cases d with
    | quiet => simp only [wpN] at h; simpa [idx, Kd.rank] using ih _ _ h
    | new ob =>
      simp only [idx, Kd.rank, if_true, List.cons_append, wpOrd, dOp, h0, d0]
      simp only [wpN] at h
      exact fun g hg => ih _ _ (h g hg)
    | put ad vl => simp only [wpN] at h; simpa [idx, Kd.rank] using ih _ _ h
    | late => simp only [wpN] at h; simpa [idx, Kd.rank] using ih _ _ h
  | [], _ :: _, _, _, _, hl, _, _, _ => by simp at hl
  | _ :: _, [], _, _, _, hl, _, _, _ => by simp at hl
theorem ord_p {Q L : Act → Held → Prop} {rest : List Nat} (hQ : ∀ a C, Q a C → wpOrd P ops w0 kd L rest a C) : ∀ (l : List Oper) (ks : List Kd) (k : Nat) (a : Act) (C : Held),
    l.length = ks.length → (∀ j, j < l.length → l[j]? = ops[k + j]?) → (∀ j d, ks[j]? = some d → kd (k + j) = d) → wpP P Q l ks a C → wpOrd P ops w0 kd L (idx 2 k ks ++ rest) a C
  | [], [], k, a, C, _, _, _, h => by simpa [idx] using hQ _ _ h
  | o :: l, d :: ks, k, a, C, hl, ho, hd, h => by
    have h0 : ops[k]? = some o := by simpa using (ho 0 (by simp)).symm
    have d0 : kd k = d := by simpa using hd 0 d (by simp)
    have ih := fun a C => ord_p hQ l ks (k + 1) a C (by simpa using hl) (fun j hj => by have := ho (j + 1) (by simp; omega); simpa [Nat.add_assoc, Nat.add_comm 1 j] using this)
      (fun j d' hj => by have := hd (j + 1) d' (by simpa using hj); simpa [Nat.add_assoc, Nat.add_comm 1 j] using this)
    cases d with
    | quiet => simp only [wpP] at h; simpa [idx, Kd.rank] using ih _ _ h
    | new ob => simp only [wpP] at h; simpa [idx, Kd.rank] using ih _ _ h
    | put ad vl =>
      simp only [idx, Kd.rank, if_true, List.cons_append, wpOrd, dOp, h0, d0]
      simp only [wpP] at h
      obtain ⟨g, ob, h1, h2, h3, h4⟩ := h
      exact ⟨g, ob, h1, h2, h3, ih _ _ h4⟩
    | late => simp only [wpP] at h; simpa [idx, Kd.rank] using ih _ _ h
  | [], _ :: _, _, _, _, hl, _, _, _ => by simp at hl
  | _ :: _, [], _, _, _, hl, _, _, _ => by simp at hl

theorem ord_l {Q L : Act → Held → Prop} {rest : List Nat} (hQ : ∀ a C, Q a C → wpOrd P ops w0 kd L rest a C) : ∀ (l : List Oper) (ks : List Kd) (k : Nat) (a : Act) (C : Held),
    l.length = ks.length → (∀ j, j < l.length → l[j]? = ops[k + j]?) → (∀ j d, ks[j]? = some d → kd (k + j) = d) → wpL P Q l ks a C → wpOrd P ops w0 kd L (idx 3 k ks ++ rest) a C
  | [], [], k, a, C, _, _, _, h => by simpa [idx] using hQ _ _ h
  | o :: l, d :: ks, k, a, C, hl, ho, hd, h => by
    have h0 : ops[k]? = some o := by simpa using (ho 0 (by simp)).symm
    have d0 : kd k = d := by simpa using hd 0 d (by simp)
    have ih := fun a C => ord_l hQ l ks (k + 1) a C (by simpa using hl) (fun j hj => by have := ho (j + 1) (by simp; omega); simpa [Nat.add_assoc, Nat.add_comm 1 j] using this)
      (fun j d' hj => by have := hd (j + 1) d' (by simpa using hj); simpa [Nat.add_assoc, Nat.add_comm 1 j] using this)
    cases d with
    | quiet => simp only [wpL] at h; simpa [idx, Kd.rank] using ih _ _ h
    | new ob => simp only [wpL] at h; simpa [idx, Kd.rank] using ih _ _ h
    | put ad vl => simp only [wpL] at h; simpa [idx, Kd.rank] using ih _ _ h
    | late =>
      simp only [idx, Kd.rank, if_true, List.cons_append, wpOrd, dOp, h0, d0]
      simp only [wpL] at h
      obtain ⟨u, h1, h2⟩ := h
      exact ⟨u, h1, ih _ _ h2⟩
  | [], _ :: _, _, _, _, hl, _, _, _ => by simp at hl
  | _ :: _, [], _, _, _, hl, _, _, _ => by simp at hl

theorem wpQ_step {Q : Act → Held → Prop} {o : Oper} {l : List Oper} {ks : List Kd} {a : Act} {C : Held}
    (h : ∀ K : Act → Prop, (∀ a, wpQ P ops w0 Q l ks a C → K a) → if Region.wanted o (yielded ops a.tmps) then Oper.qU P w0 o a K else K (a.put o.dst undef)) : wpQ P ops w0 Q (o :: l) (.quiet :: ks) a C :=
  h (fun a' => wpQ P ops w0 Q l ks a' C) fun _ h => h
theorem wpQ_new {Q : Act → Held → Prop} {o : Oper} {l : List Oper} {ks : List Kd} {a : Act} {C : Held} {ob : Obj} (h : wpQ P ops w0 Q l ks a C) : wpQ P ops w0 Q (o :: l) (.new ob :: ks) a C := h
theorem wpQ_put {Q : Act → Held → Prop} {o : Oper} {l : List Oper} {ks : List Kd} {a : Act} {C : Held} {ad vl : Operand} (h : wpQ P ops w0 Q l ks a C) : wpQ P ops w0 Q (o :: l) (.put ad vl :: ks) a C := h
theorem wpQ_late {Q : Act → Held → Prop} {o : Oper} {l : List Oper} {ks : List Kd} {a : Act} {C : Held} (h : wpQ P ops w0 Q l ks a C) : wpQ P ops w0 Q (o :: l) (.late :: ks) a C := h
theorem wpL_skip {Q : Act → Held → Prop} {o : Oper} {l : List Oper} {ks : List Kd} {d : Kd} {a : Act} {C : Held} (hd : d.rank < 3) (h : wpL P Q l ks a C) : wpL P Q (o :: l) (d :: ks) a C := by
  cases d <;> first | exact h | simp [Kd.rank] at hd
theorem wpL_nil {Q : Act → Held → Prop} {a : Act} {C : Held} (h : Q a C) : wpL P Q [] [] a C := h
theorem wpQ_nil {Q : Act → Held → Prop} {a : Act} {C : Held} (h : Q a C) : wpQ P ops w0 Q [] [] a C := h

/-- A region that draws its order: quiet operations, new variables, stores into these, walked in this order. -/
theorem wp_region_kd {id : Nat} {Q : Exit → Act → World → Prop} {a : Act} {w : World} {l : List Oper} (kds : List Kd) (hm : P.follows .mixedOrders = true) (hn : Region.noSelect l.toArray = true)
    (hz : (idx 0 0 kds ++ (idx 1 0 kds ++ (idx 2 0 kds ++ (idx 3 0 kds ++ [])))).length = l.toArray.size) (hlen : l.length = kds.length)
    (hB : ordB .any l.toArray (fun i => kds.getD i .quiet) (idx 0 0 kds ++ (idx 1 0 kds ++ (idx 2 0 kds ++ (idx 3 0 kds ++ [])))) (Array.replicate l.toArray.size false) = true) (hF : FitsL P l kds)
    (h : wpQ P l.toArray w (wpN (wpP P (wpL P (fun a' C => ∀ x : Aft w, C.In w x.val → Q .normal a' x.val) l kds) l kds) l kds) l kds a Held.nil) :
    (Code.region id l.toArray true).wp P Q a w := by
  refine wp_region_any hm ?_
  have hF' : Fits P l.toArray (fun i => kds.getD i .quiet) := fun i o ho => hF.fits hlen i o (by simpa using ho)
  have e1 : ∀ j, j < l.length → l[j]? = l.toArray[0 + j]? := fun j _ => by simp
  have e2 : ∀ (j : Nat) (d : Kd), kds[j]? = some d → kds.getD (0 + j) .quiet = d := fun j d hd => by rw [Nat.zero_add, List.getD_eq_getElem?_getD, hd]; rfl
  have ho := ord_q (P := P) (ops := l.toArray) (w0 := w) (kd := fun i => kds.getD i .quiet) (L := fun a' C => ∀ x : Aft w, C.In w x.val → Q .normal a' x.val)
    (fun a C h1 => ord_n (fun a C h2 => ord_p (fun a C h3 => ord_l (rest := []) (Q := fun a' C => ∀ x : Aft w, C.In w x.val → Q .normal a' x.val) (fun a C h4 => h4) l kds 0 a C hlen e1 e2 h3) l kds 0 a C hlen e1 e2 h2) l kds 0 a C hlen e1 e2 h1) l kds 0 a Held.nil hlen e1 e2 h
  have H := hd_ord (md := .any) hF' hn _ (Array.replicate l.toArray.size false) a Held.nil (by simp) hB ho
  rw [hz] at H
  exact wpAny_of_hd hF' (fun a' C w' hw' hC hL => by obtain ⟨x, rfl⟩ := hw'; exact hL x hC) _ _ _ _ _ ⟨⟨_, (Below.refl _ _).drew⟩, rfl⟩ (fun g ob d h => by simp [Held.nil] at h) H
end
end Go.Proofs.YtkdonapgonegkaaGreatDoor

set_option linter.unusedSimpArgs false
set_option linter.unusedVariables false
namespace Go.Proofs.YtkdonapgonegkaaGreatDoor
open Go.RowKit

inductive Ke where
  | quiet
  | new
  | put (ad vl : Operand)
  | late
def Ke.rank : Ke → Nat
  | .quiet => 0
  | .new => 1
  | .put _ _ => 2
  | .late => 3

section
variable {P : Program} {ops : Array Oper} {md : Region.Mode} {w0 : World} {kd : Nat → Ke}

/-- What is asked of the operations. -/
def fit2 (P : Program) (o : Oper) : Ke → Prop
  | .quiet => True
  | .new => o.guard = none
  | .put ad vl => (o.guard = none ∧ o.dst = none) ∧ ad ∈ o.op.operands.toList ∧ vl ∈ o.op.operands.toList
  | .late => o.guard = none
/-- The operations from n on come last, one after the other (or there are none). -/
def Last (md : Region.Mode) (ops : Array Oper) (n : Nat) : Prop := n = ops.size ∨ n < ops.size ∧ Region.sinkB md ops n = true ∧ Region.chainB md ops n = true
theorem Last.lt {n : Nat} (hl : Last md ops n) {listed : Array Bool} (inv : HeadInv md ops n listed) {i j : Nat} (hi : i < n) (hun : listed.getD i true = false) (hj : j ∈ Region.ready md ops listed) : j < n := by
  rcases hl with rfl | ⟨hn, hs, hc⟩
  · obtain ⟨_, oj, hoj, _⟩ := mem_ready.1 hj
    exact (Array.getElem?_eq_some_iff.1 hoj).1
  · exact Nat.lt_of_not_le fun h => tail_waits hs hc hn inv _ i rfl hi hun j h hj

def FitzL (P : Program) : List Oper → List Ke → Prop
  | o :: l, d :: ks => fit2 P o d ∧ FitzL P l ks
  | _, _ => True
theorem FitzL.fits : ∀ {l : List Oper} {ks : List Ke}, FitzL P l ks → l.length = ks.length → ∀ i o, l[i]? = some o → fit2 P o (ks.getD i .quiet)
  | [], [], _, _, i, o, h => by simp at h
  | o :: l, d :: ks, h, hl, 0, o', ho => by simp at ho; subst ho; simpa using h.1
  | o :: l, d :: ks, h, hl, i + 1, o', ho => by
    simp only [List.getElem?_cons_succ] at ho
    simpa using FitzL.fits h.2 (by simpa using hl) i o' ho
  | [], d :: ks, _, hl, _, _, _ => by simp at hl
  | o :: l, [], _, hl, _, _, _ => by simp at hl

end
theorem cell_one {w : World} {g : Nat} {v : Value} {T : TypeId} (h : w.heap[g]? = some (.cells #[v] T)) : ∀ j u, [v][j]? = some u → w.cell? ((⟨g, 0, none⟩ : Addr).add j) = some u := by
  intro j u hj
  match j, hj with
  | 0, hj =>
    simp at hj
    subst hj
    simp [Addr.add, World.cell?, h]
end Go.Proofs.YtkdonapgonegkaaGreatDoor

set_option linter.unusedSimpArgs false
set_option linter.unusedVariables false
namespace Go.Proofs.YtkdonapgonegkaaGreatDoor

theorem and_mask (n : Int) (k : Nat) (hk : k ≤ 62) : bits .and .i64 n (2 ^ k - 1) = n % 2 ^ k := by
  have h0 : (2 : Nat) ^ k ≤ 2 ^ 62 := Nat.pow_le_pow_right (by decide) hk
  have h1 : 0 < (2 : Nat) ^ k := Nat.pow_pos (by decide)
  have e0 : ((2 : Int) ^ k - 1) = ((2 ^ k - 1 : Nat) : Int) := by
    rw [Int.natCast_sub h1]; simp
  have hm : (BitVec.ofInt 64 (2 ^ k - 1)).toNat = 2 ^ k - 1 := by
    rw [e0, ofInt_u64 _ (by omega)]
  have key : (BitVec.ofInt 64 n &&& BitVec.ofInt 64 (2 ^ k - 1)).toNat = (n % ((2 ^ 64 : Nat) : Int)).toNat % 2 ^ k := by
    rw [BitVec.toNat_and, BitVec.toNat_ofInt, hm, Nat.and_two_pow_sub_one_eq_mod]
  show IntKind.i64.wrap ((BitVec.ofInt 64 n &&& BitVec.ofInt 64 (2 ^ k - 1)).toNat : Nat) = n % 2 ^ k
  rw [key, IntKind.wrap_i64]
  have hd : ((2 ^ k : Nat) : Int) ∣ ((2 ^ 64 : Nat) : Int) := Int.natCast_dvd_natCast.2 (Nat.pow_dvd_pow 2 (by omega))
  have hn0 : 0 ≤ n % ((2 ^ 64 : Nat) : Int) := Int.emod_nonneg _ (by decide)
  have h2 : (((n % ((2 ^ 64 : Nat) : Int)).toNat % 2 ^ k : Nat) : Int) = n % 2 ^ k := by
    rw [Int.natCast_emod, Int.toNat_of_nonneg hn0, Int.emod_emod_of_dvd _ hd]; simp
  rw [h2]
  have h3 : (0 : Int) < 2 ^ k := by exact_mod_cast h1
  have h4 : (2 : Int) ^ k ≤ 2 ^ 62 := by exact_mod_cast h0
  have h5 := Int.emod_nonneg n (Int.ne_of_gt h3)
  have h6 := Int.emod_lt_of_pos n h3
  generalize n % 2 ^ k = m at *
  generalize (2 : Int) ^ k = q at *
  omega

theorem or_nat (a b : Nat) (ha : a < 2 ^ 62) (hb : b < 2 ^ 62) : bits .or .i64 (a : Int) (b : Int) = ((a ||| b : Nat) : Int) := by
  show IntKind.i64.wrap ((BitVec.ofInt 64 (a : Int) ||| BitVec.ofInt 64 (b : Int)).toNat : Nat) = _
  rw [BitVec.toNat_or, ofInt_u64 a (by omega), ofInt_u64 b (by omega), IntKind.wrap_i64]
  have := Nat.or_lt_two_pow ha hb
  omega
theorem xor_nat (a b : Nat) (ha : a < 2 ^ 62) (hb : b < 2 ^ 62) : bits .xor .i64 (a : Int) (b : Int) = ((a ^^^ b : Nat) : Int) := by
  show IntKind.i64.wrap ((BitVec.ofInt 64 (a : Int) ^^^ BitVec.ofInt 64 (b : Int)).toNat : Nat) = _
  rw [BitVec.toNat_xor, ofInt_u64 a (by omega), ofInt_u64 b (by omega), IntKind.wrap_i64]
  have := Nat.xor_lt_two_pow ha hb
  omega
theorem and_nat (a b : Nat) (ha : a < 2 ^ 62) (hb : b < 2 ^ 62) : bits .and .i64 (a : Int) (b : Int) = ((a &&& b : Nat) : Int) := by
  show IntKind.i64.wrap ((BitVec.ofInt 64 (a : Int) &&& BitVec.ofInt 64 (b : Int)).toNat : Nat) = _
  rw [BitVec.toNat_and, ofInt_u64 a (by omega), ofInt_u64 b (by omega), IntKind.wrap_i64]
  have := Nat.and_lt_two_pow a hb
  omega

/-- 2 to the power n. -/
def pw (n : Int) : Int := 2 ^ n.toNat
theorem pw_bd {n : Int} (h1 : 0 ≤ n) (h2 : n ≤ 16) : 1 ≤ pw n ∧ pw n ≤ 65536 := by
  obtain ⟨k, rfl⟩ := Int.eq_ofNat_of_zero_le h1
  have hk : k ≤ 16 := by omega
  have : ∀ k : Nat, k ≤ 16 → 1 ≤ pw k ∧ pw k ≤ 65536 := by decide
  exact this k hk
theorem pw_le {n : Int} (h1 : 0 ≤ n) (h2 : n ≤ 61) : 1 ≤ pw n ∧ pw n ≤ 2305843009213693952 := by
  obtain ⟨k, rfl⟩ := Int.eq_ofNat_of_zero_le h1
  have hk : k ≤ 61 := by omega
  have : ∀ k : Nat, k ≤ 61 → 1 ≤ pw k ∧ pw k ≤ 2305843009213693952 := by decide
  exact this k hk
theorem pw_pos (n : Int) : 0 < pw n := by unfold pw; exact Int.pow_pos (by decide)
end Go.Proofs.YtkdonapgonegkaaGreatDoor

set_option linter.unusedSimpArgs false
set_option linter.unusedVariables false
namespace Go.Proofs.YtkdonapgonegkaaGreatDoor
open Go.RowKit Go.BigFrame

def eIf (b : Bool) (e : Int) : Int := if b then e else 0
def fl (b : Bool) : Int := if b then 1 else 0
def isW (n : Int) : Bool := decide (1 ≤ n) && decide (n ≤ 16)
def firstE : List Int → Int
  | [] => 0
  | e :: r => if e = 0 then firstE r else e
theorem isW_iff {n : Int} : isW n = true ↔ 1 ≤ n ∧ n ≤ 16 := by simp [isW]
theorem firstE_drop (es : List Int) (k : Nat) (h : k < es.length) (h0 : es.getD k 0 = 0) : firstE (es.drop k) = firstE (es.drop (k + 1)) := by
  rw [List.drop_eq_getElem_cons h, firstE, if_pos (by simpa [h] using h0)]
theorem firstE_at (es : List Int) (k : Nat) (h : k < es.length) (h0 : es.getD k 0 ≠ 0) : firstE (es.drop k) = es.getD k 0 := by
  rw [List.drop_eq_getElem_cons h, firstE, if_neg (by simpa [h] using h0)]; simp [h]

def win (n lo hi : Int) : Bool := decide (lo ≤ n) && decide (n ≤ hi)
theorem firstE_cons (e : Int) (l : List Int) : firstE (e :: l) = if e = 0 then firstE l else e := rfl
theorem firstE_one (e : Int) : firstE [e] = e := by simp [firstE]; intro h; exact h.symm

/-- A node: its operation, its width, its arguments, its number. -/
structure Nd where
  op : Int
  wd : Int
  args : List Int
  v : Int
def isIx (i n : Int) : Bool := decide (0 ≤ i) && decide (i < n)
theorem isIx_win (i n : Int) : isIx i n = win i 0 (n - 1) := by
  unfold isIx win; rw [Bool.eq_iff_iff]; simp; omega
theorem isIx_true {i n : Int} (h0 : 0 ≤ i) (h1 : i < n) : isIx i n = true := by simp [isIx, h0, h1]
theorem isIx_iff {i n : Int} : isIx i n = true ↔ 0 ≤ i ∧ i < n := by simp [isIx]
def argN (op : Int) : Int := if op = 0 ∨ op = 1 then 0 else if op = 2 ∨ op = 14 ∨ op = 15 ∨ op = 16 then 1 else if op = 12 then 3 else 2
def fitW (op wd v a b c : Int) : Bool :=
  if op = 2 ∨ op = 17 ∨ op = 18 then a == wd
  else if 3 ≤ op ∧ op ≤ 8 then a == wd && b == wd
  else if 9 ≤ op ∧ op ≤ 11 then a == b && wd == 1
  else if op = 12 then a == 1 && b == wd && c == wd
  else if op = 13 then a + b == wd
  else if op = 14 then decide (v + wd ≤ a)
  else if op = 15 ∨ op = 16 then decide (a ≤ wd)
  else true
def isV (v wd : Int) : Bool := decide (0 ≤ v) && decide (v ≤ pw wd - 1)
def numE (ls : List Int) (op wd v : Int) : Int :=
  if op = 0 then eIf (!isV v wd) 2
  else if op = 1 then (if isIx v ls.length then eIf (ls.getD v.toNat 0 != wd) 25 else 6)
  else if op = 14 then eIf (!isIx v 16) 2
  else eIf (v != 0) 3
def argsE (args : List Int) (n : Int) (e : Int) : Int := if args.all fun i => isIx i n then 0 else e
def wAt (before : List Nd) (args : List Int) (k : Nat) : Int := match args[k]? with
  | none => 0
  | some i => match before[i.toNat]? with | none => 0 | some n => n.wd
def nodeE (ls : List Int) (before : List Nd) (n : Nd) : Int :=
  if isIx n.op 19 then
    if isW n.wd then
      let e := firstE [eIf ((n.args.length : Int) != argN n.op) 10, argsE n.args before.length 9, numE ls n.op n.wd n.v]
      if e = 0 then eIf (!fitW n.op n.wd n.v (wAt before n.args 0) (wAt before n.args 1) (wAt before n.args 2)) 25 else e
    else 2
  else 15
/-- The first place with an error, and the error. -/
def firstAt (f : Nat → Int) : Nat → Nat → Int × Int
  | 0, _ => (0, 0)
  | n + 1, k => if f k = 0 then firstAt f n (k + 1) else ((k : Int), f k)
theorem firstAt_step {f : Nat → Int} {n k : Nat} (h : k < n) : firstAt f (n - k) k = if f k = 0 then firstAt f (n - (k + 1)) (k + 1) else ((k : Int), f k) := by
  obtain ⟨m, hm⟩ : ∃ m, n - k = m + 1 := ⟨n - k - 1, by omega⟩
  rw [hm, show n - (k + 1) = m by omega]; rfl
theorem firstAt_end {f : Nat → Int} {n k : Nat} (h : n ≤ k) : firstAt f (n - k) k = (0, 0) := by
  rw [show n - k = 0 by omega]; rfl
def leafE (ls : List Int) (k : Nat) : Int := eIf (!isW (ls.getD k 0)) 2
def nodesE (ls : List Int) (ns : List Nd) (k : Nat) : Int := match ns[k]? with | none => 0 | some n => nodeE ls (ns.take k) n
def chk (ls : List Int) (ns : List Nd) : Int × Int :=
  if 40 < ls.length then (0, 8)
  else if (firstAt (leafE ls) ls.length 0).2 = 0 then
    (if 400 < ns.length then (0, 8) else firstAt (nodesE ls ns) ns.length 0)
  else firstAt (leafE ls) ls.length 0

theorem addB (a : Addr) (n : Nat) : (a.add n).block = a.block := by unfold Addr.add; split <;> rfl
@[go_sem] theorem Aft.cell_add {W : World} (x : Aft W) (a : Addr) (k : Nat) (h : (a.add k).block < W.heap.size) : x.val.cell? (a.add k) = W.cell? (a.add k) := x.pf.cell (p := a.add k) h

/-- The slice at A reads as the list ns of numbers. -/
def LiesI (w : World) (A : Option Addr) (ns : List Int) : Prop :=
  0 < ns.length → ∃ ad, A = some ad ∧ ad.block < w.heap.size ∧ ∀ i x, ns[i]? = some x → w.cell? (ad.add i) = some (.int .i64 x)
theorem LiesI.aft {w : World} {A : Option Addr} {ns : List Int} (h : LiesI w A ns) (x : Aft w) : LiesI x.val A ns := fun hp => by
  obtain ⟨ad, rfl, hb, hc⟩ := h hp
  exact ⟨ad, rfl, x.lt' hb, fun i z hi => (x.pf.cell (p := ad.add i) (by rw [addB]; exact hb)).trans (hc i z hi)⟩
theorem LiesI.take {w : World} {A : Option Addr} {ns : List Int} (h : LiesI w A ns) (k : Nat) : LiesI w A (ns.take k) := fun hp => by
  obtain ⟨ad, rfl, hb, hc⟩ := h (by simp at hp; omega)
  refine ⟨ad, rfl, hb, fun i z hi => hc i z ?_⟩
  rw [List.getElem?_take] at hi
  split at hi
  · exact hi
  · cases hi


/-- A slice of nodes in memory. -/
def LiesN (w : World) (A : Option Addr) (ns : List Nd) : Prop :=
  0 < ns.length → ∃ ad, A = some ad ∧ ad.block < w.heap.size ∧ ∀ i n, ns[i]? = some n →
    w.cell? (ad.add (i * 4)) = some (.int .i64 n.op) ∧ w.cell? ((ad.add (i * 4)).add 1) = some (.int .i64 n.wd) ∧ w.cell? ((ad.add (i * 4)).add 3) = some (.int .i64 n.v) ∧
    ∃ B cap, w.cell? ((ad.add (i * 4)).add 2) = some (.slice B n.args.length cap) ∧ LiesI w B n.args
theorem LiesN.aft {w : World} {A : Option Addr} {ns : List Nd} (h : LiesN w A ns) (x : Aft w) : LiesN x.val A ns := fun hp => by
  obtain ⟨ad, rfl, hb, hc⟩ := h hp
  refine ⟨ad, rfl, x.lt' hb, fun i n hi => ?_⟩
  obtain ⟨c0, c1, c3, B, cap, c2, hl⟩ := hc i n hi
  have k : ∀ q : Addr, q.block = ad.block → x.val.cell? q = w.cell? q := fun q hq => x.pf.cell (p := q) (by rw [hq]; exact hb)
  exact ⟨(k _ (by rw [addB])).trans c0, (k _ (by rw [addB, addB])).trans c1, (k _ (by rw [addB, addB])).trans c3, B, cap, (k _ (by rw [addB, addB])).trans c2, hl.aft x⟩
end Go.Proofs.YtkdonapgonegkaaGreatDoor

set_option linter.unusedSimpArgs false
set_option linter.unusedVariables false
namespace Go.Proofs.YtkdonapgonegkaaGreatDoor
open Go.RowKit Go.BigFrame

theorem isWidth_c (n : Int) (w : World) :
    Calls Tryz.prog 103 #[.int .i64 n] w fun e w' => e = .returned (.bool (isW n)) ∧ w = w' := by
  unfold isW
  by_cases h1 : 1 ≤ n
  all_goals
    go_enter Tryz.func103, Tryz.ntmps103
    go_wp2
    go_ret
    exact ⟨by simp [Int.not_le, *]; try omega, rfl⟩
theorem errorIf_c (b : Bool) (e0 : Int) (w : World) :
    Calls Tryz.prog 50 #[.bool b, .int .i64 e0] w fun e w' => e = .returned (.int .i64 (eIf b e0)) ∧ w = w' := by
  unfold eIf
  go_enter Tryz.func50, Tryz.ntmps50
  go_wp2
  all_goals (go_ret; exact ⟨by simp [*], rfl⟩)
theorem highest_c (n : Int) (h1 : 0 ≤ n) (h2 : n ≤ 16) (w : World) :
    Calls Tryz.prog 98 #[.int .i64 n] w fun e w' => e = .returned (.int .i64 (pw n - 1)) ∧ w = w' := by
  have hp := pw_bd h1 h2
  unfold pw at *
  go_enter Tryz.func98, Tryz.ntmps98
  go_wp2
  go_ret
  exact ⟨rfl, rfl⟩
theorem firstError_c (b : Nat) (es : List Int) (hl : es.length ≤ 100) (w : World) (hc : ∀ i, i < es.length → w.cell? ⟨b, i, none⟩ = some (.int .i64 (es.getD i 0))) :
    Calls Tryz.prog 49 #[.slice (some ⟨b, 0, none⟩) es.length es.length] w fun e w' => e = .returned (.int .i64 (firstE es)) ∧ w = w' := by
  go_enter Tryz.func49, Tryz.ntmps49
  go_wp2
  go_loop [7] (fun i => ∃ k : Nat, k ≤ es.length ∧ i = .int .i64 k ∧ firstE es = firstE (es.drop k)) (fun i => es.length - (intOf i).toNat)
  case atStart => exact ⟨0, Nat.zero_le _, rfl, rfl⟩
  case round =>
    obtain ⟨k, hk, rfl, hf⟩ := hrel
    have Hf := Lib.hid hf
    clear hf
    by_cases hlt : k < es.length
    · have hk1 := hc k hlt
      clear hc
      by_cases h0 : es.getD k 0 = 0
      · have hn := firstE_drop es k hlt h0
        have Hn := Lib.hid hn
        rw [h0] at hk1
        clear hn h0
        go_wp2
        go_round
        case rel => exact ⟨k + 1, by omega, by go_num, Hf.out.trans Hn.out⟩
        case measure => simp [intOf]; omega
      · have hn := firstE_at es k hlt h0
        have Hn := Lib.hid hn
        clear hn
        generalize es.getD k 0 = x at *
        have h0' : (x == 0) = false := by simpa using h0
        go_wp2
        go_ret
        refine ⟨?_, rfl⟩
        rw [Hf.out, Hn.out]; rfl
    · go_wp2
      go_ret
      refine ⟨?_, rfl⟩
      rw [Hf.out, List.drop_of_length_le (by omega)]; rfl
theorem firstError3 (b : Nat) (e0 e1 e2 : Int) (T : TypeId) (fr : Nat × Nat) (w : World) (hc : w.heap[b]? = some (.cells #[.int .i64 e0, .int .i64 e1, .int .i64 e2] T fr)) :
    Calls Tryz.prog 49 #[.slice (some ⟨b, 0, none⟩) 3 3] w fun e w' => e = .returned (.int .i64 (firstE [e0, e1, e2])) ∧ w = w' := by
  refine firstError_c b [e0, e1, e2] (by simp) w fun i hi => ?_
  have hi' : i < 3 := hi
  simp only [World.cell?, hc]
  rcases i with _ | _ | _ | i <;> first | rfl | omega
theorem firstError2 (b : Nat) (e0 e1 : Int) (T : TypeId) (fr : Nat × Nat) (w : World) (hc : w.heap[b]? = some (.cells #[.int .i64 e0, .int .i64 e1] T fr)) :
    Calls Tryz.prog 49 #[.slice (some ⟨b, 0, none⟩) 2 2] w fun e w' => e = .returned (.int .i64 (firstE [e0, e1])) ∧ w = w' := by
  refine firstError_c b [e0, e1] (by simp) w fun i hi => ?_
  have hi' : i < 2 := hi
  simp only [World.cell?, hc]
  rcases i with _ | _ | i <;> first | rfl | omega

theorem Within_c (n lo hi : Int) (w : World) :
    Calls Tryz.prog 27 #[.int .i64 n, .int .i64 lo, .int .i64 hi] w fun e w' => e = .returned (.bool (win n lo hi)) ∧ w = w' := by
  unfold win
  by_cases h1 : lo ≤ n
  all_goals
    go_enter Tryz.func27, Tryz.ntmps27
    go_wp2
    go_ret
    exact ⟨by simp [Int.not_le, *]; try omega, rfl⟩
theorem IsWidth_c (n : Int) (w : World) :
    Calls Tryz.prog 76 #[.int .i64 n] w fun e w' => e = .returned (.bool (isW n)) ∧ w = w' := by
  go_enter Tryz.func76, Tryz.ntmps76
  go_wp2_with (first | (go_at_call 27; refine (Within_c _ _ _ _).mono ?_; rintro e w' ⟨rfl, rfl⟩))
  go_ret
  exact ⟨rfl, rfl⟩
theorem Power_c (n : Int) (h1 : 0 ≤ n) (h2 : n ≤ 61) (w : World) :
    Calls Tryz.prog 78 #[.int .i64 n] w fun e w' => e = .returned (.int .i64 (pw n)) ∧ w = w' := by
  have hp := pw_le h1 h2
  unfold pw at *
  go_enter Tryz.func78, Tryz.ntmps78
  go_wp2
  go_ret
  exact ⟨rfl, rfl⟩
def fits (n wd : Int) : Bool := win n 0 (pw wd - 1)
theorem Fits_c (n wd : Int) (h1 : 0 ≤ wd) (h2 : wd ≤ 61) (w : World) :
    Calls Tryz.prog 93 #[.int .i64 n, .int .i64 wd] w fun e w' => e = .returned (.bool (fits n wd)) ∧ w = w' := by
  have hp := pw_le h1 h2
  go_enter Tryz.func93, Tryz.ntmps93
  go_wp2_with (first | (go_at_call 78; refine (Power_c _ (by omega) (by omega) _).mono ?_; rintro e w' ⟨rfl, rfl⟩) | (go_at_call 27; refine (Within_c _ _ _ _).mono ?_; rintro e w' ⟨rfl, rfl⟩))
  go_ret
  exact ⟨rfl, rfl⟩


theorem isIndex_c (i n : Int) (w : World) :
    Calls Tryz.prog 59 #[.int .i64 i, .int .i64 n] w fun e w' => e = .returned (.bool (isIx i n)) ∧ w = w' := by
  unfold isIx
  by_cases h1 : 0 ≤ i
  all_goals
    go_enter Tryz.func59, Tryz.ntmps59
    go_wp2
    go_ret
    exact ⟨by simp [Int.not_le, *]; try omega, rfl⟩
theorem isValue_c (v wd : Int) (h1 : 0 ≤ wd) (h2 : wd ≤ 16) (w : World) :
    Calls Tryz.prog 60 #[.int .i64 v, .int .i64 wd] w fun e w' => e = .returned (.bool (isV v wd)) ∧ w = w' := by
  unfold isV
  by_cases h : 0 ≤ v
  all_goals
    go_enter Tryz.func60, Tryz.ntmps60
    go_wp2_with (go_at_call 98; refine (highest_c _ h1 h2 _).mono ?_; rintro e w' ⟨rfl, rfl⟩)
    go_ret
    exact ⟨by simp [Int.not_le, *]; try omega, rfl⟩
end Go.Proofs.YtkdonapgonegkaaGreatDoor

set_option linter.unusedSimpArgs false
set_option linter.unusedVariables false
namespace Go.Proofs.YtkdonapgonegkaaGreatDoor
open Go.RowKit Go.BigFrame

theorem firstAt_go {E : Nat → Int} {n k : Nat} (h : k < n) (h0 : E k = 0) : firstAt E (n - k) k = firstAt E (n - (k + 1)) (k + 1) := by rw [firstAt_step h, if_pos h0]
theorem firstAt_stop {E : Nat → Int} {n k : Nat} (h : k < n) (h0 : ¬ E k = 0) : firstAt E (n - k) k = ((k : Int), E k) := by rw [firstAt_step h, if_neg h0]
theorem tupII {a a' b b' : Int} (h : a = a') (g : b = b') : Ending.returned (.tuple #[.int .i64 a, .int .i64 b]) = .returned (.tuple #[.int .i64 a', .int .i64 b']) := by subst h; subst g; rfl
theorem LiesI.cell {w : World} {A : Option Addr} {ns : List Int} (h : LiesI w A ns) {k : Nat} {x : Int} (hx : ns[k]? = some x) : ∃ ad, A = some ad ∧ ad.block < w.heap.size ∧ w.cell? (ad.add k) = some (.int .i64 x) := by
  obtain ⟨ad, rfl, hb, hc⟩ := h (by have := (List.getElem?_eq_some_iff.1 hx).1; omega)
  exact ⟨ad, rfl, hb, hc k x hx⟩
theorem LiesI.below {w W : World} {A : Option Addr} {ns : List Int} (h : LiesI w A ns) (hb : Below w.heap.size w W) : LiesI W A ns := h.aft ⟨W, hb⟩
theorem LiesN.below {w W : World} {A : Option Addr} {ns : List Nd} (h : LiesN w A ns) (hb : Below w.heap.size w W) : LiesN W A ns := h.aft ⟨W, hb⟩
theorem LiesN.cells {w : World} {A : Option Addr} {ns : List Nd} (h : LiesN w A ns) {k : Nat} {n : Nd} (hx : ns[k]? = some n) : ∃ ad, A = some ad ∧ ad.block < w.heap.size ∧ w.cell? (ad.add (k * 4)) = some (.int .i64 n.op) ∧ w.cell? ((ad.add (k * 4)).add 1) = some (.int .i64 n.wd) ∧ w.cell? ((ad.add (k * 4)).add 3) = some (.int .i64 n.v) ∧
    ∃ B cap, w.cell? ((ad.add (k * 4)).add 2) = some (.slice B n.args.length cap) ∧ LiesI w B n.args := by
  obtain ⟨ad, rfl, hb, hc⟩ := h (by have := (List.getElem?_eq_some_iff.1 hx).1; omega)
  exact ⟨ad, rfl, hb, hc k n hx⟩

set_option maxRecDepth 100000 in
set_option maxHeartbeats 1600000 in
theorem firstWrong_leaf (E : Nat → Int) (A : Option Addr) (cap : Nat) (ns : List Int) (hl : ns.length ≤ 65536) (w : World) (h : LiesI w A ns)
    (hK : ∀ (k : Nat) (x : Int), ns[k]? = some x → ∀ W : World, Below w.heap.size w W → Calls Tryz.prog 102 #[.int .i64 k, .int .i64 x] W fun e w' => e = .returned (.int .i64 (E k)) ∧ ∃ y : Aft W, w' = y.val) :
    Calls Tryz.prog 94 #[.slice A ns.length cap, .func (.func 102) #[] #[]] w fun e w' => e = .returned (.tuple #[.int .i64 (firstAt E ns.length 0).1, .int .i64 (firstAt E ns.length 0).2]) ∧ ∃ x : Aft w, w' = x.val := by
  have HH := Lib.hid h
  have HK := Lib.hid hK
  clear h hK
  go_enter Tryz.func94, Tryz.ntmps94
  go_wp2
  go_loopw [11] (fun v11 wr => ∃ k : Nat, k ≤ ns.length ∧ v11 = .int .i64 k ∧ firstAt E ns.length 0 = firstAt E (ns.length - k) k ∧ Below w.heap.size w wr) (fun v11 _ => ns.length - (intOf v11).toNat)
  case atStart => exact ⟨0, by omega, rfl, rfl, Below.refl _ _⟩
  case round =>
    obtain ⟨k, hk, rfl, hf, hb⟩ := hrel
    have HF := Lib.hid hf
    have HB := Lib.hid hb
    clear hf hb
    by_cases hlt : k < ns.length
    · have hkk : (k : Int) < ns.length := by omega
      have HX := Lib.hid (List.getElem?_eq_getElem hlt)
      generalize ns[k] = x at *
      obtain ⟨ad, rfl, hbk, hcell⟩ := HH.out.cell HX.out
      have c : wr.cell? (ad.add k) = some (.int .i64 x) := (HB.out.cell (p := ad.add k) (by rw [addB]; exact hbk)).trans hcell
      clear hcell hbk
      go_wp2_with fail
      refine (HK.out k x HX.out _ HB.out).mono ?_
      rintro e w' ⟨rfl, y, rfl⟩
      by_cases h0 : E k = 0
      · have hn := Lib.hid (firstAt_go hlt h0)
        have h0' : (E k == 0) = true := by simpa using h0
        rw [h0]
        clear h0 h0' c
        go_wp2
        go_roundw
        case rel => exact ⟨k + 1, by omega, by go_num, HF.out.trans hn.out, y.below HB.out HB.out.size⟩
        case measure => simp [intOf]; omega
      · have hn := Lib.hid (firstAt_stop hlt h0)
        have n1 : (E k == 0) = false := by simpa using h0
        have n2 : (E k != 0) = true := by simpa using h0
        clear h0 c
        generalize E k = er at *
        go_wp2
        go_ret2
        exact ⟨tupII (by rw [HF.out, hn.out]) (by rw [HF.out, hn.out]), Below.aft (y.below HB.out HB.out.size)⟩
    · have hn := Lib.hid (firstAt_end (f := E) (n := ns.length) (k := k) (by omega))
      go_wp2
      go_ret2
      exact ⟨tupII (by rw [HF.out, hn.out]) (by rw [HF.out, hn.out]), Below.aft HB.out⟩

set_option maxRecDepth 100000 in
set_option maxHeartbeats 1600000 in
theorem firstWrong_index (c0 c1 : Value) (E : Nat → Int) (A : Option Addr) (cap : Nat) (ns : List Int) (hl : ns.length ≤ 65536) (w : World) (h : LiesI w A ns)
    (hK : ∀ (k : Nat) (x : Int), ns[k]? = some x → ∀ W : World, Below w.heap.size w W → Calls Tryz.prog 109 #[.int .i64 k, .int .i64 x, c0, c1] W fun e w' => e = .returned (.int .i64 (E k)) ∧ ∃ y : Aft W, w' = y.val) :
    Calls Tryz.prog 94 #[.slice A ns.length cap, .func (.func 109) #[] #[c0, c1]] w fun e w' => e = .returned (.tuple #[.int .i64 (firstAt E ns.length 0).1, .int .i64 (firstAt E ns.length 0).2]) ∧ ∃ x : Aft w, w' = x.val := by
  have HH := Lib.hid h
  have HK := Lib.hid hK
  clear h hK
  go_enter Tryz.func94, Tryz.ntmps94
  go_wp2
  go_loopw [11] (fun v11 wr => ∃ k : Nat, k ≤ ns.length ∧ v11 = .int .i64 k ∧ firstAt E ns.length 0 = firstAt E (ns.length - k) k ∧ Below w.heap.size w wr) (fun v11 _ => ns.length - (intOf v11).toNat)
  case atStart => exact ⟨0, by omega, rfl, rfl, Below.refl _ _⟩
  case round =>
    obtain ⟨k, hk, rfl, hf, hb⟩ := hrel
    have HF := Lib.hid hf
    have HB := Lib.hid hb
    clear hf hb
    by_cases hlt : k < ns.length
    · have hkk : (k : Int) < ns.length := by omega
      have HX := Lib.hid (List.getElem?_eq_getElem hlt)
      generalize ns[k] = x at *
      obtain ⟨ad, rfl, hbk, hcell⟩ := HH.out.cell HX.out
      have c : wr.cell? (ad.add k) = some (.int .i64 x) := (HB.out.cell (p := ad.add k) (by rw [addB]; exact hbk)).trans hcell
      clear hcell hbk
      go_wp2_with fail
      refine (HK.out k x HX.out _ HB.out).mono ?_
      rintro e w' ⟨rfl, y, rfl⟩
      by_cases h0 : E k = 0
      · have hn := Lib.hid (firstAt_go hlt h0)
        have h0' : (E k == 0) = true := by simpa using h0
        rw [h0]
        clear h0 h0' c
        go_wp2
        go_roundw
        case rel => exact ⟨k + 1, by omega, by go_num, HF.out.trans hn.out, y.below HB.out HB.out.size⟩
        case measure => simp [intOf]; omega
      · have hn := Lib.hid (firstAt_stop hlt h0)
        have n1 : (E k == 0) = false := by simpa using h0
        have n2 : (E k != 0) = true := by simpa using h0
        clear h0 c
        generalize E k = er at *
        go_wp2
        go_ret2
        exact ⟨tupII (by rw [HF.out, hn.out]) (by rw [HF.out, hn.out]), Below.aft (y.below HB.out HB.out.size)⟩
    · have hn := Lib.hid (firstAt_end (f := E) (n := ns.length) (k := k) (by omega))
      go_wp2
      go_ret2
      exact ⟨tupII (by rw [HF.out, hn.out]) (by rw [HF.out, hn.out]), Below.aft HB.out⟩

theorem CheckNodes1_c (i n : Int) (w : World) :
    Calls Tryz.prog 102 #[.int .i64 i, .int .i64 n] w fun e w' => e = .returned (.int .i64 (eIf (!isW n) 2)) ∧ w = w' := by
  go_enter Tryz.func102, Tryz.ntmps102
  go_wp2_with (first | (go_at_call 103; refine (isWidth_c _ _).mono ?_; rintro e w' ⟨rfl, rfl⟩) | (go_at_call 50; refine (errorIf_c _ _ _).mono ?_; rintro e w' ⟨rfl, rfl⟩))
  go_ret
  exact ⟨rfl, rfl⟩

theorem errorOfIndexes1_c (i x n er : Int) (P Q : Nat) (w : World) (c0 : w.cell? ⟨P, 0, none⟩ = some (.int .i64 n)) (c1 : w.cell? ⟨Q, 0, none⟩ = some (.int .i64 er)) (l0 : P < w.heap.size) (l1 : Q < w.heap.size) :
    Calls Tryz.prog 109 #[.int .i64 i, .int .i64 x, .pointer (some ⟨P, 0, none⟩), .pointer (some ⟨Q, 0, none⟩)] w fun e w' => e = .returned (.int .i64 (eIf (!isIx x n) er)) ∧ ∃ y : Aft w, w' = y.val := by
  go_enter Tryz.func109, Tryz.ntmps109
  go_wp2_with fail
  refine wp_region_aft (by kernel_rfl) (by kernel_rfl) ?_
  repeat (go_big_quiet_step (first | (go_at_call 59; exact Calls.qs (isIndex_c _ _ _)) | (go_at_call 50; exact Calls.qs (errorIf_c _ _ _))))
  refine wpQuiet_nil ?_
  intro y
  go_wp2
  go_ret
  exact ⟨rfl, y, rfl⟩
def ixE (args : List Int) (n er : Int) (k : Nat) : Int := eIf (!isIx (args.getD k 0) n) er
theorem ixE_all {args : List Int} {n er : Int} (he : er ≠ 0) : (firstAt (ixE args n er) args.length 0).2 = argsE args n er := by
  have key : ∀ (m k : Nat), m + k = args.length → (firstAt (ixE args n er) m k).2 = argsE (args.drop k) n er := by
    intro m
    induction m with
    | zero => intro k hk; rw [List.drop_of_length_le (by omega)]; rfl
    | succ m ih =>
      intro k hk
      have hk' : k < args.length := by omega
      have hd := List.drop_eq_getElem_cons hk'
      have hg : args.getD k 0 = args[k] := by simp [hk']
      unfold firstAt
      by_cases hx : isIx args[k] n = true
      · have e0 : ixE args n er k = 0 := by unfold ixE; rw [hg, hx]; rfl
        rw [if_pos e0, ih (k + 1) (by omega), hd]
        unfold argsE; simp only [List.all_cons, hx, Bool.true_and]
      · have hx' : isIx args[k] n = false := by simpa using hx
        have e0 : ixE args n er k = er := by unfold ixE; rw [hg, hx']; rfl
        rw [if_neg (by rw [e0]; exact he), e0, hd]
        unfold argsE; simp only [List.all_cons, hx', Bool.false_and]; rfl
  simpa using key args.length 0 (by omega)

set_option maxRecDepth 100000 in
set_option maxHeartbeats 1600000 in
theorem errorOfIndexes_c (n er : Int) (he : er ≠ 0) (A : Option Addr) (cap : Nat) (ns : List Int) (hl : ns.length ≤ 65536) (w : World) (h : LiesI w A ns) :
    Calls Tryz.prog 72 #[.slice A ns.length cap, .int .i64 n, .int .i64 er] w fun e w' => e = .returned (.int .i64 (argsE ns n er)) ∧ ∃ x : Aft w, w' = x.val := by
  have HH := Lib.hid h
  have HE := Lib.hid (ixE_all (args := ns) (n := n) he)
  have he1 : (er == 0) = false := by simpa using he
  clear h he
  go_enter Tryz.func72, Tryz.ntmps72
  go_wp2_with fail
  refine (firstWrong_index _ _ (ixE ns n er) A cap ns hl _ (HH.out.below (((Below.refl _ _).alloc (Nat.le_refl _) _).alloc (by simp) _)) ?hK).mono ?_
  case hK =>
    intro k x hx W hb
    have e0 : ixE ns n er k = eIf (!isIx x n) er := by unfold ixE; simp [List.getD, hx]
    rw [e0]
    refine errorOfIndexes1_c _ x n er _ _ W ?_ ?_ ?_ ?_
    · rw [hb.cell (p := ⟨w.heap.size, 0, none⟩) (by simp; omega)]; simp [go_sem]
    · rw [hb.cell (p := ⟨w.heap.size + 1, 0, none⟩) (by simp)]; simp [go_sem]
    · have := hb.size; simp at this; omega
    · have := hb.size; simp at this; omega
  rintro e w' ⟨rfl, y, rfl⟩
  rw [HE.out]
  go_wp2
  go_ret
  exact ⟨rfl, Below.aft (by (repeat' (first | (with_reducible exact Below.refl _ _) | (with_reducible assumption) | (with_reducible refine Below.alloc ?_ ?_ _) | (with_reducible refine Below.drew ?_) | (with_reducible refine Aft.below _ ?_ ?_) | (with_reducible refine Below.setCell_new ?_ ?_ _ _) | (with_reducible exact Nat.le_refl _) | (with_reducible refine Aft.le _ ?_) | (with_reducible refine le_alloc ?_) | (with_reducible refine le_drew ?_) | (with_reducible refine le_setCell ?_) | omega)))⟩

end Go.Proofs.YtkdonapgonegkaaGreatDoor

set_option linter.unusedSimpArgs false
set_option linter.unusedVariables false
namespace Go.Proofs.YtkdonapgonegkaaGreatDoor
open Go.RowKit Go.BigFrame

set_option maxRecDepth 100000 in
set_option maxHeartbeats 1600000 in
theorem errorOfNumber_c (A : Option Addr) (cap : Nat) (ls : List Int) (hl : ls.length ≤ 65536) (op wd v : Int) (h1 : 1 ≤ wd) (h2 : wd ≤ 16) (B : Option Addr) (al bc : Nat) (w : World) (h : LiesI w A ls) :
    Calls Tryz.prog 118 #[.slice A ls.length cap, .agg #[.int .i64 op, .int .i64 wd, .slice B al bc, .int .i64 v]] w fun e w' => e = .returned (.int .i64 (numE ls op wd v)) ∧ ∃ x : Aft w, w' = x.val := by
  by_cases o0 : op = 0
  · subst o0
    have HR := Lib.hid (show numE ls 0 wd v = eIf (!isV v wd) 2 from rfl)
    go_enter Tryz.func118, Tryz.ntmps118
    go_wp2_with (first | (go_at_call 59; refine (isIndex_c _ _ _).mono ?_; rintro e w' ⟨rfl, rfl⟩) | (go_at_call 60; refine (isValue_c _ _ (by omega) (by omega) _).mono ?_; rintro e w' ⟨rfl, rfl⟩) | (go_at_call 50; refine (errorIf_c _ _ _).mono ?_; rintro e w' ⟨rfl, rfl⟩))
    go_ret
    exact ⟨retI HR.out.symm, Below.aft (by (repeat' (first | (with_reducible exact Below.refl _ _) | (with_reducible assumption) | (with_reducible refine Below.alloc ?_ ?_ _) | (with_reducible refine Below.drew ?_) | (with_reducible refine Aft.below _ ?_ ?_) | (with_reducible refine Below.setCell_new ?_ ?_ _ _) | (with_reducible exact Nat.le_refl _) | (with_reducible refine Aft.le _ ?_) | (with_reducible refine le_alloc ?_) | (with_reducible refine le_drew ?_) | (with_reducible refine le_setCell ?_) | omega)))⟩
  by_cases o1 : op = 1
  · subst o1
    cases hi : isIx v ls.length
    · have HR := Lib.hid (show numE ls 1 wd v = 6 by unfold numE; rw [if_neg (by decide), if_pos rfl, hi]; rfl)
      have HI := Lib.hid (fun w => by have h := isIndex_c v ls.length w; rw [hi] at h; exact h)
      clear hi
      go_enter Tryz.func118, Tryz.ntmps118
      go_wp2_with (go_at_call 59; ((with_reducible refine (HI.out _).mono ?_); rintro e w' ⟨rfl, rfl⟩))
      go_ret
      exact ⟨retI HR.out.symm, Below.aft (by (repeat' (first | (with_reducible exact Below.refl _ _) | (with_reducible assumption) | (with_reducible refine Below.alloc ?_ ?_ _) | (with_reducible refine Below.drew ?_) | (with_reducible refine Aft.below _ ?_ ?_) | (with_reducible refine Below.setCell_new ?_ ?_ _ _) | (with_reducible exact Nat.le_refl _) | (with_reducible refine Aft.le _ ?_) | (with_reducible refine le_alloc ?_) | (with_reducible refine le_drew ?_) | (with_reducible refine le_setCell ?_) | omega)))⟩
    · obtain ⟨hv0, hv1⟩ := isIx_iff.1 hi
      obtain ⟨k, rfl⟩ := Int.eq_ofNat_of_zero_le hv0
      have hk : k < ls.length := by omega
      have hg : ls.getD ((k : Nat) : Int).toNat 0 = ls[k] := by simp [hk]
      have HR := Lib.hid (show numE ls 1 wd k = eIf (ls[k] != wd) 25 by unfold numE; rw [if_neg (by decide), if_pos rfl, hi, if_pos rfl, hg])
      have HI := Lib.hid (fun w => by have h := isIndex_c k ls.length w; rw [hi] at h; exact h)
      obtain ⟨ad, rfl, hb, hc⟩ := h.cell (List.getElem?_eq_getElem hk)
      have hkk : (k : Int) < ls.length := by omega
      have c : (w.alloc (.cells #[.int .i64 1, .int .i64 wd, .slice B al bc, .int .i64 k] 61)).cell? (ad.add k) = some (.int .i64 ls[k]) := ((Below.refl _ _).alloc (Nat.le_refl _) _).cell (p := ad.add k) (by rw [addB]; exact hb) |>.trans hc
      generalize ls[k] = x at *
      clear hi hv0 hv1 hg h hc
      go_enter Tryz.func118, Tryz.ntmps118
      go_wp2_with (go_at_call 59; ((with_reducible refine (HI.out _).mono ?_); rintro e w' ⟨rfl, rfl⟩))
      have zw : w.heap.size < (w.alloc (.cells #[.int .i64 1, .int .i64 wd, .slice B al bc, .int .i64 k] 61)).heap.size := by simp
      have q0 : (w.alloc (.cells #[.int .i64 1, .int .i64 wd, .slice B al bc, .int .i64 k] 61)).cell? ⟨w.heap.size, 3, none⟩ = some (.int .i64 k) := by simp [go_sem]
      have q1 : (w.alloc (.cells #[.int .i64 1, .int .i64 wd, .slice B al bc, .int .i64 k] 61)).cell? ⟨w.heap.size, 1, none⟩ = some (.int .i64 wd) := by simp [go_sem]
      have hbw : Below w.heap.size w (w.alloc (.cells #[.int .i64 1, .int .i64 wd, .slice B al bc, .int .i64 k] 61)) := (Below.refl _ _).alloc (Nat.le_refl _) _
      have hbad : ad.block < (w.alloc (.cells #[.int .i64 1, .int .i64 wd, .slice B al bc, .int .i64 k] 61)).heap.size := by simp; omega
      generalize w.alloc (.cells #[.int .i64 1, .int .i64 wd, .slice B al bc, .int .i64 k] 61) = W1 at *
      have cx : ∀ x' : Aft W1, x'.val.cell? (ad.add k) = some (.int .i64 x) := fun x' => (x'.pf.cell (p := ad.add k) (by rw [addB]; exact hbad)).trans c
      refine wp_region_aft (by kernel_rfl) (by kernel_rfl) ?_
      repeat (go_big_quiet_step ((go_at_call 50; exact Calls.qs (errorIf_c _ _ _))))
      refine wpQuiet_nil ?_
      intro y
      go_wp2
      go_ret
      exact ⟨retI HR.out.symm, Below.aft (y.below hbw hbw.size)⟩
  by_cases o14 : op = 14
  · subst o14
    have HR := Lib.hid (show numE ls 14 wd v = eIf (!isIx v 16) 2 from rfl)
    go_enter Tryz.func118, Tryz.ntmps118
    go_wp2_with (first | (go_at_call 59; refine (isIndex_c _ _ _).mono ?_; rintro e w' ⟨rfl, rfl⟩) | (go_at_call 60; refine (isValue_c _ _ (by omega) (by omega) _).mono ?_; rintro e w' ⟨rfl, rfl⟩) | (go_at_call 50; refine (errorIf_c _ _ _).mono ?_; rintro e w' ⟨rfl, rfl⟩))
    go_ret
    exact ⟨retI HR.out.symm, Below.aft (by (repeat' (first | (with_reducible exact Below.refl _ _) | (with_reducible assumption) | (with_reducible refine Below.alloc ?_ ?_ _) | (with_reducible refine Below.drew ?_) | (with_reducible refine Aft.below _ ?_ ?_) | (with_reducible refine Below.setCell_new ?_ ?_ _ _) | (with_reducible exact Nat.le_refl _) | (with_reducible refine Aft.le _ ?_) | (with_reducible refine le_alloc ?_) | (with_reducible refine le_drew ?_) | (with_reducible refine le_setCell ?_) | omega)))⟩
  · have HR := Lib.hid (show numE ls op wd v = eIf (v != 0) 3 by unfold numE; rw [if_neg o0, if_neg o1, if_neg o14])
    have n0 : (op == 0) = false := by simpa using o0
    have n1 : (op == 1) = false := by simpa using o1
    have n14 : (op == 14) = false := by simpa using o14
    clear o0 o1 o14
    go_enter Tryz.func118, Tryz.ntmps118
    go_wp2_with (first | (go_at_call 59; refine (isIndex_c _ _ _).mono ?_; rintro e w' ⟨rfl, rfl⟩) | (go_at_call 60; refine (isValue_c _ _ (by omega) (by omega) _).mono ?_; rintro e w' ⟨rfl, rfl⟩) | (go_at_call 50; refine (errorIf_c _ _ _).mono ?_; rintro e w' ⟨rfl, rfl⟩))
    go_ret
    exact ⟨retI HR.out.symm, Below.aft (by (repeat' (first | (with_reducible exact Below.refl _ _) | (with_reducible assumption) | (with_reducible refine Below.alloc ?_ ?_ _) | (with_reducible refine Below.drew ?_) | (with_reducible refine Aft.below _ ?_ ?_) | (with_reducible refine Below.setCell_new ?_ ?_ _ _) | (with_reducible exact Nat.le_refl _) | (with_reducible refine Aft.le _ ?_) | (with_reducible refine le_alloc ?_) | (with_reducible refine le_drew ?_) | (with_reducible refine le_setCell ?_) | omega)))⟩

set_option maxRecDepth 100000 in
set_option maxHeartbeats 1600000 in
theorem fit_0 (wd v a b c : Int) (hw1 : 1 ≤ wd) (hw2 : wd ≤ 16) (a0 : 0 ≤ a) (a1 : a ≤ 16) (b0 : 0 ≤ b) (b1 : b ≤ 16) (B : Option Addr) (al bc : Nat) (w : World) :
    Calls Tryz.prog 120 #[.agg #[.int .i64 0, .int .i64 wd, .slice B al bc, .int .i64 v], .agg #[.int .i64 a, .int .i64 b, .int .i64 c]] w fun e w' => e = .returned (.bool (fitW 0 wd v a b c)) ∧ ∃ x : Aft w, w' = x.val := by
  have HR := Lib.hid (show fitW 0 wd v a b c = (true) from rfl)
  go_enter Tryz.func120, Tryz.ntmps120
  go_wp2_with fail
  refine wp_region_aft (by kernel_rfl) (by kernel_rfl) ?_
  repeat (go_big_quiet_step (fail))
  refine wpQuiet_nil ?_
  intro y
  go_wp2
  go_ret
  exact ⟨retB HR.out.symm, Below.aft (by (repeat' (first | (with_reducible exact Below.refl _ _) | (with_reducible assumption) | (with_reducible refine Below.alloc ?_ ?_ _) | (with_reducible refine Below.drew ?_) | (with_reducible refine Aft.below _ ?_ ?_) | (with_reducible refine Below.setCell_new ?_ ?_ _ _) | (with_reducible exact Nat.le_refl _) | (with_reducible refine Aft.le _ ?_) | (with_reducible refine le_alloc ?_) | (with_reducible refine le_drew ?_) | (with_reducible refine le_setCell ?_) | omega)))⟩

set_option maxRecDepth 100000 in
set_option maxHeartbeats 1600000 in
theorem fit_1 (wd v a b c : Int) (hw1 : 1 ≤ wd) (hw2 : wd ≤ 16) (a0 : 0 ≤ a) (a1 : a ≤ 16) (b0 : 0 ≤ b) (b1 : b ≤ 16) (B : Option Addr) (al bc : Nat) (w : World) :
    Calls Tryz.prog 120 #[.agg #[.int .i64 1, .int .i64 wd, .slice B al bc, .int .i64 v], .agg #[.int .i64 a, .int .i64 b, .int .i64 c]] w fun e w' => e = .returned (.bool (fitW 1 wd v a b c)) ∧ ∃ x : Aft w, w' = x.val := by
  have HR := Lib.hid (show fitW 1 wd v a b c = (true) from rfl)
  go_enter Tryz.func120, Tryz.ntmps120
  go_wp2_with fail
  refine wp_region_aft (by kernel_rfl) (by kernel_rfl) ?_
  repeat (go_big_quiet_step (fail))
  refine wpQuiet_nil ?_
  intro y
  go_wp2
  go_ret
  exact ⟨retB HR.out.symm, Below.aft (by (repeat' (first | (with_reducible exact Below.refl _ _) | (with_reducible assumption) | (with_reducible refine Below.alloc ?_ ?_ _) | (with_reducible refine Below.drew ?_) | (with_reducible refine Aft.below _ ?_ ?_) | (with_reducible refine Below.setCell_new ?_ ?_ _ _) | (with_reducible exact Nat.le_refl _) | (with_reducible refine Aft.le _ ?_) | (with_reducible refine le_alloc ?_) | (with_reducible refine le_drew ?_) | (with_reducible refine le_setCell ?_) | omega)))⟩

set_option maxRecDepth 100000 in
set_option maxHeartbeats 1600000 in
theorem fit_2 (wd v a b c : Int) (hw1 : 1 ≤ wd) (hw2 : wd ≤ 16) (a0 : 0 ≤ a) (a1 : a ≤ 16) (b0 : 0 ≤ b) (b1 : b ≤ 16) (B : Option Addr) (al bc : Nat) (w : World) :
    Calls Tryz.prog 120 #[.agg #[.int .i64 2, .int .i64 wd, .slice B al bc, .int .i64 v], .agg #[.int .i64 a, .int .i64 b, .int .i64 c]] w fun e w' => e = .returned (.bool (fitW 2 wd v a b c)) ∧ ∃ x : Aft w, w' = x.val := by
  have HR := Lib.hid (show fitW 2 wd v a b c = (a == wd) from rfl)
  go_enter Tryz.func120, Tryz.ntmps120
  go_wp2_with fail
  refine wp_region_aft (by kernel_rfl) (by kernel_rfl) ?_
  repeat (go_big_quiet_step (fail))
  refine wpQuiet_nil ?_
  intro y
  go_wp2
  go_ret
  exact ⟨retB HR.out.symm, Below.aft (by (repeat' (first | (with_reducible exact Below.refl _ _) | (with_reducible assumption) | (with_reducible refine Below.alloc ?_ ?_ _) | (with_reducible refine Below.drew ?_) | (with_reducible refine Aft.below _ ?_ ?_) | (with_reducible refine Below.setCell_new ?_ ?_ _ _) | (with_reducible exact Nat.le_refl _) | (with_reducible refine Aft.le _ ?_) | (with_reducible refine le_alloc ?_) | (with_reducible refine le_drew ?_) | (with_reducible refine le_setCell ?_) | omega)))⟩

set_option maxRecDepth 100000 in
set_option maxHeartbeats 1600000 in
theorem fit_3 (wd v a b c : Int) (hw1 : 1 ≤ wd) (hw2 : wd ≤ 16) (a0 : 0 ≤ a) (a1 : a ≤ 16) (b0 : 0 ≤ b) (b1 : b ≤ 16) (B : Option Addr) (al bc : Nat) (w : World) :
    Calls Tryz.prog 120 #[.agg #[.int .i64 3, .int .i64 wd, .slice B al bc, .int .i64 v], .agg #[.int .i64 a, .int .i64 b, .int .i64 c]] w fun e w' => e = .returned (.bool (fitW 3 wd v a b c)) ∧ ∃ x : Aft w, w' = x.val := by
  cases hE : (a == wd)
  · have HR := Lib.hid (show fitW 3 wd v a b c = false by show (a == wd && b == wd) = false; rw [hE]; rfl)
    go_enter Tryz.func120, Tryz.ntmps120
    go_wp2_with fail
    refine wp_region_aft (by kernel_rfl) (by kernel_rfl) ?_
    repeat (go_big_quiet_step (fail))
    refine wpQuiet_nil ?_
    intro y
    go_wp2
    go_ret
    exact ⟨retB HR.out.symm, Below.aft (by (repeat' (first | (with_reducible exact Below.refl _ _) | (with_reducible assumption) | (with_reducible refine Below.alloc ?_ ?_ _) | (with_reducible refine Below.drew ?_) | (with_reducible refine Aft.below _ ?_ ?_) | (with_reducible refine Below.setCell_new ?_ ?_ _ _) | (with_reducible exact Nat.le_refl _) | (with_reducible refine Aft.le _ ?_) | (with_reducible refine le_alloc ?_) | (with_reducible refine le_drew ?_) | (with_reducible refine le_setCell ?_) | omega)))⟩
  · have HR := Lib.hid (show fitW 3 wd v a b c = (b == wd) by show (a == wd && b == wd) = _; rw [hE]; rfl)
    go_enter Tryz.func120, Tryz.ntmps120
    go_wp2_with fail
    refine wp_region_aft (by kernel_rfl) (by kernel_rfl) ?_
    repeat (go_big_quiet_step (fail))
    refine wpQuiet_nil ?_
    intro y
    go_wp2
    go_ret
    exact ⟨retB HR.out.symm, Below.aft (by (repeat' (first | (with_reducible exact Below.refl _ _) | (with_reducible assumption) | (with_reducible refine Below.alloc ?_ ?_ _) | (with_reducible refine Below.drew ?_) | (with_reducible refine Aft.below _ ?_ ?_) | (with_reducible refine Below.setCell_new ?_ ?_ _ _) | (with_reducible exact Nat.le_refl _) | (with_reducible refine Aft.le _ ?_) | (with_reducible refine le_alloc ?_) | (with_reducible refine le_drew ?_) | (with_reducible refine le_setCell ?_) | omega)))⟩

set_option maxRecDepth 100000 in
set_option maxHeartbeats 1600000 in
theorem fit_4 (wd v a b c : Int) (hw1 : 1 ≤ wd) (hw2 : wd ≤ 16) (a0 : 0 ≤ a) (a1 : a ≤ 16) (b0 : 0 ≤ b) (b1 : b ≤ 16) (B : Option Addr) (al bc : Nat) (w : World) :
    Calls Tryz.prog 120 #[.agg #[.int .i64 4, .int .i64 wd, .slice B al bc, .int .i64 v], .agg #[.int .i64 a, .int .i64 b, .int .i64 c]] w fun e w' => e = .returned (.bool (fitW 4 wd v a b c)) ∧ ∃ x : Aft w, w' = x.val := by
  cases hE : (a == wd)
  · have HR := Lib.hid (show fitW 4 wd v a b c = false by show (a == wd && b == wd) = false; rw [hE]; rfl)
    go_enter Tryz.func120, Tryz.ntmps120
    go_wp2_with fail
    refine wp_region_aft (by kernel_rfl) (by kernel_rfl) ?_
    repeat (go_big_quiet_step (fail))
    refine wpQuiet_nil ?_
    intro y
    go_wp2
    go_ret
    exact ⟨retB HR.out.symm, Below.aft (by (repeat' (first | (with_reducible exact Below.refl _ _) | (with_reducible assumption) | (with_reducible refine Below.alloc ?_ ?_ _) | (with_reducible refine Below.drew ?_) | (with_reducible refine Aft.below _ ?_ ?_) | (with_reducible refine Below.setCell_new ?_ ?_ _ _) | (with_reducible exact Nat.le_refl _) | (with_reducible refine Aft.le _ ?_) | (with_reducible refine le_alloc ?_) | (with_reducible refine le_drew ?_) | (with_reducible refine le_setCell ?_) | omega)))⟩
  · have HR := Lib.hid (show fitW 4 wd v a b c = (b == wd) by show (a == wd && b == wd) = _; rw [hE]; rfl)
    go_enter Tryz.func120, Tryz.ntmps120
    go_wp2_with fail
    refine wp_region_aft (by kernel_rfl) (by kernel_rfl) ?_
    repeat (go_big_quiet_step (fail))
    refine wpQuiet_nil ?_
    intro y
    go_wp2
    go_ret
    exact ⟨retB HR.out.symm, Below.aft (by (repeat' (first | (with_reducible exact Below.refl _ _) | (with_reducible assumption) | (with_reducible refine Below.alloc ?_ ?_ _) | (with_reducible refine Below.drew ?_) | (with_reducible refine Aft.below _ ?_ ?_) | (with_reducible refine Below.setCell_new ?_ ?_ _ _) | (with_reducible exact Nat.le_refl _) | (with_reducible refine Aft.le _ ?_) | (with_reducible refine le_alloc ?_) | (with_reducible refine le_drew ?_) | (with_reducible refine le_setCell ?_) | omega)))⟩

set_option maxRecDepth 100000 in
set_option maxHeartbeats 1600000 in
theorem fit_5 (wd v a b c : Int) (hw1 : 1 ≤ wd) (hw2 : wd ≤ 16) (a0 : 0 ≤ a) (a1 : a ≤ 16) (b0 : 0 ≤ b) (b1 : b ≤ 16) (B : Option Addr) (al bc : Nat) (w : World) :
    Calls Tryz.prog 120 #[.agg #[.int .i64 5, .int .i64 wd, .slice B al bc, .int .i64 v], .agg #[.int .i64 a, .int .i64 b, .int .i64 c]] w fun e w' => e = .returned (.bool (fitW 5 wd v a b c)) ∧ ∃ x : Aft w, w' = x.val := by
  cases hE : (a == wd)
  · have HR := Lib.hid (show fitW 5 wd v a b c = false by show (a == wd && b == wd) = false; rw [hE]; rfl)
    go_enter Tryz.func120, Tryz.ntmps120
    go_wp2_with fail
    refine wp_region_aft (by kernel_rfl) (by kernel_rfl) ?_
    repeat (go_big_quiet_step (fail))
    refine wpQuiet_nil ?_
    intro y
    go_wp2
    go_ret
    exact ⟨retB HR.out.symm, Below.aft (by (repeat' (first | (with_reducible exact Below.refl _ _) | (with_reducible assumption) | (with_reducible refine Below.alloc ?_ ?_ _) | (with_reducible refine Below.drew ?_) | (with_reducible refine Aft.below _ ?_ ?_) | (with_reducible refine Below.setCell_new ?_ ?_ _ _) | (with_reducible exact Nat.le_refl _) | (with_reducible refine Aft.le _ ?_) | (with_reducible refine le_alloc ?_) | (with_reducible refine le_drew ?_) | (with_reducible refine le_setCell ?_) | omega)))⟩
  · have HR := Lib.hid (show fitW 5 wd v a b c = (b == wd) by show (a == wd && b == wd) = _; rw [hE]; rfl)
    go_enter Tryz.func120, Tryz.ntmps120
    go_wp2_with fail
    refine wp_region_aft (by kernel_rfl) (by kernel_rfl) ?_
    repeat (go_big_quiet_step (fail))
    refine wpQuiet_nil ?_
    intro y
    go_wp2
    go_ret
    exact ⟨retB HR.out.symm, Below.aft (by (repeat' (first | (with_reducible exact Below.refl _ _) | (with_reducible assumption) | (with_reducible refine Below.alloc ?_ ?_ _) | (with_reducible refine Below.drew ?_) | (with_reducible refine Aft.below _ ?_ ?_) | (with_reducible refine Below.setCell_new ?_ ?_ _ _) | (with_reducible exact Nat.le_refl _) | (with_reducible refine Aft.le _ ?_) | (with_reducible refine le_alloc ?_) | (with_reducible refine le_drew ?_) | (with_reducible refine le_setCell ?_) | omega)))⟩

set_option maxRecDepth 100000 in
set_option maxHeartbeats 1600000 in
theorem fit_6 (wd v a b c : Int) (hw1 : 1 ≤ wd) (hw2 : wd ≤ 16) (a0 : 0 ≤ a) (a1 : a ≤ 16) (b0 : 0 ≤ b) (b1 : b ≤ 16) (B : Option Addr) (al bc : Nat) (w : World) :
    Calls Tryz.prog 120 #[.agg #[.int .i64 6, .int .i64 wd, .slice B al bc, .int .i64 v], .agg #[.int .i64 a, .int .i64 b, .int .i64 c]] w fun e w' => e = .returned (.bool (fitW 6 wd v a b c)) ∧ ∃ x : Aft w, w' = x.val := by
  cases hE : (a == wd)
  · have HR := Lib.hid (show fitW 6 wd v a b c = false by show (a == wd && b == wd) = false; rw [hE]; rfl)
    go_enter Tryz.func120, Tryz.ntmps120
    go_wp2_with fail
    refine wp_region_aft (by kernel_rfl) (by kernel_rfl) ?_
    repeat (go_big_quiet_step (fail))
    refine wpQuiet_nil ?_
    intro y
    go_wp2
    go_ret
    exact ⟨retB HR.out.symm, Below.aft (by (repeat' (first | (with_reducible exact Below.refl _ _) | (with_reducible assumption) | (with_reducible refine Below.alloc ?_ ?_ _) | (with_reducible refine Below.drew ?_) | (with_reducible refine Aft.below _ ?_ ?_) | (with_reducible refine Below.setCell_new ?_ ?_ _ _) | (with_reducible exact Nat.le_refl _) | (with_reducible refine Aft.le _ ?_) | (with_reducible refine le_alloc ?_) | (with_reducible refine le_drew ?_) | (with_reducible refine le_setCell ?_) | omega)))⟩
  · have HR := Lib.hid (show fitW 6 wd v a b c = (b == wd) by show (a == wd && b == wd) = _; rw [hE]; rfl)
    go_enter Tryz.func120, Tryz.ntmps120
    go_wp2_with fail
    refine wp_region_aft (by kernel_rfl) (by kernel_rfl) ?_
    repeat (go_big_quiet_step (fail))
    refine wpQuiet_nil ?_
    intro y
    go_wp2
    go_ret
    exact ⟨retB HR.out.symm, Below.aft (by (repeat' (first | (with_reducible exact Below.refl _ _) | (with_reducible assumption) | (with_reducible refine Below.alloc ?_ ?_ _) | (with_reducible refine Below.drew ?_) | (with_reducible refine Aft.below _ ?_ ?_) | (with_reducible refine Below.setCell_new ?_ ?_ _ _) | (with_reducible exact Nat.le_refl _) | (with_reducible refine Aft.le _ ?_) | (with_reducible refine le_alloc ?_) | (with_reducible refine le_drew ?_) | (with_reducible refine le_setCell ?_) | omega)))⟩

set_option maxRecDepth 100000 in
set_option maxHeartbeats 1600000 in
theorem fit_7 (wd v a b c : Int) (hw1 : 1 ≤ wd) (hw2 : wd ≤ 16) (a0 : 0 ≤ a) (a1 : a ≤ 16) (b0 : 0 ≤ b) (b1 : b ≤ 16) (B : Option Addr) (al bc : Nat) (w : World) :
    Calls Tryz.prog 120 #[.agg #[.int .i64 7, .int .i64 wd, .slice B al bc, .int .i64 v], .agg #[.int .i64 a, .int .i64 b, .int .i64 c]] w fun e w' => e = .returned (.bool (fitW 7 wd v a b c)) ∧ ∃ x : Aft w, w' = x.val := by
  cases hE : (a == wd)
  · have HR := Lib.hid (show fitW 7 wd v a b c = false by show (a == wd && b == wd) = false; rw [hE]; rfl)
    go_enter Tryz.func120, Tryz.ntmps120
    go_wp2_with fail
    refine wp_region_aft (by kernel_rfl) (by kernel_rfl) ?_
    repeat (go_big_quiet_step (fail))
    refine wpQuiet_nil ?_
    intro y
    go_wp2
    go_ret
    exact ⟨retB HR.out.symm, Below.aft (by (repeat' (first | (with_reducible exact Below.refl _ _) | (with_reducible assumption) | (with_reducible refine Below.alloc ?_ ?_ _) | (with_reducible refine Below.drew ?_) | (with_reducible refine Aft.below _ ?_ ?_) | (with_reducible refine Below.setCell_new ?_ ?_ _ _) | (with_reducible exact Nat.le_refl _) | (with_reducible refine Aft.le _ ?_) | (with_reducible refine le_alloc ?_) | (with_reducible refine le_drew ?_) | (with_reducible refine le_setCell ?_) | omega)))⟩
  · have HR := Lib.hid (show fitW 7 wd v a b c = (b == wd) by show (a == wd && b == wd) = _; rw [hE]; rfl)
    go_enter Tryz.func120, Tryz.ntmps120
    go_wp2_with fail
    refine wp_region_aft (by kernel_rfl) (by kernel_rfl) ?_
    repeat (go_big_quiet_step (fail))
    refine wpQuiet_nil ?_
    intro y
    go_wp2
    go_ret
    exact ⟨retB HR.out.symm, Below.aft (by (repeat' (first | (with_reducible exact Below.refl _ _) | (with_reducible assumption) | (with_reducible refine Below.alloc ?_ ?_ _) | (with_reducible refine Below.drew ?_) | (with_reducible refine Aft.below _ ?_ ?_) | (with_reducible refine Below.setCell_new ?_ ?_ _ _) | (with_reducible exact Nat.le_refl _) | (with_reducible refine Aft.le _ ?_) | (with_reducible refine le_alloc ?_) | (with_reducible refine le_drew ?_) | (with_reducible refine le_setCell ?_) | omega)))⟩

set_option maxRecDepth 100000 in
set_option maxHeartbeats 1600000 in
theorem fit_8 (wd v a b c : Int) (hw1 : 1 ≤ wd) (hw2 : wd ≤ 16) (a0 : 0 ≤ a) (a1 : a ≤ 16) (b0 : 0 ≤ b) (b1 : b ≤ 16) (B : Option Addr) (al bc : Nat) (w : World) :
    Calls Tryz.prog 120 #[.agg #[.int .i64 8, .int .i64 wd, .slice B al bc, .int .i64 v], .agg #[.int .i64 a, .int .i64 b, .int .i64 c]] w fun e w' => e = .returned (.bool (fitW 8 wd v a b c)) ∧ ∃ x : Aft w, w' = x.val := by
  cases hE : (a == wd)
  · have HR := Lib.hid (show fitW 8 wd v a b c = false by show (a == wd && b == wd) = false; rw [hE]; rfl)
    go_enter Tryz.func120, Tryz.ntmps120
    go_wp2_with fail
    refine wp_region_aft (by kernel_rfl) (by kernel_rfl) ?_
    repeat (go_big_quiet_step (fail))
    refine wpQuiet_nil ?_
    intro y
    go_wp2
    go_ret
    exact ⟨retB HR.out.symm, Below.aft (by (repeat' (first | (with_reducible exact Below.refl _ _) | (with_reducible assumption) | (with_reducible refine Below.alloc ?_ ?_ _) | (with_reducible refine Below.drew ?_) | (with_reducible refine Aft.below _ ?_ ?_) | (with_reducible refine Below.setCell_new ?_ ?_ _ _) | (with_reducible exact Nat.le_refl _) | (with_reducible refine Aft.le _ ?_) | (with_reducible refine le_alloc ?_) | (with_reducible refine le_drew ?_) | (with_reducible refine le_setCell ?_) | omega)))⟩
  · have HR := Lib.hid (show fitW 8 wd v a b c = (b == wd) by show (a == wd && b == wd) = _; rw [hE]; rfl)
    go_enter Tryz.func120, Tryz.ntmps120
    go_wp2_with fail
    refine wp_region_aft (by kernel_rfl) (by kernel_rfl) ?_
    repeat (go_big_quiet_step (fail))
    refine wpQuiet_nil ?_
    intro y
    go_wp2
    go_ret
    exact ⟨retB HR.out.symm, Below.aft (by (repeat' (first | (with_reducible exact Below.refl _ _) | (with_reducible assumption) | (with_reducible refine Below.alloc ?_ ?_ _) | (with_reducible refine Below.drew ?_) | (with_reducible refine Aft.below _ ?_ ?_) | (with_reducible refine Below.setCell_new ?_ ?_ _ _) | (with_reducible exact Nat.le_refl _) | (with_reducible refine Aft.le _ ?_) | (with_reducible refine le_alloc ?_) | (with_reducible refine le_drew ?_) | (with_reducible refine le_setCell ?_) | omega)))⟩

set_option maxRecDepth 100000 in
set_option maxHeartbeats 1600000 in
theorem fit_9 (wd v a b c : Int) (hw1 : 1 ≤ wd) (hw2 : wd ≤ 16) (a0 : 0 ≤ a) (a1 : a ≤ 16) (b0 : 0 ≤ b) (b1 : b ≤ 16) (B : Option Addr) (al bc : Nat) (w : World) :
    Calls Tryz.prog 120 #[.agg #[.int .i64 9, .int .i64 wd, .slice B al bc, .int .i64 v], .agg #[.int .i64 a, .int .i64 b, .int .i64 c]] w fun e w' => e = .returned (.bool (fitW 9 wd v a b c)) ∧ ∃ x : Aft w, w' = x.val := by
  cases hE : (a == b)
  · have HR := Lib.hid (show fitW 9 wd v a b c = false by show (a == b && wd == 1) = false; rw [hE]; rfl)
    go_enter Tryz.func120, Tryz.ntmps120
    go_wp2_with fail
    refine wp_region_aft (by kernel_rfl) (by kernel_rfl) ?_
    repeat (go_big_quiet_step (fail))
    refine wpQuiet_nil ?_
    intro y
    go_wp2
    go_ret
    exact ⟨retB HR.out.symm, Below.aft (by (repeat' (first | (with_reducible exact Below.refl _ _) | (with_reducible assumption) | (with_reducible refine Below.alloc ?_ ?_ _) | (with_reducible refine Below.drew ?_) | (with_reducible refine Aft.below _ ?_ ?_) | (with_reducible refine Below.setCell_new ?_ ?_ _ _) | (with_reducible exact Nat.le_refl _) | (with_reducible refine Aft.le _ ?_) | (with_reducible refine le_alloc ?_) | (with_reducible refine le_drew ?_) | (with_reducible refine le_setCell ?_) | omega)))⟩
  · have HR := Lib.hid (show fitW 9 wd v a b c = (wd == 1) by show (a == b && wd == 1) = _; rw [hE]; rfl)
    go_enter Tryz.func120, Tryz.ntmps120
    go_wp2_with fail
    refine wp_region_aft (by kernel_rfl) (by kernel_rfl) ?_
    repeat (go_big_quiet_step (fail))
    refine wpQuiet_nil ?_
    intro y
    go_wp2
    go_ret
    exact ⟨retB HR.out.symm, Below.aft (by (repeat' (first | (with_reducible exact Below.refl _ _) | (with_reducible assumption) | (with_reducible refine Below.alloc ?_ ?_ _) | (with_reducible refine Below.drew ?_) | (with_reducible refine Aft.below _ ?_ ?_) | (with_reducible refine Below.setCell_new ?_ ?_ _ _) | (with_reducible exact Nat.le_refl _) | (with_reducible refine Aft.le _ ?_) | (with_reducible refine le_alloc ?_) | (with_reducible refine le_drew ?_) | (with_reducible refine le_setCell ?_) | omega)))⟩

set_option maxRecDepth 100000 in
set_option maxHeartbeats 1600000 in
theorem fit_10 (wd v a b c : Int) (hw1 : 1 ≤ wd) (hw2 : wd ≤ 16) (a0 : 0 ≤ a) (a1 : a ≤ 16) (b0 : 0 ≤ b) (b1 : b ≤ 16) (B : Option Addr) (al bc : Nat) (w : World) :
    Calls Tryz.prog 120 #[.agg #[.int .i64 10, .int .i64 wd, .slice B al bc, .int .i64 v], .agg #[.int .i64 a, .int .i64 b, .int .i64 c]] w fun e w' => e = .returned (.bool (fitW 10 wd v a b c)) ∧ ∃ x : Aft w, w' = x.val := by
  cases hE : (a == b)
  · have HR := Lib.hid (show fitW 10 wd v a b c = false by show (a == b && wd == 1) = false; rw [hE]; rfl)
    go_enter Tryz.func120, Tryz.ntmps120
    go_wp2_with fail
    refine wp_region_aft (by kernel_rfl) (by kernel_rfl) ?_
    repeat (go_big_quiet_step (fail))
    refine wpQuiet_nil ?_
    intro y
    go_wp2
    go_ret
    exact ⟨retB HR.out.symm, Below.aft (by (repeat' (first | (with_reducible exact Below.refl _ _) | (with_reducible assumption) | (with_reducible refine Below.alloc ?_ ?_ _) | (with_reducible refine Below.drew ?_) | (with_reducible refine Aft.below _ ?_ ?_) | (with_reducible refine Below.setCell_new ?_ ?_ _ _) | (with_reducible exact Nat.le_refl _) | (with_reducible refine Aft.le _ ?_) | (with_reducible refine le_alloc ?_) | (with_reducible refine le_drew ?_) | (with_reducible refine le_setCell ?_) | omega)))⟩
  · have HR := Lib.hid (show fitW 10 wd v a b c = (wd == 1) by show (a == b && wd == 1) = _; rw [hE]; rfl)
    go_enter Tryz.func120, Tryz.ntmps120
    go_wp2_with fail
    refine wp_region_aft (by kernel_rfl) (by kernel_rfl) ?_
    repeat (go_big_quiet_step (fail))
    refine wpQuiet_nil ?_
    intro y
    go_wp2
    go_ret
    exact ⟨retB HR.out.symm, Below.aft (by (repeat' (first | (with_reducible exact Below.refl _ _) | (with_reducible assumption) | (with_reducible refine Below.alloc ?_ ?_ _) | (with_reducible refine Below.drew ?_) | (with_reducible refine Aft.below _ ?_ ?_) | (with_reducible refine Below.setCell_new ?_ ?_ _ _) | (with_reducible exact Nat.le_refl _) | (with_reducible refine Aft.le _ ?_) | (with_reducible refine le_alloc ?_) | (with_reducible refine le_drew ?_) | (with_reducible refine le_setCell ?_) | omega)))⟩

set_option maxRecDepth 100000 in
set_option maxHeartbeats 1600000 in
theorem fit_11 (wd v a b c : Int) (hw1 : 1 ≤ wd) (hw2 : wd ≤ 16) (a0 : 0 ≤ a) (a1 : a ≤ 16) (b0 : 0 ≤ b) (b1 : b ≤ 16) (B : Option Addr) (al bc : Nat) (w : World) :
    Calls Tryz.prog 120 #[.agg #[.int .i64 11, .int .i64 wd, .slice B al bc, .int .i64 v], .agg #[.int .i64 a, .int .i64 b, .int .i64 c]] w fun e w' => e = .returned (.bool (fitW 11 wd v a b c)) ∧ ∃ x : Aft w, w' = x.val := by
  cases hE : (a == b)
  · have HR := Lib.hid (show fitW 11 wd v a b c = false by show (a == b && wd == 1) = false; rw [hE]; rfl)
    go_enter Tryz.func120, Tryz.ntmps120
    go_wp2_with fail
    refine wp_region_aft (by kernel_rfl) (by kernel_rfl) ?_
    repeat (go_big_quiet_step (fail))
    refine wpQuiet_nil ?_
    intro y
    go_wp2
    go_ret
    exact ⟨retB HR.out.symm, Below.aft (by (repeat' (first | (with_reducible exact Below.refl _ _) | (with_reducible assumption) | (with_reducible refine Below.alloc ?_ ?_ _) | (with_reducible refine Below.drew ?_) | (with_reducible refine Aft.below _ ?_ ?_) | (with_reducible refine Below.setCell_new ?_ ?_ _ _) | (with_reducible exact Nat.le_refl _) | (with_reducible refine Aft.le _ ?_) | (with_reducible refine le_alloc ?_) | (with_reducible refine le_drew ?_) | (with_reducible refine le_setCell ?_) | omega)))⟩
  · have HR := Lib.hid (show fitW 11 wd v a b c = (wd == 1) by show (a == b && wd == 1) = _; rw [hE]; rfl)
    go_enter Tryz.func120, Tryz.ntmps120
    go_wp2_with fail
    refine wp_region_aft (by kernel_rfl) (by kernel_rfl) ?_
    repeat (go_big_quiet_step (fail))
    refine wpQuiet_nil ?_
    intro y
    go_wp2
    go_ret
    exact ⟨retB HR.out.symm, Below.aft (by (repeat' (first | (with_reducible exact Below.refl _ _) | (with_reducible assumption) | (with_reducible refine Below.alloc ?_ ?_ _) | (with_reducible refine Below.drew ?_) | (with_reducible refine Aft.below _ ?_ ?_) | (with_reducible refine Below.setCell_new ?_ ?_ _ _) | (with_reducible exact Nat.le_refl _) | (with_reducible refine Aft.le _ ?_) | (with_reducible refine le_alloc ?_) | (with_reducible refine le_drew ?_) | (with_reducible refine le_setCell ?_) | omega)))⟩

set_option maxRecDepth 100000 in
set_option maxHeartbeats 1600000 in
theorem fit_12 (wd v a b c : Int) (hw1 : 1 ≤ wd) (hw2 : wd ≤ 16) (a0 : 0 ≤ a) (a1 : a ≤ 16) (b0 : 0 ≤ b) (b1 : b ≤ 16) (B : Option Addr) (al bc : Nat) (w : World) :
    Calls Tryz.prog 120 #[.agg #[.int .i64 12, .int .i64 wd, .slice B al bc, .int .i64 v], .agg #[.int .i64 a, .int .i64 b, .int .i64 c]] w fun e w' => e = .returned (.bool (fitW 12 wd v a b c)) ∧ ∃ x : Aft w, w' = x.val := by
  cases hE : (a == 1)
  · have HR := Lib.hid (show fitW 12 wd v a b c = false by show (a == 1 && b == wd && c == wd) = false; rw [hE]; rfl)
    go_enter Tryz.func120, Tryz.ntmps120
    go_wp2_with fail
    refine wp_region_aft (by kernel_rfl) (by kernel_rfl) ?_
    repeat (go_big_quiet_step (fail))
    refine wpQuiet_nil ?_
    intro y
    go_wp2
    go_ret
    exact ⟨retB HR.out.symm, Below.aft (by (repeat' (first | (with_reducible exact Below.refl _ _) | (with_reducible assumption) | (with_reducible refine Below.alloc ?_ ?_ _) | (with_reducible refine Below.drew ?_) | (with_reducible refine Aft.below _ ?_ ?_) | (with_reducible refine Below.setCell_new ?_ ?_ _ _) | (with_reducible exact Nat.le_refl _) | (with_reducible refine Aft.le _ ?_) | (with_reducible refine le_alloc ?_) | (with_reducible refine le_drew ?_) | (with_reducible refine le_setCell ?_) | omega)))⟩
  cases hF : (b == wd)
  · have HR := Lib.hid (show fitW 12 wd v a b c = false by show (a == 1 && b == wd && c == wd) = false; rw [hE, hF]; rfl)
    go_enter Tryz.func120, Tryz.ntmps120
    go_wp2_with fail
    refine wp_region_aft (by kernel_rfl) (by kernel_rfl) ?_
    repeat (go_big_quiet_step (fail))
    refine wpQuiet_nil ?_
    intro y
    go_wp2
    go_ret
    exact ⟨retB HR.out.symm, Below.aft (by (repeat' (first | (with_reducible exact Below.refl _ _) | (with_reducible assumption) | (with_reducible refine Below.alloc ?_ ?_ _) | (with_reducible refine Below.drew ?_) | (with_reducible refine Aft.below _ ?_ ?_) | (with_reducible refine Below.setCell_new ?_ ?_ _ _) | (with_reducible exact Nat.le_refl _) | (with_reducible refine Aft.le _ ?_) | (with_reducible refine le_alloc ?_) | (with_reducible refine le_drew ?_) | (with_reducible refine le_setCell ?_) | omega)))⟩
  · have HR := Lib.hid (show fitW 12 wd v a b c = (c == wd) by show (a == 1 && b == wd && c == wd) = _; rw [hE, hF]; rfl)
    go_enter Tryz.func120, Tryz.ntmps120
    go_wp2_with fail
    refine wp_region_aft (by kernel_rfl) (by kernel_rfl) ?_
    repeat (go_big_quiet_step (fail))
    refine wpQuiet_nil ?_
    intro y
    go_wp2
    go_ret
    exact ⟨retB HR.out.symm, Below.aft (by (repeat' (first | (with_reducible exact Below.refl _ _) | (with_reducible assumption) | (with_reducible refine Below.alloc ?_ ?_ _) | (with_reducible refine Below.drew ?_) | (with_reducible refine Aft.below _ ?_ ?_) | (with_reducible refine Below.setCell_new ?_ ?_ _ _) | (with_reducible exact Nat.le_refl _) | (with_reducible refine Aft.le _ ?_) | (with_reducible refine le_alloc ?_) | (with_reducible refine le_drew ?_) | (with_reducible refine le_setCell ?_) | omega)))⟩

set_option maxRecDepth 100000 in
set_option maxHeartbeats 1600000 in
theorem fit_13 (wd v a b c : Int) (hw1 : 1 ≤ wd) (hw2 : wd ≤ 16) (a0 : 0 ≤ a) (a1 : a ≤ 16) (b0 : 0 ≤ b) (b1 : b ≤ 16) (B : Option Addr) (al bc : Nat) (w : World) :
    Calls Tryz.prog 120 #[.agg #[.int .i64 13, .int .i64 wd, .slice B al bc, .int .i64 v], .agg #[.int .i64 a, .int .i64 b, .int .i64 c]] w fun e w' => e = .returned (.bool (fitW 13 wd v a b c)) ∧ ∃ x : Aft w, w' = x.val := by
  have HR := Lib.hid (show fitW 13 wd v a b c = (a + b == wd) from rfl)
  go_enter Tryz.func120, Tryz.ntmps120
  go_wp2_with fail
  refine wp_region_aft (by kernel_rfl) (by kernel_rfl) ?_
  repeat (go_big_quiet_step (fail))
  refine wpQuiet_nil ?_
  intro y
  go_wp2
  go_ret
  exact ⟨retB HR.out.symm, Below.aft (by (repeat' (first | (with_reducible exact Below.refl _ _) | (with_reducible assumption) | (with_reducible refine Below.alloc ?_ ?_ _) | (with_reducible refine Below.drew ?_) | (with_reducible refine Aft.below _ ?_ ?_) | (with_reducible refine Below.setCell_new ?_ ?_ _ _) | (with_reducible exact Nat.le_refl _) | (with_reducible refine Aft.le _ ?_) | (with_reducible refine le_alloc ?_) | (with_reducible refine le_drew ?_) | (with_reducible refine le_setCell ?_) | omega)))⟩

set_option maxRecDepth 100000 in
set_option maxHeartbeats 1600000 in
theorem fit_14 (wd v a b c : Int) (hw1 : 1 ≤ wd) (hw2 : wd ≤ 16) (a0 : 0 ≤ a) (a1 : a ≤ 16) (b0 : 0 ≤ b) (b1 : b ≤ 16) (v0 : 0 ≤ v) (v1 : v ≤ 15) (B : Option Addr) (al bc : Nat) (w : World) :
    Calls Tryz.prog 120 #[.agg #[.int .i64 14, .int .i64 wd, .slice B al bc, .int .i64 v], .agg #[.int .i64 a, .int .i64 b, .int .i64 c]] w fun e w' => e = .returned (.bool (fitW 14 wd v a b c)) ∧ ∃ x : Aft w, w' = x.val := by
  have HR := Lib.hid (show fitW 14 wd v a b c = (decide (v + wd ≤ a)) from rfl)
  go_enter Tryz.func120, Tryz.ntmps120
  go_wp2_with fail
  refine wp_region_aft (by kernel_rfl) (by kernel_rfl) ?_
  repeat (go_big_quiet_step (fail))
  refine wpQuiet_nil ?_
  intro y
  go_wp2
  go_ret
  exact ⟨retB HR.out.symm, Below.aft (by (repeat' (first | (with_reducible exact Below.refl _ _) | (with_reducible assumption) | (with_reducible refine Below.alloc ?_ ?_ _) | (with_reducible refine Below.drew ?_) | (with_reducible refine Aft.below _ ?_ ?_) | (with_reducible refine Below.setCell_new ?_ ?_ _ _) | (with_reducible exact Nat.le_refl _) | (with_reducible refine Aft.le _ ?_) | (with_reducible refine le_alloc ?_) | (with_reducible refine le_drew ?_) | (with_reducible refine le_setCell ?_) | omega)))⟩

set_option maxRecDepth 100000 in
set_option maxHeartbeats 1600000 in
theorem fit_15 (wd v a b c : Int) (hw1 : 1 ≤ wd) (hw2 : wd ≤ 16) (a0 : 0 ≤ a) (a1 : a ≤ 16) (b0 : 0 ≤ b) (b1 : b ≤ 16) (B : Option Addr) (al bc : Nat) (w : World) :
    Calls Tryz.prog 120 #[.agg #[.int .i64 15, .int .i64 wd, .slice B al bc, .int .i64 v], .agg #[.int .i64 a, .int .i64 b, .int .i64 c]] w fun e w' => e = .returned (.bool (fitW 15 wd v a b c)) ∧ ∃ x : Aft w, w' = x.val := by
  have HR := Lib.hid (show fitW 15 wd v a b c = (decide (a ≤ wd)) from rfl)
  go_enter Tryz.func120, Tryz.ntmps120
  go_wp2_with fail
  refine wp_region_aft (by kernel_rfl) (by kernel_rfl) ?_
  repeat (go_big_quiet_step (fail))
  refine wpQuiet_nil ?_
  intro y
  go_wp2
  go_ret
  exact ⟨retB HR.out.symm, Below.aft (by (repeat' (first | (with_reducible exact Below.refl _ _) | (with_reducible assumption) | (with_reducible refine Below.alloc ?_ ?_ _) | (with_reducible refine Below.drew ?_) | (with_reducible refine Aft.below _ ?_ ?_) | (with_reducible refine Below.setCell_new ?_ ?_ _ _) | (with_reducible exact Nat.le_refl _) | (with_reducible refine Aft.le _ ?_) | (with_reducible refine le_alloc ?_) | (with_reducible refine le_drew ?_) | (with_reducible refine le_setCell ?_) | omega)))⟩

set_option maxRecDepth 100000 in
set_option maxHeartbeats 1600000 in
theorem fit_16 (wd v a b c : Int) (hw1 : 1 ≤ wd) (hw2 : wd ≤ 16) (a0 : 0 ≤ a) (a1 : a ≤ 16) (b0 : 0 ≤ b) (b1 : b ≤ 16) (B : Option Addr) (al bc : Nat) (w : World) :
    Calls Tryz.prog 120 #[.agg #[.int .i64 16, .int .i64 wd, .slice B al bc, .int .i64 v], .agg #[.int .i64 a, .int .i64 b, .int .i64 c]] w fun e w' => e = .returned (.bool (fitW 16 wd v a b c)) ∧ ∃ x : Aft w, w' = x.val := by
  have HR := Lib.hid (show fitW 16 wd v a b c = (decide (a ≤ wd)) from rfl)
  go_enter Tryz.func120, Tryz.ntmps120
  go_wp2_with fail
  refine wp_region_aft (by kernel_rfl) (by kernel_rfl) ?_
  repeat (go_big_quiet_step (fail))
  refine wpQuiet_nil ?_
  intro y
  go_wp2
  go_ret
  exact ⟨retB HR.out.symm, Below.aft (by (repeat' (first | (with_reducible exact Below.refl _ _) | (with_reducible assumption) | (with_reducible refine Below.alloc ?_ ?_ _) | (with_reducible refine Below.drew ?_) | (with_reducible refine Aft.below _ ?_ ?_) | (with_reducible refine Below.setCell_new ?_ ?_ _ _) | (with_reducible exact Nat.le_refl _) | (with_reducible refine Aft.le _ ?_) | (with_reducible refine le_alloc ?_) | (with_reducible refine le_drew ?_) | (with_reducible refine le_setCell ?_) | omega)))⟩

set_option maxRecDepth 100000 in
set_option maxHeartbeats 1600000 in
theorem fit_17 (wd v a b c : Int) (hw1 : 1 ≤ wd) (hw2 : wd ≤ 16) (a0 : 0 ≤ a) (a1 : a ≤ 16) (b0 : 0 ≤ b) (b1 : b ≤ 16) (B : Option Addr) (al bc : Nat) (w : World) :
    Calls Tryz.prog 120 #[.agg #[.int .i64 17, .int .i64 wd, .slice B al bc, .int .i64 v], .agg #[.int .i64 a, .int .i64 b, .int .i64 c]] w fun e w' => e = .returned (.bool (fitW 17 wd v a b c)) ∧ ∃ x : Aft w, w' = x.val := by
  have HR := Lib.hid (show fitW 17 wd v a b c = (a == wd) from rfl)
  go_enter Tryz.func120, Tryz.ntmps120
  go_wp2_with fail
  refine wp_region_aft (by kernel_rfl) (by kernel_rfl) ?_
  repeat (go_big_quiet_step (fail))
  refine wpQuiet_nil ?_
  intro y
  go_wp2
  go_ret
  exact ⟨retB HR.out.symm, Below.aft (by (repeat' (first | (with_reducible exact Below.refl _ _) | (with_reducible assumption) | (with_reducible refine Below.alloc ?_ ?_ _) | (with_reducible refine Below.drew ?_) | (with_reducible refine Aft.below _ ?_ ?_) | (with_reducible refine Below.setCell_new ?_ ?_ _ _) | (with_reducible exact Nat.le_refl _) | (with_reducible refine Aft.le _ ?_) | (with_reducible refine le_alloc ?_) | (with_reducible refine le_drew ?_) | (with_reducible refine le_setCell ?_) | omega)))⟩

set_option maxRecDepth 100000 in
set_option maxHeartbeats 1600000 in
theorem fit_18 (wd v a b c : Int) (hw1 : 1 ≤ wd) (hw2 : wd ≤ 16) (a0 : 0 ≤ a) (a1 : a ≤ 16) (b0 : 0 ≤ b) (b1 : b ≤ 16) (B : Option Addr) (al bc : Nat) (w : World) :
    Calls Tryz.prog 120 #[.agg #[.int .i64 18, .int .i64 wd, .slice B al bc, .int .i64 v], .agg #[.int .i64 a, .int .i64 b, .int .i64 c]] w fun e w' => e = .returned (.bool (fitW 18 wd v a b c)) ∧ ∃ x : Aft w, w' = x.val := by
  have HR := Lib.hid (show fitW 18 wd v a b c = (a == wd) from rfl)
  go_enter Tryz.func120, Tryz.ntmps120
  go_wp2_with fail
  refine wp_region_aft (by kernel_rfl) (by kernel_rfl) ?_
  repeat (go_big_quiet_step (fail))
  refine wpQuiet_nil ?_
  intro y
  go_wp2
  go_ret
  exact ⟨retB HR.out.symm, Below.aft (by (repeat' (first | (with_reducible exact Below.refl _ _) | (with_reducible assumption) | (with_reducible refine Below.alloc ?_ ?_ _) | (with_reducible refine Below.drew ?_) | (with_reducible refine Aft.below _ ?_ ?_) | (with_reducible refine Below.setCell_new ?_ ?_ _ _) | (with_reducible exact Nat.le_refl _) | (with_reducible refine Aft.le _ ?_) | (with_reducible refine le_alloc ?_) | (with_reducible refine le_drew ?_) | (with_reducible refine le_setCell ?_) | omega)))⟩

theorem widthsFit_c (op wd v a b c : Int) (ho : 0 ≤ op) (ho2 : op ≤ 18) (hw1 : 1 ≤ wd) (hw2 : wd ≤ 16) (ha : 0 ≤ a ∧ a ≤ 16) (hb : 0 ≤ b ∧ b ≤ 16) (hv : op = 14 → 0 ≤ v ∧ v ≤ 15) (B : Option Addr) (al bc : Nat) (w : World) :
    Calls Tryz.prog 120 #[.agg #[.int .i64 op, .int .i64 wd, .slice B al bc, .int .i64 v], .agg #[.int .i64 a, .int .i64 b, .int .i64 c]] w fun e w' => e = .returned (.bool (fitW op wd v a b c)) ∧ ∃ x : Aft w, w' = x.val := by
  obtain ⟨a0, a1⟩ := ha
  obtain ⟨b0, b1⟩ := hb
  have hcase : op = 0 ∨ op = 1 ∨ op = 2 ∨ op = 3 ∨ op = 4 ∨ op = 5 ∨ op = 6 ∨ op = 7 ∨ op = 8 ∨ op = 9 ∨ op = 10 ∨ op = 11 ∨ op = 12 ∨ op = 13 ∨ op = 14 ∨ op = 15 ∨ op = 16 ∨ op = 17 ∨ op = 18 := by omega
  rcases hcase with rfl | rfl | rfl | rfl | rfl | rfl | rfl | rfl | rfl | rfl | rfl | rfl | rfl | rfl | rfl | rfl | rfl | rfl | rfl
  · exact fit_0 wd v a b c hw1 hw2 a0 a1 b0 b1 B al bc w
  · exact fit_1 wd v a b c hw1 hw2 a0 a1 b0 b1 B al bc w
  · exact fit_2 wd v a b c hw1 hw2 a0 a1 b0 b1 B al bc w
  · exact fit_3 wd v a b c hw1 hw2 a0 a1 b0 b1 B al bc w
  · exact fit_4 wd v a b c hw1 hw2 a0 a1 b0 b1 B al bc w
  · exact fit_5 wd v a b c hw1 hw2 a0 a1 b0 b1 B al bc w
  · exact fit_6 wd v a b c hw1 hw2 a0 a1 b0 b1 B al bc w
  · exact fit_7 wd v a b c hw1 hw2 a0 a1 b0 b1 B al bc w
  · exact fit_8 wd v a b c hw1 hw2 a0 a1 b0 b1 B al bc w
  · exact fit_9 wd v a b c hw1 hw2 a0 a1 b0 b1 B al bc w
  · exact fit_10 wd v a b c hw1 hw2 a0 a1 b0 b1 B al bc w
  · exact fit_11 wd v a b c hw1 hw2 a0 a1 b0 b1 B al bc w
  · exact fit_12 wd v a b c hw1 hw2 a0 a1 b0 b1 B al bc w
  · exact fit_13 wd v a b c hw1 hw2 a0 a1 b0 b1 B al bc w
  · exact fit_14 wd v a b c hw1 hw2 a0 a1 b0 b1 (hv rfl).1 (hv rfl).2 B al bc w
  · exact fit_15 wd v a b c hw1 hw2 a0 a1 b0 b1 B al bc w
  · exact fit_16 wd v a b c hw1 hw2 a0 a1 b0 b1 B al bc w
  · exact fit_17 wd v a b c hw1 hw2 a0 a1 b0 b1 B al bc w
  · exact fit_18 wd v a b c hw1 hw2 a0 a1 b0 b1 B al bc w

end Go.Proofs.YtkdonapgonegkaaGreatDoor

set_option linter.unusedSimpArgs false
set_option linter.unusedVariables false
namespace Go.Proofs.YtkdonapgonegkaaGreatDoor
open Go.RowKit Go.BigFrame

theorem heap_set {w : World} {g k : Nat} {T : TypeId} {arr : Array Value} {v : Value} (h : w.heap[g]? = some (.cells arr T)) : (w.setCell ⟨g, k, none⟩ v).heap[g]? = some (.cells (arr.setIfInBounds k v) T) := by
  simp [World.setCell, Array.getElem?_modify, h]
theorem heap_set_ne {w : World} {g m k : Nat} {o : Obj} {v : Value} (h : w.heap[g]? = some o) (hne : ¬ m = g) : (w.setCell ⟨m, k, none⟩ v).heap[g]? = some o := (heap_setCell_ne hne).trans h
theorem wAt_in {before : List Nd} {args : List Int} {k i : Nat} {n : Nd} (ha : args[i]? = some (k : Int)) (hn : before[k]? = some n) : wAt before args i = n.wd := by
  unfold wAt; rw [ha]; simp [hn]
theorem wAt_out {before : List Nd} {args : List Int} {i : Nat} (ha : args.length ≤ i) : wAt before args i = 0 := by
  unfold wAt; rw [List.getElem?_eq_none ha]

theorem errorOfNode1_c (k : Nat) (P : Nat) (A : Option Addr) (cap : Nat) (before : List Nd) (n : Nd) (hn : before[k]? = some n) (hl : before.length ≤ 65536) (w : World) (c0 : w.cell? ⟨P, 0, none⟩ = some (.slice A before.length cap)) (h : LiesN w A before) :
    Calls Tryz.prog 119 #[.int .i64 k, .pointer (some ⟨P, 0, none⟩)] w fun e w' => e = .returned (.int .i64 n.wd) ∧ w = w' := by
  obtain ⟨ad, rfl, hb, h0, h1, _⟩ := h.cells hn
  have hk := (List.getElem?_eq_some_iff.1 hn).1
  have hkk : (k : Int) < before.length := by omega
  have h1' : w.cell? ⟨(ad.add (k * 4)).block, (ad.add (k * 4)).off + 1, none⟩ = some (.int .i64 n.wd) := h1
  clear hn h h0 h1
  go_enter Tryz.func119, Tryz.ntmps119
  go_wp2
  go_ret
  exact ⟨rfl, rfl⟩

set_option maxRecDepth 100000 in
set_option maxHeartbeats 1600000 in
theorem argsOf0 (op wd v : Int) (B : Option Addr) (bc : Nat) (P : Nat) (A : Option Addr) (cap : Nat) (before : List Nd) (hl : before.length ≤ 65536)  (w : World) (lP : P < w.heap.size) (c0 : w.cell? ⟨P, 0, none⟩ = some (.slice A before.length cap)) (h : LiesN w A before) (hB : LiesI w B []) :
    Calls Tryz.prog 65 #[.agg #[.int .i64 op, .int .i64 wd, .slice B 0 bc, .int .i64 v], .func (.func 119) #[] #[.pointer (some ⟨P, 0, none⟩)]] w fun e w' => e = .returned (.agg #[.int .i64 0, .int .i64 0, .int .i64 0]) ∧ ∃ x : Aft w, w' = x.val := by
  clear h hB c0 
  go_enter Tryz.func65, Tryz.ntmps65
  go_wp2_with fail
  have rL : (((w.alloc (.cells #[.int .i64 op, .int .i64 wd, .slice B 0 bc, .int .i64 v] 61)).alloc (.cells #[.int .i64 0, .int .i64 0, .int .i64 0] 67)).alloc (.cells #[.int .i64 0, .int .i64 0, .int .i64 0] 67)).heap[w.heap.size + 2]? = some (.cells #[.int .i64 0, .int .i64 0, .int .i64 0] 67) := by
    exact heap_alloc_at (by simp)
  have rR : (((w.alloc (.cells #[.int .i64 op, .int .i64 wd, .slice B 0 bc, .int .i64 v] 61)).alloc (.cells #[.int .i64 0, .int .i64 0, .int .i64 0] 67)).alloc (.cells #[.int .i64 0, .int .i64 0, .int .i64 0] 67)).heap[w.heap.size + 1]? = some (.cells #[.int .i64 0, .int .i64 0, .int .i64 0] 67) := by
    exact heap_alloc' (by simp) (heap_alloc_at (by simp))
  have rN : (((w.alloc (.cells #[.int .i64 op, .int .i64 wd, .slice B 0 bc, .int .i64 v] 61)).alloc (.cells #[.int .i64 0, .int .i64 0, .int .i64 0] 67)).alloc (.cells #[.int .i64 0, .int .i64 0, .int .i64 0] 67)).heap[w.heap.size]? = some (.cells #[.int .i64 op, .int .i64 wd, .slice B 0 bc, .int .i64 v] 61) := heap_alloc' (by simp; omega) (heap_alloc' (by simp) (heap_alloc_new _ _))
  have hb0 : Below w.heap.size w (((w.alloc (.cells #[.int .i64 op, .int .i64 wd, .slice B 0 bc, .int .i64 v] 61)).alloc (.cells #[.int .i64 0, .int .i64 0, .int .i64 0] 67)).alloc (.cells #[.int .i64 0, .int .i64 0, .int .i64 0] 67)) := (((Below.refl _ _).alloc (Nat.le_refl _) _).alloc (by simp) _).alloc (by simp; omega) _
  have qN := cell_block (i := 2) rN
  simp at qN
  generalize (((w.alloc (.cells #[.int .i64 op, .int .i64 wd, .slice B 0 bc, .int .i64 v] 61)).alloc (.cells #[.int .i64 0, .int .i64 0, .int .i64 0] 67)).alloc (.cells #[.int .i64 0, .int .i64 0, .int .i64 0] 67)) = W0 at *
  refine wp_loop_rounds 1 ?_
  rw [rounds_succ]
  have u0 := cell_block (i := 0) rL
  have u1 := cell_block (i := 1) rL
  have u2 := cell_block (i := 2) rL
  have p0 := cell_block (i := 0) rR
  have p1 := cell_block (i := 1) rR
  have p2 := cell_block (i := 2) rR
  have f0 := free_block (i := 0) rR
  have f1 := free_block (i := 1) rR
  have f2 := free_block (i := 2) rR
  simp at u0 u1 u2 p0 p1 p2
  go_wp2
  refine bodyPost_ret (by simp [results, Tryz.results65, go_sem, p0, p1, p2]; try rfl) rfl ?_
  exact ⟨rfl, Below.aft (by (repeat' (first | (with_reducible exact Below.refl _ _) | (with_reducible assumption) | (with_reducible refine Below.alloc ?_ ?_ _) | (with_reducible refine Below.drew ?_) | (with_reducible refine Aft.below _ ?_ ?_) | (with_reducible refine Below.setCell_new ?_ ?_ _ _) | (with_reducible exact Nat.le_refl _) | (with_reducible refine Aft.le _ ?_) | (with_reducible refine le_alloc ?_) | (with_reducible refine le_drew ?_) | (with_reducible refine le_setCell ?_) | omega)))⟩

set_option maxRecDepth 100000 in
set_option maxHeartbeats 1600000 in
theorem argsOf1 (op wd v : Int) (B : Option Addr) (bc : Nat) (P : Nat) (A : Option Addr) (cap : Nat) (before : List Nd) (hl : before.length ≤ 65536) (k0 : Nat) (n0 : Nd) (g0 : before[k0]? = some n0) (w : World) (lP : P < w.heap.size) (c0 : w.cell? ⟨P, 0, none⟩ = some (.slice A before.length cap)) (h : LiesN w A before) (hB : LiesI w B [(k0 : Int)]) :
    Calls Tryz.prog 65 #[.agg #[.int .i64 op, .int .i64 wd, .slice B 1 bc, .int .i64 v], .func (.func 119) #[] #[.pointer (some ⟨P, 0, none⟩)]] w fun e w' => e = .returned (.agg #[.int .i64 n0.wd, .int .i64 0, .int .i64 0]) ∧ ∃ x : Aft w, w' = x.val := by
  have HC0 := Lib.hid (fun (W : World) (hb : Below w.heap.size w W) => errorOfNode1_c k0 P A cap before n0 g0 hl W ((hb.cell (p := ⟨P, 0, none⟩) lP).trans c0) (h.below hb))
  obtain ⟨ad, rfl, hbk, hcell⟩ := hB (by simp)
  have hx0 := hcell 0 k0 (by rfl)
  have HX := Lib.hid (fun (W : World) (hb : Below w.heap.size w W) (i : Nat) => (hb.cell (p := ad.add i) (by rw [addB]; exact hbk)))
  clear h hB c0 hcell
  go_enter Tryz.func65, Tryz.ntmps65
  go_wp2_with fail
  have rL : (((w.alloc (.cells #[.int .i64 op, .int .i64 wd, .slice (some ad) 1 bc, .int .i64 v] 61)).alloc (.cells #[.int .i64 0, .int .i64 0, .int .i64 0] 67)).alloc (.cells #[.int .i64 0, .int .i64 0, .int .i64 0] 67)).heap[w.heap.size + 2]? = some (.cells #[.int .i64 0, .int .i64 0, .int .i64 0] 67) := by
    exact heap_alloc_at (by simp)
  have rR : (((w.alloc (.cells #[.int .i64 op, .int .i64 wd, .slice (some ad) 1 bc, .int .i64 v] 61)).alloc (.cells #[.int .i64 0, .int .i64 0, .int .i64 0] 67)).alloc (.cells #[.int .i64 0, .int .i64 0, .int .i64 0] 67)).heap[w.heap.size + 1]? = some (.cells #[.int .i64 0, .int .i64 0, .int .i64 0] 67) := by
    exact heap_alloc' (by simp) (heap_alloc_at (by simp))
  have rN : (((w.alloc (.cells #[.int .i64 op, .int .i64 wd, .slice (some ad) 1 bc, .int .i64 v] 61)).alloc (.cells #[.int .i64 0, .int .i64 0, .int .i64 0] 67)).alloc (.cells #[.int .i64 0, .int .i64 0, .int .i64 0] 67)).heap[w.heap.size]? = some (.cells #[.int .i64 op, .int .i64 wd, .slice (some ad) 1 bc, .int .i64 v] 61) := heap_alloc' (by simp; omega) (heap_alloc' (by simp) (heap_alloc_new _ _))
  have hb0 : Below w.heap.size w (((w.alloc (.cells #[.int .i64 op, .int .i64 wd, .slice (some ad) 1 bc, .int .i64 v] 61)).alloc (.cells #[.int .i64 0, .int .i64 0, .int .i64 0] 67)).alloc (.cells #[.int .i64 0, .int .i64 0, .int .i64 0] 67)) := (((Below.refl _ _).alloc (Nat.le_refl _) _).alloc (by simp) _).alloc (by simp; omega) _
  have qN := cell_block (i := 2) rN
  simp at qN
  generalize (((w.alloc (.cells #[.int .i64 op, .int .i64 wd, .slice (some ad) 1 bc, .int .i64 v] 61)).alloc (.cells #[.int .i64 0, .int .i64 0, .int .i64 0] 67)).alloc (.cells #[.int .i64 0, .int .i64 0, .int .i64 0] 67)) = W0 at *
  have cc0 : W0.cell? ad = some (.int .i64 k0) := (HX.out _ hb0 0).trans hx0
  refine wp_loop_rounds 2 ?_
  rw [rounds_succ]
  have qL0 := cell_block (i := 0) rL
  have fL0 := free_block (i := 0) rL
  simp at qL0
  go_wp2_with fail
  refine (HC0.out _ hb0).mono ?_
  rintro e w' ⟨rfl, rfl⟩
  have rL1 : (W0.setCell ⟨w.heap.size + 2, 0, none⟩ (.int .i64 n0.wd)).heap[w.heap.size + 2]? = some (.cells #[.int .i64 n0.wd, .int .i64 0, .int .i64 0] 67) := heap_set rL
  have rR1 : (W0.setCell ⟨w.heap.size + 2, 0, none⟩ (.int .i64 n0.wd)).heap[w.heap.size + 1]? = some (.cells #[.int .i64 0, .int .i64 0, .int .i64 0] 67) := heap_set_ne rR (by omega)
  have hb1 : Below w.heap.size w (W0.setCell ⟨w.heap.size + 2, 0, none⟩ (.int .i64 n0.wd)) := hb0.setCell (by first | omega | (simp; done) | (simp; omega)) _
  go_wp2_with fail
  clear rL rR cc0 qL0 fL0
  have rL := rL1
  have rR := rR1
  clear rL1 rR1
  generalize W0.setCell ⟨w.heap.size + 2, 0, none⟩ (.int .i64 n0.wd) = W1 at *
  rw [rounds_succ]
  have u0 := cell_block (i := 0) rL
  have u1 := cell_block (i := 1) rL
  have u2 := cell_block (i := 2) rL
  have p0 := cell_block (i := 0) rR
  have p1 := cell_block (i := 1) rR
  have p2 := cell_block (i := 2) rR
  have f0 := free_block (i := 0) rR
  have f1 := free_block (i := 1) rR
  have f2 := free_block (i := 2) rR
  simp at u0 u1 u2 p0 p1 p2
  go_wp2
  refine bodyPost_ret (by simp [results, Tryz.results65, go_sem, p0, p1, p2]; try rfl) rfl ?_
  exact ⟨rfl, Below.aft (by (repeat' (first | (with_reducible exact Below.refl _ _) | (with_reducible assumption) | (with_reducible refine Below.alloc ?_ ?_ _) | (with_reducible refine Below.drew ?_) | (with_reducible refine Aft.below _ ?_ ?_) | (with_reducible refine Below.setCell_new ?_ ?_ _ _) | (with_reducible exact Nat.le_refl _) | (with_reducible refine Aft.le _ ?_) | (with_reducible refine le_alloc ?_) | (with_reducible refine le_drew ?_) | (with_reducible refine le_setCell ?_) | omega)))⟩

set_option maxRecDepth 100000 in
set_option maxHeartbeats 1600000 in
theorem argsOf2 (op wd v : Int) (B : Option Addr) (bc : Nat) (P : Nat) (A : Option Addr) (cap : Nat) (before : List Nd) (hl : before.length ≤ 65536) (k0 : Nat) (n0 : Nd) (g0 : before[k0]? = some n0) (k1 : Nat) (n1 : Nd) (g1 : before[k1]? = some n1) (w : World) (lP : P < w.heap.size) (c0 : w.cell? ⟨P, 0, none⟩ = some (.slice A before.length cap)) (h : LiesN w A before) (hB : LiesI w B [(k0 : Int), (k1 : Int)]) :
    Calls Tryz.prog 65 #[.agg #[.int .i64 op, .int .i64 wd, .slice B 2 bc, .int .i64 v], .func (.func 119) #[] #[.pointer (some ⟨P, 0, none⟩)]] w fun e w' => e = .returned (.agg #[.int .i64 n0.wd, .int .i64 n1.wd, .int .i64 0]) ∧ ∃ x : Aft w, w' = x.val := by
  have HC0 := Lib.hid (fun (W : World) (hb : Below w.heap.size w W) => errorOfNode1_c k0 P A cap before n0 g0 hl W ((hb.cell (p := ⟨P, 0, none⟩) lP).trans c0) (h.below hb))
  have HC1 := Lib.hid (fun (W : World) (hb : Below w.heap.size w W) => errorOfNode1_c k1 P A cap before n1 g1 hl W ((hb.cell (p := ⟨P, 0, none⟩) lP).trans c0) (h.below hb))
  obtain ⟨ad, rfl, hbk, hcell⟩ := hB (by simp)
  have hx0 := hcell 0 k0 (by rfl)
  have hx1 := hcell 1 k1 (by rfl)
  have HX := Lib.hid (fun (W : World) (hb : Below w.heap.size w W) (i : Nat) => (hb.cell (p := ad.add i) (by rw [addB]; exact hbk)))
  clear h hB c0 hcell
  go_enter Tryz.func65, Tryz.ntmps65
  go_wp2_with fail
  have rL : (((w.alloc (.cells #[.int .i64 op, .int .i64 wd, .slice (some ad) 2 bc, .int .i64 v] 61)).alloc (.cells #[.int .i64 0, .int .i64 0, .int .i64 0] 67)).alloc (.cells #[.int .i64 0, .int .i64 0, .int .i64 0] 67)).heap[w.heap.size + 2]? = some (.cells #[.int .i64 0, .int .i64 0, .int .i64 0] 67) := by
    exact heap_alloc_at (by simp)
  have rR : (((w.alloc (.cells #[.int .i64 op, .int .i64 wd, .slice (some ad) 2 bc, .int .i64 v] 61)).alloc (.cells #[.int .i64 0, .int .i64 0, .int .i64 0] 67)).alloc (.cells #[.int .i64 0, .int .i64 0, .int .i64 0] 67)).heap[w.heap.size + 1]? = some (.cells #[.int .i64 0, .int .i64 0, .int .i64 0] 67) := by
    exact heap_alloc' (by simp) (heap_alloc_at (by simp))
  have rN : (((w.alloc (.cells #[.int .i64 op, .int .i64 wd, .slice (some ad) 2 bc, .int .i64 v] 61)).alloc (.cells #[.int .i64 0, .int .i64 0, .int .i64 0] 67)).alloc (.cells #[.int .i64 0, .int .i64 0, .int .i64 0] 67)).heap[w.heap.size]? = some (.cells #[.int .i64 op, .int .i64 wd, .slice (some ad) 2 bc, .int .i64 v] 61) := heap_alloc' (by simp; omega) (heap_alloc' (by simp) (heap_alloc_new _ _))
  have hb0 : Below w.heap.size w (((w.alloc (.cells #[.int .i64 op, .int .i64 wd, .slice (some ad) 2 bc, .int .i64 v] 61)).alloc (.cells #[.int .i64 0, .int .i64 0, .int .i64 0] 67)).alloc (.cells #[.int .i64 0, .int .i64 0, .int .i64 0] 67)) := (((Below.refl _ _).alloc (Nat.le_refl _) _).alloc (by simp) _).alloc (by simp; omega) _
  have qN := cell_block (i := 2) rN
  simp at qN
  generalize (((w.alloc (.cells #[.int .i64 op, .int .i64 wd, .slice (some ad) 2 bc, .int .i64 v] 61)).alloc (.cells #[.int .i64 0, .int .i64 0, .int .i64 0] 67)).alloc (.cells #[.int .i64 0, .int .i64 0, .int .i64 0] 67)) = W0 at *
  have cc0 : W0.cell? ad = some (.int .i64 k0) := (HX.out _ hb0 0).trans hx0
  refine wp_loop_rounds 3 ?_
  rw [rounds_succ]
  have qL0 := cell_block (i := 0) rL
  have fL0 := free_block (i := 0) rL
  simp at qL0
  go_wp2_with fail
  refine (HC0.out _ hb0).mono ?_
  rintro e w' ⟨rfl, rfl⟩
  have rL1 : (W0.setCell ⟨w.heap.size + 2, 0, none⟩ (.int .i64 n0.wd)).heap[w.heap.size + 2]? = some (.cells #[.int .i64 n0.wd, .int .i64 0, .int .i64 0] 67) := heap_set rL
  have rR1 : (W0.setCell ⟨w.heap.size + 2, 0, none⟩ (.int .i64 n0.wd)).heap[w.heap.size + 1]? = some (.cells #[.int .i64 0, .int .i64 0, .int .i64 0] 67) := heap_set_ne rR (by omega)
  have hb1 : Below w.heap.size w (W0.setCell ⟨w.heap.size + 2, 0, none⟩ (.int .i64 n0.wd)) := hb0.setCell (by first | omega | (simp; done) | (simp; omega)) _
  go_wp2_with fail
  clear rL rR cc0 qL0 fL0
  have rL := rL1
  have rR := rR1
  clear rL1 rR1
  generalize W0.setCell ⟨w.heap.size + 2, 0, none⟩ (.int .i64 n0.wd) = W1 at *
  have cc1 : W1.cell? ⟨ad.block, ad.off + 1, none⟩ = some (.int .i64 k1) := (HX.out _ hb1 1).trans hx1
  rw [rounds_succ]
  have qL1 := cell_block (i := 1) rL
  have fL1 := free_block (i := 1) rL
  simp at qL1
  go_wp2_with fail
  refine (HC1.out _ hb1).mono ?_
  rintro e w' ⟨rfl, rfl⟩
  have rL1 : (W1.setCell ⟨w.heap.size + 2, 1, none⟩ (.int .i64 n1.wd)).heap[w.heap.size + 2]? = some (.cells #[.int .i64 n0.wd, .int .i64 n1.wd, .int .i64 0] 67) := heap_set rL
  have rR1 : (W1.setCell ⟨w.heap.size + 2, 1, none⟩ (.int .i64 n1.wd)).heap[w.heap.size + 1]? = some (.cells #[.int .i64 0, .int .i64 0, .int .i64 0] 67) := heap_set_ne rR (by omega)
  have hb2 : Below w.heap.size w (W1.setCell ⟨w.heap.size + 2, 1, none⟩ (.int .i64 n1.wd)) := hb1.setCell (by first | omega | (simp; done) | (simp; omega)) _
  go_wp2_with fail
  clear rL rR cc1 qL1 fL1
  have rL := rL1
  have rR := rR1
  clear rL1 rR1
  generalize W1.setCell ⟨w.heap.size + 2, 1, none⟩ (.int .i64 n1.wd) = W2 at *
  rw [rounds_succ]
  have u0 := cell_block (i := 0) rL
  have u1 := cell_block (i := 1) rL
  have u2 := cell_block (i := 2) rL
  have p0 := cell_block (i := 0) rR
  have p1 := cell_block (i := 1) rR
  have p2 := cell_block (i := 2) rR
  have f0 := free_block (i := 0) rR
  have f1 := free_block (i := 1) rR
  have f2 := free_block (i := 2) rR
  simp at u0 u1 u2 p0 p1 p2
  go_wp2
  refine bodyPost_ret (by simp [results, Tryz.results65, go_sem, p0, p1, p2]; try rfl) rfl ?_
  exact ⟨rfl, Below.aft (by (repeat' (first | (with_reducible exact Below.refl _ _) | (with_reducible assumption) | (with_reducible refine Below.alloc ?_ ?_ _) | (with_reducible refine Below.drew ?_) | (with_reducible refine Aft.below _ ?_ ?_) | (with_reducible refine Below.setCell_new ?_ ?_ _ _) | (with_reducible exact Nat.le_refl _) | (with_reducible refine Aft.le _ ?_) | (with_reducible refine le_alloc ?_) | (with_reducible refine le_drew ?_) | (with_reducible refine le_setCell ?_) | omega)))⟩

set_option maxRecDepth 100000 in
set_option maxHeartbeats 1600000 in
theorem argsOf3 (op wd v : Int) (B : Option Addr) (bc : Nat) (P : Nat) (A : Option Addr) (cap : Nat) (before : List Nd) (hl : before.length ≤ 65536) (k0 : Nat) (n0 : Nd) (g0 : before[k0]? = some n0) (k1 : Nat) (n1 : Nd) (g1 : before[k1]? = some n1) (k2 : Nat) (n2 : Nd) (g2 : before[k2]? = some n2) (w : World) (lP : P < w.heap.size) (c0 : w.cell? ⟨P, 0, none⟩ = some (.slice A before.length cap)) (h : LiesN w A before) (hB : LiesI w B [(k0 : Int), (k1 : Int), (k2 : Int)]) :
    Calls Tryz.prog 65 #[.agg #[.int .i64 op, .int .i64 wd, .slice B 3 bc, .int .i64 v], .func (.func 119) #[] #[.pointer (some ⟨P, 0, none⟩)]] w fun e w' => e = .returned (.agg #[.int .i64 n0.wd, .int .i64 n1.wd, .int .i64 n2.wd]) ∧ ∃ x : Aft w, w' = x.val := by
  have HC0 := Lib.hid (fun (W : World) (hb : Below w.heap.size w W) => errorOfNode1_c k0 P A cap before n0 g0 hl W ((hb.cell (p := ⟨P, 0, none⟩) lP).trans c0) (h.below hb))
  have HC1 := Lib.hid (fun (W : World) (hb : Below w.heap.size w W) => errorOfNode1_c k1 P A cap before n1 g1 hl W ((hb.cell (p := ⟨P, 0, none⟩) lP).trans c0) (h.below hb))
  have HC2 := Lib.hid (fun (W : World) (hb : Below w.heap.size w W) => errorOfNode1_c k2 P A cap before n2 g2 hl W ((hb.cell (p := ⟨P, 0, none⟩) lP).trans c0) (h.below hb))
  obtain ⟨ad, rfl, hbk, hcell⟩ := hB (by simp)
  have hx0 := hcell 0 k0 (by rfl)
  have hx1 := hcell 1 k1 (by rfl)
  have hx2 := hcell 2 k2 (by rfl)
  have HX := Lib.hid (fun (W : World) (hb : Below w.heap.size w W) (i : Nat) => (hb.cell (p := ad.add i) (by rw [addB]; exact hbk)))
  clear h hB c0 hcell
  go_enter Tryz.func65, Tryz.ntmps65
  go_wp2_with fail
  have rL : (((w.alloc (.cells #[.int .i64 op, .int .i64 wd, .slice (some ad) 3 bc, .int .i64 v] 61)).alloc (.cells #[.int .i64 0, .int .i64 0, .int .i64 0] 67)).alloc (.cells #[.int .i64 0, .int .i64 0, .int .i64 0] 67)).heap[w.heap.size + 2]? = some (.cells #[.int .i64 0, .int .i64 0, .int .i64 0] 67) := by
    exact heap_alloc_at (by simp)
  have rR : (((w.alloc (.cells #[.int .i64 op, .int .i64 wd, .slice (some ad) 3 bc, .int .i64 v] 61)).alloc (.cells #[.int .i64 0, .int .i64 0, .int .i64 0] 67)).alloc (.cells #[.int .i64 0, .int .i64 0, .int .i64 0] 67)).heap[w.heap.size + 1]? = some (.cells #[.int .i64 0, .int .i64 0, .int .i64 0] 67) := by
    exact heap_alloc' (by simp) (heap_alloc_at (by simp))
  have rN : (((w.alloc (.cells #[.int .i64 op, .int .i64 wd, .slice (some ad) 3 bc, .int .i64 v] 61)).alloc (.cells #[.int .i64 0, .int .i64 0, .int .i64 0] 67)).alloc (.cells #[.int .i64 0, .int .i64 0, .int .i64 0] 67)).heap[w.heap.size]? = some (.cells #[.int .i64 op, .int .i64 wd, .slice (some ad) 3 bc, .int .i64 v] 61) := heap_alloc' (by simp; omega) (heap_alloc' (by simp) (heap_alloc_new _ _))
  have hb0 : Below w.heap.size w (((w.alloc (.cells #[.int .i64 op, .int .i64 wd, .slice (some ad) 3 bc, .int .i64 v] 61)).alloc (.cells #[.int .i64 0, .int .i64 0, .int .i64 0] 67)).alloc (.cells #[.int .i64 0, .int .i64 0, .int .i64 0] 67)) := (((Below.refl _ _).alloc (Nat.le_refl _) _).alloc (by simp) _).alloc (by simp; omega) _
  have qN := cell_block (i := 2) rN
  simp at qN
  generalize (((w.alloc (.cells #[.int .i64 op, .int .i64 wd, .slice (some ad) 3 bc, .int .i64 v] 61)).alloc (.cells #[.int .i64 0, .int .i64 0, .int .i64 0] 67)).alloc (.cells #[.int .i64 0, .int .i64 0, .int .i64 0] 67)) = W0 at *
  have cc0 : W0.cell? ad = some (.int .i64 k0) := (HX.out _ hb0 0).trans hx0
  refine wp_loop_rounds 4 ?_
  rw [rounds_succ]
  have qL0 := cell_block (i := 0) rL
  have fL0 := free_block (i := 0) rL
  simp at qL0
  go_wp2_with fail
  refine (HC0.out _ hb0).mono ?_
  rintro e w' ⟨rfl, rfl⟩
  have rL1 : (W0.setCell ⟨w.heap.size + 2, 0, none⟩ (.int .i64 n0.wd)).heap[w.heap.size + 2]? = some (.cells #[.int .i64 n0.wd, .int .i64 0, .int .i64 0] 67) := heap_set rL
  have rR1 : (W0.setCell ⟨w.heap.size + 2, 0, none⟩ (.int .i64 n0.wd)).heap[w.heap.size + 1]? = some (.cells #[.int .i64 0, .int .i64 0, .int .i64 0] 67) := heap_set_ne rR (by omega)
  have hb1 : Below w.heap.size w (W0.setCell ⟨w.heap.size + 2, 0, none⟩ (.int .i64 n0.wd)) := hb0.setCell (by first | omega | (simp; done) | (simp; omega)) _
  go_wp2_with fail
  clear rL rR cc0 qL0 fL0
  have rL := rL1
  have rR := rR1
  clear rL1 rR1
  generalize W0.setCell ⟨w.heap.size + 2, 0, none⟩ (.int .i64 n0.wd) = W1 at *
  have cc1 : W1.cell? ⟨ad.block, ad.off + 1, none⟩ = some (.int .i64 k1) := (HX.out _ hb1 1).trans hx1
  rw [rounds_succ]
  have qL1 := cell_block (i := 1) rL
  have fL1 := free_block (i := 1) rL
  simp at qL1
  go_wp2_with fail
  refine (HC1.out _ hb1).mono ?_
  rintro e w' ⟨rfl, rfl⟩
  have rL1 : (W1.setCell ⟨w.heap.size + 2, 1, none⟩ (.int .i64 n1.wd)).heap[w.heap.size + 2]? = some (.cells #[.int .i64 n0.wd, .int .i64 n1.wd, .int .i64 0] 67) := heap_set rL
  have rR1 : (W1.setCell ⟨w.heap.size + 2, 1, none⟩ (.int .i64 n1.wd)).heap[w.heap.size + 1]? = some (.cells #[.int .i64 0, .int .i64 0, .int .i64 0] 67) := heap_set_ne rR (by omega)
  have hb2 : Below w.heap.size w (W1.setCell ⟨w.heap.size + 2, 1, none⟩ (.int .i64 n1.wd)) := hb1.setCell (by first | omega | (simp; done) | (simp; omega)) _
  go_wp2_with fail
  clear rL rR cc1 qL1 fL1
  have rL := rL1
  have rR := rR1
  clear rL1 rR1
  generalize W1.setCell ⟨w.heap.size + 2, 1, none⟩ (.int .i64 n1.wd) = W2 at *
  have cc2 : W2.cell? ⟨ad.block, ad.off + 2, none⟩ = some (.int .i64 k2) := (HX.out _ hb2 2).trans hx2
  rw [rounds_succ]
  have qL2 := cell_block (i := 2) rL
  have fL2 := free_block (i := 2) rL
  simp at qL2
  go_wp2_with fail
  refine (HC2.out _ hb2).mono ?_
  rintro e w' ⟨rfl, rfl⟩
  have rL1 : (W2.setCell ⟨w.heap.size + 2, 2, none⟩ (.int .i64 n2.wd)).heap[w.heap.size + 2]? = some (.cells #[.int .i64 n0.wd, .int .i64 n1.wd, .int .i64 n2.wd] 67) := heap_set rL
  have rR1 : (W2.setCell ⟨w.heap.size + 2, 2, none⟩ (.int .i64 n2.wd)).heap[w.heap.size + 1]? = some (.cells #[.int .i64 0, .int .i64 0, .int .i64 0] 67) := heap_set_ne rR (by omega)
  have hb3 : Below w.heap.size w (W2.setCell ⟨w.heap.size + 2, 2, none⟩ (.int .i64 n2.wd)) := hb2.setCell (by first | omega | (simp; done) | (simp; omega)) _
  go_wp2_with fail
  clear rL rR cc2 qL2 fL2
  have rL := rL1
  have rR := rR1
  clear rL1 rR1
  generalize W2.setCell ⟨w.heap.size + 2, 2, none⟩ (.int .i64 n2.wd) = W3 at *
  rw [rounds_succ]
  have u0 := cell_block (i := 0) rL
  have u1 := cell_block (i := 1) rL
  have u2 := cell_block (i := 2) rL
  have p0 := cell_block (i := 0) rR
  have p1 := cell_block (i := 1) rR
  have p2 := cell_block (i := 2) rR
  have f0 := free_block (i := 0) rR
  have f1 := free_block (i := 1) rR
  have f2 := free_block (i := 2) rR
  simp at u0 u1 u2 p0 p1 p2
  go_wp2
  refine bodyPost_ret (by simp [results, Tryz.results65, go_sem, p0, p1, p2]; try rfl) rfl ?_
  exact ⟨rfl, Below.aft (by (repeat' (first | (with_reducible exact Below.refl _ _) | (with_reducible assumption) | (with_reducible refine Below.alloc ?_ ?_ _) | (with_reducible refine Below.drew ?_) | (with_reducible refine Aft.below _ ?_ ?_) | (with_reducible refine Below.setCell_new ?_ ?_ _ _) | (with_reducible exact Nat.le_refl _) | (with_reducible refine Aft.le _ ?_) | (with_reducible refine le_alloc ?_) | (with_reducible refine le_drew ?_) | (with_reducible refine le_setCell ?_) | omega)))⟩

end Go.Proofs.YtkdonapgonegkaaGreatDoor
