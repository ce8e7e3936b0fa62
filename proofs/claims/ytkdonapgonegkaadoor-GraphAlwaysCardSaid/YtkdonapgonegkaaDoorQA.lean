/-
  Plain lemmas of the verifier's own, over any program: a world that has grown out of another one ('Aft'), what it still holds, and a region that draws its order whose calls only make memory, with a forced tail. No Go text.
-/
import Derived.WalkKit
import Derived.WalkSpells
import Derived.StillTactics
import Derived.StillTail
import Derived.Laws.Pointers
import Derived.Deep.RegionHeld3
import Derived.Deep.QuietTactic
import Derived.BigQuiet
import Derived.RowKit3
import Derived.Handy
import Derived.Outline
import Derived.WalkSmall
import Derived.Laws.EntriesVeiled
import Derived.Lib.Hide
import Derived.ProofKit
import Derived.Laws.BitsAllLaws
import Derived.Laws.BitsLemmas
import Derived.IntWalk
import Derived.Maps.AppendAt
set_option linter.unusedSimpArgs false
set_option linter.unusedVariables false
namespace Go.Proofs.YtkdonapgonegkaaDoor
open Go.RowKit

/-- A world that has grown out of W: nothing that was there has turned. -/
structure Aft (W : World) where
  val : World
  pf : Below W.heap.size W val

instance Aft.inst (W : World) : Nonempty (Aft W) := ⟨⟨W, Below.refl _ _⟩⟩

section
variable {W : World}

@[go_sem] theorem Aft.cell (x : Aft W) (n i : Nat) (h : n < W.heap.size) : x.val.cell? ⟨n, i, none⟩ = W.cell? ⟨n, i, none⟩ := x.pf.cell (p := ⟨n, i, none⟩) h
@[go_sem] theorem Aft.frozen (x : Aft W) (n i : Nat) (h : n < W.heap.size) : x.val.frozen? ⟨n, i, none⟩ = W.frozen? ⟨n, i, none⟩ := x.pf.frozen (p := ⟨n, i, none⟩) h
@[go_sem] theorem Aft.heap (x : Aft W) (n : Nat) (h : n < W.heap.size) : x.val.heap[n]? = W.heap[n]? := x.pf.block n h
@[go_sem] theorem Aft.lt (x : Aft W) (n : Nat) (h : n < W.heap.size) : (n < x.val.heap.size) = True := by
  have := x.pf.size; simp; omega
@[go_sem] theorem Aft.leq (x : Aft W) (n : Nat) (h : n ≤ W.heap.size) : (n ≤ x.val.heap.size) = True := by
  have := x.pf.size; simp; omega
@[go_sem] theorem Aft.ne (x : Aft W) (n : Nat) (h : n < W.heap.size) : (n = x.val.heap.size) = False := by
  have := x.pf.size; simp; omega
@[go_sem] theorem Aft.ne' (x : Aft W) (n : Nat) (h : n < W.heap.size) : (x.val.heap.size = n) = False := by
  have := x.pf.size; simp; omega
@[go_sem] theorem Aft.leq_add (x : Aft W) (n k : Nat) (h : n ≤ W.heap.size) : (n ≤ x.val.heap.size + k) = True := by
  have := x.pf.size; simp; omega
@[go_sem] theorem Aft.lt_add (x : Aft W) (n k : Nat) (h : n < W.heap.size) : (n < x.val.heap.size + k) = True := by
  have := x.pf.size; simp; omega
@[go_sem] theorem Aft.cell_drew (x : Aft W.drew) (n i : Nat) (h : n < W.heap.size) : x.val.cell? ⟨n, i, none⟩ = W.cell? ⟨n, i, none⟩ := x.pf.cell (p := ⟨n, i, none⟩) h
@[go_sem] theorem Aft.frozen_drew (x : Aft W.drew) (n i : Nat) (h : n < W.heap.size) : x.val.frozen? ⟨n, i, none⟩ = W.frozen? ⟨n, i, none⟩ := x.pf.frozen (p := ⟨n, i, none⟩) h
@[go_sem] theorem Aft.lt_drew (x : Aft W.drew) (n : Nat) (h : n < W.heap.size) : (n < x.val.heap.size) = True := by
  have := x.pf.size; simp at *; omega
theorem Aft.lt' (x : Aft W) {n : Nat} (h : n < W.heap.size) : n < x.val.heap.size := Nat.lt_of_lt_of_le h x.pf.size
theorem Aft.le (x : Aft W) {n : Nat} (h : n ≤ W.heap.size) : n ≤ x.val.heap.size := Nat.le_trans h x.pf.size
theorem Aft.size (x : Aft W) : W.heap.size ≤ x.val.heap.size := x.pf.size

/-- A store into a block that W holds: the same store made in W, and grown. -/
def Aft.set (x : Aft W) (n i : Nat) (v : Value) (h : n < W.heap.size) : Aft (W.setCell ⟨n, i, none⟩ v) where
  val := x.val.setCell ⟨n, i, none⟩ v
  pf := by
    refine ⟨x.pf.os, x.pf.tape, x.pf.output, by simpa using x.pf.size, fun k hk => ?_⟩
    have hk' : k < W.heap.size := by simpa using hk
    have e := x.pf.block k hk'
    simp only [World.setCell, Array.getElem?_modify] at *
    split <;> simp_all
@[go_sem] theorem Aft.setCell (x : Aft W) (n i : Nat) (v : Value) (h : n < W.heap.size) : x.val.setCell ⟨n, i, none⟩ v = (x.set n i v h).val := rfl

@[go_sem high] theorem Aft.size_set (x : Aft W) (n i : Nat) (v : Value) (h : n < W.heap.size) : (x.set n i v h).val.heap.size = x.val.heap.size := by simp [Aft.set]
@[go_sem high] theorem Aft.frozen_set (x : Aft W) (n i : Nat) (v : Value) (h : n < W.heap.size) (a : Addr) : (x.set n i v h).val.frozen? a = x.val.frozen? a := by simp [Aft.set]
@[go_sem high] theorem Aft.cell_set_off (x : Aft W) (n i : Nat) (v : Value) (h : n < W.heap.size) (j : Nat) (hj : ¬ i = j) : (x.set n i v h).val.cell? ⟨n, j, none⟩ = x.val.cell? ⟨n, j, none⟩ :=
  World.cell?_setCell_other _ _ _ _ (fun e => hj (congrArg Addr.off e))
@[go_sem high] theorem Aft.cell_set_ne (x : Aft W) (n i : Nat) (v : Value) (h : n < W.heap.size) (m j : Nat) (hm : ¬ n = m) : (x.set n i v h).val.cell? ⟨m, j, none⟩ = x.val.cell? ⟨m, j, none⟩ :=
  World.cell?_setCell_other _ _ _ _ (fun e => hm (congrArg Addr.block e))
@[go_sem high] theorem Aft.cell_set (x : Aft W) (n i : Nat) (v : Value) (h : n < W.heap.size) (hs : (x.val.cell? ⟨n, i, none⟩).isSome = true) : (x.set n i v h).val.cell? ⟨n, i, none⟩ = some v := by
  obtain ⟨u, hu⟩ := Option.isSome_iff_exists.1 hs
  exact World.cell?_setCell_same _ _ _ hu
@[go_sem high] theorem Aft.set_set (x : Aft W) (n i : Nat) (v : Value) (h : n < W.heap.size) (m j : Nat) (u : Value) (hm : m < x.val.heap.size) (hm' : m < W.heap.size) : (x.set n i v h).val.setCell ⟨m, j, none⟩ u = ((x.set n i v h).set m j u (by simpa using hm')).val := rfl

theorem Aft.below (x : Aft W) {B : Nat} {w : World} (h : Below B w W) (hB : B ≤ W.heap.size) : Below B w x.val := h.trans (x.pf.mono hB)

/-- What a contract says of a function that only makes memory. -/
theorem Below.aft {w w' : World} (h : Below w.heap.size w w') : ∃ x : Aft w, w' = x.val := ⟨⟨w', h⟩, rfl⟩
theorem Below.setCell_new {B : Nat} {w W : World} (h : Below B w W) {n : Nat} (hn : B ≤ n) (i : Nat) (v : Value) : Below B w (W.setCell ⟨n, i, none⟩ v) := h.setCell hn v
end

theorem le_alloc {W : World} {o : Obj} {n : Nat} (h : n ≤ W.heap.size) : n ≤ (W.alloc o).heap.size := by simp; omega
theorem le_drew {W : World} {n : Nat} (h : n ≤ W.heap.size) : n ≤ W.drew.heap.size := h
theorem le_setCell {W : World} {a : Addr} {v : Value} {n : Nat} (h : n ≤ W.heap.size) : n ≤ (W.setCell a v).heap.size := by simpa using h

@[go_sem] theorem cell_setCell_ne {W : World} {n m i j : Nat} {v : Value} (h : ¬ n = m) : (W.setCell ⟨n, i, none⟩ v).cell? ⟨m, j, none⟩ = W.cell? ⟨m, j, none⟩ :=
  World.cell?_setCell_other _ _ _ _ (fun e => h (congrArg Addr.block e))
theorem heap_alloc_at {W : World} {o : Obj} {n : Nat} (h : n = W.heap.size) : (W.alloc o).heap[n]? = some o := by subst h; exact heap_alloc_new _ _
theorem lt_alloc {W : World} {o : Obj} {n : Nat} (h : n < W.heap.size) : n < (W.alloc o).heap.size := by simp; omega
theorem lt_drew {W : World} {n : Nat} (h : n < W.heap.size) : n < W.drew.heap.size := h
theorem cell_aft {W : World} (x : Aft W) {n i : Nat} {v : Value} (h : n < W.heap.size) (hc : W.cell? ⟨n, i, none⟩ = some v) : x.val.cell? ⟨n, i, none⟩ = some v := (x.cell n i h).trans hc
theorem cell_alloc {W : World} {o : Obj} {n i : Nat} {v : Value} (h : n < W.heap.size) (hc : W.cell? ⟨n, i, none⟩ = some v) : (W.alloc o).cell? ⟨n, i, none⟩ = some v := (World.cell?_alloc_past o n i h).trans hc
@[go_sem] theorem cell_setCell_off {W : World} {n i j : Nat} {v : Value} (h : ¬ i = j) : (W.setCell ⟨n, i, none⟩ v).cell? ⟨n, j, none⟩ = W.cell? ⟨n, j, none⟩ :=
  World.cell?_setCell_other _ _ _ _ (fun e => h (congrArg Addr.off e))
theorem heap_setCell_ne {W : World} {n m i : Nat} {v : Value} (h : ¬ n = m) : (W.setCell ⟨n, i, none⟩ v).heap[m]? = W.heap[m]? := Below.heap_setCell _ _ _ _ (fun e => h e.symm)
theorem cell_block {W : World} {n i : Nat} {c : Array Value} {T : TypeId} {fr : Nat × Nat} (h : W.heap[n]? = some (.cells c T fr)) : W.cell? ⟨n, i, none⟩ = c[i]? := by simp [World.cell?, h]
theorem free_block {W : World} {n i : Nat} {c : Array Value} {T : TypeId} (h : W.heap[n]? = some (.cells c T (0, 0))) : W.frozen? ⟨n, i, none⟩ = false := by simp [World.frozen?, h]
theorem heap_aft {W : World} {ob : Obj} {n : Nat} (x : Aft W) (h : n < W.heap.size) (hb : W.heap[n]? = some ob) : x.val.heap[n]? = some ob := (x.heap n h).trans hb
theorem heap_alloc' {W : World} {o ob : Obj} {n : Nat} (h : n < W.heap.size) (hb : W.heap[n]? = some ob) : (W.alloc o).heap[n]? = some ob := by
  rw [Below.heap_alloc _ _ _ h]; exact hb
theorem retI {a b : Int} (h : a = b) : Ending.returned (.int .i64 a) = .returned (.int .i64 b) := by rw [h]
theorem retB {a b : Bool} (h : a = b) : Ending.returned (.bool a) = .returned (.bool b) := by rw [h]

/-- A quiet call inside a region: the world is as it was, or one that has grown. -/
theorem Calls.qs {P : Program} {f : FuncId} {args : Array Value} {W : World} {x : Aft W} {v : Value}
    (h : Calls P f args x.val fun e w' => e = .returned v ∧ x.val = w') : Calls P f args x.val fun e w'' => e = .returned v ∧ ∃ y : Aft W, w'' = y.val :=
  h.mono fun _ _ ⟨he, hm⟩ => ⟨he, x, hm.symm⟩
theorem Calls.qa {P : Program} {f : FuncId} {args : Array Value} {W : World} {x : Aft W} {v : Value}
    (h : Calls P f args x.val fun e w' => e = .returned v ∧ ∃ y : Aft x.val, w' = y.val) : Calls P f args x.val fun e w'' => e = .returned v ∧ ∃ y : Aft W, w'' = y.val :=
  h.mono fun _ _ ⟨he, y, hm⟩ => ⟨he, ⟨y.val, y.below x.pf x.pf.size⟩, hm⟩

section
variable {P : Program} {ops : Array Oper} {md : Region.Mode} {C : World → Prop}

/-- The first f picks are quiet operations below n; behind them L. -/
def wpHeadQ (P : Program) (md : Region.Mode) (ops : Array Oper) (C : World → Prop) (n : Nat) (L : Array Bool → Act → Prop) : Nat → Array Bool → Act → Prop
  | 0, listed, a => L listed a
  | f + 1, listed, a => Region.ready md ops listed ≠ [] ∧ ∀ i ∈ Region.ready md ops listed, i < n ∧ qOp P ops C i (wpHeadQ P md ops C n L f (listed.setIfInBounds i true)) a

theorem wpAny_of_headQ {n g : Nat} {L : Array Bool → Act → Prop} {Q' : Exit → Act → World → Prop} (hL : ∀ listed a w, C w → L listed a → wpAny P md ops Q' g listed a w) :
    ∀ (f : Nat) (listed : Array Bool) (a : Act) (w : World), C w → wpHeadQ P md ops C n L f listed a → wpAny P md ops Q' (f + g) listed a w
  | 0, listed, a, w, hw, h => by rw [Nat.zero_add]; exact hL _ _ _ hw h
  | f + 1, listed, a, w, hw, h => by
    rw [Nat.add_right_comm]
    exact ⟨fun h0 => absurd h0 h.1, fun i hi => wpOp_of_qOp hw (fun a' w' hw' h' => wpAny_of_headQ hL f _ a' w' hw' h') (h.2 i hi).2⟩

theorem wpHeadQ_first {n i : Nat} {oi : Oper} {v : Value} {L : Array Bool → Act → Prop} (hi : ops[i]? = some oi) (hsel : ∀ (j : Nat) (o : Oper) cs b, ops[j]? = some o → o.op ≠ .select cs b)
    (hs : Region.sinkB md ops n = true) (hc : Region.chainB md ops n = true) (hn : n < ops.size) (hin : i < n)
    (hdone : ∀ listed a, L listed a → ∀ j ∈ Region.ready md ops listed, n ≤ j) :
    ∀ (f : Nat) (listed : Array Bool) (a : Act), HeadInv md ops n listed →
      (∀ j oj, ops[j]? = some oj → j ≠ i → listed.getD j true = false → (∀ e ∈ oj.after, Region.binds md e = true → e.on ≠ i) → oi.apart ops oj = true) →
      i ∈ Region.ready md ops listed → YieldsIn P ops C oi v a →
      wpHeadQ P md ops C n L f (listed.setIfInBounds i true) (a.put oi.dst v) → wpHeadQ P md ops C n L (f + 1) listed a := by
  intro f
  induction f with
  | zero =>
    intro listed a inv _ hr hy H
    have hun := (mem_ready.1 hr).1
    refine ⟨List.ne_nil_of_mem hr, fun j hj => ?_⟩
    have hjn : j < n := Nat.lt_of_not_le fun h => tail_waits hs hc hn inv _ i rfl hin hun j h hj
    refine ⟨hjn, ?_⟩
    by_cases hji : j = i
    · subst hji; exact hy.qOp hi H
    · have := hdone _ _ H j (ready_mono hj hji)
      omega
  | succ f ih =>
    intro listed a inv hfree hr hy H
    have hun := (mem_ready.1 hr).1
    refine ⟨List.ne_nil_of_mem hr, fun j hj => ?_⟩
    have hjn : j < n := Nat.lt_of_not_le fun h => tail_waits hs hc hn inv _ i rfl hin hun j h hj
    refine ⟨hjn, ?_⟩
    by_cases hji : j = i
    · subst hji; exact hy.qOp hi H
    · have h1 := (H.2 j (ready_mono hj hji)).2
      obtain ⟨hjun, oj, hoj, hall⟩ := mem_ready.1 hj
      have hnot : ∀ e ∈ oj.after, Region.binds md e = true → e.on ≠ i := fun e he hb heq => by
        have h3 := hall e he hb
        rw [heq, getD_both hun] at h3
        cases h3
      have h2 := qOp_put hoj (hfree j oj hoj hji hjun hnot) (fun cs b => hsel i oi cs b hi) (fun cs b => hsel j oj cs b hoj) hy h1
      refine qOp_mono (fun a' h3 => ih (listed.setIfInBounds j true) a' (inv.set hj hjn) (fun k ok hk hki hun' hno => hfree k ok hk hki ?_ hno) (ready_mono hr (Ne.symm hji)) h3.1 ?_) h2
      · by_cases hjk : j = k
        · subst hjk; exact hjun
        · rw [getD_set_ne true hjk] at hun'; exact hun'
      · rw [Array.setIfInBounds_comm _ _ hji]
        exact h3.2

theorem wpHeadQ_lex {n g : Nat} {Lq : Act → Prop} (hsel : Region.noSelect ops = true) (hs : Region.sinkB md ops n = true) (hc : Region.chainB md ops n = true) (hn : n < ops.size) :
    ∀ (l : List Oper) (k : Nat) (listed : Array Bool) (a : Act), (∀ j, j < l.length → l[j]? = ops[k + j]?) → k + l.length = n → HeadInv md ops n listed →
    Region.lexHead md ops g l.length k listed = true → wpQuiet P ops C Lq l a →
    wpHeadQ P md ops C n (fun listed' a' => Region.seqB md ops g n listed' = true ∧ Lq a') l.length listed a
  | [], k, listed, a, _, hk, _, hB, h => by
    have : k = n := by simpa using hk
    subst this
    exact ⟨by simpa [Region.lexHead] using hB, h⟩
  | o :: l, k, listed, a, hl, hk, inv, hB, h => by
    have h0 : ops[k]? = some o := by simpa using (hl 0 (by simp)).symm
    simp only [List.length_cons, Region.lexHead, Bool.and_eq_true] at hB
    obtain ⟨⟨hr, hf⟩, hB'⟩ := hB
    have hkn : k < n := by simp only [List.length_cons] at hk; omega
    have hr' : k ∈ Region.ready md ops listed := by simpa using hr
    have hq : qOp P ops C k (wpQuiet P ops C Lq l) a := by unfold qOp; simp only [h0]; exact h
    obtain ⟨v, hy, hK⟩ := yieldsIn_of_qOp h0 hq
    exact wpHeadQ_first h0 (Region.noSelect_spec hsel) hs hc hn hkn (fun _ _ hL => seqB_ready hL.1) l.length listed a inv (Region.free_spec h0 hf) hr' hy
      (wpHeadQ_lex hsel hs hc hn l (k + 1) _ _ (fun j hj => by have := hl (j + 1) (by simp; omega); simpa [Nat.add_assoc, Nat.add_comm 1 j] using this)
        (by simp only [List.length_cons] at hk; omega) (inv.set hr' hkn) hB' hK)

theorem wp_region_quiet_tail {id : Nat} {Q : Exit → Act → World → Prop} {a : Act} {w : World} {l : List Oper} (n : Nat) (hm : P.follows .mixedOrders = true) (hB : Region.lexTailB .any l.toArray n = true)
    (hC : C { w with drawn := w.drawn + 1 })
    (h : wpQuiet P l.toArray C (fun a' => ∀ w', C w' → wpList P l.toArray Q (l.drop n) a' w') (l.take n) a) : (Code.region id l.toArray true).wp P Q a w := by
  simp only [Region.lexTailB, Bool.and_eq_true, decide_eq_true_eq] at hB
  obtain ⟨⟨⟨⟨hsel, hn⟩, hs⟩, hc⟩, hlex⟩ := hB
  have hn' : n < l.length := by simpa using hn
  have htl : (l.take n).length = n := by simp; omega
  have hdl : (l.drop n).length = l.toArray.size - n := by simp
  have inv0 : HeadInv .any l.toArray n (Array.replicate l.toArray.size false) :=
    ⟨by simp, fun j oj _ hl => (by rw [getD_replicate_false] at hl; cases hl), fun t _ ht => getD_in (by simpa using ht) (getD_replicate_false _ _)⟩
  have H := wpHeadQ_lex (md := .any) (g := l.toArray.size - n) hsel hs hc hn (l.take n) 0 _ a (fun j hj => by
    have hj' : j < n := by rw [htl] at hj; exact hj
    simp [hj']) (by simpa using htl) inv0 (by rw [htl]; exact hlex) h
  refine wp_region_any hm ?_
  have := wpAny_of_headQ (Q' := Q) (g := l.toArray.size - n) (fun listed a' w' hw' hL => by
    have := wpAny_of_seq (md := .any) (Q' := Q) (l.drop n) n listed a' w' (fun j => by simp [List.getElem?_drop]) (by rw [hdl]; exact hL.1) (hL.2 w' hw')
    rwa [hdl] at this) _ _ _ _ hC H
  rw [htl, show n + (l.toArray.size - n) = l.toArray.size by omega] at this
  exact this
end

/-- A region whose operations read, reckon and call what only makes memory: one walk in the order of the text. -/
theorem wp_region_aft {P : Program} {id : Nat} {Q : Exit → Act → World → Prop} {a : Act} {w : World} {l : List Oper} (hm : P.follows .mixedOrders = true) (hB : Region.lexB .any l.toArray = true)
    (h : wpQuiet P l.toArray (fun w' => ∃ x : Aft w, w' = x.val) (fun a' => ∀ x : Aft w, Q .normal a' x.val) l a) : (Code.region id l.toArray true).wp P Q a w :=
  wp_region_quiet (C := fun w' => ∃ x : Aft w, w' = x.val) hm hB ⟨⟨_, (Below.refl _ _).drew⟩, rfl⟩ (by
    have e : (fun a' => ∀ w', (∃ x : Aft w, w' = x.val) → Q .normal a' w') = (fun a' => ∀ x : Aft w, Q .normal a' x.val) := by
      funext a'; exact propext ⟨fun h x => h _ ⟨x, rfl⟩, fun h _ ⟨x, hx⟩ => hx ▸ h x⟩
    rw [e]; simpa using h)

/-- The same with a tail of operations that come last in any order. -/
theorem wp_region_aft_tail {P : Program} {id : Nat} {Q : Exit → Act → World → Prop} {a : Act} {w : World} {l : List Oper} (n : Nat) (hm : P.follows .mixedOrders = true) (hB : Region.lexTailB .any l.toArray n = true)
    (h : wpQuiet P l.toArray (fun w' => ∃ x : Aft w, w' = x.val) (fun a' => ∀ x : Aft w, wpList P l.toArray Q (l.drop n) a' x.val) (l.take n) a) : (Code.region id l.toArray true).wp P Q a w :=
  wp_region_quiet_tail (C := fun w' => ∃ x : Aft w, w' = x.val) n hm hB ⟨⟨_, (Below.refl _ _).drew⟩, rfl⟩ (by
    have e : (fun a' => ∀ w', (∃ x : Aft w, w' = x.val) → wpList P l.toArray Q (l.drop n) a' w') = (fun a' => ∀ x : Aft w, wpList P l.toArray Q (l.drop n) a' x.val) := by
      funext a'; exact propext ⟨fun h x => h _ ⟨x, rfl⟩, fun h _ ⟨x, hx⟩ => hx ▸ h x⟩
    rw [e]; exact h)
end Go.Proofs.YtkdonapgonegkaaDoor

set_option linter.unusedSimpArgs false
set_option linter.unusedVariables false
namespace Go.Proofs.YtkdonapgonegkaaDoor
open Go.RowKit Go.ChangeShapes Go.WideShapes Go.ChangeAt

end Go.Proofs.YtkdonapgonegkaaDoor

set_option linter.unusedSimpArgs false
set_option linter.unusedVariables false
namespace Go.Proofs.YtkdonapgonegkaaDoor
open Go.RowKit

/-- What a quiet operation may do in the world w: yield v, the world as it was; or call what returns v and only makes memory. -/
def upQ (P : Program) (w : World) (v : Value) : Result Next → Prop
  | .ok (.value u) w' => w' = w ∧ u = v
  | .ok .skip w' => w' = w ∧ v = undef
  | .ok (.enter f args) w' => w' = w ∧ Calls P f args w (fun e w'' => e = .returned v ∧ ∃ y : Aft w, w'' = y.val)
  | _ => False

def Oper.qU (P : Program) (w0 : World) (o : Oper) (a : Act) (K : Act → Prop) : Prop :=
  ∃ v, (∀ w, (∃ x : Aft w0, w = x.val) → upQ P w v ((execOp a.eval o).run P w)) ∧ K (a.put o.dst v)

attribute [go_sem] upQ Oper.qU

theorem Calls.q0 {P : Program} {f : FuncId} {args : Array Value} {w : World} {v : Value}
    (h : Calls P f args w fun e w' => e = .returned v ∧ w = w') : Calls P f args w fun e w'' => e = .returned v ∧ ∃ y : Aft w, w'' = y.val :=
  h.mono fun _ _ ⟨he, hm⟩ => ⟨he, ⟨w, Below.refl _ _⟩, hm.symm⟩

section
variable {P : Program} {ops : Array Oper} {md : Region.Mode} {w0 : World} {al : Nat → Option Obj}

/-- What is known of a world, and which blocks are taken. -/
structure Known where
  of : World → Prop
  taken : Nat → Prop
  lim : ∃ b, ∀ n, taken n → n < b
theorem Known.fresh (C : Known) : ∃ g, ¬ C.taken g := by
  obtain ⟨b, hb⟩ := C.lim
  exact ⟨b, fun h => Nat.lt_irrefl _ (hb b h)⟩
def Known.none : Known := ⟨fun _ => True, fun _ => False, ⟨0, fun _ h => h.elim⟩⟩
def Known.more (C : Known) (w0 : World) (g : Nat) (ob : Obj) : Known := ⟨fun w => C.of w ∧ w0.heap.size ≤ g ∧ w.heap[g]? = some ob, fun n => n = g ∨ C.taken n, by
    obtain ⟨b, hb⟩ := C.lim
    refine ⟨max b (g + 1), fun n hn => ?_⟩
    rcases hn with h | h
    · omega
    · have := hb n h
      omega⟩
def Known.at (C : Known) (w : World) : Prop := C.of w ∧ ∀ n, C.taken n → n < w.heap.size
theorem wanted_none {o : Oper} {y : Nat → Option Bool} (h : o.guard = none) : Region.wanted o y = true := by simp [Region.wanted, h]

end

end Go.Proofs.YtkdonapgonegkaaDoor

set_option linter.unusedSimpArgs false
set_option linter.unusedVariables false
namespace Go.Proofs.YtkdonapgonegkaaDoor
open Go.RowKit

/-- The new blocks of a region: what each holds, and whether it has had its store. -/
structure Held where
  at' : Nat → Option (Obj × Bool)
  lim : ∃ b, ∀ n, (at' n).isSome = true → n < b
def Held.nil : Held := ⟨fun _ => none, 0, fun _ h => by simp at h⟩
def Held.put (C : Held) (g : Nat) (ob : Obj) (d : Bool) : Held := ⟨fun n => if n = g then some (ob, d) else C.at' n, by
    obtain ⟨b, hb⟩ := C.lim
    refine ⟨max b (g + 1), fun n hn => ?_⟩
    by_cases h : n = g
    · omega
    · simp only [h, if_false] at hn
      have := hb n hn
      omega⟩
theorem Held.at_self (C : Held) (g : Nat) (ob : Obj) (d : Bool) : (C.put g ob d).at' g = some (ob, d) := by simp [Held.put]
theorem Held.at_ne (C : Held) {g n : Nat} (ob : Obj) (d : Bool) (h : ¬ n = g) : (C.put g ob d).at' n = C.at' n := by simp [Held.put, h]
theorem Held.put_comm (C : Held) {g n : Nat} (h : ¬ n = g) (ob ob' : Obj) (d d' : Bool) : (C.put g ob d).put n ob' d' = (C.put n ob' d').put g ob d := by
  unfold Held.put
  simp only [Held.mk.injEq]
  funext m
  by_cases h1 : m = g
  · by_cases h2 : m = n
    · omega
    · simp [h1, h2]; intro h3; omega
  · by_cases h2 : m = n
    · simp [h1, h2]; intro h3; exact absurd h3 h
    · simp [h1, h2]
theorem Held.fresh (C : Held) : ∃ b, ∀ g, b ≤ g → C.at' g = none := by
  obtain ⟨b, hb⟩ := C.lim
  refine ⟨b, fun g hg => ?_⟩
  cases h : C.at' g with
  | none => rfl
  | some x => have := hb g (by simp [h]); omega
def Held.In (C : Held) (w0 w : World) : Prop := ∀ g ob d, C.at' g = some (ob, d) → w0.heap.size ≤ g ∧ w.heap[g]? = some ob
theorem lt_of_get {w : World} {g : Nat} {ob : Obj} (h : w.heap[g]? = some ob) : g < w.heap.size := (Array.getElem?_eq_some_iff.1 h).1

/-- Block g holds ob now; nothing else has turned. -/
structure Setted (w : World) (g : Nat) (ob : Obj) (w' : World) : Prop where
  os : w'.os = w.os
  tape : w'.tape = w.tape
  output : w'.output = w.output
  size : w'.heap.size = w.heap.size
  block : ∀ k, ¬ k = g → w'.heap[k]? = w.heap[k]?
  here : w'.heap[g]? = some ob
theorem Setted.start {w : World} {g : Nat} {ob : Obj} (h : w.heap[g]? = some ob) : Setted w g ob w := ⟨rfl, rfl, rfl, rfl, fun _ _ => rfl, h⟩
theorem Setted.step {w w1 : World} {g : Nat} {cs : Array Value} {T : TypeId} {fr : Nat × Nat} (h : Setted w g (.cells cs T fr) w1) (i : Nat) (u : Value) : Setted w g (.cells (cs.setIfInBounds i u) T fr) (w1.setCell ⟨g, i, none⟩ u) := by
  refine ⟨h.os, h.tape, h.output, by simpa using h.size, fun k hk => ?_, ?_⟩
  · rw [← h.block k hk]
    exact Below.heap_setCell _ _ _ _ (fun e => hk e)
  · have h1 := h.here
    simp [World.setCell, Array.getElem?_modify, h1]
theorem Setted.eq {w w' : World} {g : Nat} {ob ob' : Obj} (h : Setted w g ob w') (e : ob = ob') : Setted w g ob' w' := e ▸ h

def upPut (w : World) (g : Nat) (ob : Obj) : Result Next → Prop
  | .ok (.value _) w' => Setted w g ob w'
  | .ok .skip w' => Setted w g ob w'
  | _ => False
def wrote : Obj → Value → Obj
  | .cells _ T fr, v => .cells v.cells T fr
  | o, _ => o

inductive Kd where
  | quiet
  | new (ob : Obj)
  | put (ad vl : Operand)
  | late
def Kd.rank : Kd → Nat
  | .quiet => 0
  | .new _ => 1
  | .put _ _ => 2
  | .late => 3

section
variable {P : Program} {ops : Array Oper} {md : Region.Mode} {w0 : World} {kd : Nat → Kd}

def dOp (P : Program) (ops : Array Oper) (w0 : World) (kd : Nat → Kd) (i : Nat) (K : Act → Held → Prop) (a : Act) (C : Held) : Prop :=
  match ops[i]? with
  | none => K a C
  | some o => match kd i with
    | .quiet => if Region.wanted o (yielded ops a.tmps) then Oper.qU P w0 o a (fun a' => K a' C) else K (a.put o.dst undef) C
    | .new ob => ∀ g, C.at' g = none → K (a.put o.dst (.pointer (some ⟨g, 0, none⟩))) (C.put g ob false)
    | .put ad vl => ∃ g ob, a.eval ad = .pointer (some ⟨g, 0, none⟩) ∧ C.at' g = some (ob, false) ∧
        (∀ w, w.heap[g]? = some ob → upPut w g (wrote ob (a.eval vl)) ((execOp a.eval o).run P w)) ∧ K a (C.put g (wrote ob (a.eval vl)) true)
    | .late => ∃ u, (∀ w, (execOp a.eval o).run P w = .ok (.value u) w) ∧ K (a.put o.dst u) C

theorem dOp_mono {i : Nat} {a : Act} {C : Held} {K K' : Act → Held → Prop} (h : ∀ a C, K a C → K' a C) (hh : dOp P ops w0 kd i K a C) : dOp P ops w0 kd i K' a C := by
  unfold dOp at *
  split
  · rename_i ho; simp only [ho] at hh; exact h _ _ hh
  · rename_i o ho
    simp only [ho] at hh
    cases hk : kd i with
    | quiet =>
      simp only [hk] at hh ⊢
      split
      · rename_i hw; simp only [hw, if_true] at hh; obtain ⟨v, h1, h2⟩ := hh; exact ⟨v, h1, h _ _ h2⟩
      · rename_i hw; simp only [hw] at hh; exact h _ _ hh
    | new ob => simp only [hk] at hh ⊢; exact fun g hg => h _ _ (hh g hg)
    | put ad vl => simp only [hk] at hh ⊢; obtain ⟨g, ob, h1, h2, h3, h4⟩ := hh; exact ⟨g, ob, h1, h2, h3, h _ _ h4⟩
    | late => simp only [hk] at hh ⊢; obtain ⟨u, h1, h2⟩ := hh; exact ⟨u, h1, h _ _ h2⟩

theorem dOp_some {i : Nat} {a : Act} {C : Held} {K : Act → Held → Prop} (hh : dOp P ops w0 kd i K a C) : ∃ a' C', K a' C' := by
  unfold dOp at hh
  split at hh
  · exact ⟨_, _, hh⟩
  · split at hh
    · split at hh
      · obtain ⟨v, h1, h2⟩ := hh; exact ⟨_, _, h2⟩
      · exact ⟨_, _, hh⟩
    · obtain ⟨b, hb⟩ := C.fresh
      exact ⟨_, _, hh b (hb b (Nat.le_refl _))⟩
    · obtain ⟨g, ob, h1, h2, h3, h4⟩ := hh; exact ⟨_, _, h4⟩
    · obtain ⟨u, h1, h2⟩ := hh; exact ⟨_, _, h2⟩

/-- What is asked of the operations. -/
def fit1 (P : Program) (o : Oper) : Kd → Prop
  | .quiet => True
  | .new ob => o.guard = none ∧ ∀ (a : Act) w, (execOp a.eval o).run P w = .ok (.value (.pointer (some ⟨w.heap.size, 0, none⟩))) (w.alloc ob)
  | .put ad vl => (o.guard = none ∧ o.dst = none) ∧ ad ∈ o.op.operands.toList ∧ vl ∈ o.op.operands.toList
  | .late => o.guard = none
def Fits (P : Program) (ops : Array Oper) (kd : Nat → Kd) : Prop := ∀ i o, ops[i]? = some o → fit1 P o (kd i)

theorem eval_put' {o : Oper} {x : Operand} (hx : x ∈ o.op.operands.toList) (a : Act) (dst : Option Tmp) (v : Value) (h : ∀ d, dst = some d → d ∉ o.looksAt ops) : (a.put dst v).eval x = a.eval x :=
  Act.eval_put fun d hd hxd => h d hd (by
    subst hxd
    exact List.mem_append_left _ (List.mem_filterMap.2 ⟨.tmp d, hx, rfl⟩))

theorem dOp_comm (hF : Fits P ops kd) (hsel : ∀ (j : Nat) (o : Oper) cs b, ops[j]? = some o → o.op ≠ .select cs b) {i j : Nat} {oi oj : Oper} (hi : ops[i]? = some oi) (hj : ops[j]? = some oj) (hap : oi.apart ops oj = true)
    (hrk : (kd i).rank ≤ (kd j).rank) {K : Act → Held → Prop} {a : Act} {C : Held}
    (h : dOp P ops w0 kd i (fun a C => dOp P ops w0 kd j K a C) a C) : dOp P ops w0 kd j (fun a C => dOp P ops w0 kd i K a C) a C := by
  obtain ⟨p1, p2, p3⟩ := Oper.apart_spec hap
  have hFi := hF i oi hi
  have hFj := hF j oj hj
  have hsi := fun cs b => hsel i oi cs b hi
  have hsj := fun cs b => hsel j oj cs b hj
  have ei : ∀ (a : Act) u, execOp (a.put oj.dst u).eval oi = execOp a.eval oi := fun a u => execOp_put oi hsi a oj.dst u p3
  have ej : ∀ (a : Act) u, execOp (a.put oi.dst u).eval oj = execOp a.eval oj := fun a u => execOp_put oj hsj a oi.dst u p1
  have wi : ∀ (a : Act) u, Region.wanted oi (yielded ops (a.put oj.dst u).tmps) = Region.wanted oi (yielded ops a.tmps) := fun a u => wanted_put oi a oj.dst u p3
  have wj : ∀ (a : Act) u, Region.wanted oj (yielded ops (a.put oi.dst u).tmps) = Region.wanted oj (yielded ops a.tmps) := fun a u => wanted_put oj a oi.dst u p1
  have cm : ∀ (a : Act) u v, (a.put oi.dst u).put oj.dst v = (a.put oj.dst v).put oi.dst u := fun a u v => Act.put_comm a u v p2
  unfold dOp at h ⊢
  simp only [hi, hj] at h ⊢
  unfold Oper.qU at h ⊢
  cases hki : kd i with
  | quiet =>
    cases hkj : kd j with
    | quiet =>
      simp only [hki, hkj, ei, ej, wi, wj] at h ⊢
      by_cases h1 : Region.wanted oi (yielded ops a.tmps) = true <;> by_cases h2 : Region.wanted oj (yielded ops a.tmps) = true <;> simp only [h1, h2, if_true, if_false, Bool.false_eq_true] at h ⊢
      · obtain ⟨u, hu, v, hv, hk⟩ := h; exact ⟨v, hv, u, hu, by rw [← cm]; exact hk⟩
      · obtain ⟨u, hu, hk⟩ := h; exact ⟨u, hu, by rw [← cm]; exact hk⟩
      · obtain ⟨v, hv, hk⟩ := h; exact ⟨v, hv, by rw [← cm]; exact hk⟩
      · rw [← cm]; exact h
    | new ob =>
      simp only [hki, hkj, ei, ej, wi, wj] at h ⊢
      intro g hg
      by_cases h1 : Region.wanted oi (yielded ops a.tmps) = true <;> simp only [h1, if_true, if_false, Bool.false_eq_true] at h ⊢
      · obtain ⟨u, hu, hk⟩ := h; exact ⟨u, hu, by rw [← cm]; exact hk g hg⟩
      · rw [← cm]; exact h g hg
    | put ad vl =>
      simp only [hkj, fit1] at hFj
      obtain ⟨⟨f1, f2⟩, f3, f4⟩ := hFj
      have e3 := fun a u => eval_put' f3 a oi.dst u p1
      have e4 := fun a u => eval_put' f4 a oi.dst u p1
      simp only [hki, hkj, ei, ej, wi, wj, e3, e4] at h ⊢
      by_cases h1 : Region.wanted oi (yielded ops a.tmps) = true <;> simp only [h1, if_true, if_false, Bool.false_eq_true] at h ⊢
      · obtain ⟨u, hu, g, ob, k1, k2, k3, k4⟩ := h; exact ⟨g, ob, k1, k2, k3, u, hu, k4⟩
      · exact h
    | late =>
      simp only [hki, hkj, ei, ej, wi, wj] at h ⊢
      by_cases h1 : Region.wanted oi (yielded ops a.tmps) = true <;> simp only [h1, if_true, if_false, Bool.false_eq_true] at h ⊢
      · obtain ⟨u, hu, v, hv, hk⟩ := h; exact ⟨v, hv, u, hu, by rw [← cm]; exact hk⟩
      · obtain ⟨v, hv, hk⟩ := h; exact ⟨v, hv, by rw [← cm]; exact hk⟩
  | new ob =>
    cases hkj : kd j with
    | quiet => rw [hki, hkj] at hrk; simp [Kd.rank] at hrk
    | new ob' =>
      simp only [hki, hkj] at h ⊢
      intro g' hg' g hg
      have hne : ¬ g = g' := fun e => by subst e; rw [Held.at_self] at hg; cases hg
      rw [Held.at_ne _ _ _ hne] at hg
      have := h g hg g' (by rw [Held.at_ne _ _ _ (Ne.symm hne)]; exact hg')
      rw [← cm, Held.put_comm _ hne]
      exact this
    | put ad vl =>
      simp only [hkj, fit1] at hFj
      obtain ⟨⟨f1, f2⟩, f3, f4⟩ := hFj
      have e3 := fun a u => eval_put' f3 a oi.dst u p1
      have e4 := fun a u => eval_put' f4 a oi.dst u p1
      simp only [hki, hkj, ej, e3, e4] at h ⊢
      obtain ⟨b, hb⟩ := C.fresh
      have key : ∀ g, C.at' g = none → ∀ x, (∃ g1 ob1, a.eval ad = .pointer (some ⟨g1, 0, none⟩) ∧ (C.put g ob false).at' g1 = some (ob1, false) ∧ x = (g1, ob1)) → ¬ x.1 = g → C.at' x.1 = some (x.2, false) := by
        rintro g hg x ⟨g1, ob1, k1, k2, rfl⟩ hne
        rw [Held.at_ne _ _ _ hne] at k2
        exact k2
      obtain ⟨g1, ob1, k1, k2, _, _⟩ := h b (hb b (Nat.le_refl _))
      have hC : ∃ ob2, C.at' g1 = some (ob2, false) := by
        by_cases e : g1 = b
        · obtain ⟨g2, ob2, l1, l2, _, _⟩ := h (b + 1) (hb _ (by omega))
          rw [k1] at l1
          injection l1 with l1; injection l1 with l1; injection l1 with l1
          subst l1
          rw [Held.at_ne _ _ _ (by omega)] at l2
          exact ⟨_, l2⟩
        · rw [Held.at_ne _ _ _ e] at k2
          exact ⟨_, k2⟩
      obtain ⟨ob2, hC⟩ := hC
      have all : ∀ g, C.at' g = none → (∀ w, w.heap[g1]? = some ob2 → upPut w g1 (wrote ob2 (a.eval vl)) ((execOp a.eval oj).run P w)) ∧ K (a.put oi.dst (.pointer (some ⟨g, 0, none⟩))) ((C.put g ob false).put g1 (wrote ob2 (a.eval vl)) true) := by
        intro g hg
        obtain ⟨g2, ob3, l1, l2, l3, l4⟩ := h g hg
        rw [k1] at l1
        injection l1 with l1; injection l1 with l1; injection l1 with l1
        subst l1
        have hne : ¬ g1 = g := fun e => by subst e; rw [hC] at hg; cases hg
        rw [Held.at_ne _ _ _ hne, hC] at l2
        injection l2 with l2; injection l2 with l2
        subst l2
        exact ⟨l3, l4⟩
      refine ⟨g1, ob2, k1, hC, (all b (hb b (Nat.le_refl _))).1, fun g hg => ?_⟩
      have hne : ¬ g = g1 := fun e => by subst e; rw [Held.at_self] at hg; cases hg
      rw [Held.at_ne _ _ _ hne] at hg
      rw [Held.put_comm _ hne]
      exact (all g hg).2
    | late =>
      simp only [hki, hkj, ei, ej] at h ⊢
      obtain ⟨b, hb⟩ := C.fresh
      obtain ⟨u, hu, _⟩ := h b (hb b (Nat.le_refl _))
      refine ⟨u, hu, fun g hg => ?_⟩
      obtain ⟨u', hu', hk⟩ := h g hg
      have e := (hu w0).symm.trans (hu' w0)
      injection e with e; injection e with e
      subst e
      rw [← cm]; exact hk
  | late =>
    cases hkj : kd j with
    | quiet => rw [hki, hkj] at hrk; simp [Kd.rank] at hrk
    | new ob' => rw [hki, hkj] at hrk; simp [Kd.rank] at hrk
    | put ad vl => rw [hki, hkj] at hrk; simp [Kd.rank] at hrk
    | late =>
      simp only [hki, hkj, ei, ej] at h ⊢
      obtain ⟨u, hu, v, hv, hk⟩ := h; exact ⟨v, hv, u, hu, by rw [← cm]; exact hk⟩
  | put ad vl =>
    cases hkj : kd j with
    | quiet => rw [hki, hkj] at hrk; simp [Kd.rank] at hrk
    | new ob' => rw [hki, hkj] at hrk; simp [Kd.rank] at hrk
    | put ad' vl' =>
      simp only [hki, hkj] at h ⊢
      obtain ⟨g, ob, k1, k2, k3, g', ob', l1, l2, l3, l4⟩ := h
      have hne : ¬ g' = g := fun e => by subst e; rw [Held.at_self] at l2; cases l2
      rw [Held.at_ne _ _ _ hne] at l2
      refine ⟨g', ob', l1, l2, l3, g, ob, k1, by rw [Held.at_ne _ _ _ (Ne.symm hne)]; exact k2, k3, ?_⟩
      rw [Held.put_comm _ (Ne.symm hne)]
      exact l4
    | late =>
      simp only [hki, fit1] at hFi
      obtain ⟨⟨f1, f2⟩, f3, f4⟩ := hFi
      have e3 := fun a u => eval_put' f3 a oj.dst u p3
      have e4 := fun a u => eval_put' f4 a oj.dst u p3
      simp only [hki, hkj, ei, ej, e3, e4] at h ⊢
      obtain ⟨g, ob, k1, k2, k3, u, hu, hk⟩ := h
      exact ⟨u, hu, g, ob, k1, k2, k3, hk⟩

def wpHd (P : Program) (md : Region.Mode) (ops : Array Oper) (w0 : World) (kd : Nat → Kd) (L : Act → Held → Prop) : Nat → Array Bool → Act → Held → Prop
  | 0, listed, a, C => Region.ready md ops listed = [] ∧ L a C
  | f + 1, listed, a, C => Region.ready md ops listed ≠ [] ∧ ∀ i ∈ Region.ready md ops listed, dOp P ops w0 kd i (wpHd P md ops w0 kd L f (listed.setIfInBounds i true)) a C

theorem hd_first (hF : Fits P ops kd) (hsel : ∀ (j : Nat) (o : Oper) cs b, ops[j]? = some o → o.op ≠ .select cs b) {i : Nat} {oi : Oper} {L : Act → Held → Prop} (hi : ops[i]? = some oi) :
    ∀ (f : Nat) (listed : Array Bool) (a : Act) (C : Held),
      (∀ j oj, ops[j]? = some oj → j ≠ i → listed.getD j true = false → (∀ e ∈ oj.after, Region.binds md e = true → e.on ≠ i) → oi.apart ops oj = true) →
      (∀ j, listed.getD j true = false → (kd i).rank ≤ (kd j).rank) →
      i ∈ Region.ready md ops listed →
      dOp P ops w0 kd i (wpHd P md ops w0 kd L f (listed.setIfInBounds i true)) a C → wpHd P md ops w0 kd L (f + 1) listed a C := by
  intro f
  induction f with
  | zero =>
    intro listed a C _ _ hr H
    refine ⟨List.ne_nil_of_mem hr, fun j hj => ?_⟩
    by_cases hji : j = i
    · subst hji; exact H
    · have := ready_mono hj hji
      obtain ⟨_, _, h0, _⟩ := dOp_some H
      rw [h0] at this
      cases this
  | succ f ih =>
    intro listed a C hfree hrk hr H
    refine ⟨List.ne_nil_of_mem hr, fun j hj => ?_⟩
    by_cases hji : j = i
    · subst hji; exact H
    · have hun := (mem_ready.1 hr).1
      obtain ⟨hjun, oj, hoj, hall⟩ := mem_ready.1 hj
      have hnot : ∀ e ∈ oj.after, Region.binds md e = true → e.on ≠ i := fun e he hb heq => by
        have h3 := hall e he hb
        rw [heq, getD_both hun] at h3
        cases h3
      have h1 : dOp P ops w0 kd i (fun a C => dOp P ops w0 kd j (wpHd P md ops w0 kd L f ((listed.setIfInBounds i true).setIfInBounds j true)) a C) a C :=
        dOp_mono (fun a' C' h => h.2 j (ready_mono hj hji)) H
      have h2 := dOp_comm hF hsel hi hoj (hfree j oj hoj hji hjun hnot) (hrk j hjun) h1
      refine dOp_mono (fun a' C' h3 => ih (listed.setIfInBounds j true) a' C' (fun k ok hk hki hun' hno => hfree k ok hk hki ?_ hno) (fun k hk => hrk k ?_) (ready_mono hr (Ne.symm hji)) ?_) h2
      · by_cases hjk : j = k
        · subst hjk; exact hjun
        · rw [getD_set_ne true hjk] at hun'; exact hun'
      · by_cases hjk : j = k
        · subst hjk; exact hjun
        · rw [getD_set_ne true hjk] at hk; exact hk
      · rw [Array.setIfInBounds_comm _ _ hji]
        exact h3

/-- The order of one's choice is one of those that may be drawn, and its steps may be taken first. -/
def ordB (md : Region.Mode) (ops : Array Oper) (kd : Nat → Kd) : List Nat → Array Bool → Bool
  | [], listed => (Region.ready md ops listed).isEmpty
  | k :: r, listed => (Region.ready md ops listed).contains k && Region.free md ops listed k && ((List.range ops.size).all fun j => listed.getD j true || decide ((kd k).rank ≤ (kd j).rank)) && ordB md ops kd r (listed.setIfInBounds k true)

def wpOrd (P : Program) (ops : Array Oper) (w0 : World) (kd : Nat → Kd) (L : Act → Held → Prop) : List Nat → Act → Held → Prop
  | [], a, C => L a C
  | k :: r, a, C => dOp P ops w0 kd k (wpOrd P ops w0 kd L r) a C

theorem hd_ord (hF : Fits P ops kd) (hsel : Region.noSelect ops = true) {L : Act → Held → Prop} :
    ∀ (l : List Nat) (listed : Array Bool) (a : Act) (C : Held), listed.size = ops.size → ordB md ops kd l listed = true → wpOrd P ops w0 kd L l a C → wpHd P md ops w0 kd L l.length listed a C
  | [], listed, a, C, _, hB, h => ⟨by simpa [ordB] using hB, h⟩
  | k :: r, listed, a, C, hz, hB, h => by
    simp only [ordB, Bool.and_eq_true] at hB
    obtain ⟨⟨⟨hr, hf⟩, hk⟩, hB'⟩ := hB
    have hr' : k ∈ Region.ready md ops listed := by simpa using hr
    obtain ⟨_, o, ho, _⟩ := mem_ready.1 hr'
    refine hd_first hF (Region.noSelect_spec hsel) ho r.length listed a C (Region.free_spec ho hf) (fun j hj => ?_) hr' (dOp_mono (fun a' C' h' => hd_ord hF hsel r _ a' C' (by simpa using hz) hB' h') h)
    have hlt : j < ops.size := by
      rcases Nat.lt_or_ge j listed.size with h1 | h1
      · omega
      · simp [Array.getElem?_eq_none h1] at hj
    have := (List.all_eq_true.1 hk) j (List.mem_range.2 hlt)
    simp only [hj, Bool.false_or, decide_eq_true_eq] at this
    exact this

theorem wpOp_of_dOp (hF : Fits P ops kd) {i : Nat} {K : Act → Held → Prop} {a : Act} {C : Held} {K' : Act → World → Prop} {Q' : Exit → Act → World → Prop} {w : World}
    (hw : ∃ x : Aft w0, w = x.val) (hC : C.In w0 w)
    (hK : ∀ a' C' w', (∃ x : Aft w0, w' = x.val) → C'.In w0 w' → K a' C' → K' a' w') (hh : dOp P ops w0 kd i K a C) : wpOp P ops Q' i K' a w := by
  unfold dOp at hh
  unfold wpOp
  split
  · rename_i ho; simp only [ho] at hh; exact hK _ _ _ hw hC hh
  · rename_i o ho
    simp only [ho] at hh
    have hFi := hF i o ho
    cases hk : kd i with
    | new ob =>
      simp only [hk, fit1] at hh hFi
      obtain ⟨hg, hr⟩ := hFi
      rw [if_pos (wanted_none hg)]
      refine .inl ?_
      unfold Oper.wp
      rw [hr a w]
      simp only [Oper.upon]
      obtain ⟨x, rfl⟩ := hw
      have hnew : C.at' x.val.heap.size = none := by
        cases h : C.at' x.val.heap.size with
        | none => rfl
        | some y => have := lt_of_get (hC _ y.1 y.2 h).2; omega
      refine hK _ _ _ ⟨⟨_, x.pf.alloc x.pf.size _⟩, rfl⟩ (fun g ob' d h => ?_) (hh _ hnew)
      by_cases e : g = x.val.heap.size
      · subst e
        rw [Held.at_self] at h
        injection h with h; injection h with h1 h2
        subst h1
        exact ⟨x.pf.size, heap_alloc_new _ _⟩
      · rw [Held.at_ne _ _ _ e] at h
        obtain ⟨c1, c2⟩ := hC g ob' d h
        exact ⟨c1, by rw [Below.heap_alloc _ _ _ (lt_of_get c2)]; exact c2⟩
    | put ad vl =>
      simp only [hk, fit1] at hh hFi
      obtain ⟨⟨hg, hd⟩, _, _⟩ := hFi
      rw [if_pos (wanted_none hg)]
      refine .inl ?_
      obtain ⟨g, ob, k1, k2, k3, k4⟩ := hh
      obtain ⟨c1, c2⟩ := hC g ob false k2
      have h3 := k3 w c2
      have fin : ∀ w', Setted w g (wrote ob (a.eval vl)) w' → K' a w' := fun w' hs => by
        obtain ⟨x, rfl⟩ := hw
        refine hK _ _ _ ⟨⟨w', ⟨hs.os.trans x.pf.os, hs.tape.trans x.pf.tape, hs.output.trans x.pf.output, by rw [hs.size]; exact x.pf.size, fun k hk => ?_⟩⟩, rfl⟩ (fun g' ob' d h => ?_) k4
        · rw [hs.block k (by omega)]; exact x.pf.block k hk
        · by_cases e : g' = g
          · subst e
            rw [Held.at_self] at h
            injection h with h; injection h with h1 h2
            subst h1
            exact ⟨c1, hs.here⟩
          · rw [Held.at_ne _ _ _ e] at h
            obtain ⟨d1, d2⟩ := hC g' ob' d h
            exact ⟨d1, by rw [hs.block _ e]; exact d2⟩
      unfold Oper.wp
      generalize (execOp a.eval o).run P w = r at *
      cases r with
      | ok n w' =>
        cases n <;> simp only [upPut] at h3 <;> simp only [Oper.upon, hd, Act.put] <;> exact fin _ h3
      | halt x w' => simp only [upPut] at h3
    | late =>
      simp only [hk, fit1] at hh hFi
      rw [if_pos (wanted_none hFi)]
      refine .inl ?_
      obtain ⟨u, h1, h2⟩ := hh
      unfold Oper.wp
      rw [h1 w]
      simp only [Oper.upon]
      exact hK _ _ _ hw hC h2
    | quiet =>
      simp only [hk] at hh
      split
      · rename_i hwd
        simp only [hwd, if_true] at hh
        obtain ⟨v, h1, h2⟩ := hh
        refine .inl ?_
        have h3 := h1 w hw
        unfold Oper.wp
        generalize (execOp a.eval o).run P w = r at *
        cases r with
        | ok n w' =>
          cases n <;> simp only [upQ] at h3 <;> simp only [Oper.upon]
          case value u =>
            obtain ⟨e1, e2⟩ := h3
            rw [e1, e2]
            exact hK _ _ _ hw hC h2
          case skip =>
            obtain ⟨e1, e2⟩ := h3
            rw [e1, ← e2]
            exact hK _ _ _ hw hC h2
          case enter f args =>
            obtain ⟨e1, hc⟩ := h3
            rw [e1]
            refine hc.mono fun e w'' ⟨he, y, hy⟩ => ?_
            subst he; subst hy
            obtain ⟨x, rfl⟩ := hw
            refine hK _ _ _ ⟨⟨_, y.below x.pf x.pf.size⟩, rfl⟩ (fun g ob d h => ?_) h2
            obtain ⟨c1, c2⟩ := hC g ob d h
            exact ⟨c1, by rw [y.pf.block _ (lt_of_get c2)]; exact c2⟩
        | halt x w' => simp only [upQ] at h3
      · rename_i hwd
        simp only [hwd] at hh
        exact hK _ _ _ hw hC hh

theorem wpAny_of_hd (hF : Fits P ops kd) {L : Act → Held → Prop} {Q' : Exit → Act → World → Prop}
    (hL : ∀ a C w, (∃ x : Aft w0, w = x.val) → C.In w0 w → L a C → Q' .normal a w) :
    ∀ (f : Nat) (listed : Array Bool) (a : Act) (C : Held) (w : World), (∃ x : Aft w0, w = x.val) → C.In w0 w → wpHd P md ops w0 kd L f listed a C → wpAny P md ops Q' f listed a w
  | 0, listed, a, C, w, hw, hC, h => ⟨h.1, hL _ _ _ hw hC h.2⟩
  | f + 1, listed, a, C, w, hw, hC, h =>
    ⟨fun h0 => absurd h0 h.1, fun i hi => wpOp_of_dOp hF hw hC (fun a' C' w' hw' hC' h' => wpAny_of_hd hF hL f _ a' C' w' hw' hC' h') (h.2 i hi)⟩

/-- The operations of one kind, from number k on. -/
def idx (r : Nat) : Nat → List Kd → List Nat
  | _, [] => []
  | k, d :: ks => if d.rank = r then k :: idx r (k + 1) ks else idx r (k + 1) ks
def FitsL (P : Program) : List Oper → List Kd → Prop
  | o :: l, d :: ks => fit1 P o d ∧ FitsL P l ks
  | _, _ => True
theorem FitsL.fits : ∀ {l : List Oper} {ks : List Kd}, FitsL P l ks → l.length = ks.length → ∀ i o, l[i]? = some o → fit1 P o (ks.getD i .quiet)
  | [], [], _, _, i, o, h => by simp at h
  | o :: l, d :: ks, h, hl, 0, o', ho => by simp at ho; subst ho; simpa using h.1
  | o :: l, d :: ks, h, hl, i + 1, o', ho => by
    simp only [List.getElem?_cons_succ] at ho
    simpa using FitsL.fits h.2 (by simpa using hl) i o' ho
  | [], d :: ks, _, hl, _, _, _ => by simp at hl
  | o :: l, [], _, hl, _, _, _ => by simp at hl

/-- The walk of the quiet operations, in the order of the text; of the new variables; of the stores. -/
def wpQ (P : Program) (ops : Array Oper) (w0 : World) (Q : Act → Held → Prop) : List Oper → List Kd → Act → Held → Prop
  | o :: l, d :: ks, a, C => match d with
    | .quiet => if Region.wanted o (yielded ops a.tmps) then Oper.qU P w0 o a (fun a' => wpQ P ops w0 Q l ks a' C) else wpQ P ops w0 Q l ks (a.put o.dst undef) C
    | _ => wpQ P ops w0 Q l ks a C
  | _, _, a, C => Q a C
def wpN (Q : Act → Held → Prop) : List Oper → List Kd → Act → Held → Prop
  | o :: l, d :: ks, a, C => match d with
    | .new ob => ∀ g, C.at' g = none → wpN Q l ks (a.put o.dst (.pointer (some ⟨g, 0, none⟩))) (C.put g ob false)
    | _ => wpN Q l ks a C
  | _, _, a, C => Q a C
def wpP (P : Program) (Q : Act → Held → Prop) : List Oper → List Kd → Act → Held → Prop
  | o :: l, d :: ks, a, C => match d with
    | .put ad vl => ∃ g ob, a.eval ad = .pointer (some ⟨g, 0, none⟩) ∧ C.at' g = some (ob, false) ∧
        (∀ w, w.heap[g]? = some ob → upPut w g (wrote ob (a.eval vl)) ((execOp a.eval o).run P w)) ∧ wpP P Q l ks a (C.put g (wrote ob (a.eval vl)) true)
    | _ => wpP P Q l ks a C
  | _, _, a, C => Q a C
def wpL (P : Program) (Q : Act → Held → Prop) : List Oper → List Kd → Act → Held → Prop
  | o :: l, d :: ks, a, C => match d with
    | .late => ∃ u, (∀ w, (execOp a.eval o).run P w = .ok (.value u) w) ∧ wpL P Q l ks (a.put o.dst u) C
    | _ => wpL P Q l ks a C
  | _, _, a, C => Q a C

theorem ord_q {Q L : Act → Held → Prop} {rest : List Nat} (hQ : ∀ a C, Q a C → wpOrd P ops w0 kd L rest a C) : ∀ (l : List Oper) (ks : List Kd) (k : Nat) (a : Act) (C : Held),
    l.length = ks.length → (∀ j, j < l.length → l[j]? = ops[k + j]?) → (∀ j d, ks[j]? = some d → kd (k + j) = d) → wpQ P ops w0 Q l ks a C → wpOrd P ops w0 kd L (idx 0 k ks ++ rest) a C
  | [], [], k, a, C, _, _, _, h => by simpa [idx] using hQ _ _ h
  | o :: l, d :: ks, k, a, C, hl, ho, hd, h => by
    have h0 : ops[k]? = some o := by simpa using (ho 0 (by simp)).symm
    have d0 : kd k = d := by simpa using hd 0 d (by simp)
    have ih := fun a C => ord_q hQ l ks (k + 1) a C (by simpa using hl) (fun j hj => by have := ho (j + 1) (by simp; omega); simpa [Nat.add_assoc, Nat.add_comm 1 j] using this)
      (fun j d' hj => by have := hd (j + 1) d' (by simpa using hj); simpa [Nat.add_assoc, Nat.add_comm 1 j] using this)
    cases d with
    | quiet =>
      simp only [idx, Kd.rank, if_true, List.cons_append, wpOrd, dOp, h0, d0]
      simp only [wpQ] at h
      split
      · rename_i hw; simp only [hw, if_true] at h; obtain ⟨v, h1, h2⟩ := h; exact ⟨v, h1, ih _ _ h2⟩
      · rename_i hw; simp only [hw] at h; exact ih _ _ h
    | new ob => simp only [wpQ] at h; simpa [idx, Kd.rank] using ih _ _ h
    | put ad vl => simp only [wpQ] at h; simpa [idx, Kd.rank] using ih _ _ h
    | late => simp only [wpQ] at h; simpa [idx, Kd.rank] using ih _ _ h
  | [], _ :: _, _, _, _, hl, _, _, _ => by simp at hl
  | _ :: _, [], _, _, _, hl, _, _, _ => by simp at hl
theorem ord_n {Q L : Act → Held → Prop} {rest : List Nat} (hQ : ∀ a C, Q a C → wpOrd P ops w0 kd L rest a C) : ∀ (l : List Oper) (ks : List Kd) (k : Nat) (a : Act) (C : Held),
    l.length = ks.length → (∀ j, j < l.length → l[j]? = ops[k + j]?) → (∀ j d, ks[j]? = some d → kd (k + j) = d) → wpN Q l ks a C → wpOrd P ops w0 kd L (idx 1 k ks ++ rest) a C
  | [], [], k, a, C, _, _, _, h => by simpa [idx] using hQ _ _ h
  | o :: l, d :: ks, k, a, C, hl, ho, hd, h => by
    have h0 : ops[k]? = some o := by simpa using (ho 0 (by simp)).symm
    have d0 : kd k = d := by simpa using hd 0 d (by simp)
    have ih := fun a C => ord_n hQ l ks (k + 1) a C (by simpa using hl) (fun j hj => by have := ho (j + 1) (by simp; omega); simpa [Nat.add_assoc, Nat.add_comm 1 j] using this)
      (fun j d' hj => by have := hd (j + 1) d' (by simpa using hj); simpa [Nat.add_assoc, Nat.add_comm 1 j] using this)
    cases d with
    | quiet => simp only [wpN] at h; simpa [idx, Kd.rank] using ih _ _ h
    | new ob =>
      simp only [idx, Kd.rank, if_true, List.cons_append, wpOrd, dOp, h0, d0]
      simp only [wpN] at h
      exact fun g hg => ih _ _ (h g hg)
    | put ad vl => simp only [wpN] at h; simpa [idx, Kd.rank] using ih _ _ h
    | late => simp only [wpN] at h; simpa [idx, Kd.rank] using ih _ _ h
  | [], _ :: _, _, _, _, hl, _, _, _ => by simp at hl
  | _ :: _, [], _, _, _, hl, _, _, _ => by simp at hl
theorem ord_p {Q L : Act → Held → Prop} {rest : List Nat} (hQ : ∀ a C, Q a C → wpOrd P ops w0 kd L rest a C) : ∀ (l : List Oper) (ks : List Kd) (k : Nat) (a : Act) (C : Held),
    l.length = ks.length → (∀ j, j < l.length → l[j]? = ops[k + j]?) → (∀ j d, ks[j]? = some d → kd (k + j) = d) → wpP P Q l ks a C → wpOrd P ops w0 kd L (idx 2 k ks ++ rest) a C
  | [], [], k, a, C, _, _, _, h => by simpa [idx] using hQ _ _ h
  | o :: l, d :: ks, k, a, C, hl, ho, hd, h => by
    have h0 : ops[k]? = some o := by simpa using (ho 0 (by simp)).symm
    have d0 : kd k = d := by simpa using hd 0 d (by simp)
    have ih := fun a C => ord_p hQ l ks (k + 1) a C (by simpa using hl) (fun j hj => by have := ho (j + 1) (by simp; omega); simpa [Nat.add_assoc, Nat.add_comm 1 j] using this)
      (fun j d' hj => by have := hd (j + 1) d' (by simpa using hj); simpa [Nat.add_assoc, Nat.add_comm 1 j] using this)
    cases d with
    | quiet => simp only [wpP] at h; simpa [idx, Kd.rank] using ih _ _ h
    | new ob => simp only [wpP] at h; simpa [idx, Kd.rank] using ih _ _ h
    | put ad vl =>
      simp only [idx, Kd.rank, if_true, List.cons_append, wpOrd, dOp, h0, d0]
      simp only [wpP] at h
      obtain ⟨g, ob, h1, h2, h3, h4⟩ := h
      exact ⟨g, ob, h1, h2, h3, ih _ _ h4⟩
    | late => simp only [wpP] at h; simpa [idx, Kd.rank] using ih _ _ h
  | [], _ :: _, _, _, _, hl, _, _, _ => by simp at hl
  | _ :: _, [], _, _, _, hl, _, _, _ => by simp at hl

theorem ord_l {Q L : Act → Held → Prop} {rest : List Nat} (hQ : ∀ a C, Q a C → wpOrd P ops w0 kd L rest a C) : ∀ (l : List Oper) (ks : List Kd) (k : Nat) (a : Act) (C : Held),
    l.length = ks.length → (∀ j, j < l.length → l[j]? = ops[k + j]?) → (∀ j d, ks[j]? = some d → kd (k + j) = d) → wpL P Q l ks a C → wpOrd P ops w0 kd L (idx 3 k ks ++ rest) a C
  | [], [], k, a, C, _, _, _, h => by simpa [idx] using hQ _ _ h
  | o :: l, d :: ks, k, a, C, hl, ho, hd, h => by
    have h0 : ops[k]? = some o := by simpa using (ho 0 (by simp)).symm
    have d0 : kd k = d := by simpa using hd 0 d (by simp)
    have ih := fun a C => ord_l hQ l ks (k + 1) a C (by simpa using hl) (fun j hj => by have := ho (j + 1) (by simp; omega); simpa [Nat.add_assoc, Nat.add_comm 1 j] using this)
      (fun j d' hj => by have := hd (j + 1) d' (by simpa using hj); simpa [Nat.add_assoc, Nat.add_comm 1 j] using this)
    cases d with
    | quiet => simp only [wpL] at h; simpa [idx, Kd.rank] using ih _ _ h
    | new ob => simp only [wpL] at h; simpa [idx, Kd.rank] using ih _ _ h
    | put ad vl => simp only [wpL] at h; simpa [idx, Kd.rank] using ih _ _ h
    | late =>
      simp only [idx, Kd.rank, if_true, List.cons_append, wpOrd, dOp, h0, d0]
      simp only [wpL] at h
      obtain ⟨u, h1, h2⟩ := h
      exact ⟨u, h1, ih _ _ h2⟩
  | [], _ :: _, _, _, _, hl, _, _, _ => by simp at hl
  | _ :: _, [], _, _, _, hl, _, _, _ => by simp at hl

theorem wpQ_step {Q : Act → Held → Prop} {o : Oper} {l : List Oper} {ks : List Kd} {a : Act} {C : Held}
    (h : ∀ K : Act → Prop, (∀ a, wpQ P ops w0 Q l ks a C → K a) → if Region.wanted o (yielded ops a.tmps) then Oper.qU P w0 o a K else K (a.put o.dst undef)) : wpQ P ops w0 Q (o :: l) (.quiet :: ks) a C :=
  h (fun a' => wpQ P ops w0 Q l ks a' C) fun _ h => h
theorem wpQ_new {Q : Act → Held → Prop} {o : Oper} {l : List Oper} {ks : List Kd} {a : Act} {C : Held} {ob : Obj} (h : wpQ P ops w0 Q l ks a C) : wpQ P ops w0 Q (o :: l) (.new ob :: ks) a C := h
theorem wpQ_put {Q : Act → Held → Prop} {o : Oper} {l : List Oper} {ks : List Kd} {a : Act} {C : Held} {ad vl : Operand} (h : wpQ P ops w0 Q l ks a C) : wpQ P ops w0 Q (o :: l) (.put ad vl :: ks) a C := h
theorem wpQ_late {Q : Act → Held → Prop} {o : Oper} {l : List Oper} {ks : List Kd} {a : Act} {C : Held} (h : wpQ P ops w0 Q l ks a C) : wpQ P ops w0 Q (o :: l) (.late :: ks) a C := h
theorem wpL_skip {Q : Act → Held → Prop} {o : Oper} {l : List Oper} {ks : List Kd} {d : Kd} {a : Act} {C : Held} (hd : d.rank < 3) (h : wpL P Q l ks a C) : wpL P Q (o :: l) (d :: ks) a C := by
  cases d <;> first | exact h | simp [Kd.rank] at hd
theorem wpL_nil {Q : Act → Held → Prop} {a : Act} {C : Held} (h : Q a C) : wpL P Q [] [] a C := h
theorem wpQ_nil {Q : Act → Held → Prop} {a : Act} {C : Held} (h : Q a C) : wpQ P ops w0 Q [] [] a C := h

/-- A region that draws its order: quiet operations, new variables, stores into these, walked in this order. -/
theorem wp_region_kd {id : Nat} {Q : Exit → Act → World → Prop} {a : Act} {w : World} {l : List Oper} (kds : List Kd) (hm : P.follows .mixedOrders = true) (hn : Region.noSelect l.toArray = true)
    (hz : (idx 0 0 kds ++ (idx 1 0 kds ++ (idx 2 0 kds ++ (idx 3 0 kds ++ [])))).length = l.toArray.size) (hlen : l.length = kds.length)
    (hB : ordB .any l.toArray (fun i => kds.getD i .quiet) (idx 0 0 kds ++ (idx 1 0 kds ++ (idx 2 0 kds ++ (idx 3 0 kds ++ [])))) (Array.replicate l.toArray.size false) = true) (hF : FitsL P l kds)
    (h : wpQ P l.toArray w (wpN (wpP P (wpL P (fun a' C => ∀ x : Aft w, C.In w x.val → Q .normal a' x.val) l kds) l kds) l kds) l kds a Held.nil) :
    (Code.region id l.toArray true).wp P Q a w := by
  refine wp_region_any hm ?_
  have hF' : Fits P l.toArray (fun i => kds.getD i .quiet) := fun i o ho => hF.fits hlen i o (by simpa using ho)
  have e1 : ∀ j, j < l.length → l[j]? = l.toArray[0 + j]? := fun j _ => by simp
  have e2 : ∀ (j : Nat) (d : Kd), kds[j]? = some d → kds.getD (0 + j) .quiet = d := fun j d hd => by rw [Nat.zero_add, List.getD_eq_getElem?_getD, hd]; rfl
  have ho := ord_q (P := P) (ops := l.toArray) (w0 := w) (kd := fun i => kds.getD i .quiet) (L := fun a' C => ∀ x : Aft w, C.In w x.val → Q .normal a' x.val)
    (fun a C h1 => ord_n (fun a C h2 => ord_p (fun a C h3 => ord_l (rest := []) (Q := fun a' C => ∀ x : Aft w, C.In w x.val → Q .normal a' x.val) (fun a C h4 => h4) l kds 0 a C hlen e1 e2 h3) l kds 0 a C hlen e1 e2 h2) l kds 0 a C hlen e1 e2 h1) l kds 0 a Held.nil hlen e1 e2 h
  have H := hd_ord (md := .any) hF' hn _ (Array.replicate l.toArray.size false) a Held.nil (by simp) hB ho
  rw [hz] at H
  exact wpAny_of_hd hF' (fun a' C w' hw' hC hL => by obtain ⟨x, rfl⟩ := hw'; exact hL x hC) _ _ _ _ _ ⟨⟨_, (Below.refl _ _).drew⟩, rfl⟩ (fun g ob d h => by simp [Held.nil] at h) H
end
end Go.Proofs.YtkdonapgonegkaaDoor

set_option linter.unusedSimpArgs false
set_option linter.unusedVariables false
namespace Go.Proofs.YtkdonapgonegkaaDoor
open Go.RowKit

inductive Ke where
  | quiet
  | new
  | put (ad vl : Operand)
  | late
def Ke.rank : Ke → Nat
  | .quiet => 0
  | .new => 1
  | .put _ _ => 2
  | .late => 3

section
variable {P : Program} {ops : Array Oper} {md : Region.Mode} {w0 : World} {kd : Nat → Ke}

/-- What is asked of the operations. -/
def fit2 (P : Program) (o : Oper) : Ke → Prop
  | .quiet => True
  | .new => o.guard = none
  | .put ad vl => (o.guard = none ∧ o.dst = none) ∧ ad ∈ o.op.operands.toList ∧ vl ∈ o.op.operands.toList
  | .late => o.guard = none
/-- The operations from n on come last, one after the other (or there are none). -/
def Last (md : Region.Mode) (ops : Array Oper) (n : Nat) : Prop := n = ops.size ∨ n < ops.size ∧ Region.sinkB md ops n = true ∧ Region.chainB md ops n = true
theorem Last.lt {n : Nat} (hl : Last md ops n) {listed : Array Bool} (inv : HeadInv md ops n listed) {i j : Nat} (hi : i < n) (hun : listed.getD i true = false) (hj : j ∈ Region.ready md ops listed) : j < n := by
  rcases hl with rfl | ⟨hn, hs, hc⟩
  · obtain ⟨_, oj, hoj, _⟩ := mem_ready.1 hj
    exact (Array.getElem?_eq_some_iff.1 hoj).1
  · exact Nat.lt_of_not_le fun h => tail_waits hs hc hn inv _ i rfl hi hun j h hj

def FitzL (P : Program) : List Oper → List Ke → Prop
  | o :: l, d :: ks => fit2 P o d ∧ FitzL P l ks
  | _, _ => True
theorem FitzL.fits : ∀ {l : List Oper} {ks : List Ke}, FitzL P l ks → l.length = ks.length → ∀ i o, l[i]? = some o → fit2 P o (ks.getD i .quiet)
  | [], [], _, _, i, o, h => by simp at h
  | o :: l, d :: ks, h, hl, 0, o', ho => by simp at ho; subst ho; simpa using h.1
  | o :: l, d :: ks, h, hl, i + 1, o', ho => by
    simp only [List.getElem?_cons_succ] at ho
    simpa using FitzL.fits h.2 (by simpa using hl) i o' ho
  | [], d :: ks, _, hl, _, _, _ => by simp at hl
  | o :: l, [], _, hl, _, _, _ => by simp at hl

end
theorem cell_one {w : World} {g : Nat} {v : Value} {T : TypeId} (h : w.heap[g]? = some (.cells #[v] T)) : ∀ j u, [v][j]? = some u → w.cell? ((⟨g, 0, none⟩ : Addr).add j) = some u := by
  intro j u hj
  match j, hj with
  | 0, hj =>
    simp at hj
    subst hj
    simp [Addr.add, World.cell?, h]
end Go.Proofs.YtkdonapgonegkaaDoor

set_option linter.unusedSimpArgs false
set_option linter.unusedVariables false
namespace Go.Proofs.YtkdonapgonegkaaDoor

theorem and_mask (n : Int) (k : Nat) (hk : k ≤ 62) : bits .and .i64 n (2 ^ k - 1) = n % 2 ^ k := by
  have h0 : (2 : Nat) ^ k ≤ 2 ^ 62 := Nat.pow_le_pow_right (by decide) hk
  have h1 : 0 < (2 : Nat) ^ k := Nat.pow_pos (by decide)
  have e0 : ((2 : Int) ^ k - 1) = ((2 ^ k - 1 : Nat) : Int) := by
    rw [Int.natCast_sub h1]; simp
  have hm : (BitVec.ofInt 64 (2 ^ k - 1)).toNat = 2 ^ k - 1 := by
    rw [e0, ofInt_u64 _ (by omega)]
  have key : (BitVec.ofInt 64 n &&& BitVec.ofInt 64 (2 ^ k - 1)).toNat = (n % ((2 ^ 64 : Nat) : Int)).toNat % 2 ^ k := by
    rw [BitVec.toNat_and, BitVec.toNat_ofInt, hm, Nat.and_two_pow_sub_one_eq_mod]
  show IntKind.i64.wrap ((BitVec.ofInt 64 n &&& BitVec.ofInt 64 (2 ^ k - 1)).toNat : Nat) = n % 2 ^ k
  rw [key, IntKind.wrap_i64]
  have hd : ((2 ^ k : Nat) : Int) ∣ ((2 ^ 64 : Nat) : Int) := Int.natCast_dvd_natCast.2 (Nat.pow_dvd_pow 2 (by omega))
  have hn0 : 0 ≤ n % ((2 ^ 64 : Nat) : Int) := Int.emod_nonneg _ (by decide)
  have h2 : (((n % ((2 ^ 64 : Nat) : Int)).toNat % 2 ^ k : Nat) : Int) = n % 2 ^ k := by
    rw [Int.natCast_emod, Int.toNat_of_nonneg hn0, Int.emod_emod_of_dvd _ hd]; simp
  rw [h2]
  have h3 : (0 : Int) < 2 ^ k := by exact_mod_cast h1
  have h4 : (2 : Int) ^ k ≤ 2 ^ 62 := by exact_mod_cast h0
  have h5 := Int.emod_nonneg n (Int.ne_of_gt h3)
  have h6 := Int.emod_lt_of_pos n h3
  generalize n % 2 ^ k = m at *
  generalize (2 : Int) ^ k = q at *
  omega

theorem or_nat (a b : Nat) (ha : a < 2 ^ 62) (hb : b < 2 ^ 62) : bits .or .i64 (a : Int) (b : Int) = ((a ||| b : Nat) : Int) := by
  show IntKind.i64.wrap ((BitVec.ofInt 64 (a : Int) ||| BitVec.ofInt 64 (b : Int)).toNat : Nat) = _
  rw [BitVec.toNat_or, ofInt_u64 a (by omega), ofInt_u64 b (by omega), IntKind.wrap_i64]
  have := Nat.or_lt_two_pow ha hb
  omega
theorem xor_nat (a b : Nat) (ha : a < 2 ^ 62) (hb : b < 2 ^ 62) : bits .xor .i64 (a : Int) (b : Int) = ((a ^^^ b : Nat) : Int) := by
  show IntKind.i64.wrap ((BitVec.ofInt 64 (a : Int) ^^^ BitVec.ofInt 64 (b : Int)).toNat : Nat) = _
  rw [BitVec.toNat_xor, ofInt_u64 a (by omega), ofInt_u64 b (by omega), IntKind.wrap_i64]
  have := Nat.xor_lt_two_pow ha hb
  omega
theorem and_nat (a b : Nat) (ha : a < 2 ^ 62) (hb : b < 2 ^ 62) : bits .and .i64 (a : Int) (b : Int) = ((a &&& b : Nat) : Int) := by
  show IntKind.i64.wrap ((BitVec.ofInt 64 (a : Int) &&& BitVec.ofInt 64 (b : Int)).toNat : Nat) = _
  rw [BitVec.toNat_and, ofInt_u64 a (by omega), ofInt_u64 b (by omega), IntKind.wrap_i64]
  have := Nat.and_lt_two_pow a hb
  omega

/-- 2 to the power n. -/
def pw (n : Int) : Int := 2 ^ n.toNat
theorem pw_bd {n : Int} (h1 : 0 ≤ n) (h2 : n ≤ 16) : 1 ≤ pw n ∧ pw n ≤ 65536 := by
  obtain ⟨k, rfl⟩ := Int.eq_ofNat_of_zero_le h1
  have hk : k ≤ 16 := by omega
  have : ∀ k : Nat, k ≤ 16 → 1 ≤ pw k ∧ pw k ≤ 65536 := by decide
  exact this k hk
theorem pw_le {n : Int} (h1 : 0 ≤ n) (h2 : n ≤ 61) : 1 ≤ pw n ∧ pw n ≤ 2305843009213693952 := by
  obtain ⟨k, rfl⟩ := Int.eq_ofNat_of_zero_le h1
  have hk : k ≤ 61 := by omega
  have : ∀ k : Nat, k ≤ 61 → 1 ≤ pw k ∧ pw k ≤ 2305843009213693952 := by decide
  exact this k hk
theorem pw_pos (n : Int) : 0 < pw n := by unfold pw; exact Int.pow_pos (by decide)
theorem pw_add {a b : Int} (ha : 0 ≤ a) (hb : 0 ≤ b) : pw (a + b) = pw a * pw b := by
  unfold pw; rw [show (a + b).toNat = a.toNat + b.toNat by omega, Int.pow_add]
end Go.Proofs.YtkdonapgonegkaaDoor

set_option linter.unusedSimpArgs false
set_option linter.unusedVariables false
namespace Go.Proofs.YtkdonapgonegkaaDoor
open Go.RowKit

section
variable {P : Program} {ops : Array Oper} {Q : Exit → Act → World → Prop} {md : Region.Mode}

theorem unlisted_set {listed : Array Bool} {i : Nat} (h : listed.getD i true = false) : (listed.setIfInBounds i true).toList.countP (!·) + 1 = listed.toList.countP (!·) := by
  have hlt : i < listed.size := by
    rcases Nat.lt_or_ge i listed.size with h1 | h1
    · exact h1
    · rw [Array.getD_eq_getD_getElem?, Array.getElem?_eq_none h1] at h; cases h
  have hi : listed[i] = false := by rw [Array.getD_eq_getD_getElem?, Array.getElem?_eq_getElem hlt] at h; simpa using h
  have hl : i < listed.toList.length := by simpa using hlt
  rw [Array.toList_setIfInBounds, List.countP_set hl]
  have hi' : listed.toList[i] = false := by simpa using hi
  have hpos : 0 < listed.toList.countP (!·) := List.countP_pos_iff.2 ⟨listed.toList[i], List.getElem_mem hl, by rw [hi']; rfl⟩
  rw [hi']
  generalize listed.toList.countP (!·) = n at *
  show n - 1 + 0 + 1 = n
  omega
theorem wpAny_J {J : Array Bool → Act → World → Prop}
    (hs : ∀ i o, ops[i]? = some o → ∀ listed a w, J listed a w → listed.getD i true = false → (∀ e ∈ o.after, Region.binds md e = true → listed.getD e.on false = true) → wpOp P ops Q i (J (listed.setIfInBounds i true)) a w)
    (hq : ∀ listed a w, J listed a w → Region.ready md ops listed = [] → Q .normal a w) :
    ∀ (f : Nat) (listed : Array Bool) (a : Act) (w : World), listed.toList.countP (!·) ≤ f → J listed a w → wpAny P md ops Q f listed a w
  | 0, listed, a, w, hf, hJ => by
    have hr : Region.ready md ops listed = [] := by
      cases h : Region.ready md ops listed with
      | nil => rfl
      | cons i r =>
        have hi : i ∈ Region.ready md ops listed := by rw [h]; exact List.mem_cons_self
        have := unlisted_set (mem_ready.1 hi).1
        omega
    exact ⟨hr, hq _ _ _ hJ hr⟩
  | f + 1, listed, a, w, hf, hJ => by
    refine ⟨fun hr => hq _ _ _ hJ hr, fun i hi => ?_⟩
    obtain ⟨h1, o, ho, h2⟩ := mem_ready.1 hi
    have := unlisted_set h1
    exact wpOp_mono (fun a' w' hJ' => wpAny_J hs hq f _ a' w' (by omega) hJ') (hs i o ho listed a w hJ h1 h2)

/-- A region that draws its order, by an invariant over which operations have been done. -/
theorem wp_region_J {id : Nat} {a : Act} {w : World} {l : List Oper} (J : Array Bool → Act → World → Prop) (hm : P.follows .mixedOrders = true)
    (h0 : J (Array.replicate l.toArray.size false) a (w.drew))
    (hs : ∀ i o, l[i]? = some o → ∀ listed a w, J listed a w → listed.getD i true = false → (∀ e ∈ o.after, Region.binds .any e = true → listed.getD e.on false = true) → wpOp P l.toArray Q i (J (listed.setIfInBounds i true)) a w)
    (hq : ∀ listed a w, J listed a w → Region.ready .any l.toArray listed = [] → Q .normal a w) :
    (Code.region id l.toArray true).wp P Q a w := by
  refine wp_region_any hm ?_
  refine wpAny_J (J := J) (fun i o ho => hs i o (by simpa using ho)) hq _ _ _ _ ?_ h0
  refine Nat.le_trans List.countP_le_length ?_
  simp
end
end Go.Proofs.YtkdonapgonegkaaDoor

set_option linter.unusedSimpArgs false
set_option linter.unusedVariables false
namespace Go.Proofs.YtkdonapgonegkaaDoor
open Go.RowKit

/-- The frame a with those of the values laid in whose bit is set. -/
def frm (a : Act) : List (Bool × Tmp × Value) → Act
  | [] => a
  | (b, d, v) :: S => if b then (frm a S).put (some d) v else frm a S
theorem fr_size (a : Act) : ∀ S, (frm a S).tmps.size = a.tmps.size
  | [] => rfl
  | (b, d, v) :: S => by
    unfold frm
    cases b
    · exact fr_size a S
    · simpa [Act.put] using fr_size a S
theorem put_other {a : Act} {d e : Tmp} {v : Value} (h : e ≠ d) : (a.put (some d) v).eval (.tmp e) = a.eval (.tmp e) := by
  simp [Act.put, Act.eval, Array.getD_eq_getD_getElem?, Array.getElem?_setIfInBounds_ne (Ne.symm h)]
theorem put_self {a : Act} {d : Tmp} {v : Value} (h : d < a.tmps.size) : (a.put (some d) v).eval (.tmp d) = v := by
  simp [Act.put, Act.eval, Array.getD_eq_getD_getElem?, Array.getElem?_setIfInBounds_self_of_lt h]
theorem fr_other {a : Act} {d : Tmp} : ∀ {S : List (Bool × Tmp × Value)}, d ∉ S.map (fun s => s.2.1) → (frm a S).eval (.tmp d) = a.eval (.tmp d)
  | [], _ => rfl
  | (b, d', v) :: S, h => by
    simp only [List.map_cons, List.mem_cons, not_or] at h
    unfold frm
    cases b
    · exact fr_other h.2
    · exact (put_other h.1).trans (fr_other h.2)
theorem mem_dst {S : List (Bool × Tmp × Value)} {j : Nat} {b : Bool} {d : Tmp} {v : Value} (h : S[j]? = some (b, d, v)) : d ∈ S.map (fun s => s.2.1) :=
  List.mem_map.2 ⟨_, List.mem_of_getElem? h, rfl⟩
theorem fr_off {a : Act} {d : Tmp} {v : Value} : ∀ {S : List (Bool × Tmp × Value)} {j : Nat}, (S.map (fun s => s.2.1)).Nodup → S[j]? = some (false, d, v) → (frm a S).eval (.tmp d) = a.eval (.tmp d)
  | [], j, _, h => by simp at h
  | (b, d', v') :: S, 0, hn, h => by
    simp at h
    obtain ⟨rfl, rfl, rfl⟩ := h
    simp only [List.map_cons, List.nodup_cons] at hn
    unfold frm
    exact fr_other hn.1
  | (b, d', v') :: S, j + 1, hn, h => by
    simp only [List.getElem?_cons_succ] at h
    simp only [List.map_cons, List.nodup_cons] at hn
    have hd : d ≠ d' := fun e => hn.1 (e ▸ mem_dst h)
    unfold frm
    cases b
    · exact fr_off hn.2 h
    · exact (put_other hd).trans (fr_off hn.2 h)
theorem fr_on {a : Act} {d : Tmp} {v : Value} (hd : d < a.tmps.size) : ∀ {S : List (Bool × Tmp × Value)} {j : Nat}, (S.map (fun s => s.2.1)).Nodup → S[j]? = some (true, d, v) → (frm a S).eval (.tmp d) = v
  | [], j, _, h => by simp at h
  | (b, d', v') :: S, 0, hn, h => by
    simp at h
    obtain ⟨rfl, rfl, rfl⟩ := h
    unfold frm
    exact put_self (by rw [fr_size]; exact hd)
  | (b, d', v') :: S, j + 1, hn, h => by
    simp only [List.getElem?_cons_succ] at h
    simp only [List.map_cons, List.nodup_cons] at hn
    have hd' : d ≠ d' := fun e => hn.1 (e ▸ mem_dst h)
    unfold frm
    cases b
    · exact fr_on hd hn.2 h
    · exact (put_other hd').trans (fr_on hd hn.2 h)
theorem put_put_comm {a : Act} {d e : Tmp} {u v : Value} (h : d ≠ e) : (a.put (some d) u).put (some e) v = (a.put (some e) v).put (some d) u :=
  Act.put_comm a u v fun x hx hy => by cases hx; cases hy; exact h rfl
theorem fr_set {a : Act} {d : Tmp} {v w : Value} : ∀ {S : List (Bool × Tmp × Value)} {j : Nat}, (S.map (fun s => s.2.1)).Nodup → S[j]? = some (false, d, w) → (frm a S).put (some d) v = frm a (S.set j (true, d, v))
  | [], j, _, h => by simp at h
  | (b, d', v') :: S, 0, hn, h => by
    simp at h
    obtain ⟨rfl, rfl, rfl⟩ := h
    simp only [List.set_cons_zero]
    conv => lhs; unfold frm
    conv => rhs; unfold frm
    simp
  | (b, d', v') :: S, j + 1, hn, h => by
    simp only [List.getElem?_cons_succ] at h
    simp only [List.map_cons, List.nodup_cons] at hn
    have hd' : d ≠ d' := fun e => hn.1 (e ▸ mem_dst h)
    simp only [List.set_cons_succ]
    conv => lhs; unfold frm
    conv => rhs; unfold frm
    cases b
    · simpa using fr_set hn.2 h
    · simp only [if_true]
      rw [put_put_comm (Ne.symm hd'), fr_set hn.2 h]

section
variable {P : Program} {Q : Exit → Act → World → Prop}
/-- Each operation waits for earlier ones alone. -/
def fwdB (l : List Oper) : Bool := l.zipIdx.all fun x => x.1.after.all fun e => !Region.binds .any e || decide (e.on < x.2)
theorem fwdB_at {l : List Oper} (h : fwdB l = true) {i : Nat} {o : Oper} (ho : l[i]? = some o) : ∀ e ∈ o.after, Region.binds .any e = true → e.on < i := by
  intro e he hb
  unfold fwdB at h
  have hm : (o, i) ∈ l.zipIdx := List.mem_zipIdx_iff_getElem?.2 ho
  have h1 := (List.all_eq_true.1 h) _ hm
  have h2 := (Array.all_eq_true'.1 h1) e he
  rw [hb] at h2
  simpa using h2
theorem all_done {l : List Oper} (h : fwdB l = true) {listed : Array Bool} (hz : listed.size = l.length) (hr : Region.ready .any l.toArray listed = []) : ∀ i, i < l.length → listed.getD i true = true := by
  intro i
  induction i using Nat.strongRecOn with
  | ind i ih =>
    intro hi
    cases hb : listed.getD i true with
    | true => rfl
    | false =>
      exfalso
      have ho := List.getElem?_eq_getElem hi
      have : i ∈ Region.ready .any l.toArray listed := mem_ready.2 ⟨hb, l[i], by simp [ho], fun e he hbi => by
        have hlt := fwdB_at h ho e he hbi
        have h1 := ih e.on hlt (by omega)
        rw [Array.getD_eq_getD_getElem?, Array.getElem?_eq_getElem (by omega)] at h1 ⊢
        simpa using h1⟩
      rw [hr] at this
      cases this

def zp (b : List Bool) (E : List (Tmp × Value)) : List (Bool × Tmp × Value) := b.zip E
theorem zp_dst {b : List Bool} {E : List (Tmp × Value)} (h : b.length = E.length) : (zp b E).map (fun s => s.2.1) = E.map Prod.fst := by
  unfold zp
  induction b generalizing E with
  | nil => cases E with | nil => rfl | cons x E => simp at h
  | cons y b ih => cases E with | nil => simp at h | cons x E => simp at h; simp [ih h]
theorem zp_at {b : List Bool} {E : List (Tmp × Value)} {j : Nat} {c : Bool} {d : Tmp} {v : Value} (hb : b[j]? = some c) (hE : E[j]? = some (d, v)) : (zp b E)[j]? = some (c, d, v) := by
  unfold zp
  rw [List.getElem?_zip_eq_some]
  exact ⟨hb, hE⟩
theorem fr_same {a : Act} : ∀ {b : List Bool} {E E' : List (Tmp × Value)}, E.length = E'.length → (∀ j : Nat, b[j]? = some true → E[j]? = E'[j]?) → frm a (zp b E) = frm a (zp b E')
  | [], E, E', _, _ => by simp [zp]
  | y :: b, [], [], _, _ => rfl
  | y :: b, [], _ :: _, h, _ => by simp at h
  | y :: b, _ :: _, [], h, _ => by simp at h
  | y :: b, (d, v) :: E, (d', v') :: E', h, hj => by
    have ih := fr_same (a := a) (b := b) (E := E) (E' := E') (by simpa using h) (fun j hb => by simpa using hj (j + 1) (by simpa using hb))
    show frm a ((y, d, v) :: zp b E) = frm a ((y, d', v') :: zp b E')
    unfold frm
    cases y
    · exact ih
    · have h0 := hj 0 (by simp)
      simp at h0
      obtain ⟨rfl, rfl⟩ := h0
      rw [ih]
theorem getD_some {b : List Bool} {j : Nat} (h : b.getD j false = true) : b[j]? = some true := by
  rw [List.getD_eq_getElem?_getD] at h
  cases hb : b[j]? with
  | none => rw [hb] at h; cases h
  | some c => rw [hb] at h; simpa using h
theorem getD_none' {b : List Bool} {j : Nat} (h : b.getD j true = false) : b[j]? = some false := by
  rw [List.getD_eq_getElem?_getD] at h
  cases hb : b[j]? with
  | none => rw [hb] at h; cases h
  | some c => rw [hb] at h; simpa using h
theorem ev_on {a : Act} {b : List Bool} {E : List (Tmp × Value)} {j : Nat} {d : Tmp} {v : Value} (hl : b.length = E.length) (hn : (E.map Prod.fst).Nodup) (hb : b[j]? = some true) (hE : E[j]? = some (d, v)) (hd : d < a.tmps.size) : (frm a (zp b E)).eval (.tmp d) = v :=
  fr_on hd (by rw [zp_dst hl]; exact hn) (zp_at hb hE)
theorem ev_off {a : Act} {b : List Bool} {E : List (Tmp × Value)} {j : Nat} {d : Tmp} {v : Value} (hl : b.length = E.length) (hn : (E.map Prod.fst).Nodup) (hb : b[j]? = some false) (hE : E[j]? = some (d, v)) : (frm a (zp b E)).eval (.tmp d) = a.eval (.tmp d) :=
  fr_off (by rw [zp_dst hl]; exact hn) (zp_at hb hE)
theorem ev_else {a : Act} {b : List Bool} {E : List (Tmp × Value)} {d : Tmp} (hl : b.length = E.length) (hd : d ∉ E.map Prod.fst) : (frm a (zp b E)).eval (.tmp d) = a.eval (.tmp d) :=
  fr_other (by rw [zp_dst hl]; exact hd)
theorem zp_set {b : List Bool} {E : List (Tmp × Value)} {j : Nat} {d : Tmp} {v : Value} (hE : E[j]? = some (d, v)) : (zp b E).set j (true, d, v) = zp (b.set j true) E := by
  unfold zp
  induction b generalizing E j with
  | nil => simp
  | cons y b ih =>
    cases E with
    | nil => simp at hE
    | cons x E =>
      cases j with
      | zero => simp at hE; subst hE; simp
      | succ j => simp at hE; simp [ih hE]
theorem put_done {a : Act} {b : List Bool} {E E' : List (Tmp × Value)} {j : Nat} {d : Tmp} {v : Value} (hl : b.length = E.length) (hl' : E.length = E'.length) (hn : (E'.map Prod.fst).Nodup) (hb : b[j]? = some false) (hE : E'[j]? = some (d, v))
    (hs : ∀ k : Nat, b[k]? = some true → E[k]? = E'[k]?) : (frm a (zp b E)).put (some d) v = frm a (zp (b.set j true) E') := by
  rw [fr_same hl' hs, fr_set (by rw [zp_dst (by omega)]; exact hn) (zp_at hb hE), zp_set hE]

/-- A region that draws its order: which operations are done, what each gives, and a condition on the world. -/
theorem wp_region_fr {α : Type} {id : Nat} {a : Act} {w : World} {l : List Oper} (E : α → List (Tmp × Value)) (C : List Bool → α → World → Prop) (hm : P.follows .mixedOrders = true) (hf : fwdB l = true)
    (h0 : ∃ x, C (List.replicate l.length false) x w.drew) (hlen : ∀ x, (E x).length = l.length)
    (hs : ∀ (i : Nat) (o : Oper), l[i]? = some o → ∀ (b : List Bool) (x : α) (w' : World), b.length = l.length → C b x w' → b[i]? = some false → (∀ e ∈ o.after, Region.binds .any e = true → b[e.on]? = some true) →
      (∀ (j : Nat) (p : Oper), l[j]? = some p → b[j]? = some true → ∀ e ∈ p.after, Region.binds .any e = true → b[e.on]? = some true) →
      wpOp P l.toArray Q i (fun a' w'' => ∃ x', C (b.set i true) x' w'' ∧ a' = frm a (zp (b.set i true) (E x'))) (frm a (zp b (E x))) w')
    (hq : ∀ x w', C (List.replicate l.length true) x w' → Q .normal (frm a (zp (List.replicate l.length true) (E x))) w') :
    (Code.region id l.toArray true).wp P Q a w := by
  refine wp_region_J (fun listed a' w' => ∃ (b : List Bool) (x : α), listed = b.toArray ∧ b.length = l.length ∧ C b x w' ∧ a' = frm a (zp b (E x)) ∧
    ∀ (j : Nat) (p : Oper), l[j]? = some p → b[j]? = some true → ∀ e ∈ p.after, Region.binds .any e = true → b[e.on]? = some true) hm ?_ ?_ ?_
  · obtain ⟨x, hx⟩ := h0
    refine ⟨_, x, by simp, by simp, hx, ?_, fun j p _ hb => ?_⟩
    · have : ∀ (n : Nat) (E : List (Tmp × Value)), frm a (zp (List.replicate n false) E) = a := by
        intro n
        induction n with
        | zero => intro E; simp [zp, frm]
        | succ n ih => intro E; cases E with
          | nil => simp [zp, frm]
          | cons y E => show frm a ((false, y.1, y.2) :: zp (List.replicate n false) E) = a; unfold frm; simpa using ih E
      exact (this _ _).symm
    · rw [List.getElem?_replicate] at hb
      split at hb <;> cases hb
  · rintro i o ho listed a' w' ⟨b, x, rfl, hb, hC, rfl, hcl⟩ hun hall
    have hun' : b[i]? = some false := getD_none' (by simpa [Array.getD_eq_getD_getElem?, List.getD_eq_getElem?_getD] using hun)
    have hall' : ∀ e ∈ o.after, Region.binds .any e = true → b[e.on]? = some true := fun e he hbi => getD_some (by simpa [Array.getD_eq_getD_getElem?, List.getD_eq_getElem?_getD] using hall e he hbi)
    refine wpOp_mono (fun a'' w'' ⟨x', hC', ha⟩ => ⟨b.set i true, x', by simp, by simpa using hb, hC', ha, fun j p hp hj e he hbi => ?_⟩) (hs i o ho b x w' hb hC hun' hall' hcl)
    have key : b[e.on]? = some true := by
      by_cases hij : i = j
      · subst hij
        rw [ho] at hp
        obtain rfl := Option.some.inj hp
        exact hall' e he hbi
      · rw [List.getElem?_set_ne hij] at hj
        exact hcl j p hp hj e he hbi
    by_cases hie : i = e.on
    · rw [← hie] at key; rw [key] at hun'; cases hun'
    · rw [List.getElem?_set_ne hie]; exact key
  · rintro listed a' w' ⟨b, x, rfl, hb, hC, rfl, hcl⟩ hr
    have hall := all_done hf (by simpa using hb) hr
    have e : b = List.replicate l.length true := by
      apply List.ext_getElem (by simpa using hb)
      intro i h1 h2
      have := hall i (by omega)
      simpa [Array.getD_eq_getD_getElem?, h1] using this
    rw [e] at hC ⊢
    exact hq x w' hC

/-- The same, the frame hidden: of each operation that is done its value is known. -/
theorem wp_region_fx {α : Type} {id : Nat} {a : Act} {w : World} {l : List Oper} (E : α → List (Tmp × Value)) (C : List Bool → α → World → Prop) (hm : P.follows .mixedOrders = true) (hf : fwdB l = true)
    (h0 : ∃ x, C (List.replicate l.length false) x w.drew) (D : List Tmp) (hD : ∀ x, (E x).map Prod.fst = D) (hlen : D.length = l.length) (hnd : D.Nodup) (hsz : ∃ n, a.tmps.size = n ∧ ∀ d ∈ D, d < n)
    (hs : ∀ (i : Nat) (o : Oper), l[i]? = some o → ∀ (b : List Bool) (x : α) (w' : World) (A : Act), C b x w' → b.length = l.length → b[i]? = some false → (∀ e ∈ o.after, Region.binds .any e = true → b[e.on]? = some true) →
      (∀ (j : Nat) (p : Oper), l[j]? = some p → b[j]? = some true → ∀ e ∈ p.after, Region.binds .any e = true → b[e.on]? = some true) →
      (∀ (j : Nat) (d : Tmp) (v : Value), b[j]? = some true → (E x)[j]? = some (d, v) → A.eval (.tmp d) = v) → (∀ (j : Nat) (d : Tmp) (v : Value), b[j]? = some false → (E x)[j]? = some (d, v) → A.eval (.tmp d) = a.eval (.tmp d)) →
      (∀ d : Tmp, d ∉ D → A.eval (.tmp d) = a.eval (.tmp d)) →
      ∀ K : Act → World → Prop, (∀ (d : Tmp) (v : Value) (x' : α) (w'' : World), C (b.set i true) x' w'' → (E x')[i]? = some (d, v) → (∀ k : Nat, b[k]? = some true → (E x)[k]? = (E x')[k]?) → K (A.put (some d) v) w'') →
      if Region.wanted o (yielded l.toArray A.tmps) = true then Oper.wp P o A w' K Q else K (A.put o.dst undef) w')
    (hq : ∀ x w', C (List.replicate l.length true) x w' → Q .normal (frm a (zp (List.replicate l.length true) (E x))) w') :
    (Code.region id l.toArray true).wp P Q a w := by
  obtain ⟨n, hn0, hsz'⟩ := hsz
  have hsz : ∀ d ∈ D, d < a.tmps.size := by rw [hn0]; exact hsz'
  have hl : ∀ x, (E x).length = l.length := fun x => by rw [← hlen, ← hD x, List.length_map]
  refine wp_region_fr E C hm hf h0 hl (fun i o ho b x w' hb hC hun hall hcl => ?_) hq
  have hn : ∀ x, ((E x).map Prod.fst).Nodup := fun x => by rw [hD x]; exact hnd
  have hin : ∀ {j : Nat} {d : Tmp} {v : Value}, (E x)[j]? = some (d, v) → d < a.tmps.size := fun {j d v} hE => hsz d (by rw [← hD x]; exact List.mem_map.2 ⟨_, List.mem_of_getElem? hE, rfl⟩)
  have H := hs i o ho b x w' (frm a (zp b (E x))) hC hb hun hall hcl (fun j d v hj hE => ev_on (by rw [hb, hl]) (hn x) hj hE (hin hE)) (fun j d v hj hE => ev_off (by rw [hb, hl]) (hn x) hj hE) (fun d hd => ev_else (by rw [hb, hl]) (by rw [hD x]; exact hd))
    (fun a' w'' => ∃ x', C (b.set i true) x' w'' ∧ a' = frm a (zp (b.set i true) (E x'))) (fun d v x' w'' hC' hE hk => ⟨x', hC', put_done (by rw [hb, hl]) (by rw [hl, hl]) (hn x') hun hE hk⟩)
  have ho' : l.toArray[i]? = some o := by simpa using ho
  unfold wpOp
  simp only [ho']
  split
  · rename_i h1; rw [if_pos h1] at H; exact .inl H
  · rename_i h1; rw [if_neg h1] at H; exact H
end

/-- Two rows of numbers of the call's own, apart from each other. -/
structure Rows2 (w : World) (B : Nat) (T : TypeId) (v1 : Value) (xs : List Int) (v2 : Value) (ys : List Int) : Prop where
  o1 : w.ownsRow B T 1 v1 xs.length (xs.map (Value.int .i64))
  o2 : w.ownsRow B T 1 v2 ys.length (ys.map (Value.int .i64))
  ne : v1.ownBlock = none ∨ v1.ownBlock ≠ v2.ownBlock
theorem Rows2.nil (w : World) (B : Nat) (T : TypeId) : Rows2 w B T (.slice none 0 0) [] (.slice none 0 0) [] := ⟨World.ownsRow_nil _ _ _ _, World.ownsRow_nil _ _ _ _, .inl rfl⟩
theorem Rows2.drew {w : World} {B : Nat} {T : TypeId} {v1 v2 : Value} {xs ys : List Int} (h : Rows2 w B T v1 xs v2 ys) : Rows2 w.drew B T v1 xs v2 ys := ⟨h.o1.drew, h.o2.drew, h.ne⟩
theorem Rows2.alloc {w : World} {B : Nat} {T : TypeId} {v1 v2 : Value} {xs ys : List Int} (h : Rows2 w B T v1 xs v2 ys) (o : Obj) : Rows2 (w.alloc o) B T v1 xs v2 ys := ⟨h.o1.alloc o, h.o2.alloc o, h.ne⟩
theorem Rows2.app1 {w w' : World} {B : Nat} {T : TypeId} {v1 v2 v1' : Value} {xs ys : List Int} {x : Int} (h : Rows2 w B T v1 xs v2 ys)
    (ho : w'.ownsRow B T 1 v1' (xs.length + 1) (xs.map (Value.int .i64) ++ [.int .i64 x])) (hg : w.grownBy w' v1.ownBlock) (hat : v1'.ownBlock = v1.ownBlock ∨ v1'.ownBlock = some w.heap.size) : Rows2 w' B T v1' (xs ++ [x]) v2 ys := by
  refine ⟨by rw [List.length_append, List.map_append]; exact ho, h.o2.kept hg ?_, ?_⟩
  · rcases h.ne with h1 | h1
    · rw [h1]
      cases v2.ownBlock with
      | none => exact .inl rfl
      | some g => exact .inr (by simp)
    · exact .inr (Ne.symm h1)
  · rcases hat with h1 | h1
    · rw [h1]; exact h.ne
    · right
      rw [h1]
      intro e
      have := (h.o2.lt _ e.symm).2
      omega
theorem Rows2.app2 {w w' : World} {B : Nat} {T : TypeId} {v1 v2 v2' : Value} {xs ys : List Int} {y : Int} (h : Rows2 w B T v1 xs v2 ys)
    (ho : w'.ownsRow B T 1 v2' (ys.length + 1) (ys.map (Value.int .i64) ++ [.int .i64 y])) (hg : w.grownBy w' v2.ownBlock) (hat : v2'.ownBlock = v2.ownBlock ∨ v2'.ownBlock = some w.heap.size) : Rows2 w' B T v1 xs v2' (ys ++ [y]) := by
  refine ⟨h.o1.kept hg h.ne, by rw [List.length_append, List.map_append]; exact ho, ?_⟩
  rcases hat with h1 | h1
  · rw [h1]; exact h.ne
  · cases hb : v1.ownBlock with
    | none => exact .inl rfl
    | some g =>
      right
      rw [h1]
      intro e
      have := (h.o1.lt _ hb).2
      injection e with e
      omega

/-- Two appends to two rows beside each other, the second behind the first: what has been done, and what lies where. -/
structure NJ (wr : World) (T : TypeId) (r1 : Value) (xs : List Int) (x : Int) (r2 : Value) (ys : List Int) (y : Int) (b12 b13 b27 b28 : Bool) (q : Nat × Nat × Value × Value) (W : World) : Prop where
  bel : Below wr.heap.size wr W
  row : Rows2 W wr.heap.size T (if b13 then q.2.2.1 else r1) (if b13 then xs ++ [x] else xs) (if b28 then q.2.2.2 else r2) (if b28 then ys ++ [y] else ys)
  c1 : b12 = true → b13 = false → W.heap[q.1]? = some (.cells #[.int .i64 x] T)
  c2 : b27 = true → b28 = false → W.heap[q.2.1]? = some (.cells #[.int .i64 y] T) ∧ (b13 = false → r1.ownBlock ≠ some q.2.1)
section
variable {wr : World} {T : TypeId} {r1 : Value} {xs : List Int} {x : Int} {r2 : Value} {ys : List Int} {y : Int} {b12 b13 b27 b28 : Bool} {q : Nat × Nat × Value × Value} {W : World}
theorem NJ.drew (h : NJ wr T r1 xs x r2 ys y b12 b13 b27 b28 q W) : NJ wr T r1 xs x r2 ys y b12 b13 b27 b28 q W.drew := ⟨h.bel.drew, h.row.drew, h.c1, h.c2⟩
theorem NJ.start (hb : Below wr.heap.size wr W) (hr : Rows2 W wr.heap.size T r1 xs r2 ys) (q : Nat × Nat × Value × Value) : NJ wr T r1 xs x r2 ys y false false false false q W :=
  ⟨hb, hr, fun h => absurd h (by decide), fun h => absurd h (by decide)⟩
theorem NJ.bs1 (h : NJ wr T r1 xs x r2 ys y false false b27 b28 q W) : NJ wr T r1 xs x r2 ys y true false b27 b28 (W.heap.size, q.2) (W.alloc (.cells #[.int .i64 x] T)) :=
  ⟨h.bel.alloc h.bel.size _, h.row.alloc _, fun _ _ => heap_alloc_new _ _, fun h1 h2 => ⟨by exact (Below.heap_alloc _ _ _ (lt_of_get (h.c2 h1 h2).1)).trans (h.c2 h1 h2).1, (h.c2 h1 h2).2⟩⟩
theorem NJ.bs2 (h : NJ wr T r1 xs x r2 ys y b12 b13 false false q W) : NJ wr T r1 xs x r2 ys y b12 b13 true false (q.1, W.heap.size, q.2.2) (W.alloc (.cells #[.int .i64 y] T)) :=
  ⟨h.bel.alloc h.bel.size _, h.row.alloc _, fun h1 h2 => by exact (Below.heap_alloc _ _ _ (lt_of_get (h.c1 h1 h2))).trans (h.c1 h1 h2), fun _ _ => ⟨heap_alloc_new _ _, fun h3 e => by
    subst h3
    have := (h.row.o1.lt _ (by simpa using e)).2
    omega⟩⟩
theorem NJ.ap1 (h : NJ wr T r1 xs x r2 ys y true false b27 false q W) {v : Value} {w' : World} (ho : w'.ownsRow wr.heap.size T 1 v (xs.length + 1) (xs.map (Value.int .i64) ++ [.int .i64 x])) (hg : W.grownBy w' r1.ownBlock) (hat : v.ownBlock = r1.ownBlock ∨ v.ownBlock = some W.heap.size) :
    NJ wr T r1 xs x r2 ys y true true b27 false (q.1, q.2.1, v, q.2.2.2) w' := by
  have hr : Rows2 W wr.heap.size T r1 xs r2 ys := by simpa using h.row
  refine ⟨h.bel.grown hg h.bel.size (fun k hk => (hr.o1.lt k hk).1), by simpa using hr.app1 ho hg hat, fun _ h2 => absurd h2 (by decide), fun h1 h2 => ⟨?_, fun h3 => absurd h3 (by decide)⟩⟩
  obtain ⟨c, ne⟩ := h.c2 h1 h2
  rw [hg.block _ (lt_of_get c) (by have := ne rfl; exact fun e => this e.symm)]
  exact c
theorem NJ.ap2 (h : NJ wr T r1 xs x r2 ys y true true true false q W) {v : Value} {w' : World} (ho : w'.ownsRow wr.heap.size T 1 v (ys.length + 1) (ys.map (Value.int .i64) ++ [.int .i64 y])) (hg : W.grownBy w' r2.ownBlock) (hat : v.ownBlock = r2.ownBlock ∨ v.ownBlock = some W.heap.size) :
    NJ wr T r1 xs x r2 ys y true true true true (q.1, q.2.1, q.2.2.1, v) w' := by
  have hr : Rows2 W wr.heap.size T q.2.2.1 (xs ++ [x]) r2 ys := by simpa using h.row
  exact ⟨h.bel.grown hg h.bel.size (fun k hk => (hr.o2.lt k hk).1), by simpa using hr.app2 ho hg hat, fun _ h2 => absurd h2 (by decide), fun _ h2 => absurd h2 (by decide)⟩
end

theorem ev_tmp {a : Act} {d : Tmp} {v : Value} (h : a.eval (.tmp d) = v) : a.tmps[d]?.getD undef = v := by rw [← h]; simp [Act.eval, Array.getD_eq_getD_getElem?]
theorem not_yet {l : List Oper} {b : List Bool} {i j : Nat} {p : Oper} (hl : j < b.length) (hcl : ∀ (j : Nat) (p : Oper), l[j]? = some p → b[j]? = some true → ∀ e ∈ p.after, Region.binds .any e = true → b[e.on]? = some true)
    (hp : l[j]? = some p) (e : Edge) (he : e ∈ p.after) (hbi : Region.binds .any e = true) (heq : e.on = i) (hun : b[i]? = some false) : b[j]? = some false := by
  cases hb : b[j] with
  | false => rw [List.getElem?_eq_getElem hl, hb]
  | true =>
    have := hcl j p hp (by rw [List.getElem?_eq_getElem hl, hb]) e he hbi
    rw [heq, hun] at this
    cases this
def bt (b : List Bool) (i : Nat) : Bool := b.getD i false
theorem bt_ne {b : List Bool} {i j : Nat} (h : i ≠ j) : bt (b.set i true) j = bt b j := by
  unfold bt; rw [List.getD_eq_getElem?_getD, List.getElem?_set_ne h, ← List.getD_eq_getElem?_getD]
theorem bt_eq {b : List Bool} {i : Nat} {c : Bool} (h : b[i]? = some c) : bt (b.set i true) i = true := by
  have := (List.getElem?_eq_some_iff.1 h).1
  unfold bt; rw [List.getD_eq_getElem?_getD, List.getElem?_set_self this]; rfl
theorem bt_of {b : List Bool} {i : Nat} {c : Bool} (h : b[i]? = some c) : bt b i = c := by
  unfold bt; rw [List.getD_eq_getElem?_getD, h]; rfl
def CJ (wr : World) (T : TypeId) (r1 : Value) (xs : List Int) (x : Int) (r2 : Value) (ys : List Int) (y : Int) (b : List Bool) (q : Nat × Nat × Value × Value) (W : World) : Prop :=
  NJ wr T r1 xs x r2 ys y (bt b 12) (bt b 13) (bt b 27) (bt b 28) q W
theorem CJ.quiet {wr : World} {T : TypeId} {r1 : Value} {xs : List Int} {x : Int} {r2 : Value} {ys : List Int} {y : Int} {b : List Bool} {q : Nat × Nat × Value × Value} {W : World} (h : CJ wr T r1 xs x r2 ys y b q W) (i : Nat)
    (hi : i ≠ 12 ∧ i ≠ 13 ∧ i ≠ 27 ∧ i ≠ 28) : CJ wr T r1 xs x r2 ys y (b.set i true) q W := by
  unfold CJ
  rw [bt_ne hi.1, bt_ne hi.2.1, bt_ne hi.2.2.1, bt_ne hi.2.2.2]
  exact h

/-- append to a row of the call's own, as one step of a region that draws. -/
theorem step_append_at {P : Program} {ops : Array Oper} {o : Oper} {a : Act} {w : World} {K : Act → World → Prop} {Q : Exit → Act → World → Prop} {E : Prop}
    (hg : o.guard = none) (s x : Operand) (t : TypeId) (hop : o.op = Op.call { callee := Callee.builtin Builtin.append, args := #[s, x], argTypes := #[t, t] })
    (base : Nat) (e : TypeId) (i : TypeInfo) (z : Value) (size bytes : Nat) (h1 : P.underlying t = some (.slice e)) (h2 : P.info? e = some i) (h3 : i.zero = some z) (h4 : i.size = size) (h5 : i.bytes = bytes) (h6 : z.cells.size = size) (h7 : 0 < size)
    (v : Value) (n : Nat) (xs : List Value) (hs : a.eval s = v) (hown : w.ownsRow base e size v n xs)
    (ad : Addr) (m c : Nat) (news : List Value) (hx : a.eval x = .slice (some ad) m c) (hn : news.length = m * size) (hc : ∀ j u, news[j]? = some u → w.cell? (ad.add j) = some u) (h1c : ∀ u ∈ news, u.oneCell' = true)
    (b1 : n + m ≤ maxLen) (b2 : (n + m) * bytes ≤ 140737488355328) (hbase : base ≤ w.heap.size)
    (hK : ∀ v' w', w'.ownsRow base e size v' (n + m) (xs ++ news) → w.grownBy w' v.ownBlock → (v'.ownBlock = v.ownBlock ∨ v'.ownBlock = some w.heap.size) → K (a.put o.dst v') w') :
    if Region.wanted o (yielded ops a.tmps) = true then Oper.wp P o a w K Q else E := by
  have hw : Region.wanted o (yielded ops a.tmps) = true := by simp [Region.wanted, hg]
  rw [if_pos hw]
  obtain ⟨v', w', hrun, r1, r2, _, r4⟩ := run_append_own_at (P := P) w base t o.type e i z size bytes h1 h2 h3 h4 h5 h6 h7 v n xs hown ad m c news hn hc h1c b1 b2 hbase
  unfold Oper.wp
  simp [execOp, hop, resolve, invoke, builtin, hs, hx, hrun, Result.andThen]
  exact hK v' w' r1 r2 r4
end Go.Proofs.YtkdonapgonegkaaDoor
