/-
  Plain lemmas of the verifier's own, over any program: a region that draws its order, whose operations are quiet ones, new blocks, stores into these, moves behind them, and a forced tail. No Go text.
-/
import Derived.Test.YtkdonapgonegkaaDoorKic
set_option linter.unusedSimpArgs false
set_option linter.unusedVariables false
namespace Go.Proofs.YtkdonapgonegkaaDoor
open Go.RowKit

inductive Ke where
  | quiet
  | new
  | put (ad vl : Operand)
  | late
def Ke.rank : Ke → Nat
  | .quiet => 0
  | .new => 1
  | .put _ _ => 2
  | .late => 3

section
variable {P : Program} {ops : Array Oper} {md : Region.Mode} {w0 : World} {kd : Nat → Ke}

def eOp (P : Program) (ops : Array Oper) (w0 : World) (kd : Nat → Ke) (i : Nat) (K : Act → Held → Prop) (a : Act) (C : Held) : Prop :=
  match ops[i]? with
  | none => K a C
  | some o => match kd i with
    | .quiet => if Region.wanted o (yielded ops a.tmps) then Oper.qU P w0 o a (fun a' => K a' C) else K (a.put o.dst undef) C
    | .new => ∃ (ob : Obj) (val : Nat → Value), (∀ w, (execOp a.eval o).run P w = .ok (.value (val w.heap.size)) (w.alloc ob)) ∧ ∀ g, C.at' g = none → K (a.put o.dst (val g)) (C.put g ob false)
    | .put ad vl => ∃ g ob, a.eval ad = .pointer (some ⟨g, 0, none⟩) ∧ C.at' g = some (ob, false) ∧
        (∀ w, w.heap[g]? = some ob → upPut w g (wrote ob (a.eval vl)) ((execOp a.eval o).run P w)) ∧ K a (C.put g (wrote ob (a.eval vl)) true)
    | .late => ∃ u, (∀ w, (execOp a.eval o).run P w = .ok (.value u) w) ∧ K (a.put o.dst u) C

theorem eOp_mono {i : Nat} {a : Act} {C : Held} {K K' : Act → Held → Prop} (h : ∀ a C, K a C → K' a C) (hh : eOp P ops w0 kd i K a C) : eOp P ops w0 kd i K' a C := by
  unfold eOp at *
  split
  · rename_i ho; simp only [ho] at hh; exact h _ _ hh
  · rename_i o ho
    simp only [ho] at hh
    cases hk : kd i with
    | quiet =>
      simp only [hk] at hh ⊢
      split
      · rename_i hw; simp only [hw, if_true] at hh; obtain ⟨v, h1, h2⟩ := hh; exact ⟨v, h1, h _ _ h2⟩
      · rename_i hw; simp only [hw] at hh; exact h _ _ hh
    | new => simp only [hk] at hh ⊢; obtain ⟨ob, val, h1, h2⟩ := hh; exact ⟨ob, val, h1, fun g hg => h _ _ (h2 g hg)⟩
    | put ad vl => simp only [hk] at hh ⊢; obtain ⟨g, ob, h1, h2, h3, h4⟩ := hh; exact ⟨g, ob, h1, h2, h3, h _ _ h4⟩
    | late => simp only [hk] at hh ⊢; obtain ⟨u, h1, h2⟩ := hh; exact ⟨u, h1, h _ _ h2⟩

theorem eOp_some {i : Nat} {a : Act} {C : Held} {K : Act → Held → Prop} (hh : eOp P ops w0 kd i K a C) : ∃ a' C', K a' C' := by
  unfold eOp at hh
  split at hh
  · exact ⟨_, _, hh⟩
  · split at hh
    · split at hh
      · obtain ⟨v, h1, h2⟩ := hh; exact ⟨_, _, h2⟩
      · exact ⟨_, _, hh⟩
    · obtain ⟨b, hb⟩ := C.fresh
      obtain ⟨ob, val, h1, h2⟩ := hh
      exact ⟨_, _, h2 b (hb b (Nat.le_refl _))⟩
    · obtain ⟨g, ob, h1, h2, h3, h4⟩ := hh; exact ⟨_, _, h4⟩
    · obtain ⟨u, h1, h2⟩ := hh; exact ⟨_, _, h2⟩

/-- What is asked of the operations. -/
def fit2 (P : Program) (o : Oper) : Ke → Prop
  | .quiet => True
  | .new => o.guard = none
  | .put ad vl => (o.guard = none ∧ o.dst = none) ∧ ad ∈ o.op.operands.toList ∧ vl ∈ o.op.operands.toList
  | .late => o.guard = none
def Fitz (P : Program) (ops : Array Oper) (kd : Nat → Ke) : Prop := ∀ i o, ops[i]? = some o → fit2 P o (kd i)

theorem eval_put2 {o : Oper} {x : Operand} (hx : x ∈ o.op.operands.toList) (a : Act) (dst : Option Tmp) (v : Value) (h : ∀ d, dst = some d → d ∉ o.looksAt ops) : (a.put dst v).eval x = a.eval x :=
  Act.eval_put fun d hd hxd => h d hd (by
    subst hxd
    exact List.mem_append_left _ (List.mem_filterMap.2 ⟨.tmp d, hx, rfl⟩))

theorem alloc_same {r : World → Result Next} {ob ob' : Obj} {val val' : Nat → Value} (h : ∀ w, r w = .ok (.value (val w.heap.size)) (w.alloc ob)) (h' : ∀ w, r w = .ok (.value (val' w.heap.size)) (w.alloc ob')) :
    ob = ob' ∧ ∀ g, val g = val' g := by
  refine ⟨?_, fun g => ?_⟩
  · have e := (h default).symm.trans (h' default)
    injection e with e1 e2
    have h1 := heap_alloc_new (default : World) ob
    have h2 := heap_alloc_new (default : World) ob'
    rw [e2, h2] at h1
    injection h1 with h1
    exact h1.symm
  · have e := (h { (default : World) with heap := Array.replicate g ob }).symm.trans (h' { (default : World) with heap := Array.replicate g ob })
    injection e with e1 e2
    injection e1 with e1
    simpa using e1

theorem eOp_comm (hF : Fitz P ops kd) (hsel : ∀ (j : Nat) (o : Oper) cs b, ops[j]? = some o → o.op ≠ .select cs b) {i j : Nat} {oi oj : Oper} (hi : ops[i]? = some oi) (hj : ops[j]? = some oj) (hap : oi.apart ops oj = true)
    (hrk : (kd i).rank ≤ (kd j).rank) {K : Act → Held → Prop} {a : Act} {C : Held}
    (h : eOp P ops w0 kd i (fun a C => eOp P ops w0 kd j K a C) a C) : eOp P ops w0 kd j (fun a C => eOp P ops w0 kd i K a C) a C := by
  obtain ⟨p1, p2, p3⟩ := Oper.apart_spec hap
  have hFi := hF i oi hi
  have hFj := hF j oj hj
  have hsi := fun cs b => hsel i oi cs b hi
  have hsj := fun cs b => hsel j oj cs b hj
  have ei : ∀ (a : Act) u, execOp (a.put oj.dst u).eval oi = execOp a.eval oi := fun a u => execOp_put oi hsi a oj.dst u p3
  have ej : ∀ (a : Act) u, execOp (a.put oi.dst u).eval oj = execOp a.eval oj := fun a u => execOp_put oj hsj a oi.dst u p1
  have wi : ∀ (a : Act) u, Region.wanted oi (yielded ops (a.put oj.dst u).tmps) = Region.wanted oi (yielded ops a.tmps) := fun a u => wanted_put oi a oj.dst u p3
  have wj : ∀ (a : Act) u, Region.wanted oj (yielded ops (a.put oi.dst u).tmps) = Region.wanted oj (yielded ops a.tmps) := fun a u => wanted_put oj a oi.dst u p1
  have cm : ∀ (a : Act) u v, (a.put oi.dst u).put oj.dst v = (a.put oj.dst v).put oi.dst u := fun a u v => Act.put_comm a u v p2
  unfold eOp at h ⊢
  simp only [hi, hj] at h ⊢
  unfold Oper.qU at h ⊢
  cases hki : kd i with
  | quiet =>
    cases hkj : kd j with
    | quiet =>
      simp only [hki, hkj, ei, ej, wi, wj] at h ⊢
      by_cases h1 : Region.wanted oi (yielded ops a.tmps) = true <;> by_cases h2 : Region.wanted oj (yielded ops a.tmps) = true <;> simp only [h1, h2, if_true, if_false, Bool.false_eq_true] at h ⊢
      · obtain ⟨u, hu, v, hv, hk⟩ := h; exact ⟨v, hv, u, hu, by rw [← cm]; exact hk⟩
      · obtain ⟨u, hu, hk⟩ := h; exact ⟨u, hu, by rw [← cm]; exact hk⟩
      · obtain ⟨v, hv, hk⟩ := h; exact ⟨v, hv, by rw [← cm]; exact hk⟩
      · rw [← cm]; exact h
    | new =>
      simp only [hki, hkj, ei, ej, wi, wj] at h ⊢
      by_cases h1 : Region.wanted oi (yielded ops a.tmps) = true <;> simp only [h1, if_true, if_false, Bool.false_eq_true] at h ⊢
      · obtain ⟨u, hu, ob, val, he, hk⟩ := h; exact ⟨ob, val, he, fun g hg => ⟨u, hu, by rw [← cm]; exact hk g hg⟩⟩
      · obtain ⟨ob, val, he, hk⟩ := h; exact ⟨ob, val, he, fun g hg => by rw [← cm]; exact hk g hg⟩
    | put ad vl =>
      simp only [hkj, fit2] at hFj
      obtain ⟨⟨f1, f2⟩, f3, f4⟩ := hFj
      have e3 := fun a u => eval_put2 f3 a oi.dst u p1
      have e4 := fun a u => eval_put2 f4 a oi.dst u p1
      simp only [hki, hkj, ei, ej, wi, wj, e3, e4] at h ⊢
      by_cases h1 : Region.wanted oi (yielded ops a.tmps) = true <;> simp only [h1, if_true, if_false, Bool.false_eq_true] at h ⊢
      · obtain ⟨u, hu, g, ob, k1, k2, k3, k4⟩ := h; exact ⟨g, ob, k1, k2, k3, u, hu, k4⟩
      · exact h
    | late =>
      simp only [hki, hkj, ei, ej, wi, wj] at h ⊢
      by_cases h1 : Region.wanted oi (yielded ops a.tmps) = true <;> simp only [h1, if_true, if_false, Bool.false_eq_true] at h ⊢
      · obtain ⟨u, hu, v, hv, hk⟩ := h; exact ⟨v, hv, u, hu, by rw [← cm]; exact hk⟩
      · obtain ⟨v, hv, hk⟩ := h; exact ⟨v, hv, by rw [← cm]; exact hk⟩
  | new =>
    cases hkj : kd j with
    | quiet => rw [hki, hkj] at hrk; simp [Ke.rank] at hrk
    | new =>
      simp only [hki, hkj, ei, ej] at h ⊢
      obtain ⟨ob, val, he, h⟩ := h
      obtain ⟨b, hb⟩ := C.fresh
      obtain ⟨ob', val', he', _⟩ := h b (hb b (Nat.le_refl _))
      refine ⟨ob', val', he', fun g' hg' => ⟨ob, val, he, fun g hg => ?_⟩⟩
      have hne : ¬ g = g' := fun e => by subst e; rw [Held.at_self] at hg; cases hg
      rw [Held.at_ne _ _ _ hne] at hg
      obtain ⟨ob2, val2, he2, hk⟩ := h g hg
      obtain ⟨e1, e2⟩ := alloc_same he' he2
      subst e1
      have := hk g' (by rw [Held.at_ne _ _ _ (Ne.symm hne)]; exact hg')
      rw [← cm, Held.put_comm _ hne, e2 g']
      exact this
    | put ad vl =>
      simp only [hkj, fit2] at hFj
      obtain ⟨⟨f1, f2⟩, f3, f4⟩ := hFj
      have e3 := fun a u => eval_put2 f3 a oi.dst u p1
      have e4 := fun a u => eval_put2 f4 a oi.dst u p1
      simp only [hki, hkj, ei, ej, e3, e4] at h ⊢
      obtain ⟨ob0, val0, he0, h⟩ := h
      obtain ⟨b, hb⟩ := C.fresh
      obtain ⟨g1, ob1, k1, k2, _, _⟩ := h b (hb b (Nat.le_refl _))
      have hC : ∃ ob2, C.at' g1 = some (ob2, false) := by
        by_cases e : g1 = b
        · obtain ⟨g2, ob2, l1, l2, _, _⟩ := h (b + 1) (hb _ (by omega))
          rw [k1] at l1
          injection l1 with l1; injection l1 with l1; injection l1 with l1
          subst l1
          rw [Held.at_ne _ _ _ (by omega)] at l2
          exact ⟨_, l2⟩
        · rw [Held.at_ne _ _ _ e] at k2
          exact ⟨_, k2⟩
      obtain ⟨ob2, hC⟩ := hC
      have all : ∀ g, C.at' g = none → (∀ w, w.heap[g1]? = some ob2 → upPut w g1 (wrote ob2 (a.eval vl)) ((execOp a.eval oj).run P w)) ∧ K (a.put oi.dst (val0 g)) ((C.put g ob0 false).put g1 (wrote ob2 (a.eval vl)) true) := by
        intro g hg
        obtain ⟨g2, ob3, l1, l2, l3, l4⟩ := h g hg
        rw [k1] at l1
        injection l1 with l1; injection l1 with l1; injection l1 with l1
        subst l1
        have hne : ¬ g1 = g := fun e => by subst e; rw [hC] at hg; cases hg
        rw [Held.at_ne _ _ _ hne, hC] at l2
        injection l2 with l2; injection l2 with l2
        subst l2
        exact ⟨l3, l4⟩
      refine ⟨g1, ob2, k1, hC, (all b (hb b (Nat.le_refl _))).1, ob0, val0, he0, fun g hg => ?_⟩
      have hne : ¬ g = g1 := fun e => by subst e; rw [Held.at_self] at hg; cases hg
      rw [Held.at_ne _ _ _ hne] at hg
      rw [Held.put_comm _ hne]
      exact (all g hg).2
    | late =>
      simp only [hki, hkj, ei, ej] at h ⊢
      obtain ⟨ob0, val0, he0, h⟩ := h
      obtain ⟨b, hb⟩ := C.fresh
      obtain ⟨u, hu, _⟩ := h b (hb b (Nat.le_refl _))
      refine ⟨u, hu, ob0, val0, he0, fun g hg => ?_⟩
      obtain ⟨u', hu', hk⟩ := h g hg
      have e := (hu w0).symm.trans (hu' w0)
      injection e with e; injection e with e
      subst e
      rw [← cm]; exact hk
  | late =>
    cases hkj : kd j with
    | quiet => rw [hki, hkj] at hrk; simp [Ke.rank] at hrk
    | new => rw [hki, hkj] at hrk; simp [Ke.rank] at hrk
    | put ad vl => rw [hki, hkj] at hrk; simp [Ke.rank] at hrk
    | late =>
      simp only [hki, hkj, ei, ej] at h ⊢
      obtain ⟨u, hu, v, hv, hk⟩ := h; exact ⟨v, hv, u, hu, by rw [← cm]; exact hk⟩
  | put ad vl =>
    cases hkj : kd j with
    | quiet => rw [hki, hkj] at hrk; simp [Ke.rank] at hrk
    | new => rw [hki, hkj] at hrk; simp [Ke.rank] at hrk
    | put ad' vl' =>
      simp only [hki, hkj] at h ⊢
      obtain ⟨g, ob, k1, k2, k3, g', ob', l1, l2, l3, l4⟩ := h
      have hne : ¬ g' = g := fun e => by subst e; rw [Held.at_self] at l2; cases l2
      rw [Held.at_ne _ _ _ hne] at l2
      refine ⟨g', ob', l1, l2, l3, g, ob, k1, by rw [Held.at_ne _ _ _ (Ne.symm hne)]; exact k2, k3, ?_⟩
      rw [Held.put_comm _ (Ne.symm hne)]
      exact l4
    | late =>
      simp only [hki, fit2] at hFi
      obtain ⟨⟨f1, f2⟩, f3, f4⟩ := hFi
      have e3 := fun a u => eval_put2 f3 a oj.dst u p3
      have e4 := fun a u => eval_put2 f4 a oj.dst u p3
      simp only [hki, hkj, ei, ej, e3, e4] at h ⊢
      obtain ⟨g, ob, k1, k2, k3, u, hu, hk⟩ := h
      exact ⟨u, hu, g, ob, k1, k2, k3, hk⟩

def wpHe (P : Program) (md : Region.Mode) (ops : Array Oper) (w0 : World) (kd : Nat → Ke) (L : Array Bool → Act → Held → Prop) : Nat → Array Bool → Act → Held → Prop
  | 0, listed, a, C => L listed a C
  | f + 1, listed, a, C => Region.ready md ops listed ≠ [] ∧ ∀ i ∈ Region.ready md ops listed, eOp P ops w0 kd i (wpHe P md ops w0 kd L f (listed.setIfInBounds i true)) a C

/-- The operations from n on come last, one after the other (or there are none). -/
def Last (md : Region.Mode) (ops : Array Oper) (n : Nat) : Prop := n = ops.size ∨ n < ops.size ∧ Region.sinkB md ops n = true ∧ Region.chainB md ops n = true
theorem Last.lt {n : Nat} (hl : Last md ops n) {listed : Array Bool} (inv : HeadInv md ops n listed) {i j : Nat} (hi : i < n) (hun : listed.getD i true = false) (hj : j ∈ Region.ready md ops listed) : j < n := by
  rcases hl with rfl | ⟨hn, hs, hc⟩
  · obtain ⟨_, oj, hoj, _⟩ := mem_ready.1 hj
    exact (Array.getElem?_eq_some_iff.1 hoj).1
  · exact Nat.lt_of_not_le fun h => tail_waits hs hc hn inv _ i rfl hi hun j h hj

theorem he_first (hF : Fitz P ops kd) (hsel : ∀ (j : Nat) (o : Oper) cs b, ops[j]? = some o → o.op ≠ .select cs b) {n i : Nat} {oi : Oper} {L : Array Bool → Act → Held → Prop} (hi : ops[i]? = some oi)
    (hl : Last md ops n) (hin : i < n) (hdone : ∀ listed a C, L listed a C → ∀ j ∈ Region.ready md ops listed, n ≤ j) :
    ∀ (f : Nat) (listed : Array Bool) (a : Act) (C : Held), HeadInv md ops n listed →
      (∀ j oj, ops[j]? = some oj → j ≠ i → listed.getD j true = false → (∀ e ∈ oj.after, Region.binds md e = true → e.on ≠ i) → oi.apart ops oj = true) →
      (∀ j, j < n → listed.getD j true = false → (kd i).rank ≤ (kd j).rank) →
      i ∈ Region.ready md ops listed →
      eOp P ops w0 kd i (wpHe P md ops w0 kd L f (listed.setIfInBounds i true)) a C → wpHe P md ops w0 kd L (f + 1) listed a C := by
  intro f
  induction f with
  | zero =>
    intro listed a C inv _ _ hr H
    refine ⟨List.ne_nil_of_mem hr, fun j hj => ?_⟩
    by_cases hji : j = i
    · subst hji; exact H
    · have hun := (mem_ready.1 hr).1
      have h1 := hl.lt inv hin hun hj
      obtain ⟨_, _, h0⟩ := eOp_some H
      have := hdone _ _ _ h0 j (ready_mono hj hji)
      omega
  | succ f ih =>
    intro listed a C inv hfree hrk hr H
    refine ⟨List.ne_nil_of_mem hr, fun j hj => ?_⟩
    by_cases hji : j = i
    · subst hji; exact H
    · have hun := (mem_ready.1 hr).1
      have hjn := hl.lt inv hin hun hj
      obtain ⟨hjun, oj, hoj, hall⟩ := mem_ready.1 hj
      have hnot : ∀ e ∈ oj.after, Region.binds md e = true → e.on ≠ i := fun e he hb heq => by
        have h3 := hall e he hb
        rw [heq, getD_both hun] at h3
        cases h3
      have h1 : eOp P ops w0 kd i (fun a C => eOp P ops w0 kd j (wpHe P md ops w0 kd L f ((listed.setIfInBounds i true).setIfInBounds j true)) a C) a C :=
        eOp_mono (fun a' C' h => h.2 j (ready_mono hj hji)) H
      have h2 := eOp_comm hF hsel hi hoj (hfree j oj hoj hji hjun hnot) (hrk j hjn hjun) h1
      refine eOp_mono (fun a' C' h3 => ih (listed.setIfInBounds j true) a' C' (inv.set hj hjn) (fun k ok hk hki hun' hno => hfree k ok hk hki ?_ hno) (fun k hkn hk => hrk k hkn ?_) (ready_mono hr (Ne.symm hji)) ?_) h2
      · by_cases hjk : j = k
        · subst hjk; exact hjun
        · rw [getD_set_ne true hjk] at hun'; exact hun'
      · by_cases hjk : j = k
        · subst hjk; exact hjun
        · rw [getD_set_ne true hjk] at hk; exact hk
      · rw [Array.setIfInBounds_comm _ _ hji]
        exact h3

/-- The order of one's choice is one of those that may be drawn, and its steps may be taken first. -/
def oreB (md : Region.Mode) (ops : Array Oper) (kd : Nat → Ke) (n : Nat) : List Nat → Array Bool → Bool
  | [], listed => Region.seqB md ops (ops.size - n) n listed
  | k :: r, listed => decide (k < n) && (Region.ready md ops listed).contains k && Region.free md ops listed k && ((List.range n).all fun j => listed.getD j true || decide ((kd k).rank ≤ (kd j).rank)) && oreB md ops kd n r (listed.setIfInBounds k true)
def lastB (md : Region.Mode) (ops : Array Oper) (n : Nat) : Bool := decide (n = ops.size) || (decide (n < ops.size) && Region.sinkB md ops n && Region.chainB md ops n)
theorem lastB_last {n : Nat} (h : lastB md ops n = true) : Last md ops n := by
  simp only [lastB, Bool.or_eq_true, decide_eq_true_eq, Bool.and_eq_true] at h
  rcases h with h | ⟨⟨h1, h2⟩, h3⟩
  · exact .inl h
  · exact .inr ⟨h1, h2, h3⟩

def wpOre (P : Program) (ops : Array Oper) (w0 : World) (kd : Nat → Ke) (L : Act → Held → Prop) : List Nat → Act → Held → Prop
  | [], a, C => L a C
  | k :: r, a, C => eOp P ops w0 kd k (wpOre P ops w0 kd L r) a C

theorem he_ore (hF : Fitz P ops kd) (hsel : Region.noSelect ops = true) {n : Nat} (hl : Last md ops n) {L : Act → Held → Prop} :
    ∀ (l : List Nat) (listed : Array Bool) (a : Act) (C : Held), HeadInv md ops n listed → oreB md ops kd n l listed = true → wpOre P ops w0 kd L l a C →
      wpHe P md ops w0 kd (fun listed a C => Region.seqB md ops (ops.size - n) n listed = true ∧ L a C) l.length listed a C
  | [], listed, a, C, _, hB, h => ⟨hB, h⟩
  | k :: r, listed, a, C, inv, hB, h => by
    simp only [oreB, Bool.and_eq_true, decide_eq_true_eq] at hB
    obtain ⟨⟨⟨⟨hkn, hr⟩, hf⟩, hk⟩, hB'⟩ := hB
    have hr' : k ∈ Region.ready md ops listed := by simpa using hr
    obtain ⟨_, o, ho, _⟩ := mem_ready.1 hr'
    refine he_first hF (Region.noSelect_spec hsel) ho hl hkn (fun _ _ _ hL => seqB_ready hL.1) r.length listed a C inv (Region.free_spec ho hf) (fun j hjn hj => ?_) hr' (eOp_mono (fun a' C' h' => he_ore hF hsel hl r _ a' C' (inv.set hr' hkn) hB' h') h)
    have := (List.all_eq_true.1 hk) j (List.mem_range.2 hjn)
    simp only [hj, Bool.false_or, decide_eq_true_eq] at this
    exact this

theorem wpOp_of_eOp (hF : Fitz P ops kd) {i : Nat} {K : Act → Held → Prop} {a : Act} {C : Held} {K' : Act → World → Prop} {Q' : Exit → Act → World → Prop} {w : World}
    (hw : ∃ x : Aft w0, w = x.val) (hC : C.In w0 w)
    (hK : ∀ a' C' w', (∃ x : Aft w0, w' = x.val) → C'.In w0 w' → K a' C' → K' a' w') (hh : eOp P ops w0 kd i K a C) : wpOp P ops Q' i K' a w := by
  unfold eOp at hh
  unfold wpOp
  split
  · rename_i ho; simp only [ho] at hh; exact hK _ _ _ hw hC hh
  · rename_i o ho
    simp only [ho] at hh
    have hFi := hF i o ho
    cases hk : kd i with
    | new =>
      simp only [hk, fit2] at hh hFi
      obtain ⟨ob, val, hr, hh⟩ := hh
      rw [if_pos (wanted_none hFi)]
      refine .inl ?_
      unfold Oper.wp
      rw [hr w]
      simp only [Oper.upon]
      obtain ⟨x, rfl⟩ := hw
      have hnew : C.at' x.val.heap.size = none := by
        cases h : C.at' x.val.heap.size with
        | none => rfl
        | some y => have := lt_of_get (hC _ y.1 y.2 h).2; omega
      refine hK _ _ _ ⟨⟨_, x.pf.alloc x.pf.size _⟩, rfl⟩ (fun g ob' d h => ?_) (hh _ hnew)
      by_cases e : g = x.val.heap.size
      · subst e
        rw [Held.at_self] at h
        injection h with h; injection h with h1 h2
        subst h1
        exact ⟨x.pf.size, heap_alloc_new _ _⟩
      · rw [Held.at_ne _ _ _ e] at h
        obtain ⟨c1, c2⟩ := hC g ob' d h
        exact ⟨c1, by rw [Below.heap_alloc _ _ _ (lt_of_get c2)]; exact c2⟩
    | put ad vl =>
      simp only [hk, fit2] at hh hFi
      obtain ⟨⟨hg, hd⟩, _, _⟩ := hFi
      rw [if_pos (wanted_none hg)]
      refine .inl ?_
      obtain ⟨g, ob, k1, k2, k3, k4⟩ := hh
      obtain ⟨c1, c2⟩ := hC g ob false k2
      have h3 := k3 w c2
      have fin : ∀ w', Setted w g (wrote ob (a.eval vl)) w' → K' a w' := fun w' hs => by
        obtain ⟨x, rfl⟩ := hw
        refine hK _ _ _ ⟨⟨w', ⟨hs.os.trans x.pf.os, hs.tape.trans x.pf.tape, hs.output.trans x.pf.output, by rw [hs.size]; exact x.pf.size, fun k hk => ?_⟩⟩, rfl⟩ (fun g' ob' d h => ?_) k4
        · rw [hs.block k (by omega)]; exact x.pf.block k hk
        · by_cases e : g' = g
          · subst e
            rw [Held.at_self] at h
            injection h with h; injection h with h1 h2
            subst h1
            exact ⟨c1, hs.here⟩
          · rw [Held.at_ne _ _ _ e] at h
            obtain ⟨d1, d2⟩ := hC g' ob' d h
            exact ⟨d1, by rw [hs.block _ e]; exact d2⟩
      unfold Oper.wp
      generalize (execOp a.eval o).run P w = r at *
      cases r with
      | ok n w' =>
        cases n <;> simp only [upPut] at h3 <;> simp only [Oper.upon, hd, Act.put] <;> exact fin _ h3
      | halt x w' => simp only [upPut] at h3
    | late =>
      simp only [hk, fit2] at hh hFi
      rw [if_pos (wanted_none hFi)]
      refine .inl ?_
      obtain ⟨u, h1, h2⟩ := hh
      unfold Oper.wp
      rw [h1 w]
      simp only [Oper.upon]
      exact hK _ _ _ hw hC h2
    | quiet =>
      simp only [hk] at hh
      split
      · rename_i hwd
        simp only [hwd, if_true] at hh
        obtain ⟨v, h1, h2⟩ := hh
        refine .inl ?_
        have h3 := h1 w hw
        unfold Oper.wp
        generalize (execOp a.eval o).run P w = r at *
        cases r with
        | ok n w' =>
          cases n <;> simp only [upQ] at h3 <;> simp only [Oper.upon]
          case value u =>
            obtain ⟨e1, e2⟩ := h3
            rw [e1, e2]
            exact hK _ _ _ hw hC h2
          case skip =>
            obtain ⟨e1, e2⟩ := h3
            rw [e1, ← e2]
            exact hK _ _ _ hw hC h2
          case enter f args =>
            obtain ⟨e1, hc⟩ := h3
            rw [e1]
            refine hc.mono fun e w'' ⟨he, y, hy⟩ => ?_
            subst he; subst hy
            obtain ⟨x, rfl⟩ := hw
            refine hK _ _ _ ⟨⟨_, y.below x.pf x.pf.size⟩, rfl⟩ (fun g ob d h => ?_) h2
            obtain ⟨c1, c2⟩ := hC g ob d h
            exact ⟨c1, by rw [y.pf.block _ (lt_of_get c2)]; exact c2⟩
        | halt x w' => simp only [upQ] at h3
      · rename_i hwd
        simp only [hwd] at hh
        exact hK _ _ _ hw hC hh

theorem wpAny_of_he (hF : Fitz P ops kd) {g : Nat} {L : Array Bool → Act → Held → Prop} {Q' : Exit → Act → World → Prop}
    (hL : ∀ listed a C w, (∃ x : Aft w0, w = x.val) → C.In w0 w → L listed a C → wpAny P md ops Q' g listed a w) :
    ∀ (f : Nat) (listed : Array Bool) (a : Act) (C : Held) (w : World), (∃ x : Aft w0, w = x.val) → C.In w0 w → wpHe P md ops w0 kd L f listed a C → wpAny P md ops Q' (f + g) listed a w
  | 0, listed, a, C, w, hw, hC, h => by rw [Nat.zero_add]; exact hL _ _ _ _ hw hC h
  | f + 1, listed, a, C, w, hw, hC, h => by
    rw [Nat.add_right_comm]
    exact ⟨fun h0 => absurd h0 h.1, fun i hi => wpOp_of_eOp hF hw hC (fun a' C' w' hw' hC' h' => wpAny_of_he hF hL f _ a' C' w' hw' hC' h') (h.2 i hi)⟩

/-- The operations of one kind, from number k on. -/
def idy (r : Nat) : Nat → List Ke → List Nat
  | _, [] => []
  | k, d :: ks => if d.rank = r then k :: idy r (k + 1) ks else idy r (k + 1) ks
def FitzL (P : Program) : List Oper → List Ke → Prop
  | o :: l, d :: ks => fit2 P o d ∧ FitzL P l ks
  | _, _ => True
theorem FitzL.fits : ∀ {l : List Oper} {ks : List Ke}, FitzL P l ks → l.length = ks.length → ∀ i o, l[i]? = some o → fit2 P o (ks.getD i .quiet)
  | [], [], _, _, i, o, h => by simp at h
  | o :: l, d :: ks, h, hl, 0, o', ho => by simp at ho; subst ho; simpa using h.1
  | o :: l, d :: ks, h, hl, i + 1, o', ho => by
    simp only [List.getElem?_cons_succ] at ho
    simpa using FitzL.fits h.2 (by simpa using hl) i o' ho
  | [], d :: ks, _, hl, _, _, _ => by simp at hl
  | o :: l, [], _, hl, _, _, _ => by simp at hl

/-- The walk of the quiet operations, in the order of the text; of the new variables; of the stores. -/
def wqQ (P : Program) (ops : Array Oper) (w0 : World) (Q : Act → Held → Prop) : List Oper → List Ke → Act → Held → Prop
  | o :: l, d :: ks, a, C => match d with
    | .quiet => if Region.wanted o (yielded ops a.tmps) then Oper.qU P w0 o a (fun a' => wqQ P ops w0 Q l ks a' C) else wqQ P ops w0 Q l ks (a.put o.dst undef) C
    | _ => wqQ P ops w0 Q l ks a C
  | _, _, a, C => Q a C
def wqN (P : Program) (Q : Act → Held → Prop) : List Oper → List Ke → Act → Held → Prop
  | o :: l, d :: ks, a, C => match d with
    | .new => ∃ (ob : Obj) (val : Nat → Value), (∀ w, (execOp a.eval o).run P w = .ok (.value (val w.heap.size)) (w.alloc ob)) ∧ ∀ g, C.at' g = none → wqN P Q l ks (a.put o.dst (val g)) (C.put g ob false)
    | _ => wqN P Q l ks a C
  | _, _, a, C => Q a C
def wqP (P : Program) (Q : Act → Held → Prop) : List Oper → List Ke → Act → Held → Prop
  | o :: l, d :: ks, a, C => match d with
    | .put ad vl => ∃ g ob, a.eval ad = .pointer (some ⟨g, 0, none⟩) ∧ C.at' g = some (ob, false) ∧
        (∀ w, w.heap[g]? = some ob → upPut w g (wrote ob (a.eval vl)) ((execOp a.eval o).run P w)) ∧ wqP P Q l ks a (C.put g (wrote ob (a.eval vl)) true)
    | _ => wqP P Q l ks a C
  | _, _, a, C => Q a C
def wqL (P : Program) (Q : Act → Held → Prop) : List Oper → List Ke → Act → Held → Prop
  | o :: l, d :: ks, a, C => match d with
    | .late => ∃ u, (∀ w, (execOp a.eval o).run P w = .ok (.value u) w) ∧ wqL P Q l ks (a.put o.dst u) C
    | _ => wqL P Q l ks a C
  | _, _, a, C => Q a C

theorem ore_q {Q L : Act → Held → Prop} {rest : List Nat} (hQ : ∀ a C, Q a C → wpOre P ops w0 kd L rest a C) : ∀ (l : List Oper) (ks : List Ke) (k : Nat) (a : Act) (C : Held),
    l.length = ks.length → (∀ j, j < l.length → l[j]? = ops[k + j]?) → (∀ j d, ks[j]? = some d → kd (k + j) = d) → wqQ P ops w0 Q l ks a C → wpOre P ops w0 kd L (idy 0 k ks ++ rest) a C
  | [], [], k, a, C, _, _, _, h => by simpa [idy] using hQ _ _ h
  | o :: l, d :: ks, k, a, C, hl, ho, hd, h => by
    have h0 : ops[k]? = some o := by simpa using (ho 0 (by simp)).symm
    have d0 : kd k = d := by simpa using hd 0 d (by simp)
    have ih := fun a C => ore_q hQ l ks (k + 1) a C (by simpa using hl) (fun j hj => by have := ho (j + 1) (by simp; omega); simpa [Nat.add_assoc, Nat.add_comm 1 j] using this)
      (fun j d' hj => by have := hd (j + 1) d' (by simpa using hj); simpa [Nat.add_assoc, Nat.add_comm 1 j] using this)
    cases d with
    | quiet =>
      simp only [idy, Ke.rank, if_true, List.cons_append, wpOre, eOp, h0, d0]
      simp only [wqQ] at h
      split
      · rename_i hw; simp only [hw, if_true] at h; obtain ⟨v, h1, h2⟩ := h; exact ⟨v, h1, ih _ _ h2⟩
      · rename_i hw; simp only [hw] at h; exact ih _ _ h
    | new => simp only [wqQ] at h; simpa [idy, Ke.rank] using ih _ _ h
    | put ad vl => simp only [wqQ] at h; simpa [idy, Ke.rank] using ih _ _ h
    | late => simp only [wqQ] at h; simpa [idy, Ke.rank] using ih _ _ h
  | [], _ :: _, _, _, _, hl, _, _, _ => by simp at hl
  | _ :: _, [], _, _, _, hl, _, _, _ => by simp at hl
theorem ore_n {Q L : Act → Held → Prop} {rest : List Nat} (hQ : ∀ a C, Q a C → wpOre P ops w0 kd L rest a C) : ∀ (l : List Oper) (ks : List Ke) (k : Nat) (a : Act) (C : Held),
    l.length = ks.length → (∀ j, j < l.length → l[j]? = ops[k + j]?) → (∀ j d, ks[j]? = some d → kd (k + j) = d) → wqN P Q l ks a C → wpOre P ops w0 kd L (idy 1 k ks ++ rest) a C
  | [], [], k, a, C, _, _, _, h => by simpa [idy] using hQ _ _ h
  | o :: l, d :: ks, k, a, C, hl, ho, hd, h => by
    have h0 : ops[k]? = some o := by simpa using (ho 0 (by simp)).symm
    have d0 : kd k = d := by simpa using hd 0 d (by simp)
    have ih := fun a C => ore_n hQ l ks (k + 1) a C (by simpa using hl) (fun j hj => by have := ho (j + 1) (by simp; omega); simpa [Nat.add_assoc, Nat.add_comm 1 j] using this)
      (fun j d' hj => by have := hd (j + 1) d' (by simpa using hj); simpa [Nat.add_assoc, Nat.add_comm 1 j] using this)
    cases d with
    | quiet => simp only [wqN] at h; simpa [idy, Ke.rank] using ih _ _ h
    | new =>
      simp only [idy, Ke.rank, if_true, List.cons_append, wpOre, eOp, h0, d0]
      simp only [wqN] at h
      obtain ⟨ob, val, h1, h2⟩ := h
      exact ⟨ob, val, h1, fun g hg => ih _ _ (h2 g hg)⟩
    | put ad vl => simp only [wqN] at h; simpa [idy, Ke.rank] using ih _ _ h
    | late => simp only [wqN] at h; simpa [idy, Ke.rank] using ih _ _ h
  | [], _ :: _, _, _, _, hl, _, _, _ => by simp at hl
  | _ :: _, [], _, _, _, hl, _, _, _ => by simp at hl
theorem ore_p {Q L : Act → Held → Prop} {rest : List Nat} (hQ : ∀ a C, Q a C → wpOre P ops w0 kd L rest a C) : ∀ (l : List Oper) (ks : List Ke) (k : Nat) (a : Act) (C : Held),
    l.length = ks.length → (∀ j, j < l.length → l[j]? = ops[k + j]?) → (∀ j d, ks[j]? = some d → kd (k + j) = d) → wqP P Q l ks a C → wpOre P ops w0 kd L (idy 2 k ks ++ rest) a C
  | [], [], k, a, C, _, _, _, h => by simpa [idy] using hQ _ _ h
  | o :: l, d :: ks, k, a, C, hl, ho, hd, h => by
    have h0 : ops[k]? = some o := by simpa using (ho 0 (by simp)).symm
    have d0 : kd k = d := by simpa using hd 0 d (by simp)
    have ih := fun a C => ore_p hQ l ks (k + 1) a C (by simpa using hl) (fun j hj => by have := ho (j + 1) (by simp; omega); simpa [Nat.add_assoc, Nat.add_comm 1 j] using this)
      (fun j d' hj => by have := hd (j + 1) d' (by simpa using hj); simpa [Nat.add_assoc, Nat.add_comm 1 j] using this)
    cases d with
    | quiet => simp only [wqP] at h; simpa [idy, Ke.rank] using ih _ _ h
    | new => simp only [wqP] at h; simpa [idy, Ke.rank] using ih _ _ h
    | put ad vl =>
      simp only [idy, Ke.rank, if_true, List.cons_append, wpOre, eOp, h0, d0]
      simp only [wqP] at h
      obtain ⟨g, ob, h1, h2, h3, h4⟩ := h
      exact ⟨g, ob, h1, h2, h3, ih _ _ h4⟩
    | late => simp only [wqP] at h; simpa [idy, Ke.rank] using ih _ _ h
  | [], _ :: _, _, _, _, hl, _, _, _ => by simp at hl
  | _ :: _, [], _, _, _, hl, _, _, _ => by simp at hl

theorem ore_l {Q L : Act → Held → Prop} {rest : List Nat} (hQ : ∀ a C, Q a C → wpOre P ops w0 kd L rest a C) : ∀ (l : List Oper) (ks : List Ke) (k : Nat) (a : Act) (C : Held),
    l.length = ks.length → (∀ j, j < l.length → l[j]? = ops[k + j]?) → (∀ j d, ks[j]? = some d → kd (k + j) = d) → wqL P Q l ks a C → wpOre P ops w0 kd L (idy 3 k ks ++ rest) a C
  | [], [], k, a, C, _, _, _, h => by simpa [idy] using hQ _ _ h
  | o :: l, d :: ks, k, a, C, hl, ho, hd, h => by
    have h0 : ops[k]? = some o := by simpa using (ho 0 (by simp)).symm
    have d0 : kd k = d := by simpa using hd 0 d (by simp)
    have ih := fun a C => ore_l hQ l ks (k + 1) a C (by simpa using hl) (fun j hj => by have := ho (j + 1) (by simp; omega); simpa [Nat.add_assoc, Nat.add_comm 1 j] using this)
      (fun j d' hj => by have := hd (j + 1) d' (by simpa using hj); simpa [Nat.add_assoc, Nat.add_comm 1 j] using this)
    cases d with
    | quiet => simp only [wqL] at h; simpa [idy, Ke.rank] using ih _ _ h
    | new => simp only [wqL] at h; simpa [idy, Ke.rank] using ih _ _ h
    | put ad vl => simp only [wqL] at h; simpa [idy, Ke.rank] using ih _ _ h
    | late =>
      simp only [idy, Ke.rank, if_true, List.cons_append, wpOre, eOp, h0, d0]
      simp only [wqL] at h
      obtain ⟨u, h1, h2⟩ := h
      exact ⟨u, h1, ih _ _ h2⟩
  | [], _ :: _, _, _, _, hl, _, _, _ => by simp at hl
  | _ :: _, [], _, _, _, hl, _, _, _ => by simp at hl

theorem wqQ_step {Q : Act → Held → Prop} {o : Oper} {l : List Oper} {ks : List Ke} {a : Act} {C : Held}
    (h : ∀ K : Act → Prop, (∀ a, wqQ P ops w0 Q l ks a C → K a) → if Region.wanted o (yielded ops a.tmps) then Oper.qU P w0 o a K else K (a.put o.dst undef)) : wqQ P ops w0 Q (o :: l) (.quiet :: ks) a C :=
  h (fun a' => wqQ P ops w0 Q l ks a' C) fun _ h => h
theorem wqQ_new {Q : Act → Held → Prop} {o : Oper} {l : List Oper} {ks : List Ke} {a : Act} {C : Held} (h : wqQ P ops w0 Q l ks a C) : wqQ P ops w0 Q (o :: l) (.new :: ks) a C := h
theorem wqQ_put {Q : Act → Held → Prop} {o : Oper} {l : List Oper} {ks : List Ke} {a : Act} {C : Held} {ad vl : Operand} (h : wqQ P ops w0 Q l ks a C) : wqQ P ops w0 Q (o :: l) (.put ad vl :: ks) a C := h
theorem wqN_skip {Q : Act → Held → Prop} {o : Oper} {l : List Oper} {ks : List Ke} {d : Ke} {a : Act} {C : Held} (hd : d.rank ≠ 1) (h : wqN P Q l ks a C) : wqN P Q (o :: l) (d :: ks) a C := by
  cases d <;> first | exact h | simp [Ke.rank] at hd
theorem wqN_step {Q : Act → Held → Prop} {o : Oper} {l : List Oper} {ks : List Ke} {a : Act} {C : Held} (ob : Obj) (val : Nat → Value)
    (he : ∀ w, (execOp a.eval o).run P w = .ok (.value (val w.heap.size)) (w.alloc ob)) (h : ∀ g, C.at' g = none → wqN P Q l ks (a.put o.dst (val g)) (C.put g ob false)) : wqN P Q (o :: l) (.new :: ks) a C := ⟨ob, val, he, h⟩
theorem wqN_nil {Q : Act → Held → Prop} {a : Act} {C : Held} (h : Q a C) : wqN P Q [] [] a C := h
theorem wqP_skip {Q : Act → Held → Prop} {o : Oper} {l : List Oper} {ks : List Ke} {d : Ke} {a : Act} {C : Held} (hd : d.rank ≠ 2) (h : wqP P Q l ks a C) : wqP P Q (o :: l) (d :: ks) a C := by
  cases d <;> first | exact h | simp [Ke.rank] at hd
theorem wqP_step {Q : Act → Held → Prop} {o : Oper} {l : List Oper} {ks : List Ke} {a : Act} {C : Held} {ad vl : Operand} (g : Nat) (ob : Obj)
    (he : a.eval ad = .pointer (some ⟨g, 0, none⟩)) (hc : C.at' g = some (ob, false)) (hx : ∀ w, w.heap[g]? = some ob → upPut w g (wrote ob (a.eval vl)) ((execOp a.eval o).run P w))
    (h : wqP P Q l ks a (C.put g (wrote ob (a.eval vl)) true)) : wqP P Q (o :: l) (.put ad vl :: ks) a C := ⟨g, ob, he, hc, hx, h⟩
theorem wqP_nil {Q : Act → Held → Prop} {a : Act} {C : Held} (h : Q a C) : wqP P Q [] [] a C := h
theorem wqQ_late {Q : Act → Held → Prop} {o : Oper} {l : List Oper} {ks : List Ke} {a : Act} {C : Held} (h : wqQ P ops w0 Q l ks a C) : wqQ P ops w0 Q (o :: l) (.late :: ks) a C := h
theorem wqL_skip {Q : Act → Held → Prop} {o : Oper} {l : List Oper} {ks : List Ke} {d : Ke} {a : Act} {C : Held} (hd : d.rank < 3) (h : wqL P Q l ks a C) : wqL P Q (o :: l) (d :: ks) a C := by
  cases d <;> first | exact h | simp [Ke.rank] at hd
theorem wqL_step {Q : Act → Held → Prop} {o : Oper} {l : List Oper} {ks : List Ke} {a : Act} {C : Held}
    (h : ∀ K : Act → Prop, (∀ a, wqL P Q l ks a C → K a) → ∃ u, (∀ w, (execOp a.eval o).run P w = .ok (.value u) w) ∧ K (a.put o.dst u)) : wqL P Q (o :: l) (.late :: ks) a C :=
  h (fun a' => wqL P Q l ks a' C) fun _ h => h
theorem wqL_nil {Q : Act → Held → Prop} {a : Act} {C : Held} (h : Q a C) : wqL P Q [] [] a C := h
theorem wqQ_nil {Q : Act → Held → Prop} {a : Act} {C : Held} (h : Q a C) : wqQ P ops w0 Q [] [] a C := h

/-- A region that draws its order: quiet operations, new blocks, stores into these, moves, walked in this order; from kds.length on a forced tail. -/
theorem wp_region_ke {id : Nat} {Q : Exit → Act → World → Prop} {a : Act} {w : World} {l : List Oper} (kds : List Ke) (hm : P.follows .mixedOrders = true) (hn : Region.noSelect l.toArray = true)
    (hz : (idy 0 0 kds ++ (idy 1 0 kds ++ (idy 2 0 kds ++ (idy 3 0 kds ++ [])))).length = kds.length) (hlt : (l.take kds.length).length = kds.length) (hlast : lastB .any l.toArray kds.length = true)
    (hB : oreB .any l.toArray (fun i => kds.getD i .quiet) kds.length (idy 0 0 kds ++ (idy 1 0 kds ++ (idy 2 0 kds ++ (idy 3 0 kds ++ [])))) (Array.replicate l.toArray.size false) = true) (hF : FitzL P (l.take kds.length) kds)
    (h : wqQ P l.toArray w (wqN P (wqP P (wqL P (fun a' C => ∀ x : Aft w, C.In w x.val → wpList P l.toArray Q (l.drop kds.length) a' x.val) (l.take kds.length) kds) (l.take kds.length) kds) (l.take kds.length) kds) (l.take kds.length) kds a Held.nil) :
    (Code.region id l.toArray true).wp P Q a w := by
  refine wp_region_any hm ?_
  have hle : kds.length ≤ l.length := by rw [List.length_take] at hlt; omega
  have hsz : l.toArray.size = l.length := by simp
  have hF' : Fitz P l.toArray (fun i => kds.getD i .quiet) := fun i o ho => by
    rcases Nat.lt_or_ge i kds.length with h1 | h1
    · exact hF.fits hlt i o (by rw [List.getElem?_take_of_lt h1]; simpa using ho)
    · have : kds.getD i .quiet = .quiet := by simp [List.getD_eq_getElem?_getD, List.getElem?_eq_none h1]
      show fit2 P o (kds.getD i .quiet)
      rw [this]; trivial
  have e1 : ∀ j, j < (l.take kds.length).length → (l.take kds.length)[j]? = l.toArray[0 + j]? := fun j hj => by
    rw [hlt] at hj; rw [List.getElem?_take_of_lt hj]; simp
  have e2 : ∀ (j : Nat) (d : Ke), kds[j]? = some d → kds.getD (0 + j) .quiet = d := fun j d hd => by rw [Nat.zero_add, List.getD_eq_getElem?_getD, hd]; rfl
  have ho := ore_q (P := P) (ops := l.toArray) (w0 := w) (kd := fun i => kds.getD i .quiet) (L := fun a' C => ∀ x : Aft w, C.In w x.val → wpList P l.toArray Q (l.drop kds.length) a' x.val)
    (fun a C h1 => ore_n (fun a C h2 => ore_p (fun a C h3 => ore_l (rest := []) (Q := fun a' C => ∀ x : Aft w, C.In w x.val → wpList P l.toArray Q (l.drop kds.length) a' x.val) (fun a C h4 => h4) (l.take kds.length) kds 0 a C hlt e1 e2 h3) (l.take kds.length) kds 0 a C hlt e1 e2 h2) (l.take kds.length) kds 0 a C hlt e1 e2 h1) (l.take kds.length) kds 0 a Held.nil hlt e1 e2 h
  have inv0 : HeadInv .any l.toArray kds.length (Array.replicate l.toArray.size false) :=
    ⟨by simp, fun j oj _ hl => (by rw [getD_replicate_false] at hl; cases hl), fun t _ ht => getD_in (by simpa using ht) (getD_replicate_false _ _)⟩
  have H := he_ore (md := .any) hF' hn (lastB_last hlast) _ (Array.replicate l.toArray.size false) a Held.nil inv0 hB ho
  rw [hz] at H
  have hdl : (l.drop kds.length).length = l.toArray.size - kds.length := by simp
  have := wpAny_of_he hF' (Q' := Q) (g := l.toArray.size - kds.length) (fun listed a' C w' hw' hC hL => by
    obtain ⟨x, rfl⟩ := hw'
    have := wpAny_of_seq (md := .any) (Q' := Q) (l.drop kds.length) kds.length listed a' x.val (fun j => by simp [List.getElem?_drop]) (by rw [hdl]; exact hL.1) (hL.2 x hC)
    rwa [hdl] at this) _ _ _ _ { w with drawn := w.drawn + 1 } ⟨⟨_, (Below.refl _ _).drew⟩, rfl⟩ (fun g ob d h => by simp [Held.nil] at h) H
  rw [show kds.length + (l.toArray.size - kds.length) = l.toArray.size by omega] at this
  exact this
theorem wp_region_kn {id : Nat} {Q : Exit → Act → World → Prop} {a : Act} {w : World} {l : List Oper} (n : Nat) (kds : List Ke) (hk : kds.length = n) (hm : P.follows .mixedOrders = true) (hn : Region.noSelect l.toArray = true)
    (hz : (idy 0 0 kds ++ (idy 1 0 kds ++ (idy 2 0 kds ++ (idy 3 0 kds ++ [])))).length = n) (hlt : (l.take n).length = n) (hlast : lastB .any l.toArray n = true)
    (hB : oreB .any l.toArray (fun i => kds.getD i .quiet) n (idy 0 0 kds ++ (idy 1 0 kds ++ (idy 2 0 kds ++ (idy 3 0 kds ++ [])))) (Array.replicate l.toArray.size false) = true) (hF : FitzL P (l.take n) kds)
    (h : wqQ P l.toArray w (wqN P (wqP P (wqL P (fun a' C => ∀ x : Aft w, C.In w x.val → wpList P l.toArray Q (l.drop n) a' x.val) (l.take n) kds) (l.take n) kds) (l.take n) kds) (l.take n) kds a Held.nil) :
    (Code.region id l.toArray true).wp P Q a w := by
  subst hk
  exact wp_region_ke kds hm hn hz hlt hlast hB hF h
end
theorem cell_one {w : World} {g : Nat} {v : Value} {T : TypeId} (h : w.heap[g]? = some (.cells #[v] T)) : ∀ j u, [v][j]? = some u → w.cell? ((⟨g, 0, none⟩ : Addr).add j) = some u := by
  intro j u hj
  match j, hj with
  | 0, hj =>
    simp at hj
    subst hj
    simp [Addr.add, World.cell?, h]
end Go.Proofs.YtkdonapgonegkaaDoor
