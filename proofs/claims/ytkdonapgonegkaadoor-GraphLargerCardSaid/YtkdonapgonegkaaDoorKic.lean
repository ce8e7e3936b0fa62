/-
  Plain lemmas of the verifier's own, over any program: a region that draws its order, whose operations are quiet ones, new variables, and stores into these new variables: one walk in an order of one's choice serves for all orders. No Go text.
-/
import Derived.Test.YtkdonapgonegkaaDoorKib
set_option linter.unusedSimpArgs false
set_option linter.unusedVariables false
namespace Go.Proofs.YtkdonapgonegkaaDoor
open Go.RowKit

/-- The new blocks of a region: what each holds, and whether it has had its store. -/
structure Held where
  at' : Nat → Option (Obj × Bool)
  lim : ∃ b, ∀ n, (at' n).isSome = true → n < b
def Held.nil : Held := ⟨fun _ => none, 0, fun _ h => by simp at h⟩
def Held.put (C : Held) (g : Nat) (ob : Obj) (d : Bool) : Held := ⟨fun n => if n = g then some (ob, d) else C.at' n, by
    obtain ⟨b, hb⟩ := C.lim
    refine ⟨max b (g + 1), fun n hn => ?_⟩
    by_cases h : n = g
    · omega
    · simp only [h, if_false] at hn
      have := hb n hn
      omega⟩
theorem Held.at_self (C : Held) (g : Nat) (ob : Obj) (d : Bool) : (C.put g ob d).at' g = some (ob, d) := by simp [Held.put]
theorem Held.at_ne (C : Held) {g n : Nat} (ob : Obj) (d : Bool) (h : ¬ n = g) : (C.put g ob d).at' n = C.at' n := by simp [Held.put, h]
theorem Held.put_comm (C : Held) {g n : Nat} (h : ¬ n = g) (ob ob' : Obj) (d d' : Bool) : (C.put g ob d).put n ob' d' = (C.put n ob' d').put g ob d := by
  unfold Held.put
  simp only [Held.mk.injEq]
  funext m
  by_cases h1 : m = g
  · by_cases h2 : m = n
    · omega
    · simp [h1, h2]; intro h3; omega
  · by_cases h2 : m = n
    · simp [h1, h2]; intro h3; exact absurd h3 h
    · simp [h1, h2]
theorem Held.put_put (C : Held) (g : Nat) (ob ob' : Obj) (d d' : Bool) : (C.put g ob d).put g ob' d' = C.put g ob' d' := by
  unfold Held.put
  simp only [Held.mk.injEq]
  funext m
  by_cases h1 : m = g <;> simp [h1]
theorem Held.fresh (C : Held) : ∃ b, ∀ g, b ≤ g → C.at' g = none := by
  obtain ⟨b, hb⟩ := C.lim
  refine ⟨b, fun g hg => ?_⟩
  cases h : C.at' g with
  | none => rfl
  | some x => have := hb g (by simp [h]); omega
def Held.In (C : Held) (w0 w : World) : Prop := ∀ g ob d, C.at' g = some (ob, d) → w0.heap.size ≤ g ∧ w.heap[g]? = some ob
theorem lt_of_get {w : World} {g : Nat} {ob : Obj} (h : w.heap[g]? = some ob) : g < w.heap.size := (Array.getElem?_eq_some_iff.1 h).1

/-- Block g holds ob now; nothing else has turned. -/
structure Setted (w : World) (g : Nat) (ob : Obj) (w' : World) : Prop where
  os : w'.os = w.os
  tape : w'.tape = w.tape
  output : w'.output = w.output
  size : w'.heap.size = w.heap.size
  block : ∀ k, ¬ k = g → w'.heap[k]? = w.heap[k]?
  here : w'.heap[g]? = some ob
theorem Setted.start {w : World} {g : Nat} {ob : Obj} (h : w.heap[g]? = some ob) : Setted w g ob w := ⟨rfl, rfl, rfl, rfl, fun _ _ => rfl, h⟩
theorem Setted.step {w w1 : World} {g : Nat} {cs : Array Value} {T : TypeId} {fr : Nat × Nat} (h : Setted w g (.cells cs T fr) w1) (i : Nat) (u : Value) : Setted w g (.cells (cs.setIfInBounds i u) T fr) (w1.setCell ⟨g, i, none⟩ u) := by
  refine ⟨h.os, h.tape, h.output, by simpa using h.size, fun k hk => ?_, ?_⟩
  · rw [← h.block k hk]
    exact Below.heap_setCell _ _ _ _ (fun e => hk e)
  · have h1 := h.here
    simp [World.setCell, Array.getElem?_modify, h1]
theorem Setted.eq {w w' : World} {g : Nat} {ob ob' : Obj} (h : Setted w g ob w') (e : ob = ob') : Setted w g ob' w' := e ▸ h

def upPut (w : World) (g : Nat) (ob : Obj) : Result Next → Prop
  | .ok (.value _) w' => Setted w g ob w'
  | .ok .skip w' => Setted w g ob w'
  | _ => False
def wrote : Obj → Value → Obj
  | .cells _ T fr, v => .cells v.cells T fr
  | o, _ => o

inductive Kd where
  | quiet
  | new (ob : Obj)
  | put (ad vl : Operand)
  | late
def Kd.rank : Kd → Nat
  | .quiet => 0
  | .new _ => 1
  | .put _ _ => 2
  | .late => 3

section
variable {P : Program} {ops : Array Oper} {md : Region.Mode} {w0 : World} {kd : Nat → Kd}

def dOp (P : Program) (ops : Array Oper) (w0 : World) (kd : Nat → Kd) (i : Nat) (K : Act → Held → Prop) (a : Act) (C : Held) : Prop :=
  match ops[i]? with
  | none => K a C
  | some o => match kd i with
    | .quiet => if Region.wanted o (yielded ops a.tmps) then Oper.qU P w0 o a (fun a' => K a' C) else K (a.put o.dst undef) C
    | .new ob => ∀ g, C.at' g = none → K (a.put o.dst (.pointer (some ⟨g, 0, none⟩))) (C.put g ob false)
    | .put ad vl => ∃ g ob, a.eval ad = .pointer (some ⟨g, 0, none⟩) ∧ C.at' g = some (ob, false) ∧
        (∀ w, w.heap[g]? = some ob → upPut w g (wrote ob (a.eval vl)) ((execOp a.eval o).run P w)) ∧ K a (C.put g (wrote ob (a.eval vl)) true)
    | .late => ∃ u, (∀ w, (execOp a.eval o).run P w = .ok (.value u) w) ∧ K (a.put o.dst u) C

theorem dOp_mono {i : Nat} {a : Act} {C : Held} {K K' : Act → Held → Prop} (h : ∀ a C, K a C → K' a C) (hh : dOp P ops w0 kd i K a C) : dOp P ops w0 kd i K' a C := by
  unfold dOp at *
  split
  · rename_i ho; simp only [ho] at hh; exact h _ _ hh
  · rename_i o ho
    simp only [ho] at hh
    cases hk : kd i with
    | quiet =>
      simp only [hk] at hh ⊢
      split
      · rename_i hw; simp only [hw, if_true] at hh; obtain ⟨v, h1, h2⟩ := hh; exact ⟨v, h1, h _ _ h2⟩
      · rename_i hw; simp only [hw] at hh; exact h _ _ hh
    | new ob => simp only [hk] at hh ⊢; exact fun g hg => h _ _ (hh g hg)
    | put ad vl => simp only [hk] at hh ⊢; obtain ⟨g, ob, h1, h2, h3, h4⟩ := hh; exact ⟨g, ob, h1, h2, h3, h _ _ h4⟩
    | late => simp only [hk] at hh ⊢; obtain ⟨u, h1, h2⟩ := hh; exact ⟨u, h1, h _ _ h2⟩

theorem dOp_some {i : Nat} {a : Act} {C : Held} {K : Act → Held → Prop} (hh : dOp P ops w0 kd i K a C) : ∃ a' C', K a' C' := by
  unfold dOp at hh
  split at hh
  · exact ⟨_, _, hh⟩
  · split at hh
    · split at hh
      · obtain ⟨v, h1, h2⟩ := hh; exact ⟨_, _, h2⟩
      · exact ⟨_, _, hh⟩
    · obtain ⟨b, hb⟩ := C.fresh
      exact ⟨_, _, hh b (hb b (Nat.le_refl _))⟩
    · obtain ⟨g, ob, h1, h2, h3, h4⟩ := hh; exact ⟨_, _, h4⟩
    · obtain ⟨u, h1, h2⟩ := hh; exact ⟨_, _, h2⟩

/-- What is asked of the operations. -/
def fit1 (P : Program) (o : Oper) : Kd → Prop
  | .quiet => True
  | .new ob => o.guard = none ∧ ∀ (a : Act) w, (execOp a.eval o).run P w = .ok (.value (.pointer (some ⟨w.heap.size, 0, none⟩))) (w.alloc ob)
  | .put ad vl => (o.guard = none ∧ o.dst = none) ∧ ad ∈ o.op.operands.toList ∧ vl ∈ o.op.operands.toList
  | .late => o.guard = none
def Fits (P : Program) (ops : Array Oper) (kd : Nat → Kd) : Prop := ∀ i o, ops[i]? = some o → fit1 P o (kd i)

theorem eval_put' {o : Oper} {x : Operand} (hx : x ∈ o.op.operands.toList) (a : Act) (dst : Option Tmp) (v : Value) (h : ∀ d, dst = some d → d ∉ o.looksAt ops) : (a.put dst v).eval x = a.eval x :=
  Act.eval_put fun d hd hxd => h d hd (by
    subst hxd
    exact List.mem_append_left _ (List.mem_filterMap.2 ⟨.tmp d, hx, rfl⟩))

theorem dOp_comm (hF : Fits P ops kd) (hsel : ∀ (j : Nat) (o : Oper) cs b, ops[j]? = some o → o.op ≠ .select cs b) {i j : Nat} {oi oj : Oper} (hi : ops[i]? = some oi) (hj : ops[j]? = some oj) (hap : oi.apart ops oj = true)
    (hrk : (kd i).rank ≤ (kd j).rank) {K : Act → Held → Prop} {a : Act} {C : Held}
    (h : dOp P ops w0 kd i (fun a C => dOp P ops w0 kd j K a C) a C) : dOp P ops w0 kd j (fun a C => dOp P ops w0 kd i K a C) a C := by
  obtain ⟨p1, p2, p3⟩ := Oper.apart_spec hap
  have hFi := hF i oi hi
  have hFj := hF j oj hj
  have hsi := fun cs b => hsel i oi cs b hi
  have hsj := fun cs b => hsel j oj cs b hj
  have ei : ∀ (a : Act) u, execOp (a.put oj.dst u).eval oi = execOp a.eval oi := fun a u => execOp_put oi hsi a oj.dst u p3
  have ej : ∀ (a : Act) u, execOp (a.put oi.dst u).eval oj = execOp a.eval oj := fun a u => execOp_put oj hsj a oi.dst u p1
  have wi : ∀ (a : Act) u, Region.wanted oi (yielded ops (a.put oj.dst u).tmps) = Region.wanted oi (yielded ops a.tmps) := fun a u => wanted_put oi a oj.dst u p3
  have wj : ∀ (a : Act) u, Region.wanted oj (yielded ops (a.put oi.dst u).tmps) = Region.wanted oj (yielded ops a.tmps) := fun a u => wanted_put oj a oi.dst u p1
  have cm : ∀ (a : Act) u v, (a.put oi.dst u).put oj.dst v = (a.put oj.dst v).put oi.dst u := fun a u v => Act.put_comm a u v p2
  unfold dOp at h ⊢
  simp only [hi, hj] at h ⊢
  unfold Oper.qU at h ⊢
  cases hki : kd i with
  | quiet =>
    cases hkj : kd j with
    | quiet =>
      simp only [hki, hkj, ei, ej, wi, wj] at h ⊢
      by_cases h1 : Region.wanted oi (yielded ops a.tmps) = true <;> by_cases h2 : Region.wanted oj (yielded ops a.tmps) = true <;> simp only [h1, h2, if_true, if_false, Bool.false_eq_true] at h ⊢
      · obtain ⟨u, hu, v, hv, hk⟩ := h; exact ⟨v, hv, u, hu, by rw [← cm]; exact hk⟩
      · obtain ⟨u, hu, hk⟩ := h; exact ⟨u, hu, by rw [← cm]; exact hk⟩
      · obtain ⟨v, hv, hk⟩ := h; exact ⟨v, hv, by rw [← cm]; exact hk⟩
      · rw [← cm]; exact h
    | new ob =>
      simp only [hki, hkj, ei, ej, wi, wj] at h ⊢
      intro g hg
      by_cases h1 : Region.wanted oi (yielded ops a.tmps) = true <;> simp only [h1, if_true, if_false, Bool.false_eq_true] at h ⊢
      · obtain ⟨u, hu, hk⟩ := h; exact ⟨u, hu, by rw [← cm]; exact hk g hg⟩
      · rw [← cm]; exact h g hg
    | put ad vl =>
      simp only [hkj, fit1] at hFj
      obtain ⟨⟨f1, f2⟩, f3, f4⟩ := hFj
      have e3 := fun a u => eval_put' f3 a oi.dst u p1
      have e4 := fun a u => eval_put' f4 a oi.dst u p1
      simp only [hki, hkj, ei, ej, wi, wj, e3, e4] at h ⊢
      by_cases h1 : Region.wanted oi (yielded ops a.tmps) = true <;> simp only [h1, if_true, if_false, Bool.false_eq_true] at h ⊢
      · obtain ⟨u, hu, g, ob, k1, k2, k3, k4⟩ := h; exact ⟨g, ob, k1, k2, k3, u, hu, k4⟩
      · exact h
    | late =>
      simp only [hki, hkj, ei, ej, wi, wj] at h ⊢
      by_cases h1 : Region.wanted oi (yielded ops a.tmps) = true <;> simp only [h1, if_true, if_false, Bool.false_eq_true] at h ⊢
      · obtain ⟨u, hu, v, hv, hk⟩ := h; exact ⟨v, hv, u, hu, by rw [← cm]; exact hk⟩
      · obtain ⟨v, hv, hk⟩ := h; exact ⟨v, hv, by rw [← cm]; exact hk⟩
  | new ob =>
    cases hkj : kd j with
    | quiet => rw [hki, hkj] at hrk; simp [Kd.rank] at hrk
    | new ob' =>
      simp only [hki, hkj] at h ⊢
      intro g' hg' g hg
      have hne : ¬ g = g' := fun e => by subst e; rw [Held.at_self] at hg; cases hg
      rw [Held.at_ne _ _ _ hne] at hg
      have := h g hg g' (by rw [Held.at_ne _ _ _ (Ne.symm hne)]; exact hg')
      rw [← cm, Held.put_comm _ hne]
      exact this
    | put ad vl =>
      simp only [hkj, fit1] at hFj
      obtain ⟨⟨f1, f2⟩, f3, f4⟩ := hFj
      have e3 := fun a u => eval_put' f3 a oi.dst u p1
      have e4 := fun a u => eval_put' f4 a oi.dst u p1
      simp only [hki, hkj, ej, e3, e4] at h ⊢
      obtain ⟨b, hb⟩ := C.fresh
      have key : ∀ g, C.at' g = none → ∀ x, (∃ g1 ob1, a.eval ad = .pointer (some ⟨g1, 0, none⟩) ∧ (C.put g ob false).at' g1 = some (ob1, false) ∧ x = (g1, ob1)) → ¬ x.1 = g → C.at' x.1 = some (x.2, false) := by
        rintro g hg x ⟨g1, ob1, k1, k2, rfl⟩ hne
        rw [Held.at_ne _ _ _ hne] at k2
        exact k2
      obtain ⟨g1, ob1, k1, k2, _, _⟩ := h b (hb b (Nat.le_refl _))
      have hC : ∃ ob2, C.at' g1 = some (ob2, false) := by
        by_cases e : g1 = b
        · obtain ⟨g2, ob2, l1, l2, _, _⟩ := h (b + 1) (hb _ (by omega))
          rw [k1] at l1
          injection l1 with l1; injection l1 with l1; injection l1 with l1
          subst l1
          rw [Held.at_ne _ _ _ (by omega)] at l2
          exact ⟨_, l2⟩
        · rw [Held.at_ne _ _ _ e] at k2
          exact ⟨_, k2⟩
      obtain ⟨ob2, hC⟩ := hC
      have all : ∀ g, C.at' g = none → (∀ w, w.heap[g1]? = some ob2 → upPut w g1 (wrote ob2 (a.eval vl)) ((execOp a.eval oj).run P w)) ∧ K (a.put oi.dst (.pointer (some ⟨g, 0, none⟩))) ((C.put g ob false).put g1 (wrote ob2 (a.eval vl)) true) := by
        intro g hg
        obtain ⟨g2, ob3, l1, l2, l3, l4⟩ := h g hg
        rw [k1] at l1
        injection l1 with l1; injection l1 with l1; injection l1 with l1
        subst l1
        have hne : ¬ g1 = g := fun e => by subst e; rw [hC] at hg; cases hg
        rw [Held.at_ne _ _ _ hne, hC] at l2
        injection l2 with l2; injection l2 with l2
        subst l2
        exact ⟨l3, l4⟩
      refine ⟨g1, ob2, k1, hC, (all b (hb b (Nat.le_refl _))).1, fun g hg => ?_⟩
      have hne : ¬ g = g1 := fun e => by subst e; rw [Held.at_self] at hg; cases hg
      rw [Held.at_ne _ _ _ hne] at hg
      rw [Held.put_comm _ hne]
      exact (all g hg).2
    | late =>
      simp only [hki, hkj, ei, ej] at h ⊢
      obtain ⟨b, hb⟩ := C.fresh
      obtain ⟨u, hu, _⟩ := h b (hb b (Nat.le_refl _))
      refine ⟨u, hu, fun g hg => ?_⟩
      obtain ⟨u', hu', hk⟩ := h g hg
      have e := (hu w0).symm.trans (hu' w0)
      injection e with e; injection e with e
      subst e
      rw [← cm]; exact hk
  | late =>
    cases hkj : kd j with
    | quiet => rw [hki, hkj] at hrk; simp [Kd.rank] at hrk
    | new ob' => rw [hki, hkj] at hrk; simp [Kd.rank] at hrk
    | put ad vl => rw [hki, hkj] at hrk; simp [Kd.rank] at hrk
    | late =>
      simp only [hki, hkj, ei, ej] at h ⊢
      obtain ⟨u, hu, v, hv, hk⟩ := h; exact ⟨v, hv, u, hu, by rw [← cm]; exact hk⟩
  | put ad vl =>
    cases hkj : kd j with
    | quiet => rw [hki, hkj] at hrk; simp [Kd.rank] at hrk
    | new ob' => rw [hki, hkj] at hrk; simp [Kd.rank] at hrk
    | put ad' vl' =>
      simp only [hki, hkj] at h ⊢
      obtain ⟨g, ob, k1, k2, k3, g', ob', l1, l2, l3, l4⟩ := h
      have hne : ¬ g' = g := fun e => by subst e; rw [Held.at_self] at l2; cases l2
      rw [Held.at_ne _ _ _ hne] at l2
      refine ⟨g', ob', l1, l2, l3, g, ob, k1, by rw [Held.at_ne _ _ _ (Ne.symm hne)]; exact k2, k3, ?_⟩
      rw [Held.put_comm _ (Ne.symm hne)]
      exact l4
    | late =>
      simp only [hki, fit1] at hFi
      obtain ⟨⟨f1, f2⟩, f3, f4⟩ := hFi
      have e3 := fun a u => eval_put' f3 a oj.dst u p3
      have e4 := fun a u => eval_put' f4 a oj.dst u p3
      simp only [hki, hkj, ei, ej, e3, e4] at h ⊢
      obtain ⟨g, ob, k1, k2, k3, u, hu, hk⟩ := h
      exact ⟨u, hu, g, ob, k1, k2, k3, hk⟩

def wpHd (P : Program) (md : Region.Mode) (ops : Array Oper) (w0 : World) (kd : Nat → Kd) (L : Act → Held → Prop) : Nat → Array Bool → Act → Held → Prop
  | 0, listed, a, C => Region.ready md ops listed = [] ∧ L a C
  | f + 1, listed, a, C => Region.ready md ops listed ≠ [] ∧ ∀ i ∈ Region.ready md ops listed, dOp P ops w0 kd i (wpHd P md ops w0 kd L f (listed.setIfInBounds i true)) a C

theorem hd_first (hF : Fits P ops kd) (hsel : ∀ (j : Nat) (o : Oper) cs b, ops[j]? = some o → o.op ≠ .select cs b) {i : Nat} {oi : Oper} {L : Act → Held → Prop} (hi : ops[i]? = some oi) :
    ∀ (f : Nat) (listed : Array Bool) (a : Act) (C : Held),
      (∀ j oj, ops[j]? = some oj → j ≠ i → listed.getD j true = false → (∀ e ∈ oj.after, Region.binds md e = true → e.on ≠ i) → oi.apart ops oj = true) →
      (∀ j, listed.getD j true = false → (kd i).rank ≤ (kd j).rank) →
      i ∈ Region.ready md ops listed →
      dOp P ops w0 kd i (wpHd P md ops w0 kd L f (listed.setIfInBounds i true)) a C → wpHd P md ops w0 kd L (f + 1) listed a C := by
  intro f
  induction f with
  | zero =>
    intro listed a C _ _ hr H
    refine ⟨List.ne_nil_of_mem hr, fun j hj => ?_⟩
    by_cases hji : j = i
    · subst hji; exact H
    · have := ready_mono hj hji
      obtain ⟨_, _, h0, _⟩ := dOp_some H
      rw [h0] at this
      cases this
  | succ f ih =>
    intro listed a C hfree hrk hr H
    refine ⟨List.ne_nil_of_mem hr, fun j hj => ?_⟩
    by_cases hji : j = i
    · subst hji; exact H
    · have hun := (mem_ready.1 hr).1
      obtain ⟨hjun, oj, hoj, hall⟩ := mem_ready.1 hj
      have hnot : ∀ e ∈ oj.after, Region.binds md e = true → e.on ≠ i := fun e he hb heq => by
        have h3 := hall e he hb
        rw [heq, getD_both hun] at h3
        cases h3
      have h1 : dOp P ops w0 kd i (fun a C => dOp P ops w0 kd j (wpHd P md ops w0 kd L f ((listed.setIfInBounds i true).setIfInBounds j true)) a C) a C :=
        dOp_mono (fun a' C' h => h.2 j (ready_mono hj hji)) H
      have h2 := dOp_comm hF hsel hi hoj (hfree j oj hoj hji hjun hnot) (hrk j hjun) h1
      refine dOp_mono (fun a' C' h3 => ih (listed.setIfInBounds j true) a' C' (fun k ok hk hki hun' hno => hfree k ok hk hki ?_ hno) (fun k hk => hrk k ?_) (ready_mono hr (Ne.symm hji)) ?_) h2
      · by_cases hjk : j = k
        · subst hjk; exact hjun
        · rw [getD_set_ne true hjk] at hun'; exact hun'
      · by_cases hjk : j = k
        · subst hjk; exact hjun
        · rw [getD_set_ne true hjk] at hk; exact hk
      · rw [Array.setIfInBounds_comm _ _ hji]
        exact h3

/-- The order of one's choice is one of those that may be drawn, and its steps may be taken first. -/
def ordB (md : Region.Mode) (ops : Array Oper) (kd : Nat → Kd) : List Nat → Array Bool → Bool
  | [], listed => (Region.ready md ops listed).isEmpty
  | k :: r, listed => (Region.ready md ops listed).contains k && Region.free md ops listed k && ((List.range ops.size).all fun j => listed.getD j true || decide ((kd k).rank ≤ (kd j).rank)) && ordB md ops kd r (listed.setIfInBounds k true)

def wpOrd (P : Program) (ops : Array Oper) (w0 : World) (kd : Nat → Kd) (L : Act → Held → Prop) : List Nat → Act → Held → Prop
  | [], a, C => L a C
  | k :: r, a, C => dOp P ops w0 kd k (wpOrd P ops w0 kd L r) a C

theorem hd_ord (hF : Fits P ops kd) (hsel : Region.noSelect ops = true) {L : Act → Held → Prop} :
    ∀ (l : List Nat) (listed : Array Bool) (a : Act) (C : Held), listed.size = ops.size → ordB md ops kd l listed = true → wpOrd P ops w0 kd L l a C → wpHd P md ops w0 kd L l.length listed a C
  | [], listed, a, C, _, hB, h => ⟨by simpa [ordB] using hB, h⟩
  | k :: r, listed, a, C, hz, hB, h => by
    simp only [ordB, Bool.and_eq_true] at hB
    obtain ⟨⟨⟨hr, hf⟩, hk⟩, hB'⟩ := hB
    have hr' : k ∈ Region.ready md ops listed := by simpa using hr
    obtain ⟨_, o, ho, _⟩ := mem_ready.1 hr'
    refine hd_first hF (Region.noSelect_spec hsel) ho r.length listed a C (Region.free_spec ho hf) (fun j hj => ?_) hr' (dOp_mono (fun a' C' h' => hd_ord hF hsel r _ a' C' (by simpa using hz) hB' h') h)
    have hlt : j < ops.size := by
      rcases Nat.lt_or_ge j listed.size with h1 | h1
      · omega
      · simp [Array.getElem?_eq_none h1] at hj
    have := (List.all_eq_true.1 hk) j (List.mem_range.2 hlt)
    simp only [hj, Bool.false_or, decide_eq_true_eq] at this
    exact this

theorem wpOp_of_dOp (hF : Fits P ops kd) {i : Nat} {K : Act → Held → Prop} {a : Act} {C : Held} {K' : Act → World → Prop} {Q' : Exit → Act → World → Prop} {w : World}
    (hw : ∃ x : Aft w0, w = x.val) (hC : C.In w0 w)
    (hK : ∀ a' C' w', (∃ x : Aft w0, w' = x.val) → C'.In w0 w' → K a' C' → K' a' w') (hh : dOp P ops w0 kd i K a C) : wpOp P ops Q' i K' a w := by
  unfold dOp at hh
  unfold wpOp
  split
  · rename_i ho; simp only [ho] at hh; exact hK _ _ _ hw hC hh
  · rename_i o ho
    simp only [ho] at hh
    have hFi := hF i o ho
    cases hk : kd i with
    | new ob =>
      simp only [hk, fit1] at hh hFi
      obtain ⟨hg, hr⟩ := hFi
      rw [if_pos (wanted_none hg)]
      refine .inl ?_
      unfold Oper.wp
      rw [hr a w]
      simp only [Oper.upon]
      obtain ⟨x, rfl⟩ := hw
      have hnew : C.at' x.val.heap.size = none := by
        cases h : C.at' x.val.heap.size with
        | none => rfl
        | some y => have := lt_of_get (hC _ y.1 y.2 h).2; omega
      refine hK _ _ _ ⟨⟨_, x.pf.alloc x.pf.size _⟩, rfl⟩ (fun g ob' d h => ?_) (hh _ hnew)
      by_cases e : g = x.val.heap.size
      · subst e
        rw [Held.at_self] at h
        injection h with h; injection h with h1 h2
        subst h1
        exact ⟨x.pf.size, heap_alloc_new _ _⟩
      · rw [Held.at_ne _ _ _ e] at h
        obtain ⟨c1, c2⟩ := hC g ob' d h
        exact ⟨c1, by rw [Below.heap_alloc _ _ _ (lt_of_get c2)]; exact c2⟩
    | put ad vl =>
      simp only [hk, fit1] at hh hFi
      obtain ⟨⟨hg, hd⟩, _, _⟩ := hFi
      rw [if_pos (wanted_none hg)]
      refine .inl ?_
      obtain ⟨g, ob, k1, k2, k3, k4⟩ := hh
      obtain ⟨c1, c2⟩ := hC g ob false k2
      have h3 := k3 w c2
      have fin : ∀ w', Setted w g (wrote ob (a.eval vl)) w' → K' a w' := fun w' hs => by
        obtain ⟨x, rfl⟩ := hw
        refine hK _ _ _ ⟨⟨w', ⟨hs.os.trans x.pf.os, hs.tape.trans x.pf.tape, hs.output.trans x.pf.output, by rw [hs.size]; exact x.pf.size, fun k hk => ?_⟩⟩, rfl⟩ (fun g' ob' d h => ?_) k4
        · rw [hs.block k (by omega)]; exact x.pf.block k hk
        · by_cases e : g' = g
          · subst e
            rw [Held.at_self] at h
            injection h with h; injection h with h1 h2
            subst h1
            exact ⟨c1, hs.here⟩
          · rw [Held.at_ne _ _ _ e] at h
            obtain ⟨d1, d2⟩ := hC g' ob' d h
            exact ⟨d1, by rw [hs.block _ e]; exact d2⟩
      unfold Oper.wp
      generalize (execOp a.eval o).run P w = r at *
      cases r with
      | ok n w' =>
        cases n <;> simp only [upPut] at h3 <;> simp only [Oper.upon, hd, Act.put] <;> exact fin _ h3
      | halt x w' => simp only [upPut] at h3
    | late =>
      simp only [hk, fit1] at hh hFi
      rw [if_pos (wanted_none hFi)]
      refine .inl ?_
      obtain ⟨u, h1, h2⟩ := hh
      unfold Oper.wp
      rw [h1 w]
      simp only [Oper.upon]
      exact hK _ _ _ hw hC h2
    | quiet =>
      simp only [hk] at hh
      split
      · rename_i hwd
        simp only [hwd, if_true] at hh
        obtain ⟨v, h1, h2⟩ := hh
        refine .inl ?_
        have h3 := h1 w hw
        unfold Oper.wp
        generalize (execOp a.eval o).run P w = r at *
        cases r with
        | ok n w' =>
          cases n <;> simp only [upQ] at h3 <;> simp only [Oper.upon]
          case value u =>
            obtain ⟨e1, e2⟩ := h3
            rw [e1, e2]
            exact hK _ _ _ hw hC h2
          case skip =>
            obtain ⟨e1, e2⟩ := h3
            rw [e1, ← e2]
            exact hK _ _ _ hw hC h2
          case enter f args =>
            obtain ⟨e1, hc⟩ := h3
            rw [e1]
            refine hc.mono fun e w'' ⟨he, y, hy⟩ => ?_
            subst he; subst hy
            obtain ⟨x, rfl⟩ := hw
            refine hK _ _ _ ⟨⟨_, y.below x.pf x.pf.size⟩, rfl⟩ (fun g ob d h => ?_) h2
            obtain ⟨c1, c2⟩ := hC g ob d h
            exact ⟨c1, by rw [y.pf.block _ (lt_of_get c2)]; exact c2⟩
        | halt x w' => simp only [upQ] at h3
      · rename_i hwd
        simp only [hwd] at hh
        exact hK _ _ _ hw hC hh

theorem wpAny_of_hd (hF : Fits P ops kd) {L : Act → Held → Prop} {Q' : Exit → Act → World → Prop}
    (hL : ∀ a C w, (∃ x : Aft w0, w = x.val) → C.In w0 w → L a C → Q' .normal a w) :
    ∀ (f : Nat) (listed : Array Bool) (a : Act) (C : Held) (w : World), (∃ x : Aft w0, w = x.val) → C.In w0 w → wpHd P md ops w0 kd L f listed a C → wpAny P md ops Q' f listed a w
  | 0, listed, a, C, w, hw, hC, h => ⟨h.1, hL _ _ _ hw hC h.2⟩
  | f + 1, listed, a, C, w, hw, hC, h =>
    ⟨fun h0 => absurd h0 h.1, fun i hi => wpOp_of_dOp hF hw hC (fun a' C' w' hw' hC' h' => wpAny_of_hd hF hL f _ a' C' w' hw' hC' h') (h.2 i hi)⟩

/-- The operations of one kind, from number k on. -/
def idx (r : Nat) : Nat → List Kd → List Nat
  | _, [] => []
  | k, d :: ks => if d.rank = r then k :: idx r (k + 1) ks else idx r (k + 1) ks
def FitsL (P : Program) : List Oper → List Kd → Prop
  | o :: l, d :: ks => fit1 P o d ∧ FitsL P l ks
  | _, _ => True
theorem FitsL.fits : ∀ {l : List Oper} {ks : List Kd}, FitsL P l ks → l.length = ks.length → ∀ i o, l[i]? = some o → fit1 P o (ks.getD i .quiet)
  | [], [], _, _, i, o, h => by simp at h
  | o :: l, d :: ks, h, hl, 0, o', ho => by simp at ho; subst ho; simpa using h.1
  | o :: l, d :: ks, h, hl, i + 1, o', ho => by
    simp only [List.getElem?_cons_succ] at ho
    simpa using FitsL.fits h.2 (by simpa using hl) i o' ho
  | [], d :: ks, _, hl, _, _, _ => by simp at hl
  | o :: l, [], _, hl, _, _, _ => by simp at hl

/-- The walk of the quiet operations, in the order of the text; of the new variables; of the stores. -/
def wpQ (P : Program) (ops : Array Oper) (w0 : World) (Q : Act → Held → Prop) : List Oper → List Kd → Act → Held → Prop
  | o :: l, d :: ks, a, C => match d with
    | .quiet => if Region.wanted o (yielded ops a.tmps) then Oper.qU P w0 o a (fun a' => wpQ P ops w0 Q l ks a' C) else wpQ P ops w0 Q l ks (a.put o.dst undef) C
    | _ => wpQ P ops w0 Q l ks a C
  | _, _, a, C => Q a C
def wpN (Q : Act → Held → Prop) : List Oper → List Kd → Act → Held → Prop
  | o :: l, d :: ks, a, C => match d with
    | .new ob => ∀ g, C.at' g = none → wpN Q l ks (a.put o.dst (.pointer (some ⟨g, 0, none⟩))) (C.put g ob false)
    | _ => wpN Q l ks a C
  | _, _, a, C => Q a C
def wpP (P : Program) (Q : Act → Held → Prop) : List Oper → List Kd → Act → Held → Prop
  | o :: l, d :: ks, a, C => match d with
    | .put ad vl => ∃ g ob, a.eval ad = .pointer (some ⟨g, 0, none⟩) ∧ C.at' g = some (ob, false) ∧
        (∀ w, w.heap[g]? = some ob → upPut w g (wrote ob (a.eval vl)) ((execOp a.eval o).run P w)) ∧ wpP P Q l ks a (C.put g (wrote ob (a.eval vl)) true)
    | _ => wpP P Q l ks a C
  | _, _, a, C => Q a C
def wpL (P : Program) (Q : Act → Held → Prop) : List Oper → List Kd → Act → Held → Prop
  | o :: l, d :: ks, a, C => match d with
    | .late => ∃ u, (∀ w, (execOp a.eval o).run P w = .ok (.value u) w) ∧ wpL P Q l ks (a.put o.dst u) C
    | _ => wpL P Q l ks a C
  | _, _, a, C => Q a C

theorem ord_q {Q L : Act → Held → Prop} {rest : List Nat} (hQ : ∀ a C, Q a C → wpOrd P ops w0 kd L rest a C) : ∀ (l : List Oper) (ks : List Kd) (k : Nat) (a : Act) (C : Held),
    l.length = ks.length → (∀ j, j < l.length → l[j]? = ops[k + j]?) → (∀ j d, ks[j]? = some d → kd (k + j) = d) → wpQ P ops w0 Q l ks a C → wpOrd P ops w0 kd L (idx 0 k ks ++ rest) a C
  | [], [], k, a, C, _, _, _, h => by simpa [idx] using hQ _ _ h
  | o :: l, d :: ks, k, a, C, hl, ho, hd, h => by
    have h0 : ops[k]? = some o := by simpa using (ho 0 (by simp)).symm
    have d0 : kd k = d := by simpa using hd 0 d (by simp)
    have ih := fun a C => ord_q hQ l ks (k + 1) a C (by simpa using hl) (fun j hj => by have := ho (j + 1) (by simp; omega); simpa [Nat.add_assoc, Nat.add_comm 1 j] using this)
      (fun j d' hj => by have := hd (j + 1) d' (by simpa using hj); simpa [Nat.add_assoc, Nat.add_comm 1 j] using this)
    cases d with
    | quiet =>
      simp only [idx, Kd.rank, if_true, List.cons_append, wpOrd, dOp, h0, d0]
      simp only [wpQ] at h
      split
      · rename_i hw; simp only [hw, if_true] at h; obtain ⟨v, h1, h2⟩ := h; exact ⟨v, h1, ih _ _ h2⟩
      · rename_i hw; simp only [hw] at h; exact ih _ _ h
    | new ob => simp only [wpQ] at h; simpa [idx, Kd.rank] using ih _ _ h
    | put ad vl => simp only [wpQ] at h; simpa [idx, Kd.rank] using ih _ _ h
    | late => simp only [wpQ] at h; simpa [idx, Kd.rank] using ih _ _ h
  | [], _ :: _, _, _, _, hl, _, _, _ => by simp at hl
  | _ :: _, [], _, _, _, hl, _, _, _ => by simp at hl
theorem ord_n {Q L : Act → Held → Prop} {rest : List Nat} (hQ : ∀ a C, Q a C → wpOrd P ops w0 kd L rest a C) : ∀ (l : List Oper) (ks : List Kd) (k : Nat) (a : Act) (C : Held),
    l.length = ks.length → (∀ j, j < l.length → l[j]? = ops[k + j]?) → (∀ j d, ks[j]? = some d → kd (k + j) = d) → wpN Q l ks a C → wpOrd P ops w0 kd L (idx 1 k ks ++ rest) a C
  | [], [], k, a, C, _, _, _, h => by simpa [idx] using hQ _ _ h
  | o :: l, d :: ks, k, a, C, hl, ho, hd, h => by
    have h0 : ops[k]? = some o := by simpa using (ho 0 (by simp)).symm
    have d0 : kd k = d := by simpa using hd 0 d (by simp)
    have ih := fun a C => ord_n hQ l ks (k + 1) a C (by simpa using hl) (fun j hj => by have := ho (j + 1) (by simp; omega); simpa [Nat.add_assoc, Nat.add_comm 1 j] using this)
      (fun j d' hj => by have := hd (j + 1) d' (by simpa using hj); simpa [Nat.add_assoc, Nat.add_comm 1 j] using this)
    cases d with
    | quiet => simp only [wpN] at h; simpa [idx, Kd.rank] using ih _ _ h
    | new ob =>
      simp only [idx, Kd.rank, if_true, List.cons_append, wpOrd, dOp, h0, d0]
      simp only [wpN] at h
      exact fun g hg => ih _ _ (h g hg)
    | put ad vl => simp only [wpN] at h; simpa [idx, Kd.rank] using ih _ _ h
    | late => simp only [wpN] at h; simpa [idx, Kd.rank] using ih _ _ h
  | [], _ :: _, _, _, _, hl, _, _, _ => by simp at hl
  | _ :: _, [], _, _, _, hl, _, _, _ => by simp at hl
theorem ord_p {Q L : Act → Held → Prop} {rest : List Nat} (hQ : ∀ a C, Q a C → wpOrd P ops w0 kd L rest a C) : ∀ (l : List Oper) (ks : List Kd) (k : Nat) (a : Act) (C : Held),
    l.length = ks.length → (∀ j, j < l.length → l[j]? = ops[k + j]?) → (∀ j d, ks[j]? = some d → kd (k + j) = d) → wpP P Q l ks a C → wpOrd P ops w0 kd L (idx 2 k ks ++ rest) a C
  | [], [], k, a, C, _, _, _, h => by simpa [idx] using hQ _ _ h
  | o :: l, d :: ks, k, a, C, hl, ho, hd, h => by
    have h0 : ops[k]? = some o := by simpa using (ho 0 (by simp)).symm
    have d0 : kd k = d := by simpa using hd 0 d (by simp)
    have ih := fun a C => ord_p hQ l ks (k + 1) a C (by simpa using hl) (fun j hj => by have := ho (j + 1) (by simp; omega); simpa [Nat.add_assoc, Nat.add_comm 1 j] using this)
      (fun j d' hj => by have := hd (j + 1) d' (by simpa using hj); simpa [Nat.add_assoc, Nat.add_comm 1 j] using this)
    cases d with
    | quiet => simp only [wpP] at h; simpa [idx, Kd.rank] using ih _ _ h
    | new ob => simp only [wpP] at h; simpa [idx, Kd.rank] using ih _ _ h
    | put ad vl =>
      simp only [idx, Kd.rank, if_true, List.cons_append, wpOrd, dOp, h0, d0]
      simp only [wpP] at h
      obtain ⟨g, ob, h1, h2, h3, h4⟩ := h
      exact ⟨g, ob, h1, h2, h3, ih _ _ h4⟩
    | late => simp only [wpP] at h; simpa [idx, Kd.rank] using ih _ _ h
  | [], _ :: _, _, _, _, hl, _, _, _ => by simp at hl
  | _ :: _, [], _, _, _, hl, _, _, _ => by simp at hl

theorem ord_l {Q L : Act → Held → Prop} {rest : List Nat} (hQ : ∀ a C, Q a C → wpOrd P ops w0 kd L rest a C) : ∀ (l : List Oper) (ks : List Kd) (k : Nat) (a : Act) (C : Held),
    l.length = ks.length → (∀ j, j < l.length → l[j]? = ops[k + j]?) → (∀ j d, ks[j]? = some d → kd (k + j) = d) → wpL P Q l ks a C → wpOrd P ops w0 kd L (idx 3 k ks ++ rest) a C
  | [], [], k, a, C, _, _, _, h => by simpa [idx] using hQ _ _ h
  | o :: l, d :: ks, k, a, C, hl, ho, hd, h => by
    have h0 : ops[k]? = some o := by simpa using (ho 0 (by simp)).symm
    have d0 : kd k = d := by simpa using hd 0 d (by simp)
    have ih := fun a C => ord_l hQ l ks (k + 1) a C (by simpa using hl) (fun j hj => by have := ho (j + 1) (by simp; omega); simpa [Nat.add_assoc, Nat.add_comm 1 j] using this)
      (fun j d' hj => by have := hd (j + 1) d' (by simpa using hj); simpa [Nat.add_assoc, Nat.add_comm 1 j] using this)
    cases d with
    | quiet => simp only [wpL] at h; simpa [idx, Kd.rank] using ih _ _ h
    | new ob => simp only [wpL] at h; simpa [idx, Kd.rank] using ih _ _ h
    | put ad vl => simp only [wpL] at h; simpa [idx, Kd.rank] using ih _ _ h
    | late =>
      simp only [idx, Kd.rank, if_true, List.cons_append, wpOrd, dOp, h0, d0]
      simp only [wpL] at h
      obtain ⟨u, h1, h2⟩ := h
      exact ⟨u, h1, ih _ _ h2⟩
  | [], _ :: _, _, _, _, hl, _, _, _ => by simp at hl
  | _ :: _, [], _, _, _, hl, _, _, _ => by simp at hl

theorem wpQ_step {Q : Act → Held → Prop} {o : Oper} {l : List Oper} {ks : List Kd} {a : Act} {C : Held}
    (h : ∀ K : Act → Prop, (∀ a, wpQ P ops w0 Q l ks a C → K a) → if Region.wanted o (yielded ops a.tmps) then Oper.qU P w0 o a K else K (a.put o.dst undef)) : wpQ P ops w0 Q (o :: l) (.quiet :: ks) a C :=
  h (fun a' => wpQ P ops w0 Q l ks a' C) fun _ h => h
theorem wpQ_new {Q : Act → Held → Prop} {o : Oper} {l : List Oper} {ks : List Kd} {a : Act} {C : Held} {ob : Obj} (h : wpQ P ops w0 Q l ks a C) : wpQ P ops w0 Q (o :: l) (.new ob :: ks) a C := h
theorem wpQ_put {Q : Act → Held → Prop} {o : Oper} {l : List Oper} {ks : List Kd} {a : Act} {C : Held} {ad vl : Operand} (h : wpQ P ops w0 Q l ks a C) : wpQ P ops w0 Q (o :: l) (.put ad vl :: ks) a C := h
theorem wpQ_late {Q : Act → Held → Prop} {o : Oper} {l : List Oper} {ks : List Kd} {a : Act} {C : Held} (h : wpQ P ops w0 Q l ks a C) : wpQ P ops w0 Q (o :: l) (.late :: ks) a C := h
theorem wpL_skip {Q : Act → Held → Prop} {o : Oper} {l : List Oper} {ks : List Kd} {d : Kd} {a : Act} {C : Held} (hd : d.rank < 3) (h : wpL P Q l ks a C) : wpL P Q (o :: l) (d :: ks) a C := by
  cases d <;> first | exact h | simp [Kd.rank] at hd
theorem wpL_step {Q : Act → Held → Prop} {o : Oper} {l : List Oper} {ks : List Kd} {a : Act} {C : Held}
    (h : ∀ K : Act → Prop, (∀ a, wpL P Q l ks a C → K a) → ∃ u, (∀ w, (execOp a.eval o).run P w = .ok (.value u) w) ∧ K (a.put o.dst u)) : wpL P Q (o :: l) (.late :: ks) a C :=
  h (fun a' => wpL P Q l ks a' C) fun _ h => h
theorem wpL_nil {Q : Act → Held → Prop} {a : Act} {C : Held} (h : Q a C) : wpL P Q [] [] a C := h
theorem wpQ_nil {Q : Act → Held → Prop} {a : Act} {C : Held} (h : Q a C) : wpQ P ops w0 Q [] [] a C := h

/-- A region that draws its order: quiet operations, new variables, stores into these, walked in this order. -/
theorem wp_region_kd {id : Nat} {Q : Exit → Act → World → Prop} {a : Act} {w : World} {l : List Oper} (kds : List Kd) (hm : P.follows .mixedOrders = true) (hn : Region.noSelect l.toArray = true)
    (hz : (idx 0 0 kds ++ (idx 1 0 kds ++ (idx 2 0 kds ++ (idx 3 0 kds ++ [])))).length = l.toArray.size) (hlen : l.length = kds.length)
    (hB : ordB .any l.toArray (fun i => kds.getD i .quiet) (idx 0 0 kds ++ (idx 1 0 kds ++ (idx 2 0 kds ++ (idx 3 0 kds ++ [])))) (Array.replicate l.toArray.size false) = true) (hF : FitsL P l kds)
    (h : wpQ P l.toArray w (wpN (wpP P (wpL P (fun a' C => ∀ x : Aft w, C.In w x.val → Q .normal a' x.val) l kds) l kds) l kds) l kds a Held.nil) :
    (Code.region id l.toArray true).wp P Q a w := by
  refine wp_region_any hm ?_
  have hF' : Fits P l.toArray (fun i => kds.getD i .quiet) := fun i o ho => hF.fits hlen i o (by simpa using ho)
  have e1 : ∀ j, j < l.length → l[j]? = l.toArray[0 + j]? := fun j _ => by simp
  have e2 : ∀ (j : Nat) (d : Kd), kds[j]? = some d → kds.getD (0 + j) .quiet = d := fun j d hd => by rw [Nat.zero_add, List.getD_eq_getElem?_getD, hd]; rfl
  have ho := ord_q (P := P) (ops := l.toArray) (w0 := w) (kd := fun i => kds.getD i .quiet) (L := fun a' C => ∀ x : Aft w, C.In w x.val → Q .normal a' x.val)
    (fun a C h1 => ord_n (fun a C h2 => ord_p (fun a C h3 => ord_l (rest := []) (Q := fun a' C => ∀ x : Aft w, C.In w x.val → Q .normal a' x.val) (fun a C h4 => h4) l kds 0 a C hlen e1 e2 h3) l kds 0 a C hlen e1 e2 h2) l kds 0 a C hlen e1 e2 h1) l kds 0 a Held.nil hlen e1 e2 h
  have H := hd_ord (md := .any) hF' hn _ (Array.replicate l.toArray.size false) a Held.nil (by simp) hB ho
  rw [hz] at H
  exact wpAny_of_hd hF' (fun a' C w' hw' hC hL => by obtain ⟨x, rfl⟩ := hw'; exact hL x hC) _ _ _ _ _ ⟨⟨_, (Below.refl _ _).drew⟩, rfl⟩ (fun g ob d h => by simp [Held.nil] at h) H
end
end Go.Proofs.YtkdonapgonegkaaDoor
