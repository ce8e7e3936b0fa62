/-
  Plain lemmas of the verifier's own, over any program: a region that draws its order, whose operations are quiet ones (they read, reckon, or call what only makes memory), then new variables, then a forced tail. No Go text.
-/
import Derived.Test.YtkdonapgonegkaaDoorKit
set_option linter.unusedSimpArgs false
set_option linter.unusedVariables false
namespace Go.Proofs.YtkdonapgonegkaaDoor
open Go.RowKit

/-- What a quiet operation may do in the world w: yield v, the world as it was; or call what returns v and only makes memory. -/
def upQ (P : Program) (w : World) (v : Value) : Result Next → Prop
  | .ok (.value u) w' => w' = w ∧ u = v
  | .ok .skip w' => w' = w ∧ v = undef
  | .ok (.enter f args) w' => w' = w ∧ Calls P f args w (fun e w'' => e = .returned v ∧ ∃ y : Aft w, w'' = y.val)
  | _ => False

def Oper.qU (P : Program) (w0 : World) (o : Oper) (a : Act) (K : Act → Prop) : Prop :=
  ∃ v, (∀ w, (∃ x : Aft w0, w = x.val) → upQ P w v ((execOp a.eval o).run P w)) ∧ K (a.put o.dst v)

attribute [go_sem] upQ Oper.qU

theorem Calls.q0 {P : Program} {f : FuncId} {args : Array Value} {w : World} {v : Value}
    (h : Calls P f args w fun e w' => e = .returned v ∧ w = w') : Calls P f args w fun e w'' => e = .returned v ∧ ∃ y : Aft w, w'' = y.val :=
  h.mono fun _ _ ⟨he, hm⟩ => ⟨he, ⟨w, Below.refl _ _⟩, hm.symm⟩

section
variable {P : Program} {ops : Array Oper} {md : Region.Mode} {w0 : World} {al : Nat → Option Obj}

/-- The walk of the quiet operations, in the order of the text. -/
def wpU (P : Program) (ops : Array Oper) (w0 : World) (Q : Act → Prop) : List Oper → Act → Prop
  | [], a => Q a
  | o :: r, a => if Region.wanted o (yielded ops a.tmps) then Oper.qU P w0 o a (wpU P ops w0 Q r) else wpU P ops w0 Q r (a.put o.dst undef)

theorem wpU_nil {Q : Act → Prop} {a : Act} (h : Q a) : wpU P ops w0 Q [] a := h
theorem wpU_step {Q : Act → Prop} {a : Act} {o : Oper} {r : List Oper}
    (h : ∀ K : Act → Prop, (∀ a, wpU P ops w0 Q r a → K a) → if Region.wanted o (yielded ops a.tmps) then Oper.qU P w0 o a K else K (a.put o.dst undef)) : wpU P ops w0 Q (o :: r) a :=
  h _ fun _ h => h

/-- What is known of a world, and which blocks are taken. -/
structure Known where
  of : World → Prop
  taken : Nat → Prop
  lim : ∃ b, ∀ n, taken n → n < b
theorem Known.fresh (C : Known) : ∃ g, ¬ C.taken g := by
  obtain ⟨b, hb⟩ := C.lim
  exact ⟨b, fun h => Nat.lt_irrefl _ (hb b h)⟩
def Known.none : Known := ⟨fun _ => True, fun _ => False, ⟨0, fun _ h => h.elim⟩⟩
def Known.more (C : Known) (w0 : World) (g : Nat) (ob : Obj) : Known := ⟨fun w => C.of w ∧ w0.heap.size ≤ g ∧ w.heap[g]? = some ob, fun n => n = g ∨ C.taken n, by
    obtain ⟨b, hb⟩ := C.lim
    refine ⟨max b (g + 1), fun n hn => ?_⟩
    rcases hn with h | h
    · omega
    · have := hb n h
      omega⟩
def Known.at (C : Known) (w : World) : Prop := C.of w ∧ ∀ n, C.taken n → n < w.heap.size
theorem Known.comm (C : Known) (w0 : World) (g g' : Nat) (ob ob' : Obj) : (C.more w0 g ob).more w0 g' ob' = (C.more w0 g' ob').more w0 g ob := by
  unfold Known.more
  simp only [Known.mk.injEq]
  refine ⟨?_, ?_⟩
  · funext w; exact propext ⟨fun ⟨⟨a, b⟩, c⟩ => ⟨⟨a, c⟩, b⟩, fun ⟨⟨a, b⟩, c⟩ => ⟨⟨a, c⟩, b⟩⟩
  · funext n; exact propext ⟨fun h => by rcases h with h | h | h <;> simp [h], fun h => by rcases h with h | h | h <;> simp [h]⟩

/-- The new variables, in the order of the text: each a block of its own, of which nothing else is known. -/
def wpNew (w0 : World) (Q : Act → Known → Prop) : List (Option Tmp × Obj) → Act → Known → Prop
  | [], a, C => Q a C
  | (d, ob) :: r, a, C => ∀ g, ¬ C.taken g → wpNew w0 Q r (a.put d (.pointer (some ⟨g, 0, none⟩))) (C.more w0 g ob)

def hOp (P : Program) (ops : Array Oper) (w0 : World) (al : Nat → Option Obj) (i : Nat) (K : Act → Known → Prop) (a : Act) (C : Known) : Prop :=
  match ops[i]? with
  | none => K a C
  | some o => match al i with
    | some ob => ∀ g, ¬ C.taken g → K (a.put o.dst (.pointer (some ⟨g, 0, none⟩))) (C.more w0 g ob)
    | none => if Region.wanted o (yielded ops a.tmps) then Oper.qU P w0 o a (fun a' => K a' C) else K (a.put o.dst undef) C

theorem hOp_mono {i : Nat} {a : Act} {C : Known} {K K' : Act → Known → Prop} (h : ∀ a C, K a C → K' a C) (hh : hOp P ops w0 al i K a C) : hOp P ops w0 al i K' a C := by
  unfold hOp at *
  split
  · rename_i ho; simp only [ho] at hh; exact h _ _ hh
  · rename_i o ho
    simp only [ho] at hh
    split
    · rename_i ob ha; simp only [ha] at hh; exact fun g hg => h _ _ (hh g hg)
    · rename_i ha
      simp only [ha] at hh
      split
      · rename_i hw; simp only [hw, if_true] at hh; obtain ⟨v, h1, h2⟩ := hh; exact ⟨v, h1, h _ _ h2⟩
      · rename_i hw; simp only [hw] at hh; exact h _ _ hh

/-- What is asked of the operations that make new variables. -/
def News (P : Program) (ops : Array Oper) (al : Nat → Option Obj) : Prop :=
  ∀ i o ob, ops[i]? = some o → al i = some ob → o.guard = none ∧ ∀ (a : Act) w, (execOp a.eval o).run P w = .ok (.value (.pointer (some ⟨w.heap.size, 0, none⟩))) (w.alloc ob)

def Up (C : Known) : Prop := ∀ w (y : Aft w), C.at w → C.at y.val

theorem wanted_none {o : Oper} {y : Nat → Option Bool} (h : o.guard = none) : Region.wanted o y = true := by simp [Region.wanted, h]

theorem wpOp_of_hOp (hal : News P ops al) {i : Nat} {K : Act → Known → Prop} {a : Act} {C : Known} {K' : Act → World → Prop} {Q' : Exit → Act → World → Prop} {w : World}
    (hw : ∃ x : Aft w0, w = x.val) (hU : Up C) (hC : C.at w)
    (hK : ∀ a' C' w', (∃ x : Aft w0, w' = x.val) → Up C' → C'.at w' → K a' C' → K' a' w') (hh : hOp P ops w0 al i K a C) : wpOp P ops Q' i K' a w := by
  unfold hOp at hh
  unfold wpOp
  split
  · rename_i ho; simp only [ho] at hh; exact hK _ _ _ hw hU hC hh
  · rename_i o ho
    simp only [ho] at hh
    cases ha : al i with
    | some ob =>
      simp only [ha] at hh
      obtain ⟨hg, hr⟩ := hal i o ob ho ha
      rw [if_pos (wanted_none hg)]
      refine .inl ?_
      unfold Oper.wp
      rw [hr a w]
      simp only [Oper.upon]
      obtain ⟨x, rfl⟩ := hw
      refine hK _ _ _ ⟨⟨_, x.pf.alloc x.pf.size _⟩, rfl⟩ ?_ ?_ (hh x.val.heap.size fun ht => Nat.lt_irrefl _ (hC.2 _ ht))
      · intro w1 y ⟨⟨c1, c2, c3⟩, c4⟩
        have hlt : x.val.heap.size < w1.heap.size := c4 _ (Or.inl rfl)
        obtain ⟨d1, d2⟩ := hU _ y ⟨c1, fun n hn => c4 n (Or.inr hn)⟩
        exact ⟨⟨d1, c2, by rw [y.pf.block _ hlt]; exact c3⟩, fun n hn => Nat.lt_of_lt_of_le (c4 n hn) y.pf.size⟩
      · obtain ⟨d1, d2⟩ := hU _ ⟨_, (Below.refl _ _).alloc (Nat.le_refl _) ob⟩ hC
        refine ⟨⟨d1, x.pf.size, heap_alloc_new _ _⟩, fun n hn => ?_⟩
        rcases hn with rfl | hn
        · simp
        · exact d2 n hn
    | none =>
      simp only [ha] at hh
      split
      · rename_i hwd
        simp only [hwd, if_true] at hh
        obtain ⟨v, h1, h2⟩ := hh
        refine .inl ?_
        have h3 := h1 w hw
        unfold Oper.wp
        generalize (execOp a.eval o).run P w = r at *
        cases r with
        | ok n w' =>
          cases n <;> simp only [upQ] at h3 <;> simp only [Oper.upon]
          case value u =>
            obtain ⟨e1, e2⟩ := h3
            rw [e1, e2]
            exact hK _ _ _ hw hU hC h2
          case skip =>
            obtain ⟨e1, e2⟩ := h3
            rw [e1, ← e2]
            exact hK _ _ _ hw hU hC h2
          case enter f args =>
            obtain ⟨e1, hc⟩ := h3
            rw [e1]
            refine hc.mono fun e w'' ⟨he, y, hy⟩ => ?_
            subst he; subst hy
            obtain ⟨x, rfl⟩ := hw
            exact hK _ _ _ ⟨⟨_, y.below x.pf x.pf.size⟩, rfl⟩ hU (hU _ y hC) h2
        | halt x w' => simp only [upQ] at h3
      · rename_i hwd
        simp only [hwd] at hh
        exact hK _ _ _ hw hU hC hh

def wpHeadA (P : Program) (md : Region.Mode) (ops : Array Oper) (w0 : World) (al : Nat → Option Obj) (n : Nat) (L : Array Bool → Act → Known → Prop) : Nat → Array Bool → Act → Known → Prop
  | 0, listed, a, C => L listed a C
  | f + 1, listed, a, C => Region.ready md ops listed ≠ [] ∧ ∀ i ∈ Region.ready md ops listed, i < n ∧ hOp P ops w0 al i (wpHeadA P md ops w0 al n L f (listed.setIfInBounds i true)) a C

theorem wpAny_of_headA (hal : News P ops al) {n g : Nat} {L : Array Bool → Act → Known → Prop} {Q' : Exit → Act → World → Prop}
    (hL : ∀ listed a C w, (∃ x : Aft w0, w = x.val) → C.at w → L listed a C → wpAny P md ops Q' g listed a w) :
    ∀ (f : Nat) (listed : Array Bool) (a : Act) (C : Known) (w : World), (∃ x : Aft w0, w = x.val) → Up C → C.at w → wpHeadA P md ops w0 al n L f listed a C → wpAny P md ops Q' (f + g) listed a w
  | 0, listed, a, C, w, hw, _, hC, h => by rw [Nat.zero_add]; exact hL _ _ _ _ hw hC h
  | f + 1, listed, a, C, w, hw, hU, hC, h => by
    rw [Nat.add_right_comm]
    exact ⟨fun h0 => absurd h0 h.1, fun i hi => wpOp_of_hOp hal hw hU hC (fun a' C' w' hw' hU' hC' h' => wpAny_of_headA hal hL f _ a' C' w' hw' hU' hC' h') (h.2 i hi).2⟩

/-- Operation 'o' yields v in every world that has grown out of w0. -/
def YU (P : Program) (ops : Array Oper) (w0 : World) (o : Oper) (v : Value) (a : Act) : Prop :=
  (Region.wanted o (yielded ops a.tmps) = true ∧ ∀ w, (∃ x : Aft w0, w = x.val) → upQ P w v ((execOp a.eval o).run P w)) ∨ (Region.wanted o (yielded ops a.tmps) = false ∧ v = undef)

theorem YU.hOp {i : Nat} {o : Oper} {v : Value} {a : Act} {C : Known} (hi : ops[i]? = some o) (ha : al i = none) (hy : YU P ops w0 o v a) {K : Act → Known → Prop} (h : K (a.put o.dst v) C) : hOp P ops w0 al i K a C := by
  unfold Go.Proofs.YtkdonapgonegkaaDoor.hOp
  simp only [hi, ha]
  rcases hy with ⟨hw, hv⟩ | ⟨hw, rfl⟩
  · simp only [hw, if_true]; exact ⟨v, hv, h⟩
  · simp only [hw, Bool.false_eq_true, if_false]; exact h

theorem YU.of_same {o : Oper} {v : Value} {a a' : Act} (hy : YU P ops w0 o v a) (he : execOp a'.eval o = execOp a.eval o)
    (hw : Region.wanted o (yielded ops a'.tmps) = Region.wanted o (yielded ops a.tmps)) : YU P ops w0 o v a' := by
  unfold YU at *
  rw [he, hw]
  exact hy

theorem hOp_put {j : Nat} {oi oj : Oper} {v : Value} (hj : ops[j]? = some oj) (hap : oi.apart ops oj = true)
    (hsi : ∀ cs b, oi.op ≠ .select cs b) (hsj : ∀ cs b, oj.op ≠ .select cs b) {K : Act → Known → Prop} {a : Act} {C : Known}
    (hy : YU P ops w0 oi v a) (h : hOp P ops w0 al j K (a.put oi.dst v) C) :
    hOp P ops w0 al j (fun a' C' => YU P ops w0 oi v a' ∧ K (a'.put oi.dst v) C') a C := by
  obtain ⟨h1, h2, h3⟩ := Oper.apart_spec hap
  have keep : ∀ u, YU P ops w0 oi v (a.put oj.dst u) := fun u => hy.of_same (execOp_put oi hsi a oj.dst u h3) (wanted_put oi a oj.dst u h3)
  unfold hOp at *
  simp only [hj] at *
  cases ha : al j with
  | some ob =>
    simp only [ha] at h ⊢
    exact fun g hg => ⟨keep _, by rw [← Act.put_comm a v _ h2]; exact h g hg⟩
  | none =>
    simp only [ha] at h ⊢
    rw [wanted_put oj a oi.dst v h1] at h
    split
    · rename_i hw
      simp only [hw, if_true] at h
      obtain ⟨u, hu, hn⟩ := h
      refine ⟨u, fun w hw' => ?_, keep u, by rw [← Act.put_comm a v u h2]; exact hn⟩
      have := hu w hw'
      rwa [execOp_put oj hsj a oi.dst v h1] at this
    · rename_i hw
      simp only [hw] at h
      exact ⟨keep _, by rw [← Act.put_comm a v undef h2]; exact h⟩

theorem headA_first {n i : Nat} {oi : Oper} {v : Value} {L : Array Bool → Act → Known → Prop} (hi : ops[i]? = some oi) (hai : al i = none) (hsel : ∀ (j : Nat) (o : Oper) cs b, ops[j]? = some o → o.op ≠ .select cs b)
    (hs : Region.sinkB md ops n = true) (hc : Region.chainB md ops n = true) (hn : n < ops.size) (hin : i < n)
    (hdone : ∀ listed a C, L listed a C → ∀ j ∈ Region.ready md ops listed, n ≤ j) :
    ∀ (f : Nat) (listed : Array Bool) (a : Act) (C : Known), HeadInv md ops n listed →
      (∀ j oj, ops[j]? = some oj → j ≠ i → listed.getD j true = false → (∀ e ∈ oj.after, Region.binds md e = true → e.on ≠ i) → oi.apart ops oj = true) →
      i ∈ Region.ready md ops listed → YU P ops w0 oi v a →
      wpHeadA P md ops w0 al n L f (listed.setIfInBounds i true) (a.put oi.dst v) C → wpHeadA P md ops w0 al n L (f + 1) listed a C := by
  intro f
  induction f with
  | zero =>
    intro listed a C inv _ hr hy H
    have hun := (mem_ready.1 hr).1
    refine ⟨List.ne_nil_of_mem hr, fun j hj => ?_⟩
    have hjn : j < n := Nat.lt_of_not_le fun h => tail_waits hs hc hn inv _ i rfl hin hun j h hj
    refine ⟨hjn, ?_⟩
    by_cases hji : j = i
    · subst hji; exact hy.hOp hi hai H
    · have := hdone _ _ _ H j (ready_mono hj hji)
      omega
  | succ f ih =>
    intro listed a C inv hfree hr hy H
    have hun := (mem_ready.1 hr).1
    refine ⟨List.ne_nil_of_mem hr, fun j hj => ?_⟩
    have hjn : j < n := Nat.lt_of_not_le fun h => tail_waits hs hc hn inv _ i rfl hin hun j h hj
    refine ⟨hjn, ?_⟩
    by_cases hji : j = i
    · subst hji; exact hy.hOp hi hai H
    · have h1 := (H.2 j (ready_mono hj hji)).2
      obtain ⟨hjun, oj, hoj, hall⟩ := mem_ready.1 hj
      have hnot : ∀ e ∈ oj.after, Region.binds md e = true → e.on ≠ i := fun e he hb heq => by
        have h3 := hall e he hb
        rw [heq, getD_both hun] at h3
        cases h3
      have h2 := hOp_put hoj (hfree j oj hoj hji hjun hnot) (fun cs b => hsel i oi cs b hi) (fun cs b => hsel j oj cs b hoj) hy h1
      refine hOp_mono (fun a' C' h3 => ih (listed.setIfInBounds j true) a' C' (inv.set hj hjn) (fun k ok hk hki hun' hno => hfree k ok hk hki ?_ hno) (ready_mono hr (Ne.symm hji)) h3.1 ?_) h2
      · by_cases hjk : j = k
        · subst hjk; exact hjun
        · rw [getD_set_ne true hjk] at hun'; exact hun'
      · rw [Array.setIfInBounds_comm _ _ hji]
        exact h3.2

/-- Where new variables alone are left, one of them may be taken first. -/
theorem headA_new {n i : Nat} {oi : Oper} {ob : Obj} {L : Array Bool → Act → Known → Prop} (hi : ops[i]? = some oi) (hai : al i = some ob)
    (hs : Region.sinkB md ops n = true) (hc : Region.chainB md ops n = true) (hn : n < ops.size) (hin : i < n)
    (hdone : ∀ listed a C, L listed a C → ∀ j ∈ Region.ready md ops listed, n ≤ j) :
    ∀ (f : Nat) (listed : Array Bool) (a : Act) (C : Known), HeadInv md ops n listed →
      (∀ j, j < n → listed.getD j true = false → (al j).isSome = true) →
      (∀ j oj, ops[j]? = some oj → j ≠ i → listed.getD j true = false → (∀ e ∈ oj.after, Region.binds md e = true → e.on ≠ i) → oi.apart ops oj = true) →
      i ∈ Region.ready md ops listed →
      (∀ g, ¬ C.taken g → wpHeadA P md ops w0 al n L f (listed.setIfInBounds i true) (a.put oi.dst (.pointer (some ⟨g, 0, none⟩))) (C.more w0 g ob)) →
      wpHeadA P md ops w0 al n L (f + 1) listed a C := by
  intro f
  induction f with
  | zero =>
    intro listed a C inv _ _ hr H
    have hun := (mem_ready.1 hr).1
    refine ⟨List.ne_nil_of_mem hr, fun j hj => ?_⟩
    have hjn : j < n := Nat.lt_of_not_le fun h => tail_waits hs hc hn inv _ i rfl hin hun j h hj
    refine ⟨hjn, ?_⟩
    by_cases hji : j = i
    · subst hji; unfold hOp; simp only [hi, hai]; exact H
    · obtain ⟨g0, hg0⟩ := C.fresh
      have := hdone _ _ _ (H g0 hg0) j (ready_mono hj hji)
      omega
  | succ f ih =>
    intro listed a C inv hrest hfree hr H
    have hun := (mem_ready.1 hr).1
    refine ⟨List.ne_nil_of_mem hr, fun j hj => ?_⟩
    have hjn : j < n := Nat.lt_of_not_le fun h => tail_waits hs hc hn inv _ i rfl hin hun j h hj
    refine ⟨hjn, ?_⟩
    by_cases hji : j = i
    · subst hji; unfold hOp; simp only [hi, hai]; exact H
    · obtain ⟨hjun, oj, hoj, hall⟩ := mem_ready.1 hj
      have hnot : ∀ e ∈ oj.after, Region.binds md e = true → e.on ≠ i := fun e he hb heq => by
        have h3 := hall e he hb
        rw [heq, getD_both hun] at h3
        cases h3
      obtain ⟨_, h2, _⟩ := Oper.apart_spec (hfree j oj hoj hji hjun hnot)
      obtain ⟨ob', haj⟩ := Option.isSome_iff_exists.1 (hrest j hjn hjun)
      unfold hOp
      simp only [hoj, haj]
      intro g' hg'
      refine ih (listed.setIfInBounds j true) _ _ (inv.set hj hjn) (fun k hk hun' => hrest k hk ?_) (fun k ok hk hki hun' hno => hfree k ok hk hki ?_ hno) (ready_mono hr (Ne.symm hji)) fun g hg => ?_
      · by_cases hjk : j = k
        · subst hjk; exact hjun
        · rw [getD_set_ne true hjk] at hun'; exact hun'
      · by_cases hjk : j = k
        · subst hjk; exact hjun
        · rw [getD_set_ne true hjk] at hun'; exact hun'
      · have n1 : ¬ C.taken g := fun h => hg (Or.inr h)
        have n2 : ¬ (C.more w0 g ob).taken g' := fun h => by
          rcases h with h | h
          · exact hg (Or.inl h.symm)
          · exact hg' h
        have h1 := ((H g n1).2 j (ready_mono hj hji)).2
        unfold hOp at h1
        simp only [hoj, haj] at h1
        have h4 := h1 g' n2
        rw [Act.put_comm a _ _ h2, Array.setIfInBounds_comm _ _ (Ne.symm hji), Known.comm] at h4
        exact h4

theorem headA_lexNew {n g : Nat} {Lq : Act → Known → Prop} (hs : Region.sinkB md ops n = true) (hc : Region.chainB md ops n = true) (hn : n < ops.size) :
    ∀ (l : List Oper) (obs : List Obj) (k : Nat) (listed : Array Bool) (a : Act) (C : Known), (∀ j, j < l.length → l[j]? = ops[k + j]?) → (∀ j, j < l.length → al (k + j) = obs[j]?) → obs.length = l.length → k + l.length = n → HeadInv md ops n listed →
    (∀ j, j < k → listed.getD j true = true) →
    Region.lexHead md ops g l.length k listed = true → wpNew w0 Lq ((l.map (·.dst)).zip obs) a C →
    wpHeadA P md ops w0 al n (fun listed' a' C' => Region.seqB md ops g n listed' = true ∧ Lq a' C') l.length listed a C
  | [], obs, k, listed, a, C, _, _, _, hk, _, _, hB, h => by
    have : k = n := by simpa using hk
    subst this
    exact ⟨by simpa [Region.lexHead] using hB, h⟩
  | o :: l, [], k, listed, a, C, _, _, hlen, _, _, _, _, _ => by simp at hlen
  | o :: l, ob :: obs, k, listed, a, C, hl, hobs, hlen, hk, inv, hpast, hB, h => by
    have h0 : ops[k]? = some o := by simpa using (hl 0 (by simp)).symm
    simp only [List.length_cons, Region.lexHead, Bool.and_eq_true] at hB
    obtain ⟨⟨hr, hf⟩, hB'⟩ := hB
    have hkn : k < n := by simp only [List.length_cons] at hk; omega
    have hr' : k ∈ Region.ready md ops listed := by simpa using hr
    have hal0 : al k = some ob := by simpa using hobs 0 (by simp)
    refine headA_new h0 hal0 hs hc hn hkn (fun _ _ _ hL => seqB_ready hL.1) l.length listed a C inv (fun j hj hun => ?_) (Region.free_spec h0 hf) hr' fun p hp => ?_
    · rcases Nat.lt_or_ge j k with hjk | hjk
      · rw [hpast j hjk] at hun; cases hun
      · have e := hobs (j - k) (by simp only [List.length_cons] at hk ⊢; omega)
        rw [show k + (j - k) = j by omega] at e
        rw [e]
        simp only [List.length_cons] at hk hlen
        rw [List.getElem?_eq_getElem (by simp only [List.length_cons]; omega)]
        rfl
    · simp only [List.map_cons, List.zip_cons_cons, wpNew] at h
      refine headA_lexNew hs hc hn l obs (k + 1) _ _ _ (fun j hj => by have := hl (j + 1) (by simp; omega); simpa [Nat.add_assoc, Nat.add_comm 1 j] using this)
        (fun j hj => by have := hobs (j + 1) (by simp; omega); simpa [Nat.add_assoc, Nat.add_comm 1 j] using this) (by simpa using hlen)
        (by simp only [List.length_cons] at hk; omega) (inv.set hr' hkn) (fun j hj => ?_) hB' (h p hp)
      by_cases hjk : k = j
      · subst hjk
        have : k < listed.size := by rw [inv.size]; omega
        simp [Array.getD_eq_getD_getElem?, this]
      · rw [getD_set_ne true hjk]; exact hpast j (by omega)

theorem headA_lex {n g m : Nat} {Lq : Act → Known → Prop} {nw : List (Option Tmp × Obj)} (hsel : Region.noSelect ops = true) (hs : Region.sinkB md ops n = true) (hc : Region.chainB md ops n = true) (hn : n < ops.size) (hmn : m ≤ n) {C : Known}
    (hnew : ∀ (listed : Array Bool) (a : Act), HeadInv md ops n listed → (∀ j, j < m → listed.getD j true = true) → Region.lexHead md ops g (n - m) m listed = true → wpNew w0 Lq nw a C →
      wpHeadA P md ops w0 al n (fun listed' a' C' => Region.seqB md ops g n listed' = true ∧ Lq a' C') (n - m) listed a C) :
    ∀ (l : List Oper) (k : Nat) (listed : Array Bool) (a : Act), (∀ j, j < l.length → l[j]? = ops[k + j]?) → (∀ j, j < l.length → al (k + j) = none) → k + l.length = m → HeadInv md ops n listed →
    (∀ j, j < k → listed.getD j true = true) →
    Region.lexHead md ops g (l.length + (n - m)) k listed = true → wpU P ops w0 (fun a' => wpNew w0 Lq nw a' C) l a →
    wpHeadA P md ops w0 al n (fun listed' a' C' => Region.seqB md ops g n listed' = true ∧ Lq a' C') (l.length + (n - m)) listed a C
  | [], k, listed, a, _, _, hk, inv, hpast, hB, h => by
    have : k = m := by simpa using hk
    subst this
    simp only [List.length_nil, Nat.zero_add] at hB ⊢
    exact hnew listed a inv hpast hB h
  | o :: l, k, listed, a, hl, hal', hk, inv, hpast, hB, h => by
    have h0 : ops[k]? = some o := by simpa using (hl 0 (by simp)).symm
    have e1 : (o :: l).length + (n - m) = (l.length + (n - m)) + 1 := by simp only [List.length_cons]; omega
    rw [e1] at hB ⊢
    simp only [Region.lexHead, Bool.and_eq_true] at hB
    obtain ⟨⟨hr, hf⟩, hB'⟩ := hB
    have hkn : k < n := by simp only [List.length_cons] at hk; omega
    have hr' : k ∈ Region.ready md ops listed := by simpa using hr
    have hal0 : al k = none := by simpa using hal' 0 (by simp)
    have hy : ∃ v, YU P ops w0 o v a ∧ wpU P ops w0 (fun a' => wpNew w0 Lq nw a' C) l (a.put o.dst v) := by
      unfold wpU at h
      by_cases hw : Region.wanted o (yielded ops a.tmps) = true
      · simp only [hw, if_true] at h
        obtain ⟨v, h1, h2⟩ := h
        exact ⟨v, .inl ⟨hw, h1⟩, h2⟩
      · simp only [hw] at h
        exact ⟨undef, .inr ⟨by simpa using hw, rfl⟩, h⟩
    obtain ⟨v, hv, hK⟩ := hy
    refine headA_first h0 hal0 (Region.noSelect_spec hsel) hs hc hn hkn (fun _ _ _ hL => seqB_ready hL.1) _ listed a C inv (Region.free_spec h0 hf) hr' hv
      (headA_lex hsel hs hc hn hmn hnew l (k + 1) _ _ (fun j hj => by have := hl (j + 1) (by simp; omega); simpa [Nat.add_assoc, Nat.add_comm 1 j] using this)
        (fun j hj => by have := hal' (j + 1) (by simp; omega); simpa [Nat.add_assoc, Nat.add_comm 1 j] using this)
        (by simp only [List.length_cons] at hk; omega) (inv.set hr' hkn) (fun j hj => ?_) hB' hK)
    by_cases hjk : k = j
    · subst hjk
      have : k < listed.size := by rw [inv.size]; omega
      simp [Array.getD_eq_getD_getElem?, this]
    · rw [getD_set_ne true hjk]; exact hpast j (by omega)
end

/-- A region that draws its order: m quiet operations, new variables, a forced tail from n on. -/
theorem wp_region_new {P : Program} {id : Nat} {Q : Exit → Act → World → Prop} {a : Act} {w : World} {l : List Oper} (m n : Nat) (obs : List Obj) (hm : P.follows .mixedOrders = true) (hB : Region.lexTailB .any l.toArray n = true)
    (hmn : m + obs.length = n) (hal : News P l.toArray (fun i => if i < m then none else obs[i - m]?))
    (h : wpU P l.toArray w (fun a' => wpNew w (fun a'' C => ∀ x : Aft w, C.of x.val → wpList P l.toArray Q (l.drop n) a'' x.val) ((((l.drop m).take (n - m)).map (·.dst)).zip obs) a' Known.none) (l.take m) a) :
    (Code.region id l.toArray true).wp P Q a w := by
  simp only [Region.lexTailB, Bool.and_eq_true, decide_eq_true_eq] at hB
  obtain ⟨⟨⟨⟨hsel, hn⟩, hs⟩, hc⟩, hlex⟩ := hB
  have hn' : n < l.length := by simpa using hn
  have htl : (l.take m).length = m := by simp; omega
  have hml : ((l.drop m).take (n - m)).length = n - m := by simp; omega
  have hdl : (l.drop n).length = l.toArray.size - n := by simp
  have inv0 : HeadInv .any l.toArray n (Array.replicate l.toArray.size false) :=
    ⟨by simp, fun j oj _ hl => (by rw [getD_replicate_false] at hl; cases hl), fun t _ ht => getD_in (by simpa using ht) (getD_replicate_false _ _)⟩
  have H := headA_lex (P := P) (md := .any) (w0 := w) (m := m) (al := fun i => if i < m then none else obs[i - m]?) (g := l.toArray.size - n) (C := Known.none) hsel hs hc hn (by omega)
    (fun listed a' inv hpast hB' hN => by
      have := headA_lexNew (P := P) (md := .any) (g := l.toArray.size - n) (al := fun i => if i < m then none else obs[i - m]?) hs hc hn ((l.drop m).take (n - m)) obs m listed a' Known.none
        (fun j hj => by rw [hml] at hj; simp [hj]) (fun j hj => by rw [if_neg (by omega), show m + j - m = j by omega]) (by rw [hml]; omega) (by rw [hml]; omega) inv hpast (by rw [hml]; exact hB') hN
      rwa [hml] at this)
    (l.take m) 0 (Array.replicate l.toArray.size false) a (fun j hj => by
      have hj' : j < m := by rw [htl] at hj; exact hj
      simp [hj']) (fun j hj => by rw [htl] at hj; simp [hj]) (by simpa using htl) inv0 (fun j hj => by omega)
    (by rw [htl, show m + (n - m) = n by omega]; exact hlex) h
  refine wp_region_any hm ?_
  have := wpAny_of_headA (w0 := w) hal (Q' := Q) (g := l.toArray.size - n) (fun listed a' C w' hw' hC hL => by
    obtain ⟨x, rfl⟩ := hw'
    have := wpAny_of_seq (md := .any) (Q' := Q) (l.drop n) n listed a' x.val (fun j => by simp [List.getElem?_drop]) (by rw [hdl]; exact hL.1) (hL.2 x hC.1)
    rwa [hdl] at this) _ _ _ _ { w with drawn := w.drawn + 1 } ⟨⟨_, (Below.refl _ _).drew⟩, rfl⟩ (fun _ _ _ => ⟨trivial, fun _ h => False.elim h⟩) ⟨trivial, fun _ h => False.elim h⟩ H
  rw [htl, show m + (n - m) + (l.toArray.size - n) = l.toArray.size by omega] at this
  exact this
end Go.Proofs.YtkdonapgonegkaaDoor
