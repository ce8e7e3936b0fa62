/-
  Contracts of chapter 2 (graph): the error of named nodes; the law of a range over the trials.
-/
import Derived.Test.YtkdonapgonegkaaDoorGK
set_option linter.unusedSimpArgs false
set_option linter.unusedVariables false
namespace Go.Proofs.YtkdonapgonegkaaDoor
open Go.RowKit Go.BigFrame
attribute [local go_sem] Oper.semAt_some

def fromE (ls : List Int) (ns : List Nd) (fr : List Int) : Int := thenE (chk ls ns).2 (argsE fr ns.length 6)
theorem fromE_first (ls : List Int) (ns : List Nd) (fr : List Int) : firstE [(chk ls ns).2, argsE fr ns.length 6] = fromE ls ns fr := by
  rw [firstE_cons, firstE_one]; rfl
theorem fromE_ok {ls : List Int} {ns : List Nd} {fr : List Int} (h : fromE ls ns fr = 0) : (chk ls ns).2 = 0 ∧ ∀ x ∈ fr, isIx x ns.length = true := by
  unfold fromE thenE at h
  by_cases h0 : (chk ls ns).2 = 0
  · rw [if_pos h0] at h
    refine ⟨h0, fun x hx => ?_⟩
    unfold argsE at h
    by_cases ha : (fr.all fun i => isIx i ns.length) = true
    · exact List.all_eq_true.1 ha x hx
    · rw [if_neg ha] at h; exact absurd h (by decide)
  · rw [if_neg h0] at h; exact absurd h h0

set_option maxRecDepth 100000 in
set_option maxHeartbeats 1600000 in
theorem errorOfFrom_c (A : Option Addr) (cap : Nat) (ls : List Int) (hls : ls.length ≤ 65536) (N : Option Addr) (capN : Nat) (ns : List Nd) (hns : ns.length ≤ 65536) (hcap : ns.length ≤ capN) (hla : ∀ n ∈ ns, n.args.length ≤ 65536) (F : Option Addr) (cf : Nat) (fr : List Int) (hfr : fr.length ≤ 65536) (w : World) (hA : LiesI w A ls) (hN : LiesN w N ns) (hF : LiesI w F fr) (ht : TabOps w) :
    Calls Tryd.prog 57 #[.slice A ls.length cap, .slice N ns.length capN, .slice F fr.length cf] w fun e w' => e = .returned (.int .i64 (fromE ls ns fr)) ∧ ∃ x : Aft w, w' = x.val := by
  have HC := Lib.hid (errorOfGraph_c A cap ls hls N capN ns hns hcap hla w hA hN ht)
  have HE := Lib.hid (fun (x : Aft w) => errorOfIndexes_c ns.length 6 (by decide) F cf fr hfr x.val (hF.aft x))
  have HR := Lib.hid (fromE_first ls ns fr)
  clear hA hN hF ht hla hcap
  generalize (chk ls ns).2 = e1 at *
  generalize argsE fr ns.length 6 = e2 at *
  go_enter Tryd.func57, Tryd.ntmps57
  go_wp2_with fail
  refine HC.out.mono ?_
  rintro e w' ⟨rfl, y, rfl⟩
  go_wp2_with fail
  refine (HE.out y).mono ?_
  rintro e w' ⟨rfl, z, rfl⟩
  go_wp2_with fail
  refine (firstError2 z.val.heap.size e1 e2 26 (0, 0) _ (heap_alloc_new _ _)).mono ?_
  rintro e w' ⟨rfl, rfl⟩
  rw [HR.out]
  have hb := z.below y.pf y.pf.size
  go_wp2
  go_ret
  exact ⟨rfl, Below.aft (hb.alloc hb.size _)⟩

section
variable {P : Program}
/-- A range over a function, in no fence: what its one call owes. -/
theorem range_wide {n : Nat} {g : Operand} {ps : Array Tmp} {assign body : Code} {Q : Exit → Act → World → Prop} {a : Act} {w : World} {gf : Nat} {lb : Array Value}
    (hg : a.eval g = .func (.func gf) #[] lb) (eg : ∀ args w, (callFunc gf args).run P w = .ok (.enter gf args) w)
    (h : ∀ (fn : FuncId) (r : Loop) (W : World), r = { state := .ready, pending := none, fn, tmps := a.tmps, params := ps, assign, body, defers := w.heap.size } → W.heap[w.heap.size + 1]? = some (.loop r) → W.heap[w.heap.size]? = some (.deferred (some [])) → Below w.heap.size w W →
      CallsIn Fence.wide (n - 1) P gf (#[.func (.yield (w.heap.size + 1)) #[] #[]] ++ lb) W (rangePost Fence.wide n P (w.heap.size + 1) Q { a with defers := { target := .collected w.heap.size, args := #[] } :: a.defers })) :
    (Code.rangeFunc g ps assign body).wpIn Fence.wide n P Q a w := by
  refine wpIn_rangeFunc fun fn _ => ?_
  obtain ⟨r, hr⟩ : ∃ r : Loop, r = { state := .ready, pending := none, fn, tmps := a.tmps, params := ps, assign, body, defers := w.heap.size } := ⟨_, rfl⟩
  obtain ⟨W1, hW1⟩ : ∃ W1, (w.alloc (.deferred (some []))).alloc (.loop r) = W1 := ⟨_, rfl⟩
  have he := run_enterLoop_outer (P := P) (w := w) fn a.tmps ps assign body
  rw [← hr, hW1] at he
  have hc := h fn r W1 hr (by rw [← hW1]; exact heap_alloc_at (by simp)) (by rw [← hW1]; exact heap_alloc' (by simp) (heap_alloc_new _ _)) (by rw [← hW1]; exact ((Below.refl _ _).alloc (Nat.le_refl _) _).alloc (by simp) _)
  refine ⟨w.heap.size + 1, [{ target := .collected w.heap.size, args := #[] }], W1, { target := .fn (.func gf) lb, args := #[.func (.yield (w.heap.size + 1)) #[] #[]] }, W1, gf, #[.func (.yield (w.heap.size + 1)) #[] #[]] ++ lb, W1, ?_, ?_, ?_, ?_, ?_, ?_⟩
  · exact he
  · simp only [resolve, hg]
    simp [go_sem]
  · intro f' _; trivial
  · simp [invoke, go_sem, eg]
  · intro hd; cases hd
  · exact hc
/-- The loop's record in a round. -/
def busyL (r : Loop) : Loop := { r with state := .busy }
/-- One round of such a loop, out of its body's walk. -/
theorem yield_wide {m l : Nat} {r : Loop} {args : Array Value} {W : World} {R : Ending → World → Prop} (hl : W.heap[l]? = some (.loop r)) (hs : args.size = r.params.size) (hr : r.state = .ready)
    (h : r.assign.wpIn (Fence.wide.inRound l) m P (Exit.then (fun a₁ w₁ => W = w₁ ∧ ∀ (rb : Loop) (Wb : World), Hid (rb = busyL r) → Hid (Wb = W.putObj l (.loop rb)) → r.body.wpIn (Fence.wide.inRound l) m P (roundPost P l R) a₁ Wb) (fun _ _ _ => False))
      { tmps := (r.params.zip args).foldl (fun tmps (t, a) => tmps.setIfInBounds t a) r.tmps, defers := [] } W) : YieldAt Fence.wide m P l args W R := by
  refine ⟨r.fn, _, r.assign, r.body, run_yield hl hs, roundIn_of_wpIn trivial (wpIn_mono h ?_)⟩
  intro e a w' hq
  cases e with
  | normal =>
    obtain ⟨rfl, hb⟩ := hq
    exact ⟨_, run_beginRound hl hr, hb _ _ (Lib.hid rfl) (Lib.hid rfl)⟩
  | _ => exact hq
end
theorem heap_put_ne {W : World} {l m : Nat} {o ob : Obj} (h : W.heap[m]? = some ob) (hne : ¬ m = l) : (W.putObj l o).heap[m]? = some ob := (World.putObj_heap_other (by omega)).trans h
theorem cell_put_ne {W : World} {l : Nat} {o : Obj} {p : Addr} {v : Value} (h : W.cell? p = some v) (hl : ¬ p.block = l) : (W.putObj l o).cell? p = some v := by
  unfold World.cell? at h ⊢
  rw [World.putObj_heap_other (by omega)]; exact h
theorem LiesI.put {W : World} {l : Nat} {o : Obj} {r : Loop} {A : Option Addr} {xs : List Int} (h : LiesI W A xs) (hl : W.heap[l]? = some (.loop r)) : LiesI (W.putObj l o) A xs := fun hp => by
  obtain ⟨ad, rfl, hb, hc⟩ := h hp
  refine ⟨ad, rfl, by simpa [World.putObj] using hb, fun i x hi => cell_put_ne (hc i x hi) ?_⟩
  intro e
  have h0 := hc i x hi
  unfold World.cell? at h0
  rw [e, hl] at h0
  cases h0

end Go.Proofs.YtkdonapgonegkaaDoor
