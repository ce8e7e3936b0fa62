/-
  Plain lemmas of the verifier's own: arguments that are slices of numbers. No Go text.
-/
import Derived.Test.YtlplphigjejahaaPou
import Derived.Test.YtlplphigjejahaaBG
set_option linter.unusedSimpArgs false
set_option linter.unusedVariables false
namespace Go.Proofs.Ytlplphigjejahaa
open Go.RowKit Go.ChangeShapes Go.WideShapes Go.ChangeAt Go.Joins Go.Deep

section
variable {H : Type} {enc : TypeId × Value → H} {P : Program} {w : World} {base : Nat} {spare : Nat → Bool} {held : Bool}
theorem open_list1 {t e : TypeId} {v : Value} {d : DataW H} {p : List MemPlace} (hv : ∃ A len cap, v = .slice A len cap) (ht : P.underlying t = some (.slice e)) (he : P.underlying e = some (.int .i64)) (hce : P.cellsOf e = 1)
    (h : DataW.Trod enc P w base spare held t v d p) :
    ∃ (A : Option Addr) (cap : Nat) (ns : List Int), v = .slice A ns.length cap ∧ LiesI w A ns ∧ (ns.length = 0 → A = none ∧ cap = 0 ∨ ∃ ad, A = some ad) ∧ ns.length ≤ cap ∧ ∀ x ∈ ns, (Lit.int .i64 x).wf = true := by
  obtain ⟨A', len', cap', rfl⟩ := hv
  obtain ⟨fuel, hf⟩ := h
  rcases open_slice ht hf with ⟨hc, _⟩ | ⟨a, len, cap, m, n, D, Pl, hc, _, hl, _, hm, _, hi⟩
  · have e1 : Value.slice A' len' cap' = .slice none 0 0 := by simpa [Value.cells] using hc
    exact ⟨none, 0, [], e1, fun hp => by simp at hp, fun _ => .inl ⟨rfl, rfl⟩, Nat.le_refl _, fun x hx => by cases hx⟩
  · have e1 : Value.slice A' len' cap' = .slice (some a) len cap := by simpa [Value.cells] using hc
    have hlm : len ≤ m := by rw [hm]; split <;> omega
    have hx : ∀ i, i < len → ∃ q : Int, w.cell? (a.add i) = some (.int .i64 q) ∧ (Lit.int .i64 q).wf = true := by
      intro i hil
      obtain ⟨cs', hcs, htr⟩ := hi i (by omega)
      rw [hce, Nat.mul_one] at hcs
      obtain ⟨_, hlen, hat⟩ := World.cells?_some hcs
      match cs', hlen with
      | [u0], _ =>
        obtain ⟨q0, e0, _, w0⟩ := DataW.trod_int he htr
        simp at e0
        subst e0
        refine ⟨q0, ?_, w0⟩
        have := hat 0 (by omega)
        simpa [Addr.add_zero'] using this
    obtain ⟨V, hV⟩ := choose_lt (α := Int) (p := fun i q => w.cell? (a.add i) = some (.int .i64 q) ∧ (Lit.int .i64 q).wf = true) hx
    have hmem : ∀ i q, ((List.range len).map V)[i]? = some q → i < len ∧ q = V i := by
      intro i q hq
      rw [List.getElem?_map] at hq
      have hil : i < len := by
        rcases Nat.lt_or_ge i len with h | h
        · exact h
        · rw [List.getElem?_eq_none (by simpa using h)] at hq; cases hq
      rw [List.getElem?_range hil] at hq
      injection hq with hq
      exact ⟨hil, hq.symm⟩
    refine ⟨some a, cap, (List.range len).map V, by rw [e1]; simp, fun hp => ⟨a, rfl, ?_, fun i q hq => ?_⟩, fun _ => .inr ⟨a, rfl⟩, by simpa using hl, fun q hq => ?_⟩
    · have hpos : 0 < len := by simpa using hp
      have := lt_of_cell (hV 0 hpos).1
      rwa [addB] at this
    · obtain ⟨hil, rfl⟩ := hmem i q hq
      exact (hV i hil).1
    · obtain ⟨i, hi'⟩ := List.mem_iff_getElem?.1 hq
      obtain ⟨hil, rfl⟩ := hmem i q hi'
      exact (hV i hil).2
end
end Go.Proofs.Ytlplphigjejahaa
