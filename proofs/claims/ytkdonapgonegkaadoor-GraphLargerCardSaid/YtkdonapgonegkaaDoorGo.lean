/-
  Plain lemmas of the verifier's own: an argument that is a slice of nodes, each of three numbers and a slice of numbers. No Go text.
-/
import Derived.Test.YtkdonapgonegkaaDoorPost
import Derived.Test.YtkdonapgonegkaaDoorGn
import Derived.Carry
import Derived.OpenShut
import Derived.Deep.Slices
import Derived.Lib.SmallJoins
set_option linter.unusedSimpArgs false
set_option linter.unusedVariables false
namespace Go.Proofs.YtkdonapgonegkaaDoor
open Go.RowKit Go.ChangeShapes Go.WideShapes Go.ChangeAt Go.Joins Go.Deep

section
variable {H : Type} {enc : TypeId × Value → H} {P : Program} {w : World} {base : Nat} {spare : Nat → Bool} {held : Bool}

theorem lt_of_cell {w : World} {a : Addr} {v : Value} (h : w.cell? a = some v) : a.block < w.heap.size := by
  rcases Nat.lt_or_ge a.block w.heap.size with h1 | h1
  · exact h1
  · unfold World.cell? at h
    rw [Array.getElem?_eq_none h1] at h
    simp at h

theorem open_list1 {t e : TypeId} {v : Value} {d : DataW H} {p : List MemPlace} (hv : ∃ A len cap, v = .slice A len cap) (ht : P.underlying t = some (.slice e)) (he : P.underlying e = some (.int .i64)) (hce : P.cellsOf e = 1)
    (h : DataW.Trod enc P w base spare held t v d p) :
    ∃ (A : Option Addr) (cap : Nat) (ns : List Int), v = .slice A ns.length cap ∧ LiesI w A ns ∧ (ns.length = 0 → A = none ∧ cap = 0 ∨ ∃ ad, A = some ad) ∧ ns.length ≤ cap ∧ ∀ x ∈ ns, (Lit.int .i64 x).wf = true := by
  obtain ⟨A', len', cap', rfl⟩ := hv
  obtain ⟨fuel, hf⟩ := h
  rcases open_slice ht hf with ⟨hc, _⟩ | ⟨a, len, cap, m, n, D, Pl, hc, _, hl, _, hm, _, hi⟩
  · have e1 : Value.slice A' len' cap' = .slice none 0 0 := by simpa [Value.cells] using hc
    exact ⟨none, 0, [], e1, fun hp => by simp at hp, fun _ => .inl ⟨rfl, rfl⟩, Nat.le_refl _, fun x hx => by cases hx⟩
  · have e1 : Value.slice A' len' cap' = .slice (some a) len cap := by simpa [Value.cells] using hc
    have hlm : len ≤ m := by rw [hm]; split <;> omega
    have hx : ∀ i, i < len → ∃ q : Int, w.cell? (a.add i) = some (.int .i64 q) ∧ (Lit.int .i64 q).wf = true := by
      intro i hil
      obtain ⟨cs', hcs, htr⟩ := hi i (by omega)
      rw [hce, Nat.mul_one] at hcs
      obtain ⟨_, hlen, hat⟩ := World.cells?_some hcs
      match cs', hlen with
      | [u0], _ =>
        obtain ⟨q0, e0, _, w0⟩ := DataW.trod_int he htr
        simp at e0
        subst e0
        refine ⟨q0, ?_, w0⟩
        have := hat 0 (by omega)
        simpa [Addr.add_zero'] using this
    obtain ⟨V, hV⟩ := choose_lt (α := Int) (p := fun i q => w.cell? (a.add i) = some (.int .i64 q) ∧ (Lit.int .i64 q).wf = true) hx
    have hmem : ∀ i q, ((List.range len).map V)[i]? = some q → i < len ∧ q = V i := by
      intro i q hq
      rw [List.getElem?_map] at hq
      have hil : i < len := by
        rcases Nat.lt_or_ge i len with h | h
        · exact h
        · rw [List.getElem?_eq_none (by simpa using h)] at hq; cases hq
      rw [List.getElem?_range hil] at hq
      injection hq with hq
      exact ⟨hil, hq.symm⟩
    refine ⟨some a, cap, (List.range len).map V, by rw [e1]; simp, fun hp => ⟨a, rfl, ?_, fun i q hq => ?_⟩, fun _ => .inr ⟨a, rfl⟩, by simpa using hl, fun q hq => ?_⟩
    · have hpos : 0 < len := by simpa using hp
      have := lt_of_cell (hV 0 hpos).1
      rwa [addB] at this
    · obtain ⟨hil, rfl⟩ := hmem i q hq
      exact (hV i hil).1
    · obtain ⟨i, hi'⟩ := List.mem_iff_getElem?.1 hq
      obtain ⟨hil, rfl⟩ := hmem i q hi'
      exact (hV i hil).2


/-- A node in memory, with what a caller's slice says of its own arguments. -/
def NodeAt (w : World) (a : Addr) (n : Nd) : Prop := w.cell? a = some (.int .i64 n.op) ∧ w.cell? (a.add 1) = some (.int .i64 n.wd) ∧ w.cell? (a.add 3) = some (.int .i64 n.v) ∧
  ∃ B cap, w.cell? (a.add 2) = some (.slice B n.args.length cap) ∧ LiesI w B n.args ∧ (n.args.length = 0 → B = none ∧ cap = 0 ∨ ∃ ad, B = some ad) ∧ n.args.length ≤ cap
def LiesG (w : World) (A : Option Addr) (ns : List Nd) : Prop := 0 < ns.length → ∃ ad, A = some ad ∧ ad.block < w.heap.size ∧ ∀ i n, ns[i]? = some n → NodeAt w (ad.add (i * 4)) n
theorem LiesG.n {A : Option Addr} {ns : List Nd} (h : LiesG w A ns) : LiesN w A ns := fun hp => by
  obtain ⟨ad, e, hb, hc⟩ := h hp
  refine ⟨ad, e, hb, fun i n hi => ?_⟩
  obtain ⟨c0, c1, c3, B, cap, c2, hl, _⟩ := hc i n hi
  exact ⟨c0, c1, c3, B, cap, c2, hl⟩
instance : Inhabited Nd := ⟨⟨0, 0, [], 0⟩⟩
theorem open_nodes {t e : TypeId} {f0 f1 f2 f3 : Field} {ie : TypeId} {v : Value} {d : DataW H} {p : List MemPlace} (hv : ∃ A len cap, v = .slice A len cap) (ht : P.underlying t = some (.slice e)) (he : P.underlying e = some (.struct #[f0, f1, f2, f3])) (hce : P.cellsOf e = 4)
    (h0 : P.underlying f0.type = some (.int .i64)) (h1 : P.underlying f1.type = some (.int .i64)) (h2 : P.underlying f2.type = some (.slice ie)) (h3 : P.underlying f3.type = some (.int .i64)) (hie : P.underlying ie = some (.int .i64)) (hci : P.cellsOf ie = 1)
    (c0 : P.cellsOf f0.type = 1) (c1 : P.cellsOf f1.type = 1) (c2 : P.cellsOf f2.type = 1) (c3 : P.cellsOf f3.type = 1) (o0 : f0.offset = 0) (o1 : f1.offset = 1) (o2 : f2.offset = 2) (o3 : f3.offset = 3)
    (h : DataW.Trod enc P w base spare held t v d p) :
    ∃ (A : Option Addr) (cap : Nat) (ns : List Nd), v = .slice A ns.length cap ∧ LiesG w A ns ∧ (ns.length = 0 → A = none ∧ cap = 0 ∨ ∃ ad, A = some ad) ∧ ns.length ≤ cap := by
  obtain ⟨A', len', cap', rfl⟩ := hv
  obtain ⟨fuel, hf⟩ := h
  rcases open_slice ht hf with ⟨hc, _⟩ | ⟨a, len, cap, m, n, D, Pl, hc, _, hl, _, hm, _, hi⟩
  · have e1 : Value.slice A' len' cap' = .slice none 0 0 := by simpa [Value.cells] using hc
    exact ⟨none, 0, [], e1, fun hp => by simp at hp, fun _ => .inl ⟨rfl, rfl⟩, Nat.le_refl _⟩
  · have e1 : Value.slice A' len' cap' = .slice (some a) len cap := by simpa [Value.cells] using hc
    have hlm : len ≤ m := by rw [hm]; split <;> omega
    have hx : ∀ i, i < len → ∃ q : Nd, NodeAt w (a.add (i * 4)) q := by
      intro i hil
      obtain ⟨cs', hcs, htr⟩ := hi i (by omega)
      rw [hce] at hcs
      obtain ⟨_, hlen, hat⟩ := World.cells?_some hcs
      obtain ⟨y0, y1, y2, y3, n', _, _, t0, t1, t2, t3⟩ := trod_struct4 he htr
      rw [c0, o0] at t0
      rw [c1, o1] at t1
      rw [c2, o2] at t2
      rw [c3, o3] at t3
      match cs', hlen with
      | [u0, u1, u2, u3], _ =>
        obtain ⟨q0, e0, _⟩ := DataW.trod_int h0 t0
        obtain ⟨q1, e1, _⟩ := DataW.trod_int h1 t1
        obtain ⟨q3, e3, _⟩ := DataW.trod_int h3 t3
        simp at e0 e1 e3
        subst e0 e1 e3
        have hs : ∃ A len cap, u2 = .slice A len cap := by
          rcases open_slice h2 t2 with ⟨hc2, _⟩ | ⟨a2, len2, cap2, _, _, _, _, hc2, _⟩
          · exact ⟨none, 0, 0, by simpa using hc2⟩
          · exact ⟨some a2, len2, cap2, by simpa using hc2⟩
        obtain ⟨A2, len2, cap2, rfl⟩ := hs
        obtain ⟨B, bc, xs, eB, hB, hB0, hBc, _⟩ := open_list1 (enc := enc) (P := P) (w := w) (base := base) (spare := spare) (held := held) (t := f2.type) (e := ie) (v := .slice A2 len2 cap2) (d := y2.1) (p := y2.2) ⟨A2, len2, cap2, rfl⟩ h2 hie hci ⟨n', t2⟩
        refine ⟨⟨q0, q1, xs, q3⟩, ?_, ?_, ?_, B, bc, ?_, hB, hB0, hBc⟩
        · have := hat 0 (by omega)
          simpa [Addr.add_zero'] using this
        · have := hat 1 (by omega)
          simpa using this
        · have := hat 3 (by omega)
          simpa using this
        · have := hat 2 (by omega)
          rw [← eB]
          simpa using this
    obtain ⟨V, hV⟩ := choose_lt (α := Nd) (p := fun i q => NodeAt w (a.add (i * 4)) q) hx
    refine ⟨some a, cap, (List.range len).map V, by rw [e1]; simp, fun hp => ⟨a, rfl, ?_, fun i q hq => ?_⟩, fun _ => .inr ⟨a, rfl⟩, by simpa using hl⟩
    · have hpos : 0 < len := by simpa using hp
      have := lt_of_cell (hV 0 hpos).1
      rwa [addB] at this
    · rw [List.getElem?_map] at hq
      have hil : i < len := by
        rcases Nat.lt_or_ge i len with h | h
        · exact h
        · rw [List.getElem?_eq_none (by simpa using h)] at hq; cases hq
      rw [List.getElem?_range hil] at hq
      injection hq with hq
      subst hq
      exact hV i hil
end
end Go.Proofs.YtkdonapgonegkaaDoor
