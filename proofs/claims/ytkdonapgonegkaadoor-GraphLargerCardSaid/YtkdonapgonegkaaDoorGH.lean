/-
  Chapter 2 (graph): a row of nodes of the call's own that grows; the cone of some nodes.
-/
import Derived.Test.YtkdonapgonegkaaDoorGG
set_option linter.unusedSimpArgs false
set_option linter.unusedVariables false
namespace Go.Proofs.YtkdonapgonegkaaDoor
open Go.RowKit Go.BigFrame

theorem four_new {w : World} {a b c d : Value} {T : TypeId} : ∀ j u, [a, b, c, d][j]? = some u → (w.alloc (.cells #[a, b, c, d] T)).cell? ((⟨w.heap.size, 0, none⟩ : Addr).add j) = some u := by
  intro j u hj
  match j, hj with
  | 0, hj => simp at hj; subst hj; simp [Addr.add]
  | 1, hj => simp at hj; subst hj; simp [Addr.add]
  | 2, hj => simp at hj; subst hj; simp [Addr.add]
  | 3, hj => simp at hj; subst hj; simp [Addr.add]
  | (j + 4), hj => simp at hj
/-- A row of nodes of the call's own: what its arguments lead to lies beyond g, in rows of numbers. -/
def NodesRow (w : World) (base g : Nat) (v : Value) (ns : List Nd) (xs : List Value) : Prop :=
  w.ownsRow base 65 4 v ns.length xs ∧ ∀ i n, ns[i]? = some n → xs[i * 4]? = some (.int .i64 n.op) ∧ xs[i * 4 + 1]? = some (.int .i64 n.wd) ∧ xs[i * 4 + 3]? = some (.int .i64 n.v) ∧
    ∃ B cap, xs[i * 4 + 2]? = some (.slice B n.args.length cap) ∧ LiesI w B n.args ∧ ∀ ad, B = some ad → g < ad.block ∧ ad.block < w.heap.size ∧ ∀ cur fz, w.heap[ad.block]? ≠ some (.cells cur 65 fz)
theorem NodesRow.nil (w : World) (base g : Nat) : NodesRow w base g (.slice none 0 0) [] [] := ⟨World.ownsRow_nil _ _ _ _, fun i n h => by simp at h⟩
theorem NodesRow.below {w W : World} {base g : Nat} {v : Value} {ns : List Nd} {xs : List Value} (h : NodesRow w base g v ns xs) (hb : Below w.heap.size w W) : NodesRow W base g v ns xs :=
  ⟨own_below h.1 hb, fun i n hi => by
    obtain ⟨a, b, c, B, cap, d, hl, hB⟩ := h.2 i n hi
    refine ⟨a, b, c, B, cap, d, hl.below hb, fun ad he => ?_⟩
    obtain ⟨h1, h2, h3⟩ := hB ad he
    exact ⟨h1, Nat.lt_of_lt_of_le h2 hb.size, by rw [hb.block _ h2]; exact h3⟩⟩
theorem own_setCell {w : World} {base m j : Nat} {e : TypeId} {k n : Nat} {v u : Value} {xs : List Value} (h : w.ownsRow base e k v n xs) (hm : m < base) : (w.setCell ⟨m, j, none⟩ u).ownsRow base e k v n xs := by
  refine ⟨h.1, h.2.imp id ?_⟩
  rintro ⟨g, cap, cur, h1, h2, h3, h4⟩
  exact ⟨g, cap, cur, h1, h2, (heap_setCell_ne (by omega)).trans h3, h4⟩
theorem NodesRow.setCell {w : World} {base g m j : Nat} {v u : Value} {ns : List Nd} {xs : List Value} (h : NodesRow w base g v ns xs) (hm : m < base) (hg : m ≤ g) : NodesRow (w.setCell ⟨m, j, none⟩ u) base g v ns xs :=
  ⟨own_setCell h.1 hm, fun i n hi => by
    obtain ⟨a, b, c, B, cap, d, hl, hB⟩ := h.2 i n hi
    refine ⟨a, b, c, B, cap, d, hl.set (fun ad he => Nat.lt_of_le_of_lt hg (hB ad he).1), fun ad he => ?_⟩
    obtain ⟨h1, h2, h3⟩ := hB ad he
    exact ⟨h1, by simpa using h2, by rw [heap_setCell_ne (by omega)]; exact h3⟩⟩
theorem NodesRow.snoc {w W w3 : World} {base g : Nat} {v v' : Value} {ns : List Nd} {xs : List Value} {n : Nd} {B : Option Addr} {cap : Nat} (h : NodesRow w base g v ns xs) (hW : Below w.heap.size w W)
    (ho : w3.ownsRow base 65 4 v' (ns.length + 1) (xs ++ [.int .i64 n.op, .int .i64 n.wd, .slice B n.args.length cap, .int .i64 n.v])) (hg : W.grownBy w3 v.ownBlock)
    (hl : LiesI w B n.args) (hB : ∀ ad, B = some ad → g < ad.block ∧ ad.block < w.heap.size ∧ ∀ cur fz, w.heap[ad.block]? ≠ some (.cells cur 65 fz)) :
    NodesRow w3 base g v' (ns ++ [n]) (xs ++ [.int .i64 n.op, .int .i64 n.wd, .slice B n.args.length cap, .int .i64 n.v]) := by
  have hx : xs.length = ns.length * 4 := h.1.1
  have keep : ∀ m, m < w.heap.size → (∀ cur fz, w.heap[m]? ≠ some (.cells cur 65 fz)) → w3.heap[m]? = w.heap[m]? := by
    intro m hm hne
    rw [← hW.block m hm]
    refine hg.block m (Nat.lt_of_lt_of_le hm hW.size) (fun e => ?_)
    rcases h.1.2 with ⟨rfl, _⟩ | ⟨q, c1, cur, rfl, _, h3, _⟩
    · cases e
    · have e' : some m = some q := e
      injection e' with e'
      subst e'
      exact hne _ _ h3
  have keepL : ∀ (A : Option Addr) (zs : List Int), LiesI w A zs → (∀ ad, A = some ad → g < ad.block ∧ ad.block < w.heap.size ∧ ∀ cur fz, w.heap[ad.block]? ≠ some (.cells cur 65 fz)) → LiesI w3 A zs ∧ ∀ ad, A = some ad → g < ad.block ∧ ad.block < w3.heap.size ∧ ∀ cur fz, w3.heap[ad.block]? ≠ some (.cells cur 65 fz) := by
    intro A zs hA hf
    refine ⟨fun hp => ?_, fun ad he => ?_⟩
    · obtain ⟨ad, rfl, h1, h2⟩ := hA hp
      obtain ⟨_, h3, h4⟩ := hf ad rfl
      refine ⟨ad, rfl, ?_, fun i x hi => ?_⟩
      · exact Nat.lt_of_lt_of_le h1 (Nat.le_trans hW.size hg.size)
      · have := h2 i x hi
        unfold World.cell? at this ⊢
        rw [keep _ (by rw [addB]; exact h3) (by rw [addB]; exact h4)]
        exact this
    · obtain ⟨h1, h3, h4⟩ := hf ad he
      refine ⟨h1, ?_, by rw [keep _ h3 h4]; exact h4⟩
      exact Nat.lt_of_lt_of_le h3 (Nat.le_trans hW.size hg.size)
  refine ⟨by rw [List.length_append]; exact ho, fun i m hi => ?_⟩
  by_cases hin : i < ns.length
  · rw [List.getElem?_append_left hin] at hi
    obtain ⟨a, b, c, B', cap', d, hl', hB'⟩ := h.2 i m hi
    obtain ⟨k1, k2⟩ := keepL B' _ hl' hB'
    refine ⟨?_, ?_, ?_, B', cap', ?_, k1, k2⟩
    all_goals rw [List.getElem?_append_left (by omega)]; assumption
  · have hin' : i = ns.length := by
      have := (List.getElem?_eq_some_iff.1 hi).1
      rw [List.length_append] at this
      simp at this; omega
    subst hin'
    rw [List.getElem?_append_right (Nat.le_refl _), Nat.sub_self] at hi
    obtain rfl : n = m := by simpa using hi
    obtain ⟨k1, k2⟩ := keepL B _ hl hB
    refine ⟨?_, ?_, ?_, B, cap, ?_, k1, k2⟩
    all_goals
      rw [List.getElem?_append_right (by omega), hx]
      first | (rw [Nat.sub_self]; rfl) | (rw [Nat.add_sub_cancel_left]; rfl)
theorem NodesRow.lies {w : World} {base g : Nat} {v : Value} {ns : List Nd} {xs : List Value} (h : NodesRow w base g v ns xs) : ∃ A' cap', v = .slice A' ns.length cap' ∧ ns.length ≤ cap' ∧ LiesN w A' ns ∧ ∀ ad, A' = some ad → base ≤ ad.block := by
  rcases h.1.2 with ⟨rfl, h0⟩ | ⟨q, cap', cur, rfl, hb, _, hc, _⟩
  · exact ⟨none, 0, by rw [h0], by omega, fun hp => by omega, fun ad h => by cases h⟩
  · refine ⟨_, cap', rfl, hc, fun hp => ⟨_, rfl, (h.1.lt q rfl).2, fun i n hi => ?_⟩, fun ad h => by injection h with h; subst h; exact hb⟩
    obtain ⟨f0, f1, f3, B, bc, f2, hl, _⟩ := h.2 i n hi
    exact ⟨h.1.cells (g := q) rfl _ _ f0, (by rw [add_add]; exact h.1.cells (g := q) rfl _ _ f1), (by rw [add_add]; exact h.1.cells (g := q) rfl _ _ f3), B, bc, (by rw [add_add]; exact h.1.cells (g := q) rfl _ _ f2), hl⟩

end Go.Proofs.YtkdonapgonegkaaDoor
