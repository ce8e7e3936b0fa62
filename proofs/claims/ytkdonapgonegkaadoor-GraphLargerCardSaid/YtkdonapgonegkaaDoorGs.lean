/-
  The table of the operations of chapter 2 (graph), as the cards lay it: what its cells hold. No walk.
-/
import Derived.Test.YtkdonapgonegkaaDoorGq
import Derived.Test.YtkdonapgonegkaaDoorRows
import Derived.Lib.LaidIn
import Derived.Lib.LaidTab
import Derived.Stop.LaidErr
import Derived.Deep.Strs
import Derived.FnData
set_option linter.unusedSimpArgs false
set_option linter.unusedVariables false
namespace Go.Proofs.YtkdonapgonegkaaDoor
open Go Go.ChangeShapes Go.WideShapes Go.ChangeAt Go.RowKit Go.Joins Go.Deep

theorem lit_z {a b : Int} (h : (DataW.lit (.int .i64 a) : DataW Unit) = .lit (.int .i64 b)) : a = b := by
  injection h with h; injection h with _ h
theorem agg_1 {a b c a' b' c' : DataW Unit} (h : (some (DataW.agg [a, b, c])) = some (.agg [a', b', c'])) : b = b' := by
  have := Option.some.inj h
  injection this with h
  injection h with _ h
  injection h
theorem agg_3 {s s' : List UInt8} {z z' : Int} {b b' : Bool} (h : (some (DataW.agg [.lit (.string s), .lit (.int .i64 z), .lit (.bool b)] : DataW Unit)) = some (.agg [.lit (.string s'), .lit (.int .i64 z'), .lit (.bool b')])) : s = s' ∧ z = z' ∧ b = b' := by
  have := Option.some.inj h
  injection this with h
  injection h with h1 h
  injection h with h2 h
  injection h with h3 _
  refine ⟨?_, lit_z h2, ?_⟩
  · injection h1 with h1; injection h1
  · injection h3 with h3; injection h3
theorem str_of {s : List UInt8} {b : ByteArray} (h : s = b.data.toList) : b = ⟨s.toArray⟩ := by
  obtain ⟨d⟩ := b
  rw [h]
theorem agg_l {a b : List (DataW Unit)} (h : DataW.agg a = .agg b) : a = b := by injection h
set_option maxRecDepth 100000 in
theorem tabOps_of_laid {W : World} (h : laidMetH Tryd.prog Rows.graphErrorsRow.laid W) : TabOps W := by
  have h1 : laidMet Tryd.prog [("math/bits.deBruijn32tab", Rows.laid_math_bits_deBruijn32tab), ("math/bits.deBruijn64tab", Rows.laid_math_bits_deBruijn64tab), ("internal/strconv.uint64pow10", Rows.laid_internal_strconv_uint64pow10), ("ratchet/graph.operations", Rows.laid_ratchet_graph_operations)] W := h
  have h4 := laidMet.tail (laidMet.tail (laidMet.tail h1))
  obtain ⟨ps, ⟨g', t', cs, fuel, p, q, hg', ht', hvar, hd, _, _⟩, _⟩ := h4
  obtain rfl := Option.some.inj ((show Tryd.prog.globalNamed "ratchet/graph.operations" = some 0 by kernel_rfl).symm.trans hg')
  obtain rfl := Option.some.inj ((show (Tryd.prog.globals[0]?).map (·.type) = some 114 by kernel_rfl).symm.trans ht')
  obtain ⟨xs, m, _, hx, hl, hxl, hi⟩ := DataW.trod_array (n := 19) (e := 113) Tryd.underlying114 hd
  have hxs := agg_l (congrArg Prod.fst hx)
  have hc : ∀ o, o < 19 → ∃ (s : ByteArray) (z : Int) (b : Bool), cs[o * 3]? = some (.string s) ∧ cs[o * 3 + 1]? = some (.int .i64 z) ∧ cs[o * 3 + 2]? = some (.bool b) ∧ (xs.map (·.1))[o]? = some (.agg [.lit (.string s.data.toList), .lit (.int .i64 z), .lit (.bool b)]) := by
    intro o ho
    have ho' := hi o ho
    rw [show Tryd.prog.cellsOf 113 = 3 by kernel_rfl] at ho'
    obtain ⟨x, hx'⟩ : ∃ x, xs[o]? = some x := ⟨_, List.getElem?_eq_getElem (by omega)⟩
    rw [hx'] at ho'
    obtain ⟨y0, y1, y2, n', e1, _, t0, t1, t2⟩ := trod_struct3 Tryd.underlying113 ho'
    obtain ⟨z, hz, hzl, _⟩ := DataW.trod_int Tryd.underlying3 t1
    obtain ⟨sb, hs, hsl, _⟩ := DataW.trod_string Tryd.underlying9 t0
    obtain ⟨b, hb, hbl⟩ := DataW.trod_bool Tryd.underlying4 t2
    have k : Tryd.prog.cellsOf 3 = 1 := by kernel_rfl
    have ks : Tryd.prog.cellsOf 9 = 1 := by kernel_rfl
    have kb : Tryd.prog.cellsOf 4 = 1 := by kernel_rfl
    refine ⟨sb, z, b, ?_, ?_, ?_, ?_⟩
    · have h0 := congrArg (·[0]?) hs
      simp only [k, ks, kb] at h0
      simpa [List.getElem?_take, List.getElem?_drop, Nat.add_assoc] using h0
    · have h0 := congrArg (·[0]?) hz
      simp only [k, ks, kb] at h0
      simpa [List.getElem?_take, List.getElem?_drop, Nat.add_assoc] using h0
    · have h0 := congrArg (·[0]?) hb
      simp only [k, ks, kb] at h0
      simpa [List.getElem?_take, List.getElem?_drop, Nat.add_assoc] using h0
    · rw [List.getElem?_map, hx', e1, hzl, hsl, hbl]; rfl
  rw [← hxs] at hc
  have cell : ∀ o, o < 19 → cs[o * 3]? = some (.string ⟨(opL o).toArray⟩) ∧ cs[o * 3 + 1]? = some (.int .i64 (argN o)) ∧ cs[o * 3 + 2]? = some (.bool (opN o)) := by
    intro o ho
    obtain ⟨sb, z, b, hs, hz, hb, hd⟩ := hc o ho
    have hcase : o = 0 ∨ o = 1 ∨ o = 2 ∨ o = 3 ∨ o = 4 ∨ o = 5 ∨ o = 6 ∨ o = 7 ∨ o = 8 ∨ o = 9 ∨ o = 10 ∨ o = 11 ∨ o = 12 ∨ o = 13 ∨ o = 14 ∨ o = 15 ∨ o = 16 ∨ o = 17 ∨ o = 18 := by omega
    rcases hcase with rfl | rfl | rfl | rfl | rfl | rfl | rfl | rfl | rfl | rfl | rfl | rfl | rfl | rfl | rfl | rfl | rfl | rfl | rfl
    · obtain ⟨h1, h2, h3⟩ := agg_3 hd; rw [hs, hz, hb, ← h2, ← h3, str_of h1]; exact ⟨rfl, rfl, rfl⟩
    · obtain ⟨h1, h2, h3⟩ := agg_3 hd; rw [hs, hz, hb, ← h2, ← h3, str_of h1]; exact ⟨rfl, rfl, rfl⟩
    · obtain ⟨h1, h2, h3⟩ := agg_3 hd; rw [hs, hz, hb, ← h2, ← h3, str_of h1]; exact ⟨rfl, rfl, rfl⟩
    · obtain ⟨h1, h2, h3⟩ := agg_3 hd; rw [hs, hz, hb, ← h2, ← h3, str_of h1]; exact ⟨rfl, rfl, rfl⟩
    · obtain ⟨h1, h2, h3⟩ := agg_3 hd; rw [hs, hz, hb, ← h2, ← h3, str_of h1]; exact ⟨rfl, rfl, rfl⟩
    · obtain ⟨h1, h2, h3⟩ := agg_3 hd; rw [hs, hz, hb, ← h2, ← h3, str_of h1]; exact ⟨rfl, rfl, rfl⟩
    · obtain ⟨h1, h2, h3⟩ := agg_3 hd; rw [hs, hz, hb, ← h2, ← h3, str_of h1]; exact ⟨rfl, rfl, rfl⟩
    · obtain ⟨h1, h2, h3⟩ := agg_3 hd; rw [hs, hz, hb, ← h2, ← h3, str_of h1]; exact ⟨rfl, rfl, rfl⟩
    · obtain ⟨h1, h2, h3⟩ := agg_3 hd; rw [hs, hz, hb, ← h2, ← h3, str_of h1]; exact ⟨rfl, rfl, rfl⟩
    · obtain ⟨h1, h2, h3⟩ := agg_3 hd; rw [hs, hz, hb, ← h2, ← h3, str_of h1]; exact ⟨rfl, rfl, rfl⟩
    · obtain ⟨h1, h2, h3⟩ := agg_3 hd; rw [hs, hz, hb, ← h2, ← h3, str_of h1]; exact ⟨rfl, rfl, rfl⟩
    · obtain ⟨h1, h2, h3⟩ := agg_3 hd; rw [hs, hz, hb, ← h2, ← h3, str_of h1]; exact ⟨rfl, rfl, rfl⟩
    · obtain ⟨h1, h2, h3⟩ := agg_3 hd; rw [hs, hz, hb, ← h2, ← h3, str_of h1]; exact ⟨rfl, rfl, rfl⟩
    · obtain ⟨h1, h2, h3⟩ := agg_3 hd; rw [hs, hz, hb, ← h2, ← h3, str_of h1]; exact ⟨rfl, rfl, rfl⟩
    · obtain ⟨h1, h2, h3⟩ := agg_3 hd; rw [hs, hz, hb, ← h2, ← h3, str_of h1]; exact ⟨rfl, rfl, rfl⟩
    · obtain ⟨h1, h2, h3⟩ := agg_3 hd; rw [hs, hz, hb, ← h2, ← h3, str_of h1]; exact ⟨rfl, rfl, rfl⟩
    · obtain ⟨h1, h2, h3⟩ := agg_3 hd; rw [hs, hz, hb, ← h2, ← h3, str_of h1]; exact ⟨rfl, rfl, rfl⟩
    · obtain ⟨h1, h2, h3⟩ := agg_3 hd; rw [hs, hz, hb, ← h2, ← h3, str_of h1]; exact ⟨rfl, rfl, rfl⟩
    · obtain ⟨h1, h2, h3⟩ := agg_3 hd; rw [hs, hz, hb, ← h2, ← h3, str_of h1]; exact ⟨rfl, rfl, rfl⟩
  have cc : ∀ o, o < 19 → W.cell? ⟨0, o * 3 + 1, none⟩ = some (.int .i64 (argN o)) := fun o ho => (World.var?_cell (by kernel_rfl) hvar _).trans (cell o ho).2.1
  have c0 : ∀ o, o < 19 → W.cell? ⟨0, o * 3, none⟩ = some (.string ⟨(opL o).toArray⟩) := fun o ho => (World.var?_cell (by kernel_rfl) hvar _).trans (cell o ho).1
  have c2 : ∀ o, o < 19 → W.cell? ⟨0, o * 3 + 2, none⟩ = some (.bool (opN o)) := fun o ho => (World.var?_cell (by kernel_rfl) hvar _).trans (cell o ho).2.2
  exact ⟨cc, c0, c2, lt_of_cell (cc 0 (by omega))⟩
end Go.Proofs.YtkdonapgonegkaaDoor
