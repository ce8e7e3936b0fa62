/-
  Contracts of strings.Builder's writes, where the shelf's do not lie.
-/
import Derived.Test.YtkdonapgonegkaaDoorGs
import Derived.Lib.Builder
import Derived.Lib.AppendStr
import Derived.Shelf.Strings.Builder1
set_option linter.unusedSimpArgs false
set_option linter.unusedVariables false
namespace Go.Proofs.YtkdonapgonegkaaDoor
open Go.RowKit Go.BigFrame


/-- All blocks are as they were but a builder's own and rows of bytes. -/
def KeepW (b : Nat) (w w' : World) : Prop := w.heap.size ≤ w'.heap.size ∧ ∀ n o, w.heap[n]? = some o → n ≠ b → (∀ cur fz, o ≠ .cells cur 5 fz) → w'.heap[n]? = some o
theorem KeepW.refl (b : Nat) (w : World) : KeepW b w w := ⟨Nat.le_refl _, fun _ _ h _ _ => h⟩
theorem KeepW.trans {b : Nat} {w w1 w2 : World} (h : KeepW b w w1) (k : KeepW b w1 w2) : KeepW b w w2 := ⟨Nat.le_trans h.1 k.1, fun n o a c d => k.2 n o (h.2 n o a c d) c d⟩
theorem KeepW.setCell {b k : Nat} {v : Value} {w w1 : World} (h : KeepW b w w1) : KeepW b w (w1.setCell ⟨b, k, none⟩ v) :=
  ⟨by simpa using h.1, fun n o a c d => (Below.heap_setCell _ _ _ _ (fun e => c e)).trans (h.2 n o a c d)⟩
theorem KeepW.below {b : Nat} {w w1 w2 : World} (h : KeepW b w w1) (hb : Below w1.heap.size w1 w2) : KeepW b w w2 :=
  ⟨Nat.le_trans h.1 hb.size, fun n o a c d => by
    have h1 := h.2 n o a c d
    rw [hb.block n (Array.getElem?_eq_some_iff.1 h1).1]; exact h1⟩
theorem KeepW.grown {b B n : Nat} {v : Value} {bs : List Value} {w w1 w2 : World} (h : KeepW b w w1) (ho : w1.ownsRow B 5 1 v n bs) (hg : w1.grownBy w2 v.ownBlock) : KeepW b w w2 :=
  ⟨Nat.le_trans h.1 hg.size, fun m o a c d => by
    have h1 := h.2 m o a c d
    rw [hg.block m (Array.getElem?_eq_some_iff.1 h1).1 ?_]
    · exact h1
    · intro e
      rcases ho.2 with ⟨rfl, _⟩ | ⟨q, c1, cur, rfl, _, h3, _⟩
      · cases e
      · have e' : some m = some q := e
        injection e' with e'
        subst e'
        rw [h1] at h3
        injection h3 with h3
        exact d _ _ h3⟩

set_option maxRecDepth 100000 in
set_option maxHeartbeats 1600000 in
theorem copyCheck_c (B b : Nat) (bs : List Value) (w : World) (h : Lib.IsBuilder 106 5 B b bs w) :
    Calls Tryd.prog 97 #[.pointer (some ⟨b, 0, none⟩)] w fun e w' => e = .returned (.tuple #[]) ∧ (Lib.BuilderAt 106 5 B b (.pointer (some ⟨b, 0, none⟩)) bs w' ∧ Below B w w' ∧ KeepW b w w') := by
  obtain ⟨j, hj, hjs⟩ := Option.map_eq_some_iff.1 (show (Tryd.prog.info? 106).map (·.size) = some 2 by kernel_rfl)
  rcases h with h | h
  · have c0 := h.cell0
    have f0 := h.frozen0
    have hsh := h.shape
    have HU := Lib.hid (h.used (.pointer (some ⟨b, 0, none⟩)))
    have HB := Lib.hid ((Below.refl B w).setCell (p := ⟨b, 0, none⟩) h.1 (.pointer (some ⟨b, 0, none⟩)))
    clear h
    go_enter Tryd.func97, Tryd.ntmps97
    go_wp2
    rw [Lib.run_to_unsafe w ⟨b, 0, none⟩ Tryd.underlying103 Tryd.underlying138 hj (by rw [hjs]; decide) hsh (Nat.zero_lt_succ 1)]
    simp only [Result.andThen]
    rw [Oper.upon_value]
    go_wp2
    rw [run_callFunc_extern Tryd.func106 (by kernel_rfl) (by kernel_rfl) (by kernel_rfl) (e := Extern.AbiNoEscape.same) (by kernel_rfl)]
    rw [Lib.run_noEscape]
    simp only [Result.andThen]
    rw [Oper.upon_value]
    go_wp2
    rw [Lib.run_from_unsafe w ⟨b, 0, none⟩ Tryd.underlying138 Tryd.underlying103 hj hsh (by kernel_rfl)]
    simp only [Result.andThen]
    rw [Oper.upon_value]
    go_wp2
    go_end0
    exact ⟨rfl, HU.out, HB.out, (KeepW.refl _ _).setCell⟩
  · have c0 := h.cell0
    have HU := Lib.hid h
    clear h
    go_enter Tryd.func97, Tryd.ntmps97
    go_wp2
    rw [Lib.run_neq_ptr_same w _ Tryd.underlying103 hj]
    go_wp2
    go_end0
    exact ⟨rfl, HU.out, Below.refl _ _, KeepW.refl _ _⟩

theorem u8_info : (Tryd.prog.info? 5).map (fun i => (i.zero, i.size, i.bytes)) = some (some (.int .u8 0), 1, 1) := by kernel_rfl

set_option maxRecDepth 100000 in
set_option maxHeartbeats 1600000 in
theorem WriteByte_c (B b : Nat) (bs : List Value) (c : Int) (w : World) (h : Lib.IsBuilder 106 5 B b bs w) (hlen : bs.length + 1 ≤ 65536) (hBw : B ≤ w.heap.size) :
    Calls Tryd.prog 76 #[.pointer (some ⟨b, 0, none⟩), .int .u8 c] w fun e w' => e = .returned .nilIface ∧ (Lib.BuilderAt 106 5 B b (.pointer (some ⟨b, 0, none⟩)) (bs ++ [.int .u8 c]) w' ∧ Below B w w' ∧ KeepW b w w') := by
  obtain ⟨i0, hi, hz0, hz1, hz2⟩ := info_parts u8_info
  have HC := Lib.hid (copyCheck_c B b bs w h)
  clear h
  go_enter Tryd.func76, Tryd.ntmps76
  go_wp2_with fail
  refine HC.out.mono ?_
  clear HC
  rintro e w1 ⟨rfl, ⟨hB, v, hbk, hown, hne⟩, hb1, hk1⟩
  have hs1 : B ≤ w1.heap.size := Nat.le_trans hBw hb1.size
  have c1 : w1.cell? ⟨b, 1, none⟩ = some v := by rw [Lib.cell_of_heap hbk]; rfl
  have hlt : b < w1.heap.size := (Array.getElem?_eq_some_iff.1 hbk).1
  go_wp2_with (at_builtin; refine wpList_append_own _ rfl _ _ 104 rfl B 5 i0 (.int .u8 0) 1 1 Tryd.underlying104 hi hz0 hz1 hz2 rfl (by decide) _ _ _ rfl (hown.alloc _) ⟨_, 0, none⟩ 1 1 [.int .u8 c] rfl rfl (cell_one_new _ _ _) (fun x hx => by simp at hx; subst hx; rfl) (by unfold maxLen; omega) (by omega) (by first | omega | (simp; omega)) ?_; intro v' w2 hown' hgrow hnn; (obtain ⟨g', cap', hv', -, -⟩ := hown'.form (by omega)); subst hv'; (have hb2 : w2.heap[b]? = some (.cells #[.pointer (some ⟨b, 0, none⟩), v] 106 (0, 0)) := (hgrow.block b (by simp; omega) (fun e => hne e.symm)).trans (heap_alloc' hlt hbk)); (have d1 : w2.cell? ⟨b, 1, none⟩ = some v := (Lib.cell_of_heap hb2 1).trans rfl); (have g1 : w2.frozen? ⟨b, 1, none⟩ = false := Lib.frozen_of_heap hb2 1); (have HP := Lib.hid (Lib.BuilderAt.put (bs' := bs ++ [.int .u8 c]) hB hb2 (by simpa using hown') (by decide))); (have HB := Lib.hid (show Below B w (w2.setCell ⟨b, 1, none⟩ (.slice (some ⟨g', 0, none⟩) (bs.length + 1) cap')) from ((hb1.alloc hs1 _).grown hgrow (by simp; omega) (fun q hq => (hown.lt q hq).1)).setCell (p := ⟨b, 1, none⟩) hB _)); (have HK := Lib.hid (show KeepW b w (w2.setCell ⟨b, 1, none⟩ (.slice (some ⟨g', 0, none⟩) (bs.length + 1) cap')) from (KeepW.grown (hk1.below ((Below.refl _ _).alloc (Nat.le_refl _) _)) (hown.alloc _) hgrow).setCell)); clear hbk hown hown' hb2 hgrow c1)
  go_wp2
  go_ret
  exact ⟨rfl, HP.out, HB.out, HK.out⟩

set_option maxRecDepth 100000 in
set_option maxHeartbeats 1600000 in
theorem WriteString_c (B b : Nat) (bs : List Value) (s : ByteArray) (hs0 : 0 < s.size) (w : World) (h : Lib.IsBuilder 106 5 B b bs w) (hlen : bs.length + s.size ≤ 65536) (hBw : B ≤ w.heap.size) :
    Calls Tryd.prog 98 #[.pointer (some ⟨b, 0, none⟩), .string s] w fun e w' => e = .returned (.tuple #[.int .i64 s.size, .nilIface]) ∧ (Lib.BuilderAt 106 5 B b (.pointer (some ⟨b, 0, none⟩)) (bs ++ Lib.strCells s) w' ∧ Below B w w' ∧ KeepW b w w') := by
  obtain ⟨i0, hi, hz0, hz1, hz2⟩ := info_parts u8_info
  have HC := Lib.hid (copyCheck_c B b bs w h)
  clear h
  go_enter Tryd.func98, Tryd.ntmps98
  go_wp2_with fail
  refine HC.out.mono ?_
  clear HC
  rintro e w1 ⟨rfl, ⟨hB, v, hbk, hown, hne⟩, hb1, hk1⟩
  have hs1 : B ≤ w1.heap.size := Nat.le_trans hBw hb1.size
  have c1 : w1.cell? ⟨b, 1, none⟩ = some v := by rw [Lib.cell_of_heap hbk]; rfl
  have hlt : b < w1.heap.size := (Array.getElem?_eq_some_iff.1 hbk).1
  go_wp2_with (at_builtin; refine Lib.wpList_append_own_string _ rfl _ _ 104 9 rfl B 5 i0 Tryd.underlying104 Tryd.underlying9 hi hz0 hz1 hz2 _ _ _ rfl hown s rfl (by unfold maxLen; omega) (by omega) hs1 ?_; intro v' w2 hown' hgrow hnn; (obtain ⟨g', cap', hv', -, -⟩ := hown'.form (by omega)); subst hv'; (have hb2 : w2.heap[b]? = some (.cells #[.pointer (some ⟨b, 0, none⟩), v] 106 (0, 0)) := (hgrow.block b hlt (fun e => hne e.symm)).trans hbk); (have d1 : w2.cell? ⟨b, 1, none⟩ = some v := (Lib.cell_of_heap hb2 1).trans rfl); (have g1 : w2.frozen? ⟨b, 1, none⟩ = false := Lib.frozen_of_heap hb2 1); (have HP := Lib.hid (Lib.BuilderAt.put (bs' := bs ++ Lib.strCells s) hB hb2 (by rw [List.length_append, Lib.strCells_length]; exact hown') (by decide))); (have HB := Lib.hid (show Below B w (w2.setCell ⟨b, 1, none⟩ (.slice (some ⟨g', 0, none⟩) (bs.length + s.size) cap')) from (hb1.grown hgrow hs1 (fun q hq => (hown.lt q hq).1)).setCell (p := ⟨b, 1, none⟩) hB _)); (have HK := Lib.hid (show KeepW b w (w2.setCell ⟨b, 1, none⟩ (.slice (some ⟨g', 0, none⟩) (bs.length + s.size) cap')) from (KeepW.grown hk1 hown hgrow).setCell)); clear hbk hown hown' hb2 hgrow c1)
  go_wp2
  go_ret2
  exact ⟨rfl, HP.out, HB.out, HK.out⟩

end Go.Proofs.YtkdonapgonegkaaDoor
