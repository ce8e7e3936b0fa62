/-
  Contracts of strings.Builder's writes, where the shelf's do not lie.
-/
import Derived.Test.YtkdonapgonegkaaDoorQD
import Derived.Lib.Builder
import Derived.Lib.AppendStr
import Derived.Shelf.Strings.Builder1
import Derived.Test.YtkdonapgonegkaaDoorQE
import Derived.Test.YtkdonapgonegkaaDoorShelf
import Derived.Test.YtkdonapgonegkaaDoorQF
set_option linter.unusedSimpArgs false
set_option linter.unusedVariables false
namespace Go.Proofs.YtkdonapgonegkaaDoor
open Go.RowKit Go.BigFrame


/-- All blocks are as they were but a builder's own and rows of bytes. -/
def KeepW (b : Nat) (w w' : World) : Prop := w.heap.size ≤ w'.heap.size ∧ ∀ n o, w.heap[n]? = some o → n ≠ b → (∀ cur fz, o ≠ .cells cur 5 fz) → w'.heap[n]? = some o
theorem KeepW.refl (b : Nat) (w : World) : KeepW b w w := ⟨Nat.le_refl _, fun _ _ h _ _ => h⟩
theorem KeepW.trans {b : Nat} {w w1 w2 : World} (h : KeepW b w w1) (k : KeepW b w1 w2) : KeepW b w w2 := ⟨Nat.le_trans h.1 k.1, fun n o a c d => k.2 n o (h.2 n o a c d) c d⟩
theorem KeepW.setCell {b k : Nat} {v : Value} {w w1 : World} (h : KeepW b w w1) : KeepW b w (w1.setCell ⟨b, k, none⟩ v) :=
  ⟨by simpa using h.1, fun n o a c d => (Below.heap_setCell _ _ _ _ (fun e => c e)).trans (h.2 n o a c d)⟩
theorem KeepW.below {b : Nat} {w w1 w2 : World} (h : KeepW b w w1) (hb : Below w1.heap.size w1 w2) : KeepW b w w2 :=
  ⟨Nat.le_trans h.1 hb.size, fun n o a c d => by
    have h1 := h.2 n o a c d
    rw [hb.block n (Array.getElem?_eq_some_iff.1 h1).1]; exact h1⟩
theorem KeepW.grown {b B n : Nat} {v : Value} {bs : List Value} {w w1 w2 : World} (h : KeepW b w w1) (ho : w1.ownsRow B 5 1 v n bs) (hg : w1.grownBy w2 v.ownBlock) : KeepW b w w2 :=
  ⟨Nat.le_trans h.1 hg.size, fun m o a c d => by
    have h1 := h.2 m o a c d
    rw [hg.block m (Array.getElem?_eq_some_iff.1 h1).1 ?_]
    · exact h1
    · intro e
      rcases ho.2 with ⟨rfl, _⟩ | ⟨q, c1, cur, rfl, _, h3, _⟩
      · cases e
      · have e' : some m = some q := e
        injection e' with e'
        subst e'
        rw [h1] at h3
        injection h3 with h3
        exact d _ _ h3⟩

set_option maxRecDepth 100000 in
set_option maxHeartbeats 1600000 in
theorem copyCheck_c (B b : Nat) (bs : List Value) (w : World) (h : Lib.IsBuilder 106 5 B b bs w) :
    Calls Tryd.prog 97 #[.pointer (some ⟨b, 0, none⟩)] w fun e w' => e = .returned (.tuple #[]) ∧ (Lib.BuilderAt 106 5 B b (.pointer (some ⟨b, 0, none⟩)) bs w' ∧ Below B w w' ∧ KeepW b w w') := by
  obtain ⟨j, hj, hjs⟩ := Option.map_eq_some_iff.1 (show (Tryd.prog.info? 106).map (·.size) = some 2 by kernel_rfl)
  rcases h with h | h
  · have c0 := h.cell0
    have f0 := h.frozen0
    have hsh := h.shape
    have HU := Lib.hid (h.used (.pointer (some ⟨b, 0, none⟩)))
    have HB := Lib.hid ((Below.refl B w).setCell (p := ⟨b, 0, none⟩) h.1 (.pointer (some ⟨b, 0, none⟩)))
    clear h
    go_enter Tryd.func97, Tryd.ntmps97
    go_wp2
    rw [Lib.run_to_unsafe w ⟨b, 0, none⟩ Tryd.underlying103 Tryd.underlying138 hj (by rw [hjs]; decide) hsh (Nat.zero_lt_succ 1)]
    simp only [Result.andThen]
    rw [Oper.upon_value]
    go_wp2
    rw [run_callFunc_extern Tryd.func106 (by kernel_rfl) (by kernel_rfl) (by kernel_rfl) (e := Extern.AbiNoEscape.same) (by kernel_rfl)]
    rw [Lib.run_noEscape]
    simp only [Result.andThen]
    rw [Oper.upon_value]
    go_wp2
    rw [Lib.run_from_unsafe w ⟨b, 0, none⟩ Tryd.underlying138 Tryd.underlying103 hj hsh (by kernel_rfl)]
    simp only [Result.andThen]
    rw [Oper.upon_value]
    go_wp2
    go_end0
    exact ⟨rfl, HU.out, HB.out, (KeepW.refl _ _).setCell⟩
  · have c0 := h.cell0
    have HU := Lib.hid h
    clear h
    go_enter Tryd.func97, Tryd.ntmps97
    go_wp2
    rw [Lib.run_neq_ptr_same w _ Tryd.underlying103 hj]
    go_wp2
    go_end0
    exact ⟨rfl, HU.out, Below.refl _ _, KeepW.refl _ _⟩

theorem u8_info : (Tryd.prog.info? 5).map (fun i => (i.zero, i.size, i.bytes)) = some (some (.int .u8 0), 1, 1) := by kernel_rfl

set_option maxRecDepth 100000 in
set_option maxHeartbeats 1600000 in
theorem WriteByte_c (B b : Nat) (bs : List Value) (c : Int) (w : World) (h : Lib.IsBuilder 106 5 B b bs w) (hlen : bs.length + 1 ≤ 65536) (hBw : B ≤ w.heap.size) :
    Calls Tryd.prog 76 #[.pointer (some ⟨b, 0, none⟩), .int .u8 c] w fun e w' => e = .returned .nilIface ∧ (Lib.BuilderAt 106 5 B b (.pointer (some ⟨b, 0, none⟩)) (bs ++ [.int .u8 c]) w' ∧ Below B w w' ∧ KeepW b w w') := by
  obtain ⟨i0, hi, hz0, hz1, hz2⟩ := info_parts u8_info
  have HC := Lib.hid (copyCheck_c B b bs w h)
  clear h
  go_enter Tryd.func76, Tryd.ntmps76
  go_wp2_with fail
  refine HC.out.mono ?_
  clear HC
  rintro e w1 ⟨rfl, ⟨hB, v, hbk, hown, hne⟩, hb1, hk1⟩
  have hs1 : B ≤ w1.heap.size := Nat.le_trans hBw hb1.size
  have c1 : w1.cell? ⟨b, 1, none⟩ = some v := by rw [Lib.cell_of_heap hbk]; rfl
  have hlt : b < w1.heap.size := (Array.getElem?_eq_some_iff.1 hbk).1
  go_wp2_with (at_builtin; refine wpList_append_own _ rfl _ _ 104 rfl B 5 i0 (.int .u8 0) 1 1 Tryd.underlying104 hi hz0 hz1 hz2 rfl (by decide) _ _ _ rfl (hown.alloc _) ⟨_, 0, none⟩ 1 1 [.int .u8 c] rfl rfl (cell_one_new _ _ _) (fun x hx => by simp at hx; subst hx; rfl) (by unfold maxLen; omega) (by omega) (by first | omega | (simp; omega)) ?_; intro v' w2 hown' hgrow hnn; (obtain ⟨g', cap', hv', -, -⟩ := hown'.form (by omega)); subst hv'; (have hb2 : w2.heap[b]? = some (.cells #[.pointer (some ⟨b, 0, none⟩), v] 106 (0, 0)) := (hgrow.block b (by simp; omega) (fun e => hne e.symm)).trans (heap_alloc' hlt hbk)); (have d1 : w2.cell? ⟨b, 1, none⟩ = some v := (Lib.cell_of_heap hb2 1).trans rfl); (have g1 : w2.frozen? ⟨b, 1, none⟩ = false := Lib.frozen_of_heap hb2 1); (have HP := Lib.hid (Lib.BuilderAt.put (bs' := bs ++ [.int .u8 c]) hB hb2 (by simpa using hown') (by decide))); (have HB := Lib.hid (show Below B w (w2.setCell ⟨b, 1, none⟩ (.slice (some ⟨g', 0, none⟩) (bs.length + 1) cap')) from ((hb1.alloc hs1 _).grown hgrow (by simp; omega) (fun q hq => (hown.lt q hq).1)).setCell (p := ⟨b, 1, none⟩) hB _)); (have HK := Lib.hid (show KeepW b w (w2.setCell ⟨b, 1, none⟩ (.slice (some ⟨g', 0, none⟩) (bs.length + 1) cap')) from (KeepW.grown (hk1.below ((Below.refl _ _).alloc (Nat.le_refl _) _)) (hown.alloc _) hgrow).setCell)); clear hbk hown hown' hb2 hgrow c1)
  go_wp2
  go_ret
  exact ⟨rfl, HP.out, HB.out, HK.out⟩

set_option maxRecDepth 100000 in
set_option maxHeartbeats 1600000 in
theorem WriteString_c (B b : Nat) (bs : List Value) (s : ByteArray) (hs0 : 0 < s.size) (w : World) (h : Lib.IsBuilder 106 5 B b bs w) (hlen : bs.length + s.size ≤ 65536) (hBw : B ≤ w.heap.size) :
    Calls Tryd.prog 98 #[.pointer (some ⟨b, 0, none⟩), .string s] w fun e w' => e = .returned (.tuple #[.int .i64 s.size, .nilIface]) ∧ (Lib.BuilderAt 106 5 B b (.pointer (some ⟨b, 0, none⟩)) (bs ++ Lib.strCells s) w' ∧ Below B w w' ∧ KeepW b w w') := by
  obtain ⟨i0, hi, hz0, hz1, hz2⟩ := info_parts u8_info
  have HC := Lib.hid (copyCheck_c B b bs w h)
  clear h
  go_enter Tryd.func98, Tryd.ntmps98
  go_wp2_with fail
  refine HC.out.mono ?_
  clear HC
  rintro e w1 ⟨rfl, ⟨hB, v, hbk, hown, hne⟩, hb1, hk1⟩
  have hs1 : B ≤ w1.heap.size := Nat.le_trans hBw hb1.size
  have c1 : w1.cell? ⟨b, 1, none⟩ = some v := by rw [Lib.cell_of_heap hbk]; rfl
  have hlt : b < w1.heap.size := (Array.getElem?_eq_some_iff.1 hbk).1
  go_wp2_with (at_builtin; refine Lib.wpList_append_own_string _ rfl _ _ 104 9 rfl B 5 i0 Tryd.underlying104 Tryd.underlying9 hi hz0 hz1 hz2 _ _ _ rfl hown s rfl (by unfold maxLen; omega) (by omega) hs1 ?_; intro v' w2 hown' hgrow hnn; (obtain ⟨g', cap', hv', -, -⟩ := hown'.form (by omega)); subst hv'; (have hb2 : w2.heap[b]? = some (.cells #[.pointer (some ⟨b, 0, none⟩), v] 106 (0, 0)) := (hgrow.block b hlt (fun e => hne e.symm)).trans hbk); (have d1 : w2.cell? ⟨b, 1, none⟩ = some v := (Lib.cell_of_heap hb2 1).trans rfl); (have g1 : w2.frozen? ⟨b, 1, none⟩ = false := Lib.frozen_of_heap hb2 1); (have HP := Lib.hid (Lib.BuilderAt.put (bs' := bs ++ Lib.strCells s) hB hb2 (by rw [List.length_append, Lib.strCells_length]; exact hown') (by decide))); (have HB := Lib.hid (show Below B w (w2.setCell ⟨b, 1, none⟩ (.slice (some ⟨g', 0, none⟩) (bs.length + s.size) cap')) from (hb1.grown hgrow hs1 (fun q hq => (hown.lt q hq).1)).setCell (p := ⟨b, 1, none⟩) hB _)); (have HK := Lib.hid (show KeepW b w (w2.setCell ⟨b, 1, none⟩ (.slice (some ⟨g', 0, none⟩) (bs.length + s.size) cap')) from (KeepW.grown hk1 hown hgrow).setCell)); clear hbk hown hown' hb2 hgrow c1)
  go_wp2
  go_ret2
  exact ⟨rfl, HP.out, HB.out, HK.out⟩

end Go.Proofs.YtkdonapgonegkaaDoor

set_option linter.unusedSimpArgs false
set_option linter.unusedVariables false
namespace Go.Proofs.YtkdonapgonegkaaDoor
open Go.RowKit Go.BigFrame

theorem builder_below {B b : Nat} {p : Value} {bs : List Value} {w W : World} (h : Lib.BuilderAt 106 5 B b p bs w) (hb : Below w.heap.size w W) : Lib.BuilderAt 106 5 B b p bs W := by
  obtain ⟨hB, v, hbk, hown, hne⟩ := h
  exact ⟨hB, v, (hb.block b (Array.getElem?_eq_some_iff.1 hbk).1).trans hbk, own_below hown hb, hne⟩
theorem isB_below {B b : Nat} {bs : List Value} {w W : World} (h : Lib.IsBuilder 106 5 B b bs w) (hb : Below w.heap.size w W) : Lib.IsBuilder 106 5 B b bs W := h.imp (fun h => builder_below h hb) (fun h => builder_below h hb)
theorem itoa_c (i : Nat) (hi : i < 100) (w : World) : Calls Tryd.prog 100 #[.int .i64 i] w fun e w' => e = .returned (.string ⟨(Lib.decDigits i).toArray⟩) ∧ w = w' := (Tryd.strconv_Itoa_small i hi w).mono fun e w' h => ⟨h.1, h.2.symm⟩
theorem dd_one {i : Nat} (h : i < 10) : Lib.decDigits i = [UInt8.ofNat (48 + i)] := by rw [Lib.decDigits]; rw [dif_pos h]
theorem dd_len {i : Nat} (h : i < 100) : 0 < (Lib.decDigits i).length ∧ (Lib.decDigits i).length ≤ 2 := by
  rw [Lib.decDigits]
  split
  · exact ⟨by simp, by simp⟩
  · rw [dd_one (by omega)]; exact ⟨by simp, by simp⟩
theorem dd_size (i : Nat) : (⟨(Lib.decDigits i).toArray⟩ : ByteArray).size = (Lib.decDigits i).length := by simp [ByteArray.size]
/-- A number behind a blank. -/
def spD (a : Int) : List UInt8 := 32 :: Lib.decDigits a.toNat
theorem spD_len {a : Nat} (h : a < 100) : (spD a).length ≤ 3 := by have := (dd_len h).2; simp [spD]; omega

set_option maxRecDepth 100000 in
set_option maxHeartbeats 1600000 in
theorem writeNode1_c (i : Nat) (hi : i < 100) (P B b : Nat) (l : List UInt8) (hlen : l.length + 3 ≤ 65536) (w : World) (rP : w.heap[P]? = some (.cells #[.pointer (some ⟨b, 0, none⟩)] 103)) (hPb : P ≠ b) (h : Lib.IsBuilder 106 5 B b (Lib.byteCells l) w) (hBw : B ≤ w.heap.size) :
    Calls Tryd.prog 99 #[.int .i64 i, .pointer (some ⟨P, 0, none⟩)] w fun e w' => (∃ v, e = .returned v) ∧ Lib.BuilderAt 106 5 B b (.pointer (some ⟨b, 0, none⟩)) (Lib.byteCells (l ++ spD i)) w' ∧ Below B w w' ∧ KeepW b w w' := by
  have hdl := dd_len hi
  have HWB := Lib.hid (WriteByte_c B b (Lib.byteCells l) 32 w h (by rw [Lib.byteCells_length]; omega) hBw)
  have q0 := cell_block (i := 0) rP
  simp at q0
  clear h
  go_enter Tryd.func99, Tryd.ntmps99
  go_wp2_with fail
  refine HWB.out.mono ?_
  rintro e w1 ⟨rfl, hB1, hb1, hk1⟩
  have rP1 := hk1.2 P _ rP hPb (fun cur fz h => by injection h with _ h; exact absurd h (by decide))
  have q1 := cell_block (i := 0) rP1
  simp at q1
  have lP1 := lt_of_get rP1
  clear q0 rP
  go_wp2_with fail
  refine wp_region_aft_tail 3 (by kernel_rfl) (by kernel_rfl) ?_
  simp only [List.take_succ_cons, List.take_zero, List.drop_succ_cons, List.drop_zero]
  repeat (go_big_quiet_step (first | (go_at_call 100; exact Calls.qs (itoa_c i hi _))))
  refine wpQuiet_nil ?_
  intro y
  have hB2 := builder_below hB1 y.pf
  have hs := dd_size i
  have HB2 : Hid (Below B w y.val ∧ KeepW b w y.val ∧ B ≤ y.val.heap.size) := Lib.hid ⟨hb1.trans (y.pf.mono (Nat.le_trans hBw hk1.1)), hk1.below y.pf, Nat.le_trans (Nat.le_trans hBw hk1.1) y.pf.size⟩
  have HWS := Lib.hid (WriteString_c B b (Lib.byteCells l ++ [.int .u8 32]) ⟨(Lib.decDigits i).toArray⟩ (by omega) y.val (.inr hB2) (by rw [List.length_append, Lib.byteCells_length, hs]; simp; omega) HB2.out.2.2)
  clear hB1 hb1 hk1 hB2 hs rP1 q1
  generalize y.val = w2 at *
  go_wp2_with fail
  refine HWS.out.mono ?_
  rintro e w3 ⟨rfl, hB3, hb3, hk3⟩
  have HF : Hid (Lib.BuilderAt 106 5 B b (.pointer (some ⟨b, 0, none⟩)) (Lib.byteCells (l ++ spD i)) w3) := Lib.hid (by
    have e : Lib.byteCells (l ++ spD i) = Lib.byteCells l ++ [.int .u8 32] ++ Lib.strCells ⟨(Lib.decDigits i).toArray⟩ := by
      rw [Lib.byteCells_append]
      show _ = Lib.byteCells l ++ [.int .u8 32] ++ Lib.byteCells (Lib.decDigits i)
      rw [List.append_assoc]; rfl
    rw [e]; exact hB3)
  have HG := Lib.hid (show Below B w w3 ∧ KeepW b w w3 from ⟨HB2.out.1.trans hb3, HB2.out.2.1.trans hk3⟩)
  clear hB3 hb3 hk3
  go_wp2
  go_end0
  exact ⟨⟨_, rfl⟩, HF.out, HG.out.1, HG.out.2⟩

/-- The string of a node. -/
def nodeS (o : Nat) (wd : Int) (gs : List Int) (v : Int) : List UInt8 := opL o ++ spD wd ++ gs.flatMap spD ++ (if opN o then spD v else [])
theorem opL_len : ∀ o : Nat, o < 19 → 0 < (opL o).length ∧ (opL o).length ≤ 5 := by decide
def Small (a : Int) : Prop := ∃ n : Nat, n < 100 ∧ a = n
theorem flat_len {gs : List Int} (h : ∀ a ∈ gs, Small a) : (gs.flatMap spD).length ≤ 3 * gs.length := by
  induction gs with
  | nil => simp
  | cons a gs ih =>
    obtain ⟨n, hn, rfl⟩ := h a (List.mem_cons_self)
    have := ih (fun a ha => h a (List.mem_cons_of_mem _ ha))
    have := spD_len hn
    rw [List.flatMap_cons, List.length_append, List.length_cons]; omega
theorem flat_snoc {gs : List Int} {j : Nat} {a : Int} (h : gs[j]? = some a) : (gs.take (j + 1)).flatMap spD = (gs.take j).flatMap spD ++ spD a := by
  obtain ⟨hj, rfl⟩ := List.getElem?_eq_some_iff.1 h
  rw [List.take_succ_eq_append_getElem hj, List.flatMap_append]; simp
theorem not_u8 {c : Array Value} {T : TypeId} (h : ¬ T = 5) : ∀ cur fz, Obj.cells c T (0, 0) ≠ .cells cur 5 fz := fun cur fz e => by injection e with _ e; exact h e

def WSt (B b : Nat) (w : World) (o wd v : Int) (k : Nat) (Ak : Option Addr) (n ck : Nat) (l : List UInt8) (wr : World) : Prop :=
  Lib.BuilderAt 106 5 B b (.pointer (some ⟨b, 0, none⟩)) (Lib.byteCells l) wr ∧ wr.heap[w.heap.size]? = some (.cells #[.pointer (some ⟨b, 0, none⟩)] 103) ∧ wr.heap[w.heap.size + 1]? = some (.cells #[.int .i64 o, .int .i64 wd, .slice Ak n ck, .int .i64 v] 65) ∧
    wr.heap[w.heap.size + 2]? = some (.cells #[.string ⟨(opL k).toArray⟩, .int .i64 (argN o), .bool (opN k)] 113) ∧ Below B w wr ∧ KeepW b w wr
theorem WSt.step {B b : Nat} {w : World} {o wd v : Int} {k : Nat} {Ak : Option Addr} {n ck : Nat} {l l' : List UInt8} {wr w' : World} (h : WSt B b w o wd v k Ak n ck l wr) (hb : b < w.heap.size) (h1 : Lib.BuilderAt 106 5 B b (.pointer (some ⟨b, 0, none⟩)) (Lib.byteCells l') w') (h2 : Below B wr w') (h3 : KeepW b wr w') : WSt B b w o wd v k Ak n ck l' w' := by
  obtain ⟨_, r2, r3, r4, hb0, hk0⟩ := h
  exact ⟨h1, h3.2 _ _ r2 (by omega) (not_u8 (by decide)), h3.2 _ _ r3 (by omega) (not_u8 (by decide)), h3.2 _ _ r4 (by omega) (not_u8 (by decide)), hb0.trans h2, hk0.trans h3⟩

set_option maxRecDepth 100000 in
set_option maxHeartbeats 1600000 in
theorem writeNode_c (o wd v : Nat) (ho : o < 19) (hwd : wd < 100) (hv : v < 100) (gs : List Int) (hgs : ∀ a ∈ gs, Small a) (hg5 : gs.length ≤ 5) (Ak : Option Addr) (ck : Nat) (B b : Nat) (l : List UInt8) (hlen : l.length + 40 ≤ 65536) (w00 w : World) (h00 : w00.heap.size ≤ B) (hw00 : Below w00.heap.size w00 w) (hA : LiesI w00 Ak gs) (ht : TabOps w00) (h : Lib.IsBuilder 106 5 B b (Lib.byteCells l) w) (hBw : B ≤ w.heap.size) :
    Calls Tryd.prog 77 #[.pointer (some ⟨b, 0, none⟩), .agg #[.int .i64 o, .int .i64 wd, .slice Ak gs.length ck, .int .i64 v]] w fun e w' => (∃ v, e = .returned v) ∧ Lib.BuilderAt 106 5 B b (.pointer (some ⟨b, 0, none⟩)) (Lib.byteCells (l ++ nodeS o wd gs v)) w' ∧ Below B w w' ∧ KeepW b w w' := by
  have hbw : b < w.heap.size := by
    rcases h with h | h
    · obtain ⟨_, _, hbk, _⟩ := h; exact (Array.getElem?_eq_some_iff.1 hbk).1
    · obtain ⟨_, _, hbk, _⟩ := h; exact (Array.getElem?_eq_some_iff.1 hbk).1
  have HIX := Lib.hid (show isIx (o : Int) 19 = true from isIx_true (by omega) (by omega))
  have HT := Lib.hid ht
  have HA := Lib.hid hA
  have HGS := Lib.hid hgs
  have HOL := Lib.hid (opL_len o ho)
  have hG := Nat.lt_of_lt_of_le ht.big hw00.size
  have c0 := (hw00.cell (p := ⟨0, o * 3, none⟩) ht.big).trans (ht.names o ho)
  have c1 := (hw00.cell (p := ⟨0, o * 3 + 1, none⟩) ht.big).trans (ht.args o ho)
  have c2 := (hw00.cell (p := ⟨0, o * 3 + 2, none⟩) ht.big).trans (ht.nums o ho)
  have hoo : (o : Int) < 19 := by omega
  have HIB := Lib.hid h
  have HW0 := Lib.hid hw00
  clear h ht hA hgs hw00
  go_enter Tryd.func77, Tryd.ntmps77
  go_wp2_with (go_at_call 66; (with_reducible refine (isIndex_c _ _ _).mono ?_); rw [HIX.out]; rintro e w' ⟨rfl, rfl⟩)
  have hb3 : Below w.heap.size w (((w.alloc (.cells #[.pointer (some ⟨b, 0, none⟩)] 103)).alloc (.cells #[.int .i64 o, .int .i64 wd, .slice Ak gs.length ck, .int .i64 v] 65)).alloc (.cells #[.string ⟨(opL o).toArray⟩, .int .i64 (argN o), .bool (opN o)] 113)) := (((Below.refl _ _).alloc (Nat.le_refl _) _).alloc (by simp) _).alloc (by simp; omega) _
  have r2 : (((w.alloc (.cells #[.pointer (some ⟨b, 0, none⟩)] 103)).alloc (.cells #[.int .i64 o, .int .i64 wd, .slice Ak gs.length ck, .int .i64 v] 65)).alloc (.cells #[.string ⟨(opL o).toArray⟩, .int .i64 (argN o), .bool (opN o)] 113)).heap[w.heap.size]? = some (.cells #[.pointer (some ⟨b, 0, none⟩)] 103) := heap_alloc' (by simp; omega) (heap_alloc' (by simp) (heap_alloc_new _ _))
  have r3 : (((w.alloc (.cells #[.pointer (some ⟨b, 0, none⟩)] 103)).alloc (.cells #[.int .i64 o, .int .i64 wd, .slice Ak gs.length ck, .int .i64 v] 65)).alloc (.cells #[.string ⟨(opL o).toArray⟩, .int .i64 (argN o), .bool (opN o)] 113)).heap[w.heap.size + 1]? = some (.cells #[.int .i64 o, .int .i64 wd, .slice Ak gs.length ck, .int .i64 v] 65) := heap_alloc' (by simp) (heap_alloc_at (by simp))
  have r4 : (((w.alloc (.cells #[.pointer (some ⟨b, 0, none⟩)] 103)).alloc (.cells #[.int .i64 o, .int .i64 wd, .slice Ak gs.length ck, .int .i64 v] 65)).alloc (.cells #[.string ⟨(opL o).toArray⟩, .int .i64 (argN o), .bool (opN o)] 113)).heap[w.heap.size + 2]? = some (.cells #[.string ⟨(opL o).toArray⟩, .int .i64 (argN o), .bool (opN o)] 113) := heap_alloc_at (by simp)
  generalize (((w.alloc (.cells #[.pointer (some ⟨b, 0, none⟩)] 103)).alloc (.cells #[.int .i64 o, .int .i64 wd, .slice Ak gs.length ck, .int .i64 v] 65)).alloc (.cells #[.string ⟨(opL o).toArray⟩, .int .i64 (argN o), .bool (opN o)] 113)) = W3 at *
  have hos : (⟨(opL o).toArray⟩ : ByteArray).size = (opL o).length := by simp [ByteArray.size]
  have hol := HOL.out
  refine (WriteString_c B b (Lib.byteCells l) ⟨(opL o).toArray⟩ (by omega) W3 (isB_below HIB.out hb3) (by rw [Lib.byteCells_length]; omega) (Nat.le_trans hBw hb3.size)).mono ?_
  rintro e W4 ⟨rfl, hB4, hb4, hk4⟩
  have hB4' : Lib.BuilderAt 106 5 B b (.pointer (some ⟨b, 0, none⟩)) (Lib.byteCells (l ++ opL o)) W4 := by rw [Lib.byteCells_append]; exact hB4
  have HS4 : Hid (WSt B b w o wd v o Ak gs.length ck (l ++ opL o) W4) := Lib.hid ⟨hB4', hk4.2 _ _ r2 (by omega) (not_u8 (by decide)), hk4.2 _ _ r3 (by omega) (not_u8 (by decide)), hk4.2 _ _ r4 (by omega) (not_u8 (by decide)), (hb3.mono hBw).trans hb4, ((KeepW.refl b w).below hb3).trans hk4⟩
  have q1 := cell_block (i := 1) (HS4.out.2.2.1)
  simp at q1
  have HW1 := Lib.hid (writeNode1_c wd hwd w.heap.size B b (l ++ opL o) (by rw [List.length_append]; omega) W4 HS4.out.2.1 (by omega) (.inr HS4.out.1) (Nat.le_trans hBw HS4.out.2.2.2.2.2.1))
  clear hB4 hB4' hb4 hk4 r2 r3 r4 hb3 c0 c1 c2 hG
  go_wp2_with fail
  refine HW1.out.mono ?_
  rintro e W5 ⟨⟨ev, rfl⟩, hB5, hb5, hk5⟩
  have HS5 := Lib.hid (HS4.out.step hbw hB5 hb5 hk5)
  have q2 := cell_block (i := 2) (HS5.out.2.2.1)
  simp at q2
  clear hB5 hb5 hk5 q1
  go_wp2_with fail
  go_loopw [28] (fun v28 wr => ∃ j : Nat, j ≤ gs.length ∧ v28 = .int .i64 j ∧ WSt B b w o wd v o Ak gs.length ck (l ++ opL o ++ spD wd ++ (gs.take j).flatMap spD) wr) (fun v28 _ => gs.length - (intOf v28).toNat)
  case atStart => exact ⟨0, by omega, rfl, by rw [List.take_zero, List.flatMap_nil, List.append_nil]; exact HS5.out⟩
  case round =>
    clear q2
    obtain ⟨j, hj, rfl, hst⟩ := hrel
    have HST := Lib.hid hst
    clear hst
    have hfl : ((gs.take j).flatMap spD).length ≤ 15 := by
      have := flat_len (gs := gs.take j) (fun a ha => HGS.out a (List.mem_of_mem_take ha))
      rw [List.length_take_of_le hj] at this; omega
    have hsw := spD_len hwd
    by_cases hlt : j < gs.length
    · have hjj : (j : Int) < gs.length := by omega
      have HX := Lib.hid (List.getElem?_eq_getElem hlt)
      have HSM := Lib.hid (HGS.out _ (List.getElem_mem hlt))
      generalize gs[j] = a at *
      obtain ⟨n, hn, rfl⟩ := HSM.out
      have HSN := Lib.hid (flat_snoc HX.out)
      obtain ⟨ad, rfl, hbl, ca⟩ := HA.out.cell HX.out
      have hbw2 : Below w00.heap.size w00 wr := HW0.out.trans (HST.out.2.2.2.2.1.mono h00)
      have ca1 := (hbw2.cell (p := ad.add j) (by rw [addB]; exact hbl)).trans ca
      have HW2 := Lib.hid (writeNode1_c n hn w.heap.size B b (l ++ opL o ++ spD wd ++ (gs.take j).flatMap spD) (by simp only [List.length_append]; omega) wr HST.out.2.1 (by omega) (.inr HST.out.1) (Nat.le_trans hBw HST.out.2.2.2.2.2.1))
      clear ca hbw2
      go_wp2_with fail
      refine HW2.out.mono ?_
      rintro e W6 ⟨⟨ev2, rfl⟩, hB6, hb6, hk6⟩
      have HS6 := Lib.hid (HST.out.step hbw hB6 hb6 hk6)
      clear hB6 hb6 hk6
      go_wp2
      go_roundw
      case rel => exact ⟨j + 1, by omega, by go_num, by rw [HSN.out, ← List.append_assoc]; exact HS6.out⟩
      case measure => simp [intOf]; omega
    · obtain rfl : j = gs.length := by omega
      rw [List.take_length] at HST hfl
      have q2 := cell_block (i := 2) (HST.out.2.2.2.1)
      have q3 := cell_block (i := 3) (HST.out.2.2.1)
      simp at q2 q3
      cases hn : opN o with
      | false =>
        rw [hn] at q2
        have HF := Lib.hid (show nodeS o wd gs v = opL o ++ spD wd ++ gs.flatMap spD from by unfold nodeS; rw [hn]; simp)
        clear hn
        go_wp2
        go_end0
        rw [HF.out, ← List.append_assoc, ← List.append_assoc]
        exact ⟨⟨_, rfl⟩, HST.out.1, HST.out.2.2.2.2.1, HST.out.2.2.2.2.2⟩
      | true =>
        rw [hn] at q2
        have HF := Lib.hid (show nodeS o wd gs v = opL o ++ spD wd ++ gs.flatMap spD ++ spD v from by unfold nodeS; rw [hn]; simp)
        have HW3 := Lib.hid (writeNode1_c v hv w.heap.size B b (l ++ opL o ++ spD wd ++ gs.flatMap spD) (by simp only [List.length_append]; omega) wr HST.out.2.1 (by omega) (.inr HST.out.1) (Nat.le_trans hBw HST.out.2.2.2.2.2.1))
        clear hn
        go_wp2_with fail
        refine HW3.out.mono ?_
        rintro e W7 ⟨⟨ev2, rfl⟩, hB7, hb7, hk7⟩
        have HS7 := Lib.hid (HST.out.step hbw hB7 hb7 hk7)
        clear hB7 hb7 hk7
        go_wp2
        go_end0
        rw [HF.out, ← List.append_assoc, ← List.append_assoc, ← List.append_assoc]
        exact ⟨⟨_, rfl⟩, HS7.out.1, HS7.out.2.2.2.2.1, HS7.out.2.2.2.2.2⟩

end Go.Proofs.YtkdonapgonegkaaDoor

set_option linter.unusedSimpArgs false
set_option linter.unusedVariables false
namespace Go.Proofs.YtkdonapgonegkaaDoor
open Go.RowKit Go.BigFrame

structure SmallN (n : Nd) : Prop where
  nums : ∃ o wd v : Nat, o < 19 ∧ wd < 100 ∧ v < 100 ∧ n.op = o ∧ n.wd = wd ∧ n.v = v
  al : n.args.length ≤ 5
  sm : ∀ a ∈ n.args, Small a
/-- The string of the first nodes. -/
def fmtK (ns : List Nd) : Nat → List UInt8
  | 0 => []
  | k + 1 => fmtK ns k ++ (if 0 < k then [59] else []) ++ (match ns[k]? with | none => [] | some n => nodeS n.op.toNat n.wd n.args n.v)
theorem fmtK_step {ns : List Nd} {k : Nat} {n : Nd} (h : ns[k]? = some n) : fmtK ns (k + 1) = fmtK ns k ++ (if 0 < k then [59] else []) ++ nodeS n.op.toNat n.wd n.args n.v := by simp only [fmtK, h]
theorem nodeS_len {n : Nd} (h : SmallN n) : (nodeS n.op.toNat n.wd n.args n.v).length ≤ 26 := by
  obtain ⟨⟨o, wd, v, ho, hw, hv, e1, e2, e3⟩, al, sm⟩ := h
  rw [e1, e2, e3]
  have h1 := (opL_len o ho).2
  have h2 := spD_len hw
  have h3 := spD_len hv
  have h4 := flat_len sm
  unfold nodeS
  simp only [List.length_append, Int.toNat_natCast]
  split
  · omega
  · simp only [List.length_nil]; omega
theorem fmtK_len {ns : List Nd} (hs : ∀ n ∈ ns, SmallN n) : ∀ k : Nat, (fmtK ns k).length ≤ 27 * k := by
  intro k
  induction k with
  | zero => exact Nat.le_refl _
  | succ k ih =>
    simp only [fmtK, List.length_append]
    have h1 : (if 0 < k then [59] else ([] : List UInt8)).length ≤ 1 := by split <;> simp
    cases hn : ns[k]? with
    | none => simp only [List.length_nil]; omega
    | some n =>
      have := nodeS_len (hs n (List.mem_of_getElem? hn))
      simp only; omega

set_option maxRecDepth 100000 in
set_option maxHeartbeats 1600000 in
theorem FormatNodes_c (N : Option Addr) (capN : Nat) (ns : List Nd) (hns : ns.length ≤ 400) (hsm : ∀ n ∈ ns, SmallN n) (w : World) (hN : LiesN w N ns) (ht : TabOps w) :
    Calls Tryd.prog 44 #[.slice N ns.length capN] w fun e w' => e = .returned (.string ⟨(fmtK ns ns.length).toArray⟩) ∧ ∃ x : Aft w, w' = x.val := by
  have HNN := Lib.hid hN
  have HT := Lib.hid ht
  have HSA := Lib.hid hsm
  have hl400 := fmtK_len hsm
  have HLL := Lib.hid hl400
  clear hN ht hsm hl400
  go_enter Tryd.func44, Tryd.ntmps44
  go_wp2_with fail
  have hb0 : Below w.heap.size w (w.alloc (.cells #[.pointer none, .slice none 0 0] 106)) := (Below.refl _ _).alloc (Nat.le_refl _) _
  have HI0 : Hid (Lib.IsBuilder 106 5 w.heap.size w.heap.size (Lib.byteCells (fmtK ns 0)) (w.alloc (.cells #[.pointer none, .slice none 0 0] 106))) := Lib.hid (.inl ⟨Nat.le_refl _, .slice none 0 0, heap_alloc_new _ _, World.ownsRow_nil _ _ _ _, by simp [Value.ownBlock]⟩)
  generalize w.alloc (.cells #[.pointer none, .slice none 0 0] 106) = W0 at *
  go_loopw [8] (fun v8 wr => ∃ k : Nat, k ≤ ns.length ∧ v8 = .int .i64 k ∧ Lib.IsBuilder 106 5 w.heap.size w.heap.size (Lib.byteCells (fmtK ns k)) wr ∧ Below w.heap.size w wr) (fun v8 _ => ns.length - (intOf v8).toNat)
  case atStart => exact ⟨0, by omega, rfl, HI0.out, hb0⟩
  case round =>
    clear HI0 hb0
    obtain ⟨k, hk, rfl, hib, hb⟩ := hrel
    have HIB := Lib.hid hib
    have hll := HLL.out k
    by_cases hlt : k < ns.length
    · have hkk : (k : Int) < ns.length := by omega
      have HX := Lib.hid (List.getElem?_eq_getElem hlt)
      have HSM := Lib.hid (HSA.out _ (List.getElem_mem hlt))
      generalize ns[k] = x at *
      have HS := Lib.hid (fmtK_step HX.out)
      obtain ⟨ad, rfl, hbl, c0, c1, c3, B, bc, c2, hB⟩ := HNN.out.cells HX.out
      have hbk : ∀ p : Addr, p.block = ad.block → wr.cell? p = w.cell? p := fun p hp => hb.cell (p := p) (by rw [hp]; exact hbl)
      have a0 := (hbk (ad.add (k * 4)) (by rw [addB])).trans c0
      have a1 : wr.cell? ⟨(ad.add (k * 4)).block, (ad.add (k * 4)).off + 1, none⟩ = some (.int .i64 x.wd) := (hbk ((ad.add (k * 4)).add 1) (by rw [addB, addB])).trans c1
      have a2 : wr.cell? ⟨(ad.add (k * 4)).block, (ad.add (k * 4)).off + 2, none⟩ = some (.slice B x.args.length bc) := (hbk ((ad.add (k * 4)).add 2) (by rw [addB, addB])).trans c2
      have a3 : wr.cell? ⟨(ad.add (k * 4)).block, (ad.add (k * 4)).off + 3, none⟩ = some (.int .i64 x.v) := (hbk ((ad.add (k * 4)).add 3) (by rw [addB, addB])).trans c3
      clear c0 c1 c2 c3 hbk
      have HBL := Lib.hid hB
      clear hB
      obtain ⟨op, wd, args, v⟩ := x
      obtain ⟨o, wd, v, ho, hwd, hv, e1, e2, e3⟩ := HSM.out.nums
      simp only at e1 e2 e3
      subst e1
      subst e2
      subst e3
      simp only at a0 a1 a2 a3 HBL HS
      have hbx : w.heap.size < wr.heap.size := by
        rcases hib with h | h
        · obtain ⟨_, _, hbk, _⟩ := h; exact (Array.getElem?_eq_some_iff.1 hbk).1
        · obtain ⟨_, _, hbk, _⟩ := h; exact (Array.getElem?_eq_some_iff.1 hbk).1
      have rn : (wr.alloc (.cells #[.int .i64 o, .int .i64 wd, .slice B args.length bc, .int .i64 v] 65)).heap[wr.heap.size]? = some (.cells #[.int .i64 o, .int .i64 wd, .slice B args.length bc, .int .i64 v] 65) := heap_alloc_new _ _
      have hb1 : Below w.heap.size w (wr.alloc (.cells #[.int .i64 o, .int .i64 wd, .slice B args.length bc, .int .i64 v] 65)) := hb.alloc hb.size _
      have HIB1 := Lib.hid (isB_below HIB.out (show Below wr.heap.size wr (wr.alloc (.cells #[.int .i64 o, .int .i64 wd, .slice B args.length bc, .int .i64 v] 65)) from (Below.refl _ _).alloc (Nat.le_refl _) _))
      have ho2 : ((o : Nat) : Int).toNat = o := Int.toNat_natCast o
      rw [ho2] at HS
      clear hib ho2
      by_cases hk0 : 0 < k
      · rw [if_pos hk0] at HS
        have hkp : (0 : Int) < k := by omega
        have HWB := Lib.hid (WriteByte_c w.heap.size w.heap.size (Lib.byteCells (fmtK ns k)) 59 _ HIB1.out (by rw [Lib.byteCells_length]; omega) hb1.size)
        go_wp2_with fail
        refine HWB.out.mono ?_
        rintro e W2 ⟨rfl, hB2, hb2, hk2⟩
        have rn2 := hk2.2 _ _ rn (by omega) (not_u8 (by decide))
        have HBW := Lib.hid (hb1.trans hb2)
        have hB2' : Lib.BuilderAt 106 5 w.heap.size w.heap.size (.pointer (some ⟨w.heap.size, 0, none⟩)) (Lib.byteCells (fmtK ns k ++ [59])) W2 := by rw [Lib.byteCells_append]; exact hB2
        have s0 := cell_block (i := 0) rn2
        have s1 := cell_block (i := 1) rn2
        have s2 := cell_block (i := 2) rn2
        have s3 := cell_block (i := 3) rn2
        simp at s0 s1 s2 s3
        have ln := lt_of_get rn2
        clear rn rn2 hb1 hb2 hk2 hB2 a0 a1 a2 a3 hb
        have HWN := Lib.hid (writeNode_c o wd v ho hwd hv args HSM.out.sm HSM.out.al B bc w.heap.size w.heap.size (fmtK ns k ++ [59]) (by rw [List.length_append]; simp only [List.length_cons, List.length_nil]; omega) w W2 (Nat.le_refl _) HBW.out HBL.out HT.out (.inr hB2') HBW.out.size)
        go_wp2_with fail
        refine HWN.out.mono ?_
        rintro e W9 ⟨⟨ev, rfl⟩, hB9, hb9, _⟩
        have HF := Lib.hid (show Lib.IsBuilder 106 5 w.heap.size w.heap.size (Lib.byteCells (fmtK ns (k + 1))) W9 ∧ Below w.heap.size w W9 from ⟨.inr (by rw [HS.out]; exact hB9), HBW.out.trans hb9⟩)
        clear hB9 hb9
        go_wp2
        go_roundw
        case rel => exact ⟨k + 1, by omega, by go_num, HF.out.1, HF.out.2⟩
        case measure => simp [intOf]; omega
      · rw [if_neg hk0, List.append_nil] at HS
        have hk1 : ¬ (0 : Int) < k := by omega
        have hbW : ∀ W, W = wr.alloc (.cells #[.int .i64 o, .int .i64 wd, .slice B args.length bc, .int .i64 v] 65) → Below w.heap.size w W := fun W h => by rw [h]; exact hb1
        have HBW := Lib.hid hb1
        clear hbW rn hb1
        have HWN := Lib.hid (writeNode_c o wd v ho hwd hv args HSM.out.sm HSM.out.al B bc w.heap.size w.heap.size (fmtK ns k) (by omega) w _ (Nat.le_refl _) HBW.out HBL.out HT.out HIB1.out HBW.out.size)
        go_wp2_with fail
        refine HWN.out.mono ?_
        rintro e W9 ⟨⟨ev, rfl⟩, hB9, hb9, _⟩
        have HF := Lib.hid (show Lib.IsBuilder 106 5 w.heap.size w.heap.size (Lib.byteCells (fmtK ns (k + 1))) W9 ∧ Below w.heap.size w W9 from ⟨.inr (by rw [HS.out]; exact hB9), HBW.out.trans hb9⟩)
        clear hB9 hb9
        go_wp2
        go_roundw
        case rel => exact ⟨k + 1, by omega, by go_num, HF.out.1, HF.out.2⟩
        case measure => simp [intOf]; omega
    · obtain rfl : k = ns.length := by omega
      have HST := Lib.hid (Tryd.Builder_String_any w.heap.size w.heap.size (fmtK ns ns.length) wr HIB.out hb.size)
      clear hib
      go_wp2_with fail
      refine HST.out.mono ?_
      rintro e W9 ⟨rfl, hb9⟩
      have HF := Lib.hid (hb.trans hb9)
      clear hb9
      go_wp2
      go_ret
      exact ⟨rfl, Below.aft HF.out⟩

end Go.Proofs.YtkdonapgonegkaaDoor

set_option linter.unusedSimpArgs false
set_option linter.unusedVariables false
namespace Go.Proofs.YtkdonapgonegkaaDoor
open Go.RowKit Go.BigFrame
attribute [local go_sem] Oper.semAt_some

/-- Two named nodes differ in a trial. -/
def dif (ls : List Int) (ns : List Nd) (fr : List Int) (k : Nat) : Prop := ¬ (triN ls ns fr k).getD 0 0 = (triN ls ns fr k).getD 1 0
def DiffR (w : World) (ls : List Int) (ns : List Nd) (fr : List Int) (e : Ending) (w' : World) : Prop :=
  ((∃ (k : Nat) (A' : Option Addr) (cap' : Nat), (k : Int) < pw (bitsL ls ns fr) ∧ dif ls ns fr k ∧ (∀ j : Nat, j < k → ¬ dif ls ns fr j) ∧ e = .returned (.tuple #[.slice A' ls.length cap', .int .i64 0]) ∧ LiesI w' A' (triV ls ns fr k)) ∨
    ((∀ j : Nat, (j : Int) < pw (bitsL ls ns fr) → ¬ dif ls ns fr j) ∧ e = .returned (.tuple #[.slice none 0 0, .int .i64 12]))) ∧ Below w.heap.size w w'
theorem Below.put2 {W1 W y : World} {l : Nat} {o o' : Obj} (h : Below W1.heap.size W1 W) (hl : W1.heap[l]? = some o) (hy : Below W.heap.size (W.putObj l o') y) : Below W1.heap.size W1 (y.putObj l o) := by
  have h1 := hy.size
  rw [World.putObj_size] at h1
  refine ⟨hy.os.trans h.os, hy.tape.trans h.tape, hy.output.trans h.output, by rw [World.putObj_size]; exact Nat.le_trans h.size h1, fun k hk => ?_⟩
  by_cases e : k = l
  · subst e
    rw [World.putObj_heap_same (by have := h.size; omega), hl]
  · rw [World.putObj_heap_other e, hy.block k (Nat.lt_of_lt_of_le hk h.size), World.putObj_heap_other e]
    exact h.block k hk
theorem heap_set_other {W : World} {g m k : Nat} {ob : Obj} {v : Value} (h : W.heap[m]? = some ob) (hne : ¬ m = g) : (W.setCell ⟨g, k, none⟩ v).heap[m]? = some ob := (heap_setCell_ne (fun e => hne e.symm)).trans h
theorem Below.putObj {B : Nat} {w W : World} {l : Nat} {o : Obj} (h : Below B w W) (hs : B ≤ W.heap.size) (hl : B ≤ l) : Below B w (W.putObj l o) := h.grown (grownBy_putObj' W l o) hs (fun k e => by cases e; exact hl)
theorem LiesI.putD {W : World} {l : Nat} {o ob : Obj} {A : Option Addr} {xs : List Int} (h : LiesI W A xs) (hl : W.heap[l]? = some ob) (hne : ∀ c T z, ob = .cells c T z → False) : LiesI (W.putObj l o) A xs := fun hp => by
  obtain ⟨ad, rfl, hb, hc⟩ := h hp
  refine ⟨ad, rfl, by simpa [World.putObj] using hb, fun i x hi => cell_put_ne (hc i x hi) ?_⟩
  intro e
  have h0 := hc i x hi
  unfold World.cell? at h0
  rw [e, hl] at h0
  cases ob with
  | cells c T z => exact hne c T z rfl
  | _ => cases h0
theorem LiesI.two {W : World} {A : Option Addr} {x : List Int} (h : LiesI W A x) (hx : x.length = 2) : ∃ ad, A = some ad ∧ ad.block < W.heap.size ∧ W.cell? ad = some (.int .i64 (x.getD 0 0)) ∧ W.cell? ⟨ad.block, ad.off + 1, none⟩ = some (.int .i64 (x.getD 1 0)) := by
  match x, hx with
  | [a, b], _ =>
    obtain ⟨ad, rfl, hb, hc⟩ := h (by simp)
    exact ⟨ad, rfl, hb, hc 0 a rfl, hc 1 b rfl⟩

set_option maxRecDepth 100000 in
set_option maxHeartbeats 1600000 in
theorem DifferenceOf_ok (A : Option Addr) (cap : Nat) (ls : List Int) (hls : ls.length ≤ 65536) (N : Option Addr) (capN : Nat) (ns : List Nd) (hns : ns.length ≤ 65536) (hcap : ns.length ≤ capN) (hla : ∀ n ∈ ns, n.args.length ≤ 65536) (i j : Nat) (ni nj : Nd) (hi : ns[i]? = some ni) (hj : ns[j]? = some nj) (hwd : ni.wd = nj.wd) (hbit : bitsL ls ns [(i : Int), (j : Int)] ≤ 12) (hc : (chk ls ns).2 = 0) (ok : TriOK ls ns [(i : Int), (j : Int)]) (w : World) (hA : LiesI w A ls) (hN : LiesN w N ns) (ht : TabOps w) :
    Calls Tryd.prog 35 #[.slice A ls.length cap, .slice N ns.length capN, .int .i64 i, .int .i64 j] w (DiffR w ls ns [(i : Int), (j : Int)]) := by
  have hi' := (List.getElem?_eq_some_iff.1 hi).1
  have hj' := (List.getElem?_eq_some_iff.1 hj).1
  have HFE := Lib.hid (show fromE ls ns [(i : Int), (j : Int)] = 0 by
    unfold fromE thenE; rw [if_pos hc]; unfold argsE; rw [if_pos]; simp [isIx]; omega)
  have HOK := Lib.hid ok
  have HA := Lib.hid hA
  have HN := Lib.hid hN
  have HEF := Lib.hid (fun (W : World) (hb : Below w.heap.size w W) F cf (hF : LiesI W F [(i : Int), (j : Int)]) => errorOfFrom_c A cap ls hls N capN ns hns hcap hla F cf [(i : Int), (j : Int)] (by simp) W (hA.below hb) (hN.below hb) hF (ht.below hb))
  have HBB := Lib.hid (fun (W : World) (hb : Below w.heap.size w W) F cf (hF : LiesI W F [(i : Int), (j : Int)]) => bitsBelow_c A cap ls hls HOK.out.lw N capN ns hns HOK.out.all F cf [(i : Int), (j : Int)] (by simp) HOK.out.fx W (hA.below hb) (hN.below hb) hF)
  have HTR := Lib.hid (fun (W : World) (hb : Below w.heap.size w W) F cf (hF : LiesI W F [(i : Int), (j : Int)]) => trials_c A cap ls hls N capN ns hns HOK.out.all F cf [(i : Int), (j : Int)] (by simp) HOK.out.fx W (hA.below hb) (hN.below hb) hF)
  have HCI := Lib.hid hi
  have HCJ := Lib.hid hj
  have HWD := Lib.hid hwd
  clear hA hN ht hla hcap hc ok hi hj hwd
  refine (callsIn_wide (n := 9)).1 ?_
  refine callsIn_of_wp_marks Tryd.func35 rfl trivial ?_
  simp only [Tryd.ntmps35, List.size_toArray, List.length_cons, List.length_nil, Nat.reduceAdd, Nat.reduceSub, Array.replicate_succ, Array.replicate_zero, List.push_toArray, List.append_toArray, List.nil_append, List.cons_append]
  gi_wp2_with fail
  have r1 : (((w.alloc (.cells #[.slice none 0 0] 22)).alloc (.cells #[.int .i64 0] 26)).alloc (.cells #[.int .i64 i, .int .i64 j] 3)).heap[w.heap.size]? = some (.cells #[.slice none 0 0] 22) := heap_alloc' (by simp; omega) (heap_alloc' (by simp) (heap_alloc_new _ _))
  have r2 : (((w.alloc (.cells #[.slice none 0 0] 22)).alloc (.cells #[.int .i64 0] 26)).alloc (.cells #[.int .i64 i, .int .i64 j] 3)).heap[w.heap.size + 1]? = some (.cells #[.int .i64 0] 26) := heap_alloc' (by simp) (heap_alloc_at (by simp))
  have r3 : (((w.alloc (.cells #[.slice none 0 0] 22)).alloc (.cells #[.int .i64 0] 26)).alloc (.cells #[.int .i64 i, .int .i64 j] 3)).heap[w.heap.size + 2]? = some (.cells #[.int .i64 i, .int .i64 j] 3) := heap_alloc_at (by simp)
  have hb0 : Below w.heap.size w (((w.alloc (.cells #[.slice none 0 0] 22)).alloc (.cells #[.int .i64 0] 26)).alloc (.cells #[.int .i64 i, .int .i64 j] 3)) := (((Below.refl _ _).alloc (Nat.le_refl _) _).alloc (by simp) _).alloc (by simp; omega) _
  generalize (((w.alloc (.cells #[.slice none 0 0] 22)).alloc (.cells #[.int .i64 0] 26)).alloc (.cells #[.int .i64 i, .int .i64 j] 3)) = W0 at *
  have hF0 : LiesI W0 (some ⟨w.heap.size + 2, 0, none⟩) [(i : Int), (j : Int)] := LiesI.block r3
  refine ⟨trivial, ?_⟩
  refine (callsIn_wide.2 (HEF.out W0 hb0 (some ⟨w.heap.size + 2, 0, none⟩) 2 hF0)).mono ?_
  rw [HFE.out]
  rintro e w' ⟨rfl, x1, rfl⟩
  have r1 := heap_aft x1 (lt_of_get r1) r1
  have r2 := heap_aft x1 (lt_of_get r2) r2
  have hF1 := hF0.aft x1
  have hb1 := x1.below hb0 hb0.size
  clear r3 hb0 hF0 HEF
  generalize x1.val = W1 at *
  have HI := Lib.hid (fun (z : Aft W1) => HN.out.below (z.below hb1 hb1.size))
  obtain ⟨ad, rfl, hbl, _, ci, _⟩ := HN.out.cells HCI.out
  obtain ⟨ad', had', _, _, cj, _⟩ := HN.out.cells HCJ.out
  injection had' with had'
  subst had'
  have di : ∀ z : Aft W1, z.val.cell? ⟨(ad.add (i * 4)).block, (ad.add (i * 4)).off + 1, none⟩ = some (.int .i64 ni.wd) := fun z => ((z.below hb1 hb1.size).cell (p := (ad.add (i * 4)).add 1) (by rw [addB, addB]; exact hbl)).trans ci
  have dj : ∀ z : Aft W1, z.val.cell? ⟨(ad.add (j * 4)).block, (ad.add (j * 4)).off + 1, none⟩ = some (.int .i64 ni.wd) := fun z => ((z.below hb1 hb1.size).cell (p := (ad.add (j * 4)).add 1) (by rw [addB, addB]; exact hbl)).trans (by rw [HWD.out]; exact cj)
  have hij : (i : Int) < ns.length := by omega
  have hjj : (j : Int) < ns.length := by omega
  clear ci cj
  gi_wp2_with fail
  refine wpIn_wide.2 ?_
  refine wp_region_aft (by kernel_rfl) (by kernel_rfl) ?_
  repeat (go_big_quiet_step (fail))
  refine wpQuiet_nil ?_
  intro x2
  have r1 := heap_aft x2 (lt_of_get r1) r1
  have r2 := heap_aft x2 (lt_of_get r2) r2
  have hF2 := hF1.aft x2
  have hb2 := x2.below hb1 hb1.size
  clear di dj hF1 hb1 HI
  generalize x2.val = W2 at *
  have hbt := sumK_bd (xs := lbL ns [(i : Int), (j : Int)] ls.length) HOK.out.lw (lbL ns [(i : Int), (j : Int)] ls.length).length
  have hb0' : 0 ≤ bitsL ls ns [(i : Int), (j : Int)] := hbt.1
  have hng : ¬ (12 : Int) < bitsL ls ns [(i : Int), (j : Int)] := by omega
  clear hbt
  have HBT : Hid (bitsL ls ns [(i : Int), (j : Int)] ≤ 12) := Lib.hid hbit
  clear hbit
  gi_wp2_with (refine ⟨trivial, ?_⟩; gi_at_call 73; refine (callsIn_wide.2 (HBB.out W2 hb2 _ 2 hF2)).mono ?_; rintro e w' ⟨rfl, x3, rfl⟩; have r1 := heap_aft x3 (lt_of_get r1) r1; have r2 := heap_aft x3 (lt_of_get r2) r2; have hF3 := hF2.aft x3; have hb3 := x3.below hb2 hb2.size; clear hF2 hb2; generalize x3.val = W3 at *)
  refine ⟨trivial, ?_⟩
  refine (callsIn_wide.2 (HTR.out W3 hb3 _ 2 hF3)).mono ?_
  rintro e W4 ⟨b3, b4, b5, b9, b7, b8, rfl, hct, hb4⟩
  have r1 := (hb4.block _ (lt_of_get r1)).trans r1
  have r2 := (hb4.block _ (lt_of_get r2)).trans r2
  have hb5 := hb3.trans (hb4.mono hb3.size)
  clear hb3 hb4 hF3 HBB HTR
  gi_wp2_with fail
  have hR1 : w.heap.size < W4.heap.size := lt_of_get r1
  have hR2 : w.heap.size + 1 < W4.heap.size := lt_of_get r2
  generalize hfr : [(i : Int), (j : Int)] = fr at *
  have HB5 := Lib.hid hb5
  refine range_wide (gf := 94) (lb := #[.pointer (some ⟨b3, 0, none⟩), .pointer (some ⟨b4, 0, none⟩), .pointer (some ⟨b5, 0, none⟩), .pointer (some ⟨b9, 0, none⟩), .pointer (some ⟨b7, 0, none⟩), .pointer (some ⟨b8, 0, none⟩)]) rfl (enters_of Tryd.func94 (by kernel_rfl) rfl) (fun fn r W5 hr hL5 hD5 hb45 => ?_)
  have HF2 : Hid (fr.length = 2) := Lib.hid (by rw [← hfr]; rfl)
  obtain ⟨J, hJ⟩ : ∃ J : Nat → World → Prop, J = fun k W => Below W5.heap.size W5 W ∧ ∀ m : Nat, m < k → ¬ dif ls ns fr m := ⟨_, rfl⟩
  obtain ⟨Jx, hJx⟩ : ∃ Jx : Nat → World → Prop, Jx = fun k W => W.heap[W4.heap.size + 1]? = some (.loop { r with state := .done, pending := some .ret }) ∧ W.heap[W4.heap.size]? = some (.deferred (some [])) ∧ dif ls ns fr k ∧ (∀ m : Nat, m < k → ¬ dif ls ns fr m) ∧ Below w.heap.size w W ∧
    ∃ A1 c1, W.heap[w.heap.size]? = some (.cells #[.slice A1 ls.length c1] 22) ∧ W.heap[w.heap.size + 1]? = some (.cells #[.int .i64 0] 26) ∧ LiesI W A1 (triV ls ns fr k) := ⟨_, rfl⟩
  refine (trials1_in 8 b3 b4 b5 b9 b7 b8 ls ns fr HOK.out W4 hct (W4.heap.size + 1) J Jx ?jb ?j0 ?hy W5 ?start).mono ?fin
  case jb => intro k W W' h hb; rw [hJ] at h ⊢; exact ⟨h.1.trans (hb.mono h.1.size), h.2⟩
  case j0 => intro k W h; rw [hJ] at h; exact hb45.trans (h.1.mono hb45.size)
  case start => rw [hJ]; exact ⟨Below.refl _ _, fun m hm => by omega⟩
  case hy =>
    intro k W A1 c1 A2 c2 hj hk hl1 hf1 hl2
    rw [hJ] at hj
    obtain ⟨hjb, hjd⟩ := hj
    have hL := (hjb.block _ (lt_of_get hL5)).trans hL5
    have hD := (hjb.block _ (lt_of_get hD5)).trans hD5
    have hb4 := hb45.trans (hjb.mono hb45.size)
    have s1 := (hb4.block _ hR1).trans r1
    have s2 := (hb4.block _ hR2).trans r2
    have hbW := HB5.out.trans (hb4.mono HB5.out.size)
    have HJD := Lib.hid hjd
    have HJB := Lib.hid hjb
    have HL5 := Lib.hid hL5
    have HL := Lib.hid hL
    have HJE := Lib.hid hJ
    have HJX := Lib.hid hJx
    have HRR := Lib.hid hr
    clear hjd hjb hL5 hJ hJx
    have hsz : (#[Value.slice A1 ls.length c1, Value.slice A2 fr.length c2] : Array Value).size = r.params.size := by rw [hr]; rfl
    have ea := congrArg Loop.assign hr
    have eb := congrArg Loop.body hr
    have ep := congrArg Loop.params hr
    have et := congrArg Loop.tmps hr
    simp only at ea eb ep et
    have est : r.state = .ready := by rw [hr]
    have epd : r.pending = none := by rw [hr]
    clear hr
    refine yield_wide hL hsz est ?_
    rw [ea, eb, ep, et]
    have EST := Lib.hid est
    have EPD := Lib.hid epd
    clear ea eb ep et hsz est epd
    gi_wp2
    rintro rb Wb hrb hWb
    have hrb := hrb.out
    have hWb := hWb.out
    have lLW : W4.heap.size + 1 < W.heap.size := lt_of_get hL
    have hLb : Wb.heap[W4.heap.size + 1]? = some (.loop rb) := by rw [hWb]; exact World.putObj_heap_same lLW
    have hDb : Wb.heap[W4.heap.size]? = some (.deferred (some [])) := by rw [hWb]; exact heap_put_ne hD (by omega)
    have t1 : Wb.heap[w.heap.size]? = some (.cells #[.slice none 0 0] 22) := by rw [hWb]; exact heap_put_ne s1 (by omega)
    have t2 : Wb.heap[w.heap.size + 1]? = some (.cells #[.int .i64 0] 26) := by rw [hWb]; exact heap_put_ne s2 (by omega)
    have hl1b : LiesI Wb A1 (triV ls ns fr k) := by rw [hWb]; exact hl1.put hL
    have hl2b : LiesI Wb A2 (triN ls ns fr k) := by rw [hWb]; exact hl2.put hL
    have HWB := Lib.hid (fun y (h : Below Wb.heap.size Wb y) => (by rw [hWb, World.putObj_size] at h; exact Below.put2 (o := .loop r) HJB.out HL5.out h : Below W5.heap.size W5 (y.putObj (W4.heap.size + 1) (.loop r))))
    have HRB := Lib.hid hrb
    have HDF : Hid (dif ls ns fr k ↔ ¬ (triN ls ns fr k).getD 0 0 = (triN ls ns fr k).getD 1 0) := Lib.hid Iff.rfl
    obtain ⟨a2, rfl, hab, q0, q1⟩ := hl2b.two (by rw [triN_len]; exact HF2.out)
    rw [HF2.out]
    have HBW : Hid (∀ y, Below Wb.heap.size Wb y → Below w.heap.size w (y.putObj (W4.heap.size + 1) (.loop r))) := Lib.hid (fun y h => HB5.out.trans ((hb45.trans ((HWB.out y h).mono hb45.size)).mono HB5.out.size))
    have HBV : Hid (Below w.heap.size w Wb) := Lib.hid (by rw [hWb]; exact Below.putObj hbW hbW.size (by omega))
    have HF1 := Lib.hid hf1
    have HT1 := Lib.hid t1
    have HT2 := Lib.hid t2
    have HL1 := Lib.hid hl1b
    clear hL hD s1 s2 hbW hl1 hl2 hl2b hrb hWb hl1b hb4 hD5 hb45
    generalize (triN ls ns fr k).getD 0 0 = x0 at *
    generalize (triN ls ns fr k).getD 1 0 = x1 at *
    have hmx : Tryd.prog.follows .mixedOrders = true := by kernel_rfl
    by_cases hxx : x0 = x1
    · have hn1 : (x0 != x1) = false := by simpa using hxx
      have HNO := Lib.hid (fun h => (HDF.out.1 h) hxx)
      clear hxx
      gi_wp2
      gi_region_with_o (fail)
      all_goals gi_wp2
      all_goals
        have hback : ({ rb with state := if (none : Option Code).isNone then LoopState.ready else LoopState.done, pending := none } : Loop) = r := by
          have h1 := EST.out
          have h2 := EPD.out
          rw [HRB.out]
          unfold busyL
          cases r
          simp only at h1 h2 ⊢
          subst h1
          subst h2
          rfl
        refine ⟨_, _, run_endRound none (show (Wb.drew).heap[W4.heap.size + 1]? = some (.loop rb) from hLb), .inr ⟨rfl, ?_⟩⟩
        rw [hback, HJE.out]
        refine ⟨HWB.out _ (Below.refl _ _).drew, fun m hm => ?_⟩
        by_cases hmk : m = k
        · subst hmk; exact HNO.out
        · exact HJD.out m (by omega)
    · have hn1 : (x0 != x1) = true := by simpa using hxx
      have HYE := Lib.hid (HDF.out.2 hxx)
      clear hxx
      have u1 := cell_block (i := 0) t1
      have u2 := cell_block (i := 0) t2
      have f1 := free_block (i := 0) t1
      have f2 := free_block (i := 0) t2
      simp at u1 u2
      have hlb1 := lt_of_get t1
      have hlb2 := lt_of_get t2
      gi_wp2
      gi_region_with_o (fail)
      all_goals gi_wp2
      all_goals
        have hSL : ((Wb.drew.setCell ⟨w.heap.size, 0, none⟩ (.slice A1 ls.length c1)).setCell ⟨w.heap.size + 1, 0, none⟩ (.int .i64 0)).heap[W4.heap.size + 1]? = some (.loop rb) := heap_set_other (heap_set_other hLb (by omega)) (by omega)
        refine ⟨_, _, run_endRound (some .ret) hSL, .inl ⟨rfl, ?_⟩⟩
        have hrec : ({ rb with state := if (some Code.ret).isNone then LoopState.ready else LoopState.done, pending := some .ret } : Loop) = { r with state := .done, pending := some .ret } := by rw [HRB.out]; rfl
        rw [hrec]
        have hS1 : ((Wb.setCell ⟨w.heap.size, 0, none⟩ (.slice A1 ls.length c1)).setCell ⟨w.heap.size + 1, 0, none⟩ (.int .i64 0)).heap[w.heap.size]? = some (.cells #[.slice A1 ls.length c1] 22) := heap_set_other ((heap_set HT1.out).trans (by simp)) (by omega)
        have hS2 : ((Wb.setCell ⟨w.heap.size, 0, none⟩ (.slice A1 ls.length c1)).setCell ⟨w.heap.size + 1, 0, none⟩ (.int .i64 0)).heap[w.heap.size + 1]? = some (.cells #[.int .i64 0] 26) := (heap_set (heap_set_other HT2.out (by omega))).trans (by simp)
        have hSD : ((Wb.setCell ⟨w.heap.size, 0, none⟩ (.slice A1 ls.length c1)).setCell ⟨w.heap.size + 1, 0, none⟩ (.int .i64 0)).heap[W4.heap.size]? = some (.deferred (some [])) := heap_set_other (heap_set_other hDb (by omega)) (by omega)
        have hSB : Below w.heap.size w ((Wb.setCell ⟨w.heap.size, 0, none⟩ (.slice A1 ls.length c1)).setCell ⟨w.heap.size + 1, 0, none⟩ (.int .i64 0)) := (HBV.out.setCell (p := ⟨w.heap.size, 0, none⟩) (Nat.le_refl _) _).setCell (p := ⟨w.heap.size + 1, 0, none⟩) (Nat.le_succ _) _
        have hSA : LiesI ((Wb.setCell ⟨w.heap.size, 0, none⟩ (.slice A1 ls.length c1)).setCell ⟨w.heap.size + 1, 0, none⟩ (.int .i64 0)) A1 (triV ls ns fr k) := (HL1.out.set (fun ad h => by have := HF1.out ad h; omega)).set (fun ad h => by have := HF1.out ad h; omega)
        have hSL' : ((Wb.setCell ⟨w.heap.size, 0, none⟩ (.slice A1 ls.length c1)).setCell ⟨w.heap.size + 1, 0, none⟩ (.int .i64 0)).heap[W4.heap.size + 1]? = some (.loop rb) := heap_set_other (heap_set_other hLb (by omega)) (by omega)
        generalize (Wb.setCell ⟨w.heap.size, 0, none⟩ (.slice A1 ls.length c1)).setCell ⟨w.heap.size + 1, 0, none⟩ (.int .i64 0) = S at *
        have hSd : Below S.heap.size S S.drew := (Below.refl _ _).drew
        rw [HJX.out]
        exact ⟨World.putObj_heap_same (lt_of_get hSL'), heap_put_ne (W := S.drew) hSD (by omega), HYE.out, HJD.out, Below.putObj (hSB.drew) (by simpa using hSB.size) (by omega), A1, c1, heap_put_ne (W := S.drew) hS1 (by omega), heap_put_ne (W := S.drew) hS2 (by omega), (hSA.below hSd).put (W := S.drew) (r := rb) hSL'⟩
  case fin =>
    rintro e W6 ⟨⟨v, rfl⟩, hres⟩
    rcases hres with ⟨T, hT, hj⟩ | ⟨k, hk, hx⟩
    · rw [hJ] at hj
      obtain ⟨hjb, hjd⟩ := hj
      have hL6 := (hjb.block _ (lt_of_get hL5)).trans hL5
      have hD6 := (hjb.block _ (lt_of_get hD5)).trans hD5
      have hb46 := hb45.trans (hjb.mono hb45.size)
      have s1 := (hb46.block _ hR1).trans r1
      have s2 := (hb46.block _ hR2).trans r2
      have hb6 := HB5.out.trans (hb46.mono HB5.out.size)
      have hend := run_endLoop (P := Tryd.prog) hL6 (by rw [hr]; simp)
      rw [show r.pending = none by rw [hr]] at hend
      refine ⟨none, _, hend, ?_⟩
      have t1 := heap_put_ne (l := W4.heap.size + 1) (o := .loop { r with state := .exhausted, pending := none }) s1 (by omega)
      have t2 := heap_put_ne (l := W4.heap.size + 1) (o := .loop { r with state := .exhausted, pending := none }) s2 (by omega)
      have tD := heap_put_ne (l := W4.heap.size + 1) (o := .loop { r with state := .exhausted, pending := none }) hD6 (by omega)
      have hb7 := Below.putObj (l := W4.heap.size + 1) (o := .loop { r with state := .exhausted, pending := none }) hb6 hb6.size (by omega)
      have HALL := Lib.hid (show ∀ m : Nat, (m : Int) < pw (bitsL ls ns fr) → ¬ dif ls ns fr m from fun m hm => hjd m (by omega))
      generalize W6.putObj (W4.heap.size + 1) (.loop { r with state := .exhausted, pending := none }) = W7 at *
      dsimp only
      clear hjb hjd hL6 hD6 hb46 s1 s2 hb6 hL5 hD5 hb45 hr hJ hJx
      have u1 := cell_block (i := 0) t1
      have u2 := cell_block (i := 0) t2
      have f1 := free_block (i := 0) t1
      have f2 := free_block (i := 0) t2
      simp at u1 u2
      gi_wp2
      have x1 := (heap_set t1 (k := 0) (v := .slice none 0 0)).trans (show _ = some (.cells #[.slice none 0 0] 22) by simp)
      have z1 : ((W7.setCell ⟨w.heap.size, 0, none⟩ (.slice none 0 0)).setCell ⟨w.heap.size + 1, 0, none⟩ (.int .i64 12)).heap[w.heap.size]? = some (.cells #[.slice none 0 0] 22) := heap_set_other x1 (by omega)
      have z2 : ((W7.setCell ⟨w.heap.size, 0, none⟩ (.slice none 0 0)).setCell ⟨w.heap.size + 1, 0, none⟩ (.int .i64 12)).heap[w.heap.size + 1]? = some (.cells #[.int .i64 12] 26) := (heap_set (heap_set_other t2 (by omega))).trans (by simp)
      have zD : ((W7.setCell ⟨w.heap.size, 0, none⟩ (.slice none 0 0)).setCell ⟨w.heap.size + 1, 0, none⟩ (.int .i64 12)).heap[W4.heap.size]? = some (.deferred (some [])) := heap_set_other (heap_set_other tD (by omega)) (by omega)
      have zB : Below w.heap.size w ((W7.setCell ⟨w.heap.size, 0, none⟩ (.slice none 0 0)).setCell ⟨w.heap.size + 1, 0, none⟩ (.int .i64 12)) := (hb7.setCell (p := ⟨w.heap.size, 0, none⟩) (Nat.le_refl _) _).setCell (p := ⟨w.heap.size + 1, 0, none⟩) (Nat.le_succ _) _
      generalize (W7.setCell ⟨w.heap.size, 0, none⟩ (.slice none 0 0)).setCell ⟨w.heap.size + 1, 0, none⟩ (.int .i64 12) = W8 at *
      refine ⟨by simp, .inl ⟨_, _, rfl, run_takeDeferred zD, ?_⟩⟩
      have v1 := heap_put_ne (l := W4.heap.size) (o := .deferred none) z1 (by omega)
      have v2 := heap_put_ne (l := W4.heap.size) (o := .deferred none) z2 (by omega)
      have hb8 := Below.putObj (l := W4.heap.size) (o := .deferred none) zB zB.size (by omega)
      have w1 := cell_block (i := 0) v1
      have w2 := cell_block (i := 0) v2
      simp at w1 w2
      refine ⟨_, (by simp [results, Tryd.results35, go_sem, w1, w2]; try rfl), ?_⟩
      exact ⟨.inr ⟨HALL.out, rfl⟩, hb8⟩
    · rw [hJx] at hx
      obtain ⟨hL6, hD6, hdk, hdm, hb6, A1, c1, q1, q2, hA1⟩ := hx
      have hend := run_endLoop (P := Tryd.prog) hL6 (by simp)
      refine ⟨some .ret, _, hend, ?_⟩
      have t1 := heap_put_ne (l := W4.heap.size + 1) (o := .loop { r with state := .exhausted, pending := some .ret }) q1 (by omega)
      have t2 := heap_put_ne (l := W4.heap.size + 1) (o := .loop { r with state := .exhausted, pending := some .ret }) q2 (by omega)
      have tD := heap_put_ne (l := W4.heap.size + 1) (o := .loop { r with state := .exhausted, pending := some .ret }) hD6 (by omega)
      have hb7 := Below.putObj (l := W4.heap.size + 1) (o := .loop { r with state := .exhausted, pending := some .ret }) hb6 hb6.size (by omega)
      have hA7 := hA1.put (o := .loop { r with state := .exhausted, pending := some .ret }) hL6
      generalize W6.putObj (W4.heap.size + 1) (.loop { r with state := .exhausted, pending := some .ret }) = W7 at *
      dsimp only
      have u1 := cell_block (i := 0) t1
      have u2 := cell_block (i := 0) t2
      have f1 := free_block (i := 0) t1
      have f2 := free_block (i := 0) t2
      simp at u1 u2
      gi_wp2
      refine ⟨by simp, .inl ⟨_, _, rfl, run_takeDeferred tD, ?_⟩⟩
      have v1 := heap_put_ne (l := W4.heap.size) (o := .deferred none) t1 (by omega)
      have v2 := heap_put_ne (l := W4.heap.size) (o := .deferred none) t2 (by omega)
      have hb8 := Below.putObj (l := W4.heap.size) (o := .deferred none) hb7 hb7.size (by omega)
      have w1 := cell_block (i := 0) v1
      have w2 := cell_block (i := 0) v2
      simp at w1 w2
      have hA8 := LiesI.putD (l := W4.heap.size) (o := .deferred none) hA7 tD (fun c T z h => by cases h)
      refine ⟨_, (by simp [results, Tryd.results35, go_sem, w1, w2]; try rfl), ?_⟩
      exact ⟨.inl ⟨k, A1, c1, hk, hdk, hdm, rfl, hA8⟩, hb8⟩

end Go.Proofs.YtkdonapgonegkaaDoor

set_option linter.unusedSimpArgs false
set_option linter.unusedVariables false
namespace Go.Proofs.YtkdonapgonegkaaDoor
open Go.RowKit Go.BigFrame

theorem ex_chk : (chk exL exN).2 = 0 := by decide
theorem ex_err : thenE (chk exL exN).2 (valE exL [14, 1]) = 0 := by decide
theorem ex_vals : valsL exN [14, 1] = [14, 3, 1, 1, 1, 1] := by decide
theorem ex_deps : depL exN = [0, 0, 1, 0, 2, 3] := by decide
theorem ex_bits : bitsL exL exN [((0 : Nat) : Int), ((2 : Nat) : Int)] = 4 := by decide
theorem ex_cone : (chk exL (coneN exN [((0 : Nat) : Int), ((2 : Nat) : Int)])).2 = 0 := by decide
theorem ex_pl : ∀ x ∈ coneP exN [((0 : Nat) : Int), ((2 : Nat) : Int)], isIx x (coneN exN [((0 : Nat) : Int), ((2 : Nat) : Int)]).length = true := by decide
theorem ex_cl : (coneN exN [((0 : Nat) : Int), ((2 : Nat) : Int)]).length ≤ 65536 := by decide
theorem ex_ok : TriOK exL exN [((0 : Nat) : Int), ((2 : Nat) : Int)] where
  l1 := by decide
  lw := by decide
  n1 := by decide
  all := chk_nodes ex_chk
  f1 := by decide
  fx := by decide
  bit := by rw [ex_bits]; decide
  call := chk_nodes ex_cone
  c1 := ex_cl
  px := ex_pl
theorem ex_dif : dif exL exN [((0 : Nat) : Int), ((2 : Nat) : Int)] 0 := by unfold dif; decide
theorem ex_tri : triV exL exN [((0 : Nat) : Int), ((2 : Nat) : Int)] 0 = [0, 0] := by decide
theorem ex_small : ∀ n ∈ exN, SmallN n := by
  intro n hn
  simp only [exN, List.mem_cons, List.not_mem_nil, or_false] at hn
  rcases hn with rfl | rfl | rfl | rfl | rfl | rfl
  all_goals
    refine ⟨⟨_, _, _, ?_, ?_, ?_, rfl, rfl, rfl⟩, by decide, ?_⟩
  all_goals first | decide | (intro a ha; simp only [List.mem_cons, List.not_mem_nil, or_false] at ha; rcases ha with rfl | rfl | rfl <;> exact ⟨_, by decide, rfl⟩) | (intro a ha; simp only [List.mem_cons, List.not_mem_nil, or_false] at ha; rcases ha with rfl | rfl <;> exact ⟨_, by decide, rfl⟩) | (intro a ha; cases ha)
theorem ex_fmt : fmtK exN exN.length = [108, 101, 97, 102, 32, 52, 32, 48, 59, 99, 111, 110, 115, 116, 32, 52, 32, 51, 59, 97, 100, 100, 32, 52, 32, 48, 32, 49, 59, 108, 101, 97, 102, 32, 49, 32, 49, 59, 109, 117, 120, 32, 52, 32, 51, 32, 50, 32, 48, 59, 108, 116, 32, 49, 32, 52, 32, 49] := by
  simp [fmtK, exN, nodeS, opL, opN, spD, dd_one]

set_option maxRecDepth 100000 in
set_option maxHeartbeats 1600000 in
theorem awake_c (w : World) (ht : TabOps w) : Calls Tryd.prog 8 #[] w fun e w' => e = .returned (.bool true) ∧ ∃ x : Aft w, w' = x.val := by
  have HT := Lib.hid ht
  have HB0 := Lib.hid (Below.refl w.heap.size w)
  have hla : ∀ n ∈ exN, n.args.length ≤ 65536 := by decide
  have HLA := Lib.hid hla
  clear ht hla
  go_enter Tryd.func8, Tryd.ntmps8
  go_wp2_with fail
  refine (Leaves_c _).mono ?_
  rintro e V1 ⟨A1, c1, rfl, l1, b1⟩
  have hv1 := HB0.out.trans (b1.mono HB0.out.size)
  go_wp2_with fail
  refine (Nodes_c _).mono ?_
  rintro e U1 ⟨N1, d1, rfl, cp1, n1, e1⟩
  have HU1 := Lib.hid (hv1.trans (e1.mono hv1.size))
  have HE1 := Lib.hid (b1.trans (e1.mono b1.size))
  have HL1 := Lib.hid (l1.below e1)
  have HN1 := Lib.hid n1
  have HC1 := Lib.hid cp1
  clear l1 b1 hv1 n1 e1 cp1
  go_wp2_with fail
  have rv : (U1.alloc (.cells #[.int .i64 14, .int .i64 1] 3)).heap[U1.heap.size]? = some (.cells #[.int .i64 14, .int .i64 1] 3) := heap_alloc_new _ _
  have hbv : Below U1.heap.size U1 (U1.alloc (.cells #[.int .i64 14, .int .i64 1] 3)) := (Below.refl _ _).alloc (Nat.le_refl _) _
  have HV := Lib.hid (ValuesOf_c A1 c1 exL (by decide) N1 d1 exN (by decide) HC1.out HLA.out (some ⟨U1.heap.size, 0, none⟩) 2 [14, 1] (by decide) _ (HL1.out.below hbv) (HN1.out.below hbv) (LiesI.block rv) (HT.out.below (HU1.out.trans (hbv.mono HU1.out.size))))
  rw [ex_err, ex_vals] at HV
  have HW := Lib.hid (HU1.out.trans (hbv.mono HU1.out.size))
  clear rv hbv
  refine HV.out.mono ?_
  rintro e W1 ⟨h1 | ⟨_, X1, x1, rfl, lx1⟩, bx1⟩
  · exact absurd rfl h1.1
  have HB1 := Lib.hid (HW.out.trans (bx1.mono HW.out.size))
  have HX1 := Lib.hid lx1
  clear lx1 bx1 HW HV
  go_wp2_with fail
  refine (Leaves_c _).mono ?_
  rintro e V2 ⟨A2, c2, rfl, l2, b2⟩
  have hv2 := HB1.out.trans (b2.mono HB1.out.size)
  go_wp2_with fail
  refine (Nodes_c _).mono ?_
  rintro e U2 ⟨N2, d2, rfl, cp2, n2, e2⟩
  have HU2 := Lib.hid (hv2.trans (e2.mono hv2.size))
  have HE2 := Lib.hid (b2.trans (e2.mono b2.size))
  have HL2 := Lib.hid (l2.below e2)
  have HN2 := Lib.hid n2
  have HC2 := Lib.hid cp2
  clear l2 b2 hv2 n2 e2 cp2
  go_wp2_with fail
  have HD := Lib.hid (DepthsOf_c A2 c2 exL (by decide) N2 d2 exN (by decide) HC2.out HLA.out _ HL2.out HN2.out (HT.out.below HU2.out))
  rw [ex_chk, ex_deps] at HD
  refine HD.out.mono ?_
  rintro e W2 ⟨h2 | ⟨_, X2, x2, rfl, lx2⟩, bx2⟩
  · exact absurd rfl h2.1
  have HB2 := Lib.hid (HU2.out.trans (bx2.mono HU2.out.size))
  have HK2 := Lib.hid (HE2.out.trans (bx2.mono HE2.out.size))
  have HX2 := Lib.hid lx2
  clear lx2 bx2 HD
  go_wp2_with fail
  refine (Leaves_c _).mono ?_
  rintro e V3 ⟨A3, c3, rfl, l3, b3⟩
  have hv3 := HB2.out.trans (b3.mono HB2.out.size)
  go_wp2_with fail
  refine (Nodes_c _).mono ?_
  rintro e U3 ⟨N3, d3, rfl, cp3, n3, e3⟩
  have HU3 := Lib.hid (hv3.trans (e3.mono hv3.size))
  have HE3 := Lib.hid (b3.trans (e3.mono b3.size))
  have HL3 := Lib.hid (l3.below e3)
  have HN3 := Lib.hid n3
  have HC3 := Lib.hid cp3
  clear l3 b3 hv3 n3 e3 cp3
  go_wp2_with fail
  have HF := Lib.hid (DifferenceOf_ok A3 c3 exL (by decide) N3 d3 exN (by decide) HC3.out HLA.out 0 2 _ _ rfl rfl rfl (by rw [ex_bits]; decide) ex_chk ex_ok _ HL3.out HN3.out (HT.out.below HU3.out))
  refine HF.out.mono ?_
  rintro e W3 ⟨⟨k, X3, x3, hk, hd, hmin, rfl, lx3⟩ | ⟨hno, _⟩, bx3⟩
  case inr => exact absurd ex_dif (hno 0 (by rw [ex_bits]; decide))
  obtain rfl : k = 0 := by
    by_cases h : k = 0
    · exact h
    · exact absurd ex_dif (hmin 0 (by omega))
  rw [ex_tri] at lx3
  have HB3 := Lib.hid (HU3.out.trans (bx3.mono HU3.out.size))
  have HK3 := Lib.hid (HE3.out.trans (bx3.mono HE3.out.size))
  have HX3 := Lib.hid lx3
  clear lx3 bx3 HF hk hd hmin
  go_wp2_with fail
  refine (Nodes_c _).mono ?_
  rintro e U4 ⟨N4, d4, rfl, cp4, n4, e4⟩
  have HU4 := Lib.hid (HB3.out.trans (e4.mono HB3.out.size))
  have HE4 := Lib.hid e4
  have HN4 := Lib.hid n4
  clear cp4 n4 e4
  go_wp2_with fail
  refine (FormatNodes_c N4 d4 exN (by decide) ex_small _ HN4.out (HT.out.below HU4.out)).mono ?_
  rw [ex_fmt]
  rintro e w' ⟨rfl, y, rfl⟩
  have HB4 := Lib.hid (HU4.out.trans (y.pf.mono HU4.out.size))
  have HK4 := Lib.hid (HE4.out.trans (y.pf.mono HE4.out.size))
  generalize y.val = W4 at *
  go_wp2_with fail
  have rI1 : (W4.alloc (.cells #[.int .i64 14, .int .i64 3, .int .i64 1, .int .i64 1, .int .i64 1, .int .i64 1] 3)).heap[W4.heap.size]? = some (.cells #[.int .i64 14, .int .i64 3, .int .i64 1, .int .i64 1, .int .i64 1, .int .i64 1] 3) := heap_alloc_new _ _
  have bI1 : Below W4.heap.size W4 (W4.alloc (.cells #[.int .i64 14, .int .i64 3, .int .i64 1, .int .i64 1, .int .i64 1, .int .i64 1] 3)) := (Below.refl _ _).alloc (Nat.le_refl _) _
  have HI1 := Lib.hid (Ints_c X1 x1 [14, 3, 1, 1, 1, 1] (by decide) (some ⟨W4.heap.size, 0, none⟩) 6 [14, 3, 1, 1, 1, 1] (by decide) _ ((((HX1.out.below HK2.out).below HK3.out).below HK4.out).below bI1) (LiesI.block rI1))
  rw [show eqL [14, 3, 1, 1, 1, 1] [14, 3, 1, 1, 1, 1] = true by decide] at HI1
  have HJ1 := Lib.hid bI1
  clear rI1 bI1
  refine HI1.out.mono ?_
  rintro e w' ⟨rfl, z1, rfl⟩
  have HZ1 := Lib.hid (HJ1.out.trans (z1.pf.mono HJ1.out.size))
  clear HI1 HJ1
  generalize z1.val = Y1 at *
  go_wp2_with fail
  have rI2 : (Y1.alloc (.cells #[.int .i64 0, .int .i64 0, .int .i64 1, .int .i64 0, .int .i64 2, .int .i64 3] 3)).heap[Y1.heap.size]? = some (.cells #[.int .i64 0, .int .i64 0, .int .i64 1, .int .i64 0, .int .i64 2, .int .i64 3] 3) := heap_alloc_new _ _
  have bI2 : Below Y1.heap.size Y1 (Y1.alloc (.cells #[.int .i64 0, .int .i64 0, .int .i64 1, .int .i64 0, .int .i64 2, .int .i64 3] 3)) := (Below.refl _ _).alloc (Nat.le_refl _) _
  have HI2 := Lib.hid (Ints_c X2 x2 [0, 0, 1, 0, 2, 3] (by decide) (some ⟨Y1.heap.size, 0, none⟩) 6 [0, 0, 1, 0, 2, 3] (by decide) _ ((((HX2.out.below HK3.out).below HK4.out).below HZ1.out).below bI2) (LiesI.block rI2))
  rw [show eqL [0, 0, 1, 0, 2, 3] [0, 0, 1, 0, 2, 3] = true by decide] at HI2
  have HJ2 := Lib.hid bI2
  clear rI2 bI2
  refine HI2.out.mono ?_
  rintro e w' ⟨rfl, z2, rfl⟩
  have HZ2 := Lib.hid (HJ2.out.trans (z2.pf.mono HJ2.out.size))
  clear HI2 HJ2
  generalize z2.val = Y2 at *
  go_wp2_with fail
  have rI3 : (Y2.alloc (.cells #[.int .i64 0, .int .i64 0] 3)).heap[Y2.heap.size]? = some (.cells #[.int .i64 0, .int .i64 0] 3) := heap_alloc_new _ _
  have bI3 : Below Y2.heap.size Y2 (Y2.alloc (.cells #[.int .i64 0, .int .i64 0] 3)) := (Below.refl _ _).alloc (Nat.le_refl _) _
  have HI3 := Lib.hid (Ints_c X3 x3 [0, 0] (by decide) (some ⟨Y2.heap.size, 0, none⟩) 2 [0, 0] (by decide) _ ((((HX3.out.below HK4.out).below HZ1.out).below HZ2.out).below bI3) (LiesI.block rI3))
  rw [show eqL [0, 0] [0, 0] = true by decide] at HI3
  have HJ3 := Lib.hid bI3
  clear rI3 bI3
  refine HI3.out.mono ?_
  rintro e w' ⟨rfl, z3, rfl⟩
  have HZ3 := Lib.hid (HJ3.out.trans (z3.pf.mono HJ3.out.size))
  clear HI3 HJ3
  generalize z3.val = Y3 at *
  have HFIN := Lib.hid (HB4.out.trans ((HZ1.out.trans ((HZ2.out.trans (HZ3.out.mono HZ2.out.size)).mono HZ1.out.size)).mono HB4.out.size))
  go_wp2
  go_ret
  exact ⟨rfl, Below.aft HFIN.out⟩

end Go.Proofs.YtkdonapgonegkaaDoor
