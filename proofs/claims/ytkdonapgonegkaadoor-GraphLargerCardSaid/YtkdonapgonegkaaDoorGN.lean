/-
  Contracts of chapter 2 (graph): the string of nodes whose numbers are small.
-/
import Derived.Test.YtkdonapgonegkaaDoorGt
import Derived.Test.YtkdonapgonegkaaDoorGz
import Derived.Test.YtkdonapgonegkaaDoorShelf
set_option linter.unusedSimpArgs false
set_option linter.unusedVariables false
namespace Go.Proofs.YtkdonapgonegkaaDoor
open Go.RowKit Go.BigFrame

theorem builder_below {B b : Nat} {p : Value} {bs : List Value} {w W : World} (h : Lib.BuilderAt 106 5 B b p bs w) (hb : Below w.heap.size w W) : Lib.BuilderAt 106 5 B b p bs W := by
  obtain ⟨hB, v, hbk, hown, hne⟩ := h
  exact ⟨hB, v, (hb.block b (Array.getElem?_eq_some_iff.1 hbk).1).trans hbk, own_below hown hb, hne⟩
theorem isB_below {B b : Nat} {bs : List Value} {w W : World} (h : Lib.IsBuilder 106 5 B b bs w) (hb : Below w.heap.size w W) : Lib.IsBuilder 106 5 B b bs W := h.imp (fun h => builder_below h hb) (fun h => builder_below h hb)
theorem itoa_c (i : Nat) (hi : i < 100) (w : World) : Calls Tryd.prog 100 #[.int .i64 i] w fun e w' => e = .returned (.string ⟨(Lib.decDigits i).toArray⟩) ∧ w = w' := (Tryd.strconv_Itoa_small i hi w).mono fun e w' h => ⟨h.1, h.2.symm⟩
theorem dd_one {i : Nat} (h : i < 10) : Lib.decDigits i = [UInt8.ofNat (48 + i)] := by rw [Lib.decDigits]; rw [dif_pos h]
theorem dd_len {i : Nat} (h : i < 100) : 0 < (Lib.decDigits i).length ∧ (Lib.decDigits i).length ≤ 2 := by
  rw [Lib.decDigits]
  split
  · exact ⟨by simp, by simp⟩
  · rw [dd_one (by omega)]; exact ⟨by simp, by simp⟩
theorem dd_size (i : Nat) : (⟨(Lib.decDigits i).toArray⟩ : ByteArray).size = (Lib.decDigits i).length := by simp [ByteArray.size]
/-- A number behind a blank. -/
def spD (a : Int) : List UInt8 := 32 :: Lib.decDigits a.toNat
theorem spD_len {a : Nat} (h : a < 100) : (spD a).length ≤ 3 := by have := (dd_len h).2; simp [spD]; omega

set_option maxRecDepth 100000 in
set_option maxHeartbeats 1600000 in
theorem writeNode1_c (i : Nat) (hi : i < 100) (P B b : Nat) (l : List UInt8) (hlen : l.length + 3 ≤ 65536) (w : World) (rP : w.heap[P]? = some (.cells #[.pointer (some ⟨b, 0, none⟩)] 103)) (hPb : P ≠ b) (h : Lib.IsBuilder 106 5 B b (Lib.byteCells l) w) (hBw : B ≤ w.heap.size) :
    Calls Tryd.prog 99 #[.int .i64 i, .pointer (some ⟨P, 0, none⟩)] w fun e w' => (∃ v, e = .returned v) ∧ Lib.BuilderAt 106 5 B b (.pointer (some ⟨b, 0, none⟩)) (Lib.byteCells (l ++ spD i)) w' ∧ Below B w w' ∧ KeepW b w w' := by
  have hdl := dd_len hi
  have HWB := Lib.hid (WriteByte_c B b (Lib.byteCells l) 32 w h (by rw [Lib.byteCells_length]; omega) hBw)
  have q0 := cell_block (i := 0) rP
  simp at q0
  clear h
  go_enter Tryd.func99, Tryd.ntmps99
  go_wp2_with fail
  refine HWB.out.mono ?_
  rintro e w1 ⟨rfl, hB1, hb1, hk1⟩
  have rP1 := hk1.2 P _ rP hPb (fun cur fz h => by injection h with _ h; exact absurd h (by decide))
  have q1 := cell_block (i := 0) rP1
  simp at q1
  have lP1 := lt_of_get rP1
  clear q0 rP
  go_wp2_with fail
  refine wp_region_aft_tail 3 (by kernel_rfl) (by kernel_rfl) ?_
  simp only [List.take_succ_cons, List.take_zero, List.drop_succ_cons, List.drop_zero]
  repeat (go_big_quiet_step (first | (go_at_call 100; exact Calls.qs (itoa_c i hi _))))
  refine wpQuiet_nil ?_
  intro y
  have hB2 := builder_below hB1 y.pf
  have hs := dd_size i
  have HB2 : Hid (Below B w y.val ∧ KeepW b w y.val ∧ B ≤ y.val.heap.size) := Lib.hid ⟨hb1.trans (y.pf.mono (Nat.le_trans hBw hk1.1)), hk1.below y.pf, Nat.le_trans (Nat.le_trans hBw hk1.1) y.pf.size⟩
  have HWS := Lib.hid (WriteString_c B b (Lib.byteCells l ++ [.int .u8 32]) ⟨(Lib.decDigits i).toArray⟩ (by omega) y.val (.inr hB2) (by rw [List.length_append, Lib.byteCells_length, hs]; simp; omega) HB2.out.2.2)
  clear hB1 hb1 hk1 hB2 hs rP1 q1
  generalize y.val = w2 at *
  go_wp2_with fail
  refine HWS.out.mono ?_
  rintro e w3 ⟨rfl, hB3, hb3, hk3⟩
  have HF : Hid (Lib.BuilderAt 106 5 B b (.pointer (some ⟨b, 0, none⟩)) (Lib.byteCells (l ++ spD i)) w3) := Lib.hid (by
    have e : Lib.byteCells (l ++ spD i) = Lib.byteCells l ++ [.int .u8 32] ++ Lib.strCells ⟨(Lib.decDigits i).toArray⟩ := by
      rw [Lib.byteCells_append]
      show _ = Lib.byteCells l ++ [.int .u8 32] ++ Lib.byteCells (Lib.decDigits i)
      rw [List.append_assoc]; rfl
    rw [e]; exact hB3)
  have HG := Lib.hid (show Below B w w3 ∧ KeepW b w w3 from ⟨HB2.out.1.trans hb3, HB2.out.2.1.trans hk3⟩)
  clear hB3 hb3 hk3
  go_wp2
  go_end0
  exact ⟨⟨_, rfl⟩, HF.out, HG.out.1, HG.out.2⟩

/-- The string of a node. -/
def nodeS (o : Nat) (wd : Int) (gs : List Int) (v : Int) : List UInt8 := opL o ++ spD wd ++ gs.flatMap spD ++ (if opN o then spD v else [])
theorem opL_len : ∀ o : Nat, o < 19 → 0 < (opL o).length ∧ (opL o).length ≤ 5 := by decide
def Small (a : Int) : Prop := ∃ n : Nat, n < 100 ∧ a = n
theorem flat_len {gs : List Int} (h : ∀ a ∈ gs, Small a) : (gs.flatMap spD).length ≤ 3 * gs.length := by
  induction gs with
  | nil => simp
  | cons a gs ih =>
    obtain ⟨n, hn, rfl⟩ := h a (List.mem_cons_self)
    have := ih (fun a ha => h a (List.mem_cons_of_mem _ ha))
    have := spD_len hn
    rw [List.flatMap_cons, List.length_append, List.length_cons]; omega
theorem flat_snoc {gs : List Int} {j : Nat} {a : Int} (h : gs[j]? = some a) : (gs.take (j + 1)).flatMap spD = (gs.take j).flatMap spD ++ spD a := by
  obtain ⟨hj, rfl⟩ := List.getElem?_eq_some_iff.1 h
  rw [List.take_succ_eq_append_getElem hj, List.flatMap_append]; simp
theorem not_u8 {c : Array Value} {T : TypeId} (h : ¬ T = 5) : ∀ cur fz, Obj.cells c T (0, 0) ≠ .cells cur 5 fz := fun cur fz e => by injection e with _ e; exact h e

def WSt (B b : Nat) (w : World) (o wd v : Int) (k : Nat) (Ak : Option Addr) (n ck : Nat) (l : List UInt8) (wr : World) : Prop :=
  Lib.BuilderAt 106 5 B b (.pointer (some ⟨b, 0, none⟩)) (Lib.byteCells l) wr ∧ wr.heap[w.heap.size]? = some (.cells #[.pointer (some ⟨b, 0, none⟩)] 103) ∧ wr.heap[w.heap.size + 1]? = some (.cells #[.int .i64 o, .int .i64 wd, .slice Ak n ck, .int .i64 v] 65) ∧
    wr.heap[w.heap.size + 2]? = some (.cells #[.string ⟨(opL k).toArray⟩, .int .i64 (argN o), .bool (opN k)] 113) ∧ Below B w wr ∧ KeepW b w wr
theorem WSt.step {B b : Nat} {w : World} {o wd v : Int} {k : Nat} {Ak : Option Addr} {n ck : Nat} {l l' : List UInt8} {wr w' : World} (h : WSt B b w o wd v k Ak n ck l wr) (hb : b < w.heap.size) (h1 : Lib.BuilderAt 106 5 B b (.pointer (some ⟨b, 0, none⟩)) (Lib.byteCells l') w') (h2 : Below B wr w') (h3 : KeepW b wr w') : WSt B b w o wd v k Ak n ck l' w' := by
  obtain ⟨_, r2, r3, r4, hb0, hk0⟩ := h
  exact ⟨h1, h3.2 _ _ r2 (by omega) (not_u8 (by decide)), h3.2 _ _ r3 (by omega) (not_u8 (by decide)), h3.2 _ _ r4 (by omega) (not_u8 (by decide)), hb0.trans h2, hk0.trans h3⟩

set_option maxRecDepth 100000 in
set_option maxHeartbeats 1600000 in
theorem writeNode_c (o wd v : Nat) (ho : o < 19) (hwd : wd < 100) (hv : v < 100) (gs : List Int) (hgs : ∀ a ∈ gs, Small a) (hg5 : gs.length ≤ 5) (Ak : Option Addr) (ck : Nat) (B b : Nat) (l : List UInt8) (hlen : l.length + 40 ≤ 65536) (w00 w : World) (h00 : w00.heap.size ≤ B) (hw00 : Below w00.heap.size w00 w) (hA : LiesI w00 Ak gs) (ht : TabOps w00) (h : Lib.IsBuilder 106 5 B b (Lib.byteCells l) w) (hBw : B ≤ w.heap.size) :
    Calls Tryd.prog 77 #[.pointer (some ⟨b, 0, none⟩), .agg #[.int .i64 o, .int .i64 wd, .slice Ak gs.length ck, .int .i64 v]] w fun e w' => (∃ v, e = .returned v) ∧ Lib.BuilderAt 106 5 B b (.pointer (some ⟨b, 0, none⟩)) (Lib.byteCells (l ++ nodeS o wd gs v)) w' ∧ Below B w w' ∧ KeepW b w w' := by
  have hbw : b < w.heap.size := by
    rcases h with h | h
    · obtain ⟨_, _, hbk, _⟩ := h; exact (Array.getElem?_eq_some_iff.1 hbk).1
    · obtain ⟨_, _, hbk, _⟩ := h; exact (Array.getElem?_eq_some_iff.1 hbk).1
  have HIX := Lib.hid (show isIx (o : Int) 19 = true from isIx_true (by omega) (by omega))
  have HT := Lib.hid ht
  have HA := Lib.hid hA
  have HGS := Lib.hid hgs
  have HOL := Lib.hid (opL_len o ho)
  have hG := Nat.lt_of_lt_of_le ht.big hw00.size
  have c0 := (hw00.cell (p := ⟨0, o * 3, none⟩) ht.big).trans (ht.names o ho)
  have c1 := (hw00.cell (p := ⟨0, o * 3 + 1, none⟩) ht.big).trans (ht.args o ho)
  have c2 := (hw00.cell (p := ⟨0, o * 3 + 2, none⟩) ht.big).trans (ht.nums o ho)
  have hoo : (o : Int) < 19 := by omega
  have HIB := Lib.hid h
  have HW0 := Lib.hid hw00
  clear h ht hA hgs hw00
  go_enter Tryd.func77, Tryd.ntmps77
  go_wp2_with (go_at_call 66; (with_reducible refine (isIndex_c _ _ _).mono ?_); rw [HIX.out]; rintro e w' ⟨rfl, rfl⟩)
  have hb3 : Below w.heap.size w (((w.alloc (.cells #[.pointer (some ⟨b, 0, none⟩)] 103)).alloc (.cells #[.int .i64 o, .int .i64 wd, .slice Ak gs.length ck, .int .i64 v] 65)).alloc (.cells #[.string ⟨(opL o).toArray⟩, .int .i64 (argN o), .bool (opN o)] 113)) := (((Below.refl _ _).alloc (Nat.le_refl _) _).alloc (by simp) _).alloc (by simp; omega) _
  have r2 : (((w.alloc (.cells #[.pointer (some ⟨b, 0, none⟩)] 103)).alloc (.cells #[.int .i64 o, .int .i64 wd, .slice Ak gs.length ck, .int .i64 v] 65)).alloc (.cells #[.string ⟨(opL o).toArray⟩, .int .i64 (argN o), .bool (opN o)] 113)).heap[w.heap.size]? = some (.cells #[.pointer (some ⟨b, 0, none⟩)] 103) := heap_alloc' (by simp; omega) (heap_alloc' (by simp) (heap_alloc_new _ _))
  have r3 : (((w.alloc (.cells #[.pointer (some ⟨b, 0, none⟩)] 103)).alloc (.cells #[.int .i64 o, .int .i64 wd, .slice Ak gs.length ck, .int .i64 v] 65)).alloc (.cells #[.string ⟨(opL o).toArray⟩, .int .i64 (argN o), .bool (opN o)] 113)).heap[w.heap.size + 1]? = some (.cells #[.int .i64 o, .int .i64 wd, .slice Ak gs.length ck, .int .i64 v] 65) := heap_alloc' (by simp) (heap_alloc_at (by simp))
  have r4 : (((w.alloc (.cells #[.pointer (some ⟨b, 0, none⟩)] 103)).alloc (.cells #[.int .i64 o, .int .i64 wd, .slice Ak gs.length ck, .int .i64 v] 65)).alloc (.cells #[.string ⟨(opL o).toArray⟩, .int .i64 (argN o), .bool (opN o)] 113)).heap[w.heap.size + 2]? = some (.cells #[.string ⟨(opL o).toArray⟩, .int .i64 (argN o), .bool (opN o)] 113) := heap_alloc_at (by simp)
  generalize (((w.alloc (.cells #[.pointer (some ⟨b, 0, none⟩)] 103)).alloc (.cells #[.int .i64 o, .int .i64 wd, .slice Ak gs.length ck, .int .i64 v] 65)).alloc (.cells #[.string ⟨(opL o).toArray⟩, .int .i64 (argN o), .bool (opN o)] 113)) = W3 at *
  have hos : (⟨(opL o).toArray⟩ : ByteArray).size = (opL o).length := by simp [ByteArray.size]
  have hol := HOL.out
  refine (WriteString_c B b (Lib.byteCells l) ⟨(opL o).toArray⟩ (by omega) W3 (isB_below HIB.out hb3) (by rw [Lib.byteCells_length]; omega) (Nat.le_trans hBw hb3.size)).mono ?_
  rintro e W4 ⟨rfl, hB4, hb4, hk4⟩
  have hB4' : Lib.BuilderAt 106 5 B b (.pointer (some ⟨b, 0, none⟩)) (Lib.byteCells (l ++ opL o)) W4 := by rw [Lib.byteCells_append]; exact hB4
  have HS4 : Hid (WSt B b w o wd v o Ak gs.length ck (l ++ opL o) W4) := Lib.hid ⟨hB4', hk4.2 _ _ r2 (by omega) (not_u8 (by decide)), hk4.2 _ _ r3 (by omega) (not_u8 (by decide)), hk4.2 _ _ r4 (by omega) (not_u8 (by decide)), (hb3.mono hBw).trans hb4, ((KeepW.refl b w).below hb3).trans hk4⟩
  have q1 := cell_block (i := 1) (HS4.out.2.2.1)
  simp at q1
  have HW1 := Lib.hid (writeNode1_c wd hwd w.heap.size B b (l ++ opL o) (by rw [List.length_append]; omega) W4 HS4.out.2.1 (by omega) (.inr HS4.out.1) (Nat.le_trans hBw HS4.out.2.2.2.2.2.1))
  clear hB4 hB4' hb4 hk4 r2 r3 r4 hb3 c0 c1 c2 hG
  go_wp2_with fail
  refine HW1.out.mono ?_
  rintro e W5 ⟨⟨ev, rfl⟩, hB5, hb5, hk5⟩
  have HS5 := Lib.hid (HS4.out.step hbw hB5 hb5 hk5)
  have q2 := cell_block (i := 2) (HS5.out.2.2.1)
  simp at q2
  clear hB5 hb5 hk5 q1
  go_wp2_with fail
  go_loopw [28] (fun v28 wr => ∃ j : Nat, j ≤ gs.length ∧ v28 = .int .i64 j ∧ WSt B b w o wd v o Ak gs.length ck (l ++ opL o ++ spD wd ++ (gs.take j).flatMap spD) wr) (fun v28 _ => gs.length - (intOf v28).toNat)
  case atStart => exact ⟨0, by omega, rfl, by rw [List.take_zero, List.flatMap_nil, List.append_nil]; exact HS5.out⟩
  case round =>
    clear q2
    obtain ⟨j, hj, rfl, hst⟩ := hrel
    have HST := Lib.hid hst
    clear hst
    have hfl : ((gs.take j).flatMap spD).length ≤ 15 := by
      have := flat_len (gs := gs.take j) (fun a ha => HGS.out a (List.mem_of_mem_take ha))
      rw [List.length_take_of_le hj] at this; omega
    have hsw := spD_len hwd
    by_cases hlt : j < gs.length
    · have hjj : (j : Int) < gs.length := by omega
      have HX := Lib.hid (List.getElem?_eq_getElem hlt)
      have HSM := Lib.hid (HGS.out _ (List.getElem_mem hlt))
      generalize gs[j] = a at *
      obtain ⟨n, hn, rfl⟩ := HSM.out
      have HSN := Lib.hid (flat_snoc HX.out)
      obtain ⟨ad, rfl, hbl, ca⟩ := HA.out.cell HX.out
      have hbw2 : Below w00.heap.size w00 wr := HW0.out.trans (HST.out.2.2.2.2.1.mono h00)
      have ca1 := (hbw2.cell (p := ad.add j) (by rw [addB]; exact hbl)).trans ca
      have HW2 := Lib.hid (writeNode1_c n hn w.heap.size B b (l ++ opL o ++ spD wd ++ (gs.take j).flatMap spD) (by simp only [List.length_append]; omega) wr HST.out.2.1 (by omega) (.inr HST.out.1) (Nat.le_trans hBw HST.out.2.2.2.2.2.1))
      clear ca hbw2
      go_wp2_with fail
      refine HW2.out.mono ?_
      rintro e W6 ⟨⟨ev2, rfl⟩, hB6, hb6, hk6⟩
      have HS6 := Lib.hid (HST.out.step hbw hB6 hb6 hk6)
      clear hB6 hb6 hk6
      go_wp2
      go_roundw
      case rel => exact ⟨j + 1, by omega, by go_num, by rw [HSN.out, ← List.append_assoc]; exact HS6.out⟩
      case measure => simp [intOf]; omega
    · obtain rfl : j = gs.length := by omega
      rw [List.take_length] at HST hfl
      have q2 := cell_block (i := 2) (HST.out.2.2.2.1)
      have q3 := cell_block (i := 3) (HST.out.2.2.1)
      simp at q2 q3
      cases hn : opN o with
      | false =>
        rw [hn] at q2
        have HF := Lib.hid (show nodeS o wd gs v = opL o ++ spD wd ++ gs.flatMap spD from by unfold nodeS; rw [hn]; simp)
        clear hn
        go_wp2
        go_end0
        rw [HF.out, ← List.append_assoc, ← List.append_assoc]
        exact ⟨⟨_, rfl⟩, HST.out.1, HST.out.2.2.2.2.1, HST.out.2.2.2.2.2⟩
      | true =>
        rw [hn] at q2
        have HF := Lib.hid (show nodeS o wd gs v = opL o ++ spD wd ++ gs.flatMap spD ++ spD v from by unfold nodeS; rw [hn]; simp)
        have HW3 := Lib.hid (writeNode1_c v hv w.heap.size B b (l ++ opL o ++ spD wd ++ gs.flatMap spD) (by simp only [List.length_append]; omega) wr HST.out.2.1 (by omega) (.inr HST.out.1) (Nat.le_trans hBw HST.out.2.2.2.2.2.1))
        clear hn
        go_wp2_with fail
        refine HW3.out.mono ?_
        rintro e W7 ⟨⟨ev2, rfl⟩, hB7, hb7, hk7⟩
        have HS7 := Lib.hid (HST.out.step hbw hB7 hb7 hk7)
        clear hB7 hb7 hk7
        go_wp2
        go_end0
        rw [HF.out, ← List.append_assoc, ← List.append_assoc, ← List.append_assoc]
        exact ⟨⟨_, rfl⟩, HS7.out.1, HS7.out.2.2.2.2.1, HS7.out.2.2.2.2.2⟩

end Go.Proofs.YtkdonapgonegkaaDoor
