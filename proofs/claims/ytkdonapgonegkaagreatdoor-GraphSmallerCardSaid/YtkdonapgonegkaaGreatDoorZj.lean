/-
  Contracts of chapter 2 (graph): the string of nodes whose numbers are small.
-/
import Derived.Test.YtkdonapgonegkaaGreatDoorZi
import Derived.Test.YtkdonapgonegkaaGreatDoorZe
import Derived.Test.YtkdonapgonegkaaGreatDoorShelf
import Derived.Test.YtkdonapgonegkaaGreatDoorZf
import Derived.Test.YtkdonapgonegkaaGreatDoorZg
import Derived.Test.YtkdonapgonegkaaGreatDoorZh
set_option linter.unusedSimpArgs false
set_option linter.unusedVariables false
namespace Go.Proofs.YtkdonapgonegkaaGreatDoor
open Go.RowKit Go.BigFrame

theorem builder_below {B b : Nat} {p : Value} {bs : List Value} {w W : World} (h : Lib.BuilderAt 83 5 B b p bs w) (hb : Below w.heap.size w W) : Lib.BuilderAt 83 5 B b p bs W := by
  obtain ⟨hB, v, hbk, hown, hne⟩ := h
  exact ⟨hB, v, (hb.block b (Array.getElem?_eq_some_iff.1 hbk).1).trans hbk, own_below hown hb, hne⟩
theorem isB_below {B b : Nat} {bs : List Value} {w W : World} (h : Lib.IsBuilder 83 5 B b bs w) (hb : Below w.heap.size w W) : Lib.IsBuilder 83 5 B b bs W := h.imp (fun h => builder_below h hb) (fun h => builder_below h hb)
theorem itoa_c (i : Nat) (hi : i < 100) (w : World) : Calls Tryz.prog 84 #[.int .i64 i] w fun e w' => e = .returned (.string ⟨(Lib.decDigits i).toArray⟩) ∧ w = w' := (Tryz.strconv_Itoa_small i hi w).mono fun e w' h => ⟨h.1, h.2.symm⟩
theorem dd_one {i : Nat} (h : i < 10) : Lib.decDigits i = [UInt8.ofNat (48 + i)] := by rw [Lib.decDigits]; rw [dif_pos h]
theorem dd_len {i : Nat} (h : i < 100) : 0 < (Lib.decDigits i).length ∧ (Lib.decDigits i).length ≤ 2 := by
  rw [Lib.decDigits]
  split
  · exact ⟨by simp, by simp⟩
  · rw [dd_one (by omega)]; exact ⟨by simp, by simp⟩
theorem dd_size (i : Nat) : (⟨(Lib.decDigits i).toArray⟩ : ByteArray).size = (Lib.decDigits i).length := by simp [ByteArray.size]
/-- A number behind a blank. -/
def spD (a : Int) : List UInt8 := 32 :: Lib.decDigits a.toNat
theorem spD_len {a : Nat} (h : a < 100) : (spD a).length ≤ 3 := by have := (dd_len h).2; simp [spD]; omega

set_option maxRecDepth 100000 in
set_option maxHeartbeats 1600000 in
theorem writeNode1_c (i : Nat) (hi : i < 100) (P B b : Nat) (l : List UInt8) (hlen : l.length + 3 ≤ 65536) (w : World) (rP : w.heap[P]? = some (.cells #[.pointer (some ⟨b, 0, none⟩)] 80)) (hPb : P ≠ b) (h : Lib.IsBuilder 83 5 B b (Lib.byteCells l) w) (hBw : B ≤ w.heap.size) :
    Calls Tryz.prog 83 #[.int .i64 i, .pointer (some ⟨P, 0, none⟩)] w fun e w' => (∃ v, e = .returned v) ∧ Lib.BuilderAt 83 5 B b (.pointer (some ⟨b, 0, none⟩)) (Lib.byteCells (l ++ spD i)) w' ∧ Below B w w' ∧ KeepW b w w' := by
  have hdl := dd_len hi
  have HWB := Lib.hid (WriteByte_c B b (Lib.byteCells l) 32 w h (by rw [Lib.byteCells_length]; omega) hBw)
  have q0 := cell_block (i := 0) rP
  simp at q0
  clear h
  go_enter Tryz.func83, Tryz.ntmps83
  go_wp2_with fail
  refine HWB.out.mono ?_
  rintro e w1 ⟨rfl, hB1, hb1, hk1⟩
  have rP1 := hk1.2 P _ rP hPb (fun cur fz h => by injection h with _ h; exact absurd h (by decide))
  have q1 := cell_block (i := 0) rP1
  simp at q1
  have lP1 := lt_of_get rP1
  clear q0 rP
  go_wp2_with fail
  refine wp_region_aft_tail 3 (by kernel_rfl) (by kernel_rfl) ?_
  simp only [List.take_succ_cons, List.take_zero, List.drop_succ_cons, List.drop_zero]
  repeat (go_big_quiet_step (first | (go_at_call 84; exact Calls.qs (itoa_c i hi _))))
  refine wpQuiet_nil ?_
  intro y
  have hB2 := builder_below hB1 y.pf
  have hs := dd_size i
  have HB2 : Hid (Below B w y.val ∧ KeepW b w y.val ∧ B ≤ y.val.heap.size) := Lib.hid ⟨hb1.trans (y.pf.mono (Nat.le_trans hBw hk1.1)), hk1.below y.pf, Nat.le_trans (Nat.le_trans hBw hk1.1) y.pf.size⟩
  have HWS := Lib.hid (WriteString_c B b (Lib.byteCells l ++ [.int .u8 32]) ⟨(Lib.decDigits i).toArray⟩ (by omega) y.val (.inr hB2) (by rw [List.length_append, Lib.byteCells_length, hs]; simp; omega) HB2.out.2.2)
  clear hB1 hb1 hk1 hB2 hs rP1 q1
  generalize y.val = w2 at *
  go_wp2_with fail
  refine HWS.out.mono ?_
  rintro e w3 ⟨rfl, hB3, hb3, hk3⟩
  have HF : Hid (Lib.BuilderAt 83 5 B b (.pointer (some ⟨b, 0, none⟩)) (Lib.byteCells (l ++ spD i)) w3) := Lib.hid (by
    have e : Lib.byteCells (l ++ spD i) = Lib.byteCells l ++ [.int .u8 32] ++ Lib.strCells ⟨(Lib.decDigits i).toArray⟩ := by
      rw [Lib.byteCells_append]
      show _ = Lib.byteCells l ++ [.int .u8 32] ++ Lib.byteCells (Lib.decDigits i)
      rw [List.append_assoc]; rfl
    rw [e]; exact hB3)
  have HG := Lib.hid (show Below B w w3 ∧ KeepW b w w3 from ⟨HB2.out.1.trans hb3, HB2.out.2.1.trans hk3⟩)
  clear hB3 hb3 hk3
  go_wp2
  go_end0
  exact ⟨⟨_, rfl⟩, HF.out, HG.out.1, HG.out.2⟩

/-- The string of a node. -/
def nodeS (o : Nat) (wd : Int) (gs : List Int) (v : Int) : List UInt8 := opL o ++ spD wd ++ gs.flatMap spD ++ (if opN o then spD v else [])
theorem opL_len : ∀ o : Nat, o < 19 → 0 < (opL o).length ∧ (opL o).length ≤ 5 := by decide
def Small (a : Int) : Prop := ∃ n : Nat, n < 100 ∧ a = n
theorem flat_len {gs : List Int} (h : ∀ a ∈ gs, Small a) : (gs.flatMap spD).length ≤ 3 * gs.length := by
  induction gs with
  | nil => simp
  | cons a gs ih =>
    obtain ⟨n, hn, rfl⟩ := h a (List.mem_cons_self)
    have := ih (fun a ha => h a (List.mem_cons_of_mem _ ha))
    have := spD_len hn
    rw [List.flatMap_cons, List.length_append, List.length_cons]; omega
theorem flat_snoc {gs : List Int} {j : Nat} {a : Int} (h : gs[j]? = some a) : (gs.take (j + 1)).flatMap spD = (gs.take j).flatMap spD ++ spD a := by
  obtain ⟨hj, rfl⟩ := List.getElem?_eq_some_iff.1 h
  rw [List.take_succ_eq_append_getElem hj, List.flatMap_append]; simp
theorem not_u8 {c : Array Value} {T : TypeId} (h : ¬ T = 5) : ∀ cur fz, Obj.cells c T (0, 0) ≠ .cells cur 5 fz := fun cur fz e => by injection e with _ e; exact h e

def WSt (B b : Nat) (w : World) (o wd v : Int) (k : Nat) (Ak : Option Addr) (n ck : Nat) (l : List UInt8) (wr : World) : Prop :=
  Lib.BuilderAt 83 5 B b (.pointer (some ⟨b, 0, none⟩)) (Lib.byteCells l) wr ∧ wr.heap[w.heap.size]? = some (.cells #[.pointer (some ⟨b, 0, none⟩)] 80) ∧ wr.heap[w.heap.size + 1]? = some (.cells #[.int .i64 o, .int .i64 wd, .slice Ak n ck, .int .i64 v] 61) ∧
    wr.heap[w.heap.size + 2]? = some (.cells #[.string ⟨(opL k).toArray⟩, .int .i64 (argN o), .bool (opN k)] 123) ∧ Below B w wr ∧ KeepW b w wr
theorem WSt.step {B b : Nat} {w : World} {o wd v : Int} {k : Nat} {Ak : Option Addr} {n ck : Nat} {l l' : List UInt8} {wr w' : World} (h : WSt B b w o wd v k Ak n ck l wr) (hb : b < w.heap.size) (h1 : Lib.BuilderAt 83 5 B b (.pointer (some ⟨b, 0, none⟩)) (Lib.byteCells l') w') (h2 : Below B wr w') (h3 : KeepW b wr w') : WSt B b w o wd v k Ak n ck l' w' := by
  obtain ⟨_, r2, r3, r4, hb0, hk0⟩ := h
  exact ⟨h1, h3.2 _ _ r2 (by omega) (not_u8 (by decide)), h3.2 _ _ r3 (by omega) (not_u8 (by decide)), h3.2 _ _ r4 (by omega) (not_u8 (by decide)), hb0.trans h2, hk0.trans h3⟩

set_option maxRecDepth 100000 in
set_option maxHeartbeats 1600000 in
theorem writeNode_c (o wd v : Nat) (ho : o < 19) (hwd : wd < 100) (hv : v < 100) (gs : List Int) (hgs : ∀ a ∈ gs, Small a) (hg5 : gs.length ≤ 5) (Ak : Option Addr) (ck : Nat) (B b : Nat) (l : List UInt8) (hlen : l.length + 40 ≤ 65536) (w00 w : World) (h00 : w00.heap.size ≤ B) (hw00 : Below w00.heap.size w00 w) (hA : LiesI w00 Ak gs) (ht : TabOps w00) (h : Lib.IsBuilder 83 5 B b (Lib.byteCells l) w) (hBw : B ≤ w.heap.size) :
    Calls Tryz.prog 46 #[.pointer (some ⟨b, 0, none⟩), .agg #[.int .i64 o, .int .i64 wd, .slice Ak gs.length ck, .int .i64 v]] w fun e w' => (∃ v, e = .returned v) ∧ Lib.BuilderAt 83 5 B b (.pointer (some ⟨b, 0, none⟩)) (Lib.byteCells (l ++ nodeS o wd gs v)) w' ∧ Below B w w' ∧ KeepW b w w' := by
  have hbw : b < w.heap.size := by
    rcases h with h | h
    · obtain ⟨_, _, hbk, _⟩ := h; exact (Array.getElem?_eq_some_iff.1 hbk).1
    · obtain ⟨_, _, hbk, _⟩ := h; exact (Array.getElem?_eq_some_iff.1 hbk).1
  have HIX := Lib.hid (show isIx (o : Int) 19 = true from isIx_true (by omega) (by omega))
  have HT := Lib.hid ht
  have HA := Lib.hid hA
  have HGS := Lib.hid hgs
  have HOL := Lib.hid (opL_len o ho)
  have hG := Nat.lt_of_lt_of_le ht.big hw00.size
  have c0 := (hw00.cell (p := ⟨0, o * 3, none⟩) ht.big).trans (ht.names o ho)
  have c1 := (hw00.cell (p := ⟨0, o * 3 + 1, none⟩) ht.big).trans (ht.args o ho)
  have c2 := (hw00.cell (p := ⟨0, o * 3 + 2, none⟩) ht.big).trans (ht.nums o ho)
  have hoo : (o : Int) < 19 := by omega
  have HIB := Lib.hid h
  have HW0 := Lib.hid hw00
  clear h ht hA hgs hw00
  go_enter Tryz.func46, Tryz.ntmps46
  go_wp2_with (go_at_call 59; (with_reducible refine (isIndex_c _ _ _).mono ?_); rw [HIX.out]; rintro e w' ⟨rfl, rfl⟩)
  have hb3 : Below w.heap.size w (((w.alloc (.cells #[.pointer (some ⟨b, 0, none⟩)] 80)).alloc (.cells #[.int .i64 o, .int .i64 wd, .slice Ak gs.length ck, .int .i64 v] 61)).alloc (.cells #[.string ⟨(opL o).toArray⟩, .int .i64 (argN o), .bool (opN o)] 123)) := (((Below.refl _ _).alloc (Nat.le_refl _) _).alloc (by simp) _).alloc (by simp; omega) _
  have r2 : (((w.alloc (.cells #[.pointer (some ⟨b, 0, none⟩)] 80)).alloc (.cells #[.int .i64 o, .int .i64 wd, .slice Ak gs.length ck, .int .i64 v] 61)).alloc (.cells #[.string ⟨(opL o).toArray⟩, .int .i64 (argN o), .bool (opN o)] 123)).heap[w.heap.size]? = some (.cells #[.pointer (some ⟨b, 0, none⟩)] 80) := heap_alloc' (by simp; omega) (heap_alloc' (by simp) (heap_alloc_new _ _))
  have r3 : (((w.alloc (.cells #[.pointer (some ⟨b, 0, none⟩)] 80)).alloc (.cells #[.int .i64 o, .int .i64 wd, .slice Ak gs.length ck, .int .i64 v] 61)).alloc (.cells #[.string ⟨(opL o).toArray⟩, .int .i64 (argN o), .bool (opN o)] 123)).heap[w.heap.size + 1]? = some (.cells #[.int .i64 o, .int .i64 wd, .slice Ak gs.length ck, .int .i64 v] 61) := heap_alloc' (by simp) (heap_alloc_at (by simp))
  have r4 : (((w.alloc (.cells #[.pointer (some ⟨b, 0, none⟩)] 80)).alloc (.cells #[.int .i64 o, .int .i64 wd, .slice Ak gs.length ck, .int .i64 v] 61)).alloc (.cells #[.string ⟨(opL o).toArray⟩, .int .i64 (argN o), .bool (opN o)] 123)).heap[w.heap.size + 2]? = some (.cells #[.string ⟨(opL o).toArray⟩, .int .i64 (argN o), .bool (opN o)] 123) := heap_alloc_at (by simp)
  generalize (((w.alloc (.cells #[.pointer (some ⟨b, 0, none⟩)] 80)).alloc (.cells #[.int .i64 o, .int .i64 wd, .slice Ak gs.length ck, .int .i64 v] 61)).alloc (.cells #[.string ⟨(opL o).toArray⟩, .int .i64 (argN o), .bool (opN o)] 123)) = W3 at *
  have hos : (⟨(opL o).toArray⟩ : ByteArray).size = (opL o).length := by simp [ByteArray.size]
  have hol := HOL.out
  refine (WriteString_c B b (Lib.byteCells l) ⟨(opL o).toArray⟩ (by omega) W3 (isB_below HIB.out hb3) (by rw [Lib.byteCells_length]; omega) (Nat.le_trans hBw hb3.size)).mono ?_
  rintro e W4 ⟨rfl, hB4, hb4, hk4⟩
  have hB4' : Lib.BuilderAt 83 5 B b (.pointer (some ⟨b, 0, none⟩)) (Lib.byteCells (l ++ opL o)) W4 := by rw [Lib.byteCells_append]; exact hB4
  have HS4 : Hid (WSt B b w o wd v o Ak gs.length ck (l ++ opL o) W4) := Lib.hid ⟨hB4', hk4.2 _ _ r2 (by omega) (not_u8 (by decide)), hk4.2 _ _ r3 (by omega) (not_u8 (by decide)), hk4.2 _ _ r4 (by omega) (not_u8 (by decide)), (hb3.mono hBw).trans hb4, ((KeepW.refl b w).below hb3).trans hk4⟩
  have q1 := cell_block (i := 1) (HS4.out.2.2.1)
  simp at q1
  have HW1 := Lib.hid (writeNode1_c wd hwd w.heap.size B b (l ++ opL o) (by rw [List.length_append]; omega) W4 HS4.out.2.1 (by omega) (.inr HS4.out.1) (Nat.le_trans hBw HS4.out.2.2.2.2.2.1))
  clear hB4 hB4' hb4 hk4 r2 r3 r4 hb3 c0 c1 c2 hG
  go_wp2_with fail
  refine HW1.out.mono ?_
  rintro e W5 ⟨⟨ev, rfl⟩, hB5, hb5, hk5⟩
  have HS5 := Lib.hid (HS4.out.step hbw hB5 hb5 hk5)
  have q2 := cell_block (i := 2) (HS5.out.2.2.1)
  simp at q2
  clear hB5 hb5 hk5 q1
  go_wp2_with fail
  go_loopw [28] (fun v28 wr => ∃ j : Nat, j ≤ gs.length ∧ v28 = .int .i64 j ∧ WSt B b w o wd v o Ak gs.length ck (l ++ opL o ++ spD wd ++ (gs.take j).flatMap spD) wr) (fun v28 _ => gs.length - (intOf v28).toNat)
  case atStart => exact ⟨0, by omega, rfl, by rw [List.take_zero, List.flatMap_nil, List.append_nil]; exact HS5.out⟩
  case round =>
    clear q2
    obtain ⟨j, hj, rfl, hst⟩ := hrel
    have HST := Lib.hid hst
    clear hst
    have hfl : ((gs.take j).flatMap spD).length ≤ 15 := by
      have := flat_len (gs := gs.take j) (fun a ha => HGS.out a (List.mem_of_mem_take ha))
      rw [List.length_take_of_le hj] at this; omega
    have hsw := spD_len hwd
    by_cases hlt : j < gs.length
    · have hjj : (j : Int) < gs.length := by omega
      have HX := Lib.hid (List.getElem?_eq_getElem hlt)
      have HSM := Lib.hid (HGS.out _ (List.getElem_mem hlt))
      generalize gs[j] = a at *
      obtain ⟨n, hn, rfl⟩ := HSM.out
      have HSN := Lib.hid (flat_snoc HX.out)
      obtain ⟨ad, rfl, hbl, ca⟩ := HA.out.cell HX.out
      have hbw2 : Below w00.heap.size w00 wr := HW0.out.trans (HST.out.2.2.2.2.1.mono h00)
      have ca1 := (hbw2.cell (p := ad.add j) (by rw [addB]; exact hbl)).trans ca
      have HW2 := Lib.hid (writeNode1_c n hn w.heap.size B b (l ++ opL o ++ spD wd ++ (gs.take j).flatMap spD) (by simp only [List.length_append]; omega) wr HST.out.2.1 (by omega) (.inr HST.out.1) (Nat.le_trans hBw HST.out.2.2.2.2.2.1))
      clear ca hbw2
      go_wp2_with fail
      refine HW2.out.mono ?_
      rintro e W6 ⟨⟨ev2, rfl⟩, hB6, hb6, hk6⟩
      have HS6 := Lib.hid (HST.out.step hbw hB6 hb6 hk6)
      clear hB6 hb6 hk6
      go_wp2
      go_roundw
      case rel => exact ⟨j + 1, by omega, by go_num, by rw [HSN.out, ← List.append_assoc]; exact HS6.out⟩
      case measure => simp [intOf]; omega
    · obtain rfl : j = gs.length := by omega
      rw [List.take_length] at HST hfl
      have q2 := cell_block (i := 2) (HST.out.2.2.2.1)
      have q3 := cell_block (i := 3) (HST.out.2.2.1)
      simp at q2 q3
      cases hn : opN o with
      | false =>
        rw [hn] at q2
        have HF := Lib.hid (show nodeS o wd gs v = opL o ++ spD wd ++ gs.flatMap spD from by unfold nodeS; rw [hn]; simp)
        clear hn
        go_wp2
        go_end0
        rw [HF.out, ← List.append_assoc, ← List.append_assoc]
        exact ⟨⟨_, rfl⟩, HST.out.1, HST.out.2.2.2.2.1, HST.out.2.2.2.2.2⟩
      | true =>
        rw [hn] at q2
        have HF := Lib.hid (show nodeS o wd gs v = opL o ++ spD wd ++ gs.flatMap spD ++ spD v from by unfold nodeS; rw [hn]; simp)
        have HW3 := Lib.hid (writeNode1_c v hv w.heap.size B b (l ++ opL o ++ spD wd ++ gs.flatMap spD) (by simp only [List.length_append]; omega) wr HST.out.2.1 (by omega) (.inr HST.out.1) (Nat.le_trans hBw HST.out.2.2.2.2.2.1))
        clear hn
        go_wp2_with fail
        refine HW3.out.mono ?_
        rintro e W7 ⟨⟨ev2, rfl⟩, hB7, hb7, hk7⟩
        have HS7 := Lib.hid (HST.out.step hbw hB7 hb7 hk7)
        clear hB7 hb7 hk7
        go_wp2
        go_end0
        rw [HF.out, ← List.append_assoc, ← List.append_assoc, ← List.append_assoc]
        exact ⟨⟨_, rfl⟩, HS7.out.1, HS7.out.2.2.2.2.1, HS7.out.2.2.2.2.2⟩

end Go.Proofs.YtkdonapgonegkaaGreatDoor

set_option linter.unusedSimpArgs false
set_option linter.unusedVariables false
namespace Go.Proofs.YtkdonapgonegkaaGreatDoor
open Go.RowKit Go.BigFrame

structure SmallN (n : Nd) : Prop where
  nums : ∃ o wd v : Nat, o < 19 ∧ wd < 100 ∧ v < 100 ∧ n.op = o ∧ n.wd = wd ∧ n.v = v
  al : n.args.length ≤ 5
  sm : ∀ a ∈ n.args, Small a
/-- The string of the first nodes. -/
def fmtK (ns : List Nd) : Nat → List UInt8
  | 0 => []
  | k + 1 => fmtK ns k ++ (if 0 < k then [59] else []) ++ (match ns[k]? with | none => [] | some n => nodeS n.op.toNat n.wd n.args n.v)
theorem fmtK_step {ns : List Nd} {k : Nat} {n : Nd} (h : ns[k]? = some n) : fmtK ns (k + 1) = fmtK ns k ++ (if 0 < k then [59] else []) ++ nodeS n.op.toNat n.wd n.args n.v := by simp only [fmtK, h]
theorem nodeS_len {n : Nd} (h : SmallN n) : (nodeS n.op.toNat n.wd n.args n.v).length ≤ 26 := by
  obtain ⟨⟨o, wd, v, ho, hw, hv, e1, e2, e3⟩, al, sm⟩ := h
  rw [e1, e2, e3]
  have h1 := (opL_len o ho).2
  have h2 := spD_len hw
  have h3 := spD_len hv
  have h4 := flat_len sm
  unfold nodeS
  simp only [List.length_append, Int.toNat_natCast]
  split
  · omega
  · simp only [List.length_nil]; omega
theorem fmtK_len {ns : List Nd} (hs : ∀ n ∈ ns, SmallN n) : ∀ k : Nat, (fmtK ns k).length ≤ 27 * k := by
  intro k
  induction k with
  | zero => exact Nat.le_refl _
  | succ k ih =>
    simp only [fmtK, List.length_append]
    have h1 : (if 0 < k then [59] else ([] : List UInt8)).length ≤ 1 := by split <;> simp
    cases hn : ns[k]? with
    | none => simp only [List.length_nil]; omega
    | some n =>
      have := nodeS_len (hs n (List.mem_of_getElem? hn))
      simp only; omega

set_option maxRecDepth 100000 in
set_option maxHeartbeats 1600000 in
theorem FormatNodes_c (N : Option Addr) (capN : Nat) (ns : List Nd) (hns : ns.length ≤ 400) (hsm : ∀ n ∈ ns, SmallN n) (w : World) (hN : LiesN w N ns) (ht : TabOps w) :
    Calls Tryz.prog 20 #[.slice N ns.length capN] w fun e w' => e = .returned (.string ⟨(fmtK ns ns.length).toArray⟩) ∧ ∃ x : Aft w, w' = x.val := by
  have HNN := Lib.hid hN
  have HT := Lib.hid ht
  have HSA := Lib.hid hsm
  have hl400 := fmtK_len hsm
  have HLL := Lib.hid hl400
  clear hN ht hsm hl400
  go_enter Tryz.func20, Tryz.ntmps20
  go_wp2_with fail
  have hb0 : Below w.heap.size w (w.alloc (.cells #[.pointer none, .slice none 0 0] 83)) := (Below.refl _ _).alloc (Nat.le_refl _) _
  have HI0 : Hid (Lib.IsBuilder 83 5 w.heap.size w.heap.size (Lib.byteCells (fmtK ns 0)) (w.alloc (.cells #[.pointer none, .slice none 0 0] 83))) := Lib.hid (.inl ⟨Nat.le_refl _, .slice none 0 0, heap_alloc_new _ _, World.ownsRow_nil _ _ _ _, by simp [Value.ownBlock]⟩)
  generalize w.alloc (.cells #[.pointer none, .slice none 0 0] 83) = W0 at *
  go_loopw [8] (fun v8 wr => ∃ k : Nat, k ≤ ns.length ∧ v8 = .int .i64 k ∧ Lib.IsBuilder 83 5 w.heap.size w.heap.size (Lib.byteCells (fmtK ns k)) wr ∧ Below w.heap.size w wr) (fun v8 _ => ns.length - (intOf v8).toNat)
  case atStart => exact ⟨0, by omega, rfl, HI0.out, hb0⟩
  case round =>
    clear HI0 hb0
    obtain ⟨k, hk, rfl, hib, hb⟩ := hrel
    have HIB := Lib.hid hib
    have hll := HLL.out k
    by_cases hlt : k < ns.length
    · have hkk : (k : Int) < ns.length := by omega
      have HX := Lib.hid (List.getElem?_eq_getElem hlt)
      have HSM := Lib.hid (HSA.out _ (List.getElem_mem hlt))
      generalize ns[k] = x at *
      have HS := Lib.hid (fmtK_step HX.out)
      obtain ⟨ad, rfl, hbl, c0, c1, c3, B, bc, c2, hB⟩ := HNN.out.cells HX.out
      have hbk : ∀ p : Addr, p.block = ad.block → wr.cell? p = w.cell? p := fun p hp => hb.cell (p := p) (by rw [hp]; exact hbl)
      have a0 := (hbk (ad.add (k * 4)) (by rw [addB])).trans c0
      have a1 : wr.cell? ⟨(ad.add (k * 4)).block, (ad.add (k * 4)).off + 1, none⟩ = some (.int .i64 x.wd) := (hbk ((ad.add (k * 4)).add 1) (by rw [addB, addB])).trans c1
      have a2 : wr.cell? ⟨(ad.add (k * 4)).block, (ad.add (k * 4)).off + 2, none⟩ = some (.slice B x.args.length bc) := (hbk ((ad.add (k * 4)).add 2) (by rw [addB, addB])).trans c2
      have a3 : wr.cell? ⟨(ad.add (k * 4)).block, (ad.add (k * 4)).off + 3, none⟩ = some (.int .i64 x.v) := (hbk ((ad.add (k * 4)).add 3) (by rw [addB, addB])).trans c3
      clear c0 c1 c2 c3 hbk
      have HBL := Lib.hid hB
      clear hB
      obtain ⟨op, wd, args, v⟩ := x
      obtain ⟨o, wd, v, ho, hwd, hv, e1, e2, e3⟩ := HSM.out.nums
      simp only at e1 e2 e3
      subst e1
      subst e2
      subst e3
      simp only at a0 a1 a2 a3 HBL HS
      have hbx : w.heap.size < wr.heap.size := by
        rcases hib with h | h
        · obtain ⟨_, _, hbk, _⟩ := h; exact (Array.getElem?_eq_some_iff.1 hbk).1
        · obtain ⟨_, _, hbk, _⟩ := h; exact (Array.getElem?_eq_some_iff.1 hbk).1
      have rn : (wr.alloc (.cells #[.int .i64 o, .int .i64 wd, .slice B args.length bc, .int .i64 v] 61)).heap[wr.heap.size]? = some (.cells #[.int .i64 o, .int .i64 wd, .slice B args.length bc, .int .i64 v] 61) := heap_alloc_new _ _
      have hb1 : Below w.heap.size w (wr.alloc (.cells #[.int .i64 o, .int .i64 wd, .slice B args.length bc, .int .i64 v] 61)) := hb.alloc hb.size _
      have HIB1 := Lib.hid (isB_below HIB.out (show Below wr.heap.size wr (wr.alloc (.cells #[.int .i64 o, .int .i64 wd, .slice B args.length bc, .int .i64 v] 61)) from (Below.refl _ _).alloc (Nat.le_refl _) _))
      have ho2 : ((o : Nat) : Int).toNat = o := Int.toNat_natCast o
      rw [ho2] at HS
      clear hib ho2
      by_cases hk0 : 0 < k
      · rw [if_pos hk0] at HS
        have hkp : (0 : Int) < k := by omega
        have HWB := Lib.hid (WriteByte_c w.heap.size w.heap.size (Lib.byteCells (fmtK ns k)) 59 _ HIB1.out (by rw [Lib.byteCells_length]; omega) hb1.size)
        go_wp2_with fail
        refine HWB.out.mono ?_
        rintro e W2 ⟨rfl, hB2, hb2, hk2⟩
        have rn2 := hk2.2 _ _ rn (by omega) (not_u8 (by decide))
        have HBW := Lib.hid (hb1.trans hb2)
        have hB2' : Lib.BuilderAt 83 5 w.heap.size w.heap.size (.pointer (some ⟨w.heap.size, 0, none⟩)) (Lib.byteCells (fmtK ns k ++ [59])) W2 := by rw [Lib.byteCells_append]; exact hB2
        have s0 := cell_block (i := 0) rn2
        have s1 := cell_block (i := 1) rn2
        have s2 := cell_block (i := 2) rn2
        have s3 := cell_block (i := 3) rn2
        simp at s0 s1 s2 s3
        have ln := lt_of_get rn2
        clear rn rn2 hb1 hb2 hk2 hB2 a0 a1 a2 a3 hb
        have HWN := Lib.hid (writeNode_c o wd v ho hwd hv args HSM.out.sm HSM.out.al B bc w.heap.size w.heap.size (fmtK ns k ++ [59]) (by rw [List.length_append]; simp only [List.length_cons, List.length_nil]; omega) w W2 (Nat.le_refl _) HBW.out HBL.out HT.out (.inr hB2') HBW.out.size)
        go_wp2_with fail
        refine HWN.out.mono ?_
        rintro e W9 ⟨⟨ev, rfl⟩, hB9, hb9, _⟩
        have HF := Lib.hid (show Lib.IsBuilder 83 5 w.heap.size w.heap.size (Lib.byteCells (fmtK ns (k + 1))) W9 ∧ Below w.heap.size w W9 from ⟨.inr (by rw [HS.out]; exact hB9), HBW.out.trans hb9⟩)
        clear hB9 hb9
        go_wp2
        go_roundw
        case rel => exact ⟨k + 1, by omega, by go_num, HF.out.1, HF.out.2⟩
        case measure => simp [intOf]; omega
      · rw [if_neg hk0, List.append_nil] at HS
        have hk1 : ¬ (0 : Int) < k := by omega
        have hbW : ∀ W, W = wr.alloc (.cells #[.int .i64 o, .int .i64 wd, .slice B args.length bc, .int .i64 v] 61) → Below w.heap.size w W := fun W h => by rw [h]; exact hb1
        have HBW := Lib.hid hb1
        clear hbW rn hb1
        have HWN := Lib.hid (writeNode_c o wd v ho hwd hv args HSM.out.sm HSM.out.al B bc w.heap.size w.heap.size (fmtK ns k) (by omega) w _ (Nat.le_refl _) HBW.out HBL.out HT.out HIB1.out HBW.out.size)
        go_wp2_with fail
        refine HWN.out.mono ?_
        rintro e W9 ⟨⟨ev, rfl⟩, hB9, hb9, _⟩
        have HF := Lib.hid (show Lib.IsBuilder 83 5 w.heap.size w.heap.size (Lib.byteCells (fmtK ns (k + 1))) W9 ∧ Below w.heap.size w W9 from ⟨.inr (by rw [HS.out]; exact hB9), HBW.out.trans hb9⟩)
        clear hB9 hb9
        go_wp2
        go_roundw
        case rel => exact ⟨k + 1, by omega, by go_num, HF.out.1, HF.out.2⟩
        case measure => simp [intOf]; omega
    · obtain rfl : k = ns.length := by omega
      have HST := Lib.hid (Tryz.Builder_String_any w.heap.size w.heap.size (fmtK ns ns.length) wr HIB.out hb.size)
      clear hib
      go_wp2_with fail
      refine HST.out.mono ?_
      rintro e W9 ⟨rfl, hb9⟩
      have HF := Lib.hid (hb.trans hb9)
      clear hb9
      go_wp2
      go_ret
      exact ⟨rfl, Below.aft HF.out⟩

end Go.Proofs.YtkdonapgonegkaaGreatDoor

set_option linter.unusedSimpArgs false
set_option linter.unusedVariables false
namespace Go.Proofs.YtkdonapgonegkaaGreatDoor
open Go.RowKit Go.BigFrame

theorem ex_chk : (chk exL exN).2 = 0 := by decide
theorem ex_err : thenE (chk exL exN).2 (valE exL [14, 1]) = 0 := by decide
theorem ex_vals : valsL exN [14, 1] = [14, 3, 1, 1, 1, 1] := by decide
theorem ex_deps : depL exN = [0, 0, 1, 0, 2, 3] := by decide
theorem ex_bits : bitsL exL exN [((0 : Nat) : Int), ((2 : Nat) : Int)] = 4 := by decide
theorem ex_cone : (chk exL (coneN exN [((0 : Nat) : Int), ((2 : Nat) : Int)])).2 = 0 := by decide
theorem ex_pl : ∀ x ∈ coneP exN [((0 : Nat) : Int), ((2 : Nat) : Int)], isIx x (coneN exN [((0 : Nat) : Int), ((2 : Nat) : Int)]).length = true := by decide
theorem ex_cl : (coneN exN [((0 : Nat) : Int), ((2 : Nat) : Int)]).length ≤ 65536 := by decide
theorem ex_ok : TriOK exL exN [((0 : Nat) : Int), ((2 : Nat) : Int)] where
  l1 := by decide
  lw := by decide
  n1 := by decide
  all := chk_nodes ex_chk
  f1 := by decide
  fx := by decide
  bit := by rw [ex_bits]; decide
  call := chk_nodes ex_cone
  c1 := ex_cl
  px := ex_pl
theorem ex_dif : dif exL exN [((0 : Nat) : Int), ((2 : Nat) : Int)] 0 := by unfold dif; decide
theorem ex_tri : triV exL exN [((0 : Nat) : Int), ((2 : Nat) : Int)] 0 = [0, 0] := by decide
theorem ex_small : ∀ n ∈ exN, SmallN n := by
  intro n hn
  simp only [exN, List.mem_cons, List.not_mem_nil, or_false] at hn
  rcases hn with rfl | rfl | rfl | rfl | rfl | rfl
  all_goals
    refine ⟨⟨_, _, _, ?_, ?_, ?_, rfl, rfl, rfl⟩, by decide, ?_⟩
  all_goals first | decide | (intro a ha; simp only [List.mem_cons, List.not_mem_nil, or_false] at ha; rcases ha with rfl | rfl | rfl <;> exact ⟨_, by decide, rfl⟩) | (intro a ha; simp only [List.mem_cons, List.not_mem_nil, or_false] at ha; rcases ha with rfl | rfl <;> exact ⟨_, by decide, rfl⟩) | (intro a ha; cases ha)
theorem ex_fmt : fmtK exN exN.length = [108, 101, 97, 102, 32, 52, 32, 48, 59, 99, 111, 110, 115, 116, 32, 52, 32, 51, 59, 97, 100, 100, 32, 52, 32, 48, 32, 49, 59, 108, 101, 97, 102, 32, 49, 32, 49, 59, 109, 117, 120, 32, 52, 32, 51, 32, 50, 32, 48, 59, 108, 116, 32, 49, 32, 52, 32, 49] := by
  simp [fmtK, exN, nodeS, opL, opN, spD, dd_one]

set_option maxRecDepth 100000 in
set_option maxHeartbeats 1600000 in
theorem awake_c (w : World) (ht : TabOps w) : Calls Tryz.prog 6 #[] w fun e w' => e = .returned (.bool true) ∧ ∃ x : Aft w, w' = x.val := by
  have HT := Lib.hid ht
  have HB0 := Lib.hid (Below.refl w.heap.size w)
  have hla : ∀ n ∈ exN, n.args.length ≤ 65536 := by decide
  have HLA := Lib.hid hla
  clear ht hla
  go_enter Tryz.func6, Tryz.ntmps6
  go_wp2_with fail
  refine (Leaves_c _).mono ?_
  rintro e V1 ⟨A1, c1, rfl, l1, b1⟩
  have hv1 := HB0.out.trans (b1.mono HB0.out.size)
  go_wp2_with fail
  refine (Nodes_c _).mono ?_
  rintro e U1 ⟨N1, d1, rfl, cp1, n1, e1⟩
  have HU1 := Lib.hid (hv1.trans (e1.mono hv1.size))
  have HE1 := Lib.hid (b1.trans (e1.mono b1.size))
  have HL1 := Lib.hid (l1.below e1)
  have HN1 := Lib.hid n1
  have HC1 := Lib.hid cp1
  clear l1 b1 hv1 n1 e1 cp1
  go_wp2_with fail
  have rv : (U1.alloc (.cells #[.int .i64 14, .int .i64 1] 3)).heap[U1.heap.size]? = some (.cells #[.int .i64 14, .int .i64 1] 3) := heap_alloc_new _ _
  have hbv : Below U1.heap.size U1 (U1.alloc (.cells #[.int .i64 14, .int .i64 1] 3)) := (Below.refl _ _).alloc (Nat.le_refl _) _
  have HV := Lib.hid (ValuesOf_c A1 c1 exL (by decide) N1 d1 exN (by decide) HC1.out HLA.out (some ⟨U1.heap.size, 0, none⟩) 2 [14, 1] (by decide) _ (HL1.out.below hbv) (HN1.out.below hbv) (LiesI.block rv) (HT.out.below (HU1.out.trans (hbv.mono HU1.out.size))))
  rw [ex_err, ex_vals] at HV
  have HW := Lib.hid (HU1.out.trans (hbv.mono HU1.out.size))
  clear rv hbv
  refine HV.out.mono ?_
  rintro e W1 ⟨h1 | ⟨_, X1, x1, rfl, lx1⟩, bx1⟩
  · exact absurd rfl h1.1
  have HB1 := Lib.hid (HW.out.trans (bx1.mono HW.out.size))
  have HX1 := Lib.hid lx1
  clear lx1 bx1 HW HV
  go_wp2_with fail
  refine (Leaves_c _).mono ?_
  rintro e V2 ⟨A2, c2, rfl, l2, b2⟩
  have hv2 := HB1.out.trans (b2.mono HB1.out.size)
  go_wp2_with fail
  refine (Nodes_c _).mono ?_
  rintro e U2 ⟨N2, d2, rfl, cp2, n2, e2⟩
  have HU2 := Lib.hid (hv2.trans (e2.mono hv2.size))
  have HE2 := Lib.hid (b2.trans (e2.mono b2.size))
  have HL2 := Lib.hid (l2.below e2)
  have HN2 := Lib.hid n2
  have HC2 := Lib.hid cp2
  clear l2 b2 hv2 n2 e2 cp2
  go_wp2_with fail
  have HD := Lib.hid (DepthsOf_c A2 c2 exL (by decide) N2 d2 exN (by decide) HC2.out HLA.out _ HL2.out HN2.out (HT.out.below HU2.out))
  rw [ex_chk, ex_deps] at HD
  refine HD.out.mono ?_
  rintro e W2 ⟨h2 | ⟨_, X2, x2, rfl, lx2⟩, bx2⟩
  · exact absurd rfl h2.1
  have HB2 := Lib.hid (HU2.out.trans (bx2.mono HU2.out.size))
  have HK2 := Lib.hid (HE2.out.trans (bx2.mono HE2.out.size))
  have HX2 := Lib.hid lx2
  clear lx2 bx2 HD
  go_wp2_with fail
  refine (Leaves_c _).mono ?_
  rintro e V3 ⟨A3, c3, rfl, l3, b3⟩
  have hv3 := HB2.out.trans (b3.mono HB2.out.size)
  go_wp2_with fail
  refine (Nodes_c _).mono ?_
  rintro e U3 ⟨N3, d3, rfl, cp3, n3, e3⟩
  have HU3 := Lib.hid (hv3.trans (e3.mono hv3.size))
  have HE3 := Lib.hid (b3.trans (e3.mono b3.size))
  have HL3 := Lib.hid (l3.below e3)
  have HN3 := Lib.hid n3
  have HC3 := Lib.hid cp3
  clear l3 b3 hv3 n3 e3 cp3
  go_wp2_with fail
  have HF := Lib.hid (DifferenceOf_ok A3 c3 exL (by decide) N3 d3 exN (by decide) HC3.out HLA.out 0 2 _ _ rfl rfl rfl (by rw [ex_bits]; decide) ex_chk ex_ok _ HL3.out HN3.out (HT.out.below HU3.out))
  refine HF.out.mono ?_
  rintro e W3 ⟨⟨k, X3, x3, hk, hd, hmin, rfl, lx3⟩ | ⟨hno, _⟩, bx3⟩
  case inr => exact absurd ex_dif (hno 0 (by rw [ex_bits]; decide))
  obtain rfl : k = 0 := by
    by_cases h : k = 0
    · exact h
    · exact absurd ex_dif (hmin 0 (by omega))
  rw [ex_tri] at lx3
  have HB3 := Lib.hid (HU3.out.trans (bx3.mono HU3.out.size))
  have HK3 := Lib.hid (HE3.out.trans (bx3.mono HE3.out.size))
  have HX3 := Lib.hid lx3
  clear lx3 bx3 HF hk hd hmin
  go_wp2_with fail
  refine (Nodes_c _).mono ?_
  rintro e U4 ⟨N4, d4, rfl, cp4, n4, e4⟩
  have HU4 := Lib.hid (HB3.out.trans (e4.mono HB3.out.size))
  have HE4 := Lib.hid e4
  have HN4 := Lib.hid n4
  clear cp4 n4 e4
  go_wp2_with fail
  refine (FormatNodes_c N4 d4 exN (by decide) ex_small _ HN4.out (HT.out.below HU4.out)).mono ?_
  rw [ex_fmt]
  rintro e w' ⟨rfl, y, rfl⟩
  have HB4 := Lib.hid (HU4.out.trans (y.pf.mono HU4.out.size))
  have HK4 := Lib.hid (HE4.out.trans (y.pf.mono HE4.out.size))
  generalize y.val = W4 at *
  go_wp2_with fail
  have rI1 : (W4.alloc (.cells #[.int .i64 14, .int .i64 3, .int .i64 1, .int .i64 1, .int .i64 1, .int .i64 1] 3)).heap[W4.heap.size]? = some (.cells #[.int .i64 14, .int .i64 3, .int .i64 1, .int .i64 1, .int .i64 1, .int .i64 1] 3) := heap_alloc_new _ _
  have bI1 : Below W4.heap.size W4 (W4.alloc (.cells #[.int .i64 14, .int .i64 3, .int .i64 1, .int .i64 1, .int .i64 1, .int .i64 1] 3)) := (Below.refl _ _).alloc (Nat.le_refl _) _
  have HI1 := Lib.hid (Ints_c X1 x1 [14, 3, 1, 1, 1, 1] (by decide) (some ⟨W4.heap.size, 0, none⟩) 6 [14, 3, 1, 1, 1, 1] (by decide) _ ((((HX1.out.below HK2.out).below HK3.out).below HK4.out).below bI1) (LiesI.block rI1))
  rw [show eqL [14, 3, 1, 1, 1, 1] [14, 3, 1, 1, 1, 1] = true by decide] at HI1
  have HJ1 := Lib.hid bI1
  clear rI1 bI1
  refine HI1.out.mono ?_
  rintro e w' ⟨rfl, z1, rfl⟩
  have HZ1 := Lib.hid (HJ1.out.trans (z1.pf.mono HJ1.out.size))
  clear HI1 HJ1
  generalize z1.val = Y1 at *
  go_wp2_with fail
  have rI2 : (Y1.alloc (.cells #[.int .i64 0, .int .i64 0, .int .i64 1, .int .i64 0, .int .i64 2, .int .i64 3] 3)).heap[Y1.heap.size]? = some (.cells #[.int .i64 0, .int .i64 0, .int .i64 1, .int .i64 0, .int .i64 2, .int .i64 3] 3) := heap_alloc_new _ _
  have bI2 : Below Y1.heap.size Y1 (Y1.alloc (.cells #[.int .i64 0, .int .i64 0, .int .i64 1, .int .i64 0, .int .i64 2, .int .i64 3] 3)) := (Below.refl _ _).alloc (Nat.le_refl _) _
  have HI2 := Lib.hid (Ints_c X2 x2 [0, 0, 1, 0, 2, 3] (by decide) (some ⟨Y1.heap.size, 0, none⟩) 6 [0, 0, 1, 0, 2, 3] (by decide) _ ((((HX2.out.below HK3.out).below HK4.out).below HZ1.out).below bI2) (LiesI.block rI2))
  rw [show eqL [0, 0, 1, 0, 2, 3] [0, 0, 1, 0, 2, 3] = true by decide] at HI2
  have HJ2 := Lib.hid bI2
  clear rI2 bI2
  refine HI2.out.mono ?_
  rintro e w' ⟨rfl, z2, rfl⟩
  have HZ2 := Lib.hid (HJ2.out.trans (z2.pf.mono HJ2.out.size))
  clear HI2 HJ2
  generalize z2.val = Y2 at *
  go_wp2_with fail
  have rI3 : (Y2.alloc (.cells #[.int .i64 0, .int .i64 0] 3)).heap[Y2.heap.size]? = some (.cells #[.int .i64 0, .int .i64 0] 3) := heap_alloc_new _ _
  have bI3 : Below Y2.heap.size Y2 (Y2.alloc (.cells #[.int .i64 0, .int .i64 0] 3)) := (Below.refl _ _).alloc (Nat.le_refl _) _
  have HI3 := Lib.hid (Ints_c X3 x3 [0, 0] (by decide) (some ⟨Y2.heap.size, 0, none⟩) 2 [0, 0] (by decide) _ ((((HX3.out.below HK4.out).below HZ1.out).below HZ2.out).below bI3) (LiesI.block rI3))
  rw [show eqL [0, 0] [0, 0] = true by decide] at HI3
  have HJ3 := Lib.hid bI3
  clear rI3 bI3
  refine HI3.out.mono ?_
  rintro e w' ⟨rfl, z3, rfl⟩
  have HZ3 := Lib.hid (HJ3.out.trans (z3.pf.mono HJ3.out.size))
  clear HI3 HJ3
  generalize z3.val = Y3 at *
  have HFIN := Lib.hid (HB4.out.trans ((HZ1.out.trans ((HZ2.out.trans (HZ3.out.mono HZ2.out.size)).mono HZ1.out.size)).mono HB4.out.size))
  go_wp2
  go_ret
  exact ⟨rfl, Below.aft HFIN.out⟩

end Go.Proofs.YtkdonapgonegkaaGreatDoor

set_option linter.unusedSimpArgs false
set_option linter.unusedVariables false
namespace Go.Proofs.YtkdonapgonegkaaGreatDoor
open Go.RowKit Go.BigFrame

/-- What a call gives back: a row, or an error and none. -/
def RowV (er : Int) (xs : List Int) (v : Value) (w' : World) : Prop := er ≠ 0 ∧ v = .slice none 0 0 ∨ er = 0 ∧ ∃ A' c, v = .slice A' xs.length c ∧ LiesI w' A' xs
theorem RowE.v {w w' : World} {er : Int} {xs : List Int} {e : Ending} (h : RowE w er xs e w') : ∃ v, e = .returned (.tuple #[v, .int .i64 er]) ∧ RowV er xs v w' ∧ Below w.heap.size w w' := by
  obtain ⟨⟨h1, rfl⟩ | ⟨rfl, A', c, rfl, hl⟩, hb⟩ := h
  · exact ⟨_, rfl, .inl ⟨h1, rfl⟩, hb⟩
  · exact ⟨_, rfl, .inr ⟨rfl, A', c, rfl, hl⟩, hb⟩
theorem RowV.below {W W' : World} {er : Int} {xs : List Int} {v : Value} (h : RowV er xs v W) (hb : Below W.heap.size W W') : RowV er xs v W' := by
  rcases h with h | ⟨h1, A', c, h2, hl⟩
  · exact .inl h
  · exact .inr ⟨h1, A', c, h2, hl.below hb⟩
theorem RowV.nil {W : World} {er : Int} {xs : List Int} {v : Value} (h : RowV er xs v W) (he : er ≠ 0) : v = .slice none 0 0 := by
  rcases h with ⟨_, h⟩ | ⟨h, _⟩
  · exact h
  · exact absurd h he
theorem RowV.good {W : World} {xs : List Int} {v : Value} (h : RowV 0 xs v W) : ∃ A' c, v = .slice A' xs.length c ∧ LiesI W A' xs := by
  rcases h with ⟨h, _⟩ | ⟨_, h⟩
  · exact absurd rfl h
  · exact h
/-- A region of four calls: two rows of numbers and one of nodes are copied and handed on. -/
structure C3 (W2 : World) (ls : List Int) (ns : List Nd) (xs : List Int) (Rr : Value → World → Prop) (b1 b3 b6 b7 : Bool) (q : (Option Addr × Nat) × (Option Addr × Nat) × (Option Addr × Nat) × Value) (W : World) : Prop where
  bel : Below W2.heap.size W2 W
  l1 : b1 = true → LiesI W q.1.1 ls
  l3 : b3 = true → LiesN W q.2.1.1 ns ∧ ns.length ≤ q.2.1.2
  l6 : b6 = true → LiesI W q.2.2.1.1 xs
  l7 : b7 = true → Rr q.2.2.2 W
section
variable {W2 W W' : World} {ls : List Int} {ns : List Nd} {xs : List Int} {Rr : Value → World → Prop} {b1 b3 b6 b7 : Bool} {q : (Option Addr × Nat) × (Option Addr × Nat) × (Option Addr × Nat) × Value}
theorem C3.s1 (h : C3 W2 ls ns xs Rr b1 b3 b6 b7 q W) (hR : ∀ v W W', Rr v W → Below W.heap.size W W' → Rr v W') {A' : Option Addr} {c' : Nat} (hl : LiesI W' A' ls) (hb : Below W.heap.size W W') : C3 W2 ls ns xs Rr true b3 b6 b7 ((A', c'), q.2) W' :=
  ⟨h.bel.trans (hb.mono h.bel.size), fun _ => hl, fun h1 => ⟨(h.l3 h1).1.below hb, (h.l3 h1).2⟩, fun h1 => (h.l6 h1).below hb, fun h1 => hR _ _ _ (h.l7 h1) hb⟩
theorem C3.s3 (h : C3 W2 ls ns xs Rr b1 b3 b6 b7 q W) (hR : ∀ v W W', Rr v W → Below W.heap.size W W' → Rr v W') {A' : Option Addr} {c' : Nat} (hl : LiesN W' A' ns) (hc : ns.length ≤ c') (hb : Below W.heap.size W W') : C3 W2 ls ns xs Rr b1 true b6 b7 (q.1, (A', c'), q.2.2) W' :=
  ⟨h.bel.trans (hb.mono h.bel.size), fun h1 => (h.l1 h1).below hb, fun _ => ⟨hl, hc⟩, fun h1 => (h.l6 h1).below hb, fun h1 => hR _ _ _ (h.l7 h1) hb⟩
theorem C3.s7 (h : C3 W2 ls ns xs Rr b1 b3 b6 b7 q W) {v : Value} (hv : Rr v W') (hb : Below W.heap.size W W') : C3 W2 ls ns xs Rr b1 b3 b6 true (q.1, q.2.1, q.2.2.1, v) W' :=
  ⟨h.bel.trans (hb.mono h.bel.size), fun h1 => (h.l1 h1).below hb, fun h1 => ⟨(h.l3 h1).1.below hb, (h.l3 h1).2⟩, fun h1 => (h.l6 h1).below hb, fun _ => hv⟩
end
theorem eqL_same (a : List Int) : eqL a a = true := by unfold eqL; exact decide_eq_true rfl
theorem thenE_bad {a b : Int} (h : a ≠ 0) : thenE a b = a := if_neg h
theorem thenE_ok {b : Int} : thenE 0 b = b := if_pos rfl
theorem argsE_ok {fr : List Int} {n : Int} (h : argsE fr n 6 = 0) : ∀ x ∈ fr, isIx x n = true := by
  intro x hx
  unfold argsE at h
  by_cases ha : (fr.all fun i => isIx i n) = true
  · exact List.all_eq_true.1 ha x hx
  · rw [if_neg ha] at h; exact absurd h (by decide)

end Go.Proofs.YtkdonapgonegkaaGreatDoor

set_option linter.unusedSimpArgs false
set_option linter.unusedVariables false
namespace Go.Proofs.YtkdonapgonegkaaGreatDoor
open Go.RowKit Go.BigFrame

/-- What a call gives back: nodes and numbers, or an error and none. -/
def AppW (er : Int) (cs : List Nd) (ps : List Int) (v1 v2 : Value) (w' : World) : Prop := er ≠ 0 ∧ v1 = .slice none 0 0 ∧ v2 = .slice none 0 0 ∨ er = 0 ∧ ∃ A c B c2, v1 = .slice A cs.length c ∧ v2 = .slice B ps.length c2 ∧ LiesN w' A cs ∧ LiesI w' B ps
theorem AppE.w {w w' : World} {er : Int} {cs : List Nd} {ps : List Int} {e : Ending} (h : AppE w er cs ps e w') : ∃ v1 v2, e = .returned (.tuple #[v1, v2, .int .i64 er]) ∧ AppW er cs ps v1 v2 w' ∧ Below w.heap.size w w' := by
  obtain ⟨⟨h1, rfl⟩ | ⟨rfl, A, c, B, c2, rfl, hl, hp⟩, hb⟩ := h
  · exact ⟨_, _, rfl, .inl ⟨h1, rfl, rfl⟩, hb⟩
  · exact ⟨_, _, rfl, .inr ⟨rfl, A, c, B, c2, rfl, rfl, hl, hp⟩, hb⟩
theorem AppW.below {W W' : World} {er : Int} {cs : List Nd} {ps : List Int} {v1 v2 : Value} (h : AppW er cs ps v1 v2 W) (hb : Below W.heap.size W W') : AppW er cs ps v1 v2 W' := by
  rcases h with h | ⟨h1, A, c, B, c2, h2, h3, hl, hp⟩
  · exact .inl h
  · exact .inr ⟨h1, A, c, B, c2, h2, h3, hl.below hb, hp.below hb⟩
theorem AppW.nil {W : World} {er : Int} {cs : List Nd} {ps : List Int} {v1 v2 : Value} (h : AppW er cs ps v1 v2 W) (he : er ≠ 0) : v1 = .slice none 0 0 ∧ v2 = .slice none 0 0 := by
  rcases h with ⟨_, h⟩ | ⟨h, _⟩
  · exact h
  · exact absurd h he
theorem AppW.good {W : World} {cs : List Nd} {ps : List Int} {v1 v2 : Value} (h : AppW 0 cs ps v1 v2 W) : ∃ A c B c2, v1 = .slice A cs.length c ∧ v2 = .slice B ps.length c2 ∧ LiesN W A cs ∧ LiesI W B ps := by
  rcases h with ⟨h, _⟩ | ⟨_, h⟩
  · exact absurd rfl h
  · exact h
def NodW (er : Int) (T : List Nd) (v : Value) (w' : World) : Prop := er ≠ 0 ∧ v = .slice none 0 0 ∨ er = 0 ∧ ∃ A c, v = .slice A T.length c ∧ LiesN w' A T
theorem NodesE.w {w w' : World} {er : Int} {T : List Nd} {e : Ending} (h : NodesE w er T e w') : ∃ v, e = .returned (.tuple #[v, .int .i64 er]) ∧ NodW er T v w' ∧ Below w.heap.size w w' := by
  obtain ⟨⟨h1, rfl⟩ | ⟨rfl, A, c, rfl, hl⟩, hb⟩ := h
  · exact ⟨_, rfl, .inl ⟨h1, rfl⟩, hb⟩
  · exact ⟨_, rfl, .inr ⟨rfl, A, c, rfl, hl⟩, hb⟩
theorem NodW.below {W W' : World} {er : Int} {T : List Nd} {v : Value} (h : NodW er T v W) (hb : Below W.heap.size W W') : NodW er T v W' := by
  rcases h with h | ⟨h1, A, c, h2, hl⟩
  · exact .inl h
  · exact .inr ⟨h1, A, c, h2, hl.below hb⟩
theorem NodW.nil {W : World} {er : Int} {T : List Nd} {v : Value} (h : NodW er T v W) (he : er ≠ 0) : v = .slice none 0 0 := by
  rcases h with ⟨_, h⟩ | ⟨h, _⟩
  · exact h
  · exact absurd h he
theorem NodW.good {W : World} {T : List Nd} {v : Value} (h : NodW 0 T v W) : ∃ A c, v = .slice A T.length c ∧ LiesN W A T := by
  rcases h with ⟨h, _⟩ | ⟨_, h⟩
  · exact absurd rfl h
  · exact h
theorem CopiedI.b {w w' : World} {xs : List Int} {e : Ending} (h : CopiedI w xs e w') : ∃ A' c', e = .returned (.slice A' xs.length c') ∧ LiesI w' A' xs ∧ Below w.heap.size w w' := h
theorem conK_args {ns : List Nd} {bs : List Bool} (hal : ∀ (k : Nat) (n : Nd), ns[k]? = some n → n.args.length ≤ 3) : ∀ k : Nat, ∀ m ∈ (conK ns bs k).1, m.args.length ≤ 3 := by
  intro k
  induction k with
  | zero => intro m hm; simp [conK] at hm
  | succ k ih =>
    simp only [conK]
    split
    · exact ih
    · rename_i n hn
      split
      · intro m hm
        rcases List.mem_append.1 hm with hm | hm
        · exact ih m hm
        · obtain rfl := List.mem_singleton.1 hm
          simpa using hal k n hn
      · exact ih
theorem fldL_args {ns : List Nd} (hal : ∀ (k : Nat) (n : Nd), ns[k]? = some n → n.args.length ≤ 3) : ∀ m ∈ fldL ns, m.args.length ≤ 3 := by
  intro m hm
  obtain ⟨k, hk, rfl⟩ := List.mem_iff_getElem.1 hm
  rw [fldL_len] at hk
  have h1 := List.getElem?_eq_getElem hk
  have h2 := fldL_at h1
  have h3 := (List.getElem?_eq_some_iff.1 h2).2
  rw [h3]
  exact Nat.le_trans (fldN_al _ _) (hal k _ h1)

set_option maxRecDepth 100000 in
set_option maxHeartbeats 6400000 in
theorem GraphSmaller_main (A : Option Addr) (cap : Nat) (ls : List Int) (N : Option Addr) (capN : Nat) (ns : List Nd) (F : Option Addr) (cf : Nat) (fr : List Int) (w : World)
    (hA : LiesI w A ls) (hA0 : ls.length = 0 → A = none ∧ cap = 0 ∨ ∃ ad, A = some ad) (hN : LiesG w N ns) (hF : LiesI w F fr) (hF0 : fr.length = 0 → F = none ∧ cf = 0 ∨ ∃ ad, F = some ad) (ht : TabOps w) :
    Calls Tryz.prog 3 #[.slice A ls.length cap, .slice N ns.length capN, .slice F fr.length cf] w fun e w' => e = .returned (.bool true) ∧ ∃ x : Aft w, w' = x.val := by
  have HAW := Lib.hid (fun (W : World) (hb : Below w.heap.size w W) => awake_c W (ht.below hb))
  have HFA := Lib.hid (fun (W : World) (hb : Below w.heap.size w W) => few_c A cap ls N capN ns W (hN.n.below hb))
  cases hfa : fewB ls ns
  · rw [hfa] at HFA
    clear hfa hA hA0 hN hF hF0 ht
    go_enter Tryz.func3, Tryz.ntmps3
    go_wp2_with fail
    refine (HAW.out w (Below.refl _ _)).mono ?_
    rintro e w' ⟨rfl, y, rfl⟩
    have hb0 := y.pf
    generalize y.val = V0 at *
    go_wp2_with ((go_at_call 7; (with_reducible refine (HFA.out _ (by with_reducible assumption)).mono ?_); rintro e w' ⟨rfl, rfl⟩))
    go_ret
    exact ⟨rfl, Below.aft hb0⟩
  rw [hfa] at HFA
  obtain ⟨f1, f2, f3⟩ := fewB_true hfa
  by_cases g60 : 60 < fr.length
  · have g60' : (60 : Int) < fr.length := by omega
    clear hfa hA hA0 hN hF hF0 ht f1 f2 f3
    go_enter Tryz.func3, Tryz.ntmps3
    go_wp2_with fail
    refine (HAW.out w (Below.refl _ _)).mono ?_
    rintro e w' ⟨rfl, y, rfl⟩
    have hb0 := y.pf
    generalize y.val = V0 at *
    go_wp2_with ((go_at_call 7; (with_reducible refine (HFA.out _ (by with_reducible assumption)).mono ?_); rintro e w' ⟨rfl, rfl⟩))
    go_ret
    exact ⟨rfl, Below.aft hb0⟩
  have g60' : ¬ (60 : Int) < fr.length := by omega
  have f4 : ∀ n ∈ ns, n.args.length ≤ 65536 := fun n hn => by have := f3 n hn; omega
  have HCI := Lib.hid (fun (W : World) (hb : Below w.heap.size w W) => (CopyIntsI_c A cap ls W (hA.below hb) hA0 (by omega)).mono fun _ _ h => h.b)
  have HCF := Lib.hid (fun (W : World) (hb : Below w.heap.size w W) => (CopyIntsI_c F cf fr W (hF.below hb) hF0 (by omega)).mono fun _ _ h => h.b)
  have HCN := Lib.hid (fun (W : World) (hb : Below w.heap.size w W) => CopyNodes_c N capN ns (by omega) f4 W (hN.below hb))
  have HSH := Lib.hid (fun (W : World) (hb : Below w.heap.size w W) (A' : Option Addr) (c' : Nat) (N' : Option Addr) (cn' : Nat) (h1 : LiesI W A' ls) (h2 : LiesN W N' ns) (h3 : ns.length ≤ cn') => (SharedOf_c A' c' ls (by omega) N' cn' ns (by omega) h3 f4 W h1 h2 (ht.below hb)).mono fun _ _ h => h.w)
  have HFO := Lib.hid (fun (W : World) (hb : Below w.heap.size w W) (A' : Option Addr) (c' : Nat) (N' : Option Addr) (cn' : Nat) (h1 : LiesI W A' ls) (h2 : LiesN W N' ns) (h3 : ns.length ≤ cn') => (FoldedOf_c A' c' ls (by omega) N' cn' ns (by omega) h3 f4 W h1 h2 (ht.below hb)).mono fun _ _ h => h.w)
  have HCO := Lib.hid (fun (W : World) (hb : Below w.heap.size w W) (A' : Option Addr) (c' : Nat) (N' : Option Addr) (cn' : Nat) (X' : Option Addr) (cx' : Nat) (h1 : LiesI W A' ls) (h2 : LiesN W N' ns) (h3 : ns.length ≤ cn') (h4 : LiesI W X' fr) => (ConeOf_c A' c' ls (by omega) N' cn' ns (by omega) h3 f4 X' cx' fr (by omega) W h1 h2 h4 (ht.below hb)).mono fun _ _ h => h.w)
  have HNE := Lib.hid (fun (W : World) (hb : Below w.heap.size w W) => refNodesErr_c A cap ls (by omega) N capN ns (by omega) f4 W (hA.below hb) (hN.n.below hb))
  have HFE := Lib.hid (fun (W : World) (hb : Below w.heap.size w W) => refFromErr_c N capN ns.length (by omega) F cf fr (by omega) W (hF.below hb))
  have HRS := Lib.hid (fun (h : (chk ls ns).2 = 0) (W : World) (hb : Below w.heap.size w W) => refShared_c N capN ns (by omega) ls.length (chk_nodes h) W (hN.n.below hb))
  have HRF := Lib.hid (fun (h : (chk ls ns).2 = 0) (W : World) (hb : Below w.heap.size w W) => refFolded_c h N capN W (hN.below hb))
  have HRC := Lib.hid (fun (h : (chk ls ns).2 = 0) (he : argsE fr ns.length 6 = 0) (W : World) (hb : Below w.heap.size w W) => refCone_c N capN ns (by omega) ls.length (chk_nodes h) F cf fr (by omega) (argsE_ok he) W (hN.n.below hb) (hF.below hb))
  have h3 := fun (h : (chk ls ns).2 = 0) (k : Nat) (n : Nd) (hn : ns[k]? = some n) => (chk_nodes h k n hn).al
  have HA1 := Lib.hid (fun (h : (chk ls ns).2 = 0) => (show ∀ m ∈ shN ns, m.args.length ≤ 65536 from fun m hm => by have := shK_al3 (h3 h) ns.length m hm; omega))
  have HA3 := Lib.hid (fun (h : (chk ls ns).2 = 0) => (show ∀ m ∈ fldL ns, m.args.length ≤ 65536 from fun m hm => by have := fldL_args (h3 h) m hm; omega))
  have HA4 := Lib.hid (fun (h : (chk ls ns).2 = 0) => (show ∀ m ∈ coneN ns fr, m.args.length ≤ 65536 from fun m hm => by have := conK_args (bs := belL ns fr) (h3 h) ns.length m hm; omega))
  have HL1 := Lib.hid (show (shN ns).length ≤ 65536 by have := (shK_len (ns := ns) ns.length).2; unfold shN; omega)
  have HL2 := Lib.hid (show (shP ns).length ≤ 65536 by have := (shK_len (ns := ns) ns.length).1; unfold shP; omega)
  have HL3 := Lib.hid (show (fldL ns).length ≤ 65536 by rw [fldL_len]; omega)
  have HL4 := Lib.hid (show (coneN ns fr).length ≤ 65536 by have := (conK_len (ns := ns) (bs := belL ns fr) ns.length).2; unfold coneN; omega)
  have HL5 := Lib.hid (show (coneP ns fr).length ≤ 65536 by unfold coneP; rw [pickL_len]; omega)
  have hfE : fromE ls ns fr = thenE (chk ls ns).2 (argsE fr ns.length 6) := rfl
  rw [hfE] at HCO
  clear hfE hfa hA hA0 hN hF hF0 ht f1 f2 f3 f4 h3
  generalize (chk ls ns).2 = ce at *
  generalize argsE fr ns.length 6 = ef at *
  generalize shN ns = Cs at *
  generalize shP ns = Ps at *
  generalize fldL ns = Fs at *
  generalize coneN ns fr = Ks at *
  generalize coneP ns fr = Qs at *
  have HT4 := Lib.hid (fun (h : ce ≠ 0) => thenE_bad (b := ef) h)
  have HT6 := Lib.hid (show ce = 0 → thenE ce ef = ef from fun h => by rw [h]; exact thenE_ok)
  generalize thenE ce ef = t4 at *
  go_enter Tryz.func3, Tryz.ntmps3
  go_wp2_with fail
  refine (HAW.out w (Below.refl _ _)).mono ?_
  rintro e w' ⟨rfl, y, rfl⟩
  have hb0 := y.pf
  generalize y.val = V0 at *
  go_upto_region 5 with ((go_at_call 7; (with_reducible refine (HFA.out _ (by with_reducible assumption)).mono ?_); rintro e w' ⟨rfl, rfl⟩))
  clear HAW HFA
  go_wp2_with fail
  refine ((HCI.out V0 hb0)).mono ?_
  rintro e V1 ⟨A1, cA1, rfl, hl1, hs1⟩
  have hb1 := hb0.trans (hs1.mono hb0.size)
  clear hs1
  go_wp2_with fail
  refine ((HCN.out V1 hb1)).mono ?_
  rintro e V2 ⟨A2, cA2, rfl, hcA2, hl2, hs2⟩
  have hb2 := hb1.trans (hs2.mono hb1.size)
  have hl1 := hl1.below hs2
  clear hs2 hb1
  go_wp2_with fail
  refine ((HSH.out V2 hb2 A1 cA1 A2 cA2 hl1 hl2 hcA2)).mono ?_
  rintro e V3 ⟨va, vm, rfl, hv1, hs3⟩
  have hb3 := hb2.trans (hs3.mono hb2.size)
  have hl1 := hl1.below hs3
  have hl2 := hl2.below hs3
  clear hs3 hb2
  clear hl1 hl2
  go_wp2_with fail
  refine ((HCI.out V3 hb3)).mono ?_
  rintro e V4 ⟨A3, cA3, rfl, hl1, hs4⟩
  have hb4 := hb3.trans (hs4.mono hb3.size)
  have hv1 := hv1.below hs4
  clear hs4 hb3
  go_wp2_with fail
  refine ((HCN.out V4 hb4)).mono ?_
  rintro e V5 ⟨A4, cA4, rfl, hcA4, hl2, hs5⟩
  have hb5 := hb4.trans (hs5.mono hb4.size)
  have hv1 := hv1.below hs5
  have hl1 := hl1.below hs5
  clear hs5 hb4
  go_wp2_with fail
  refine ((HFO.out V5 hb5 A3 cA3 A4 cA4 hl1 hl2 hcA4)).mono ?_
  rintro e V6 ⟨vb, rfl, hv2, hs6⟩
  have hb6 := hb5.trans (hs6.mono hb5.size)
  have hv1 := hv1.below hs6
  have hl1 := hl1.below hs6
  have hl2 := hl2.below hs6
  clear hs6 hb5
  clear hl1 hl2
  go_wp2_with fail
  refine ((HCI.out V6 hb6)).mono ?_
  rintro e V7 ⟨A5, cA5, rfl, hl1, hs7⟩
  have hb7 := hb6.trans (hs7.mono hb6.size)
  have hv1 := hv1.below hs7
  have hv2 := hv2.below hs7
  clear hs7 hb6
  go_wp2_with fail
  refine ((HCN.out V7 hb7)).mono ?_
  rintro e V8 ⟨A6, cA6, rfl, hcA6, hl2, hs8⟩
  have hb8 := hb7.trans (hs8.mono hb7.size)
  have hv1 := hv1.below hs8
  have hv2 := hv2.below hs8
  have hl1 := hl1.below hs8
  clear hs8 hb7
  go_wp2_with fail
  refine ((HCF.out V8 hb8)).mono ?_
  rintro e V9 ⟨A7, cA7, rfl, hl3, hs9⟩
  have hb9 := hb8.trans (hs9.mono hb8.size)
  have hv1 := hv1.below hs9
  have hv2 := hv2.below hs9
  have hl1 := hl1.below hs9
  have hl2 := hl2.below hs9
  clear hs9 hb8
  go_wp2_with fail
  refine ((HCO.out V9 hb9 A5 cA5 A6 cA6 A7 cA7 hl1 hl2 hcA6 hl3)).mono ?_
  rintro e V10 ⟨vc, vn, rfl, hv3, hs10⟩
  have hb10 := hb9.trans (hs10.mono hb9.size)
  have hv1 := hv1.below hs10
  have hv2 := hv2.below hs10
  have hl1 := hl1.below hs10
  have hl2 := hl2.below hs10
  have hl3 := hl3.below hs10
  clear hs10 hb9
  clear hl1 hl2 hl3
  go_wp2_with fail
  refine ((HNE.out V10 hb10)).mono ?_
  rintro e w' ⟨rfl, y11, rfl⟩
  have hs11 := y11.pf
  have hb11 := hb10.trans (hs11.mono hb10.size)
  have hv1 := hv1.below hs11
  have hv2 := hv2.below hs11
  have hv3 := hv3.below hs11
  clear hs11 hb10
  generalize y11.val = V11 at *
  by_cases hce : ce = 0
  case neg =>
    have d1 : (ce == 0) = false := by simpa using hce
    have d2 : (ce != 0) = true := by simpa using hce
    obtain rfl : t4 = ce := HT4.out hce
    obtain ⟨rfl, rfl⟩ := hv1.nil hce
    obtain rfl := hv2.nil hce
    obtain ⟨rfl, rfl⟩ := hv3.nil hce
    clear hce hv1 hv2 hv3
    go_wp2
    go_ret
    exact ⟨rfl, Below.aft hb11⟩
  subst hce
  obtain rfl : t4 = ef := HT6.out rfl
  obtain ⟨Aa, ca, Am, cm, rfl, rfl, hla, hlm⟩ := hv1.good
  obtain ⟨Ab, cb, rfl, hlb⟩ := hv2.good
  clear hv1 hv2
  go_wp2_with fail
  refine ((HRS.out (by first | rfl | trivial) V11 hb11)).mono ?_
  rintro e V12 ⟨Ax, cx, Ay, cy, rfl, _, hlx, hly, hs12⟩
  have hb12 := hb11.trans (hs12.mono hb11.size)
  have hv3 := hv3.below hs12
  have hla := hla.below hs12
  have hlm := hlm.below hs12
  have hlb := hlb.below hs12
  clear hs12 hb11
  go_wp2_with fail
  refine ((SameNodes_c Aa ca Ax cx Cs HL1.out (HA1.out (by first | rfl | trivial)) V12 hla hlx)).mono ?_
  rintro e w' ⟨rfl, y13, rfl⟩
  have hs13 := y13.pf
  have hb13 := hb12.trans (hs13.mono hb12.size)
  have hv3 := hv3.below hs13
  have hla := hla.below hs13
  have hlm := hlm.below hs13
  have hlb := hlb.below hs13
  have hlx := hlx.below hs13
  have hly := hly.below hs13
  clear hs13 hb12
  generalize y13.val = V13 at *
  clear hla hlx
  have HI := Ints_c Am cm Ps HL2.out Ay cy Ps HL2.out V13 hlm hly
  rw [eqL_same] at HI
  have HI := Lib.hid HI
  go_wp2_with fail
  refine (HI.out).mono ?_
  rintro e w' ⟨rfl, y14, rfl⟩
  have hs14 := y14.pf
  have hb14 := hb13.trans (hs14.mono hb13.size)
  have hv3 := hv3.below hs14
  have hlm := hlm.below hs14
  have hlb := hlb.below hs14
  have hly := hly.below hs14
  clear hs14 hb13
  generalize y14.val = V14 at *
  clear hlm hly
  go_wp2_with fail
  refine ((HRF.out (by first | rfl | trivial) V14 hb14)).mono ?_
  rintro e V15 ⟨Af, cf2, rfl, _, hlf, hs15⟩
  have hb15 := hb14.trans (hs15.mono hb14.size)
  have hv3 := hv3.below hs15
  have hlb := hlb.below hs15
  clear hs15 hb14
  go_wp2_with fail
  refine ((SameNodes_c Ab cb Af cf2 Fs HL3.out (HA3.out (by first | rfl | trivial)) V15 hlb hlf)).mono ?_
  rintro e w' ⟨rfl, y16, rfl⟩
  have hs16 := y16.pf
  have hb16 := hb15.trans (hs16.mono hb15.size)
  have hv3 := hv3.below hs16
  have hlb := hlb.below hs16
  have hlf := hlf.below hs16
  clear hs16 hb15
  generalize y16.val = V16 at *
  clear hlb hlf
  go_wp2_with fail
  refine ((HFE.out V16 hb16)).mono ?_
  rintro e w' ⟨rfl, rfl⟩
  by_cases hef : t4 = 0
  case neg =>
    have d1 : (t4 == 0) = false := by simpa using hef
    have d2 : (t4 != 0) = true := by simpa using hef
    obtain ⟨rfl, rfl⟩ := hv3.nil hef
    clear hef hv3
    go_wp2
    go_ret
    exact ⟨rfl, Below.aft hb16⟩
  subst hef
  obtain ⟨Ac, cc, An, cn, rfl, rfl, hlc, hln⟩ := hv3.good
  clear hv3
  go_wp2_with fail
  refine ((HRC.out (by first | rfl | trivial) (by first | rfl | trivial) V16 hb16)).mono ?_
  rintro e V17 ⟨Ax2, cx2, Ay2, cy2, rfl, _, hlx, hly, hs17⟩
  have hb17 := hb16.trans (hs17.mono hb16.size)
  have hlc := hlc.below hs17
  have hln := hln.below hs17
  clear hs17 hb16
  go_wp2_with fail
  refine ((SameNodes_c Ac cc Ax2 cx2 Ks HL4.out (HA4.out (by first | rfl | trivial)) V17 hlc hlx)).mono ?_
  rintro e w' ⟨rfl, y18, rfl⟩
  have hs18 := y18.pf
  have hb18 := hb17.trans (hs18.mono hb17.size)
  have hlc := hlc.below hs18
  have hln := hln.below hs18
  have hlx := hlx.below hs18
  have hly := hly.below hs18
  clear hs18 hb17
  generalize y18.val = V18 at *
  clear hlc hlx
  have HI := Ints_c An cn Qs HL5.out Ay2 cy2 Qs HL5.out V18 hln hly
  rw [eqL_same] at HI
  have HI := Lib.hid HI
  go_wp2_with fail
  refine (HI.out).mono ?_
  rintro e w' ⟨rfl, y19, rfl⟩
  have hs19 := y19.pf
  have hb19 := hb18.trans (hs19.mono hb18.size)
  have hln := hln.below hs19
  have hly := hly.below hs19
  clear hs19 hb18
  generalize y19.val = V19 at *
  clear hln hly
  go_wp2
  go_ret
  exact ⟨rfl, Below.aft hb19⟩

end Go.Proofs.YtkdonapgonegkaaGreatDoor
