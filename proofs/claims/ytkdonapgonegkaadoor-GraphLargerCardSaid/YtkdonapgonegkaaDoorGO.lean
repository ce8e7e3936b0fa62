/-
  Contracts of chapter 2 (graph): the string of nodes whose numbers are small.
-/
import Derived.Test.YtkdonapgonegkaaDoorGN
set_option linter.unusedSimpArgs false
set_option linter.unusedVariables false
namespace Go.Proofs.YtkdonapgonegkaaDoor
open Go.RowKit Go.BigFrame

structure SmallN (n : Nd) : Prop where
  nums : ∃ o wd v : Nat, o < 19 ∧ wd < 100 ∧ v < 100 ∧ n.op = o ∧ n.wd = wd ∧ n.v = v
  al : n.args.length ≤ 5
  sm : ∀ a ∈ n.args, Small a
/-- The string of the first nodes. -/
def fmtK (ns : List Nd) : Nat → List UInt8
  | 0 => []
  | k + 1 => fmtK ns k ++ (if 0 < k then [59] else []) ++ (match ns[k]? with | none => [] | some n => nodeS n.op.toNat n.wd n.args n.v)
theorem fmtK_step {ns : List Nd} {k : Nat} {n : Nd} (h : ns[k]? = some n) : fmtK ns (k + 1) = fmtK ns k ++ (if 0 < k then [59] else []) ++ nodeS n.op.toNat n.wd n.args n.v := by simp only [fmtK, h]
theorem nodeS_len {n : Nd} (h : SmallN n) : (nodeS n.op.toNat n.wd n.args n.v).length ≤ 26 := by
  obtain ⟨⟨o, wd, v, ho, hw, hv, e1, e2, e3⟩, al, sm⟩ := h
  rw [e1, e2, e3]
  have h1 := (opL_len o ho).2
  have h2 := spD_len hw
  have h3 := spD_len hv
  have h4 := flat_len sm
  unfold nodeS
  simp only [List.length_append, Int.toNat_natCast]
  split
  · omega
  · simp only [List.length_nil]; omega
theorem fmtK_len {ns : List Nd} (hs : ∀ n ∈ ns, SmallN n) : ∀ k : Nat, (fmtK ns k).length ≤ 27 * k := by
  intro k
  induction k with
  | zero => exact Nat.le_refl _
  | succ k ih =>
    simp only [fmtK, List.length_append]
    have h1 : (if 0 < k then [59] else ([] : List UInt8)).length ≤ 1 := by split <;> simp
    cases hn : ns[k]? with
    | none => simp only [List.length_nil]; omega
    | some n =>
      have := nodeS_len (hs n (List.mem_of_getElem? hn))
      simp only; omega

set_option maxRecDepth 100000 in
set_option maxHeartbeats 1600000 in
theorem FormatNodes_c (N : Option Addr) (capN : Nat) (ns : List Nd) (hns : ns.length ≤ 400) (hsm : ∀ n ∈ ns, SmallN n) (w : World) (hN : LiesN w N ns) (ht : TabOps w) :
    Calls Tryd.prog 44 #[.slice N ns.length capN] w fun e w' => e = .returned (.string ⟨(fmtK ns ns.length).toArray⟩) ∧ ∃ x : Aft w, w' = x.val := by
  have HNN := Lib.hid hN
  have HT := Lib.hid ht
  have HSA := Lib.hid hsm
  have hl400 := fmtK_len hsm
  have HLL := Lib.hid hl400
  clear hN ht hsm hl400
  go_enter Tryd.func44, Tryd.ntmps44
  go_wp2_with fail
  have hb0 : Below w.heap.size w (w.alloc (.cells #[.pointer none, .slice none 0 0] 106)) := (Below.refl _ _).alloc (Nat.le_refl _) _
  have HI0 : Hid (Lib.IsBuilder 106 5 w.heap.size w.heap.size (Lib.byteCells (fmtK ns 0)) (w.alloc (.cells #[.pointer none, .slice none 0 0] 106))) := Lib.hid (.inl ⟨Nat.le_refl _, .slice none 0 0, heap_alloc_new _ _, World.ownsRow_nil _ _ _ _, by simp [Value.ownBlock]⟩)
  generalize w.alloc (.cells #[.pointer none, .slice none 0 0] 106) = W0 at *
  go_loopw [8] (fun v8 wr => ∃ k : Nat, k ≤ ns.length ∧ v8 = .int .i64 k ∧ Lib.IsBuilder 106 5 w.heap.size w.heap.size (Lib.byteCells (fmtK ns k)) wr ∧ Below w.heap.size w wr) (fun v8 _ => ns.length - (intOf v8).toNat)
  case atStart => exact ⟨0, by omega, rfl, HI0.out, hb0⟩
  case round =>
    clear HI0 hb0
    obtain ⟨k, hk, rfl, hib, hb⟩ := hrel
    have HIB := Lib.hid hib
    have hll := HLL.out k
    by_cases hlt : k < ns.length
    · have hkk : (k : Int) < ns.length := by omega
      have HX := Lib.hid (List.getElem?_eq_getElem hlt)
      have HSM := Lib.hid (HSA.out _ (List.getElem_mem hlt))
      generalize ns[k] = x at *
      have HS := Lib.hid (fmtK_step HX.out)
      obtain ⟨ad, rfl, hbl, c0, c1, c3, B, bc, c2, hB⟩ := HNN.out.cells HX.out
      have hbk : ∀ p : Addr, p.block = ad.block → wr.cell? p = w.cell? p := fun p hp => hb.cell (p := p) (by rw [hp]; exact hbl)
      have a0 := (hbk (ad.add (k * 4)) (by rw [addB])).trans c0
      have a1 : wr.cell? ⟨(ad.add (k * 4)).block, (ad.add (k * 4)).off + 1, none⟩ = some (.int .i64 x.wd) := (hbk ((ad.add (k * 4)).add 1) (by rw [addB, addB])).trans c1
      have a2 : wr.cell? ⟨(ad.add (k * 4)).block, (ad.add (k * 4)).off + 2, none⟩ = some (.slice B x.args.length bc) := (hbk ((ad.add (k * 4)).add 2) (by rw [addB, addB])).trans c2
      have a3 : wr.cell? ⟨(ad.add (k * 4)).block, (ad.add (k * 4)).off + 3, none⟩ = some (.int .i64 x.v) := (hbk ((ad.add (k * 4)).add 3) (by rw [addB, addB])).trans c3
      clear c0 c1 c2 c3 hbk
      have HBL := Lib.hid hB
      clear hB
      obtain ⟨op, wd, args, v⟩ := x
      obtain ⟨o, wd, v, ho, hwd, hv, e1, e2, e3⟩ := HSM.out.nums
      simp only at e1 e2 e3
      subst e1
      subst e2
      subst e3
      simp only at a0 a1 a2 a3 HBL HS
      have hbx : w.heap.size < wr.heap.size := by
        rcases hib with h | h
        · obtain ⟨_, _, hbk, _⟩ := h; exact (Array.getElem?_eq_some_iff.1 hbk).1
        · obtain ⟨_, _, hbk, _⟩ := h; exact (Array.getElem?_eq_some_iff.1 hbk).1
      have rn : (wr.alloc (.cells #[.int .i64 o, .int .i64 wd, .slice B args.length bc, .int .i64 v] 65)).heap[wr.heap.size]? = some (.cells #[.int .i64 o, .int .i64 wd, .slice B args.length bc, .int .i64 v] 65) := heap_alloc_new _ _
      have hb1 : Below w.heap.size w (wr.alloc (.cells #[.int .i64 o, .int .i64 wd, .slice B args.length bc, .int .i64 v] 65)) := hb.alloc hb.size _
      have HIB1 := Lib.hid (isB_below HIB.out (show Below wr.heap.size wr (wr.alloc (.cells #[.int .i64 o, .int .i64 wd, .slice B args.length bc, .int .i64 v] 65)) from (Below.refl _ _).alloc (Nat.le_refl _) _))
      have ho2 : ((o : Nat) : Int).toNat = o := Int.toNat_natCast o
      rw [ho2] at HS
      clear hib ho2
      by_cases hk0 : 0 < k
      · rw [if_pos hk0] at HS
        have hkp : (0 : Int) < k := by omega
        have HWB := Lib.hid (WriteByte_c w.heap.size w.heap.size (Lib.byteCells (fmtK ns k)) 59 _ HIB1.out (by rw [Lib.byteCells_length]; omega) hb1.size)
        go_wp2_with fail
        refine HWB.out.mono ?_
        rintro e W2 ⟨rfl, hB2, hb2, hk2⟩
        have rn2 := hk2.2 _ _ rn (by omega) (not_u8 (by decide))
        have HBW := Lib.hid (hb1.trans hb2)
        have hB2' : Lib.BuilderAt 106 5 w.heap.size w.heap.size (.pointer (some ⟨w.heap.size, 0, none⟩)) (Lib.byteCells (fmtK ns k ++ [59])) W2 := by rw [Lib.byteCells_append]; exact hB2
        have s0 := cell_block (i := 0) rn2
        have s1 := cell_block (i := 1) rn2
        have s2 := cell_block (i := 2) rn2
        have s3 := cell_block (i := 3) rn2
        simp at s0 s1 s2 s3
        have ln := lt_of_get rn2
        clear rn rn2 hb1 hb2 hk2 hB2 a0 a1 a2 a3 hb
        have HWN := Lib.hid (writeNode_c o wd v ho hwd hv args HSM.out.sm HSM.out.al B bc w.heap.size w.heap.size (fmtK ns k ++ [59]) (by rw [List.length_append]; simp only [List.length_cons, List.length_nil]; omega) w W2 (Nat.le_refl _) HBW.out HBL.out HT.out (.inr hB2') HBW.out.size)
        go_wp2_with fail
        refine HWN.out.mono ?_
        rintro e W9 ⟨⟨ev, rfl⟩, hB9, hb9, _⟩
        have HF := Lib.hid (show Lib.IsBuilder 106 5 w.heap.size w.heap.size (Lib.byteCells (fmtK ns (k + 1))) W9 ∧ Below w.heap.size w W9 from ⟨.inr (by rw [HS.out]; exact hB9), HBW.out.trans hb9⟩)
        clear hB9 hb9
        go_wp2
        go_roundw
        case rel => exact ⟨k + 1, by omega, by go_num, HF.out.1, HF.out.2⟩
        case measure => simp [intOf]; omega
      · rw [if_neg hk0, List.append_nil] at HS
        have hk1 : ¬ (0 : Int) < k := by omega
        have hbW : ∀ W, W = wr.alloc (.cells #[.int .i64 o, .int .i64 wd, .slice B args.length bc, .int .i64 v] 65) → Below w.heap.size w W := fun W h => by rw [h]; exact hb1
        have HBW := Lib.hid hb1
        clear hbW rn hb1
        have HWN := Lib.hid (writeNode_c o wd v ho hwd hv args HSM.out.sm HSM.out.al B bc w.heap.size w.heap.size (fmtK ns k) (by omega) w _ (Nat.le_refl _) HBW.out HBL.out HT.out HIB1.out HBW.out.size)
        go_wp2_with fail
        refine HWN.out.mono ?_
        rintro e W9 ⟨⟨ev, rfl⟩, hB9, hb9, _⟩
        have HF := Lib.hid (show Lib.IsBuilder 106 5 w.heap.size w.heap.size (Lib.byteCells (fmtK ns (k + 1))) W9 ∧ Below w.heap.size w W9 from ⟨.inr (by rw [HS.out]; exact hB9), HBW.out.trans hb9⟩)
        clear hB9 hb9
        go_wp2
        go_roundw
        case rel => exact ⟨k + 1, by omega, by go_num, HF.out.1, HF.out.2⟩
        case measure => simp [intOf]; omega
    · obtain rfl : k = ns.length := by omega
      have HST := Lib.hid (Tryd.Builder_String_any w.heap.size w.heap.size (fmtK ns ns.length) wr HIB.out hb.size)
      clear hib
      go_wp2_with fail
      refine HST.out.mono ?_
      rintro e W9 ⟨rfl, hb9⟩
      have HF := Lib.hid (hb.trans hb9)
      clear hb9
      go_wp2
      go_ret
      exact ⟨rfl, Below.aft HF.out⟩

end Go.Proofs.YtkdonapgonegkaaDoor
