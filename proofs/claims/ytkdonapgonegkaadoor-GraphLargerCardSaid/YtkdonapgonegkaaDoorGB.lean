/-
  Contracts of chapter 2 (graph): the nodes below some nodes.
-/
import Derived.Test.YtkdonapgonegkaaDoorGA
set_option linter.unusedSimpArgs false
set_option linter.unusedVariables false
namespace Go.Proofs.YtkdonapgonegkaaDoor
open Go.RowKit Go.BigFrame

/-- A row of truth values. -/
def rowB (bs : List Bool) : Array Value := (bs.map Value.bool).toArray
theorem rowB_in {bs : List Bool} {k : Nat} {b : Bool} (h : bs[k]? = some b) : (rowB bs)[k]? = some (.bool b) := by simp [rowB, h]
theorem rowB_set (bs : List Bool) (k : Nat) (b : Bool) : (rowB bs).setIfInBounds k (.bool b) = rowB (bs.set k b) := by
  simp [rowB, List.setIfInBounds_toArray, List.map_set]
theorem rowB_made (n : Nat) : ((madeCells (Value.bool false).cells (n * 1)).toList).toArray = rowB (List.replicate n false) := by
  rw [show (Value.bool false).cells = #[Value.bool false] from rfl, Nat.mul_one, toList_madeCells_one]
  simp [rowB]
theorem bool_info : (Tryd.prog.info? 4).map (fun i => (i.zero, i.size, i.bytes)) = some (some (.bool false), 1, 1) := by kernel_rfl
/-- A slice of truth values in memory. -/
def LiesB (w : World) (A : Option Addr) (bs : List Bool) : Prop :=
  0 < bs.length → ∃ ad, A = some ad ∧ ad.block < w.heap.size ∧ ∀ i b, bs[i]? = some b → w.cell? (ad.add i) = some (.bool b)
theorem LiesB.below {w W : World} {A : Option Addr} {bs : List Bool} (h : LiesB w A bs) (hb : Below w.heap.size w W) : LiesB W A bs := fun hp => by
  obtain ⟨ad, rfl, hbk, hc⟩ := h hp
  exact ⟨ad, rfl, Nat.lt_of_lt_of_le hbk hb.size, fun i b hi => (hb.cell (p := ad.add i) (by rw [addB]; exact hbk)).trans (hc i b hi)⟩
theorem LiesB.cell {w : World} {A : Option Addr} {bs : List Bool} (h : LiesB w A bs) {k : Nat} {b : Bool} (hx : bs[k]? = some b) : ∃ ad, A = some ad ∧ ad.block < w.heap.size ∧ w.cell? (ad.add k) = some (.bool b) := by
  obtain ⟨ad, rfl, hb, hc⟩ := h (by have := (List.getElem?_eq_some_iff.1 hx).1; omega)
  exact ⟨ad, rfl, hb, hc k b hx⟩
theorem LiesB.block {w : World} {g : Nat} {T : TypeId} {bs : List Bool} (h : w.heap[g]? = some (.cells (rowB bs) T)) : LiesB w (some ⟨g, 0, none⟩) bs := fun _ => by
  refine ⟨_, rfl, (Array.getElem?_eq_some_iff.1 h).1, fun i b hi => ?_⟩
  have := cell_block (i := i) h
  rw [Addr.add_lit, Nat.zero_add, this]
  exact rowB_in hi
def CopiedB (w : World) (bs : List Bool) (e : Ending) (w' : World) : Prop := ∃ A' cap', e = .returned (.slice A' bs.length cap') ∧ LiesB w' A' bs ∧ (∀ ad, A' = some ad → w.heap.size ≤ ad.block) ∧ Below w.heap.size w w'
/-- All blocks but one are as they were. -/
structure But (g : Nat) (W w : World) : Prop where
  size : W.heap.size ≤ w.heap.size
  block : ∀ n, n < W.heap.size → n ≠ g → w.heap[n]? = W.heap[n]?
theorem But.refl (g : Nat) (W : World) : But g W W := ⟨Nat.le_refl _, fun _ _ _ => rfl⟩
theorem But.below {g : Nat} {W w w' : World} (h : But g W w) (hb : Below w.heap.size w w') : But g W w' :=
  ⟨Nat.le_trans h.size hb.size, fun n hn hg => (hb.block n (Nat.lt_of_lt_of_le hn h.size)).trans (h.block n hn hg)⟩
theorem But.setCell {g k : Nat} {W w : World} {v : Value} (h : But g W w) : But g W (w.setCell ⟨g, k, none⟩ v) :=
  ⟨by simpa using h.size, fun n hn hg => (heap_setCell_ne (fun e => hg e.symm)).trans (h.block n hn hg)⟩
theorem But.cell {g : Nat} {W w : World} (h : But g W w) {p : Addr} (hp : p.block < W.heap.size) (hg : p.block ≠ g) : w.cell? p = W.cell? p := by
  unfold World.cell?; rw [h.block _ hp hg]
theorem Below.but {g : Nat} {W w : World} (h : Below W.heap.size W w) : But g W w := (But.refl g W).below h
/-- Some marks more. -/
def markL (bs : List Bool) (is : List Int) : List Bool := is.foldl (fun b i => b.set i.toNat true) bs
theorem markL_len (is : List Int) : ∀ bs : List Bool, (markL bs is).length = bs.length := by
  induction is with
  | nil => intro bs; rfl
  | cons i is ih => intro bs; show (markL (bs.set i.toNat true) is).length = _; rw [ih]; simp
theorem markL_step {bs : List Bool} {is : List Int} {j : Nat} {i : Int} (h : is[j]? = some i) : markL bs (is.take (j + 1)) = (markL bs (is.take j)).set i.toNat true := by
  obtain ⟨hj, rfl⟩ := List.getElem?_eq_some_iff.1 h
  unfold markL
  rw [List.take_succ_eq_append_getElem hj, List.foldl_append]; rfl
/-- From the last node on, the arguments of marked nodes are marked. -/
def belD (ns : List Nd) : Nat → List Bool → List Bool
  | 0, bs => bs
  | k + 1, bs => belD ns k (if bs.getD k false then (match ns[k]? with | none => bs | some n => markL bs n.args) else bs)
theorem belD_no {ns : List Nd} {k : Nat} {bs : List Bool} (h : bs[k]? = some false) : belD ns (k + 1) bs = belD ns k bs := by
  simp [belD, List.getD, h]
theorem belD_yes {ns : List Nd} {k : Nat} {bs : List Bool} {n : Nd} (h : bs[k]? = some true) (hn : ns[k]? = some n) : belD ns (k + 1) bs = belD ns k (markL bs n.args) := by
  simp [belD, List.getD, h, hn]
theorem belD_len {ns : List Nd} : ∀ (k : Nat) (bs : List Bool), (belD ns k bs).length = bs.length := by
  intro k
  induction k with
  | zero => intro bs; rfl
  | succ k ih =>
    intro bs
    rw [belD, ih]
    split
    · split
      · rfl
      · rw [markL_len]
    · rfl
def belL (ns : List Nd) (fr : List Int) : List Bool := belD ns ns.length (markL (List.replicate ns.length false) fr)
theorem belL_len (ns : List Nd) (fr : List Int) : (belL ns fr).length = ns.length := by unfold belL; rw [belD_len, markL_len, List.length_replicate]

set_option maxRecDepth 100000 in
set_option maxHeartbeats 1600000 in
theorem below_c (N : Option Addr) (capN : Nat) (ns : List Nd) (hns : ns.length ≤ 65536) (L : Nat) (hall : ∀ k n, ns[k]? = some n → NodeOK ns L k n) (F : Option Addr) (cf : Nat) (fr : List Int) (hfr : fr.length ≤ 65536) (hf : ∀ x ∈ fr, isIx x ns.length = true) (w : World) (hN : LiesN w N ns) (hF : LiesI w F fr) :
    Calls Tryd.prog 59 #[.slice N ns.length capN, .slice F fr.length cf] w (CopiedB w (belL ns fr)) := by
  obtain ⟨i0, hi, hz0, hz1, hz2⟩ := info_parts bool_info
  have HNN := Lib.hid hN
  have HFF := Lib.hid hF
  have HALL := Lib.hid hall
  have HFX := Lib.hid hf
  clear hN hF hall hf
  go_enter Tryd.func59, Tryd.ntmps59
  go_wp2_with (refine wpList_make_full _ rfl _ _ 88 rfl w.heap.size 4 i0 _ 1 Tryd.underlying88 hi hz0 hz1 .i64 .i64 _ _ ns.length rfl rfl rfl rfl (by rw [hz2]; omega) (by unfold maxLen; omega) (Nat.le_refl _) ?_; intro W1 hown hgr; have hb2 := (Below.refl w.heap.size w).grown hgr (Nat.le_refl _) (fun q hq => by cases hq); have rg : W1.heap[w.heap.size]? = some (.cells (rowB (List.replicate ns.length false)) 4) := (by have := row_block hown rfl; rwa [rowB_made] at this); clear hown hgr)
  have lg := lt_of_get rg
  have lw : w.heap.size ≤ w.heap.size := Nat.le_refl _
  generalize hg : w.heap.size = g at *
  have hb0 : Below w.heap.size w W1 := by rw [hg]; exact hb2
  clear hb2
  go_loopw [16] (fun v16 wr => ∃ j : Nat, j ≤ fr.length ∧ v16 = .int .i64 j ∧ wr.heap[g]? = some (.cells (rowB (markL (List.replicate ns.length false) (fr.take j))) 4) ∧ Below w.heap.size w wr) (fun v16 _ => fr.length - (intOf v16).toNat)
  case atStart => exact ⟨0, by omega, rfl, rg, hb0⟩
  case round =>
    clear rg hb0 lg
    obtain ⟨j, hj, rfl, rg, hb⟩ := hrel
    by_cases hlt : j < fr.length
    · have hjj : (j : Int) < fr.length := by omega
      have HX := Lib.hid (List.getElem?_eq_getElem hlt)
      have HIX := Lib.hid (HFX.out _ (List.getElem_mem hlt))
      generalize fr[j] = a at *
      obtain ⟨g0, g1⟩ := isIx_iff.1 HIX.out
      obtain ⟨p, rfl⟩ := Int.eq_ofNat_of_zero_le g0
      obtain ⟨ba, rfl, hbal, ca⟩ := HFF.out.cell HX.out
      have ca1 := (hb.cell (p := ba.add j) (by rw [addB]; exact hbal)).trans ca
      have HS := Lib.hid (markL_step (bs := List.replicate ns.length false) HX.out)
      have hpl : p < (markL (List.replicate ns.length false) (fr.take j)).length := by rw [markL_len, List.length_replicate]; omega
      obtain ⟨u, hu⟩ : ∃ u, (markL (List.replicate ns.length false) (fr.take j))[p]? = some u := ⟨_, List.getElem?_eq_getElem hpl⟩
      have qp := (cell_block (i := p) rg).trans (rowB_in hu)
      have fp := free_block (i := p) rg
      have HFIN := Lib.hid (show (wr.setCell ⟨g, p, none⟩ (.bool true)).heap[g]? = some (.cells (rowB (markL (List.replicate ns.length false) (fr.take (j + 1)))) 4) ∧ Below w.heap.size w (wr.setCell ⟨g, p, none⟩ (.bool true)) from
        ⟨by rw [heap_set rg, rowB_set, HS.out]; rfl, hb.setCell (p := ⟨g, p, none⟩) (Nat.le_of_eq hg) _⟩)
      clear ca rg hb hpl hu
      go_wp2
      go_roundw
      case rel => exact ⟨j + 1, by omega, by go_num, HFIN.out.1, HFIN.out.2⟩
      case measure => simp [intOf]; omega
    · obtain rfl : j = fr.length := by omega
      rw [List.take_length] at rg
      have HML := Lib.hid (show (markL (List.replicate ns.length false) fr).length = ns.length by rw [markL_len, List.length_replicate])
      have HBE : Hid (belL ns fr = belD ns ns.length (markL (List.replicate ns.length false) fr)) := Lib.hid rfl
      generalize markL (List.replicate ns.length false) fr = bs0 at *
      go_wp2_with fail
      have hb0 := hb
      clear hb
      go_loopw [8] (fun v8 wr => ∃ (m : Nat) (bs : List Bool) (t : Int), m ≤ ns.length ∧ t + 1 = (m : Int) ∧ v8 = .int .i64 t ∧ bs.length = ns.length ∧ belL ns fr = belD ns m bs ∧ wr.heap[g]? = some (.cells (rowB bs) 4) ∧ Below w.heap.size w wr) (fun v8 _ => (intOf v8 + 1).toNat)
      case atStart => exact ⟨ns.length, bs0, _, Nat.le_refl _, by omega, rfl, HML.out, HBE.out, rg, hb0⟩
      case round =>
        clear rg hb0
        obtain ⟨m, bs, t, hm, ht, rfl, hbl, hbd, rg, hb⟩ := hrel
        have HBD := Lib.hid hbd
        have HBN := Lib.hid hbl
        clear hbd hbl
        match m, hm, ht, HBD with
        | 0, _, ht, HBD =>
          obtain rfl : t = -1 := by omega
          have HF := Lib.hid (show CopiedB w (belL ns fr) (.returned (.slice (some ⟨g, 0, none⟩) ns.length ns.length)) wr from ⟨_, ns.length, by rw [belL_len], by rw [HBD.out]; exact LiesB.block rg, fun ad h => (by injection h with h; subst h; exact Nat.le_of_eq hg), hb⟩)
          go_wp2
          go_ret
          exact HF.out
        | k + 1, hm, ht, HBD =>
          obtain rfl : t = (k : Int) := by omega
          have hk : k < ns.length := hm
          have hkk : (k : Int) < ns.length := by omega
          obtain ⟨u, hu⟩ : ∃ u, bs[k]? = some u := ⟨_, List.getElem?_eq_getElem (by rw [HBN.out]; exact hk)⟩
          have qk := (cell_block (i := k) rg).trans (rowB_in hu)
          have lg := lt_of_get rg
          cases u with
          | false =>
            have HFIN := Lib.hid (HBD.out.trans (belD_no hu))
            clear hu
            go_wp2
            go_roundw
            case rel => exact ⟨k, bs, _, by omega, by omega, rfl, HBN.out, HFIN.out, rg, hb⟩
            case measure => simp [intOf]; try omega
          | true =>
            have HX := Lib.hid (List.getElem?_eq_getElem hk)
            generalize ns[k] = x at *
            have HFIN := Lib.hid (HBD.out.trans (belD_yes hu HX.out))
            have HOK := Lib.hid (HALL.out k x HX.out)
            clear hu
            obtain ⟨ad, rfl, hbl, c0, c1, c3, B, bc, c2, hB⟩ := HNN.out.cells HX.out
            have hbk : ∀ p : Addr, p.block = ad.block → wr.cell? p = w.cell? p := fun p hp => hb.cell (p := p) (by rw [hp]; exact hbl)
            have a0 := (hbk (ad.add (k * 4)) (by rw [addB])).trans c0
            have a1 : wr.cell? ⟨(ad.add (k * 4)).block, (ad.add (k * 4)).off + 1, none⟩ = some (.int .i64 x.wd) := (hbk ((ad.add (k * 4)).add 1) (by rw [addB, addB])).trans c1
            have a2 : wr.cell? ⟨(ad.add (k * 4)).block, (ad.add (k * 4)).off + 2, none⟩ = some (.slice B x.args.length bc) := (hbk ((ad.add (k * 4)).add 2) (by rw [addB, addB])).trans c2
            have a3 : wr.cell? ⟨(ad.add (k * 4)).block, (ad.add (k * 4)).off + 3, none⟩ = some (.int .i64 x.v) := (hbk ((ad.add (k * 4)).add 3) (by rw [addB, addB])).trans c3
            clear c0 c1 c2 c3 hbk
            have HBL := Lib.hid hB
            clear hB
            clear a0 a1 a3
            have HAL : Hid (x.args.length ≤ 3) := Lib.hid HOK.out.al
            have hal := HAL.out
            go_wp2_with fail
            have hb1 := hb
            have HBN1 : Hid ((markL bs x.args).length = ns.length) := Lib.hid (by rw [markL_len]; exact HBN.out)
            go_loopw [42] (fun v42 w4 => ∃ j : Nat, j ≤ x.args.length ∧ v42 = .int .i64 j ∧ w4.heap[g]? = some (.cells (rowB (markL bs (x.args.take j))) 4) ∧ Below w.heap.size w w4) (fun v42 _ => x.args.length - (intOf v42).toNat)
            case atStart => exact ⟨0, by omega, rfl, rg, hb1⟩
            case round =>
              clear rg hb1 hb qk a2
              obtain ⟨j, hj, rfl, rg, hb⟩ := hrel
              by_cases hlt2 : j < x.args.length
              · have hjj : (j : Int) < x.args.length := by omega
                have HXA := Lib.hid (List.getElem?_eq_getElem hlt2)
                generalize x.args[j] = a at *
                obtain ⟨g0, g1⟩ := HOK.out.ai j a HXA.out
                obtain ⟨p, rfl⟩ := Int.eq_ofNat_of_zero_le g0
                have hpk : (p : Int) < ns.length := by omega
                obtain ⟨ba, rfl, hbal, ca⟩ := HBL.out.cell HXA.out
                have ca1 := (hb.cell (p := ba.add j) (by rw [addB]; exact hbal)).trans ca
                have HS := Lib.hid (markL_step (bs := bs) HXA.out)
                have hpl : p < (markL bs (x.args.take j)).length := by rw [markL_len, HBN.out]; omega
                obtain ⟨u, hu⟩ : ∃ u, (markL bs (x.args.take j))[p]? = some u := ⟨_, List.getElem?_eq_getElem hpl⟩
                have qp := (cell_block (i := p) rg).trans (rowB_in hu)
                have fp := free_block (i := p) rg
                have HF2 := Lib.hid (show (wr.setCell ⟨g, p, none⟩ (.bool true)).heap[g]? = some (.cells (rowB (markL bs (x.args.take (j + 1)))) 4) ∧ Below w.heap.size w (wr.setCell ⟨g, p, none⟩ (.bool true)) from
                  ⟨by rw [heap_set rg, rowB_set, HS.out]; rfl, hb.setCell (p := ⟨g, p, none⟩) (Nat.le_of_eq hg) _⟩)
                clear ca rg hb hpl hu
                go_wp2
                go_roundw
                case rel => exact ⟨j + 1, by omega, by go_num, HF2.out.1, HF2.out.2⟩
                case measure => simp [intOf]; omega
              · obtain rfl : j = x.args.length := by omega
                rw [List.take_length] at rg
                go_wp2
                go_roundw
                case rel => exact ⟨k, _, _, by omega, by omega, rfl, HBN1.out, HFIN.out, rg, hb⟩
                case measure => simp [intOf]; try omega

end Go.Proofs.YtkdonapgonegkaaDoor
