/-
  Contracts of strings.Builder's writes, where the shelf's do not lie.
-/
import Derived.Test.YtkdonapgonegkaaGreatDoorZc
import Derived.Lib.Builder
import Derived.Lib.AppendStr
import Derived.Shelf.Strings.Builder1
import Derived.Test.YtkdonapgonegkaaGreatDoorZe
set_option linter.unusedSimpArgs false
set_option linter.unusedVariables false
namespace Go.Proofs.YtkdonapgonegkaaGreatDoor
open Go.RowKit Go.BigFrame


/-- All blocks are as they were but a builder's own and rows of bytes. -/
def KeepW (b : Nat) (w w' : World) : Prop := w.heap.size ≤ w'.heap.size ∧ ∀ n o, w.heap[n]? = some o → n ≠ b → (∀ cur fz, o ≠ .cells cur 5 fz) → w'.heap[n]? = some o
theorem KeepW.refl (b : Nat) (w : World) : KeepW b w w := ⟨Nat.le_refl _, fun _ _ h _ _ => h⟩
theorem KeepW.trans {b : Nat} {w w1 w2 : World} (h : KeepW b w w1) (k : KeepW b w1 w2) : KeepW b w w2 := ⟨Nat.le_trans h.1 k.1, fun n o a c d => k.2 n o (h.2 n o a c d) c d⟩
theorem KeepW.setCell {b k : Nat} {v : Value} {w w1 : World} (h : KeepW b w w1) : KeepW b w (w1.setCell ⟨b, k, none⟩ v) :=
  ⟨by simpa using h.1, fun n o a c d => (Below.heap_setCell _ _ _ _ (fun e => c e)).trans (h.2 n o a c d)⟩
theorem KeepW.below {b : Nat} {w w1 w2 : World} (h : KeepW b w w1) (hb : Below w1.heap.size w1 w2) : KeepW b w w2 :=
  ⟨Nat.le_trans h.1 hb.size, fun n o a c d => by
    have h1 := h.2 n o a c d
    rw [hb.block n (Array.getElem?_eq_some_iff.1 h1).1]; exact h1⟩
theorem KeepW.grown {b B n : Nat} {v : Value} {bs : List Value} {w w1 w2 : World} (h : KeepW b w w1) (ho : w1.ownsRow B 5 1 v n bs) (hg : w1.grownBy w2 v.ownBlock) : KeepW b w w2 :=
  ⟨Nat.le_trans h.1 hg.size, fun m o a c d => by
    have h1 := h.2 m o a c d
    rw [hg.block m (Array.getElem?_eq_some_iff.1 h1).1 ?_]
    · exact h1
    · intro e
      rcases ho.2 with ⟨rfl, _⟩ | ⟨q, c1, cur, rfl, _, h3, _⟩
      · cases e
      · have e' : some m = some q := e
        injection e' with e'
        subst e'
        rw [h1] at h3
        injection h3 with h3
        exact d _ _ h3⟩

set_option maxRecDepth 100000 in
set_option maxHeartbeats 1600000 in
theorem copyCheck_c (B b : Nat) (bs : List Value) (w : World) (h : Lib.IsBuilder 83 5 B b bs w) :
    Calls Tryz.prog 81 #[.pointer (some ⟨b, 0, none⟩)] w fun e w' => e = .returned (.tuple #[]) ∧ (Lib.BuilderAt 83 5 B b (.pointer (some ⟨b, 0, none⟩)) bs w' ∧ Below B w w' ∧ KeepW b w w') := by
  obtain ⟨j, hj, hjs⟩ := Option.map_eq_some_iff.1 (show (Tryz.prog.info? 83).map (·.size) = some 2 by kernel_rfl)
  rcases h with h | h
  · have c0 := h.cell0
    have f0 := h.frozen0
    have hsh := h.shape
    have HU := Lib.hid (h.used (.pointer (some ⟨b, 0, none⟩)))
    have HB := Lib.hid ((Below.refl B w).setCell (p := ⟨b, 0, none⟩) h.1 (.pointer (some ⟨b, 0, none⟩)))
    clear h
    go_enter Tryz.func81, Tryz.ntmps81
    go_wp2
    rw [Lib.run_to_unsafe w ⟨b, 0, none⟩ Tryz.underlying80 Tryz.underlying148 hj (by rw [hjs]; decide) hsh (Nat.zero_lt_succ 1)]
    simp only [Result.andThen]
    rw [Oper.upon_value]
    go_wp2
    rw [run_callFunc_extern Tryz.func111 (by kernel_rfl) (by kernel_rfl) (by kernel_rfl) (e := Extern.AbiNoEscape.same) (by kernel_rfl)]
    rw [Lib.run_noEscape]
    simp only [Result.andThen]
    rw [Oper.upon_value]
    go_wp2
    rw [Lib.run_from_unsafe w ⟨b, 0, none⟩ Tryz.underlying148 Tryz.underlying80 hj hsh (by kernel_rfl)]
    simp only [Result.andThen]
    rw [Oper.upon_value]
    go_wp2
    go_end0
    exact ⟨rfl, HU.out, HB.out, (KeepW.refl _ _).setCell⟩
  · have c0 := h.cell0
    have HU := Lib.hid h
    clear h
    go_enter Tryz.func81, Tryz.ntmps81
    go_wp2
    rw [Lib.run_neq_ptr_same w _ Tryz.underlying80 hj]
    go_wp2
    go_end0
    exact ⟨rfl, HU.out, Below.refl _ _, KeepW.refl _ _⟩

theorem u8_info : (Tryz.prog.info? 5).map (fun i => (i.zero, i.size, i.bytes)) = some (some (.int .u8 0), 1, 1) := by kernel_rfl

set_option maxRecDepth 100000 in
set_option maxHeartbeats 1600000 in
theorem WriteByte_c (B b : Nat) (bs : List Value) (c : Int) (w : World) (h : Lib.IsBuilder 83 5 B b bs w) (hlen : bs.length + 1 ≤ 65536) (hBw : B ≤ w.heap.size) :
    Calls Tryz.prog 45 #[.pointer (some ⟨b, 0, none⟩), .int .u8 c] w fun e w' => e = .returned .nilIface ∧ (Lib.BuilderAt 83 5 B b (.pointer (some ⟨b, 0, none⟩)) (bs ++ [.int .u8 c]) w' ∧ Below B w w' ∧ KeepW b w w') := by
  obtain ⟨i0, hi, hz0, hz1, hz2⟩ := info_parts u8_info
  have HC := Lib.hid (copyCheck_c B b bs w h)
  clear h
  go_enter Tryz.func45, Tryz.ntmps45
  go_wp2_with fail
  refine HC.out.mono ?_
  clear HC
  rintro e w1 ⟨rfl, ⟨hB, v, hbk, hown, hne⟩, hb1, hk1⟩
  have hs1 : B ≤ w1.heap.size := Nat.le_trans hBw hb1.size
  have c1 : w1.cell? ⟨b, 1, none⟩ = some v := by rw [Lib.cell_of_heap hbk]; rfl
  have hlt : b < w1.heap.size := (Array.getElem?_eq_some_iff.1 hbk).1
  go_wp2_with (at_builtin; refine wpList_append_own _ rfl _ _ 81 rfl B 5 i0 (.int .u8 0) 1 1 Tryz.underlying81 hi hz0 hz1 hz2 rfl (by decide) _ _ _ rfl (hown.alloc _) ⟨_, 0, none⟩ 1 1 [.int .u8 c] rfl rfl (cell_one_new _ _ _) (fun x hx => by simp at hx; subst hx; rfl) (by unfold maxLen; omega) (by omega) (by first | omega | (simp; omega)) ?_; intro v' w2 hown' hgrow hnn; (obtain ⟨g', cap', hv', -, -⟩ := hown'.form (by omega)); subst hv'; (have hb2 : w2.heap[b]? = some (.cells #[.pointer (some ⟨b, 0, none⟩), v] 83 (0, 0)) := (hgrow.block b (by simp; omega) (fun e => hne e.symm)).trans (heap_alloc' hlt hbk)); (have d1 : w2.cell? ⟨b, 1, none⟩ = some v := (Lib.cell_of_heap hb2 1).trans rfl); (have g1 : w2.frozen? ⟨b, 1, none⟩ = false := Lib.frozen_of_heap hb2 1); (have HP := Lib.hid (Lib.BuilderAt.put (bs' := bs ++ [.int .u8 c]) hB hb2 (by simpa using hown') (by decide))); (have HB := Lib.hid (show Below B w (w2.setCell ⟨b, 1, none⟩ (.slice (some ⟨g', 0, none⟩) (bs.length + 1) cap')) from ((hb1.alloc hs1 _).grown hgrow (by simp; omega) (fun q hq => (hown.lt q hq).1)).setCell (p := ⟨b, 1, none⟩) hB _)); (have HK := Lib.hid (show KeepW b w (w2.setCell ⟨b, 1, none⟩ (.slice (some ⟨g', 0, none⟩) (bs.length + 1) cap')) from (KeepW.grown (hk1.below ((Below.refl _ _).alloc (Nat.le_refl _) _)) (hown.alloc _) hgrow).setCell)); clear hbk hown hown' hb2 hgrow c1)
  go_wp2
  go_ret
  exact ⟨rfl, HP.out, HB.out, HK.out⟩

set_option maxRecDepth 100000 in
set_option maxHeartbeats 1600000 in
theorem WriteString_c (B b : Nat) (bs : List Value) (s : ByteArray) (hs0 : 0 < s.size) (w : World) (h : Lib.IsBuilder 83 5 B b bs w) (hlen : bs.length + s.size ≤ 65536) (hBw : B ≤ w.heap.size) :
    Calls Tryz.prog 82 #[.pointer (some ⟨b, 0, none⟩), .string s] w fun e w' => e = .returned (.tuple #[.int .i64 s.size, .nilIface]) ∧ (Lib.BuilderAt 83 5 B b (.pointer (some ⟨b, 0, none⟩)) (bs ++ Lib.strCells s) w' ∧ Below B w w' ∧ KeepW b w w') := by
  obtain ⟨i0, hi, hz0, hz1, hz2⟩ := info_parts u8_info
  have HC := Lib.hid (copyCheck_c B b bs w h)
  clear h
  go_enter Tryz.func82, Tryz.ntmps82
  go_wp2_with fail
  refine HC.out.mono ?_
  clear HC
  rintro e w1 ⟨rfl, ⟨hB, v, hbk, hown, hne⟩, hb1, hk1⟩
  have hs1 : B ≤ w1.heap.size := Nat.le_trans hBw hb1.size
  have c1 : w1.cell? ⟨b, 1, none⟩ = some v := by rw [Lib.cell_of_heap hbk]; rfl
  have hlt : b < w1.heap.size := (Array.getElem?_eq_some_iff.1 hbk).1
  go_wp2_with (at_builtin; refine Lib.wpList_append_own_string _ rfl _ _ 81 9 rfl B 5 i0 Tryz.underlying81 Tryz.underlying9 hi hz0 hz1 hz2 _ _ _ rfl hown s rfl (by unfold maxLen; omega) (by omega) hs1 ?_; intro v' w2 hown' hgrow hnn; (obtain ⟨g', cap', hv', -, -⟩ := hown'.form (by omega)); subst hv'; (have hb2 : w2.heap[b]? = some (.cells #[.pointer (some ⟨b, 0, none⟩), v] 83 (0, 0)) := (hgrow.block b hlt (fun e => hne e.symm)).trans hbk); (have d1 : w2.cell? ⟨b, 1, none⟩ = some v := (Lib.cell_of_heap hb2 1).trans rfl); (have g1 : w2.frozen? ⟨b, 1, none⟩ = false := Lib.frozen_of_heap hb2 1); (have HP := Lib.hid (Lib.BuilderAt.put (bs' := bs ++ Lib.strCells s) hB hb2 (by rw [List.length_append, Lib.strCells_length]; exact hown') (by decide))); (have HB := Lib.hid (show Below B w (w2.setCell ⟨b, 1, none⟩ (.slice (some ⟨g', 0, none⟩) (bs.length + s.size) cap')) from (hb1.grown hgrow hs1 (fun q hq => (hown.lt q hq).1)).setCell (p := ⟨b, 1, none⟩) hB _)); (have HK := Lib.hid (show KeepW b w (w2.setCell ⟨b, 1, none⟩ (.slice (some ⟨g', 0, none⟩) (bs.length + s.size) cap')) from (KeepW.grown hk1 hown hgrow).setCell)); clear hbk hown hown' hb2 hgrow c1)
  go_wp2
  go_ret2
  exact ⟨rfl, HP.out, HB.out, HK.out⟩

end Go.Proofs.YtkdonapgonegkaaGreatDoor

set_option linter.unusedSimpArgs false
set_option linter.unusedVariables false
namespace Go.Proofs.YtkdonapgonegkaaGreatDoor
open Go.RowKit Go.BigFrame
attribute [local go_sem] Oper.semAt_some

/-- Two named nodes differ in a trial. -/
def dif (ls : List Int) (ns : List Nd) (fr : List Int) (k : Nat) : Prop := ¬ (triN ls ns fr k).getD 0 0 = (triN ls ns fr k).getD 1 0
def DiffR (w : World) (ls : List Int) (ns : List Nd) (fr : List Int) (e : Ending) (w' : World) : Prop :=
  ((∃ (k : Nat) (A' : Option Addr) (cap' : Nat), (k : Int) < pw (bitsL ls ns fr) ∧ dif ls ns fr k ∧ (∀ j : Nat, j < k → ¬ dif ls ns fr j) ∧ e = .returned (.tuple #[.slice A' ls.length cap', .int .i64 0]) ∧ LiesI w' A' (triV ls ns fr k)) ∨
    ((∀ j : Nat, (j : Int) < pw (bitsL ls ns fr) → ¬ dif ls ns fr j) ∧ e = .returned (.tuple #[.slice none 0 0, .int .i64 12]))) ∧ Below w.heap.size w w'
theorem Below.put2 {W1 W y : World} {l : Nat} {o o' : Obj} (h : Below W1.heap.size W1 W) (hl : W1.heap[l]? = some o) (hy : Below W.heap.size (W.putObj l o') y) : Below W1.heap.size W1 (y.putObj l o) := by
  have h1 := hy.size
  rw [World.putObj_size] at h1
  refine ⟨hy.os.trans h.os, hy.tape.trans h.tape, hy.output.trans h.output, by rw [World.putObj_size]; exact Nat.le_trans h.size h1, fun k hk => ?_⟩
  by_cases e : k = l
  · subst e
    rw [World.putObj_heap_same (by have := h.size; omega), hl]
  · rw [World.putObj_heap_other e, hy.block k (Nat.lt_of_lt_of_le hk h.size), World.putObj_heap_other e]
    exact h.block k hk
theorem heap_set_other {W : World} {g m k : Nat} {ob : Obj} {v : Value} (h : W.heap[m]? = some ob) (hne : ¬ m = g) : (W.setCell ⟨g, k, none⟩ v).heap[m]? = some ob := (heap_setCell_ne (fun e => hne e.symm)).trans h
theorem Below.putObj {B : Nat} {w W : World} {l : Nat} {o : Obj} (h : Below B w W) (hs : B ≤ W.heap.size) (hl : B ≤ l) : Below B w (W.putObj l o) := h.grown (grownBy_putObj' W l o) hs (fun k e => by cases e; exact hl)
theorem LiesI.putD {W : World} {l : Nat} {o ob : Obj} {A : Option Addr} {xs : List Int} (h : LiesI W A xs) (hl : W.heap[l]? = some ob) (hne : ∀ c T z, ob = .cells c T z → False) : LiesI (W.putObj l o) A xs := fun hp => by
  obtain ⟨ad, rfl, hb, hc⟩ := h hp
  refine ⟨ad, rfl, by simpa [World.putObj] using hb, fun i x hi => cell_put_ne (hc i x hi) ?_⟩
  intro e
  have h0 := hc i x hi
  unfold World.cell? at h0
  rw [e, hl] at h0
  cases ob with
  | cells c T z => exact hne c T z rfl
  | _ => cases h0
theorem LiesI.two {W : World} {A : Option Addr} {x : List Int} (h : LiesI W A x) (hx : x.length = 2) : ∃ ad, A = some ad ∧ ad.block < W.heap.size ∧ W.cell? ad = some (.int .i64 (x.getD 0 0)) ∧ W.cell? ⟨ad.block, ad.off + 1, none⟩ = some (.int .i64 (x.getD 1 0)) := by
  match x, hx with
  | [a, b], _ =>
    obtain ⟨ad, rfl, hb, hc⟩ := h (by simp)
    exact ⟨ad, rfl, hb, hc 0 a rfl, hc 1 b rfl⟩

set_option maxRecDepth 100000 in
set_option maxHeartbeats 1600000 in
theorem DifferenceOf_ok (A : Option Addr) (cap : Nat) (ls : List Int) (hls : ls.length ≤ 65536) (N : Option Addr) (capN : Nat) (ns : List Nd) (hns : ns.length ≤ 65536) (hcap : ns.length ≤ capN) (hla : ∀ n ∈ ns, n.args.length ≤ 65536) (i j : Nat) (ni nj : Nd) (hi : ns[i]? = some ni) (hj : ns[j]? = some nj) (hwd : ni.wd = nj.wd) (hbit : bitsL ls ns [(i : Int), (j : Int)] ≤ 12) (hc : (chk ls ns).2 = 0) (ok : TriOK ls ns [(i : Int), (j : Int)]) (w : World) (hA : LiesI w A ls) (hN : LiesN w N ns) (ht : TabOps w) :
    Calls Tryz.prog 32 #[.slice A ls.length cap, .slice N ns.length capN, .int .i64 i, .int .i64 j] w (DiffR w ls ns [(i : Int), (j : Int)]) := by
  have hi' := (List.getElem?_eq_some_iff.1 hi).1
  have hj' := (List.getElem?_eq_some_iff.1 hj).1
  have HFE := Lib.hid (show fromE ls ns [(i : Int), (j : Int)] = 0 by
    unfold fromE thenE; rw [if_pos hc]; unfold argsE; rw [if_pos]; simp [isIx]; omega)
  have HOK := Lib.hid ok
  have HA := Lib.hid hA
  have HN := Lib.hid hN
  have HEF := Lib.hid (fun (W : World) (hb : Below w.heap.size w W) F cf (hF : LiesI W F [(i : Int), (j : Int)]) => errorOfFrom_c A cap ls hls N capN ns hns hcap hla F cf [(i : Int), (j : Int)] (by simp) W (hA.below hb) (hN.below hb) hF (ht.below hb))
  have HBB := Lib.hid (fun (W : World) (hb : Below w.heap.size w W) F cf (hF : LiesI W F [(i : Int), (j : Int)]) => bitsBelow_c A cap ls hls HOK.out.lw N capN ns hns HOK.out.all F cf [(i : Int), (j : Int)] (by simp) HOK.out.fx W (hA.below hb) (hN.below hb) hF)
  have HTR := Lib.hid (fun (W : World) (hb : Below w.heap.size w W) F cf (hF : LiesI W F [(i : Int), (j : Int)]) => trials_c A cap ls hls N capN ns hns HOK.out.all F cf [(i : Int), (j : Int)] (by simp) HOK.out.fx W (hA.below hb) (hN.below hb) hF)
  have HCI := Lib.hid hi
  have HCJ := Lib.hid hj
  have HWD := Lib.hid hwd
  clear hA hN ht hla hcap hc ok hi hj hwd
  refine (callsIn_wide (n := 9)).1 ?_
  refine callsIn_of_wp_marks Tryz.func32 rfl trivial ?_
  simp only [Tryz.ntmps32, List.size_toArray, List.length_cons, List.length_nil, Nat.reduceAdd, Nat.reduceSub, Array.replicate_succ, Array.replicate_zero, List.push_toArray, List.append_toArray, List.nil_append, List.cons_append]
  gi_wp2_with fail
  have r1 : (((w.alloc (.cells #[.slice none 0 0] 22)).alloc (.cells #[.int .i64 0] 26)).alloc (.cells #[.int .i64 i, .int .i64 j] 3)).heap[w.heap.size]? = some (.cells #[.slice none 0 0] 22) := heap_alloc' (by simp; omega) (heap_alloc' (by simp) (heap_alloc_new _ _))
  have r2 : (((w.alloc (.cells #[.slice none 0 0] 22)).alloc (.cells #[.int .i64 0] 26)).alloc (.cells #[.int .i64 i, .int .i64 j] 3)).heap[w.heap.size + 1]? = some (.cells #[.int .i64 0] 26) := heap_alloc' (by simp) (heap_alloc_at (by simp))
  have r3 : (((w.alloc (.cells #[.slice none 0 0] 22)).alloc (.cells #[.int .i64 0] 26)).alloc (.cells #[.int .i64 i, .int .i64 j] 3)).heap[w.heap.size + 2]? = some (.cells #[.int .i64 i, .int .i64 j] 3) := heap_alloc_at (by simp)
  have hb0 : Below w.heap.size w (((w.alloc (.cells #[.slice none 0 0] 22)).alloc (.cells #[.int .i64 0] 26)).alloc (.cells #[.int .i64 i, .int .i64 j] 3)) := (((Below.refl _ _).alloc (Nat.le_refl _) _).alloc (by simp) _).alloc (by simp; omega) _
  generalize (((w.alloc (.cells #[.slice none 0 0] 22)).alloc (.cells #[.int .i64 0] 26)).alloc (.cells #[.int .i64 i, .int .i64 j] 3)) = W0 at *
  have hF0 : LiesI W0 (some ⟨w.heap.size + 2, 0, none⟩) [(i : Int), (j : Int)] := LiesI.block r3
  refine ⟨trivial, ?_⟩
  refine (callsIn_wide.2 (HEF.out W0 hb0 (some ⟨w.heap.size + 2, 0, none⟩) 2 hF0)).mono ?_
  rw [HFE.out]
  rintro e w' ⟨rfl, x1, rfl⟩
  have r1 := heap_aft x1 (lt_of_get r1) r1
  have r2 := heap_aft x1 (lt_of_get r2) r2
  have hF1 := hF0.aft x1
  have hb1 := x1.below hb0 hb0.size
  clear r3 hb0 hF0 HEF
  generalize x1.val = W1 at *
  have HI := Lib.hid (fun (z : Aft W1) => HN.out.below (z.below hb1 hb1.size))
  obtain ⟨ad, rfl, hbl, _, ci, _⟩ := HN.out.cells HCI.out
  obtain ⟨ad', had', _, _, cj, _⟩ := HN.out.cells HCJ.out
  injection had' with had'
  subst had'
  have di : ∀ z : Aft W1, z.val.cell? ⟨(ad.add (i * 4)).block, (ad.add (i * 4)).off + 1, none⟩ = some (.int .i64 ni.wd) := fun z => ((z.below hb1 hb1.size).cell (p := (ad.add (i * 4)).add 1) (by rw [addB, addB]; exact hbl)).trans ci
  have dj : ∀ z : Aft W1, z.val.cell? ⟨(ad.add (j * 4)).block, (ad.add (j * 4)).off + 1, none⟩ = some (.int .i64 ni.wd) := fun z => ((z.below hb1 hb1.size).cell (p := (ad.add (j * 4)).add 1) (by rw [addB, addB]; exact hbl)).trans (by rw [HWD.out]; exact cj)
  have hij : (i : Int) < ns.length := by omega
  have hjj : (j : Int) < ns.length := by omega
  clear ci cj
  gi_wp2_with fail
  refine wpIn_wide.2 ?_
  refine wp_region_aft (by kernel_rfl) (by kernel_rfl) ?_
  repeat (go_big_quiet_step (fail))
  refine wpQuiet_nil ?_
  intro x2
  have r1 := heap_aft x2 (lt_of_get r1) r1
  have r2 := heap_aft x2 (lt_of_get r2) r2
  have hF2 := hF1.aft x2
  have hb2 := x2.below hb1 hb1.size
  clear di dj hF1 hb1 HI
  generalize x2.val = W2 at *
  have hbt := sumK_bd (xs := lbL ns [(i : Int), (j : Int)] ls.length) HOK.out.lw (lbL ns [(i : Int), (j : Int)] ls.length).length
  have hb0' : 0 ≤ bitsL ls ns [(i : Int), (j : Int)] := hbt.1
  have hng : ¬ (12 : Int) < bitsL ls ns [(i : Int), (j : Int)] := by omega
  clear hbt
  have HBT : Hid (bitsL ls ns [(i : Int), (j : Int)] ≤ 12) := Lib.hid hbit
  clear hbit
  gi_wp2_with (refine ⟨trivial, ?_⟩; gi_at_call 62; refine (callsIn_wide.2 (HBB.out W2 hb2 _ 2 hF2)).mono ?_; rintro e w' ⟨rfl, x3, rfl⟩; have r1 := heap_aft x3 (lt_of_get r1) r1; have r2 := heap_aft x3 (lt_of_get r2) r2; have hF3 := hF2.aft x3; have hb3 := x3.below hb2 hb2.size; clear hF2 hb2; generalize x3.val = W3 at *)
  refine ⟨trivial, ?_⟩
  refine (callsIn_wide.2 (HTR.out W3 hb3 _ 2 hF3)).mono ?_
  rintro e W4 ⟨b3, b4, b5, b9, b7, b8, rfl, hct, hb4⟩
  have r1 := (hb4.block _ (lt_of_get r1)).trans r1
  have r2 := (hb4.block _ (lt_of_get r2)).trans r2
  have hb5 := hb3.trans (hb4.mono hb3.size)
  clear hb3 hb4 hF3 HBB HTR
  gi_wp2_with fail
  have hR1 : w.heap.size < W4.heap.size := lt_of_get r1
  have hR2 : w.heap.size + 1 < W4.heap.size := lt_of_get r2
  generalize hfr : [(i : Int), (j : Int)] = fr at *
  have HB5 := Lib.hid hb5
  refine range_wide (gf := 100) (lb := #[.pointer (some ⟨b3, 0, none⟩), .pointer (some ⟨b4, 0, none⟩), .pointer (some ⟨b5, 0, none⟩), .pointer (some ⟨b9, 0, none⟩), .pointer (some ⟨b7, 0, none⟩), .pointer (some ⟨b8, 0, none⟩)]) rfl (enters_of Tryz.func100 (by kernel_rfl) rfl) (fun fn r W5 hr hL5 hD5 hb45 => ?_)
  have HF2 : Hid (fr.length = 2) := Lib.hid (by rw [← hfr]; rfl)
  obtain ⟨J, hJ⟩ : ∃ J : Nat → World → Prop, J = fun k W => Below W5.heap.size W5 W ∧ ∀ m : Nat, m < k → ¬ dif ls ns fr m := ⟨_, rfl⟩
  obtain ⟨Jx, hJx⟩ : ∃ Jx : Nat → World → Prop, Jx = fun k W => W.heap[W4.heap.size + 1]? = some (.loop { r with state := .done, pending := some .ret }) ∧ W.heap[W4.heap.size]? = some (.deferred (some [])) ∧ dif ls ns fr k ∧ (∀ m : Nat, m < k → ¬ dif ls ns fr m) ∧ Below w.heap.size w W ∧
    ∃ A1 c1, W.heap[w.heap.size]? = some (.cells #[.slice A1 ls.length c1] 22) ∧ W.heap[w.heap.size + 1]? = some (.cells #[.int .i64 0] 26) ∧ LiesI W A1 (triV ls ns fr k) := ⟨_, rfl⟩
  refine (trials1_in 8 b3 b4 b5 b9 b7 b8 ls ns fr HOK.out W4 hct (W4.heap.size + 1) J Jx ?jb ?j0 ?hy W5 ?start).mono ?fin
  case jb => intro k W W' h hb; rw [hJ] at h ⊢; exact ⟨h.1.trans (hb.mono h.1.size), h.2⟩
  case j0 => intro k W h; rw [hJ] at h; exact hb45.trans (h.1.mono hb45.size)
  case start => rw [hJ]; exact ⟨Below.refl _ _, fun m hm => by omega⟩
  case hy =>
    intro k W A1 c1 A2 c2 hj hk hl1 hf1 hl2
    rw [hJ] at hj
    obtain ⟨hjb, hjd⟩ := hj
    have hL := (hjb.block _ (lt_of_get hL5)).trans hL5
    have hD := (hjb.block _ (lt_of_get hD5)).trans hD5
    have hb4 := hb45.trans (hjb.mono hb45.size)
    have s1 := (hb4.block _ hR1).trans r1
    have s2 := (hb4.block _ hR2).trans r2
    have hbW := HB5.out.trans (hb4.mono HB5.out.size)
    have HJD := Lib.hid hjd
    have HJB := Lib.hid hjb
    have HL5 := Lib.hid hL5
    have HL := Lib.hid hL
    have HJE := Lib.hid hJ
    have HJX := Lib.hid hJx
    have HRR := Lib.hid hr
    clear hjd hjb hL5 hJ hJx
    have hsz : (#[Value.slice A1 ls.length c1, Value.slice A2 fr.length c2] : Array Value).size = r.params.size := by rw [hr]; rfl
    have ea := congrArg Loop.assign hr
    have eb := congrArg Loop.body hr
    have ep := congrArg Loop.params hr
    have et := congrArg Loop.tmps hr
    simp only at ea eb ep et
    have est : r.state = .ready := by rw [hr]
    have epd : r.pending = none := by rw [hr]
    clear hr
    refine yield_wide hL hsz est ?_
    rw [ea, eb, ep, et]
    have EST := Lib.hid est
    have EPD := Lib.hid epd
    clear ea eb ep et hsz est epd
    gi_wp2
    rintro rb Wb hrb hWb
    have hrb := hrb.out
    have hWb := hWb.out
    have lLW : W4.heap.size + 1 < W.heap.size := lt_of_get hL
    have hLb : Wb.heap[W4.heap.size + 1]? = some (.loop rb) := by rw [hWb]; exact World.putObj_heap_same lLW
    have hDb : Wb.heap[W4.heap.size]? = some (.deferred (some [])) := by rw [hWb]; exact heap_put_ne hD (by omega)
    have t1 : Wb.heap[w.heap.size]? = some (.cells #[.slice none 0 0] 22) := by rw [hWb]; exact heap_put_ne s1 (by omega)
    have t2 : Wb.heap[w.heap.size + 1]? = some (.cells #[.int .i64 0] 26) := by rw [hWb]; exact heap_put_ne s2 (by omega)
    have hl1b : LiesI Wb A1 (triV ls ns fr k) := by rw [hWb]; exact hl1.put hL
    have hl2b : LiesI Wb A2 (triN ls ns fr k) := by rw [hWb]; exact hl2.put hL
    have HWB := Lib.hid (fun y (h : Below Wb.heap.size Wb y) => (by rw [hWb, World.putObj_size] at h; exact Below.put2 (o := .loop r) HJB.out HL5.out h : Below W5.heap.size W5 (y.putObj (W4.heap.size + 1) (.loop r))))
    have HRB := Lib.hid hrb
    have HDF : Hid (dif ls ns fr k ↔ ¬ (triN ls ns fr k).getD 0 0 = (triN ls ns fr k).getD 1 0) := Lib.hid Iff.rfl
    obtain ⟨a2, rfl, hab, q0, q1⟩ := hl2b.two (by rw [triN_len]; exact HF2.out)
    rw [HF2.out]
    have HBW : Hid (∀ y, Below Wb.heap.size Wb y → Below w.heap.size w (y.putObj (W4.heap.size + 1) (.loop r))) := Lib.hid (fun y h => HB5.out.trans ((hb45.trans ((HWB.out y h).mono hb45.size)).mono HB5.out.size))
    have HBV : Hid (Below w.heap.size w Wb) := Lib.hid (by rw [hWb]; exact Below.putObj hbW hbW.size (by omega))
    have HF1 := Lib.hid hf1
    have HT1 := Lib.hid t1
    have HT2 := Lib.hid t2
    have HL1 := Lib.hid hl1b
    clear hL hD s1 s2 hbW hl1 hl2 hl2b hrb hWb hl1b hb4 hD5 hb45
    generalize (triN ls ns fr k).getD 0 0 = x0 at *
    generalize (triN ls ns fr k).getD 1 0 = x1 at *
    have hmx : Tryz.prog.follows .mixedOrders = true := by kernel_rfl
    by_cases hxx : x0 = x1
    · have hn1 : (x0 != x1) = false := by simpa using hxx
      have HNO := Lib.hid (fun h => (HDF.out.1 h) hxx)
      clear hxx
      gi_wp2
      gi_region_with_o (fail)
      all_goals gi_wp2
      all_goals
        have hback : ({ rb with state := if (none : Option Code).isNone then LoopState.ready else LoopState.done, pending := none } : Loop) = r := by
          have h1 := EST.out
          have h2 := EPD.out
          rw [HRB.out]
          unfold busyL
          cases r
          simp only at h1 h2 ⊢
          subst h1
          subst h2
          rfl
        refine ⟨_, _, run_endRound none (show (Wb.drew).heap[W4.heap.size + 1]? = some (.loop rb) from hLb), .inr ⟨rfl, ?_⟩⟩
        rw [hback, HJE.out]
        refine ⟨HWB.out _ (Below.refl _ _).drew, fun m hm => ?_⟩
        by_cases hmk : m = k
        · subst hmk; exact HNO.out
        · exact HJD.out m (by omega)
    · have hn1 : (x0 != x1) = true := by simpa using hxx
      have HYE := Lib.hid (HDF.out.2 hxx)
      clear hxx
      have u1 := cell_block (i := 0) t1
      have u2 := cell_block (i := 0) t2
      have f1 := free_block (i := 0) t1
      have f2 := free_block (i := 0) t2
      simp at u1 u2
      have hlb1 := lt_of_get t1
      have hlb2 := lt_of_get t2
      gi_wp2
      gi_region_with_o (fail)
      all_goals gi_wp2
      all_goals
        have hSL : ((Wb.drew.setCell ⟨w.heap.size, 0, none⟩ (.slice A1 ls.length c1)).setCell ⟨w.heap.size + 1, 0, none⟩ (.int .i64 0)).heap[W4.heap.size + 1]? = some (.loop rb) := heap_set_other (heap_set_other hLb (by omega)) (by omega)
        refine ⟨_, _, run_endRound (some .ret) hSL, .inl ⟨rfl, ?_⟩⟩
        have hrec : ({ rb with state := if (some Code.ret).isNone then LoopState.ready else LoopState.done, pending := some .ret } : Loop) = { r with state := .done, pending := some .ret } := by rw [HRB.out]; rfl
        rw [hrec]
        have hS1 : ((Wb.setCell ⟨w.heap.size, 0, none⟩ (.slice A1 ls.length c1)).setCell ⟨w.heap.size + 1, 0, none⟩ (.int .i64 0)).heap[w.heap.size]? = some (.cells #[.slice A1 ls.length c1] 22) := heap_set_other ((heap_set HT1.out).trans (by simp)) (by omega)
        have hS2 : ((Wb.setCell ⟨w.heap.size, 0, none⟩ (.slice A1 ls.length c1)).setCell ⟨w.heap.size + 1, 0, none⟩ (.int .i64 0)).heap[w.heap.size + 1]? = some (.cells #[.int .i64 0] 26) := (heap_set (heap_set_other HT2.out (by omega))).trans (by simp)
        have hSD : ((Wb.setCell ⟨w.heap.size, 0, none⟩ (.slice A1 ls.length c1)).setCell ⟨w.heap.size + 1, 0, none⟩ (.int .i64 0)).heap[W4.heap.size]? = some (.deferred (some [])) := heap_set_other (heap_set_other hDb (by omega)) (by omega)
        have hSB : Below w.heap.size w ((Wb.setCell ⟨w.heap.size, 0, none⟩ (.slice A1 ls.length c1)).setCell ⟨w.heap.size + 1, 0, none⟩ (.int .i64 0)) := (HBV.out.setCell (p := ⟨w.heap.size, 0, none⟩) (Nat.le_refl _) _).setCell (p := ⟨w.heap.size + 1, 0, none⟩) (Nat.le_succ _) _
        have hSA : LiesI ((Wb.setCell ⟨w.heap.size, 0, none⟩ (.slice A1 ls.length c1)).setCell ⟨w.heap.size + 1, 0, none⟩ (.int .i64 0)) A1 (triV ls ns fr k) := (HL1.out.set (fun ad h => by have := HF1.out ad h; omega)).set (fun ad h => by have := HF1.out ad h; omega)
        have hSL' : ((Wb.setCell ⟨w.heap.size, 0, none⟩ (.slice A1 ls.length c1)).setCell ⟨w.heap.size + 1, 0, none⟩ (.int .i64 0)).heap[W4.heap.size + 1]? = some (.loop rb) := heap_set_other (heap_set_other hLb (by omega)) (by omega)
        generalize (Wb.setCell ⟨w.heap.size, 0, none⟩ (.slice A1 ls.length c1)).setCell ⟨w.heap.size + 1, 0, none⟩ (.int .i64 0) = S at *
        have hSd : Below S.heap.size S S.drew := (Below.refl _ _).drew
        rw [HJX.out]
        exact ⟨World.putObj_heap_same (lt_of_get hSL'), heap_put_ne (W := S.drew) hSD (by omega), HYE.out, HJD.out, Below.putObj (hSB.drew) (by simpa using hSB.size) (by omega), A1, c1, heap_put_ne (W := S.drew) hS1 (by omega), heap_put_ne (W := S.drew) hS2 (by omega), (hSA.below hSd).put (W := S.drew) (r := rb) hSL'⟩
  case fin =>
    rintro e W6 ⟨⟨v, rfl⟩, hres⟩
    rcases hres with ⟨T, hT, hj⟩ | ⟨k, hk, hx⟩
    · rw [hJ] at hj
      obtain ⟨hjb, hjd⟩ := hj
      have hL6 := (hjb.block _ (lt_of_get hL5)).trans hL5
      have hD6 := (hjb.block _ (lt_of_get hD5)).trans hD5
      have hb46 := hb45.trans (hjb.mono hb45.size)
      have s1 := (hb46.block _ hR1).trans r1
      have s2 := (hb46.block _ hR2).trans r2
      have hb6 := HB5.out.trans (hb46.mono HB5.out.size)
      have hend := run_endLoop (P := Tryz.prog) hL6 (by rw [hr]; simp)
      rw [show r.pending = none by rw [hr]] at hend
      refine ⟨none, _, hend, ?_⟩
      have t1 := heap_put_ne (l := W4.heap.size + 1) (o := .loop { r with state := .exhausted, pending := none }) s1 (by omega)
      have t2 := heap_put_ne (l := W4.heap.size + 1) (o := .loop { r with state := .exhausted, pending := none }) s2 (by omega)
      have tD := heap_put_ne (l := W4.heap.size + 1) (o := .loop { r with state := .exhausted, pending := none }) hD6 (by omega)
      have hb7 := Below.putObj (l := W4.heap.size + 1) (o := .loop { r with state := .exhausted, pending := none }) hb6 hb6.size (by omega)
      have HALL := Lib.hid (show ∀ m : Nat, (m : Int) < pw (bitsL ls ns fr) → ¬ dif ls ns fr m from fun m hm => hjd m (by omega))
      generalize W6.putObj (W4.heap.size + 1) (.loop { r with state := .exhausted, pending := none }) = W7 at *
      dsimp only
      clear hjb hjd hL6 hD6 hb46 s1 s2 hb6 hL5 hD5 hb45 hr hJ hJx
      have u1 := cell_block (i := 0) t1
      have u2 := cell_block (i := 0) t2
      have f1 := free_block (i := 0) t1
      have f2 := free_block (i := 0) t2
      simp at u1 u2
      gi_wp2
      have x1 := (heap_set t1 (k := 0) (v := .slice none 0 0)).trans (show _ = some (.cells #[.slice none 0 0] 22) by simp)
      have z1 : ((W7.setCell ⟨w.heap.size, 0, none⟩ (.slice none 0 0)).setCell ⟨w.heap.size + 1, 0, none⟩ (.int .i64 12)).heap[w.heap.size]? = some (.cells #[.slice none 0 0] 22) := heap_set_other x1 (by omega)
      have z2 : ((W7.setCell ⟨w.heap.size, 0, none⟩ (.slice none 0 0)).setCell ⟨w.heap.size + 1, 0, none⟩ (.int .i64 12)).heap[w.heap.size + 1]? = some (.cells #[.int .i64 12] 26) := (heap_set (heap_set_other t2 (by omega))).trans (by simp)
      have zD : ((W7.setCell ⟨w.heap.size, 0, none⟩ (.slice none 0 0)).setCell ⟨w.heap.size + 1, 0, none⟩ (.int .i64 12)).heap[W4.heap.size]? = some (.deferred (some [])) := heap_set_other (heap_set_other tD (by omega)) (by omega)
      have zB : Below w.heap.size w ((W7.setCell ⟨w.heap.size, 0, none⟩ (.slice none 0 0)).setCell ⟨w.heap.size + 1, 0, none⟩ (.int .i64 12)) := (hb7.setCell (p := ⟨w.heap.size, 0, none⟩) (Nat.le_refl _) _).setCell (p := ⟨w.heap.size + 1, 0, none⟩) (Nat.le_succ _) _
      generalize (W7.setCell ⟨w.heap.size, 0, none⟩ (.slice none 0 0)).setCell ⟨w.heap.size + 1, 0, none⟩ (.int .i64 12) = W8 at *
      refine ⟨by simp, .inl ⟨_, _, rfl, run_takeDeferred zD, ?_⟩⟩
      have v1 := heap_put_ne (l := W4.heap.size) (o := .deferred none) z1 (by omega)
      have v2 := heap_put_ne (l := W4.heap.size) (o := .deferred none) z2 (by omega)
      have hb8 := Below.putObj (l := W4.heap.size) (o := .deferred none) zB zB.size (by omega)
      have w1 := cell_block (i := 0) v1
      have w2 := cell_block (i := 0) v2
      simp at w1 w2
      refine ⟨_, (by simp [results, Tryz.results32, go_sem, w1, w2]; try rfl), ?_⟩
      exact ⟨.inr ⟨HALL.out, rfl⟩, hb8⟩
    · rw [hJx] at hx
      obtain ⟨hL6, hD6, hdk, hdm, hb6, A1, c1, q1, q2, hA1⟩ := hx
      have hend := run_endLoop (P := Tryz.prog) hL6 (by simp)
      refine ⟨some .ret, _, hend, ?_⟩
      have t1 := heap_put_ne (l := W4.heap.size + 1) (o := .loop { r with state := .exhausted, pending := some .ret }) q1 (by omega)
      have t2 := heap_put_ne (l := W4.heap.size + 1) (o := .loop { r with state := .exhausted, pending := some .ret }) q2 (by omega)
      have tD := heap_put_ne (l := W4.heap.size + 1) (o := .loop { r with state := .exhausted, pending := some .ret }) hD6 (by omega)
      have hb7 := Below.putObj (l := W4.heap.size + 1) (o := .loop { r with state := .exhausted, pending := some .ret }) hb6 hb6.size (by omega)
      have hA7 := hA1.put (o := .loop { r with state := .exhausted, pending := some .ret }) hL6
      generalize W6.putObj (W4.heap.size + 1) (.loop { r with state := .exhausted, pending := some .ret }) = W7 at *
      dsimp only
      have u1 := cell_block (i := 0) t1
      have u2 := cell_block (i := 0) t2
      have f1 := free_block (i := 0) t1
      have f2 := free_block (i := 0) t2
      simp at u1 u2
      gi_wp2
      refine ⟨by simp, .inl ⟨_, _, rfl, run_takeDeferred tD, ?_⟩⟩
      have v1 := heap_put_ne (l := W4.heap.size) (o := .deferred none) t1 (by omega)
      have v2 := heap_put_ne (l := W4.heap.size) (o := .deferred none) t2 (by omega)
      have hb8 := Below.putObj (l := W4.heap.size) (o := .deferred none) hb7 hb7.size (by omega)
      have w1 := cell_block (i := 0) v1
      have w2 := cell_block (i := 0) v2
      simp at w1 w2
      have hA8 := LiesI.putD (l := W4.heap.size) (o := .deferred none) hA7 tD (fun c T z h => by cases h)
      refine ⟨_, (by simp [results, Tryz.results32, go_sem, w1, w2]; try rfl), ?_⟩
      exact ⟨.inl ⟨k, A1, c1, hk, hdk, hdm, rfl, hA8⟩, hb8⟩

end Go.Proofs.YtkdonapgonegkaaGreatDoor
