/-
  Contracts of chapter 2 (graph): a copy of nodes.
-/
import Derived.Test.YtkdonapgonegkaaDoorGo
import Derived.Deep.DeepCutAuto
set_option linter.unusedSimpArgs false
set_option linter.unusedVariables false
namespace Go.Proofs.YtkdonapgonegkaaDoor
open Go.RowKit Go.BigFrame

def CopiedJ (w : World) (ns : List Int) (e : Ending) (w' : World) : Prop := ∃ A' cap', e = .returned (.slice A' ns.length cap') ∧ LiesI w' A' ns ∧ (∀ ad, A' = some ad → w.heap.size ≤ ad.block) ∧ Below w.heap.size w w'

set_option maxRecDepth 100000 in
set_option maxHeartbeats 1600000 in
theorem CopyIntsJ_c (A : Option Addr) (cap : Nat) (ns : List Int) (w : World) (h : LiesI w A ns) (hA : ns.length = 0 → A = none ∧ cap = 0 ∨ ∃ ad, A = some ad) (h16 : ns.length ≤ 65536) :
    Calls Tryd.prog 11 #[.slice A ns.length cap] w (CopiedJ w ns) := by
  obtain ⟨i0, hi, hz0, hz1, hz2⟩ := info_parts int_info
  have hown0 := World.ownsRow_lit (base := w.heap.size) (e := 3) (size := 1) w #[] 0 (Nat.le_refl _) (by unfold maxLen; omega) rfl
  have fin : ∀ (v' : Value) (w3 : World), w3.ownsRow w.heap.size 3 1 v' (0 + ns.length) ([] ++ ns.map (.int .i64)) → ∃ A' cap', Ending.returned v' = .returned (.slice A' ns.length cap') ∧ LiesI w3 A' ns ∧ ∀ ad, A' = some ad → w.heap.size ≤ ad.block := by
    intro v' w3 ho
    rw [Nat.zero_add, List.nil_append] at ho
    rcases ho.2 with ⟨rfl, h0⟩ | ⟨g, cap', cur, rfl, _⟩
    · exact ⟨none, 0, by rw [h0], (fun hp => by omega), fun ad h => by cases h⟩
    · exact ⟨_, cap', rfl, LiesI.of_own ho, fun ad h => by injection h with h; subst h; exact (ho.lt g rfl).1⟩
  have HF := Lib.hid fin
  have HO : Hid (∀ u ∈ ns.map (Value.int .i64), u.oneCell' = true) := Lib.hid (by
    intro u hu
    obtain ⟨x, _, rfl⟩ := List.mem_map.1 hu
    rfl)
  have hm1 : 0 + ns.length ≤ maxLen := by unfold maxLen; omega
  have hm2 : (0 + ns.length) * 8 ≤ 140737488355328 := by omega
  have HL : Hid ((ns.map (Value.int .i64)).length = ns.length * 1) := Lib.hid (by simp)
  clear fin
  have way : ∀ ad : Addr, A = some ad → (0 < ns.length → ad.block < w.heap.size) → (∀ i x, ns[i]? = some x → w.cell? (ad.add i) = some (.int .i64 x)) →
      Calls Tryd.prog 11 #[.slice A ns.length cap] w (CopiedJ w ns) := by
    rintro ad rfl hb hc
    have hcells : ∀ j u, (ns.map (Value.int .i64))[j]? = some u → (w.alloc (.cells #[] 3)).cell? (ad.add j) = some u := by
      intro j u hj
      rw [List.getElem?_map] at hj
      cases hx : ns[j]? with
      | none => rw [hx] at hj; cases hj
      | some x =>
        rw [hx] at hj
        injection hj with hj
        subst hj
        have hb' := hb (by have := (List.getElem?_eq_some_iff.1 hx).1; omega)
        rw [World.cell?_alloc_lt _ _ _ (by rw [addB]; exact hb')]
        exact hc j x hx
    have HC := Lib.hid hcells
    clear hcells hc h hA
    go_enter Tryd.func11, Tryd.ntmps11
    go_wp2_with (at_builtin; refine wpList_append_own _ rfl _ _ 22 rfl w.heap.size 3 i0 (.int .i64 0) 1 8 Tryd.underlying22 hi hz0 hz1 hz2 rfl (by decide) _ _ _ rfl hown0 ad ns.length cap (ns.map (.int .i64)) rfl HL.out HC.out HO.out hm1 hm2 (by simp) ?_; intro v' w3 hown' hgrow3 hnn)
    go_wp2
    go_ret
    obtain ⟨A', cap', h1, h2, h3⟩ := HF.out v' w3 hown'
    refine ⟨A', cap', h1, h2, h3, ((Below.refl _ _).alloc (Nat.le_refl _) _).grown hgrow3 (by simp) (fun q hq => ?_)⟩
    have hq' : some w.heap.size = some q := hq
    injection hq' with hq'
    omega
  by_cases h0 : 0 < ns.length
  · obtain ⟨ad, e, hb, hc⟩ := h h0
    exact way ad e (fun _ => hb) hc
  · rcases hA (by omega) with ⟨rfl, rfl⟩ | ⟨ad, e⟩
    · obtain rfl : ns = [] := List.eq_nil_of_length_eq_zero (by omega)
      have hown1 := hown0
      clear way hown0 HF HO HL h hA
      go_enter Tryd.func11, Tryd.ntmps11
      go_wp2_with (at_builtin; refine wpList_append_own_none rfl _ _ 22 rfl w.heap.size 3 i0 1 Tryd.underlying22 hi _ _ _ rfl hown1 rfl ?_)
      go_wp2
      go_ret
      exact ⟨some ⟨w.heap.size, 0, none⟩, 0, rfl, (fun hp => by simp at hp), (fun ad h => by injection h with h; subst h; exact Nat.le_refl _), (Below.refl _ _).alloc (Nat.le_refl _) _⟩
    · exact way ad e (fun h => absurd h h0) fun i p hp => by rw [List.getElem?_eq_none (by omega)] at hp; cases hp

theorem node_info : (Tryd.prog.info? 65).map (fun i => (i.zero, i.size, i.bytes)) = some (some (.agg #[.int .i64 0, .int .i64 0, .slice none 0 0, .int .i64 0]), 4, 48) := by kernel_rfl
theorem LiesI.set {w : World} {A : Option Addr} {ns : List Int} {g j : Nat} {u : Value} (h : LiesI w A ns) (hne : ∀ ad, A = some ad → g < ad.block) : LiesI (w.setCell ⟨g, j, none⟩ u) A ns := fun hp => by
  obtain ⟨ad, rfl, hb, hc⟩ := h hp
  have := hne ad rfl
  refine ⟨ad, rfl, by simpa using hb, fun i x hi => ?_⟩
  have k : (w.setCell ⟨g, j, none⟩ u).cell? (ad.add i) = w.cell? (ad.add i) := by
    unfold World.cell?
    rw [heap_setCell_other w ⟨g, j, none⟩ (ad.add i).block u (by rw [addB]; simp; omega)]
  exact k.trans (hc i x hi)
/-- So many nodes are copied into a row of cells. -/
def Did (w : World) (g : Nat) (ns : List Nd) (k : Nat) (xs : List Value) : Prop := ∀ i n, i < k → ns[i]? = some n → xs[i * 4]? = some (.int .i64 n.op) ∧ xs[i * 4 + 1]? = some (.int .i64 n.wd) ∧ xs[i * 4 + 3]? = some (.int .i64 n.v) ∧
  ∃ B cap, xs[i * 4 + 2]? = some (.slice B n.args.length cap) ∧ LiesI w B n.args ∧ ∀ ad, B = some ad → g < ad.block
theorem Did.set {w : World} {g k j : Nat} {ns : List Nd} {xs : List Value} {u : Value} (h : Did w g ns k xs) (hj : k * 4 ≤ j) : Did (w.setCell ⟨g, j, none⟩ u) g ns k (xs.set j u) := fun i n hi hn => by
  obtain ⟨a, b, c, B, cap, d, hl, hB⟩ := h i n hi hn
  refine ⟨?_, ?_, ?_, B, cap, ?_, hl.set hB, hB⟩
  all_goals rw [List.getElem?_set_ne (by omega)]; assumption
theorem Did.below {w W : World} {g k : Nat} {ns : List Nd} {xs : List Value} (h : Did w g ns k xs) (hb : Below w.heap.size w W) : Did W g ns k xs := fun i n hi hn => by
  obtain ⟨a, b, c, B, cap, d, hl, hB⟩ := h i n hi hn
  exact ⟨a, b, c, B, cap, d, hl.below hb, hB⟩
theorem Did.setW {w : World} {g k j : Nat} {ns : List Nd} {xs : List Value} {u : Value} (h : Did w g ns k xs) : Did (w.setCell ⟨g, j, none⟩ u) g ns k xs := fun i n hi hn => by
  obtain ⟨a, b, c, B, cap, d, hl, hB⟩ := h i n hi hn
  exact ⟨a, b, c, B, cap, d, hl.set hB, hB⟩
theorem Did.next {w : World} {g k cap : Nat} {ns : List Nd} {xs : List Value} {x : Nd} {y : Value} {B : Option Addr} (h : Did w g ns k xs) (hx : ns[k]? = some x) (hl : xs.length = ns.length * 4) (hk : k < ns.length) (hL : LiesI w B x.args) (hB : ∀ ad, B = some ad → g < ad.block) :
    Did w g ns (k + 1) (((((xs.set (k * 4) (.int .i64 x.op)).set (k * 4 + 1) (.int .i64 x.wd)).set (k * 4 + 2) y).set (k * 4 + 3) (.int .i64 x.v)).set (k * 4 + 2) (.slice B x.args.length cap)) := by
  intro i n hi hn
  by_cases hik : i < k
  · obtain ⟨a, b, c, B', cap', d, hl', hB'⟩ := h i n hik hn
    refine ⟨?_, ?_, ?_, B', cap', ?_, hl', hB'⟩
    all_goals
      rw [List.getElem?_set_ne (by omega), List.getElem?_set_ne (by omega), List.getElem?_set_ne (by omega), List.getElem?_set_ne (by omega), List.getElem?_set_ne (by omega)]
      assumption
  · obtain rfl : i = k := by omega
    rw [hx] at hn
    obtain rfl := Option.some.inj hn
    refine ⟨?_, ?_, ?_, B, cap, ?_, hL, hB⟩
    · rw [List.getElem?_set_ne (by omega), List.getElem?_set_ne (by omega), List.getElem?_set_ne (by omega), List.getElem?_set_ne (by omega), List.getElem?_set_self (by omega)]
    · rw [List.getElem?_set_ne (by omega), List.getElem?_set_ne (by omega), List.getElem?_set_ne (by omega), List.getElem?_set_self (by simp; omega)]
    · rw [List.getElem?_set_ne (by omega), List.getElem?_set_self (by simp; omega)]
    · rw [List.getElem?_set_self (by simp; omega)]
theorem add_add (a : Addr) (m k : Nat) : (a.add m).add k = a.add (m + k) := by
  by_cases hm : m = 0
  · subst hm; by_cases hk : k = 0 <;> simp [Addr.add, hk]
  · by_cases hk : k = 0 <;> simp [Addr.add, hk, hm, Nat.add_assoc]
theorem own_at {w : World} {base : Nat} {e : TypeId} {g n cap : Nat} {xs : List Value} (h : w.ownsRow base e 4 (.slice (some ⟨g, 0, none⟩) n cap) n xs) {j : Nat} (hj : j < n * 4) : ∃ u, w.cell? ⟨g, j, none⟩ = some u := by
  have hl : xs.length = n * 4 := h.1
  refine ⟨xs[j], ?_⟩
  have := h.cells (g := g) rfl j xs[j] (List.getElem?_eq_getElem (by omega))
  rwa [Addr.add_lit, Nat.zero_add] at this

set_option maxRecDepth 100000 in
set_option maxHeartbeats 1600000 in
theorem CopyNodes_c (A : Option Addr) (cap : Nat) (ns : List Nd) (hns : ns.length ≤ 65536) (hla : ∀ n ∈ ns, n.args.length ≤ 65536) (w : World) (h : LiesG w A ns) :
    Calls Tryd.prog 12 #[.slice A ns.length cap] w (CopiedN w ns) := by
  obtain ⟨i0, hi, hz0, hz1, hz2⟩ := info_parts node_info
  have HG := Lib.hid h
  have HLA := Lib.hid hla
  clear h hla
  go_enter Tryd.func12, Tryd.ntmps12
  go_wp2_with (refine wpList_make_full _ rfl _ _ 23 rfl w.heap.size 65 i0 _ 4 Tryd.underlying23 hi hz0 hz1 .i64 .i64 _ _ ns.length rfl rfl rfl rfl (by rw [hz2]; omega) (by unfold maxLen; omega) (Nat.le_refl _) ?_; intro W1 hown hgr)
  have hb1 : Below w.heap.size w W1 := (Below.refl _ _).grown hgr (Nat.le_refl _) (fun q hq => by cases hq)
  have hgl : w.heap.size < W1.heap.size := (hown.lt w.heap.size rfl).2
  have R0 := Lib.hid hown
  clear hown hgr
  go_wp2
  go_loopw [4] (fun v4 wr => ∃ (k : Nat) (xs : List Value), k ≤ ns.length ∧ v4 = .int .i64 k ∧ wr.ownsRow w.heap.size 65 4 (.slice (some ⟨w.heap.size, 0, none⟩) ns.length ns.length) ns.length xs ∧ Did wr w.heap.size ns k xs ∧ Below w.heap.size w wr) (fun v4 _ => ns.length - (intOf v4).toNat)
  case atStart => exact ⟨0, _, by omega, rfl, R0.out, fun i n hi => by omega, hb1⟩
  case round =>
    obtain ⟨k, xs, hk, rfl, hown, hd, hb⟩ := hrel
    by_cases hlt : k < ns.length
    · have hkk : (k : Int) < ns.length := by omega
      have HX := Lib.hid (List.getElem?_eq_getElem hlt)
      have HL := Lib.hid (HLA.out _ (List.getElem_mem hlt))
      generalize ns[k] = x at *
      obtain ⟨ad, rfl, hbl, hnode⟩ := HG.out (by omega)
      obtain ⟨c0, c1, c3, B, bc, c2, hB, hB0, _⟩ := hnode k x HX.out
      have hbk : ∀ q : Addr, q.block = ad.block → wr.cell? q = w.cell? q := fun q hq => hb.cell (p := q) (by rw [hq]; exact hbl)
      have a0 := (hbk (ad.add (k * 4)) (by rw [addB])).trans c0
      have a1 : wr.cell? ⟨(ad.add (k * 4)).block, (ad.add (k * 4)).off + 1, none⟩ = some (.int .i64 x.wd) := (hbk ((ad.add (k * 4)).add 1) (by rw [addB, addB])).trans c1
      have a2 : wr.cell? ⟨(ad.add (k * 4)).block, (ad.add (k * 4)).off + 2, none⟩ = some (.slice B x.args.length bc) := (hbk ((ad.add (k * 4)).add 2) (by rw [addB, addB])).trans c2
      have a3 : wr.cell? ⟨(ad.add (k * 4)).block, (ad.add (k * 4)).off + 3, none⟩ = some (.int .i64 x.v) := (hbk ((ad.add (k * 4)).add 3) (by rw [addB, addB])).trans c3
      obtain ⟨u0, d0⟩ := own_at hown (j := k * 4) (by omega)
      obtain ⟨u1, d1⟩ := own_at hown (j := k * 4 + 1) (by omega)
      obtain ⟨u2, d2⟩ := own_at hown (j := k * 4 + 2) (by omega)
      obtain ⟨u3, d3⟩ := own_at hown (j := k * 4 + 3) (by omega)
      have e0 := hown.frozenAt (k * 4)
      have e1 := hown.frozenAt (k * 4 + 1)
      have e2 := hown.frozenAt (k * 4 + 2)
      have e3 := hown.frozenAt (k * 4 + 3)
      have HD := Lib.hid hd
      have HO := Lib.hid hown
      have HB := Lib.hid hb
      have HC2 := Lib.hid c2
      clear hnode c0 c1 c2 c3 hbk hd hown hb
      go_upto_region 6 with (fail)
      clear a0 a1 a2 a3 d0 d1 d2 d3 e0 e1 e2 e3
      have ho1 := ((((HO.out.stored (k * 4) (.int .i64 x.op)).1.stored (k * 4 + 1) (.int .i64 x.wd)).1.stored (k * 4 + 2) (.slice B x.args.length bc)).1.stored (k * 4 + 3) (.int .i64 x.v)).1
      have hd1 := ((((HD.out.setW (j := k * 4) (u := .int .i64 x.op)).setW (j := k * 4 + 1) (u := .int .i64 x.wd)).setW (j := k * 4 + 2) (u := .slice B x.args.length bc)).setW (j := k * 4 + 3) (u := .int .i64 x.v))
      have hb1 : Below w.heap.size w ((((wr.setCell ⟨w.heap.size, k * 4, none⟩ (.int .i64 x.op)).setCell ⟨w.heap.size, k * 4 + 1, none⟩ (.int .i64 x.wd)).setCell ⟨w.heap.size, k * 4 + 2, none⟩ (.slice B x.args.length bc)).setCell ⟨w.heap.size, k * 4 + 3, none⟩ (.int .i64 x.v)) :=
        (((HB.out.setCell (Nat.le_refl _) _).setCell (Nat.le_refl _) _).setCell (Nat.le_refl _) _).setCell (Nat.le_refl _) _
      generalize ((((wr.setCell ⟨w.heap.size, k * 4, none⟩ (.int .i64 x.op)).setCell ⟨w.heap.size, k * 4 + 1, none⟩ (.int .i64 x.wd)).setCell ⟨w.heap.size, k * 4 + 2, none⟩ (.slice B x.args.length bc)).setCell ⟨w.heap.size, k * 4 + 3, none⟩ (.int .i64 x.v)) = S1 at *
      have a2 : S1.cell? ⟨(ad.add (k * 4)).block, (ad.add (k * 4)).off + 2, none⟩ = some (.slice B x.args.length bc) := (hb1.cell (p := (ad.add (k * 4)).add 2) (by rw [addB, addB]; exact hbl)).trans HC2.out
      have HB1 := Lib.hid hb1
      have HO1 := Lib.hid ho1
      have HD1 := Lib.hid hd1
      clear hb1 ho1 hd1
      go_wp2_with fail
      refine (CopyIntsJ_c B bc x.args S1 (hB.below HB1.out) hB0 HL.out).mono ?_
      rintro e W2 ⟨A', cap', rfl, hl2, hA2, hb2⟩
      have ho2 := own_below HO1.out hb2
      obtain ⟨u2, d2⟩ := own_at ho2 (j := k * 4 + 2) (by omega)
      have e2 := ho2.frozenAt (k * 4 + 2)
      have hgS : w.heap.size < S1.heap.size := (HO1.out.lt w.heap.size rfl).2
      have hA3 : ∀ ad, A' = some ad → w.heap.size < ad.block := fun ad h => Nat.lt_of_lt_of_le hgS (hA2 ad h)
      have HF := Lib.hid (show ∃ xs', (W2.setCell ⟨w.heap.size, k * 4 + 2, none⟩ (.slice A' x.args.length cap')).ownsRow w.heap.size 65 4 (.slice (some ⟨w.heap.size, 0, none⟩) ns.length ns.length) ns.length xs' ∧ Did (W2.setCell ⟨w.heap.size, k * 4 + 2, none⟩ (.slice A' x.args.length cap')) w.heap.size ns (k + 1) xs' ∧ Below w.heap.size w (W2.setCell ⟨w.heap.size, k * 4 + 2, none⟩ (.slice A' x.args.length cap')) from
        ⟨_, (ho2.stored (k * 4 + 2) (.slice A' x.args.length cap')).1, Did.next ((HD1.out.below hb2).setW) HX.out HO.out.1 hlt (hl2.set hA3) hA3, (HB1.out.trans (hb2.mono (Nat.le_of_lt hgS))).setCell (Nat.le_refl _) _⟩)
      clear ho2 hl2 hA2 hb2 a2 hA3
      go_wp2
      go_roundw
      case rel =>
        obtain ⟨xs', f1, f2, f3⟩ := HF.out
        exact ⟨k + 1, xs', by omega, by go_num, f1, f2, f3⟩
      case measure => simp [intOf]; omega
    · obtain rfl : k = ns.length := by omega
      have HF := Lib.hid (show CopiedN w ns (.returned (.slice (some ⟨w.heap.size, 0, none⟩) ns.length ns.length)) wr from ⟨_, ns.length, rfl, Nat.le_refl _, fun hp => ⟨_, rfl, (hown.lt w.heap.size rfl).2, fun i n hi => by
        obtain ⟨f0, f1, f3, B, bc, f2, hl, _⟩ := hd i n (List.getElem?_eq_some_iff.1 hi).1 hi
        exact ⟨hown.cells (g := w.heap.size) rfl _ _ f0, (by rw [add_add]; exact hown.cells (g := w.heap.size) rfl _ _ f1), (by rw [add_add]; exact hown.cells (g := w.heap.size) rfl _ _ f3), B, bc, (by rw [add_add]; exact hown.cells (g := w.heap.size) rfl _ _ f2), hl⟩⟩, hb⟩)
      clear hown hd hb
      go_wp2
      go_ret
      exact HF.out

end Go.Proofs.YtkdonapgonegkaaDoor
