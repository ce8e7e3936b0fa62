/-
  Contracts of chapter 2 (graph): larger graphs: what they are; a constant; a row of nodes of the call's own, beside other rows.
-/
import Derived.Test.YtkdonapgonegkaaDoorGI
import Derived.Maps.AppendAt
set_option linter.unusedSimpArgs false
set_option linter.unusedVariables false
namespace Go.Proofs.YtkdonapgonegkaaDoor
open Go.RowKit Go.BigFrame

/-- A graph with a constant in place of each node of a leaf. -/
def subN (l x : Int) (ns : List Nd) : List Nd := ns.map fun n => if n.op = 1 ∧ n.v = l then ⟨0, n.wd, [], x⟩ else n
/-- A node whose arguments are moved. -/
def mvN (p : Int) (n : Nd) : Nd := ⟨n.op, n.wd, n.args.map (fun a => p + a), n.v⟩
def plL (p : Int) (m : Nat) : List Int := (List.range m).map fun (j : Nat) => p + (j : Int)
def apN (a b : List Nd) : List Nd := a ++ b.map (mvN a.length)
theorem subN_len (l x : Int) (ns : List Nd) : (subN l x ns).length = ns.length := by simp [subN]
theorem plL_len (p : Int) (m : Nat) : (plL p m).length = m := by simp [plL]
theorem plL_succ (p : Int) (m : Nat) : plL p (m + 1) = plL p m ++ [p + (m : Int)] := by simp [plL, List.range_succ]
theorem plL_at {p : Int} {m j : Nat} (h : j < m) : (plL p m)[j]? = some (p + (j : Int)) := by simp [plL, h]
theorem subN_yes {l x : Int} {ns : List Nd} {k : Nat} {n : Nd} (h : ns[k]? = some n) (h1 : n.op = 1) (h2 : n.v = l) : (subN l x ns)[k]? = some ⟨0, n.wd, [], x⟩ := by
  simp [subN, h, h1, h2]
theorem subN_no {l x : Int} {ns : List Nd} {k : Nat} {n : Nd} (h : ns[k]? = some n) (h1 : ¬ (n.op = 1 ∧ n.v = l)) : (subN l x ns)[k]? = some n := by
  simp only [subN, List.getElem?_map, h, Option.map_some, if_neg h1]
theorem prog_at {T ns : List Nd} {k : Nat} (hl : T.length = ns.length) (hk : k < ns.length) : (T.take k ++ ns.drop k)[k]? = ns[k]? := by
  rw [List.getElem?_append_right (by simp; omega), List.length_take_of_le (by omega), Nat.sub_self, List.getElem?_drop, Nat.add_zero]
theorem prog_next {T ns : List Nd} {k : Nat} {t : Nd} (hl : T.length = ns.length) (hk : k < ns.length) (ht : T[k]? = some t) : (T.take k ++ ns.drop k).set k t = T.take (k + 1) ++ ns.drop (k + 1) := by
  obtain ⟨hj, rfl⟩ := List.getElem?_eq_some_iff.1 ht
  rw [List.take_succ_eq_append_getElem hj, List.drop_eq_getElem_cons hk, List.set_append_right _ _ (by simp; omega), List.length_take_of_le (by omega), Nat.sub_self, List.set_cons_zero, List.append_assoc]
  rfl
theorem prog_keep {T ns : List Nd} {k : Nat} (hl : T.length = ns.length) (hk : k < ns.length) (ht : T[k]? = ns[k]?) : T.take (k + 1) ++ ns.drop (k + 1) = T.take k ++ ns.drop k := by
  have hj : k < T.length := by omega
  rw [List.getElem?_eq_getElem hj, List.getElem?_eq_getElem hk] at ht
  rw [List.take_succ_eq_append_getElem hj, List.drop_eq_getElem_cons hk, Option.some.inj ht, List.append_assoc]
  rfl
theorem prog_all {T ns : List Nd} (hl : T.length = ns.length) : T.take ns.length ++ ns.drop ns.length = T := by
  rw [List.drop_length, List.append_nil, ← hl, List.take_length]
theorem eqL_refl (a : List Int) : eqL a a = true := by unfold eqL; exact decide_eq_true rfl

/-- A row of nodes of the call's own: what its arguments lead to lies in blocks of X, in rows of numbers. -/
def NodesX (w : World) (base : Nat) (X : Nat → Prop) (v : Value) (ns : List Nd) (xs : List Value) : Prop :=
  w.ownsRow base 65 4 v ns.length xs ∧ ∀ i n, ns[i]? = some n → xs[i * 4]? = some (.int .i64 n.op) ∧ xs[i * 4 + 1]? = some (.int .i64 n.wd) ∧ xs[i * 4 + 3]? = some (.int .i64 n.v) ∧
    ∃ B cap, xs[i * 4 + 2]? = some (.slice B n.args.length cap) ∧ LiesI w B n.args ∧ ∀ ad, B = some ad → X ad.block ∧ ad.block < w.heap.size ∧ ∀ cur fz, w.heap[ad.block]? ≠ some (.cells cur 65 fz)
theorem NodesX.nil (w : World) (base : Nat) (X : Nat → Prop) : NodesX w base X (.slice none 0 0) [] [] := ⟨World.ownsRow_nil _ _ _ _, fun i n h => by simp at h⟩
theorem NodesX.below {w W : World} {base : Nat} {X : Nat → Prop} {v : Value} {ns : List Nd} {xs : List Value} (h : NodesX w base X v ns xs) (hb : Below w.heap.size w W) : NodesX W base X v ns xs :=
  ⟨own_below h.1 hb, fun i n hi => by
    obtain ⟨a, b, c, B, cap, d, hl, hB⟩ := h.2 i n hi
    refine ⟨a, b, c, B, cap, d, hl.below hb, fun ad he => ?_⟩
    obtain ⟨h1, h2, h3⟩ := hB ad he
    exact ⟨h1, Nat.lt_of_lt_of_le h2 hb.size, by rw [hb.block _ h2]; exact h3⟩⟩
theorem NodesX.snoc {w W w3 : World} {base : Nat} {X : Nat → Prop} {v v' : Value} {ns : List Nd} {xs : List Value} {n : Nd} {B : Option Addr} {cap : Nat} (h : NodesX w base X v ns xs) (hW : Below w.heap.size w W)
    (ho : w3.ownsRow base 65 4 v' (ns.length + 1) (xs ++ [.int .i64 n.op, .int .i64 n.wd, .slice B n.args.length cap, .int .i64 n.v])) (hg : W.grownBy w3 v.ownBlock)
    (hl : LiesI w B n.args) (hB : ∀ ad, B = some ad → X ad.block ∧ ad.block < w.heap.size ∧ ∀ cur fz, w.heap[ad.block]? ≠ some (.cells cur 65 fz)) :
    NodesX w3 base X v' (ns ++ [n]) (xs ++ [.int .i64 n.op, .int .i64 n.wd, .slice B n.args.length cap, .int .i64 n.v]) := by
  have hx : xs.length = ns.length * 4 := h.1.1
  have keep : ∀ m, m < w.heap.size → (∀ cur fz, w.heap[m]? ≠ some (.cells cur 65 fz)) → w3.heap[m]? = w.heap[m]? := by
    intro m hm hne
    rw [← hW.block m hm]
    refine hg.block m (Nat.lt_of_lt_of_le hm hW.size) (fun e => ?_)
    rcases h.1.2 with ⟨rfl, _⟩ | ⟨q, c1, cur, rfl, _, h3, _⟩
    · cases e
    · have e' : some m = some q := e
      injection e' with e'
      subst e'
      exact hne _ _ h3
  have keepL : ∀ (A : Option Addr) (zs : List Int), LiesI w A zs → (∀ ad, A = some ad → X ad.block ∧ ad.block < w.heap.size ∧ ∀ cur fz, w.heap[ad.block]? ≠ some (.cells cur 65 fz)) → LiesI w3 A zs ∧ ∀ ad, A = some ad → X ad.block ∧ ad.block < w3.heap.size ∧ ∀ cur fz, w3.heap[ad.block]? ≠ some (.cells cur 65 fz) := by
    intro A zs hA hf
    refine ⟨fun hp => ?_, fun ad he => ?_⟩
    · obtain ⟨ad, rfl, h1, h2⟩ := hA hp
      obtain ⟨_, h3, h4⟩ := hf ad rfl
      refine ⟨ad, rfl, ?_, fun i x hi => ?_⟩
      · exact Nat.lt_of_lt_of_le h1 (Nat.le_trans hW.size hg.size)
      · have := h2 i x hi
        unfold World.cell? at this ⊢
        rw [keep _ (by rw [addB]; exact h3) (by rw [addB]; exact h4)]
        exact this
    · obtain ⟨h1, h3, h4⟩ := hf ad he
      refine ⟨h1, ?_, by rw [keep _ h3 h4]; exact h4⟩
      exact Nat.lt_of_lt_of_le h3 (Nat.le_trans hW.size hg.size)
  refine ⟨by rw [List.length_append]; exact ho, fun i m hi => ?_⟩
  by_cases hin : i < ns.length
  · rw [List.getElem?_append_left hin] at hi
    obtain ⟨a, b, c, B', cap', d, hl', hB'⟩ := h.2 i m hi
    obtain ⟨k1, k2⟩ := keepL B' _ hl' hB'
    refine ⟨?_, ?_, ?_, B', cap', ?_, k1, k2⟩
    all_goals rw [List.getElem?_append_left (by omega)]; assumption
  · have hin' : i = ns.length := by
      have := (List.getElem?_eq_some_iff.1 hi).1
      rw [List.length_append] at this
      simp at this; omega
    subst hin'
    rw [List.getElem?_append_right (Nat.le_refl _), Nat.sub_self] at hi
    obtain rfl : n = m := by simpa using hi
    obtain ⟨k1, k2⟩ := keepL B _ hl hB
    refine ⟨?_, ?_, ?_, B, cap, ?_, k1, k2⟩
    all_goals
      rw [List.getElem?_append_right (by omega), hx]
      first | (rw [Nat.sub_self]; rfl) | (rw [Nat.add_sub_cancel_left]; rfl)
theorem NodesX.lies {w : World} {base : Nat} {X : Nat → Prop} {v : Value} {ns : List Nd} {xs : List Value} (h : NodesX w base X v ns xs) : ∃ A' cap', v = .slice A' ns.length cap' ∧ ns.length ≤ cap' ∧ LiesN w A' ns ∧ ∀ ad, A' = some ad → base ≤ ad.block := by
  rcases h.1.2 with ⟨rfl, h0⟩ | ⟨q, cap', cur, rfl, hb, _, hc, _⟩
  · exact ⟨none, 0, by rw [h0], by omega, fun hp => by omega, fun ad h => by cases h⟩
  · refine ⟨_, cap', rfl, hc, fun hp => ⟨_, rfl, (h.1.lt q rfl).2, fun i n hi => ?_⟩, fun ad h => by injection h with h; subst h; exact hb⟩
    obtain ⟨f0, f1, f3, B, bc, f2, hl, _⟩ := h.2 i n hi
    exact ⟨h.1.cells (g := q) rfl _ _ f0, (by rw [add_add]; exact h.1.cells (g := q) rfl _ _ f1), (by rw [add_add]; exact h.1.cells (g := q) rfl _ _ f3), B, bc, (by rw [add_add]; exact h.1.cells (g := q) rfl _ _ f2), hl⟩

/-- A row that something else grows beside. -/
theorem own_beside {w w' : World} {base : Nat} {e : TypeId} {k n : Nat} {v : Value} {xs : List Value} {row : Option Nat} (h : w.ownsRow base e k v n xs) (hg : w.grownBy w' row) (hr : ∀ q, row = some q → ∀ c z, w.heap[q]? ≠ some (.cells c e z)) : w'.ownsRow base e k v n xs := by
  refine ⟨h.1, h.2.imp id ?_⟩
  rintro ⟨g, cap, cur, h1, h2, h3, h4⟩
  exact ⟨g, cap, cur, h1, h2, (hg.block g (lt_of_get h3) (fun e => hr g e.symm _ _ h3)).trans h3, h4⟩
theorem NodesX.beside {w w' : World} {base : Nat} {X X' : Nat → Prop} {v : Value} {ns : List Nd} {xs : List Value} {row : Option Nat} (h : NodesX w base X v ns xs) (hg : w.grownBy w' row)
    (hX : ∀ q, q < w.heap.size → X q → X' q ∧ some q ≠ row) (hr : ∀ q, row = some q → ∀ c z, w.heap[q]? ≠ some (.cells c 65 z)) : NodesX w' base X' v ns xs :=
  ⟨own_beside h.1 hg hr, fun i n hi => by
    obtain ⟨a, b, c, B, cap, d, hl, hB⟩ := h.2 i n hi
    refine ⟨a, b, c, B, cap, d, fun hp => ?_, fun ad he => ?_⟩
    · obtain ⟨ad, rfl, h1, h2⟩ := hl hp
      obtain ⟨hx, h3, _⟩ := hB ad rfl
      have k := hg.block ad.block h3 (hX _ h3 hx).2
      exact ⟨ad, rfl, Nat.lt_of_lt_of_le h1 hg.size, fun i x hi => by
        have := h2 i x hi
        unfold World.cell? at this ⊢
        rw [show (ad.add i).block = ad.block from by rw [addB]] at this ⊢
        rw [k]
        exact this⟩
    · obtain ⟨hx, h3, h4⟩ := hB ad he
      exact ⟨(hX _ h3 hx).1, Nat.lt_of_lt_of_le h3 hg.size, by rw [hg.block _ h3 (hX _ h3 hx).2]; exact h4⟩⟩
theorem NodesX.mono {w : World} {base : Nat} {X X' : Nat → Prop} {v : Value} {ns : List Nd} {xs : List Value} (h : NodesX w base X v ns xs) (hX : ∀ q, q < w.heap.size → X q → X' q) : NodesX w base X' v ns xs :=
  ⟨h.1, fun i n hi => by
    obtain ⟨a, b, c, B, cap, d, hl, hB⟩ := h.2 i n hi
    exact ⟨a, b, c, B, cap, d, hl, fun ad he => ⟨hX _ (hB ad he).2.1 (hB ad he).1, (hB ad he).2⟩⟩⟩
theorem grown_setCell {w : World} {m j : Nat} {u : Value} : w.grownBy (w.setCell ⟨m, j, none⟩ u) (some m) :=
  ⟨rfl, rfl, rfl, by simp, fun k _ hk => heap_setCell_ne (fun e => hk (by rw [e]))⟩
theorem NodesX.setCell {w : World} {base m j : Nat} {X : Nat → Prop} {v u : Value} {ns : List Nd} {xs : List Value} (h : NodesX w base X v ns xs) (hX : ∀ q, X q → q ≠ m) (hm : ∀ c z, w.heap[m]? ≠ some (.cells c 65 z)) : NodesX (w.setCell ⟨m, j, none⟩ u) base X v ns xs :=
  h.beside grown_setCell (fun q _ hx => ⟨hx, fun e => hX q hx (Option.some.inj e)⟩) (fun q e => by injection e with e; subst e; exact hm)

set_option maxRecDepth 100000 in
set_option maxHeartbeats 1600000 in
theorem constant_c (wd v : Int) (w : World) :
    Calls Tryd.prog 68 #[.int .i64 wd, .int .i64 v] w fun e w' => e = .returned (.agg #[.int .i64 0, .int .i64 wd, .slice none 0 0, .int .i64 v]) ∧ Below w.heap.size w w' := by
  go_enter Tryd.func68, Tryd.ntmps68
  go_upto_region 1 with (fail)
  have hb0 := (Below.refl w.heap.size w).alloc (Nat.le_refl _) (.cells #[.int .i64 0, .int .i64 0, .slice none 0 0, .int .i64 0] 65)
  have rR : (w.alloc (.cells #[.int .i64 0, .int .i64 0, .slice none 0 0, .int .i64 0] 65)).heap[w.heap.size]? = some (.cells #[.int .i64 0, .int .i64 0, .slice none 0 0, .int .i64 0] 65) := heap_alloc_new _ _
  generalize (w.alloc (.cells #[.int .i64 0, .int .i64 0, .slice none 0 0, .int .i64 0] 65)) = W0 at *
  have HF := Lib.hid (((((hb0.setCell (p := ⟨w.heap.size, 0, none⟩) (Nat.le_refl _) (.int .i64 0)).setCell (p := ⟨w.heap.size, 1, none⟩) (Nat.le_refl _) (.int .i64 wd)).setCell (p := ⟨w.heap.size, 2, none⟩) (Nat.le_refl _) (.slice none 0 0)).setCell (p := ⟨w.heap.size, 3, none⟩) (Nat.le_refl _) (.int .i64 v)))
  have r0 := cell_block (i := 0) rR
  have e0 := free_block (i := 0) rR
  have r1 := cell_block (i := 1) rR
  have e1 := free_block (i := 1) rR
  have r2 := cell_block (i := 2) rR
  have e2 := free_block (i := 2) rR
  have r3 := cell_block (i := 3) rR
  have e3 := free_block (i := 3) rR
  simp at r0 r1 r2 r3
  go_wp2
  refine bodyPost_ret (by simp [results, Tryd.results68, go_sem, r0, r1, r2, r3]; try rfl) rfl ?_
  exact ⟨rfl, HF.out⟩

theorem both_c (a b : Int) (w : World) : Calls Tryd.prog 28 #[.int .i64 a, .int .i64 b] w fun e w' => e = .returned (.int .i64 (thenE a b)) ∧ w = w' := by
  by_cases h : a = 0
  · subst h
    rw [show thenE 0 b = b from if_pos rfl]
    go_enter Tryd.func28, Tryd.ntmps28
    go_wp2
    go_ret
    exact ⟨rfl, rfl⟩
  · have n1 : (a == 0) = false := by simpa using h
    have n2 : (a != 0) = true := by simpa using h
    rw [show thenE a b = a from if_neg h]
    clear h
    go_enter Tryd.func28, Tryd.ntmps28
    go_wp2
    go_ret
    exact ⟨rfl, rfl⟩

end Go.Proofs.YtkdonapgonegkaaDoor

set_option linter.unusedSimpArgs false
set_option linter.unusedVariables false
namespace Go.Proofs.YtkdonapgonegkaaDoor
open Go.RowKit Go.BigFrame

def CopiedT (w : World) (ns : List Int) (e : Ending) (w' : World) : Prop := ∃ A' cap', e = .returned (.slice A' ns.length cap') ∧ LiesI w' A' ns ∧ (∀ ad, A' = some ad → w.heap.size ≤ ad.block ∧ ∃ cur z, w'.heap[ad.block]? = some (.cells cur 3 z)) ∧ Below w.heap.size w w'

set_option maxRecDepth 100000 in
set_option maxHeartbeats 1600000 in
theorem CopyIntsT_c (A : Option Addr) (cap : Nat) (ns : List Int) (w : World) (h : LiesI w A ns) (hA : ns.length = 0 → A = none ∧ cap = 0 ∨ ∃ ad, A = some ad) (h16 : ns.length ≤ 65536) :
    Calls Tryd.prog 11 #[.slice A ns.length cap] w (CopiedT w ns) := by
  obtain ⟨i0, hi, hz0, hz1, hz2⟩ := info_parts int_info
  have hown0 := World.ownsRow_lit (base := w.heap.size) (e := 3) (size := 1) w #[] 0 (Nat.le_refl _) (by unfold maxLen; omega) rfl
  have fin : ∀ (v' : Value) (w3 : World), w3.ownsRow w.heap.size 3 1 v' (0 + ns.length) ([] ++ ns.map (.int .i64)) → ∃ A' cap', Ending.returned v' = .returned (.slice A' ns.length cap') ∧ LiesI w3 A' ns ∧ ∀ ad, A' = some ad → w.heap.size ≤ ad.block ∧ ∃ cur z, w3.heap[ad.block]? = some (.cells cur 3 z) := by
    intro v' w3 ho
    rw [Nat.zero_add, List.nil_append] at ho
    rcases ho.2 with ⟨rfl, h0⟩ | ⟨g, cap', cur, rfl, hgb, hg3, _⟩
    · exact ⟨none, 0, by rw [h0], (fun hp => by omega), fun ad h => by cases h⟩
    · exact ⟨_, cap', rfl, LiesI.of_own ho, fun ad h => by injection h with h; subst h; exact ⟨hgb, cur, _, hg3⟩⟩
  have HF := Lib.hid fin
  have HO : Hid (∀ u ∈ ns.map (Value.int .i64), u.oneCell' = true) := Lib.hid (by
    intro u hu
    obtain ⟨x, _, rfl⟩ := List.mem_map.1 hu
    rfl)
  have hm1 : 0 + ns.length ≤ maxLen := by unfold maxLen; omega
  have hm2 : (0 + ns.length) * 8 ≤ 140737488355328 := by omega
  have HL : Hid ((ns.map (Value.int .i64)).length = ns.length * 1) := Lib.hid (by simp)
  clear fin
  have way : ∀ ad : Addr, A = some ad → (0 < ns.length → ad.block < w.heap.size) → (∀ i x, ns[i]? = some x → w.cell? (ad.add i) = some (.int .i64 x)) →
      Calls Tryd.prog 11 #[.slice A ns.length cap] w (CopiedT w ns) := by
    rintro ad rfl hb hc
    have hcells : ∀ j u, (ns.map (Value.int .i64))[j]? = some u → (w.alloc (.cells #[] 3)).cell? (ad.add j) = some u := by
      intro j u hj
      rw [List.getElem?_map] at hj
      cases hx : ns[j]? with
      | none => rw [hx] at hj; cases hj
      | some x =>
        rw [hx] at hj
        injection hj with hj
        subst hj
        have hb' := hb (by have := (List.getElem?_eq_some_iff.1 hx).1; omega)
        rw [World.cell?_alloc_lt _ _ _ (by rw [addB]; exact hb')]
        exact hc j x hx
    have HC := Lib.hid hcells
    clear hcells hc h hA
    go_enter Tryd.func11, Tryd.ntmps11
    go_wp2_with (at_builtin; refine wpList_append_own _ rfl _ _ 22 rfl w.heap.size 3 i0 (.int .i64 0) 1 8 Tryd.underlying22 hi hz0 hz1 hz2 rfl (by decide) _ _ _ rfl hown0 ad ns.length cap (ns.map (.int .i64)) rfl HL.out HC.out HO.out hm1 hm2 (by simp) ?_; intro v' w3 hown' hgrow3 hnn)
    go_wp2
    go_ret
    obtain ⟨A', cap', h1, h2, h3⟩ := HF.out v' w3 hown'
    refine ⟨A', cap', h1, h2, h3, ((Below.refl _ _).alloc (Nat.le_refl _) _).grown hgrow3 (by simp) (fun q hq => ?_)⟩
    have hq' : some w.heap.size = some q := hq
    injection hq' with hq'
    omega
  by_cases h0 : 0 < ns.length
  · obtain ⟨ad, e, hb, hc⟩ := h h0
    exact way ad e (fun _ => hb) hc
  · rcases hA (by omega) with ⟨rfl, rfl⟩ | ⟨ad, e⟩
    · obtain rfl : ns = [] := List.eq_nil_of_length_eq_zero (by omega)
      have hown1 := hown0
      clear way hown0 HF HO HL h hA
      go_enter Tryd.func11, Tryd.ntmps11
      go_wp2_with (at_builtin; refine wpList_append_own_none rfl _ _ 22 rfl w.heap.size 3 i0 1 Tryd.underlying22 hi _ _ _ rfl hown1 rfl ?_)
      go_wp2
      go_ret
      exact ⟨some ⟨w.heap.size, 0, none⟩, 0, rfl, (fun hp => by simp at hp), (fun ad h => by injection h with h; subst h; exact ⟨Nat.le_refl _, #[], _, heap_alloc_new _ _⟩), (Below.refl _ _).alloc (Nat.le_refl _) _⟩
    · exact way ad e (fun h => absurd h h0) fun i p hp => by rw [List.getElem?_eq_none (by omega)] at hp; cases hp


/-- So many nodes are copied into a row of cells. -/
def DidX (w : World) (g : Nat) (ns : List Nd) (k : Nat) (xs : List Value) : Prop := ∀ i n, i < k → ns[i]? = some n → xs[i * 4]? = some (.int .i64 n.op) ∧ xs[i * 4 + 1]? = some (.int .i64 n.wd) ∧ xs[i * 4 + 3]? = some (.int .i64 n.v) ∧
  ∃ B cap, xs[i * 4 + 2]? = some (.slice B n.args.length cap) ∧ LiesI w B n.args ∧ ∀ ad, B = some ad → g < ad.block ∧ ad.block < w.heap.size ∧ ∀ cur fz, w.heap[ad.block]? ≠ some (.cells cur 65 fz)
theorem DidX.set {w : World} {g k j : Nat} {ns : List Nd} {xs : List Value} {u : Value} (h : DidX w g ns k xs) (hj : k * 4 ≤ j) : DidX (w.setCell ⟨g, j, none⟩ u) g ns k (xs.set j u) := fun i n hi hn => by
  obtain ⟨a, b, c, B, cap, d, hl, hB⟩ := h i n hi hn
  refine ⟨?_, ?_, ?_, B, cap, ?_, hl.set (fun ad e => (hB ad e).1), fun ad e => ⟨(hB ad e).1, (by simpa using (hB ad e).2.1), by rw [heap_setCell_ne (by have := (hB ad e).1; omega)]; exact (hB ad e).2.2⟩⟩
  all_goals rw [List.getElem?_set_ne (by omega)]; assumption
theorem DidX.below {w W : World} {g k : Nat} {ns : List Nd} {xs : List Value} (h : DidX w g ns k xs) (hb : Below w.heap.size w W) : DidX W g ns k xs := fun i n hi hn => by
  obtain ⟨a, b, c, B, cap, d, hl, hB⟩ := h i n hi hn
  exact ⟨a, b, c, B, cap, d, hl.below hb, fun ad e => ⟨(hB ad e).1, Nat.lt_of_lt_of_le (hB ad e).2.1 hb.size, by rw [hb.block _ (hB ad e).2.1]; exact (hB ad e).2.2⟩⟩
theorem DidX.setW {w : World} {g k j : Nat} {ns : List Nd} {xs : List Value} {u : Value} (h : DidX w g ns k xs) : DidX (w.setCell ⟨g, j, none⟩ u) g ns k xs := fun i n hi hn => by
  obtain ⟨a, b, c, B, cap, d, hl, hB⟩ := h i n hi hn
  exact ⟨a, b, c, B, cap, d, hl.set (fun ad e => (hB ad e).1), fun ad e => ⟨(hB ad e).1, (by simpa using (hB ad e).2.1), by rw [heap_setCell_ne (by have := (hB ad e).1; omega)]; exact (hB ad e).2.2⟩⟩
theorem DidX.next {w : World} {g k cap : Nat} {ns : List Nd} {xs : List Value} {x : Nd} {y : Value} {B : Option Addr} (h : DidX w g ns k xs) (hx : ns[k]? = some x) (hl : xs.length = ns.length * 4) (hk : k < ns.length) (hL : LiesI w B x.args) (hB : ∀ ad, B = some ad → g < ad.block ∧ ad.block < w.heap.size ∧ ∀ cur fz, w.heap[ad.block]? ≠ some (.cells cur 65 fz)) :
    DidX w g ns (k + 1) (((((xs.set (k * 4) (.int .i64 x.op)).set (k * 4 + 1) (.int .i64 x.wd)).set (k * 4 + 2) y).set (k * 4 + 3) (.int .i64 x.v)).set (k * 4 + 2) (.slice B x.args.length cap)) := by
  intro i n hi hn
  by_cases hik : i < k
  · obtain ⟨a, b, c, B', cap', d, hl', hB'⟩ := h i n hik hn
    refine ⟨?_, ?_, ?_, B', cap', ?_, hl', hB'⟩
    all_goals
      rw [List.getElem?_set_ne (by omega), List.getElem?_set_ne (by omega), List.getElem?_set_ne (by omega), List.getElem?_set_ne (by omega), List.getElem?_set_ne (by omega)]
      assumption
  · obtain rfl : i = k := by omega
    rw [hx] at hn
    obtain rfl := Option.some.inj hn
    refine ⟨?_, ?_, ?_, B, cap, ?_, hL, hB⟩
    · rw [List.getElem?_set_ne (by omega), List.getElem?_set_ne (by omega), List.getElem?_set_ne (by omega), List.getElem?_set_ne (by omega), List.getElem?_set_self (by omega)]
    · rw [List.getElem?_set_ne (by omega), List.getElem?_set_ne (by omega), List.getElem?_set_ne (by omega), List.getElem?_set_self (by simp; omega)]
    · rw [List.getElem?_set_ne (by omega), List.getElem?_set_self (by simp; omega)]
    · rw [List.getElem?_set_self (by simp; omega)]

/-- A copy of nodes, a row of the call's own. -/
def CopiedX (w : World) (ns : List Nd) (e : Ending) (w' : World) : Prop := ∃ xs, e = .returned (.slice (some ⟨w.heap.size, 0, none⟩) ns.length ns.length) ∧ NodesX w' w.heap.size (fun _ => True) (.slice (some ⟨w.heap.size, 0, none⟩) ns.length ns.length) ns xs ∧ Below w.heap.size w w'

set_option maxRecDepth 100000 in
set_option maxHeartbeats 1600000 in
theorem CopyNodesX_c (A : Option Addr) (cap : Nat) (ns : List Nd) (hns : ns.length ≤ 65536) (hla : ∀ n ∈ ns, n.args.length ≤ 65536) (w : World) (h : LiesG w A ns) :
    Calls Tryd.prog 12 #[.slice A ns.length cap] w (CopiedX w ns) := by
  obtain ⟨i0, hi, hz0, hz1, hz2⟩ := info_parts node_info
  have HG := Lib.hid h
  have HLA := Lib.hid hla
  clear h hla
  go_enter Tryd.func12, Tryd.ntmps12
  go_wp2_with (refine wpList_make_full _ rfl _ _ 23 rfl w.heap.size 65 i0 _ 4 Tryd.underlying23 hi hz0 hz1 .i64 .i64 _ _ ns.length rfl rfl rfl rfl (by rw [hz2]; omega) (by unfold maxLen; omega) (Nat.le_refl _) ?_; intro W1 hown hgr)
  have hb1 : Below w.heap.size w W1 := (Below.refl _ _).grown hgr (Nat.le_refl _) (fun q hq => by cases hq)
  have hgl : w.heap.size < W1.heap.size := (hown.lt w.heap.size rfl).2
  have R0 := Lib.hid hown
  clear hown hgr
  go_wp2
  go_loopw [4] (fun v4 wr => ∃ (k : Nat) (xs : List Value), k ≤ ns.length ∧ v4 = .int .i64 k ∧ wr.ownsRow w.heap.size 65 4 (.slice (some ⟨w.heap.size, 0, none⟩) ns.length ns.length) ns.length xs ∧ DidX wr w.heap.size ns k xs ∧ Below w.heap.size w wr) (fun v4 _ => ns.length - (intOf v4).toNat)
  case atStart => exact ⟨0, _, by omega, rfl, R0.out, fun i n hi => by omega, hb1⟩
  case round =>
    obtain ⟨k, xs, hk, rfl, hown, hd, hb⟩ := hrel
    by_cases hlt : k < ns.length
    · have hkk : (k : Int) < ns.length := by omega
      have HX := Lib.hid (List.getElem?_eq_getElem hlt)
      have HL := Lib.hid (HLA.out _ (List.getElem_mem hlt))
      generalize ns[k] = x at *
      obtain ⟨ad, rfl, hbl, hnode⟩ := HG.out (by omega)
      obtain ⟨c0, c1, c3, B, bc, c2, hB, hB0, _⟩ := hnode k x HX.out
      have hbk : ∀ q : Addr, q.block = ad.block → wr.cell? q = w.cell? q := fun q hq => hb.cell (p := q) (by rw [hq]; exact hbl)
      have a0 := (hbk (ad.add (k * 4)) (by rw [addB])).trans c0
      have a1 : wr.cell? ⟨(ad.add (k * 4)).block, (ad.add (k * 4)).off + 1, none⟩ = some (.int .i64 x.wd) := (hbk ((ad.add (k * 4)).add 1) (by rw [addB, addB])).trans c1
      have a2 : wr.cell? ⟨(ad.add (k * 4)).block, (ad.add (k * 4)).off + 2, none⟩ = some (.slice B x.args.length bc) := (hbk ((ad.add (k * 4)).add 2) (by rw [addB, addB])).trans c2
      have a3 : wr.cell? ⟨(ad.add (k * 4)).block, (ad.add (k * 4)).off + 3, none⟩ = some (.int .i64 x.v) := (hbk ((ad.add (k * 4)).add 3) (by rw [addB, addB])).trans c3
      obtain ⟨u0, d0⟩ := own_at hown (j := k * 4) (by omega)
      obtain ⟨u1, d1⟩ := own_at hown (j := k * 4 + 1) (by omega)
      obtain ⟨u2, d2⟩ := own_at hown (j := k * 4 + 2) (by omega)
      obtain ⟨u3, d3⟩ := own_at hown (j := k * 4 + 3) (by omega)
      have e0 := hown.frozenAt (k * 4)
      have e1 := hown.frozenAt (k * 4 + 1)
      have e2 := hown.frozenAt (k * 4 + 2)
      have e3 := hown.frozenAt (k * 4 + 3)
      have HD := Lib.hid hd
      have HO := Lib.hid hown
      have HB := Lib.hid hb
      have HC2 := Lib.hid c2
      clear hnode c0 c1 c2 c3 hbk hd hown hb
      go_upto_region 6 with (fail)
      clear a0 a1 a2 a3 d0 d1 d2 d3 e0 e1 e2 e3
      have ho1 := ((((HO.out.stored (k * 4) (.int .i64 x.op)).1.stored (k * 4 + 1) (.int .i64 x.wd)).1.stored (k * 4 + 2) (.slice B x.args.length bc)).1.stored (k * 4 + 3) (.int .i64 x.v)).1
      have hd1 := ((((HD.out.setW (j := k * 4) (u := .int .i64 x.op)).setW (j := k * 4 + 1) (u := .int .i64 x.wd)).setW (j := k * 4 + 2) (u := .slice B x.args.length bc)).setW (j := k * 4 + 3) (u := .int .i64 x.v))
      have hb1 : Below w.heap.size w ((((wr.setCell ⟨w.heap.size, k * 4, none⟩ (.int .i64 x.op)).setCell ⟨w.heap.size, k * 4 + 1, none⟩ (.int .i64 x.wd)).setCell ⟨w.heap.size, k * 4 + 2, none⟩ (.slice B x.args.length bc)).setCell ⟨w.heap.size, k * 4 + 3, none⟩ (.int .i64 x.v)) :=
        (((HB.out.setCell (Nat.le_refl _) _).setCell (Nat.le_refl _) _).setCell (Nat.le_refl _) _).setCell (Nat.le_refl _) _
      generalize ((((wr.setCell ⟨w.heap.size, k * 4, none⟩ (.int .i64 x.op)).setCell ⟨w.heap.size, k * 4 + 1, none⟩ (.int .i64 x.wd)).setCell ⟨w.heap.size, k * 4 + 2, none⟩ (.slice B x.args.length bc)).setCell ⟨w.heap.size, k * 4 + 3, none⟩ (.int .i64 x.v)) = S1 at *
      have a2 : S1.cell? ⟨(ad.add (k * 4)).block, (ad.add (k * 4)).off + 2, none⟩ = some (.slice B x.args.length bc) := (hb1.cell (p := (ad.add (k * 4)).add 2) (by rw [addB, addB]; exact hbl)).trans HC2.out
      have HB1 := Lib.hid hb1
      have HO1 := Lib.hid ho1
      have HD1 := Lib.hid hd1
      clear hb1 ho1 hd1
      go_wp2_with fail
      refine (CopyIntsT_c B bc x.args S1 (hB.below HB1.out) hB0 HL.out).mono ?_
      rintro e W2 ⟨A', cap', rfl, hl2, hA2, hb2⟩
      have ho2 := own_below HO1.out hb2
      obtain ⟨u2, d2⟩ := own_at ho2 (j := k * 4 + 2) (by omega)
      have e2 := ho2.frozenAt (k * 4 + 2)
      have hgS : w.heap.size < S1.heap.size := (HO1.out.lt w.heap.size rfl).2
      have hA3 : ∀ ad, A' = some ad → w.heap.size < ad.block := fun ad h => Nat.lt_of_lt_of_le hgS (hA2 ad h).1
      have hA4 : ∀ ad, A' = some ad → w.heap.size < ad.block ∧ ad.block < (W2.setCell ⟨w.heap.size, k * 4 + 2, none⟩ (.slice A' x.args.length cap')).heap.size ∧ ∀ cur fz, (W2.setCell ⟨w.heap.size, k * 4 + 2, none⟩ (.slice A' x.args.length cap')).heap[ad.block]? ≠ some (.cells cur 65 fz) := fun ad h => by
        obtain ⟨_, cur, z, h2⟩ := hA2 ad h
        have h3 := hA3 ad h
        refine ⟨h3, by simpa using lt_of_get h2, fun c1 z1 h4 => ?_⟩
        rw [heap_setCell_ne (by omega), h2] at h4
        simp at h4
      have HF := Lib.hid (show ∃ xs', (W2.setCell ⟨w.heap.size, k * 4 + 2, none⟩ (.slice A' x.args.length cap')).ownsRow w.heap.size 65 4 (.slice (some ⟨w.heap.size, 0, none⟩) ns.length ns.length) ns.length xs' ∧ DidX (W2.setCell ⟨w.heap.size, k * 4 + 2, none⟩ (.slice A' x.args.length cap')) w.heap.size ns (k + 1) xs' ∧ Below w.heap.size w (W2.setCell ⟨w.heap.size, k * 4 + 2, none⟩ (.slice A' x.args.length cap')) from
        ⟨_, (ho2.stored (k * 4 + 2) (.slice A' x.args.length cap')).1, DidX.next ((HD1.out.below hb2).setW) HX.out HO.out.1 hlt (hl2.set hA3) hA4, (HB1.out.trans (hb2.mono (Nat.le_of_lt hgS))).setCell (Nat.le_refl _) _⟩)
      clear ho2 hl2 hA2 hb2 a2 hA3 hA4
      go_wp2
      go_roundw
      case rel =>
        obtain ⟨xs', f1, f2, f3⟩ := HF.out
        exact ⟨k + 1, xs', by omega, by go_num, f1, f2, f3⟩
      case measure => simp [intOf]; omega
    · obtain rfl : k = ns.length := by omega
      have HF := Lib.hid (show CopiedX w ns (.returned (.slice (some ⟨w.heap.size, 0, none⟩) ns.length ns.length)) wr from ⟨xs, rfl, ⟨hown, fun i n hi => by
        obtain ⟨f0, f1, f3, B, bc, f2, hl, hB⟩ := hd i n (List.getElem?_eq_some_iff.1 hi).1 hi
        exact ⟨f0, f1, f3, B, bc, f2, hl, fun ad e => ⟨trivial, (hB ad e).2⟩⟩⟩, hb⟩)
      clear hown hd hb
      go_wp2
      go_ret
      exact HF.out


theorem LiesI.setN {w : World} {A : Option Addr} {ns : List Int} {g j : Nat} {u : Value} (h : LiesI w A ns) (hne : ∀ ad, A = some ad → g ≠ ad.block) : LiesI (w.setCell ⟨g, j, none⟩ u) A ns := fun hp => by
  obtain ⟨ad, rfl, hb, hc⟩ := h hp
  have := hne ad rfl
  refine ⟨ad, rfl, by simpa using hb, fun i x hi => ?_⟩
  have k : (w.setCell ⟨g, j, none⟩ u).cell? (ad.add i) = w.cell? (ad.add i) := by
    unfold World.cell?
    rw [heap_setCell_other w ⟨g, j, none⟩ (ad.add i).block u (by rw [addB]; simp; omega)]
  exact k.trans (hc i x hi)
/-- A node put in the place of another one. -/
theorem NodesX.put {w : World} {base g cap bc k : Nat} {X : Nat → Prop} {ns : List Nd} {xs : List Value} {n : Nd} {B : Option Addr} (h : NodesX w base X (.slice (some ⟨g, 0, none⟩) ns.length cap) ns xs) (hk : k < ns.length) (hl : LiesI w B n.args)
    (hB : ∀ ad, B = some ad → X ad.block ∧ ad.block < w.heap.size ∧ ∀ cur fz, w.heap[ad.block]? ≠ some (.cells cur 65 fz)) :
    ∃ xs', NodesX ((((w.setCell ⟨g, k * 4, none⟩ (.int .i64 n.op)).setCell ⟨g, k * 4 + 1, none⟩ (.int .i64 n.wd)).setCell ⟨g, k * 4 + 2, none⟩ (.slice B n.args.length bc)).setCell ⟨g, k * 4 + 3, none⟩ (.int .i64 n.v)) base X (.slice (some ⟨g, 0, none⟩) ns.length cap) (ns.set k n) xs' := by
  have hx : xs.length = ns.length * 4 := h.1.1
  have ho1 := ((((h.1.stored (k * 4) (.int .i64 n.op)).1.stored (k * 4 + 1) (.int .i64 n.wd)).1.stored (k * 4 + 2) (.slice B n.args.length bc)).1.stored (k * 4 + 3) (.int .i64 n.v)).1
  have hg : ∃ cur fz, w.heap[g]? = some (.cells cur 65 fz) := by
    rcases h.1.2 with ⟨e, _⟩ | ⟨q, c1, cur, e, _, h3, _⟩
    · cases e
    · injection e with e; injection e with e; injection e with e
      subst e
      exact ⟨cur, _, h3⟩
  obtain ⟨cg, zg, hg⟩ := hg
  have keep : ∀ (A : Option Addr) (zs : List Int), LiesI w A zs → (∀ ad, A = some ad → X ad.block ∧ ad.block < w.heap.size ∧ ∀ cur fz, w.heap[ad.block]? ≠ some (.cells cur 65 fz)) →
      LiesI ((((w.setCell ⟨g, k * 4, none⟩ (.int .i64 n.op)).setCell ⟨g, k * 4 + 1, none⟩ (.int .i64 n.wd)).setCell ⟨g, k * 4 + 2, none⟩ (.slice B n.args.length bc)).setCell ⟨g, k * 4 + 3, none⟩ (.int .i64 n.v)) A zs ∧ ∀ ad, A = some ad → X ad.block ∧ ad.block < ((((w.setCell ⟨g, k * 4, none⟩ (.int .i64 n.op)).setCell ⟨g, k * 4 + 1, none⟩ (.int .i64 n.wd)).setCell ⟨g, k * 4 + 2, none⟩ (.slice B n.args.length bc)).setCell ⟨g, k * 4 + 3, none⟩ (.int .i64 n.v)).heap.size ∧ ∀ cur fz, ((((w.setCell ⟨g, k * 4, none⟩ (.int .i64 n.op)).setCell ⟨g, k * 4 + 1, none⟩ (.int .i64 n.wd)).setCell ⟨g, k * 4 + 2, none⟩ (.slice B n.args.length bc)).setCell ⟨g, k * 4 + 3, none⟩ (.int .i64 n.v)).heap[ad.block]? ≠ some (.cells cur 65 fz) := by
    intro A zs hA hf
    have hne : ∀ ad, A = some ad → g ≠ ad.block := fun ad e eq => by
      have := (hf ad e).2.2 cg zg
      rw [← eq] at this
      exact this hg
    refine ⟨(((hA.setN hne).setN hne).setN hne).setN hne, fun ad e => ⟨(hf ad e).1, by simpa using (hf ad e).2.1, ?_⟩⟩
    have := hne ad e
    rw [heap_setCell_ne this, heap_setCell_ne this, heap_setCell_ne this, heap_setCell_ne this]
    exact (hf ad e).2.2
  refine ⟨_, by rw [List.length_set]; exact ho1, fun i p hi => ?_⟩
  by_cases hik : i = k
  · subst hik
    rw [List.getElem?_set_self hk] at hi
    obtain rfl := Option.some.inj hi
    obtain ⟨k1, k2⟩ := keep B _ hl hB
    refine ⟨?_, ?_, ?_, B, bc, ?_, k1, k2⟩
    · rw [List.getElem?_set_ne (by omega), List.getElem?_set_ne (by omega), List.getElem?_set_ne (by omega), List.getElem?_set_self (by omega)]
    · rw [List.getElem?_set_ne (by omega), List.getElem?_set_ne (by omega), List.getElem?_set_self (by simp; omega)]
    · rw [List.getElem?_set_self (by simp; omega)]
    · rw [List.getElem?_set_ne (by omega), List.getElem?_set_self (by simp; omega)]
  · rw [List.getElem?_set_ne (fun e => hik e.symm)] at hi
    obtain ⟨a, b, c, B', cap', d, hl', hB'⟩ := h.2 i p hi
    obtain ⟨k1, k2⟩ := keep B' _ hl' hB'
    refine ⟨?_, ?_, ?_, B', cap', ?_, k1, k2⟩
    all_goals
      rw [List.getElem?_set_ne (by omega), List.getElem?_set_ne (by omega), List.getElem?_set_ne (by omega), List.getElem?_set_ne (by omega)]
      assumption

set_option maxRecDepth 100000 in
set_option maxHeartbeats 1600000 in
theorem moved_c (op wd v : Int) (B : Option Addr) (bc : Nat) (gs : List Int) (hal : gs.length ≤ 65536) (P : Option Addr) (cp : Nat) (ps : List Int) (hx : ∀ a ∈ gs, isIx a ps.length = true) (hps : ps.length ≤ 65536) (w : World) (hB : LiesI w B gs) (hP : LiesI w P ps) :
    Calls Tryd.prog 72 #[.agg #[.int .i64 op, .int .i64 wd, .slice B gs.length bc, .int .i64 v], .slice P ps.length cp] w (WithA w op wd v (pickL ps gs)) := by
  obtain ⟨i0, hi, hz0, hz1, hz2⟩ := info_parts int_info
  have HB := Lib.hid hB
  have HP0 := Lib.hid hP
  have HIX := Lib.hid hx
  obtain ⟨g, hg⟩ : ∃ g : Int → Int, g = fun i => ps.getD i.toNat 0 := ⟨_, rfl⟩
  have hgl : pickL ps gs = gs.map g := by rw [hg]; rfl
  rw [hgl]
  have HGG := Lib.hid hg
  clear hB hP hx hgl hg
  go_enter Tryd.func72, Tryd.ntmps72
  go_upto_region 1 with (fail)
  have rP : ((w.alloc (.cells #[.int .i64 op, .int .i64 wd, .slice B gs.length bc, .int .i64 v] 65)).alloc (.cells #[.int .i64 0, .int .i64 0, .slice none 0 0, .int .i64 0] 65)).heap[w.heap.size]? = some (.cells #[.int .i64 op, .int .i64 wd, .slice B gs.length bc, .int .i64 v] 65) := heap_alloc' (by simp) (heap_alloc_new _ _)
  have rR : ((w.alloc (.cells #[.int .i64 op, .int .i64 wd, .slice B gs.length bc, .int .i64 v] 65)).alloc (.cells #[.int .i64 0, .int .i64 0, .slice none 0 0, .int .i64 0] 65)).heap[w.heap.size + 1]? = some (.cells #[.int .i64 0, .int .i64 0, .slice none 0 0, .int .i64 0] 65) := heap_alloc_at (by simp)
  have hb0 : Below w.heap.size w ((w.alloc (.cells #[.int .i64 op, .int .i64 wd, .slice B gs.length bc, .int .i64 v] 65)).alloc (.cells #[.int .i64 0, .int .i64 0, .slice none 0 0, .int .i64 0] 65)) := ((Below.refl _ _).alloc (Nat.le_refl _) _).alloc (by simp) _
  have hs0 : w.heap.size + 2 ≤ ((w.alloc (.cells #[.int .i64 op, .int .i64 wd, .slice B gs.length bc, .int .i64 v] 65)).alloc (.cells #[.int .i64 0, .int .i64 0, .slice none 0 0, .int .i64 0] 65)).heap.size := by simp
  generalize ((w.alloc (.cells #[.int .i64 op, .int .i64 wd, .slice B gs.length bc, .int .i64 v] 65)).alloc (.cells #[.int .i64 0, .int .i64 0, .slice none 0 0, .int .i64 0] 65)) = W0 at *
  have p2 := cell_block (i := 2) rP
  simp at p2
  go_wp2_with fail
  go_loopw [5, 6] (fun v5 v6 wr => ∃ k : Nat, k ≤ gs.length ∧ v6 = .int .i64 k ∧ wr.ownsRow (w.heap.size + 2) 3 1 v5 ((gs.take k).map g).length (((gs.take k).map g).map (Value.int .i64)) ∧ wr.heap[w.heap.size]? = some (.cells #[.int .i64 op, .int .i64 wd, .slice B gs.length bc, .int .i64 v] 65) ∧ wr.heap[w.heap.size + 1]? = some (.cells #[.int .i64 0, .int .i64 0, .slice none 0 0, .int .i64 0] 65) ∧ Below w.heap.size w wr ∧ w.heap.size + 2 ≤ wr.heap.size) (fun _ v6 _ => gs.length - (intOf v6).toNat)
  case atStart => exact ⟨0, by omega, rfl, World.ownsRow_nil _ _ _ _, rP, rR, hb0, hs0⟩
  case round =>
    clear rP rR hb0 hs0 p2
    obtain ⟨k, hk, rfl, hown, rP, rR, hb, hs⟩ := hrel
    have p2 := cell_block (i := 2) rP
    simp at p2
    by_cases hlt : k < gs.length
    · have hkk : (k : Int) < gs.length := by omega
      have HX := Lib.hid (List.getElem?_eq_getElem hlt)
      have HM := Lib.hid (HIX.out _ (List.getElem_mem hlt))
      generalize gs[k] = a at *
      obtain ⟨a0, a1⟩ := isIx_iff.1 HM.out
      obtain ⟨p, rfl⟩ := Int.eq_ofNat_of_zero_le a0
      have hp : p < ps.length := by omega
      have HU := Lib.hid (List.getElem?_eq_getElem hp)
      have hga : g (p : Int) = ps[p] := by rw [HGG.out]; simp [List.getD, List.getElem?_eq_getElem hp]
      have HGA := Lib.hid hga
      clear hga
      generalize ps[p] = u at *
      obtain ⟨ap, rfl, hap, e0⟩ := HP0.out.cell HU.out
      have e1 := (hb.cell (p := ap.add p) (by rw [addB]; exact hap)).trans e0
      obtain ⟨ad, rfl, hbl, c0⟩ := HB.out.cell HX.out
      have c1 := (hb.cell (p := ad.add k) (by rw [addB]; exact hbl)).trans c0
      have HS := Lib.hid (map_snoc (g := g) HX.out)
      rw [HGA.out] at HS
      have hml : ((gs.take k).map g).length ≤ 65536 := by simp; omega
      generalize hm : ((gs.take k).map g).length = m at *
      clear c0 e0
      go_wp2_with (at_builtin; refine wpList_append_own _ rfl _ _ 22 rfl (w.heap.size + 2) 3 i0 (.int .i64 0) 1 8 Tryd.underlying22 hi hz0 hz1 hz2 rfl (by decide) _ _ _ rfl (hown.alloc _) ⟨_, 0, none⟩ 1 1 [.int .i64 _] rfl rfl (cell_one_new _ _ _) (fun x hx => by simp at hx; subst hx; rfl) (by unfold maxLen; omega) (by omega) (by first | omega | (simp; omega) | (simp at *; omega)) ?_; intro v' w3 hown' hgrow3 hnn)
      have HF := Lib.hid (own_snoc hown' hm.symm HS.out)
      have hal2 := hb.alloc hb.size (.cells #[.int .i64 u] 3)
      have HB2 := Lib.hid (hal2.grown hgrow3 hal2.size (fun q hq => Nat.le_trans (by omega) (hown.lt q hq).1))
      have hbp := ((Below.refl (w.heap.size + 2) wr).alloc hs (.cells #[.int .i64 u] 3)).grown hgrow3 (by simp; omega) (fun q hq => (hown.lt q hq).1)
      have HP := Lib.hid ((hbp.block _ (by omega)).trans rP)
      have HR := Lib.hid ((hbp.block _ (by omega)).trans rR)
      have hs3 := Nat.le_trans hs hbp.size
      clear hown' hgrow3 hown hal2 hbp rP rR p2
      go_wp2
      go_roundw
      case rel => exact ⟨k + 1, by omega, by go_num, HF.out, HP.out, HR.out, HB2.out, hs3⟩
      case measure => simp [intOf]; omega
    · obtain rfl : k = gs.length := by omega
      rw [List.take_length] at hown
      obtain ⟨A', cap', rfl, hc, hl, hfr⟩ := own_lies hown
      have HF := Lib.hid (show WithA w op wd v (gs.map g) (.returned (.agg #[.int .i64 op, .int .i64 wd, .slice A' gs.length cap', .int .i64 v])) (((((wr.setCell ⟨w.heap.size, 2, none⟩ (.slice A' gs.length cap')).setCell ⟨w.heap.size + 1, 0, none⟩ (.int .i64 op)).setCell ⟨w.heap.size + 1, 1, none⟩ (.int .i64 wd)).setCell ⟨w.heap.size + 1, 2, none⟩ (.slice A' gs.length cap')).setCell ⟨w.heap.size + 1, 3, none⟩ (.int .i64 v)) from
        ⟨A', cap', by rw [List.length_map], hc, ((((hl.set (fun ad h => by have := (hfr ad h).1; omega)).set (fun ad h => by have := (hfr ad h).1; omega)).set (fun ad h => by have := (hfr ad h).1; omega)).set (fun ad h => by have := (hfr ad h).1; omega)).set (fun ad h => by have := (hfr ad h).1; omega), fun ad h => (by obtain ⟨h1, cur, h2⟩ := hfr ad h; exact ⟨by omega, cur, by rw [heap_setCell_ne (by omega), heap_setCell_ne (by omega), heap_setCell_ne (by omega), heap_setCell_ne (by omega), heap_setCell_ne (by omega)]; exact h2⟩),
          ((((hb.setCell (Nat.le_refl _) _).setCell (Nat.le_succ _) _).setCell (Nat.le_succ _) _).setCell (Nat.le_succ _) _).setCell (Nat.le_succ _) _⟩)
      clear hown hl hc hfr hb
      have p0 := cell_block (i := 0) rP
      have f0 := free_block (i := 0) rP
      have r0 := cell_block (i := 0) rR
      have e0 := free_block (i := 0) rR
      have p1 := cell_block (i := 1) rP
      have f1 := free_block (i := 1) rP
      have r1 := cell_block (i := 1) rR
      have e1 := free_block (i := 1) rR
      have p2 := cell_block (i := 2) rP
      have f2 := free_block (i := 2) rP
      have r2 := cell_block (i := 2) rR
      have e2 := free_block (i := 2) rR
      have p3 := cell_block (i := 3) rP
      have f3 := free_block (i := 3) rP
      have r3 := cell_block (i := 3) rR
      have e3 := free_block (i := 3) rR
      simp at p0 p1 p2 p3 r0 r1 r2 r3
      go_wp2
      refine bodyPost_ret (by simp [results, Tryd.results72, go_sem, r0, r1, r2, r3]; try rfl) rfl ?_
      exact HF.out

set_option maxRecDepth 100000 in
set_option maxHeartbeats 1600000 in
theorem SameNodes_c (A : Option Addr) (ca : Nat) (B : Option Addr) (cb : Nat) (ns : List Nd) (hns : ns.length ≤ 65536) (hla : ∀ n ∈ ns, n.args.length ≤ 65536) (w : World) (hA : LiesN w A ns) (hB : LiesN w B ns) :
    Calls Tryd.prog 30 #[.slice A ns.length ca, .slice B ns.length cb] w fun e w' => e = .returned (.bool true) ∧ ∃ z : Aft w, w' = z.val := by
  have HA := Lib.hid hA
  have HB := Lib.hid hB
  have HLA := Lib.hid hla
  clear hA hB hla
  go_enter Tryd.func30, Tryd.ntmps30
  go_wp2
  go_loopw [5] (fun v5 wr => ∃ k : Nat, k ≤ ns.length ∧ v5 = .int .i64 k ∧ Below w.heap.size w wr) (fun v5 _ => ns.length - (intOf v5).toNat)
  case atStart => exact ⟨0, by omega, rfl, Below.refl _ _⟩
  case round =>
    obtain ⟨k, hk, rfl, hb⟩ := hrel
    by_cases hlt : k < ns.length
    · have hkk : (k : Int) < ns.length := by omega
      have HX := Lib.hid (List.getElem?_eq_getElem hlt)
      have hxl := HLA.out _ (List.getElem_mem hlt)
      generalize ns[k] = x at *
      obtain ⟨aa, rfl, hbla, c0, c1, c3, Ba, bca, c2, hBa⟩ := HA.out.cells HX.out
      have hbk : ∀ (z : Aft wr) (p : Addr), p.block = aa.block → z.val.cell? p = w.cell? p := fun z p hp => (z.below hb hb.size).cell (p := p) (by rw [hp]; exact hbla)
      have a0 : ∀ z : Aft wr, z.val.cell? (aa.add (k * 4)) = some (.int .i64 x.op) := fun z => (hbk z (aa.add (k * 4)) (by rw [addB])).trans c0
      have a1 : ∀ z : Aft wr, z.val.cell? ⟨(aa.add (k * 4)).block, (aa.add (k * 4)).off + 1, none⟩ = some (.int .i64 x.wd) := fun z => (hbk z ((aa.add (k * 4)).add 1) (by rw [addB, addB])).trans c1
      have a2 : ∀ z : Aft wr, z.val.cell? ⟨(aa.add (k * 4)).block, (aa.add (k * 4)).off + 2, none⟩ = some (.slice Ba x.args.length bca) := fun z => (hbk z ((aa.add (k * 4)).add 2) (by rw [addB, addB])).trans c2
      have a3 : ∀ z : Aft wr, z.val.cell? ⟨(aa.add (k * 4)).block, (aa.add (k * 4)).off + 3, none⟩ = some (.int .i64 x.v) := fun z => (hbk z ((aa.add (k * 4)).add 3) (by rw [addB, addB])).trans c3
      clear c0 c1 c2 c3 hbk
      have HLa := Lib.hid hBa
      clear hBa
      obtain ⟨ab, rfl, hblb, c0, c1, c3, Bb, bcb, c2, hBb⟩ := HB.out.cells HX.out
      have hbk : ∀ (z : Aft wr) (p : Addr), p.block = ab.block → z.val.cell? p = w.cell? p := fun z p hp => (z.below hb hb.size).cell (p := p) (by rw [hp]; exact hblb)
      have b0 : ∀ z : Aft wr, z.val.cell? (ab.add (k * 4)) = some (.int .i64 x.op) := fun z => (hbk z (ab.add (k * 4)) (by rw [addB])).trans c0
      have b1 : ∀ z : Aft wr, z.val.cell? ⟨(ab.add (k * 4)).block, (ab.add (k * 4)).off + 1, none⟩ = some (.int .i64 x.wd) := fun z => (hbk z ((ab.add (k * 4)).add 1) (by rw [addB, addB])).trans c1
      have b2 : ∀ z : Aft wr, z.val.cell? ⟨(ab.add (k * 4)).block, (ab.add (k * 4)).off + 2, none⟩ = some (.slice Bb x.args.length bcb) := fun z => (hbk z ((ab.add (k * 4)).add 2) (by rw [addB, addB])).trans c2
      have b3 : ∀ z : Aft wr, z.val.cell? ⟨(ab.add (k * 4)).block, (ab.add (k * 4)).off + 3, none⟩ = some (.int .i64 x.v) := fun z => (hbk z ((ab.add (k * 4)).add 3) (by rw [addB, addB])).trans c3
      clear c0 c1 c2 c3 hbk
      have HLb := Lib.hid hBb
      clear hBb
      have HI : Hid (∀ z : Aft wr, Calls Tryd.prog 19 #[.slice Ba x.args.length bca, .slice Bb x.args.length bcb] z.val fun e w' => e = .returned (.bool true) ∧ ∃ y : Aft z.val, w' = y.val) := Lib.hid (fun z => by
        have := Ints_c Ba bca x.args hxl Bb bcb x.args hxl z.val (HLa.out.below (z.below hb hb.size)) (HLb.out.below (z.below hb hb.size))
        rwa [eqL_refl] at this)
      have HBB := Lib.hid hb
      clear hb
      go_wp2_with fail
      refine wp_region_aft (by kernel_rfl) (by kernel_rfl) ?_
      repeat (go_big_quiet_step ((go_at_call 19; exact Calls.qa (HI.out _))))
      refine wpQuiet_nil ?_
      intro y
      have hby := y.below HBB.out HBB.out.size
      go_wp2
      go_roundw
      case rel => exact ⟨k + 1, by omega, by go_num, hby⟩
      case measure => simp [intOf]; omega
    · obtain rfl : k = ns.length := by omega
      go_wp2
      go_ret
      exact ⟨rfl, Below.aft hb⟩

end Go.Proofs.YtkdonapgonegkaaDoor

set_option linter.unusedSimpArgs false
set_option linter.unusedVariables false
namespace Go.Proofs.YtkdonapgonegkaaDoor
open Go.RowKit Go.BigFrame

set_option maxRecDepth 100000 in
set_option maxHeartbeats 1600000 in
theorem refSubstituted_c (N : Option Addr) (cap : Nat) (ns : List Nd) (hns : ns.length ≤ 65536) (hla : ∀ n ∈ ns, n.args.length ≤ 65536) (l x : Int) (w : World) (h : LiesG w N ns) :
    Calls Tryd.prog 33 #[.slice N ns.length cap, .int .i64 l, .int .i64 x] w (CopiedN w (subN l x ns)) := by
  have HC := Lib.hid (CopyNodesX_c N cap ns hns hla w h)
  have HYE := Lib.hid (fun (k : Nat) (n : Nd) (h : ns[k]? = some n) (h1 : n.op = 1) (h2 : n.v = l) => subN_yes (x := x) h h1 h2)
  have HNO := Lib.hid (fun (k : Nat) (n : Nd) (h : ns[k]? = some n) (h1 : ¬ (n.op = 1 ∧ n.v = l)) => subN_no (x := x) h h1)
  have HT := Lib.hid (subN_len l x ns)
  generalize subN l x ns = T at *
  clear h hla
  go_enter Tryd.func33, Tryd.ntmps33
  go_wp2_with fail
  refine HC.out.mono ?_
  rintro e W1 ⟨xs, rfl, hrow, hb1⟩
  have HR0 := Lib.hid hrow
  clear hrow
  go_wp2_with fail
  go_loopw [8] (fun v8 wr => ∃ (k : Nat) (xs : List Value) (L : List Nd), k ≤ ns.length ∧ v8 = .int .i64 k ∧ L = T.take k ++ ns.drop k ∧ NodesX wr w.heap.size (fun _ => True) (.slice (some ⟨w.heap.size, 0, none⟩) ns.length ns.length) L xs ∧ Below w.heap.size w wr) (fun v8 _ => ns.length - (intOf v8).toNat)
  case atStart => exact ⟨0, xs, ns, by omega, rfl, by simp, HR0.out, hb1⟩
  case round =>
    clear HR0 hb1
    obtain ⟨k, xs, L, hk, rfl, hL, hrow, hb⟩ := hrel
    have HTL := HT.out
    have hLn : L.length = ns.length := by rw [hL]; simp; omega
    by_cases hlt : k < ns.length
    · have hkk : (k : Int) < ns.length := by omega
      have hX := List.getElem?_eq_getElem hlt
      generalize ns[k] = nd at *
      have hLK : L[k]? = some nd := by rw [hL, prog_at HTL hlt]; exact hX
      have hrow' := hrow
      rw [← hLn] at hrow'
      obtain ⟨f0, f1, f3, B, bc, f2, _, _⟩ := hrow.2 k nd hLK
      have q0 := hrow'.1.cells (g := w.heap.size) rfl _ _ f0
      rw [Addr.add_lit, Nat.zero_add] at q0
      have z0 := hrow'.1.frozenAt (k * 4)
      have q1 := hrow'.1.cells (g := w.heap.size) rfl _ _ f1
      rw [Addr.add_lit, Nat.zero_add] at q1
      have z1 := hrow'.1.frozenAt (k * 4 + 1)
      have q2 := hrow'.1.cells (g := w.heap.size) rfl _ _ f2
      rw [Addr.add_lit, Nat.zero_add] at q2
      have z2 := hrow'.1.frozenAt (k * 4 + 2)
      have q3 := hrow'.1.cells (g := w.heap.size) rfl _ _ f3
      rw [Addr.add_lit, Nat.zero_add] at q3
      have z3 := hrow'.1.frozenAt (k * 4 + 3)
      have HR := Lib.hid hrow
      have HR' := Lib.hid hrow'
      have HL := Lib.hid hL
      have HX := Lib.hid hX
      have HLN := Lib.hid hLn
      clear hrow hrow' hLK f0 f1 f2 f3 hL hX hLn
      obtain ⟨op, wd, args, v⟩ := nd
      simp only at q0 q1 q2 q3
      have keep : T[k]? = ns[k]? → T.take (k + 1) ++ ns.drop (k + 1) = T.take k ++ ns.drop k := prog_keep HTL hlt
      have HK := Lib.hid keep
      clear keep
      by_cases h1 : op = 1
      · subst h1
        by_cases h2 : v = l
        · subst h2
          have HTK := Lib.hid (prog_next HTL hlt (HYE.out k _ HX.out rfl rfl))
          have HP : Hid (∃ xs', NodesX ((((wr.setCell ⟨w.heap.size, k * 4, none⟩ (.int .i64 0)).setCell ⟨w.heap.size, k * 4 + 1, none⟩ (.int .i64 wd)).setCell ⟨w.heap.size, k * 4 + 2, none⟩ (.slice none 0 0)).setCell ⟨w.heap.size, k * 4 + 3, none⟩ (.int .i64 x)) w.heap.size (fun _ => True) (.slice (some ⟨w.heap.size, 0, none⟩) L.length L.length) (L.set k ⟨0, wd, [], x⟩) xs') := Lib.hid
            (NodesX.put (n := ⟨0, wd, [], x⟩) (B := none) (bc := 0) HR'.out (by rw [HLN.out]; exact hlt) (fun h => by simp at h) (fun ad h => by cases h))
          rw [HLN.out] at HP
          have HB : Hid (Below w.heap.size w ((((wr.setCell ⟨w.heap.size, k * 4, none⟩ (.int .i64 0)).setCell ⟨w.heap.size, k * 4 + 1, none⟩ (.int .i64 wd)).setCell ⟨w.heap.size, k * 4 + 2, none⟩ (.slice none 0 0)).setCell ⟨w.heap.size, k * 4 + 3, none⟩ (.int .i64 x))) := Lib.hid ((((hb.setCell (Nat.le_refl _) _).setCell (Nat.le_refl _) _).setCell (Nat.le_refl _) _).setCell (Nat.le_refl _) _)
          clear HR HR' HYE HNO hb
          go_wp2
          go_roundw
          case rel =>
            obtain ⟨xs', hp⟩ := HP.out
            exact ⟨k + 1, xs', _, by omega, by go_num, by rw [HL.out]; exact HTK.out, hp, HB.out⟩
          case measure => simp [intOf]; omega
        · have n1 : (v == l) = false := by simpa using h2
          have HTK := Lib.hid (HK.out ((HNO.out k _ HX.out (fun h => h2 h.2)).trans HX.out.symm))
          clear HYE HNO
          go_wp2
          go_roundw
          case rel => exact ⟨k + 1, xs, L, by omega, by go_num, by rw [HL.out, HTK.out], HR.out, hb⟩
          case measure => simp [intOf]; omega
      · have n1 : (op == 1) = false := by simpa using h1
        have HTK := Lib.hid (HK.out ((HNO.out k _ HX.out (fun h => h1 h.1)).trans HX.out.symm))
        clear HYE HNO
        go_wp2
        go_roundw
        case rel => exact ⟨k + 1, xs, L, by omega, by go_num, by rw [HL.out, HTK.out], HR.out, hb⟩
        case measure => simp [intOf]; omega
    · obtain rfl : k = ns.length := by omega
      have hLT : L = T := by rw [hL, prog_all HTL]
      subst hLT
      obtain ⟨A', c', hv, hc, hl, _⟩ := hrow.lies
      have HF := Lib.hid (show CopiedN w L (.returned (.slice (some ⟨w.heap.size, 0, none⟩) ns.length ns.length)) wr from ⟨A', c', by rw [hv], hc, hl, hb⟩)
      clear hrow hl hv
      go_wp2
      go_ret
      exact HF.out

end Go.Proofs.YtkdonapgonegkaaDoor

set_option linter.unusedSimpArgs false
set_option linter.unusedVariables false
namespace Go.Proofs.YtkdonapgonegkaaDoor
open Go.RowKit Go.BigFrame

theorem own_type {w : World} {base : Nat} {e : TypeId} {k n q : Nat} {v : Value} {xs : List Value} (h : w.ownsRow base e k v n xs) (hq : v.ownBlock = some q) : ∃ cur, w.heap[q]? = some (.cells cur e (0, 0)) := by
  rcases h.2 with ⟨rfl, _⟩ | ⟨g, cap, cur, rfl, _, hg, _⟩
  · cases hq
  · have e : some g = some q := hq
    injection e with e
    subst e
    exact ⟨cur, hg⟩
theorem own_not {w : World} {base : Nat} {e e' : TypeId} {k n : Nat} {v : Value} {xs : List Value} (h : w.ownsRow base e k v n xs) (hne : e ≠ e') (q : Nat) (hq : v.ownBlock = some q) : ∀ c z, w.heap[q]? ≠ some (.cells c e' z) := by
  obtain ⟨cur, h1⟩ := own_type h hq
  intro c z h2
  rw [h1] at h2
  simp at h2
  exact hne h2.2.1
theorem apN_nil (a : List Nd) : apN a [] = a := by simp [apN]
theorem apN_len (a b : List Nd) : (apN a b).length = a.length + b.length := by simp [apN]
theorem apN_snoc (a : List Nd) {b : List Nd} {k : Nat} {n : Nd} (h : b[k]? = some n) : apN a (b.take (k + 1)) = apN a (b.take k) ++ [mvN a.length n] := by
  obtain ⟨hj, rfl⟩ := List.getElem?_eq_some_iff.1 h
  unfold apN
  rw [List.take_succ_eq_append_getElem hj, List.map_append, ← List.append_assoc]
  rfl
theorem pick_pl {p : Int} {m : Nat} {gs : List Int} (h : ∀ a ∈ gs, 0 ≤ a ∧ a < m) : pickL (plL p m) gs = gs.map (fun a => p + a) := by
  unfold pickL
  refine List.map_congr_left fun a ha => ?_
  obtain ⟨h0, h1⟩ := h a ha
  obtain ⟨j, rfl⟩ := Int.eq_ofNat_of_zero_le h0
  have := plL_at (p := p) (m := m) (j := j) (by omega)
  simp [List.getD, this]

set_option maxRecDepth 100000 in
set_option maxHeartbeats 1600000 in
theorem refAppended_c (N : Option Addr) (capN : Nat) (a : List Nd) (ha : a.length ≤ 1000) (hla : ∀ n ∈ a, n.args.length ≤ 65536) (M : Option Addr) (capM : Nat) (b : List Nd) (hbl : b.length ≤ 1000) (hlb : ∀ n ∈ b, n.args.length ≤ 65536) (hok : ∀ (k : Nat) (n : Nd), b[k]? = some n → ∀ y ∈ n.args, 0 ≤ y ∧ y < (k : Int)) (w : World) (hN : LiesG w N a) (hM : LiesN w M b) :
    Calls Tryd.prog 29 #[.slice N a.length capN, .slice M b.length capM] w (ConeR w (apN a b) (plL a.length b.length)) := by
  obtain ⟨i0, hi, hz0, hz1, hz2⟩ := info_parts int_info
  obtain ⟨ni0, nhi, nhz0, nhz1, nhz2⟩ := info_parts node_info
  have HC := Lib.hid (CopyNodesX_c N capN a (by omega) hla w hN)
  have HNN := Lib.hid hM
  have HOK := Lib.hid hok
  have HLB := Lib.hid hlb
  clear hN hM hok hla hlb
  go_enter Tryd.func29, Tryd.ntmps29
  go_wp2_with fail
  refine HC.out.mono ?_
  rintro e W1 ⟨xs, rfl, hrow, hb1⟩
  have HR0 := Lib.hid hrow
  clear hrow
  go_wp2_with fail
  go_loopw [6, 7, 8] (fun v6 v7 v8 wr => ∃ (k : Nat) (xs : List Value), k ≤ b.length ∧ v8 = .int .i64 k ∧ NodesX wr w.heap.size (fun q => some q ≠ v7.ownBlock) v6 (apN a (b.take k)) xs ∧ wr.ownsRow w.heap.size 3 1 v7 (plL a.length k).length ((plL a.length k).map (Value.int .i64)) ∧ Below w.heap.size w wr) (fun _ _ v8 _ => b.length - (intOf v8).toNat)
  case atStart => exact ⟨0, xs, by omega, rfl, by rw [List.take_zero, apN_nil]; exact HR0.out.mono (fun q _ _ => (fun h => by cases h)), World.ownsRow_nil _ _ _ _, hb1⟩
  case round =>
    clear HR0 hb1
    obtain ⟨k, xs, hk, rfl, hrow, hownn, hb⟩ := hrel
    by_cases hlt : k < b.length
    · have hkk : (k : Int) < b.length := by omega
      have HX := Lib.hid (List.getElem?_eq_getElem hlt)
      have hal := HLB.out _ (List.getElem_mem hlt)
      generalize b[k] = x at *
      have HAI := Lib.hid (HOK.out k x HX.out)
      have HS := Lib.hid (apN_snoc a HX.out)
      have hpl : (plL a.length k).length = k := plL_len _ _
      generalize hm : (plL (a.length : Int) k).length = m at *
      have hml : m ≤ 65536 := by omega
      have HROW := Lib.hid hrow
      clear hrow
      have hbs := hb.size
      go_upto_region 7 with ((at_builtin; refine wpList_append_own_at _ rfl _ _ 22 rfl w.heap.size 3 i0 (.int .i64 0) 1 8 Tryd.underlying22 hi hz0 hz1 hz2 rfl (by decide) _ _ _ rfl (hownn.alloc _) ⟨_, 0, none⟩ 1 1 [.int .i64 _] rfl rfl (cell_one_new _ _ _) (fun x hx => by simp at hx; subst hx; rfl) (by unfold maxLen; omega) (by omega) (by first | omega | (simp; omega) | (simp at *; omega)) ?_; intro v' w3 hown' hgrow3 hnn hob))
      have hbA := (Below.refl wr.heap.size wr).alloc (Nat.le_refl _) (.cells #[.int .i64 ((a.length : Int) + k)] 3)
      have hownA := own_below hownn hbA
      have hrowA := HROW.out.below hbA
      have hb3 : Below w.heap.size w w3 := (hb.alloc hb.size (.cells #[.int .i64 ((a.length : Int) + k)] 3)).grown hgrow3 (by have := hb.size; simp; omega) (fun q hq => (hownn.lt q hq).1)
      have hrow3 := hrowA.beside (X' := fun q => some q ≠ v'.ownBlock) hgrow3 (fun q hq hx => ⟨by
        rcases hob with e | e
        · rw [e]; exact hx
        · rw [e]; intro h; injection h with h; omega, hx⟩) (own_not hownA (by decide))
      have hown3 := own_snoc hown' hm.symm (plL_succ _ _)
      have hob3 := hown3.lt
      clear hownA hrowA hgrow3 hown' hownn hb hob hbA HROW
      obtain ⟨P, cp, rfl, hcp, hlp, hfp⟩ := own_lies hown3
      have HOWN3 := Lib.hid hown3
      have HROW3 := Lib.hid hrow3
      clear hown3 hrow3
      obtain ⟨ad, rfl, hbl, c0, c1, c3, B, bc, c2, hB⟩ := HNN.out.cells HX.out
      have hbk : ∀ p : Addr, p.block = ad.block → w3.cell? p = w.cell? p := fun p hp => hb3.cell (p := p) (by rw [hp]; exact hbl)
      have a0 := (hbk (ad.add (k * 4)) (by rw [addB])).trans c0
      have a1 : w3.cell? ⟨(ad.add (k * 4)).block, (ad.add (k * 4)).off + 1, none⟩ = some (.int .i64 x.wd) := (hbk ((ad.add (k * 4)).add 1) (by rw [addB, addB])).trans c1
      have a2 : w3.cell? ⟨(ad.add (k * 4)).block, (ad.add (k * 4)).off + 2, none⟩ = some (.slice B x.args.length bc) := (hbk ((ad.add (k * 4)).add 2) (by rw [addB, addB])).trans c2
      have a3 : w3.cell? ⟨(ad.add (k * 4)).block, (ad.add (k * 4)).off + 3, none⟩ = some (.int .i64 x.v) := (hbk ((ad.add (k * 4)).add 3) (by rw [addB, addB])).trans c3
      clear c0 c1 c2 c3 hbk
      have HBL := Lib.hid hB
      clear hB
      have hpl1 : (plL (a.length : Int) (k + 1)).length = k + 1 := plL_len _ _
      have HMV := Lib.hid (moved_c x.op x.wd x.v B bc x.args hal P cp (plL a.length (k + 1)) (fun y hy => by
        obtain ⟨h0, h1⟩ := HAI.out y hy
        rw [hpl1]; exact isIx_true h0 (by omega)) (by rw [hpl1]; omega) w3 (HBL.out.below hb3) hlp)
      rw [hpl1, pick_pl (fun y hy => by have := HAI.out y hy; omega)] at HMV
      have hw3 := hob3
      rw [hpl1]
      go_wp2_with fail
      refine HMV.out.mono ?_
      rintro e W4 ⟨A2, cap2, rfl, hc2, hl2, hf2, hb4⟩
      rw [List.length_map]
      have hrow4 := HROW3.out.below hb4
      have hown4 := own_below HOWN3.out hb4
      have hb5 := hb3.trans (hb4.mono hb3.size)
      have HL2 := Lib.hid hl2
      have HF2 : Hid (∀ ad, A2 = some ad → some ad.block ≠ (Value.slice P (plL a.length (k + 1)).length cp).ownBlock ∧ ad.block < W4.heap.size ∧ ∀ cur fz, W4.heap[ad.block]? ≠ some (.cells cur 65 fz)) := Lib.hid (fun ad h => by
        obtain ⟨h1, cur, h2⟩ := hf2 ad h
        refine ⟨fun e => ?_, lt_of_get h2, fun c z h3 => ?_⟩
        · have := (hob3 _ e.symm).2; omega
        · rw [h2] at h3; simp at h3)
      have hll : (apN a (b.take k)).length ≤ 65536 := by rw [apN_len]; simp; omega
      clear hc2 hl2 hf2 a0 a1 a2 a3 hlp hfp hob3 hw3
      obtain ⟨A0, c0', hv6, hc0, hlN, _⟩ := hrow4.lies
      subst hv6
      generalize hcs : apN a (b.take k) = cs at *
      have hbs5 := hb5.size
      go_wp2_with (at_builtin; refine wpList_append_own _ rfl _ _ 23 rfl w.heap.size 65 ni0 (.agg #[.int .i64 0, .int .i64 0, .slice none 0 0, .int .i64 0]) 4 48 Tryd.underlying23 nhi nhz0 nhz1 nhz2 rfl (by decide) _ _ _ rfl (hrow4.1.alloc _) ⟨_, 0, none⟩ 1 1 [.int .i64 x.op, .int .i64 x.wd, .slice A2 x.args.length cap2, .int .i64 x.v] rfl rfl four_new (fun x hx => by simp at hx; rcases hx with rfl | rfl | rfl | rfl <;> rfl) (by unfold maxLen; omega) (by omega) (by first | omega | (simp; omega) | (simp at *; omega)) ?_; intro v' w3' hown' hgrow3 hnn)
      have HR5 := Lib.hid (NodesX.snoc (n := mvN a.length x) (cap := cap2) hrow4 ((Below.refl _ _).alloc (Nat.le_refl _) _) (by simpa [mvN] using hown') hgrow3 HL2.out HF2.out)
      have HO5 := Lib.hid (own_beside (own_below hown4 ((Below.refl _ _).alloc (Nat.le_refl _) (.cells #[.int .i64 x.op, .int .i64 x.wd, .slice A2 x.args.length cap2, .int .i64 x.v] 65))) hgrow3 (own_not (own_below hrow4.1 ((Below.refl _ _).alloc (Nat.le_refl _) (.cells #[.int .i64 x.op, .int .i64 x.wd, .slice A2 x.args.length cap2, .int .i64 x.v] 65))) (by decide)))
      have HB5 := Lib.hid ((hb5.alloc hb5.size (.cells #[.int .i64 x.op, .int .i64 x.wd, .slice A2 x.args.length cap2, .int .i64 x.v] 65)).grown hgrow3 (by simp; have := hb5.size; omega) (fun q hq => (hrow4.1.lt q hq).1))
      rw [← hpl1]
      clear hown' hgrow3 hrow4 hown4 hb4 hb5 hlN
      go_wp2
      go_roundw
      case rel => exact ⟨k + 1, _, by omega, by go_num, by rw [HS.out]; exact HR5.out, HO5.out, HB5.out⟩
      case measure => simp [intOf]; omega
    · obtain rfl : k = b.length := by omega
      rw [List.take_length] at hrow
      obtain ⟨A0, c0, rfl, hc0, hlN, _⟩ := hrow.lies
      obtain ⟨P, cp, rfl, hcp, hlp, _⟩ := own_lies hownn
      have HF := Lib.hid (show ConeR w (apN a b) (plL a.length b.length) (.returned (.tuple #[.slice A0 (apN a b).length c0, .slice P (plL a.length b.length).length cp])) wr from ⟨A0, c0, P, cp, rfl, hc0, hlN, hlp, hb⟩)
      clear hrow hownn hlN hlp
      go_wp2
      go_ret2
      exact HF.out

end Go.Proofs.YtkdonapgonegkaaDoor

set_option linter.unusedSimpArgs false
set_option linter.unusedVariables false
namespace Go.Proofs.YtkdonapgonegkaaDoor
open Go.RowKit Go.BigFrame

set_option maxRecDepth 100000 in
set_option maxHeartbeats 1600000 in
theorem refNodesErr_c (A : Option Addr) (cap : Nat) (ls : List Int) (hls : ls.length ≤ 65536) (N : Option Addr) (capN : Nat) (ns : List Nd) (hns : ns.length ≤ 65536) (hla : ∀ n ∈ ns, n.args.length ≤ 65536) (w : World) (hA : LiesI w A ls) (hN : LiesN w N ns) :
    Calls Tryd.prog 18 #[.slice A ls.length cap, .slice N ns.length capN] w fun e w' => e = .returned (.int .i64 (chk ls ns).2) ∧ ∃ x : Aft w, w' = x.val := by
  have HC := Lib.hid (refCheckNodes_c A cap ls hls N capN ns hns hla w hA hN)
  clear hA hN hla
  go_enter Tryd.func18, Tryd.ntmps18
  go_wp2_with fail
  refine HC.out.mono ?_
  rintro e w' ⟨rfl, y, rfl⟩
  go_wp2
  go_ret
  exact ⟨rfl, y, rfl⟩

def subE (ls : List Int) (ns : List Nd) (l v : Int) : Int := thenE (chk ls ns).2 (if isIx l ls.length = true then eIf (!isV v (ls.getD l.toNat 0)) 2 else 6)
/-- Nodes, or an error and none. -/
def NodesE (w : World) (er : Int) (T : List Nd) (e : Ending) (w' : World) : Prop :=
  (er ≠ 0 ∧ e = .returned (.tuple #[.slice none 0 0, .int .i64 er]) ∨ er = 0 ∧ ∃ A' c, e = .returned (.tuple #[.slice A' T.length c, .int .i64 0]) ∧ LiesN w' A' T) ∧ Below w.heap.size w w'
theorem NodesE.bad {w w' : World} {er : Int} {T : List Nd} (h : er ≠ 0) (hb : Below w.heap.size w w') : NodesE w er T (.returned (.tuple #[.slice none 0 0, .int .i64 er])) w' := ⟨.inl ⟨h, rfl⟩, hb⟩
theorem first_bad {a b : Int} (h : a ≠ 0) : firstE [a, b] = a := by rw [firstE_cons, if_neg h]
theorem first_good {b : Int} : firstE [0, b] = b := by rw [firstE_cons, if_pos rfl, firstE_one]
theorem DidX.next4 {w : World} {g k cap : Nat} {ns : List Nd} {xs : List Value} {x : Nd} {B : Option Addr} (h : DidX w g ns k xs) (hx : ns[k]? = some x) (hl : xs.length = ns.length * 4) (hk : k < ns.length) (hL : LiesI w B x.args) (hB : ∀ ad, B = some ad → g < ad.block ∧ ad.block < w.heap.size ∧ ∀ cur fz, w.heap[ad.block]? ≠ some (.cells cur 65 fz)) :
    DidX w g ns (k + 1) ((((xs.set (k * 4) (.int .i64 x.op)).set (k * 4 + 1) (.int .i64 x.wd)).set (k * 4 + 2) (.slice B x.args.length cap)).set (k * 4 + 3) (.int .i64 x.v)) := by
  intro i n hi hn
  by_cases hik : i < k
  · obtain ⟨a, b, c, B', cap', d, hl', hB'⟩ := h i n hik hn
    refine ⟨?_, ?_, ?_, B', cap', ?_, hl', hB'⟩
    all_goals
      rw [List.getElem?_set_ne (by omega), List.getElem?_set_ne (by omega), List.getElem?_set_ne (by omega), List.getElem?_set_ne (by omega)]
      assumption
  · obtain rfl : i = k := by omega
    rw [hx] at hn
    obtain rfl := Option.some.inj hn
    refine ⟨?_, ?_, ?_, B, cap, ?_, hL, hB⟩
    · rw [List.getElem?_set_ne (by omega), List.getElem?_set_ne (by omega), List.getElem?_set_ne (by omega), List.getElem?_set_self (by omega)]
    · rw [List.getElem?_set_ne (by omega), List.getElem?_set_ne (by omega), List.getElem?_set_self (by simp; omega)]
    · rw [List.getElem?_set_self (by simp; omega)]
    · rw [List.getElem?_set_ne (by omega), List.getElem?_set_self (by simp; omega)]

/-- A row of nodes that is being filled. -/
def NewRow (w : World) (g n : Nat) (T : List Nd) (k : Nat) (xs : List Value) : Prop := w.ownsRow g 65 4 (.slice (some ⟨g, 0, none⟩) n n) n xs ∧ DidX w g T k xs

set_option maxRecDepth 100000 in
set_option maxHeartbeats 1600000 in
theorem Substituted_c (A : Option Addr) (cap : Nat) (ls : List Int) (hls : ls.length ≤ 65536) (N : Option Addr) (capN : Nat) (ns : List Nd) (hns : ns.length ≤ 65536) (hcap : ns.length ≤ capN) (hla : ∀ n ∈ ns, n.args.length ≤ 65536) (l v : Int) (w : World) (hA : LiesI w A ls) (hN : LiesN w N ns) (ht : TabOps w) :
    Calls Tryd.prog 26 #[.slice A ls.length cap, .slice N ns.length capN, .int .i64 l, .int .i64 v] w (NodesE w (subE ls ns l v) (subN l v ns)) := by
  have HC := errorOfGraph_c A cap ls hls N capN ns hns hcap hla w hA hN ht
  by_cases h0 : (chk ls ns).2 = 0
  case neg =>
    rw [show subE ls ns l v = (chk ls ns).2 from if_neg h0]
    generalize (chk ls ns).2 = er at *
    have HC := Lib.hid HC
    have HE := Lib.hid h0
    have n1 : (er == 0) = false := by simpa using h0
    have n2 : (er != 0) = true := by simpa using h0
    have HR := Lib.hid (first_bad (b := eIf (!isIx l ls.length) 6) h0)
    clear h0 hA hN ht hla hcap
    go_enter Tryd.func26, Tryd.ntmps26
    go_wp2_with fail
    refine HC.out.mono ?_
    rintro e w' ⟨rfl, y, rfl⟩
    go_wp2_with (first | (go_at_call 66; refine (isIndex_c _ _ _).mono ?_; rintro e w' ⟨rfl, rfl⟩) | (go_at_call 47; refine (errorIf_c _ _ _).mono ?_; rintro e w' ⟨rfl, rfl⟩))
    refine (firstError2 y.val.heap.size _ _ 26 (0, 0) _ (heap_alloc_new _ _)).mono ?_
    rintro e w' ⟨rfl, rfl⟩
    rw [HR.out]
    have hbF := y.pf.alloc y.pf.size (.cells #[.int .i64 er, .int .i64 (eIf (!isIx l ls.length) 6)] 26)
    go_wp2
    go_ret2
    exact NodesE.bad HE.out hbF
  by_cases hx : isIx l ls.length = true
  case neg =>
    rw [show subE ls ns l v = 6 by unfold subE thenE; rw [if_pos h0, if_neg hx]]
    rw [h0] at HC
    have hx' : isIx l ls.length = false := by simpa using hx
    have HC := Lib.hid HC
    have HR := Lib.hid (show firstE [0, eIf (!isIx l ls.length) 6] = 6 by rw [first_good, hx']; rfl)
    clear h0 hx hx' hA hN ht hla hcap
    go_enter Tryd.func26, Tryd.ntmps26
    go_wp2_with fail
    refine HC.out.mono ?_
    rintro e w' ⟨rfl, y, rfl⟩
    go_wp2_with (first | (go_at_call 66; refine (isIndex_c _ _ _).mono ?_; rintro e w' ⟨rfl, rfl⟩) | (go_at_call 47; refine (errorIf_c _ _ _).mono ?_; rintro e w' ⟨rfl, rfl⟩))
    refine (firstError2 y.val.heap.size _ _ 26 (0, 0) _ (heap_alloc_new _ _)).mono ?_
    rintro e w' ⟨rfl, rfl⟩
    rw [HR.out]
    have hbF := y.pf.alloc y.pf.size (.cells #[.int .i64 0, .int .i64 (eIf (!isIx l ls.length) 6)] 26)
    go_wp2
    go_ret2
    exact NodesE.bad (er := 6) (by decide) hbF
  obtain ⟨l0, l1⟩ := isIx_iff.1 hx
  obtain ⟨p, rfl⟩ := Int.eq_ofNat_of_zero_le l0
  have hp : p < ls.length := by omega
  have HY := Lib.hid (List.getElem?_eq_getElem hp)
  have hiw := isW_iff.1 ((chk_ok h0).2.1 _ (List.getElem_mem hp))
  have hse : subE ls ns (p : Int) v = eIf (!isV v ls[p]) 2 := by
    unfold subE thenE; rw [if_pos h0, if_pos hx]; simp [hp]
  rw [hse]
  rw [h0] at HC
  have HC := Lib.hid HC
  have HR := Lib.hid (show firstE [0, eIf (!isIx (p : Int) ls.length) 6] = 0 by rw [first_good, hx]; rfl)
  have HA := Lib.hid hA
  have HN := Lib.hid hN
  have HND := Lib.hid (chk_nodes h0)
  obtain ⟨w1, w2⟩ := hiw
  clear h0 hA hN ht hla hcap hse hx
  generalize ls[p] = wl at *
  obtain ⟨aa, rfl, hal, cl⟩ := HA.out.cell HY.out
  go_enter Tryd.func26, Tryd.ntmps26
  go_wp2_with fail
  refine HC.out.mono ?_
  rintro e w' ⟨rfl, y, rfl⟩
  go_wp2_with (first | (go_at_call 66; refine (isIndex_c _ _ _).mono ?_; rintro e w' ⟨rfl, rfl⟩) | (go_at_call 47; refine (errorIf_c _ _ _).mono ?_; rintro e w' ⟨rfl, rfl⟩))
  refine (firstError2 y.val.heap.size _ _ 26 (0, 0) _ (heap_alloc_new _ _)).mono ?_
  rintro e w' ⟨rfl, rfl⟩
  rw [HR.out]
  have hbF := y.pf.alloc y.pf.size (.cells #[.int .i64 0, .int .i64 (eIf (!isIx (p : Int) ls.length) 6)] 26)
  have cl2 := (hbF.cell (p := aa.add p) (by rw [addB]; exact hal)).trans cl
  have hpl : (p : Int) < ls.length := by omega
  generalize y.val.alloc (.cells #[.int .i64 0, .int .i64 (eIf (!isIx (p : Int) ls.length) 6)] 26) = W0 at *
  clear cl
  have HV := Lib.hid (fun (W : World) => isValue_c v wl (by omega) w2 W)
  obtain ⟨bv, hbv⟩ : ∃ bv, isV v wl = bv := ⟨_, rfl⟩
  have HER := Lib.hid (congrArg (fun b => eIf (!b) 2) hbv)
  cases bv with
  | false =>
    rw [hbv] at HV
    go_wp2_with (go_at_call 67; refine (HV.out _).mono ?_; rintro e w' ⟨rfl, rfl⟩)
    go_ret2
    rw [show eIf (!isV v wl) 2 = 2 from HER.out]
    exact NodesE.bad (er := 2) (by decide) hbF
  | true =>
    rw [hbv] at HV
    obtain ⟨i0, hi, hz0, hz1, hz2⟩ := info_parts node_info
    have HT := Lib.hid (subN_len (p : Int) v ns)
    have HYE := Lib.hid (fun (k : Nat) (n : Nd) (h : ns[k]? = some n) (h1 : n.op = 1) (h2 : n.v = (p : Int)) => subN_yes (x := v) h h1 h2)
    have HNO := Lib.hid (fun (k : Nat) (n : Nd) (h : ns[k]? = some n) (h1 : ¬ (n.op = 1 ∧ n.v = (p : Int))) => subN_no (x := v) h h1)
    generalize subN (p : Int) v ns = T at *
    go_wp2_with (first | (go_at_call 67; refine (HV.out _).mono ?_; rintro e w' ⟨rfl, rfl⟩) | (refine wpList_make_full _ rfl _ _ 23 rfl W0.heap.size 65 i0 _ 4 Tryd.underlying23 hi hz0 hz1 .i64 .i64 _ _ ns.length rfl rfl rfl rfl (by rw [hz2]; omega) (by unfold maxLen; omega) (Nat.le_refl _) ?_; intro W1 hown hgr))
    have hb1 : Below w.heap.size w W1 := hbF.grown hgr hbF.size (fun q hq => by cases hq)
    have hgw : w.heap.size ≤ W0.heap.size := hbF.size
    have R0 := Lib.hid hown
    clear hown hgr hbF cl2
    go_wp2_with fail
    go_loopw [40] (fun v40 wr => ∃ (k : Nat) (xs : List Value), k ≤ ns.length ∧ v40 = .int .i64 k ∧ NewRow wr W0.heap.size ns.length T k xs ∧ Below w.heap.size w wr) (fun v40 _ => ns.length - (intOf v40).toNat)
    case atStart => exact ⟨0, _, by omega, rfl, ⟨R0.out, fun i n hi => by omega⟩, hb1⟩
    case round =>
      clear R0 hb1
      obtain ⟨k, xs, hk, rfl, ⟨hown, hd⟩, hb⟩ := hrel
      by_cases hlt : k < ns.length
      · have hkk : (k : Int) < ns.length := by omega
        have HX := Lib.hid (List.getElem?_eq_getElem hlt)
        generalize ns[k] = x at *
        obtain ⟨ad, rfl, hbl, c0, c1, c3, B, bc, c2, hB⟩ := HN.out.cells HX.out
        have hbk : ∀ p : Addr, p.block = ad.block → wr.cell? p = w.cell? p := fun p hp => hb.cell (p := p) (by rw [hp]; exact hbl)
        have a0 := (hbk (ad.add (k * 4)) (by rw [addB])).trans c0
        have a1 : wr.cell? ⟨(ad.add (k * 4)).block, (ad.add (k * 4)).off + 1, none⟩ = some (.int .i64 x.wd) := (hbk ((ad.add (k * 4)).add 1) (by rw [addB, addB])).trans c1
        have a2 : wr.cell? ⟨(ad.add (k * 4)).block, (ad.add (k * 4)).off + 2, none⟩ = some (.slice B x.args.length bc) := (hbk ((ad.add (k * 4)).add 2) (by rw [addB, addB])).trans c2
        have a3 : wr.cell? ⟨(ad.add (k * 4)).block, (ad.add (k * 4)).off + 3, none⟩ = some (.int .i64 x.v) := (hbk ((ad.add (k * 4)).add 3) (by rw [addB, addB])).trans c3
        clear c0 c1 c2 c3 hbk
        have HBL := Lib.hid hB
        clear hB
        have HAL := Lib.hid (HND.out k x HX.out).al
        obtain ⟨op, wd, args, v0⟩ := x
        simp only at a0 a1 a2 a3 HBL HAL
        have HO := Lib.hid hown
        have HD := Lib.hid hd
        clear hown hd
        go_upto_region 10 with (fail)
        have hbX := (Below.refl wr.heap.size wr).alloc (Nat.le_refl _) (.cells #[.int .i64 op, .int .i64 wd, .slice B args.length bc, .int .i64 v0] 65)
        have HOWN := Lib.hid (own_below HO.out hbX)
        have HDID := Lib.hid (HD.out.below hbX)
        have hbA := hb.alloc hb.size (.cells #[.int .i64 op, .int .i64 wd, .slice B args.length bc, .int .i64 v0] 65)
        have hgl := (HO.out.lt W0.heap.size rfl).2
        have hgX := Nat.lt_of_lt_of_le hgl hbX.size
        have rn : (wr.alloc (.cells #[.int .i64 op, .int .i64 wd, .slice B args.length bc, .int .i64 v0] 65)).heap[wr.heap.size]? = some (.cells #[.int .i64 op, .int .i64 wd, .slice B args.length bc, .int .i64 v0] 65) := heap_alloc_new _ _
        clear hb hbX a0 a1 a2 a3 HO HD
        generalize wr.alloc (.cells #[.int .i64 op, .int .i64 wd, .slice B args.length bc, .int .i64 v0] 65) = W1' at *
        generalize wr.heap.size = q at *
        have n0 := cell_block (i := 0) rn
        have n1 := cell_block (i := 1) rn
        have n2 := cell_block (i := 2) rn
        have n3 := cell_block (i := 3) rn
        simp at n0 n1 n2 n3
        by_cases hc : op = 1 ∧ v0 = (p : Int)
        · obtain ⟨rfl, rfl⟩ := hc
          have HTX := Lib.hid (HYE.out k _ HX.out rfl rfl)
          clear HYE HNO
          go_wp2_with fail
          refine (constant_c wd v W1').mono ?_
          rintro e W2 ⟨rfl, hb2⟩
          have ho2 := own_below HOWN.out hb2
          obtain ⟨u0, d0⟩ := own_at ho2 (j := k * 4) (by omega)
          have e0 := ho2.frozenAt (k * 4)
          obtain ⟨u1, d1⟩ := own_at ho2 (j := k * 4 + 1) (by omega)
          have e1 := ho2.frozenAt (k * 4 + 1)
          obtain ⟨u2, d2⟩ := own_at ho2 (j := k * 4 + 2) (by omega)
          have e2 := ho2.frozenAt (k * 4 + 2)
          obtain ⟨u3, d3⟩ := own_at ho2 (j := k * 4 + 3) (by omega)
          have e3 := ho2.frozenAt (k * 4 + 3)
          have HF : Hid (∃ xs', NewRow ((((W2.setCell ⟨W0.heap.size, k * 4, none⟩ (.int .i64 0)).setCell ⟨W0.heap.size, k * 4 + 1, none⟩ (.int .i64 wd)).setCell ⟨W0.heap.size, k * 4 + 2, none⟩ (.slice none 0 0)).setCell ⟨W0.heap.size, k * 4 + 3, none⟩ (.int .i64 v)) W0.heap.size ns.length T (k + 1) xs' ∧ Below w.heap.size w ((((W2.setCell ⟨W0.heap.size, k * 4, none⟩ (.int .i64 0)).setCell ⟨W0.heap.size, k * 4 + 1, none⟩ (.int .i64 wd)).setCell ⟨W0.heap.size, k * 4 + 2, none⟩ (.slice none 0 0)).setCell ⟨W0.heap.size, k * 4 + 3, none⟩ (.int .i64 v))) := Lib.hid
            ⟨_, ⟨((((ho2.stored (k * 4) (.int .i64 0)).1.stored (k * 4 + 1) (.int .i64 wd)).1.stored (k * 4 + 2) (.slice none 0 0)).1.stored (k * 4 + 3) (.int .i64 v)).1,
              DidX.next4 (x := ⟨0, wd, [], v⟩) (cap := 0) ((((((HDID.out.below hb2)).setW).setW).setW).setW) HTX.out (by rw [HT.out]; exact ho2.1) (by rw [HT.out]; exact hlt) (fun h => by simp at h) (fun ad h => by cases h)⟩, ((((hbA.trans (hb2.mono hbA.size)).setCell hgw _).setCell hgw _).setCell hgw _).setCell hgw _⟩
          clear ho2
          go_wp2
          go_roundw
          case rel =>
            obtain ⟨xs', h1, h2⟩ := HF.out
            exact ⟨k + 1, xs', by omega, by go_num, h1, h2⟩
          case measure => simp [intOf]; omega
        · have HTX := Lib.hid (HNO.out k _ HX.out hc)
          have HCP := Lib.hid (copied_c op wd v0 B bc args (by have := HAL.out; omega) W1' (HBL.out.below hbA))
          clear HYE HNO
          have tail : ∀ (W2 : World) (A2 : Option Addr) (cap2 : Nat), LiesI W2 A2 args → (∀ ad, A2 = some ad → W1'.heap.size ≤ ad.block ∧ ∃ cur, W2.heap[ad.block]? = some (.cells cur 3 (0, 0))) → Below W1'.heap.size W1' W2 →
              (∀ i, i < 4 → (∃ u, W2.cell? ⟨W0.heap.size, k * 4 + i, none⟩ = some u) ∧ W2.frozen? ⟨W0.heap.size, k * 4 + i, none⟩ = false) ∧ ∃ xs', NewRow ((((W2.setCell ⟨W0.heap.size, k * 4, none⟩ (.int .i64 op)).setCell ⟨W0.heap.size, k * 4 + 1, none⟩ (.int .i64 wd)).setCell ⟨W0.heap.size, k * 4 + 2, none⟩ (.slice A2 args.length cap2)).setCell ⟨W0.heap.size, k * 4 + 3, none⟩ (.int .i64 v0)) W0.heap.size ns.length T (k + 1) xs' ∧ Below w.heap.size w ((((W2.setCell ⟨W0.heap.size, k * 4, none⟩ (.int .i64 op)).setCell ⟨W0.heap.size, k * 4 + 1, none⟩ (.int .i64 wd)).setCell ⟨W0.heap.size, k * 4 + 2, none⟩ (.slice A2 args.length cap2)).setCell ⟨W0.heap.size, k * 4 + 3, none⟩ (.int .i64 v0)) := by
            intro W2 A2 cap2 hl2 hf2 hb2
            have hg2 : ∀ ad, A2 = some ad → W0.heap.size < ad.block := fun ad h => Nat.lt_of_lt_of_le hgX (hf2 ad h).1
            have HL4 : Hid (LiesI ((((W2.setCell ⟨W0.heap.size, k * 4, none⟩ (.int .i64 op)).setCell ⟨W0.heap.size, k * 4 + 1, none⟩ (.int .i64 wd)).setCell ⟨W0.heap.size, k * 4 + 2, none⟩ (.slice A2 args.length cap2)).setCell ⟨W0.heap.size, k * 4 + 3, none⟩ (.int .i64 v0)) A2 args) := Lib.hid ((((hl2.set hg2).set hg2).set hg2).set hg2)
            have HF4 : Hid (∀ ad, A2 = some ad → W0.heap.size < ad.block ∧ ad.block < ((((W2.setCell ⟨W0.heap.size, k * 4, none⟩ (.int .i64 op)).setCell ⟨W0.heap.size, k * 4 + 1, none⟩ (.int .i64 wd)).setCell ⟨W0.heap.size, k * 4 + 2, none⟩ (.slice A2 args.length cap2)).setCell ⟨W0.heap.size, k * 4 + 3, none⟩ (.int .i64 v0)).heap.size ∧ ∀ cur fz, ((((W2.setCell ⟨W0.heap.size, k * 4, none⟩ (.int .i64 op)).setCell ⟨W0.heap.size, k * 4 + 1, none⟩ (.int .i64 wd)).setCell ⟨W0.heap.size, k * 4 + 2, none⟩ (.slice A2 args.length cap2)).setCell ⟨W0.heap.size, k * 4 + 3, none⟩ (.int .i64 v0)).heap[ad.block]? ≠ some (.cells cur 65 fz)) := Lib.hid (fun ad h => by
              obtain ⟨h1, cur, h2⟩ := hf2 ad h
              have h3 := hg2 ad h
              refine ⟨h3, by simpa using lt_of_get h2, fun c z h4 => ?_⟩
              rw [heap_setCell_ne (by omega), heap_setCell_ne (by omega), heap_setCell_ne (by omega), heap_setCell_ne (by omega), h2] at h4
              simp at h4)
            have ho0 := own_below HOWN.out hb2
            refine ⟨fun i hi => ⟨own_at ho0 (by omega), ho0.frozenAt _⟩, ?_⟩
            have ho2 := own_below HOWN.out hb2
            obtain ⟨u0, d0⟩ := own_at ho2 (j := k * 4) (by omega)
            have e0 := ho2.frozenAt (k * 4)
            obtain ⟨u1, d1⟩ := own_at ho2 (j := k * 4 + 1) (by omega)
            have e1 := ho2.frozenAt (k * 4 + 1)
            obtain ⟨u2, d2⟩ := own_at ho2 (j := k * 4 + 2) (by omega)
            have e2 := ho2.frozenAt (k * 4 + 2)
            obtain ⟨u3, d3⟩ := own_at ho2 (j := k * 4 + 3) (by omega)
            have e3 := ho2.frozenAt (k * 4 + 3)
            have HF : Hid (∃ xs', NewRow ((((W2.setCell ⟨W0.heap.size, k * 4, none⟩ (.int .i64 op)).setCell ⟨W0.heap.size, k * 4 + 1, none⟩ (.int .i64 wd)).setCell ⟨W0.heap.size, k * 4 + 2, none⟩ (.slice A2 args.length cap2)).setCell ⟨W0.heap.size, k * 4 + 3, none⟩ (.int .i64 v0)) W0.heap.size ns.length T (k + 1) xs' ∧ Below w.heap.size w ((((W2.setCell ⟨W0.heap.size, k * 4, none⟩ (.int .i64 op)).setCell ⟨W0.heap.size, k * 4 + 1, none⟩ (.int .i64 wd)).setCell ⟨W0.heap.size, k * 4 + 2, none⟩ (.slice A2 args.length cap2)).setCell ⟨W0.heap.size, k * 4 + 3, none⟩ (.int .i64 v0))) := Lib.hid
              ⟨_, ⟨((((ho2.stored (k * 4) (.int .i64 op)).1.stored (k * 4 + 1) (.int .i64 wd)).1.stored (k * 4 + 2) (.slice A2 args.length cap2)).1.stored (k * 4 + 3) (.int .i64 v0)).1,
                DidX.next4 (x := ⟨op, wd, args, v0⟩) (cap := cap2) ((((((HDID.out.below hb2)).setW).setW).setW).setW) HTX.out (by rw [HT.out]; exact ho2.1) (by rw [HT.out]; exact hlt) HL4.out HF4.out⟩, ((((hbA.trans (hb2.mono hbA.size)).setCell hgw _).setCell hgw _).setCell hgw _).setCell hgw _⟩
            exact HF.out
          have HTAIL := Lib.hid tail
          clear tail
          have walk : ∀ {op' : Prop}, op' → op' := fun h => h
          by_cases ho : op = 1
          · subst ho
            have hv0 : (v0 == (p : Int)) = false := by
              have : ¬ v0 = (p : Int) := fun h => hc ⟨rfl, h⟩
              simpa using this
            clear hc walk
            go_wp2_with fail
            refine HCP.out.mono ?_
            rintro e W2 ⟨A2, cap2, rfl, _, hl2, hf2, hb2⟩
            have HF := Lib.hid (HTAIL.out W2 A2 cap2 hl2 hf2 hb2).2
            obtain ⟨⟨u0, d0⟩, e0⟩ := (HTAIL.out W2 A2 cap2 hl2 hf2 hb2).1 0 (by omega)
            obtain ⟨⟨u1, d1⟩, e1⟩ := (HTAIL.out W2 A2 cap2 hl2 hf2 hb2).1 1 (by omega)
            obtain ⟨⟨u2, d2⟩, e2⟩ := (HTAIL.out W2 A2 cap2 hl2 hf2 hb2).1 2 (by omega)
            obtain ⟨⟨u3, d3⟩, e3⟩ := (HTAIL.out W2 A2 cap2 hl2 hf2 hb2).1 3 (by omega)
            rw [Nat.add_zero] at d0 e0
            clear hl2 hf2 hb2
            go_wp2
            go_roundw
            case rel =>
              obtain ⟨xs', h1, h2⟩ := HF.out
              exact ⟨k + 1, xs', by omega, by go_num, h1, h2⟩
            case measure => simp [intOf]; omega
          · have ho1 : (op == 1) = false := by simpa using ho
            clear hc ho walk
            go_wp2_with fail
            refine HCP.out.mono ?_
            rintro e W2 ⟨A2, cap2, rfl, _, hl2, hf2, hb2⟩
            have HF := Lib.hid (HTAIL.out W2 A2 cap2 hl2 hf2 hb2).2
            obtain ⟨⟨u0, d0⟩, e0⟩ := (HTAIL.out W2 A2 cap2 hl2 hf2 hb2).1 0 (by omega)
            obtain ⟨⟨u1, d1⟩, e1⟩ := (HTAIL.out W2 A2 cap2 hl2 hf2 hb2).1 1 (by omega)
            obtain ⟨⟨u2, d2⟩, e2⟩ := (HTAIL.out W2 A2 cap2 hl2 hf2 hb2).1 2 (by omega)
            obtain ⟨⟨u3, d3⟩, e3⟩ := (HTAIL.out W2 A2 cap2 hl2 hf2 hb2).1 3 (by omega)
            rw [Nat.add_zero] at d0 e0
            clear hl2 hf2 hb2
            go_wp2
            go_roundw
            case rel =>
              obtain ⟨xs', h1, h2⟩ := HF.out
              exact ⟨k + 1, xs', by omega, by go_num, h1, h2⟩
            case measure => simp [intOf]; omega
      · obtain rfl : k = ns.length := by omega
        have HF := Lib.hid (show NodesE w 0 T (.returned (.tuple #[.slice (some ⟨W0.heap.size, 0, none⟩) ns.length ns.length, .int .i64 0])) wr from ⟨.inr ⟨rfl, _, ns.length, by rw [HT.out], fun hp => ⟨_, rfl, (hown.lt W0.heap.size rfl).2, fun i n hi => by
          obtain ⟨f0, f1, f3, B, bc, f2, hl, _⟩ := hd i n (by have := (List.getElem?_eq_some_iff.1 hi).1; have := HT.out; omega) hi
          exact ⟨hown.cells (g := W0.heap.size) rfl _ _ f0, (by rw [add_add]; exact hown.cells (g := W0.heap.size) rfl _ _ f1), (by rw [add_add]; exact hown.cells (g := W0.heap.size) rfl _ _ f3), B, bc, (by rw [add_add]; exact hown.cells (g := W0.heap.size) rfl _ _ f2), hl⟩⟩⟩, hb⟩)
        clear hown hd hb
        go_wp2
        go_ret2
        rw [show eIf (!isV v wl) 2 = 0 from HER.out]
        exact HF.out

end Go.Proofs.YtkdonapgonegkaaDoor

set_option linter.unusedSimpArgs false
set_option linter.unusedVariables false
namespace Go.Proofs.YtkdonapgonegkaaDoor
open Go.RowKit Go.BigFrame

def apE (ls : List Int) (a b : List Nd) : Int := firstE [(chk ls a).2, (chk ls b).2, eIf (decide (400 < (a.length : Int) + b.length)) 8]
/-- Nodes and numbers, or an error and none. -/
def AppE (w : World) (er : Int) (cs : List Nd) (ps : List Int) (e : Ending) (w' : World) : Prop :=
  (er ≠ 0 ∧ e = .returned (.tuple #[.slice none 0 0, .slice none 0 0, .int .i64 er]) ∨ er = 0 ∧ ∃ A c B c2, e = .returned (.tuple #[.slice A cs.length c, .slice B ps.length c2, .int .i64 0]) ∧ LiesN w' A cs ∧ LiesI w' B ps) ∧ Below w.heap.size w w'
theorem AppE.bad {w w' : World} {er : Int} {cs : List Nd} {ps : List Int} (h : er ≠ 0) (hb : Below w.heap.size w w') : AppE w er cs ps (.returned (.tuple #[.slice none 0 0, .slice none 0 0, .int .i64 er])) w' := ⟨.inl ⟨h, rfl⟩, hb⟩
theorem apE_ok {ls : List Int} {a b : List Nd} (h : apE ls a b = 0) : (chk ls a).2 = 0 ∧ (chk ls b).2 = 0 ∧ ¬ 400 < (a.length : Int) + b.length := by
  unfold apE at h
  rw [firstE_cons, firstE_cons, firstE_one] at h
  by_cases h1 : (chk ls a).2 = 0
  · rw [if_pos h1] at h
    by_cases h2 : (chk ls b).2 = 0
    · rw [if_pos h2] at h
      have := eIf_zero h (by decide)
      exact ⟨h1, h2, by simpa using this⟩
    · rw [if_neg h2] at h; exact absurd h h2
  · rw [if_neg h1] at h; exact absurd h h1
theorem liesX {w : World} {base : Nat} {X : Nat → Prop} {v : Value} {ns : List Nd} {xs : List Value} (h : NodesX w base X v ns xs) : ∃ A' cap', v = .slice A' ns.length cap' ∧ LiesN w A' ns := by
  obtain ⟨A', c', h1, _, h2, _⟩ := h.lies
  exact ⟨A', c', h1, h2⟩

set_option maxRecDepth 100000 in
set_option maxHeartbeats 1600000 in
theorem Appended_c (A : Option Addr) (cap : Nat) (ls : List Int) (hls : ls.length ≤ 65536) (N : Option Addr) (capN : Nat) (a : List Nd) (ha : a.length ≤ 65536) (hca : a.length ≤ capN) (hla : ∀ n ∈ a, n.args.length ≤ 65536) (M : Option Addr) (capM : Nat) (b : List Nd) (hbl0 : b.length ≤ 65536) (hcb : b.length ≤ capM) (hlb : ∀ n ∈ b, n.args.length ≤ 65536)
    (w : World) (hA : LiesI w A ls) (hN : LiesN w N a) (hM : LiesN w M b) (ht : TabOps w) :
    Calls Tryd.prog 27 #[.slice A ls.length cap, .slice N a.length capN, .slice M b.length capM] w (AppE w (apE ls a b) (apN a b) (plL a.length b.length)) := by
  have HCA := Lib.hid (errorOfGraph_c A cap ls hls N capN a ha hca hla w hA hN ht)
  have HCB := Lib.hid (fun (x : Aft w) => errorOfGraph_c A cap ls hls M capM b hbl0 hcb hlb x.val (hA.aft x) (hM.aft x) (ht.below x.pf))
  obtain ⟨er, her⟩ : ∃ er, apE ls a b = er := ⟨_, rfl⟩
  have HR : Hid (firstE [(chk ls a).2, (chk ls b).2, eIf (decide (400 < (a.length : Int) + b.length)) 8] = er) := Lib.hid her
  by_cases h0 : er = 0
  case neg =>
    rw [her]
    have HE := Lib.hid h0
    have n1 : (er == 0) = false := by simpa using h0
    have n2 : (er != 0) = true := by simpa using h0
    clear h0 hA hN hM ht hla hlb hca hcb her
    generalize (chk ls a).2 = ca at *
    generalize (chk ls b).2 = cb at *
    go_enter Tryd.func27, Tryd.ntmps27
    go_wp2_with fail
    refine HCA.out.mono ?_
    rintro e w' ⟨rfl, y, rfl⟩
    go_wp2_with fail
    refine (HCB.out y).mono ?_
    rintro e w' ⟨rfl, z, rfl⟩
    have hbz := z.below y.pf y.pf.size
    go_wp2_with ((go_at_call 47; refine (errorIf_c _ _ _).mono ?_; rintro e w' ⟨rfl, rfl⟩))
    refine (firstError3 z.val.heap.size _ _ _ 26 (0, 0) _ (heap_alloc_new _ _)).mono ?_
    rintro e w' ⟨rfl, rfl⟩
    rw [HR.out]
    have hbF := hbz.alloc hbz.size (.cells #[.int .i64 ca, .int .i64 cb, .int .i64 (eIf (decide (400 < (a.length : Int) + b.length)) 8)] 26)
    go_wp2
    go_ret3
    exact AppE.bad HE.out hbF
  rw [h0] at her HR
  rw [her]
  obtain ⟨k1, k2, hgt⟩ := apE_ok her
  have HNA := Lib.hid (chk_nodes k1)
  have HNB := Lib.hid (chk_nodes k2)
  have HN := Lib.hid hN
  have HM := Lib.hid hM
  have HLA := Lib.hid hla
  have HLB := Lib.hid hlb
  have hab : a.length + b.length ≤ 400 := by omega
  clear h0 hA hN hM ht hla hlb hca hcb her
  generalize hca' : (chk ls a).2 = ca at *
  generalize hcb' : (chk ls b).2 = cb at *
  clear hca' hcb'
  subst k1
  obtain rfl : cb = 0 := k2
  have ca : Int := 0
  go_enter Tryd.func27, Tryd.ntmps27
  go_wp2_with fail
  refine HCA.out.mono ?_
  rintro e w' ⟨rfl, y, rfl⟩
  go_wp2_with fail
  refine (HCB.out y).mono ?_
  rintro e w' ⟨rfl, z, rfl⟩
  have hbz := z.below y.pf y.pf.size
  go_wp2_with ((go_at_call 47; refine (errorIf_c _ _ _).mono ?_; rintro e w' ⟨rfl, rfl⟩))
  refine (firstError3 z.val.heap.size _ _ _ 26 (0, 0) _ (heap_alloc_new _ _)).mono ?_
  rintro e w' ⟨rfl, rfl⟩
  rw [HR.out]
  have hbF := hbz.alloc hbz.size (.cells #[.int .i64 0, .int .i64 0, .int .i64 (eIf (decide (400 < (a.length : Int) + b.length)) 8)] 26)
  generalize z.val.alloc (.cells #[.int .i64 0, .int .i64 0, .int .i64 (eIf (decide (400 < (a.length : Int) + b.length)) 8)] 26) = W0 at *
  obtain ⟨i0, hi, hz0, hz1, hz2⟩ := info_parts int_info
  obtain ⟨ni0, nhi, nhz0, nhz1, nhz2⟩ := info_parts node_info
  clear hbz ca
  have HB0 := Lib.hid hbF
  clear hbF
  go_wp2_with fail
  go_loopw [10, 36] (fun v10 v36 wr => ∃ (k : Nat) (xs : List Value), k ≤ a.length ∧ v36 = .int .i64 k ∧ NodesX wr w.heap.size (fun _ => True) v10 (a.take k) xs ∧ Below w.heap.size w wr) (fun _ v36 _ => a.length - (intOf v36).toNat)
  case atStart => exact ⟨0, [], by omega, rfl, NodesX.nil _ _ _, HB0.out⟩
  case round =>
    clear HB0
    obtain ⟨k, xs, hk, rfl, hrow, hb⟩ := hrel
    obtain ⟨A0, c0', hv6, hlN⟩ := liesX hrow
    subst hv6
    by_cases hlt : k < a.length
    · have hkk : (k : Int) < a.length := by omega
      have HX := Lib.hid (List.getElem?_eq_getElem hlt)
      have hal := HLA.out _ (List.getElem_mem hlt)
      have HS := Lib.hid (List.take_succ_eq_append_getElem hlt)
      generalize a[k] = x at *
      obtain ⟨ad, rfl, hbl, c0, c1, c3, B, bc, c2, hB⟩ := HN.out.cells HX.out
      have hbk : ∀ p : Addr, p.block = ad.block → wr.cell? p = w.cell? p := fun p hp => hb.cell (p := p) (by rw [hp]; exact hbl)
      have a0 := (hbk (ad.add (k * 4)) (by rw [addB])).trans c0
      have a1 : wr.cell? ⟨(ad.add (k * 4)).block, (ad.add (k * 4)).off + 1, none⟩ = some (.int .i64 x.wd) := (hbk ((ad.add (k * 4)).add 1) (by rw [addB, addB])).trans c1
      have a2 : wr.cell? ⟨(ad.add (k * 4)).block, (ad.add (k * 4)).off + 2, none⟩ = some (.slice B x.args.length bc) := (hbk ((ad.add (k * 4)).add 2) (by rw [addB, addB])).trans c2
      have a3 : wr.cell? ⟨(ad.add (k * 4)).block, (ad.add (k * 4)).off + 3, none⟩ = some (.int .i64 x.v) := (hbk ((ad.add (k * 4)).add 3) (by rw [addB, addB])).trans c3
      clear c0 c1 c2 c3 hbk
      have HBL := Lib.hid hB
      clear hB
      have HROW := Lib.hid hrow
      clear hrow hlN
      go_upto_region 8 with (fail)
      have hbX := (Below.refl wr.heap.size wr).alloc (Nat.le_refl _) (.cells #[.int .i64 x.op, .int .i64 x.wd, .slice B x.args.length bc, .int .i64 x.v] 65)
      have hrowX := HROW.out.below hbX
      have hbA := hb.alloc hb.size (.cells #[.int .i64 x.op, .int .i64 x.wd, .slice B x.args.length bc, .int .i64 x.v] 65)
      have rn : (wr.alloc (.cells #[.int .i64 x.op, .int .i64 x.wd, .slice B x.args.length bc, .int .i64 x.v] 65)).heap[wr.heap.size]? = some (.cells #[.int .i64 x.op, .int .i64 x.wd, .slice B x.args.length bc, .int .i64 x.v] 65) := heap_alloc_new _ _
      clear hb hbX a0 a1 a2 a3 HROW
      generalize wr.alloc (.cells #[.int .i64 x.op, .int .i64 x.wd, .slice B x.args.length bc, .int .i64 x.v] 65) = W1 at *
      generalize wr.heap.size = q at *
      have n0 := cell_block (i := 0) rn
      have n1 := cell_block (i := 1) rn
      have n2 := cell_block (i := 2) rn
      have n3 := cell_block (i := 3) rn
      simp at n0 n1 n2 n3
      have HCP := Lib.hid (copied_c x.op x.wd x.v B bc x.args hal W1 (HBL.out.below hbA))
      have HROWX := Lib.hid hrowX
      clear hrowX
      go_wp2_with fail
      refine HCP.out.mono ?_
      rintro e W4 ⟨A2, cap2, rfl, _, hl2, hf2, hb4⟩
      have hrow4 := HROWX.out.below hb4
      have hb5 := hbA.trans (hb4.mono hbA.size)
      have hbs5 := hb5.size
      have hll : (a.take k).length ≤ 65536 := by simp; omega
      have HL2 := Lib.hid hl2
      have HF2 : Hid (∀ ad, A2 = some ad → True ∧ ad.block < W4.heap.size ∧ ∀ cur fz, W4.heap[ad.block]? ≠ some (.cells cur 65 fz)) := Lib.hid (fun ad h => by
        obtain ⟨h1, cur, h2⟩ := hf2 ad h
        refine ⟨trivial, lt_of_get h2, fun c z h3 => ?_⟩
        rw [h2] at h3; simp at h3)
      clear hl2 hf2 n0 n1 n2 n3 rn
      generalize a.take k = cs at *
      go_wp2_with (at_builtin; refine wpList_append_own _ rfl _ _ 23 rfl w.heap.size 65 ni0 (.agg #[.int .i64 0, .int .i64 0, .slice none 0 0, .int .i64 0]) 4 48 Tryd.underlying23 nhi nhz0 nhz1 nhz2 rfl (by decide) _ _ _ rfl (hrow4.1.alloc _) ⟨_, 0, none⟩ 1 1 [.int .i64 x.op, .int .i64 x.wd, .slice A2 x.args.length cap2, .int .i64 x.v] rfl rfl four_new (fun x hx => by simp at hx; rcases hx with rfl | rfl | rfl | rfl <;> rfl) (by unfold maxLen; omega) (by omega) (by first | omega | (simp; omega) | (simp at *; omega)) ?_; intro v' w3 hown' hgrow3 hnn)
      have HR5 := Lib.hid (NodesX.snoc (n := x) (cap := cap2) hrow4 ((Below.refl _ _).alloc (Nat.le_refl _) _) (by simpa using hown') hgrow3 HL2.out HF2.out)
      have HB5 := Lib.hid ((hb5.alloc hb5.size (.cells #[.int .i64 x.op, .int .i64 x.wd, .slice A2 x.args.length cap2, .int .i64 x.v] 65)).grown hgrow3 (by simp; have := hb5.size; omega) (fun q hq => (hrow4.1.lt q hq).1))
      clear hown' hgrow3 hrow4 hb4 hb5
      go_wp2
      go_roundw
      case rel => exact ⟨k + 1, _, by omega, by go_num, by rw [HS.out]; exact HR5.out, HB5.out⟩
      case measure => simp [intOf]; omega
    · obtain rfl : k = a.length := by omega
      rw [List.take_length] at hrow
      have HROW := Lib.hid hrow
      have HB5 := Lib.hid hb
      clear hrow hb hlN
      generalize wr = W5 at *
      go_wp2_with (refine wpList_make_full _ rfl _ _ 22 rfl W5.heap.size 3 i0 _ 1 Tryd.underlying22 hi hz0 hz1 .i64 .i64 _ _ b.length rfl rfl rfl rfl (by rw [hz2]; omega) (by unfold maxLen; omega) (Nat.le_refl _) ?_; intro W1 hown hgr; have hb2 := (Below.refl W5.heap.size W5).grown hgr (Nat.le_refl _) (fun q hq => by cases hq); have rg : W1.heap[W5.heap.size]? = some (.cells (rowA (List.replicate b.length 0)) 3) := (by have := row_block hown rfl; rwa [row_made] at this); clear hown hgr)
      have lg := lt_of_get rg
      have rP : (W1.alloc (.cells #[.slice (some ⟨W5.heap.size, 0, none⟩) b.length b.length] 22)).heap[W1.heap.size]? = some (.cells #[.slice (some ⟨W5.heap.size, 0, none⟩) b.length b.length] 22) := heap_alloc_new _ _
      have rg1 := heap_alloc' (o := .cells #[.slice (some ⟨W5.heap.size, 0, none⟩) b.length b.length] 22) lg rg
      have hb3 := hb2.alloc hb2.size (.cells #[.slice (some ⟨W5.heap.size, 0, none⟩) b.length b.length] 22)
      have hPg : W5.heap.size < W1.heap.size := lg
      have HROW3 := Lib.hid ((HROW.out.mono (X' := fun q => q ≠ W5.heap.size) (fun q hq _ => Nat.ne_of_lt hq)).below hb3)
      have HB3 := Lib.hid (HB5.out.trans (hb3.mono HB5.out.size))
      have hwp := HB5.out.size
      generalize W1.alloc (.cells #[.slice (some ⟨W5.heap.size, 0, none⟩) b.length b.length] 22) = W2 at *
      generalize W1.heap.size = P at *
      generalize W5.heap.size = p1 at *
      clear rg hb2 lg hb3 HROW HB5
      have HRG := Lib.hid rg1
      have HRP := Lib.hid rP
      clear rg1 rP
      go_wp2_with fail
      go_loopw [10, 51] (fun v10 v51 wr => ∃ (k : Nat) (xs : List Value), k ≤ b.length ∧ v51 = .int .i64 k ∧ NodesX wr w.heap.size (fun q => q ≠ p1) v10 (apN a (b.take k)) xs ∧ wr.heap[p1]? = some (.cells (rowA (plL a.length k ++ List.replicate (b.length - k) 0)) 3) ∧ wr.heap[P]? = some (.cells #[.slice (some ⟨p1, 0, none⟩) b.length b.length] 22) ∧ w.heap.size ≤ p1 ∧ Below w.heap.size w wr) (fun _ v51 _ => b.length - (intOf v51).toNat)
      case atStart => exact ⟨0, _, by omega, rfl, by rw [List.take_zero, apN_nil]; exact HROW3.out, HRG.out, HRP.out, hwp, HB3.out⟩
      case round =>
        clear HRG HRP HROW3 HB3
        obtain ⟨k, xs, hk, rfl, hrow, rg, rP, hwp, hb⟩ := hrel
        obtain ⟨A0, c0', hv6, hlN⟩ := liesX hrow
        subst hv6
        by_cases hlt : k < b.length
        · have hkk : (k : Int) < b.length := by omega
          have HX := Lib.hid (List.getElem?_eq_getElem hlt)
          have hal := HLB.out _ (List.getElem_mem hlt)
          have HAI := Lib.hid (HNB.out k _ (List.getElem?_eq_getElem hlt)).ai
          generalize b[k] = x at *
          have HS := Lib.hid (apN_snoc a HX.out)
          obtain ⟨ad, rfl, hbl, c0, c1, c3, B, bc, c2, hB⟩ := HM.out.cells HX.out
          have hbk : ∀ p : Addr, p.block = ad.block → wr.cell? p = w.cell? p := fun p hp => hb.cell (p := p) (by rw [hp]; exact hbl)
          have a0 := (hbk (ad.add (k * 4)) (by rw [addB])).trans c0
          have a1 : wr.cell? ⟨(ad.add (k * 4)).block, (ad.add (k * 4)).off + 1, none⟩ = some (.int .i64 x.wd) := (hbk ((ad.add (k * 4)).add 1) (by rw [addB, addB])).trans c1
          have a2 : wr.cell? ⟨(ad.add (k * 4)).block, (ad.add (k * 4)).off + 2, none⟩ = some (.slice B x.args.length bc) := (hbk ((ad.add (k * 4)).add 2) (by rw [addB, addB])).trans c2
          have a3 : wr.cell? ⟨(ad.add (k * 4)).block, (ad.add (k * 4)).off + 3, none⟩ = some (.int .i64 x.v) := (hbk ((ad.add (k * 4)).add 3) (by rw [addB, addB])).trans c3
          clear c0 c1 c2 c3 hbk
          have HBL := Lib.hid hB
          clear hB
          have HROW := Lib.hid hrow
          clear hrow hlN
          go_upto_region 14 with (fail)
          have hbX := (Below.refl wr.heap.size wr).alloc (Nat.le_refl _) (.cells #[.int .i64 x.op, .int .i64 x.wd, .slice B x.args.length bc, .int .i64 x.v] 65)
          have hrowX := HROW.out.below hbX
          have hbA := hb.alloc hb.size (.cells #[.int .i64 x.op, .int .i64 x.wd, .slice B x.args.length bc, .int .i64 x.v] 65)
          have rn : (wr.alloc (.cells #[.int .i64 x.op, .int .i64 x.wd, .slice B x.args.length bc, .int .i64 x.v] 65)).heap[wr.heap.size]? = some (.cells #[.int .i64 x.op, .int .i64 x.wd, .slice B x.args.length bc, .int .i64 x.v] 65) := heap_alloc_new _ _
          have rgX := (hbX.block _ (lt_of_get rg)).trans rg
          have rPX := (hbX.block _ (lt_of_get rP)).trans rP
          have hpq : p1 < wr.heap.size := lt_of_get rg
          clear hb hbX a0 a1 a2 a3 HROW rg rP
          generalize wr.alloc (.cells #[.int .i64 x.op, .int .i64 x.wd, .slice B x.args.length bc, .int .i64 x.v] 65) = W1' at *
          generalize wr.heap.size = q at *
          have qP := cell_block (i := 0) rPX
          simp at qP
          have HPL := Lib.hid (plL_len (a.length : Int) k)
          have qk := (cell_block (i := k) rgX).trans (rowA_in (row_here HPL.out hlt))
          have fk := free_block (i := k) rgX
          have HROWX := Lib.hid hrowX
          clear hrowX
          go_upto_region 15 with (fail)
          have rgS : (W1'.setCell ⟨p1, k, none⟩ (.int .i64 ((a.length : Int) + k))).heap[p1]? = some (.cells (rowA (plL a.length (k + 1) ++ List.replicate (b.length - (k + 1)) 0)) 3) := by
            rw [heap_set rgX, rowA_set, row_next HPL.out hlt, plL_succ]
          have hTI : ∀ c z, W1'.heap[p1]? ≠ some (.cells c 65 z) := fun c z h => by rw [rgX] at h; simp at h
          have hrowS := HROWX.out.setCell (m := p1) (j := k) (u := .int .i64 ((a.length : Int) + k)) (fun q hq => hq) hTI
          have hPp : P ≠ p1 := fun e => by rw [e, rgX] at rPX; simp at rPX
          have rPS : (W1'.setCell ⟨p1, k, none⟩ (.int .i64 ((a.length : Int) + k))).heap[P]? = some (.cells #[.slice (some ⟨p1, 0, none⟩) b.length b.length] 22) := (heap_setCell_ne (fun e => hPp e.symm)).trans rPX
          have rnS : (W1'.setCell ⟨p1, k, none⟩ (.int .i64 ((a.length : Int) + k))).heap[q]? = some (.cells #[.int .i64 x.op, .int .i64 x.wd, .slice B x.args.length bc, .int .i64 x.v] 65) := (heap_setCell_ne (by omega)).trans rn
          have hbS : Below w.heap.size w (W1'.setCell ⟨p1, k, none⟩ (.int .i64 ((a.length : Int) + k))) := hbA.setCell (p := ⟨p1, k, none⟩) hwp _
          have HROWS := Lib.hid hrowS
          clear hrowS HROWX rgX rPX rn hbA qP qk fk hTI
          generalize W1'.setCell ⟨p1, k, none⟩ (.int .i64 ((a.length : Int) + k)) = S1 at *
          have n0 := cell_block (i := 0) rnS
          have n1 := cell_block (i := 1) rnS
          have n2 := cell_block (i := 2) rnS
          have n3 := cell_block (i := 3) rnS
          have qP := cell_block (i := 0) rPS
          simp at n0 n1 n2 n3 qP
          have lP := lt_of_get rPS
          have lg := lt_of_get rgS
          have HWA := Lib.hid (withArgs_app P (fun y => (a.length : Int) + y) x.op x.wd x.v B bc x.args hal S1 (HBL.out.below hbS) (fun y hy W hbW => by
            obtain ⟨i, hi, rfl⟩ := List.mem_iff_getElem.1 hy
            obtain ⟨h0, h1⟩ := HAI.out i _ (List.getElem?_eq_getElem hi)
            generalize x.args[i] = y at *
            obtain ⟨j, rfl⟩ := Int.eq_ofNat_of_zero_le h0
            have hj : j < k + 1 := by omega
            refine Appended1_c j b.length b.length _ P ⟨p1, 0, none⟩ (by omega) hbl0 W ?_ ?_
            · rw [hbW.cell (p := ⟨P, 0, none⟩) lP]; exact qP
            · rw [Addr.add_lit, Nat.zero_add]
              refine (cell_block ((hbW.block p1 lg).trans rgS)).trans (rowA_in ?_)
              rw [List.getElem?_append_left (by rw [plL_len]; exact hj)]
              exact plL_at hj))
          go_wp2_with fail
          refine HWA.out.mono ?_
          rintro e W4 ⟨A2, cap2, rfl, _, hl2, hf2, hb4⟩
          rw [List.length_map]
          have hrow4 := HROWS.out.below hb4
          have rg4 := (hb4.block _ lg).trans rgS
          have rP4 := (hb4.block _ lP).trans rPS
          have hb5 := hbS.trans (hb4.mono hbS.size)
          have hbs5 := hb5.size
          have hll : (apN a (b.take k)).length ≤ 65536 := by rw [apN_len]; simp; omega
          have HL2 := Lib.hid hl2
          have HF2 : Hid (∀ ad, A2 = some ad → ad.block ≠ p1 ∧ ad.block < W4.heap.size ∧ ∀ cur fz, W4.heap[ad.block]? ≠ some (.cells cur 65 fz)) := Lib.hid (fun ad h => by
            obtain ⟨h1, cur, h2⟩ := hf2 ad h
            refine ⟨by omega, lt_of_get h2, fun c z h3 => ?_⟩
            rw [h2] at h3; simp at h3)
          clear hl2 hf2 n0 n1 n2 n3 rnS qP rgS rPS
          generalize apN a (b.take k) = cs at *
          go_wp2_with (at_builtin; refine wpList_append_own _ rfl _ _ 23 rfl w.heap.size 65 ni0 (.agg #[.int .i64 0, .int .i64 0, .slice none 0 0, .int .i64 0]) 4 48 Tryd.underlying23 nhi nhz0 nhz1 nhz2 rfl (by decide) _ _ _ rfl (hrow4.1.alloc _) ⟨_, 0, none⟩ 1 1 [.int .i64 x.op, .int .i64 x.wd, .slice A2 x.args.length cap2, .int .i64 x.v] rfl rfl four_new (fun x hx => by simp at hx; rcases hx with rfl | rfl | rfl | rfl <;> rfl) (by unfold maxLen; omega) (by omega) (by first | omega | (simp; omega) | (simp at *; omega)) ?_; intro v' w3 hown' hgrow3 hnn)
          have hal4 := (Below.refl W4.heap.size W4).alloc (Nat.le_refl _) (.cells #[.int .i64 x.op, .int .i64 x.wd, .slice A2 x.args.length cap2, .int .i64 x.v] 65)
          have hno := own_below hrow4.1 hal4
          have ra4 := (hal4.block _ (lt_of_get rg4)).trans rg4
          have rb4 := (hal4.block _ (lt_of_get rP4)).trans rP4
          have HR5 := Lib.hid (NodesX.snoc (n := mvN a.length x) (cap := cap2) hrow4 hal4 (by simpa [mvN] using hown') hgrow3 HL2.out HF2.out)
          have HG5 := Lib.hid ((hgrow3.block p1 (lt_of_get ra4) (fun e => own_not hno (e' := 3) (by decide) p1 e.symm _ _ ra4)).trans ra4)
          have HP5 := Lib.hid ((hgrow3.block P (lt_of_get rb4) (fun e => own_not hno (e' := 22) (by decide) P e.symm _ _ rb4)).trans rb4)
          have HB5 := Lib.hid ((hb5.alloc hb5.size (.cells #[.int .i64 x.op, .int .i64 x.wd, .slice A2 x.args.length cap2, .int .i64 x.v] 65)).grown hgrow3 (by simp; have := hb5.size; omega) (fun q hq => (hrow4.1.lt q hq).1))
          clear hown' hgrow3 hrow4 hb4 hb5 hal4 hno ra4 rb4 rg4 rP4
          go_wp2
          go_roundw
          case rel => exact ⟨k + 1, _, by omega, by go_num, by rw [HS.out]; exact HR5.out, HG5.out, HP5.out, hwp, HB5.out⟩
          case measure => simp [intOf]; omega
        · obtain rfl : k = b.length := by omega
          rw [List.take_length] at hlN
          rw [Nat.sub_self, List.replicate_zero, List.append_nil] at rg
          have HAB := Lib.hid (show (apN a (b.take b.length)).length = (apN a b).length by rw [List.take_length])
          rw [HAB.out]
          have qP : ∀ z : Aft wr, z.val.cell? ⟨P, 0, none⟩ = some (.slice (some ⟨p1, 0, none⟩) b.length b.length) := fun z => by
            have := cell_block (i := 0) (heap_aft z (lt_of_get rP) rP)
            simpa using this
          have HF := Lib.hid (fun (z : Aft wr) => (show AppE w 0 (apN a b) (plL a.length b.length) (.returned (.tuple #[.slice A0 (apN a b).length c0', .slice (some ⟨p1, 0, none⟩) b.length b.length, .int .i64 0])) z.val from
            ⟨.inr ⟨rfl, A0, c0', _, b.length, by rw [plL_len], hlN.aft z, LiesI.block (T := 3) (heap_aft z (lt_of_get rg) rg)⟩, z.below hb hb.size⟩))
          clear hrow hlN rg rP hb
          go_wp2_with fail
          refine wp_region_aft (by kernel_rfl) (by kernel_rfl) ?_
          repeat (go_big_quiet_step (fail))
          refine wpQuiet_nil ?_
          intro z'
          go_wp2
          go_ret3
          exact HF.out z'

end Go.Proofs.YtkdonapgonegkaaDoor
