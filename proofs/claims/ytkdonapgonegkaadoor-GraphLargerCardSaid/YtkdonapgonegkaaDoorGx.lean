/-
  Chapter 2 (graph): the values of all nodes, as a plain function; rows of numbers; the arguments of a node.
-/
import Derived.Test.YtkdonapgonegkaaDoorGw
import Derived.Test.YtkdonapgonegkaaDoorGi
import Derived.Laws.OwnMore
set_option linter.unusedSimpArgs false
set_option linter.unusedVariables false
namespace Go.Proofs.YtkdonapgonegkaaDoor
open Go.RowKit Go.BigFrame

/-- A row of numbers. -/
def rowA (xs : List Int) : Array Value := (xs.map (Value.int .i64)).toArray
theorem rowA_at (xs : List Int) (k : Nat) : (rowA xs)[k]? = (xs[k]?).map (Value.int .i64) := by simp [rowA]
theorem rowA_in {xs : List Int} {k : Nat} {x : Int} (h : xs[k]? = some x) : (rowA xs)[k]? = some (.int .i64 x) := by rw [rowA_at, h]; rfl
theorem rowA_set (xs : List Int) (k : Nat) (x : Int) : (rowA xs).setIfInBounds k (.int .i64 x) = rowA (xs.set k x) := by
  simp [rowA, List.setIfInBounds_toArray, List.map_set]
theorem row_block {w : World} {base g n m : Nat} {e : TypeId} {xs : List Value} (h : w.ownsRow base e 1 (.slice (some ⟨g, 0, none⟩) n m) n xs) (hm : m = n) : w.heap[g]? = some (.cells xs.toArray e) := by
  obtain ⟨h1, h2⟩ := h
  rcases h2 with ⟨h2, _⟩ | ⟨g', cap, cur, h2, _, h4, _, _, h7, h8⟩
  · cases h2
  · simp only [Value.slice.injEq, Option.some.injEq, Addr.mk.injEq] at h2
    obtain ⟨⟨rfl, -⟩, -, rfl⟩ := h2
    rw [h4]
    have : cur.toList = xs := by rw [← h8, List.take_of_length_le (by simp; omega)]
    rw [← this]
theorem row_made (n : Nat) : ((madeCells (Value.int .i64 0).cells (n * 1)).toList).toArray = rowA (List.replicate n 0) := by
  rw [show (Value.int .i64 0).cells = #[Value.int .i64 0] from rfl, Nat.mul_one, toList_madeCells_one]
  simp [rowA]

/-- The value of an argument. -/
def vAt (vs args : List Int) (i : Nat) : Int := match args[i]? with | none => 0 | some a => vs.getD a.toNat 0
theorem vAt_in {vs args : List Int} {k i : Nat} {x : Int} (ha : args[i]? = some (k : Int)) (hx : vs[k]? = some x) : vAt vs args i = x := by
  unfold vAt; rw [ha]; simp [List.getD, hx]
theorem vAt_out {vs args : List Int} {i : Nat} (ha : args.length ≤ i) : vAt vs args i = 0 := by
  unfold vAt; rw [List.getElem?_eq_none ha]
/-- The value of a node, by those of the nodes before it. -/
def valN (ns : List Nd) (ls vs : List Int) (n : Nd) : Int :=
  if n.op = 1 then ls.getD n.v.toNat 0 else resG n.op n.wd n.v (wAt ns n.args 0) (vAt vs n.args 0) (wAt ns n.args 1) (vAt vs n.args 1) (vAt vs n.args 2)
/-- The values of the first nodes. -/
def valsK (ns : List Nd) (ls : List Int) : Nat → List Int
  | 0 => []
  | k + 1 => valsK ns ls k ++ (match ns[k]? with | none => [] | some n => [valN ns ls (valsK ns ls k) n])
def valsL (ns : List Nd) (ls : List Int) : List Int := valsK ns ls ns.length
theorem valsK_step {ns : List Nd} {ls : List Int} {k : Nat} {n : Nd} (h : ns[k]? = some n) : valsK ns ls (k + 1) = valsK ns ls k ++ [valN ns ls (valsK ns ls k) n] := by
  simp only [valsK, h]
theorem valsK_len {ns : List Nd} {ls : List Int} : ∀ {k : Nat}, k ≤ ns.length → (valsK ns ls k).length = k := by
  intro k
  induction k with
  | zero => intro _; rfl
  | succ k ih =>
    intro h
    rw [valsK_step (List.getElem?_eq_getElem (by omega)), List.length_append, ih (by omega)]; rfl
theorem valsL_len (ns : List Nd) (ls : List Int) : (valsL ns ls).length = ns.length := valsK_len (Nat.le_refl _)
/-- What is known of a node without an error. -/
structure NodeOK (ns : List Nd) (L : Nat) (k : Nat) (n : Nd) : Prop where
  o0 : 0 ≤ n.op
  o1 : n.op ≤ 18
  w1 : 1 ≤ n.wd
  w2 : n.wd ≤ 16
  al : n.args.length ≤ 3
  ai : ∀ (i : Nat) (a : Int), n.args[i]? = some a → 0 ≤ a ∧ a < k
  a11 : n.op = 11 → n.args.length = 2
  a16 : n.op = 16 → n.args.length = 1
  lf : n.op = 1 → 0 ≤ n.v ∧ n.v < L
  sl : n.op = 14 → 0 ≤ n.v ∧ n.v ≤ 16
theorem NodeOK.arg {ns : List Nd} {L k : Nat} {n : Nd} (h : NodeOK ns L k n) (hk : k < ns.length) {i : Nat} (hi : i < n.args.length) : ∃ (j : Nat) (m : Nd), n.args[i]? = some (j : Int) ∧ j < k ∧ ns[j]? = some m := by
  have h1 := List.getElem?_eq_getElem hi
  obtain ⟨a0, a1⟩ := h.ai i _ h1
  obtain ⟨j, hj⟩ := Int.eq_ofNat_of_zero_le a0
  rw [hj] at h1 a1
  exact ⟨j, _, h1, by omega, List.getElem?_eq_getElem (by omega)⟩
theorem wAt_ok {ns : List Nd} {L k : Nat} {n : Nd} (hall : ∀ k n, ns[k]? = some n → NodeOK ns L k n) (hn : ns[k]? = some n) (i : Nat) : 0 ≤ wAt ns n.args i ∧ wAt ns n.args i ≤ 16 ∧ (i < n.args.length → 1 ≤ wAt ns n.args i) := by
  by_cases hi : i < n.args.length
  · obtain ⟨j, m, h1, _, h3⟩ := (hall k n hn).arg (List.getElem?_eq_some_iff.1 hn).1 hi
    rw [wAt_in h1 h3]
    have := (hall j m h3).w1; have := (hall j m h3).w2
    omega
  · rw [wAt_out (by omega)]; omega
theorem valsK_bd {ns : List Nd} {ls : List Int} (hls : ∀ x ∈ ls, 0 ≤ x ∧ x ≤ 65536) (hw : ∀ n ∈ ns, 1 ≤ n.wd ∧ n.wd ≤ 16) : ∀ (k : Nat) x, x ∈ valsK ns ls k → 0 ≤ x ∧ x ≤ 65536 := by
  intro k
  induction k with
  | zero => intro x hx; simp [valsK] at hx
  | succ k ih =>
    intro x hx
    simp only [valsK, List.mem_append] at hx
    rcases hx with hx | hx
    · exact ih x hx
    · cases hn : ns[k]? with
      | none => rw [hn] at hx; simp at hx
      | some n =>
        rw [hn] at hx
        have hx := List.mem_singleton.1 hx
        subst hx
        have hwn := hw n (List.mem_of_getElem? hn)
        unfold valN
        split
        · by_cases hv : n.v.toNat < ls.length
          · simp only [List.getD, List.getElem?_eq_getElem hv, Option.getD_some]
            exact hls _ (List.getElem_mem hv)
          · simp only [List.getD, List.getElem?_eq_none (Nat.le_of_not_lt (by assumption)), Option.getD_none]; omega
        · have hp := pw_bd (n := n.wd) (by omega) hwn.2
          have := resG_bd (op := n.op) (wd := n.wd) (v := n.v) (aw := wAt ns n.args 0) (av := vAt (valsK ns ls k) n.args 0) (bw := wAt ns n.args 1) (bv := vAt (valsK ns ls k) n.args 1) (cv := vAt (valsK ns ls k) n.args 2)
          omega
theorem vAt_bd {vs args : List Int} (hv : ∀ x ∈ vs, 0 ≤ x ∧ x ≤ 65536) (i : Nat) : 0 ≤ vAt vs args i ∧ vAt vs args i ≤ 65536 := by
  unfold vAt
  split
  · omega
  · rename_i a h
    by_cases ha : a.toNat < vs.length
    · simp only [List.getD, List.getElem?_eq_getElem ha, Option.getD_some]; exact hv _ (List.getElem_mem ha)
    · simp only [List.getD, List.getElem?_eq_none (Nat.le_of_not_lt (by assumption)), Option.getD_none]; omega
theorem fit3 {ns : List Nd} {L k : Nat} {n : Nd} {vs : List Int} (hall : ∀ k n, ns[k]? = some n → NodeOK ns L k n) (hn : ns[k]? = some n) (hv : ∀ x ∈ vs, 0 ≤ x ∧ x ≤ 65536) :
    Fit3 n.op n.wd n.v (wAt ns n.args 0) (vAt vs n.args 0) (wAt ns n.args 1) (vAt vs n.args 1) := by
  have h := hall k n hn
  have w0 := wAt_ok hall hn 0
  have w1 := wAt_ok hall hn 1
  refine ⟨h.o0, h.o1, h.w1, h.w2, (vAt_bd hv 0).1, (vAt_bd hv 0).2, (vAt_bd hv 1).1, (vAt_bd hv 1).2, ?_, w0.2.1, w1.1, ?_, w1.2.1, h.sl⟩
  · rintro (e | e)
    · exact w0.2.2 (by rw [h.a11 e]; decide)
    · exact w0.2.2 (by rw [h.a16 e]; decide)
  · intro e
    exact w1.2.2 (by rw [h.a11 e]; decide)

theorem bargs_c (n : Nd) (k L : Nat) (B : Option Addr) (bc : Nat) (P Q gv vl vc : Nat) (A : Option Addr) (cap : Nat) (ns : List Nd) (vs : List Int) (hl : ns.length ≤ 65536) (hvl : vl ≤ 65536) (w : World) (lP : P < w.heap.size) (lQ : Q < w.heap.size) (lg : gv < w.heap.size)
    (hall : ∀ k n, ns[k]? = some n → NodeOK ns L k n) (hn : ns[k]? = some n) (hk : k ≤ vl) (hvs : ∀ j, j < k → ∃ x, vs[j]? = some x ∧ w.cell? ⟨gv, j, none⟩ = some (.int .i64 x))
    (c0 : w.cell? ⟨P, 0, none⟩ = some (.slice A ns.length cap)) (c1 : w.cell? ⟨Q, 0, none⟩ = some (.slice (some ⟨gv, 0, none⟩) vl vc)) (h : LiesN w A ns) (hB : LiesI w B n.args) :
    Calls Tryd.prog 87 #[.agg #[.int .i64 n.op, .int .i64 n.wd, .slice B n.args.length bc, .int .i64 n.v], .func (.func 88) #[] #[.pointer (some ⟨P, 0, none⟩), .pointer (some ⟨Q, 0, none⟩)]] w fun e w' => e = .returned (.agg #[.int .i64 (wAt ns n.args 0), .int .i64 (vAt vs n.args 0), .int .i64 (wAt ns n.args 1), .int .i64 (vAt vs n.args 1), .int .i64 (wAt ns n.args 2), .int .i64 (vAt vs n.args 2)]) ∧ ∃ x : Aft w, w' = x.val := by
  have ok := hall k n hn
  have hkn := (List.getElem?_eq_some_iff.1 hn).1
  have al := ok.al
  have harg : ∀ i, i < n.args.length → ∃ (j : Nat) (m : Nd) (x : Int), n.args[i]? = some (j : Int) ∧ ns[j]? = some m ∧ j < vl ∧ vs[j]? = some x ∧ w.cell? ⟨gv, j, none⟩ = some (.int .i64 x) := by
    intro i hi
    obtain ⟨j, m, h1, h2, h3⟩ := ok.arg hkn hi
    obtain ⟨x, h4, h5⟩ := hvs j h2
    exact ⟨j, m, x, h1, h3, by omega, h4, h5⟩
  clear hvs ok
  obtain ⟨op, wd, args, v⟩ := n
  simp only at *
  match args, al with
  | [], _ =>
    rw [wAt_out (i := 0) (by simp), wAt_out (i := 1) (by simp), wAt_out (i := 2) (by simp), vAt_out (i := 0) (by simp), vAt_out (i := 1) (by simp), vAt_out (i := 2) (by simp)]
    exact bargs0 op wd v B bc P Q gv vl vc A cap ns hl hvl w lP lQ lg c0 c1 h hB
  | [a0], _ =>
    obtain ⟨j0, m0, x0, p0, q0, r0, s0, t0⟩ := harg 0 (by simp)
    rw [wAt_in p0 q0, vAt_in p0 s0]
    obtain rfl : a0 = (j0 : Int) := by simpa using p0
    rw [wAt_out (i := 1) (by simp), vAt_out (i := 1) (by simp), wAt_out (i := 2) (by simp), vAt_out (i := 2) (by simp)]
    exact bargs1 op wd v B bc P Q gv vl vc A cap ns hl hvl w lP lQ lg j0 m0 x0 q0 r0 t0 c0 c1 h hB
  | [a0, a1], _ =>
    obtain ⟨j0, m0, x0, p0, q0, r0, s0, t0⟩ := harg 0 (by simp)
    rw [wAt_in p0 q0, vAt_in p0 s0]
    obtain rfl : a0 = (j0 : Int) := by simpa using p0
    obtain ⟨j1, m1, x1, p1, q1, r1, s1, t1⟩ := harg 1 (by simp)
    rw [wAt_in p1 q1, vAt_in p1 s1]
    obtain rfl : a1 = (j1 : Int) := by simpa using p1
    rw [wAt_out (i := 2) (by simp), vAt_out (i := 2) (by simp)]
    exact bargs2 op wd v B bc P Q gv vl vc A cap ns hl hvl w lP lQ lg j0 m0 x0 q0 r0 t0 j1 m1 x1 q1 r1 t1 c0 c1 h hB
  | [a0, a1, a2], _ =>
    obtain ⟨j0, m0, x0, p0, q0, r0, s0, t0⟩ := harg 0 (by simp)
    rw [wAt_in p0 q0, vAt_in p0 s0]
    obtain rfl : a0 = (j0 : Int) := by simpa using p0
    obtain ⟨j1, m1, x1, p1, q1, r1, s1, t1⟩ := harg 1 (by simp)
    rw [wAt_in p1 q1, vAt_in p1 s1]
    obtain rfl : a1 = (j1 : Int) := by simpa using p1
    obtain ⟨j2, m2, x2, p2, q2, r2, s2, t2⟩ := harg 2 (by simp)
    rw [wAt_in p2 q2, vAt_in p2 s2]
    obtain rfl : a2 = (j2 : Int) := by simpa using p2
    exact bargs3 op wd v B bc P Q gv vl vc A cap ns hl hvl w lP lQ lg j0 m0 x0 q0 r0 t0 j1 m1 x1 q1 r1 t1 j2 m2 x2 q2 r2 t2 c0 c1 h hB

end Go.Proofs.YtkdonapgonegkaaDoor
