/-
  Contracts of chapter 2 (graph): CheckNodes.
-/
import Derived.Test.YtkdonapgonegkaaDoorGf
set_option linter.unusedSimpArgs false
set_option linter.unusedVariables false
namespace Go.Proofs.YtkdonapgonegkaaDoor
open Go.RowKit Go.BigFrame

theorem idx_nat {before : List Nd} {i : Int} (h : isIx i before.length = true) : ∃ (k : Nat) (n : Nd), i = (k : Int) ∧ before[k]? = some n := by
  obtain ⟨h0, h1⟩ := isIx_iff.1 h
  obtain ⟨k, rfl⟩ := Int.eq_ofNat_of_zero_le h0
  exact ⟨k, _, rfl, List.getElem?_eq_getElem (by omega)⟩
theorem errorOfNode_c (A : Option Addr) (cap : Nat) (ls : List Int) (hls : ls.length ≤ 65536) (N : Option Addr) (capN : Nat) (before : List Nd) (hbe : before.length ≤ 65536) (nd : Nd) (hla : nd.args.length ≤ 65536) (B : Option Addr) (bc : Nat) (w : World) (hA : LiesI w A ls) (hN : LiesN w N before) (hB : LiesI w B nd.args) (ht : TabOps w) (hv : ∀ n ∈ before, isW n.wd = true) :
    Calls Tryd.prog 51 #[.slice A ls.length cap, .slice N before.length capN, .agg #[.int .i64 nd.op, .int .i64 nd.wd, .slice B nd.args.length bc, .int .i64 nd.v]] w fun e w' => e = .returned (.int .i64 (nodeE ls before nd)) ∧ ∃ x : Aft w, w' = x.val := by
  cases h : isIx nd.op 19
  · exact errorOfNode_15 A cap ls hls N capN before hbe nd hla B bc w hA hN hB ht h
  cases h2 : isW nd.wd
  · exact errorOfNode_2 A cap ls hls N capN before hbe nd hla B bc w hA hN hB ht h h2
  by_cases h3 : node3 ls before nd = 0
  · obtain ⟨op, wd, args, v⟩ := nd
    simp only at *
    obtain ⟨o, rfl⟩ := Int.eq_ofNat_of_zero_le (isIx_iff.1 h).1
    obtain ⟨z1, z2, _⟩ := node3_zero h3
    simp only at z1 z2
    have h4 := argN_le (o : Int)
    match args, hB, h3, z1, z2 with
    | [], hB, h3, _, _ => exact errorOfNode_ok0 A cap ls hls N capN before hbe o wd v B bc w hA hN hB ht hv h h2 h3
    | [a], hB, h3, _, z2 =>
      obtain ⟨k0, n0, rfl, g0⟩ := idx_nat (z2 a (by simp))
      exact errorOfNode_ok1 A cap ls hls N capN before hbe o wd v k0 n0 g0 B bc w hA hN hB ht hv h h2 h3
    | [a, b], hB, h3, _, z2 =>
      obtain ⟨k0, n0, rfl, g0⟩ := idx_nat (z2 a (by simp))
      obtain ⟨k1, n1, rfl, g1⟩ := idx_nat (z2 b (by simp))
      exact errorOfNode_ok2 A cap ls hls N capN before hbe o wd v k0 n0 g0 k1 n1 g1 B bc w hA hN hB ht hv h h2 h3
    | [a, b, c], hB, h3, _, z2 =>
      obtain ⟨k0, n0, rfl, g0⟩ := idx_nat (z2 a (by simp))
      obtain ⟨k1, n1, rfl, g1⟩ := idx_nat (z2 b (by simp))
      obtain ⟨k2, n2, rfl, g2⟩ := idx_nat (z2 c (by simp))
      exact errorOfNode_ok3 A cap ls hls N capN before hbe o wd v k0 n0 g0 k1 n1 g1 k2 n2 g2 B bc w hA hN hB ht hv h h2 h3
    | a :: b :: c :: d :: r, _, _, z1, _ => exfalso; simp at z1; omega
  · exact errorOfNode_3 A cap ls hls N capN before hbe nd hla B bc w hA hN hB ht h h2 h3

set_option maxRecDepth 100000 in
set_option maxHeartbeats 1600000 in
theorem LiesN.take {w : World} {A : Option Addr} {ns : List Nd} (h : LiesN w A ns) (k : Nat) : LiesN w A (ns.take k) := fun hp => by
  obtain ⟨ad, rfl, hb, hc⟩ := h (by simp at hp; omega)
  refine ⟨ad, rfl, hb, fun i n hi => hc i n ?_⟩
  rw [List.getElem?_take] at hi
  split at hi
  · exact hi
  · cases hi
theorem CheckNodes2_c (k : Nat) (P Q : Nat) (A : Option Addr) (cap : Nat) (ls : List Int) (hls : ls.length ≤ 65536) (N : Option Addr) (capN : Nat) (ns : List Nd) (hns : ns.length ≤ 65536) (hk : k < ns.length) (hcap : ns.length ≤ capN) (nd : Nd) (hla : nd.args.length ≤ 65536) (B : Option Addr) (bc : Nat) (w : World)
    (c0 : w.cell? ⟨P, 0, none⟩ = some (.slice A ls.length cap)) (c1 : w.cell? ⟨Q, 0, none⟩ = some (.slice N ns.length capN)) (l0 : P < w.heap.size) (l1 : Q < w.heap.size) (hA : LiesI w A ls) (hN : LiesN w N ns) (hB : LiesI w B nd.args) (ht : TabOps w) (hv : ∀ n ∈ ns.take k, isW n.wd = true) :
    Calls Tryd.prog 50 #[.int .i64 k, .agg #[.int .i64 nd.op, .int .i64 nd.wd, .slice B nd.args.length bc, .int .i64 nd.v], .pointer (some ⟨P, 0, none⟩), .pointer (some ⟨Q, 0, none⟩)] w fun e w' => e = .returned (.int .i64 (nodeE ls (ns.take k) nd)) ∧ ∃ x : Aft w, w' = x.val := by
  have hb0 : Below w.heap.size w (w.alloc (.cells #[.int .i64 nd.op, .int .i64 nd.wd, .slice B nd.args.length bc, .int .i64 nd.v] 65)) := (Below.refl _ _).alloc (Nat.le_refl _) _
  have hlk : (ns.take k).length = k := by simp; omega
  have HE := Lib.hid (fun y : Aft (w.alloc (.cells #[.int .i64 nd.op, .int .i64 nd.wd, .slice B nd.args.length bc, .int .i64 nd.v] 65)) => by
    have h := errorOfNode_c A cap ls hls N capN (ns.take k) (by omega) nd hla B bc y.val ((hA.below hb0).aft y) (((hN.take k).below hb0).aft y) ((hB.below hb0).aft y) ((ht.below hb0).below y.pf) hv
    rw [hlk] at h; exact h)
  have HC0 := Lib.hid (cell_alloc (o := .cells #[.int .i64 nd.op, .int .i64 nd.wd, .slice B nd.args.length bc, .int .i64 nd.v] 65) l0 c0)
  have HC1 := Lib.hid (cell_alloc (o := .cells #[.int .i64 nd.op, .int .i64 nd.wd, .slice B nd.args.length bc, .int .i64 nd.v] 65) l1 c1)
  obtain ⟨ad, rfl, _⟩ := hN (by omega)
  clear hA hN hB ht hv c0 c1 hlk
  go_enter Tryd.func50, Tryd.ntmps50
  go_wp2_with fail
  have r0 : (w.alloc (.cells #[.int .i64 nd.op, .int .i64 nd.wd, .slice B nd.args.length bc, .int .i64 nd.v] 65)).heap[w.heap.size]? = some (.cells #[.int .i64 nd.op, .int .i64 nd.wd, .slice B nd.args.length bc, .int .i64 nd.v] 65) := heap_alloc_new _ _
  have z0 : P < (w.alloc (.cells #[.int .i64 nd.op, .int .i64 nd.wd, .slice B nd.args.length bc, .int .i64 nd.v] 65)).heap.size := lt_alloc l0
  have z1 : Q < (w.alloc (.cells #[.int .i64 nd.op, .int .i64 nd.wd, .slice B nd.args.length bc, .int .i64 nd.v] 65)).heap.size := lt_alloc l1
  have z2 : w.heap.size < (w.alloc (.cells #[.int .i64 nd.op, .int .i64 nd.wd, .slice B nd.args.length bc, .int .i64 nd.v] 65)).heap.size := by simp
  generalize w.alloc (.cells #[.int .i64 nd.op, .int .i64 nd.wd, .slice B nd.args.length bc, .int .i64 nd.v] 65) = W0 at *
  have c0 := HC0.out
  have c1 := HC1.out
  have p0 := cell_block (i := 0) r0
  have p1 := cell_block (i := 1) r0
  have p2 := cell_block (i := 2) r0
  have p3 := cell_block (i := 3) r0
  simp at p0 p1 p2 p3
  have hki : (k : Int) ≤ capN := by omega
  have hk0 : (0 : Int) ≤ k := by omega
  refine wp_region_aft (by kernel_rfl) (by kernel_rfl) ?_
  repeat (go_big_quiet_step ((go_at_call 51; exact Calls.qa (HE.out _))))
  refine wpQuiet_nil ?_
  intro y
  go_wp2
  go_ret
  exact ⟨rfl, Below.aft (y.below hb0 hb0.size)⟩

end Go.Proofs.YtkdonapgonegkaaDoor
