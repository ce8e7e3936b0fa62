/-
  Contracts of the functions of chapter 1 (twelfth part: lists of bits).
-/
import Derived.Test.YtlplphigjejahaaBa
import Derived.Deep.AppendLies
import Derived.Deep.LoopGhost
import Derived.OwnWalk
set_option linter.unusedSimpArgs false
set_option linter.unusedVariables false
namespace Go.Proofs.Ytlplphigjejahaa
open Go.RowKit Go.BigFrame

def lowL (n : Int) (k : Nat) : List Value := (List.range k).map fun i => .int .i64 (n / 2 ^ i % 2)
theorem lowL_succ (n : Int) (k : Nat) : lowL n (k + 1) = lowL n k ++ [.int .i64 (n / 2 ^ k % 2)] := by
  unfold lowL; rw [List.range_succ, List.map_append]; rfl
theorem int_info : (Try.prog.info? 3).map (fun i => (i.zero, i.size, i.bytes)) = some (some (.int .i64 0), 1, 8) := by kernel_rfl
theorem half_at (n : Int) (j : Nat) (hn : 0 ≤ n) : n / 2 ^ j / 2 = n / 2 ^ (j + 1) := by
  have h2 : (0 : Int) < 2 ^ j := Int.pow_pos (by decide)
  rw [Int.ediv_ediv_of_nonneg (by omega), Int.pow_succ]

set_option maxRecDepth 20000 in
set_option maxHeartbeats 800000 in
theorem low_c (n : Int) (k : Nat) (hn : 0 ≤ n) (hn2 : n ≤ 65535) (hk : k ≤ 17) (w : World) :
    Calls Try.prog 77 #[.int .i64 n, .int .i64 k] w fun e w' => ∃ v, e = .returned v ∧ w'.ownsRow w.heap.size 3 1 v k (lowL n k) ∧ Below w.heap.size w w' := by
  obtain ⟨i0, hi, hz0, hz1, hz2⟩ := info_parts int_info
  go_enter Try.func77, Try.ntmps77
  go_wp2
  go_loopw [0, 5, 6] (fun v0 v5 v6 wr => ∃ j : Nat, j ≤ k ∧ v6 = .int .i64 j ∧ v0 = .int .i64 (n / 2 ^ j) ∧ wr.ownsRow w.heap.size 3 1 v5 j (lowL n j) ∧ Below w.heap.size w wr) (fun _ _ v6 _ => k - (intOf v6).toNat)
  case atStart => exact ⟨0, by omega, rfl, by simp, World.ownsRow_nil _ _ _ _, Below.refl _ _⟩
  case round =>
    obtain ⟨j, hj, rfl, rfl, hown, hb⟩ := hrel
    have h0 : 0 ≤ n / 2 ^ j := Int.ediv_nonneg hn (Int.le_of_lt (Int.pow_pos (by decide)))
    have h1 : n / 2 ^ j ≤ 65535 := Int.le_trans (Int.ediv_le_self _ hn) hn2
    have hh := Lib.hid (half_at n j hn)
    have hl := Lib.hid (lowL_succ n j)
    have hbs := hb.size
    generalize n / 2 ^ j = m at *
    by_cases hlt : j < k
    · go_wp2_with (at_builtin; refine wpList_append_own _ rfl _ _ 58 rfl w.heap.size 3 i0 (.int .i64 0) 1 8 Try.underlying58 hi hz0 hz1 hz2 rfl (by decide) _ _ _ rfl (hown.alloc _) ⟨_, 0, none⟩ 1 1 [.int .i64 _] rfl rfl (cell_one_new _ _ _) (fun x hx => by simp at hx; subst hx; rfl) (by unfold maxLen; omega) (by omega) (by simp; omega) ?_; intro v' w3 hown' hgrow3 hnn)
      go_wp2
      go_roundw
      case rel => exact ⟨j + 1, by omega, by go_num, by rw [← hh.out], by rw [hl.out]; exact hown', (hb.alloc hbs _).grown hgrow3 (by simp; omega) (fun q hq => (hown.lt q hq).1)⟩
      case measure => simp [intOf]; omega
    · obtain rfl : j = k := by omega
      go_wp2
      go_ret
      exact ⟨_, rfl, hown, hb⟩


def wl : List Int → Int
  | [] => 0
  | b :: l => 2 * wl l + b
theorem wl_bd : ∀ (l : List Int), (∀ b ∈ l, 0 ≤ b ∧ b ≤ 1) → 0 ≤ wl l ∧ wl l < 2 ^ l.length
  | [], _ => by simp [wl]
  | b :: l, h => by
    have ih := wl_bd l fun x hx => h x (List.mem_cons_of_mem _ hx)
    have hb := h b (List.mem_cons_self ..)
    rw [List.length_cons, Int.pow_succ]
    simp only [wl]
    omega
theorem wl_drop (l : List Int) (m : Nat) (h : m < l.length) : wl (l.drop m) = 2 * wl (l.drop (m + 1)) + l.getD m 0 := by
  rw [List.drop_eq_getElem_cons h]; simp [wl, h]
theorem pow_le_20 {k : Nat} (h : k ≤ 20) : (2 : Int) ^ k ≤ 1048576 := by
  have : ∀ k : Nat, k ≤ 20 → (2 : Int) ^ k ≤ 1048576 := by decide
  exact this k h

set_option maxRecDepth 20000 in
set_option maxHeartbeats 800000 in
theorem whole_c (l : List Int) (h0 : 0 < l.length) (h20 : l.length ≤ 20) (hl : ∀ b ∈ l, 0 ≤ b ∧ b ≤ 1) (v : Value) (base : Nat) (w : World) (hown : w.ownsRow base 3 1 v l.length (l.map (.int .i64))) :
    Calls Try.prog 78 #[v] w fun e w' => e = .returned (.int .i64 (wl l)) ∧ w = w' := by
  obtain ⟨g, cap, rfl, -, -⟩ := hown.form h0
  have hc : ∀ j, j < l.length → w.cell? ⟨g, j, none⟩ = some (.int .i64 (l.getD j 0)) := by
    intro j hj
    have := hown.cells (g := g) rfl j (.int .i64 (l.getD j 0)) (by simp [hj])
    rwa [Addr.add_lit, Nat.zero_add] at this
  clear hown
  go_enter Try.func78, Try.ntmps78
  go_wp2
  go_loop [3, 4] (fun v3 v4 => ∃ i : Nat, i ≤ l.length ∧ v4 = .int .i64 ((i : Int) - 1) ∧ v3 = .int .i64 (wl (l.drop i))) (fun _ v4 => (intOf v4 + 1).toNat)
  case atStart => exact ⟨l.length, Nat.le_refl _, by go_num, by simp [wl]⟩
  case round =>
    obtain ⟨i, hi, e4, rfl⟩ := hrel
    rcases i with _ | m
    · subst e4
      go_wp2
      go_ret
      exact ⟨rfl, rfl⟩
    · rw [show (((m + 1 : Nat) : Int) - 1) = (m : Int) by omega] at e4
      subst e4
      have hk := hc m (by omega)
      have hd := Lib.hid (wl_drop l m (by omega))
      have hb := wl_bd (l.drop (m + 1)) (fun b hb => hl b (List.mem_of_mem_drop hb))
      have hp := pow_le_20 (k := (l.drop (m + 1)).length) (by simp; omega)
      have hx : 0 ≤ l.getD m 0 ∧ l.getD m 0 ≤ 1 := by
        have e : l.getD m 0 = l[m]'(by omega) := by simp [List.getD, List.getElem?_eq_getElem (show m < l.length by omega)]
        rw [e]; exact hl _ (List.getElem_mem _)
      clear hc hl
      generalize wl (l.drop (m + 1)) = n at *
      generalize l.getD m 0 = b at *
      generalize (2 : Int) ^ (l.drop (m + 1)).length = P at *
      go_wp2
      go_round
      case rel => exact ⟨m, by omega, rfl, by rw [hd.out]⟩
      case measure => simp [intOf]

end Go.Proofs.Ytlplphigjejahaa
