/-
  Contracts of chapter 2 (graph): the marks that are set, the leaves below some nodes.
-/
import Derived.Test.YtkdonapgonegkaaDoorGB
set_option linter.unusedSimpArgs false
set_option linter.unusedVariables false
namespace Go.Proofs.YtkdonapgonegkaaDoor
open Go.RowKit Go.BigFrame

/-- The indexes of the marks that are set, among the first ones. -/
def choK (bs : List Bool) : Nat → List Int
  | 0 => []
  | k + 1 => choK bs k ++ (if bs.getD k false then [(k : Int)] else [])
def choL (bs : List Bool) : List Int := choK bs bs.length
theorem choK_no {bs : List Bool} {k : Nat} (h : bs[k]? = some false) : choK bs (k + 1) = choK bs k := by simp [choK, List.getD, h]
theorem choK_yes {bs : List Bool} {k : Nat} (h : bs[k]? = some true) : choK bs (k + 1) = choK bs k ++ [(k : Int)] := by simp [choK, List.getD, h]
theorem choK_len {bs : List Bool} : ∀ k : Nat, (choK bs k).length ≤ k := by
  intro k
  induction k with
  | zero => exact Nat.le_refl _
  | succ k ih => simp only [choK]; split <;> simp <;> omega
theorem choK_mem {bs : List Bool} : ∀ (k : Nat) x, x ∈ choK bs k → 0 ≤ x ∧ x < k := by
  intro k
  induction k with
  | zero => intro x hx; simp [choK] at hx
  | succ k ih =>
    intro x hx
    simp only [choK, List.mem_append] at hx
    rcases hx with hx | hx
    · have := ih x hx; omega
    · split at hx
      · have := List.mem_singleton.1 hx; omega
      · simp at hx
theorem choL_mem {bs : List Bool} {x : Int} (h : x ∈ choL bs) : 0 ≤ x ∧ x < bs.length := choK_mem _ x h
/-- A row of the call's own, as a result. -/
theorem own_copied {w w' : World} {base : Nat} {e : TypeId} {v : Value} {xs : List Int} (h : w'.ownsRow base e 1 v xs.length (xs.map (.int .i64))) (hb : Below w.heap.size w w') : CopiedI w xs (.returned v) w' := by
  rcases h.2 with ⟨rfl, h0⟩ | ⟨g, cap', cur, rfl, _⟩
  · exact ⟨none, 0, by rw [h0], fun hp => by omega, hb⟩
  · exact ⟨_, cap', rfl, LiesI.of_own h, hb⟩
theorem own_snoc {w : World} {base : Nat} {e : TypeId} {v : Value} {n : Nat} {xs ys : List Int} {k : Int} (h : w.ownsRow base e 1 v (n + 1) (xs.map (Value.int .i64) ++ [.int .i64 k])) (hn : n = xs.length) (hy : ys = xs ++ [k]) : w.ownsRow base e 1 v ys.length (ys.map (Value.int .i64)) := by
  subst hn; subst hy
  rw [List.length_append, List.map_append]; exact h

set_option maxRecDepth 100000 in
set_option maxHeartbeats 1600000 in
theorem chosen_c (M : Option Addr) (cm : Nat) (bs : List Bool) (hbs : bs.length ≤ 65536) (w : World) (hM : LiesB w M bs) :
    Calls Tryd.prog 58 #[.slice M bs.length cm] w (CopiedI w (choL bs)) := by
  obtain ⟨i0, hi, hz0, hz1, hz2⟩ := info_parts int_info
  have HM := Lib.hid hM
  clear hM
  go_enter Tryd.func58, Tryd.ntmps58
  go_wp2_with fail
  go_loopw [3, 8] (fun v3 v8 wr => ∃ k : Nat, k ≤ bs.length ∧ v8 = .int .i64 k ∧ wr.ownsRow w.heap.size 3 1 v3 (choK bs k).length ((choK bs k).map (Value.int .i64)) ∧ Below w.heap.size w wr) (fun _ v8 _ => bs.length - (intOf v8).toNat)
  case atStart => exact ⟨0, by omega, rfl, World.ownsRow_nil _ _ _ _, Below.refl _ _⟩
  case round =>
    obtain ⟨k, hk, rfl, hown, hb⟩ := hrel
    have hbs' := hb.size
    have hcl := choK_len (bs := bs) k
    by_cases hlt : k < bs.length
    · have hkk : (k : Int) < bs.length := by omega
      have HX := Lib.hid (List.getElem?_eq_getElem hlt)
      generalize bs[k] = b at *
      obtain ⟨ad, rfl, hbl, c0⟩ := HM.out.cell HX.out
      have c1 := (hb.cell (p := ad.add k) (by rw [addB]; exact hbl)).trans c0
      clear c0
      cases b with
      | false =>
        have HS := Lib.hid (choK_no HX.out)
        have HO := Lib.hid hown
        clear hown
        go_wp2
        go_roundw
        case rel => exact ⟨k + 1, by omega, by go_num, by rw [HS.out]; exact HO.out, hb⟩
        case measure => simp [intOf]; omega
      | true =>
        have HS := Lib.hid (choK_yes HX.out)
        generalize hm : (choK bs k).length = m at *
        go_wp2_with (at_builtin; refine wpList_append_own _ rfl _ _ 22 rfl w.heap.size 3 i0 (.int .i64 0) 1 8 Tryd.underlying22 hi hz0 hz1 hz2 rfl (by decide) _ _ _ rfl (hown.alloc _) ⟨_, 0, none⟩ 1 1 [.int .i64 _] rfl rfl (cell_one_new _ _ _) (fun x hx => by simp at hx; subst hx; rfl) (by unfold maxLen; omega) (by omega) (by first | omega | (simp; omega) | (simp at *; omega)) ?_; intro v' w3 hown' hgrow3 hnn)
        have HF := Lib.hid (own_snoc hown' hm.symm HS.out)
        have HB := Lib.hid ((hb.alloc hbs' (.cells #[.int .i64 k] 3)).grown hgrow3 (by simp; omega) (fun q hq => (hown.lt q hq).1))
        clear hown' hgrow3 hown
        go_wp2
        go_roundw
        case rel => exact ⟨k + 1, by omega, by go_num, HF.out, HB.out⟩
        case measure => simp [intOf]; omega
    · obtain rfl : k = bs.length := by omega
      have HF := Lib.hid (show CopiedI w (choL bs) (.returned u3) wr from own_copied hown hb)
      clear hown
      go_wp2
      go_ret
      exact HF.out

end Go.Proofs.YtkdonapgonegkaaDoor
