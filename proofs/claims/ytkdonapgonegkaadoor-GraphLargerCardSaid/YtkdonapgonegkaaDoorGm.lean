/-
  Contracts of chapter 2 (graph): the limits of the laws.
-/
import Derived.Test.YtkdonapgonegkaaDoorGl
set_option linter.unusedSimpArgs false
set_option linter.unusedVariables false
namespace Go.Proofs.YtkdonapgonegkaaDoor
open Go.RowKit Go.BigFrame

/-- The limits of the laws. -/
def fewB (ls : List Int) (ns : List Nd) : Bool := !(decide (60 < ls.length) || (decide (60 < ns.length) && decide (ns.length ≤ 400)) || decide (405 < ns.length)) && ns.all fun n => decide (n.args.length ≤ 5)
theorem fewB_true {ls : List Int} {ns : List Nd} (h : fewB ls ns = true) : ls.length ≤ 60 ∧ ns.length ≤ 405 ∧ ∀ n ∈ ns, n.args.length ≤ 5 := by
  unfold fewB at h
  rw [Bool.and_eq_true] at h
  obtain ⟨h1, h2⟩ := h
  simp at h1
  refine ⟨by omega, by omega, fun n hn => ?_⟩
  have := List.all_eq_true.1 h2 n hn
  simpa using this

set_option maxRecDepth 100000 in
set_option maxHeartbeats 1600000 in
theorem few_c (A : Option Addr) (cap : Nat) (ls : List Int) (N : Option Addr) (capN : Nat) (ns : List Nd) (w : World) (hN : LiesN w N ns) :
    Calls Tryd.prog 9 #[.slice A ls.length cap, .slice N ns.length capN] w fun e w' => e = .returned (.bool (fewB ls ns)) ∧ w = w' := by
  by_cases a1 : 60 < ls.length
  · have HR := Lib.hid (show fewB ls ns = false by unfold fewB; simp [*])
    have c0 : (60 : Int) < ls.length := by omega
    clear hN
    go_enter Tryd.func9, Tryd.ntmps9
    go_wp2
    go_ret
    exact ⟨retB HR.out.symm, rfl⟩
  by_cases a2 : 405 < ns.length
  · have HR := Lib.hid (show fewB ls ns = false by unfold fewB; simp [*])
    have c0 : ¬ (60 : Int) < ls.length := by omega
    have c1 : (60 : Int) < ns.length := by omega
    have c2 : ¬ (ns.length : Int) ≤ 400 := by omega
    have c3 : (405 : Int) < ns.length := by omega
    clear hN
    go_enter Tryd.func9, Tryd.ntmps9
    go_wp2
    go_ret
    exact ⟨retB HR.out.symm, rfl⟩
  by_cases a3 : 60 < ns.length
  · by_cases a4 : ns.length ≤ 400
    · have HR := Lib.hid (show fewB ls ns = false by unfold fewB; simp [*])
      have c0 : ¬ (60 : Int) < ls.length := by omega
      have c1 : (60 : Int) < ns.length := by omega
      have c2 : (ns.length : Int) ≤ 400 := by omega
      clear hN
      go_enter Tryd.func9, Tryd.ntmps9
      go_wp2
      go_ret
      exact ⟨retB HR.out.symm, rfl⟩
    · have c0 : ¬ (60 : Int) < ls.length := by omega
      have c1 : (60 : Int) < ns.length := by omega
      have c2 : ¬ (ns.length : Int) ≤ 400 := by omega
      have c3 : ¬ (405 : Int) < ns.length := by omega
      have HH := Lib.hid hN
      clear hN
      go_enter Tryd.func9, Tryd.ntmps9
      go_wp2
      go_loop [5] (fun v5 => ∃ k : Nat, k ≤ ns.length ∧ v5 = .int .i64 k ∧ ∀ n ∈ ns.take k, n.args.length ≤ 5) (fun v5 => ns.length - (intOf v5).toNat)
      case atStart => exact ⟨0, by omega, rfl, by simp⟩
      case round =>
        obtain ⟨k, hk, rfl, hall⟩ := hrel
        have HA := Lib.hid hall
        clear hall
        by_cases hlt : k < ns.length
        · have hkk : (k : Int) < ns.length := by omega
          have HX := Lib.hid (List.getElem?_eq_getElem hlt)
          have HM := Lib.hid (List.getElem_mem hlt)
          have HT := Lib.hid (List.take_succ_eq_append_getElem hlt)
          generalize ns[k] = x at *
          obtain ⟨ad, rfl, _, _, _, _, B, bc, h2, _⟩ := HH.out.cells HX.out
          have h2' : w.cell? ⟨(ad.add (k * 4)).block, (ad.add (k * 4)).off + 2, none⟩ = some (.slice B x.args.length bc) := h2
          clear h2
          by_cases h5 : 5 < x.args.length
          · have h5' : (5 : Int) < x.args.length := by omega
            have HR := Lib.hid (show fewB ls ns = false by
              have e : (ns.all fun n => decide (n.args.length ≤ 5)) = false := by
                rw [List.all_eq_false]
                exact ⟨x, HM.out, by simp; omega⟩
              unfold fewB; rw [e, Bool.and_false])
            clear h5
            go_wp2
            go_ret
            exact ⟨retB HR.out.symm, rfl⟩
          · have h5' : ¬ (5 : Int) < x.args.length := by omega
            have H5 := Lib.hid h5
            clear h5
            go_wp2
            go_round
            case rel => exact ⟨k + 1, by omega, by go_num, fun z hz => by
              rw [HT.out, List.mem_append] at hz
              rcases hz with hz | hz
              · exact HA.out z hz
              · rw [List.mem_singleton.1 hz]; have := H5.out; omega⟩
            case measure => simp [intOf]; omega
        · have HR := Lib.hid (show fewB ls ns = true by
            have e : (ns.all fun n => decide (n.args.length ≤ 5)) = true := by
              rw [List.all_eq_true]
              intro z hz
              have := HA.out z (by rw [List.take_of_length_le (by omega)]; exact hz)
              simpa using this
            unfold fewB; rw [e, Bool.and_true]
            simp
            omega)
          go_wp2
          go_ret
          exact ⟨retB HR.out.symm, rfl⟩
  · have c0 : ¬ (60 : Int) < ls.length := by omega
    have c1 : ¬ (60 : Int) < ns.length := by omega
    have c2 : ¬ (405 : Int) < ns.length := by omega
    have HH := Lib.hid hN
    clear hN
    go_enter Tryd.func9, Tryd.ntmps9
    go_wp2
    go_loop [5] (fun v5 => ∃ k : Nat, k ≤ ns.length ∧ v5 = .int .i64 k ∧ ∀ n ∈ ns.take k, n.args.length ≤ 5) (fun v5 => ns.length - (intOf v5).toNat)
    case atStart => exact ⟨0, by omega, rfl, by simp⟩
    case round =>
      obtain ⟨k, hk, rfl, hall⟩ := hrel
      have HA := Lib.hid hall
      clear hall
      by_cases hlt : k < ns.length
      · have hkk : (k : Int) < ns.length := by omega
        have HX := Lib.hid (List.getElem?_eq_getElem hlt)
        have HM := Lib.hid (List.getElem_mem hlt)
        have HT := Lib.hid (List.take_succ_eq_append_getElem hlt)
        generalize ns[k] = x at *
        obtain ⟨ad, rfl, _, _, _, _, B, bc, h2, _⟩ := HH.out.cells HX.out
        have h2' : w.cell? ⟨(ad.add (k * 4)).block, (ad.add (k * 4)).off + 2, none⟩ = some (.slice B x.args.length bc) := h2
        clear h2
        by_cases h5 : 5 < x.args.length
        · have h5' : (5 : Int) < x.args.length := by omega
          have HR := Lib.hid (show fewB ls ns = false by
            have e : (ns.all fun n => decide (n.args.length ≤ 5)) = false := by
              rw [List.all_eq_false]
              exact ⟨x, HM.out, by simp; omega⟩
            unfold fewB; rw [e, Bool.and_false])
          clear h5
          go_wp2
          go_ret
          exact ⟨retB HR.out.symm, rfl⟩
        · have h5' : ¬ (5 : Int) < x.args.length := by omega
          have H5 := Lib.hid h5
          clear h5
          go_wp2
          go_round
          case rel => exact ⟨k + 1, by omega, by go_num, fun z hz => by
            rw [HT.out, List.mem_append] at hz
            rcases hz with hz | hz
            · exact HA.out z hz
            · rw [List.mem_singleton.1 hz]; have := H5.out; omega⟩
          case measure => simp [intOf]; omega
      · have HR := Lib.hid (show fewB ls ns = true by
          have e : (ns.all fun n => decide (n.args.length ≤ 5)) = true := by
            rw [List.all_eq_true]
            intro z hz
            have := HA.out z (by rw [List.take_of_length_le (by omega)]; exact hz)
            simpa using this
          unfold fewB; rw [e, Bool.and_true]
          simp
          omega)
        go_wp2
        go_ret
        exact ⟨retB HR.out.symm, rfl⟩

end Go.Proofs.YtkdonapgonegkaaDoor
