/-
  The law BitsCounts returns true for every input, and leaves its arguments as they were.
  Conditions: none.
-/
import Derived.Test.YtlplphigjejahaaBK
import Derived.Test.YtlplphigjejahaaBj
import Derived.Test.YtlplphigjejahaaPov
import Derived.Test.YtlplphigjejahaaRows
import Derived.Test.YtlplphigjejahaaPou
import Derived.ProofKit
set_option linter.unusedSimpArgs false
set_option linter.unusedVariables false
namespace Go.Proofs.Ytlplphigjejahaa
open Go.ChangeShapes Go.WideShapes Go.ChangeAt Go.RowKit Go.Joins

namespace BitsCountsRow
theorem own : ownKnob Try.prog.godebug = none := by kernel_rfl
theorem cellsB : Try.prog.cellsOf 23 = 2 := by kernel_rfl
theorem laidOut : laidOutB Try.prog = true := by kernel_rfl

set_option maxRecDepth 100000 in
theorem lifted (os : Os) (started : os.Started) (H : Type) (enc : TypeId × Value → H) :
    ReturnsInHanded {} Try.checked os 8 .any (Rows.bitsCountsSpec.pre6 enc Try.prog Try.f8 Rows.bitsCountsRow.domain false) (Rows.bitsCountsSpec.post enc Try.prog Try.f8 false true false false) := by
  refine returnsInHanded_of_change (C := Try.checked) own started (by kernel_rfl) Try.func8
    (ChangeSpec.witness6 (enc := enc) (C := Try.checked) false ⟨#[], #[.agg #[.int .i64 0, .int .i64 0], .agg #[.int .i64 0, .int .i64 0], .slice none 0 0], []⟩ 8 (by kernel_rfl) (by kernel_rfl) (by kernel_rfl) (by kernel_rfl)) ?_
  intro W base args ds gs before hval0 hW hcnd _
  have hval : ∀ (j : Nat) t v, Try.f8.params[j]? = some t → args[j]? = some v → Value.okWide Try.prog W .any base t v := hval0
  have hW' := hW
  have hlt := hW.lt
  obtain ⟨p, q, hA0, hV, hbef, hfz, hnd⟩ := hW
  have hA : DataW.TrodAll enc Try.prog W 0 (fun _ => true) true Try.f8.params.toList args.toList ds p := hA0
  rw [Try.params8] at hA hval
  obtain ⟨v0, v1, v2, d0, d1, d2, p0, p1, p2, rfl, rfl, hpp, h0, h1, h2⟩ := trodAll_three hA
  obtain ⟨rfl, rfl⟩ := trodVars_none hV
  rw [List.append_nil] at hbef
  subst hbef
  obtain ⟨c00, c01, y00, y01, m0, rfl, hd0, hq0, hy00, hy01⟩ := open_agg2 Try.underlying23 (by kernel_rfl) cellsB (hval 0 23 v0 rfl rfl) h0
  obtain ⟨aw, e00, -, -⟩ := DataW.trod_int Try.underlying3 hy00
  obtain ⟨av, e01, -, -⟩ := DataW.trod_int Try.underlying3 hy01
  simp at e00 e01
  subst e00 e01
  clear hy00 hy01 hd0 hq0
  obtain ⟨x0, x1, rfl⟩ := open_arr2 Try.underlying47 Try.underlying3 (by kernel_rfl) (by kernel_rfl) (hval 1 47 v1 rfl rfl) h1
  obtain ⟨A, cap, ns, rfl, hlies, hnil, hcap, hwf⟩ := open_list1 (okWide_slice Try.underlying58 (hval 2 58 v2 rfl rfl)) Try.underlying58 Try.underlying3 (by kernel_rfl) h2
  clear hA0 hval0
  refine (BitsCounts_all awake_c aw av x0 x1 A cap ns W hlies hnil hcap hwf).mono fun e W' ⟨he, x, hx⟩ => ?_
  subst he
  subst hx
  exact ⟨_, rfl, post_aft2 (pa := before) (pv := []) hW' (fun _ _ _ => trodAll_mk1 (shut_bool Try.underlying4 _)) (by rw [hpp]; (try rw [List.append_assoc]); exact trodAll_mk3 (Below.trod laidOut (by kernel_rfl) (of_decide_eq_true (by kernel_rfl)) h0 x.pf (fun q hq => by simpa using hlt q (by rw [hpp]; simp [hq]))) (Below.trod laidOut (by kernel_rfl) (of_decide_eq_true (by kernel_rfl)) h1 x.pf (fun q hq => by simpa using hlt q (by rw [hpp]; simp [hq]))) (Below.trod laidOut (by kernel_rfl) (of_decide_eq_true (by kernel_rfl)) h2 x.pf (fun q hq => by simpa using hlt q (by rw [hpp]; simp [hq])))) (fun _ _ => rfl) (by simp)
    x.pf⟩

theorem holds : Rows.BitsCountsSaid :=
  OpenClaim.holds_of_wide 8 Try.f8 rfl rfl rfl rfl rfl rfl rfl ⟨rfl, rfl, rfl, rfl, rfl⟩ rfl rfl rfl rfl rfl (by kernel_rfl) Try.func8 (by kernel_rfl)
    (of_decide_eq_true (by kernel_rfl)) (by unfold Func.isWrapper; rw [if_neg (of_decide_eq_false (by kernel_rfl))]; exact ⟨rfl, rfl⟩)
    (fun os started H enc _ => lifted os started H enc)
#print axioms holds
end BitsCountsRow
end Go.Proofs.Ytlplphigjejahaa
