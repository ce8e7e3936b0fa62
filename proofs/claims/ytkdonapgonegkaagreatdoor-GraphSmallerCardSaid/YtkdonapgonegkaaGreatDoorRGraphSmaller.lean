/-
  The law GraphSmaller: for whatever leaves, nodes and indexes it returns true (a graph shared and folded, and a cone, with their maps, are as specified, or the errors): the tied card. No condition beyond the card's own.
-/
import Derived.Test.YtkdonapgonegkaaGreatDoorZc
import Derived.Test.YtkdonapgonegkaaGreatDoorZj
import Derived.Test.YtkdonapgonegkaaGreatDoorRows
import Derived.Test.YtkdonapgonegkaaGreatDoorTie
import Derived.Test.YtkdonapgonegkaaGreatDoorCards
import Derived.Test.YtkdonapgonegkaaGreatDoorZa
import Derived.ProofKit
import Derived.Lib.SmallJoins
import Derived.Lib.LaidIn
import Derived.Lib.LaidTab
import Derived.Stop.LaidErr
import Derived.LaidHandle
import Derived.SevenTiedAt
set_option linter.unusedSimpArgs false
set_option linter.unusedVariables false
namespace Go.Proofs.YtkdonapgonegkaaGreatDoor
open Go Go.ChangeShapes Go.WideShapes Go.ChangeAt Go.RowKit Go.Joins

theorem post_aft2 {P : Program} {H : Type} {enc : TypeId × Value → H} {f : Func} {s : ChangeSpec} {apart fresh handsOn : Bool} {W W' : World} {args : Array Value} {v : Value} {ds gs : List (DataW H)} {before pa pv : List MemPlace}
    (hW : DataW.Whole enc P f.params.toList s.vars apart W args.toList ds gs before)
    (hres : ∀ (b : Nat) (sp : Nat → Bool) (hd : Bool), DataW.TrodAll enc P W' b sp hd f.resultTypes.toList (v.resultList f.resultTypes.size) (s.fn H (ds ++ gs)).results [])
    (hargs : DataW.TrodAll enc P W' 0 (fun b => decide (b < W.heap.size)) true f.params.toList args.toList (s.fn H (ds ++ gs)).args pa)
    (hvars : ∀ sp : Nat → Bool, (∀ p ∈ before, sp p.block = true) → DataW.TrodVars enc P W' sp s.vars (s.fn H (ds ++ gs)).vars pv)
    (hps : before = pa ++ pv) (hk : Below W.heap.size W W') : s.post enc P f apart fresh handsOn false W args v W' := by
  have hold : ∀ p ∈ before, (fun b => decide (b < W.heap.size)) p.block = true := fun p hp => by simpa using hW.lt p hp
  refine ⟨ds, gs, before, [], pa, pv, hW, hres _ _ _, hargs, hvars _ hold, World.keptBut_mono (fun p hp => ⟨hp, ?_⟩) (hk.frame _), fun h => by cases h⟩
  rw [hps, List.mem_append] at hp
  exact Or.inr hp

section
variable {H : Type} {enc : TypeId × Value → H} {P : Program} {w : World} {base : Nat} {spare : Nat → Bool} {held : Bool}
theorem open_arr2 {r : Reach} {b0 : Nat} {t e : TypeId} {v : Value} {d : DataW H} {p : List MemPlace} (ht : P.underlying t = some (.array 2 e)) (he : P.underlying e = some (.int .i64)) (hce : P.cellsOf e = 1) (hct : P.cellsOf t = 2)
    (hv : Value.okWide P w r b0 t v) (h : DataW.Trod enc P w base spare held t v d p) : ∃ a b : Int, v = .agg #[.int .i64 a, .int .i64 b] := by
  simp only [Value.okWide, ht] at hv
  obtain ⟨cs, rfl, hsz, _⟩ := hv
  obtain ⟨c0, c1, rfl⟩ := array2 (hsz.trans hct)
  obtain ⟨fuel, hf⟩ := h
  obtain ⟨xs, m, _, _, _, hl, hi⟩ := DataW.trod_array ht hf
  rw [hce] at hi
  obtain ⟨x0, hx0⟩ : ∃ x, xs[0]? = some x := ⟨_, List.getElem?_eq_getElem (by omega)⟩
  obtain ⟨x1, hx1⟩ : ∃ x, xs[1]? = some x := ⟨_, List.getElem?_eq_getElem (by omega)⟩
  have h0 := (hi 0 (by omega)).trans hx0
  have h1 := (hi 1 (by omega)).trans hx1
  simp [Value.cells] at h0 h1
  obtain ⟨a, ha, _⟩ := DataW.trod_int he h0
  obtain ⟨b, hb, _⟩ := DataW.trod_int he h1
  simp at ha hb
  exact ⟨a, b, by rw [ha, hb]⟩

end

namespace GraphSmallerRow
theorem own : ownKnob Tryz.prog.godebug = none := by kernel_rfl
theorem laidOut : laidOutB Tryz.prog = true := by kernel_rfl
def tab32 : List Int := [0, 1, 28, 2, 29, 14, 24, 3, 30, 22, 20, 15, 25, 17, 4, 8, 31, 27, 13, 23, 21, 19, 16, 7, 26, 12, 18, 6, 11, 5, 10, 9]
def tab64 : List Int := [0, 1, 56, 2, 57, 49, 28, 3, 61, 58, 42, 50, 38, 29, 17, 4, 62, 47, 59, 36, 45, 43, 51, 22, 53, 39, 33, 30, 24, 18, 12, 5, 63, 55, 48, 27, 60, 41, 37, 16, 46, 35, 44, 21, 52, 32, 23, 11, 54, 26, 40, 15, 34, 20, 31, 10, 25, 14, 19, 9, 13, 8, 7, 6]
def tabP : List Int := [1, 10, 100, 1000, 10000, 100000, 1000000, 10000000, 100000000, 1000000000, 10000000000, 100000000000, 1000000000000, 10000000000000, 100000000000000, 1000000000000000, 10000000000000000, 100000000000000000, 1000000000000000000, 10000000000000000000]

/-- A world that meets the card's condition: the settled one, the four tables laid. -/
noncomputable def laidWorld (os : Os) : World :=
  let w0 := World.holding Tryz.prog os ⟨#[], #[], []⟩
  let put (h : Array Obj) (g : Nat) (cs : Array Value) : Array Obj := h.modify g fun
    | .cells _ t frozen => .cells cs t frozen
    | o => o
  let h1 := put w0.heap 3 (tab32.map fun z => Value.int .u8 z).toArray
  let h2 := put h1 4 (tab64.map fun z => Value.int .u8 z).toArray
  let h3 := put h2 1 (tabP.map fun z => Value.int .u64 z).toArray
  let h4 := put h3 0 #[.string ⟨#[99, 111, 110, 115, 116]⟩, .int .i64 0, .bool true, .string ⟨#[108, 101, 97, 102]⟩, .int .i64 0, .bool true, .string ⟨#[110, 111, 116]⟩, .int .i64 1, .bool false, .string ⟨#[97, 110, 100]⟩, .int .i64 2, .bool false, .string ⟨#[111, 114]⟩, .int .i64 2, .bool false, .string ⟨#[120, 111, 114]⟩, .int .i64 2, .bool false, .string ⟨#[97, 100, 100]⟩, .int .i64 2, .bool false, .string ⟨#[115, 117, 98]⟩, .int .i64 2, .bool false, .string ⟨#[109, 117, 108]⟩, .int .i64 2, .bool false, .string ⟨#[101, 113]⟩, .int .i64 2, .bool false, .string ⟨#[108, 116]⟩, .int .i64 2, .bool false, .string ⟨#[115, 108, 116]⟩, .int .i64 2, .bool false, .string ⟨#[109, 117, 120]⟩, .int .i64 3, .bool false, .string ⟨#[106, 111, 105, 110]⟩, .int .i64 2, .bool false, .string ⟨#[115, 108, 105, 99, 101]⟩, .int .i64 1, .bool true, .string ⟨#[122, 101, 120, 116]⟩, .int .i64 1, .bool false, .string ⟨#[115, 101, 120, 116]⟩, .int .i64 1, .bool false, .string ⟨#[115, 104, 108]⟩, .int .i64 2, .bool false, .string ⟨#[115, 104, 114]⟩, .int .i64 2, .bool false]
  { w0 with heap := h4 }
theorem laidWorld_met (os : Os) (args : Array Value) : laidMetH Tryz.prog Rows.graphSmallerRow.laid ((laidWorld os).forCall (fun _ _ => 0) ⟨#[], args, []⟩).memory :=
  (LaidIn.of_run [3, 4, 1, 0] 8 (by kernel_rfl) (by kernel_rfl) (by kernel_rfl) (by kernel_rfl)).met

set_option maxRecDepth 100000 in
theorem lifted (os : Os) (started : os.Started) (H : Type) (enc : TypeId × Value → H) :
    ReturnsInHanded {} Tryz.checked os 3 .any (fun w args => (Rows.graphSmallerSpec.pre enc Tryz.prog Tryz.f3 [] false w args ∧ laidMetH Tryz.prog Rows.graphSmallerRow.laid w) ∧ sizedMet enc Tryz.prog Tryz.f3 (OpenSpec.ofChange Rows.graphSmallerSpec) false w args)
      (Rows.graphSmallerSpec.post enc Tryz.prog Tryz.f3 false true false false) := by
  refine returnsInHanded_of_change_and (C := Tryz.checked) (X := fun w _ => laidMetH Tryz.prog Rows.graphSmallerRow.laid w) (fun _ _ _ hh h => h.of_heap hh) own started (by kernel_rfl) Tryz.func3
    (ChangeSpec.witness_at (enc := enc) (C := Tryz.checked) (os := os) (X := fun w _ => laidMetH Tryz.prog Rows.graphSmallerRow.laid w) false (laidWorld os) #[.slice none 0 0, .slice none 0 0, .slice none 0 0] 8 rfl (by kernel_rfl) (by kernel_rfl) (by kernel_rfl) (by kernel_rfl) (by kernel_rfl) (laidWorld_met os _)) ?_
  intro W base args ds gs before hval0 hW _ _ hL _
  have hval : ∀ (j : Nat) t v, Tryz.f3.params[j]? = some t → args[j]? = some v → Value.okWide Tryz.prog W .any base t v := hval0
  have hW' := hW
  have hlt := hW.lt
  obtain ⟨p, q, hA0, hV, hbef, hfz, hnd⟩ := hW
  have hA : DataW.TrodAll enc Tryz.prog W 0 (fun _ => true) true Tryz.f3.params.toList args.toList ds p := hA0
  rw [Tryz.params3] at hA hval
  obtain ⟨v0, v1, v2, d0, d1, d2, p0, p1, p2, rfl, rfl, hpp, h0, h1, h2⟩ := trodAll_three hA
  obtain ⟨rfl, rfl⟩ := trodVars_none hV
  rw [List.append_nil] at hbef
  subst hbef
  obtain ⟨A, cap, ls, rfl, hl0, hnil0, hcap0, hwf0⟩ := open_list1 (okWide_slice Tryz.underlying22 (hval 0 22 v0 rfl rfl)) Tryz.underlying22 Tryz.underlying3 (by kernel_rfl) h0
  obtain ⟨N, capN, ns, rfl, hl1, hnil1, hcap1⟩ := open_nodes (okWide_slice Tryz.underlying23 (hval 1 23 v1 rfl rfl)) Tryz.underlying23 Tryz.underlying61 (by kernel_rfl) Tryz.underlying3 Tryz.underlying3 Tryz.underlying22 Tryz.underlying3 Tryz.underlying3 (by kernel_rfl) (by kernel_rfl) (by kernel_rfl) (by kernel_rfl) (by kernel_rfl) rfl rfl rfl rfl h1
  obtain ⟨F, cf, fr, rfl, hl2, hnil2, hcap2, hwf2⟩ := open_list1 (okWide_slice Tryz.underlying22 (hval 2 22 v2 rfl rfl)) Tryz.underlying22 Tryz.underlying3 (by kernel_rfl) h2
  clear hA0 hval0
  refine (GraphSmaller_main A cap ls N capN ns F cf fr W hl0 hnil0 hl1 hl2 hnil2 (tabOps_of_laid hL)).mono fun e W' ⟨he, x, hx⟩ => ?_
  subst he
  subst hx
  exact ⟨_, rfl, post_aft2 (pa := before) (pv := []) hW' (fun _ _ _ => trodAll_mk1 (shut_bool Tryz.underlying4 _)) (by rw [hpp]; (try rw [List.append_assoc]); exact trodAll_mk3 (Below.trod laidOut (by kernel_rfl) (of_decide_eq_true (by kernel_rfl)) h0 x.pf (fun q hq => by simpa using hlt q (by rw [hpp]; simp [hq]))) (Below.trod laidOut (by kernel_rfl) (of_decide_eq_true (by kernel_rfl)) h1 x.pf (fun q hq => by simpa using hlt q (by rw [hpp]; simp [hq]))) (Below.trod laidOut (by kernel_rfl) (of_decide_eq_true (by kernel_rfl)) h2 x.pf (fun q hq => by simpa using hlt q (by rw [hpp]; simp [hq])))) (fun _ _ => rfl) (by simp)
    x.pf⟩

theorem said : Rows.GraphSmallerSaid :=
  OpenClaim.holds_of_wide 3 Tryz.f3 rfl rfl rfl rfl rfl rfl rfl ⟨rfl, rfl, rfl, rfl, rfl⟩ rfl rfl rfl rfl rfl (by kernel_rfl) Tryz.func3 (by kernel_rfl)
    (of_decide_eq_true (by kernel_rfl)) (by unfold Func.isWrapper; rw [if_neg (of_decide_eq_false (by kernel_rfl))]; exact ⟨rfl, rfl⟩)
    (fun os started H enc _ => lifted os started H enc)
theorem holds : Rows.GraphSmallerCardSaid :=
  Claim7.holds_tied_plain_at .later [] [.data, .data, .data, .data] true (true, "1f9e211de13a5cf93a8fea84050dec6fd4a406255080c6363896b3d62a9e7c13") false
    said (fun _ h => by cases h) (by kernel_rfl) (fun _ h => by cases h) graphSmaller_row_tie rfl ⟨rfl, rfl⟩ (by kernel_rfl) rfl
    (fun f fn hf hfn => by
      obtain rfl : f = 3 := Option.some.inj ((show Tryz.prog.funcNamed "ratchet/ratchetlaw02.GraphSmaller" = some 3 by kernel_rfl).symm.trans hf) |>.symm
      obtain rfl : fn = Tryz.f3 := (Option.some.inj (Tryz.func3.symm.trans hfn)).symm
      exact ⟨by kernel_rfl, fun j t ht => by
        rw [Tryz.params3] at ht
        have h3 : t = 22 ∨ t = 23 ∨ t = 22 := by
          rcases j with _ | _ | _ | j
          · left; simpa using ht.symm
          · right; left; simpa using ht.symm
          · right; right; simpa using ht.symm
          · simp at ht
        rcases h3 with rfl | rfl | rfl
        · exact (show Tryz.prog.wantsStandIn 22 = false by kernel_rfl)
        · exact (show Tryz.prog.wantsStandIn 23 = false by kernel_rfl)
        · exact (show Tryz.prog.wantsStandIn 22 = false by kernel_rfl)⟩)
    (by kernel_rfl)
end GraphSmallerRow
end Go.Proofs.YtkdonapgonegkaaGreatDoor
