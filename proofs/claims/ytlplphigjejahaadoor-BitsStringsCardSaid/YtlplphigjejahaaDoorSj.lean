/-
  Contracts of the functions of chapter 1 (strings, seventh part: FormatBits; built for the door seat only).
-/
import Derived.Test.YtlplphigjejahaaDoorSg
import Derived.Test.YtlplphigjejahaaDoorSi
import Derived.Lib.AppendIntMem
import Derived.Lib.LaidTab
set_option linter.unusedSimpArgs false
set_option linter.unusedVariables false
namespace Go.Proofs.YtlplphigjejahaaDoor
open Go.RowKit Go.BigFrame

/-- What the program's tables hold where the law begins. -/
structure Tabs (w : World) : Prop where
  pow : Lib.TabIs Tryd.prog w "internal/strconv.uint64pow10" .u64 Lib.pow10Tab
  d1 : w.cell? ⟨3, 1, none⟩ = some (.int .u8 1)
  d15 : w.cell? ⟨3, 15, none⟩ = some (.int .u8 4)
  big : 3 < w.heap.size
theorem tabIs_below {B : Nat} {P : Program} {w W : World} {name : String} {k : IntKind} {zs : List Int} {g : Nat} (hg : P.globalNamed name = some g) (hb : Below B w W) (hB : g < B) (h : Lib.TabIs P w name k zs) : Lib.TabIs P W name k zs := by
  unfold Lib.TabIs World.var? at *
  rw [hg] at *
  simp only [Option.bind_some] at h ⊢
  rw [hb.block g hB]; exact h
theorem Tabs.below {w W : World} (h : Tabs w) (hb : Below w.heap.size w W) : Tabs W where
  pow := tabIs_below (g := 0) (by kernel_rfl) hb (by have := h.big; omega) h.pow
  d1 := (hb.cell (p := ⟨3, 1, none⟩) (by have := h.big; simp; omega)).trans h.d1
  d15 := (hb.cell (p := ⟨3, 15, none⟩) (by have := h.big; simp; omega)).trans h.d15
  big := Nat.lt_of_lt_of_le h.big hb.size
theorem Tabs.aft {w : World} (h : Tabs w) (x : Aft w) : Tabs x.val := h.below x.pf

set_option maxRecDepth 100000 in
set_option maxHeartbeats 1600000 in
theorem ifint_2 (U : Nat) (hU : U ≤ 65535) (w : World) (ht : Tabs w) :
    Calls Tryd.prog 42 #[.int .i64 U, .int .i64 2] w fun e w' => e = .returned (.string ⟨(minD 2 U).toArray⟩) ∧ ∃ x : Aft w, w' = x.val := by
  have HB := Lib.hid (fun w (ht : Tabs w) => fbits_2 U hU w ht.big ht.d1)
  have HT := Lib.hid ht
  clear ht
  go_enter Tryd.func42, Tryd.ntmps42
  go_wp2_with (go_at_call 71; refine (HB.out _ HT.out).mono ?_; rintro e w' ⟨rfl, x, rfl⟩)
  go_ret
  exact ⟨rfl, x, rfl⟩
theorem fint_2 (U : Nat) (hU : U ≤ 65535) (w : World) (ht : Tabs w) :
    Calls Tryd.prog 20 #[.int .i64 U, .int .i64 2] w fun e w' => e = .returned (.string ⟨(minD 2 U).toArray⟩) ∧ ∃ x : Aft w, w' = x.val := by
  have HB := Lib.hid (ifint_2 U hU w ht)
  clear ht
  go_enter Tryd.func20, Tryd.ntmps20
  go_wp2_with (go_at_call 42; refine HB.out.mono ?_; rintro e w' ⟨rfl, x, rfl⟩)
  go_ret
  exact ⟨rfl, x, rfl⟩

set_option maxRecDepth 100000 in
set_option maxHeartbeats 1600000 in
theorem ifint_16 (U : Nat) (hU : U ≤ 65535) (w : World) (ht : Tabs w) :
    Calls Tryd.prog 42 #[.int .i64 U, .int .i64 16] w fun e w' => e = .returned (.string ⟨(minD 16 U).toArray⟩) ∧ ∃ x : Aft w, w' = x.val := by
  have HB := Lib.hid (fun w (ht : Tabs w) => fbits_16 U hU w ht.big ht.d15)
  have HT := Lib.hid ht
  clear ht
  go_enter Tryd.func42, Tryd.ntmps42
  go_wp2_with (go_at_call 71; refine (HB.out _ HT.out).mono ?_; rintro e w' ⟨rfl, x, rfl⟩)
  go_ret
  exact ⟨rfl, x, rfl⟩
theorem fint_16 (U : Nat) (hU : U ≤ 65535) (w : World) (ht : Tabs w) :
    Calls Tryd.prog 20 #[.int .i64 U, .int .i64 16] w fun e w' => e = .returned (.string ⟨(minD 16 U).toArray⟩) ∧ ∃ x : Aft w, w' = x.val := by
  have HB := Lib.hid (ifint_16 U hU w ht)
  clear ht
  go_enter Tryd.func20, Tryd.ntmps20
  go_wp2_with (go_at_call 42; refine HB.out.mono ?_; rintro e w' ⟨rfl, x, rfl⟩)
  go_ret
  exact ⟨rfl, x, rfl⟩

theorem fint_10 (U : Nat) (hU : U ≤ 65535) (w : World) (ht : Tabs w) :
    Calls Tryd.prog 20 #[.int .i64 U, .int .i64 10] w fun e w' => e = .returned (.string ⟨(minD 10 U).toArray⟩) ∧ ∃ x : Aft w, w' = x.val :=
  (Tryd.strconv_FormatInt_10 U (by omega) (by omega) w ht.pow).mono fun e w' ⟨he, k, os, hw⟩ => ⟨by rw [he, itoa_min], ⟨w', by rw [hw]; exact Lib.below_grow _ _ (Nat.le_refl _) k os⟩, rfl⟩
theorem itoa_c (n : Nat) (hn : n ≤ 16) (w : World) :
    Calls Tryd.prog 22 #[.int .i64 n] w fun e w' => e = .returned (.string ⟨(minD 10 n).toArray⟩) ∧ w = w' :=
  (Tryd.strconv_Itoa_small n (by omega) w).mono fun e w' ⟨he, hw⟩ => ⟨by rw [he, dec_min], hw.symm⟩
theorem repeatL_rep (c : UInt8) : ∀ n, Lib.repeatL [c] n = List.replicate n c
  | 0 => rfl
  | n + 1 => by rw [Lib.repeatL, repeatL_rep c n]; rfl
theorem zeros_c (n : Nat) (hn : n ≤ 100) (w : World) :
    Calls Tryd.prog 21 #[.string ⟨#[48]⟩, .int .i64 n] w fun e w' => e = .returned (.string ⟨(List.replicate n (48 : UInt8)).toArray⟩) ∧ ∃ x : Aft w, w' = x.val :=
  (Tryd.strings_Repeat ⟨#[48]⟩ n w (by omega) (by show 1 * n ≤ _; omega)).mono fun e w' ⟨he, hb⟩ => ⟨by rw [he]; show Ending.returned (.string ⟨(Lib.repeatL [48] n).toArray⟩) = _; rw [repeatL_rep], ⟨w', hb⟩, rfl⟩

theorem place_0 (n : Int) (h0 : 0 ≤ n) (h1 : n ≤ 16) (w : World) :
    Calls Tryd.prog 65 #[.int .i64 n] w fun e w' => e = .returned (.int .i64 (n)) ∧ w = w' := by
  go_enter Tryd.func65, Tryd.ntmps65
  go_wp2
  go_ret
  exact ⟨rfl, rfl⟩

theorem place_1 (n : Int) (h0 : 0 ≤ n) (h1 : n ≤ 16) (w : World) :
    Calls Tryd.prog 66 #[.int .i64 n] w fun e w' => e = .returned (.int .i64 (1)) ∧ w = w' := by
  go_enter Tryd.func66, Tryd.ntmps66
  go_wp2
  go_ret
  exact ⟨rfl, rfl⟩

theorem place_2 (n : Int) (h0 : 0 ≤ n) (h1 : n ≤ 16) (w : World) :
    Calls Tryd.prog 67 #[.int .i64 n] w fun e w' => e = .returned (.int .i64 ((n + 3) / 4)) ∧ w = w' := by
  go_enter Tryd.func67, Tryd.ntmps67
  go_wp2
  go_ret
  exact ⟨rfl, rfl⟩

end Go.Proofs.YtlplphigjejahaaDoor
