/-
  Contracts of chapter 2 (graph): the references' error of a node with arguments before it.
-/
import Derived.Test.YtkdonapgonegkaaDoorGj
set_option linter.unusedSimpArgs false
set_option linter.unusedVariables false
namespace Go.Proofs.YtkdonapgonegkaaDoor
open Go.RowKit Go.BigFrame

set_option maxRecDepth 100000 in
set_option maxHeartbeats 1600000 in
theorem nodeErr_0F (A : Option Addr) (cap : Nat) (ls : List Int) (hls : ls.length ≤ 65536) (ad : Addr) (capN : Nat) (ns : List Nd) (hns : ns.length ≤ 65536) (i : Nat) (wd v : Int) (args : List Int) (hla : args.length ≤ 65536) (hi : ns[i]? = some ⟨0, wd, args, v⟩) (w : World) (hA : LiesI w A ls) (hN : LiesN w (some ad) ns) (h1 : isIx 0 19 = true) (h2 : isW wd = true) (h3 : (args.length : Int) = argN 0) (h4 : ∀ x ∈ args, isIx x (ns.take i).length = true) (h5 : isV v wd = false) :
    Calls Tryd.prog 84 #[.slice A ls.length cap, .slice (some ad) ns.length capN, .int .i64 i] w fun e w' => e = .returned (.int .i64 2) ∧ ∃ x : Aft w, w' = x.val := by
  obtain ⟨ad', had, hbk, c0, c1, c3, B, bc, c2, hB⟩ := hN.cells hi
  obtain rfl : ad = ad' := Option.some.inj had
  have hil := (List.getElem?_eq_some_iff.1 hi).1
  have hik : (i : Int) < ns.length := by omega
  have c1' : w.cell? ⟨(ad.add (i * 4)).block, (ad.add (i * 4)).off + 1, none⟩ = some (.int .i64 wd) := c1
  have c2' : w.cell? ⟨(ad.add (i * 4)).block, (ad.add (i * 4)).off + 2, none⟩ = some (.slice B args.length bc) := c2
  have c3' : w.cell? ⟨(ad.add (i * 4)).block, (ad.add (i * 4)).off + 3, none⟩ = some (.int .i64 v) := c3
  have hlk : (ns.take i).length = i := by simp; omega
  clear c1 c2 c3 had
  have HI := Lib.hid (fun w => by have k := Within_c 0 0 18 w; rw [show win 0 0 18 = true by rw [← h1]; exact (isIx_win 0 19).symm] at k; exact k)
  have HW := Lib.hid (fun w => by have k := IsWidth_c wd w; rw [h2] at k; exact k)
  have HAC := Lib.hid (fun w => by have k := ArgCount_c 0 w; rw [← h3] at k; exact k)
  have HB := Lib.hid hB
  have HU := Lib.hid (fun w => by have k := Fits_c v wd (by have := isW_iff.1 h2; omega) (by have := isW_iff.1 h2; omega) w; rw [show fits v wd = false from h5] at k; exact k)
  rw [hlk] at h4
  have H4 := Lib.hid h4
  clear hA hN hB h1 h2 hi hlk h3 h4 h5
  go_enter Tryd.func84, Tryd.ntmps84
  go_wp2_with (first | (go_at_call 31; ((with_reducible refine (HI.out _).mono ?_); rintro e w' ⟨rfl, rfl⟩)) | (go_at_call 52; ((with_reducible refine (HW.out _).mono ?_); rintro e w' ⟨rfl, rfl⟩)))
  have r0 : (w.alloc (.cells #[.int .i64 0, .int .i64 wd, .slice B args.length bc, .int .i64 v] 65)).heap[w.heap.size]? = some (.cells #[.int .i64 0, .int .i64 wd, .slice B args.length bc, .int .i64 v] 65) := heap_alloc_new _ _
  have z0 : w.heap.size < (w.alloc (.cells #[.int .i64 0, .int .i64 wd, .slice B args.length bc, .int .i64 v] 65)).heap.size := by simp
  have hb0 : Below w.heap.size w (w.alloc (.cells #[.int .i64 0, .int .i64 wd, .slice B args.length bc, .int .i64 v] 65)) := (Below.refl _ _).alloc (Nat.le_refl _) _
  generalize (w.alloc (.cells #[.int .i64 0, .int .i64 wd, .slice B args.length bc, .int .i64 v] 65)) = W0 at *
  have q0 := cell_block (i := 0) r0
  have q1 := cell_block (i := 1) r0
  have q2 := cell_block (i := 2) r0
  have q3 := cell_block (i := 3) r0
  simp at q0 q1 q2 q3
  refine wp_region_aft (by kernel_rfl) (by kernel_rfl) ?_
  repeat (go_big_quiet_step ((go_at_call 102; exact Calls.qs (HAC.out _))))
  refine wpQuiet_nil ?_
  intro y
  have R0 := Lib.hid (show y.val.heap[w.heap.size]? = some (.cells #[.int .i64 0, .int .i64 wd, .slice B args.length bc, .int .i64 v] 65) by rw [y.pf.block _ z0]; exact r0)
  have hbw : Below w.heap.size w y.val := y.below hb0 hb0.size
  have zy : w.heap.size < y.val.heap.size := y.lt' z0
  clear r0 q0 q1 q2 q3 hb0 z0
  generalize y.val = W1 at *
  have r0 := R0.out
  have q0 := cell_block (i := 0) r0
  have q1 := cell_block (i := 1) r0
  have q2 := cell_block (i := 2) r0
  have q3 := cell_block (i := 3) r0
  simp at q0 q1 q2 q3
  clear r0
  go_wp2
  go_loop [8] (fun v8 => ∃ j : Nat, j ≤ args.length ∧ v8 = .int .i64 j ∧ (∀ x ∈ args.take j, isIx x i = true)) (fun v8 => args.length - (intOf v8).toNat)
  case atStart => exact ⟨0, by omega, rfl, by simp⟩
  case round =>
    obtain ⟨j, hj, rfl, hall⟩ := hrel
    by_cases hlt : j < args.length
    · have hjj : (j : Int) < args.length := by omega
      have HX := Lib.hid (List.getElem?_eq_getElem hlt)
      have HM := Lib.hid (List.getElem_mem hlt)
      have HT := Lib.hid (List.take_succ_eq_append_getElem hlt)
      generalize args[j] = x at *
      obtain ⟨ab, rfl, hbb, hcx⟩ := (HB.out.below hbw).cell HX.out
      have HV := Lib.hid (fun w => by have k := Within_c x 0 ((i : Int) - 1) w; rw [isIx_w, H4.out x HM.out] at k; exact k)
      have HA := Lib.hid hall
      clear hall
      go_wp2_with (go_at_call 31; ((with_reducible refine (HV.out _).mono ?_); rintro e w' ⟨rfl, rfl⟩))
      go_round
      case rel => exact ⟨j + 1, by omega, by go_num, fun z hz => by
        rw [HT.out, List.mem_append] at hz
        rcases hz with hz | hz
        · exact HA.out z hz
        · rw [List.mem_singleton.1 hz]; exact H4.out _ HM.out⟩
      case measure => simp [intOf]; omega
    · obtain rfl : j = args.length := by omega
      clear hall
      go_wp2_with (go_at_call 32; ((with_reducible refine (HU.out _).mono ?_); rintro e w' ⟨rfl, rfl⟩))
      go_ret
      exact ⟨rfl, Below.aft hbw⟩

set_option maxRecDepth 100000 in
set_option maxHeartbeats 1600000 in
theorem nodeErr_0T (A : Option Addr) (cap : Nat) (ls : List Int) (hls : ls.length ≤ 65536) (ad : Addr) (capN : Nat) (ns : List Nd) (hns : ns.length ≤ 65536) (i : Nat) (wd v : Int) (args : List Int) (hla : args.length ≤ 65536) (hi : ns[i]? = some ⟨0, wd, args, v⟩) (w : World) (hA : LiesI w A ls) (hN : LiesN w (some ad) ns) (h1 : isIx 0 19 = true) (h2 : isW wd = true) (h3 : (args.length : Int) = argN 0) (h4 : ∀ x ∈ args, isIx x (ns.take i).length = true) (h5 : isV v wd = true) :
    Calls Tryd.prog 84 #[.slice A ls.length cap, .slice (some ad) ns.length capN, .int .i64 i] w fun e w' => e = .returned (.int .i64 0) ∧ ∃ x : Aft w, w' = x.val := by
  obtain ⟨ad', had, hbk, c0, c1, c3, B, bc, c2, hB⟩ := hN.cells hi
  obtain rfl : ad = ad' := Option.some.inj had
  have hil := (List.getElem?_eq_some_iff.1 hi).1
  have hik : (i : Int) < ns.length := by omega
  have c1' : w.cell? ⟨(ad.add (i * 4)).block, (ad.add (i * 4)).off + 1, none⟩ = some (.int .i64 wd) := c1
  have c2' : w.cell? ⟨(ad.add (i * 4)).block, (ad.add (i * 4)).off + 2, none⟩ = some (.slice B args.length bc) := c2
  have c3' : w.cell? ⟨(ad.add (i * 4)).block, (ad.add (i * 4)).off + 3, none⟩ = some (.int .i64 v) := c3
  have hlk : (ns.take i).length = i := by simp; omega
  clear c1 c2 c3 had
  have HI := Lib.hid (fun w => by have k := Within_c 0 0 18 w; rw [show win 0 0 18 = true by rw [← h1]; exact (isIx_win 0 19).symm] at k; exact k)
  have HW := Lib.hid (fun w => by have k := IsWidth_c wd w; rw [h2] at k; exact k)
  have HAC := Lib.hid (fun w => by have k := ArgCount_c 0 w; rw [← h3] at k; exact k)
  have HB := Lib.hid hB
  have HU := Lib.hid (fun w => by have k := Fits_c v wd (by have := isW_iff.1 h2; omega) (by have := isW_iff.1 h2; omega) w; rw [show fits v wd = true from h5] at k; exact k)
  rw [hlk] at h4
  have H4 := Lib.hid h4
  clear hA hN hB h1 h2 hi hlk h3 h4 h5
  go_enter Tryd.func84, Tryd.ntmps84
  go_wp2_with (first | (go_at_call 31; ((with_reducible refine (HI.out _).mono ?_); rintro e w' ⟨rfl, rfl⟩)) | (go_at_call 52; ((with_reducible refine (HW.out _).mono ?_); rintro e w' ⟨rfl, rfl⟩)))
  have r0 : (w.alloc (.cells #[.int .i64 0, .int .i64 wd, .slice B args.length bc, .int .i64 v] 65)).heap[w.heap.size]? = some (.cells #[.int .i64 0, .int .i64 wd, .slice B args.length bc, .int .i64 v] 65) := heap_alloc_new _ _
  have z0 : w.heap.size < (w.alloc (.cells #[.int .i64 0, .int .i64 wd, .slice B args.length bc, .int .i64 v] 65)).heap.size := by simp
  have hb0 : Below w.heap.size w (w.alloc (.cells #[.int .i64 0, .int .i64 wd, .slice B args.length bc, .int .i64 v] 65)) := (Below.refl _ _).alloc (Nat.le_refl _) _
  generalize (w.alloc (.cells #[.int .i64 0, .int .i64 wd, .slice B args.length bc, .int .i64 v] 65)) = W0 at *
  have q0 := cell_block (i := 0) r0
  have q1 := cell_block (i := 1) r0
  have q2 := cell_block (i := 2) r0
  have q3 := cell_block (i := 3) r0
  simp at q0 q1 q2 q3
  refine wp_region_aft (by kernel_rfl) (by kernel_rfl) ?_
  repeat (go_big_quiet_step ((go_at_call 102; exact Calls.qs (HAC.out _))))
  refine wpQuiet_nil ?_
  intro y
  have R0 := Lib.hid (show y.val.heap[w.heap.size]? = some (.cells #[.int .i64 0, .int .i64 wd, .slice B args.length bc, .int .i64 v] 65) by rw [y.pf.block _ z0]; exact r0)
  have hbw : Below w.heap.size w y.val := y.below hb0 hb0.size
  have zy : w.heap.size < y.val.heap.size := y.lt' z0
  clear r0 q0 q1 q2 q3 hb0 z0
  generalize y.val = W1 at *
  have r0 := R0.out
  have q0 := cell_block (i := 0) r0
  have q1 := cell_block (i := 1) r0
  have q2 := cell_block (i := 2) r0
  have q3 := cell_block (i := 3) r0
  simp at q0 q1 q2 q3
  clear r0
  go_wp2
  go_loop [8] (fun v8 => ∃ j : Nat, j ≤ args.length ∧ v8 = .int .i64 j ∧ (∀ x ∈ args.take j, isIx x i = true)) (fun v8 => args.length - (intOf v8).toNat)
  case atStart => exact ⟨0, by omega, rfl, by simp⟩
  case round =>
    obtain ⟨j, hj, rfl, hall⟩ := hrel
    by_cases hlt : j < args.length
    · have hjj : (j : Int) < args.length := by omega
      have HX := Lib.hid (List.getElem?_eq_getElem hlt)
      have HM := Lib.hid (List.getElem_mem hlt)
      have HT := Lib.hid (List.take_succ_eq_append_getElem hlt)
      generalize args[j] = x at *
      obtain ⟨ab, rfl, hbb, hcx⟩ := (HB.out.below hbw).cell HX.out
      have HV := Lib.hid (fun w => by have k := Within_c x 0 ((i : Int) - 1) w; rw [isIx_w, H4.out x HM.out] at k; exact k)
      have HA := Lib.hid hall
      clear hall
      go_wp2_with (go_at_call 31; ((with_reducible refine (HV.out _).mono ?_); rintro e w' ⟨rfl, rfl⟩))
      go_round
      case rel => exact ⟨j + 1, by omega, by go_num, fun z hz => by
        rw [HT.out, List.mem_append] at hz
        rcases hz with hz | hz
        · exact HA.out z hz
        · rw [List.mem_singleton.1 hz]; exact H4.out _ HM.out⟩
      case measure => simp [intOf]; omega
    · obtain rfl : j = args.length := by omega
      clear hall
      go_wp2_with (go_at_call 32; ((with_reducible refine (HU.out _).mono ?_); rintro e w' ⟨rfl, rfl⟩))
      go_ret
      exact ⟨rfl, Below.aft hbw⟩

set_option maxRecDepth 100000 in
set_option maxHeartbeats 1600000 in
theorem nodeErr_1A (A : Option Addr) (cap : Nat) (ls : List Int) (hls : ls.length ≤ 65536) (ad : Addr) (capN : Nat) (ns : List Nd) (hns : ns.length ≤ 65536) (i : Nat) (wd v : Int) (args : List Int) (hla : args.length ≤ 65536) (hi : ns[i]? = some ⟨1, wd, args, v⟩) (w : World) (hA : LiesI w A ls) (hN : LiesN w (some ad) ns) (h1 : isIx 1 19 = true) (h2 : isW wd = true) (h3 : (args.length : Int) = argN 1) (h4 : ∀ x ∈ args, isIx x (ns.take i).length = true) (h5 : isIx v ls.length = false) :
    Calls Tryd.prog 84 #[.slice A ls.length cap, .slice (some ad) ns.length capN, .int .i64 i] w fun e w' => e = .returned (.int .i64 6) ∧ ∃ x : Aft w, w' = x.val := by
  obtain ⟨ad', had, hbk, c0, c1, c3, B, bc, c2, hB⟩ := hN.cells hi
  obtain rfl : ad = ad' := Option.some.inj had
  have hil := (List.getElem?_eq_some_iff.1 hi).1
  have hik : (i : Int) < ns.length := by omega
  have c1' : w.cell? ⟨(ad.add (i * 4)).block, (ad.add (i * 4)).off + 1, none⟩ = some (.int .i64 wd) := c1
  have c2' : w.cell? ⟨(ad.add (i * 4)).block, (ad.add (i * 4)).off + 2, none⟩ = some (.slice B args.length bc) := c2
  have c3' : w.cell? ⟨(ad.add (i * 4)).block, (ad.add (i * 4)).off + 3, none⟩ = some (.int .i64 v) := c3
  have hlk : (ns.take i).length = i := by simp; omega
  clear c1 c2 c3 had
  have HI := Lib.hid (fun w => by have k := Within_c 1 0 18 w; rw [show win 1 0 18 = true by rw [← h1]; exact (isIx_win 1 19).symm] at k; exact k)
  have HW := Lib.hid (fun w => by have k := IsWidth_c wd w; rw [h2] at k; exact k)
  have HAC := Lib.hid (fun w => by have k := ArgCount_c 1 w; rw [← h3] at k; exact k)
  have HB := Lib.hid hB
  have HU := Lib.hid (fun w => by have k := Within_c v 0 (((ls.length : Nat) : Int) - 1) w; rw [isIx_w, h5] at k; exact k)
  rw [hlk] at h4
  have H4 := Lib.hid h4
  clear hA hN hB h1 h2 hi hlk h3 h4 h5
  go_enter Tryd.func84, Tryd.ntmps84
  go_wp2_with (first | (go_at_call 31; ((with_reducible refine (HI.out _).mono ?_); rintro e w' ⟨rfl, rfl⟩)) | (go_at_call 52; ((with_reducible refine (HW.out _).mono ?_); rintro e w' ⟨rfl, rfl⟩)))
  have r0 : (w.alloc (.cells #[.int .i64 1, .int .i64 wd, .slice B args.length bc, .int .i64 v] 65)).heap[w.heap.size]? = some (.cells #[.int .i64 1, .int .i64 wd, .slice B args.length bc, .int .i64 v] 65) := heap_alloc_new _ _
  have z0 : w.heap.size < (w.alloc (.cells #[.int .i64 1, .int .i64 wd, .slice B args.length bc, .int .i64 v] 65)).heap.size := by simp
  have hb0 : Below w.heap.size w (w.alloc (.cells #[.int .i64 1, .int .i64 wd, .slice B args.length bc, .int .i64 v] 65)) := (Below.refl _ _).alloc (Nat.le_refl _) _
  generalize (w.alloc (.cells #[.int .i64 1, .int .i64 wd, .slice B args.length bc, .int .i64 v] 65)) = W0 at *
  have q0 := cell_block (i := 0) r0
  have q1 := cell_block (i := 1) r0
  have q2 := cell_block (i := 2) r0
  have q3 := cell_block (i := 3) r0
  simp at q0 q1 q2 q3
  refine wp_region_aft (by kernel_rfl) (by kernel_rfl) ?_
  repeat (go_big_quiet_step ((go_at_call 102; exact Calls.qs (HAC.out _))))
  refine wpQuiet_nil ?_
  intro y
  have R0 := Lib.hid (show y.val.heap[w.heap.size]? = some (.cells #[.int .i64 1, .int .i64 wd, .slice B args.length bc, .int .i64 v] 65) by rw [y.pf.block _ z0]; exact r0)
  have hbw : Below w.heap.size w y.val := y.below hb0 hb0.size
  have zy : w.heap.size < y.val.heap.size := y.lt' z0
  clear r0 q0 q1 q2 q3 hb0 z0
  generalize y.val = W1 at *
  have r0 := R0.out
  have q0 := cell_block (i := 0) r0
  have q1 := cell_block (i := 1) r0
  have q2 := cell_block (i := 2) r0
  have q3 := cell_block (i := 3) r0
  simp at q0 q1 q2 q3
  clear r0
  go_wp2
  go_loop [8] (fun v8 => ∃ j : Nat, j ≤ args.length ∧ v8 = .int .i64 j ∧ (∀ x ∈ args.take j, isIx x i = true)) (fun v8 => args.length - (intOf v8).toNat)
  case atStart => exact ⟨0, by omega, rfl, by simp⟩
  case round =>
    obtain ⟨j, hj, rfl, hall⟩ := hrel
    by_cases hlt : j < args.length
    · have hjj : (j : Int) < args.length := by omega
      have HX := Lib.hid (List.getElem?_eq_getElem hlt)
      have HM := Lib.hid (List.getElem_mem hlt)
      have HT := Lib.hid (List.take_succ_eq_append_getElem hlt)
      generalize args[j] = x at *
      obtain ⟨ab, rfl, hbb, hcx⟩ := (HB.out.below hbw).cell HX.out
      have HV := Lib.hid (fun w => by have k := Within_c x 0 ((i : Int) - 1) w; rw [isIx_w, H4.out x HM.out] at k; exact k)
      have HA := Lib.hid hall
      clear hall
      go_wp2_with (go_at_call 31; ((with_reducible refine (HV.out _).mono ?_); rintro e w' ⟨rfl, rfl⟩))
      go_round
      case rel => exact ⟨j + 1, by omega, by go_num, fun z hz => by
        rw [HT.out, List.mem_append] at hz
        rcases hz with hz | hz
        · exact HA.out z hz
        · rw [List.mem_singleton.1 hz]; exact H4.out _ HM.out⟩
      case measure => simp [intOf]; omega
    · obtain rfl : j = args.length := by omega
      clear hall
      go_wp2_with (go_at_call 31; ((with_reducible refine (HU.out _).mono ?_); rintro e w' ⟨rfl, rfl⟩))
      go_ret
      exact ⟨rfl, Below.aft hbw⟩

set_option maxRecDepth 100000 in
set_option maxHeartbeats 1600000 in
theorem nodeErr_1B (k : Nat) (lw : Int) (A : Option Addr) (cap : Nat) (ls : List Int) (hls : ls.length ≤ 65536) (ad : Addr) (capN : Nat) (ns : List Nd) (hns : ns.length ≤ 65536) (i : Nat) (wd : Int) (args : List Int) (hla : args.length ≤ 65536) (hi : ns[i]? = some ⟨1, wd, args, (k : Int)⟩) (w : World) (hA : LiesI w A ls) (hN : LiesN w (some ad) ns) (h1 : isIx 1 19 = true) (h2 : isW wd = true) (h3 : (args.length : Int) = argN 1) (h4 : ∀ x ∈ args, isIx x (ns.take i).length = true) (h5 : isIx (k : Int) ls.length = true) (hy : ls[k]? = some lw) (h6 : ¬ lw = wd) :
    Calls Tryd.prog 84 #[.slice A ls.length cap, .slice (some ad) ns.length capN, .int .i64 i] w fun e w' => e = .returned (.int .i64 25) ∧ ∃ x : Aft w, w' = x.val := by
  obtain ⟨ad', had, hbk, c0, c1, c3, B, bc, c2, hB⟩ := hN.cells hi
  obtain rfl : ad = ad' := Option.some.inj had
  have hil := (List.getElem?_eq_some_iff.1 hi).1
  have hik : (i : Int) < ns.length := by omega
  have c1' : w.cell? ⟨(ad.add (i * 4)).block, (ad.add (i * 4)).off + 1, none⟩ = some (.int .i64 wd) := c1
  have c2' : w.cell? ⟨(ad.add (i * 4)).block, (ad.add (i * 4)).off + 2, none⟩ = some (.slice B args.length bc) := c2
  have c3' : w.cell? ⟨(ad.add (i * 4)).block, (ad.add (i * 4)).off + 3, none⟩ = some (.int .i64 (k : Int)) := c3
  have hlk : (ns.take i).length = i := by simp; omega
  clear c1 c2 c3 had
  have HI := Lib.hid (fun w => by have k := Within_c 1 0 18 w; rw [show win 1 0 18 = true by rw [← h1]; exact (isIx_win 1 19).symm] at k; exact k)
  have HW := Lib.hid (fun w => by have k := IsWidth_c wd w; rw [h2] at k; exact k)
  have HAC := Lib.hid (fun w => by have k := ArgCount_c 1 w; rw [← h3] at k; exact k)
  have HB := Lib.hid hB
  have HU := Lib.hid (fun w => by have kk := Within_c (k : Int) 0 (((ls.length : Nat) : Int) - 1) w; rw [isIx_w, h5] at kk; exact kk)
  obtain ⟨al, rfl, hbl, hcl⟩ := hA.cell hy
  have HC := Lib.hid hcl
  have hkl : (k : Int) < ls.length := (isIx_iff.1 h5).2
  have n6 : (lw == wd) = false := by simpa using h6
  rw [hlk] at h4
  have H4 := Lib.hid h4
  clear hA hN hB h1 h2 hi hlk h3 h4 h5 h6 hcl hy
  go_enter Tryd.func84, Tryd.ntmps84
  go_wp2_with (first | (go_at_call 31; ((with_reducible refine (HI.out _).mono ?_); rintro e w' ⟨rfl, rfl⟩)) | (go_at_call 52; ((with_reducible refine (HW.out _).mono ?_); rintro e w' ⟨rfl, rfl⟩)))
  have r0 : (w.alloc (.cells #[.int .i64 1, .int .i64 wd, .slice B args.length bc, .int .i64 (k : Int)] 65)).heap[w.heap.size]? = some (.cells #[.int .i64 1, .int .i64 wd, .slice B args.length bc, .int .i64 (k : Int)] 65) := heap_alloc_new _ _
  have z0 : w.heap.size < (w.alloc (.cells #[.int .i64 1, .int .i64 wd, .slice B args.length bc, .int .i64 (k : Int)] 65)).heap.size := by simp
  have hb0 : Below w.heap.size w (w.alloc (.cells #[.int .i64 1, .int .i64 wd, .slice B args.length bc, .int .i64 (k : Int)] 65)) := (Below.refl _ _).alloc (Nat.le_refl _) _
  generalize (w.alloc (.cells #[.int .i64 1, .int .i64 wd, .slice B args.length bc, .int .i64 (k : Int)] 65)) = W0 at *
  have q0 := cell_block (i := 0) r0
  have q1 := cell_block (i := 1) r0
  have q2 := cell_block (i := 2) r0
  have q3 := cell_block (i := 3) r0
  simp at q0 q1 q2 q3
  refine wp_region_aft (by kernel_rfl) (by kernel_rfl) ?_
  repeat (go_big_quiet_step ((go_at_call 102; exact Calls.qs (HAC.out _))))
  refine wpQuiet_nil ?_
  intro y
  have R0 := Lib.hid (show y.val.heap[w.heap.size]? = some (.cells #[.int .i64 1, .int .i64 wd, .slice B args.length bc, .int .i64 (k : Int)] 65) by rw [y.pf.block _ z0]; exact r0)
  have hbw : Below w.heap.size w y.val := y.below hb0 hb0.size
  have zy : w.heap.size < y.val.heap.size := y.lt' z0
  clear r0 q0 q1 q2 q3 hb0 z0
  generalize y.val = W1 at *
  have r0 := R0.out
  have q0 := cell_block (i := 0) r0
  have q1 := cell_block (i := 1) r0
  have q2 := cell_block (i := 2) r0
  have q3 := cell_block (i := 3) r0
  simp at q0 q1 q2 q3
  clear r0
  go_wp2
  go_loop [8] (fun v8 => ∃ j : Nat, j ≤ args.length ∧ v8 = .int .i64 j ∧ (∀ x ∈ args.take j, isIx x i = true)) (fun v8 => args.length - (intOf v8).toNat)
  case atStart => exact ⟨0, by omega, rfl, by simp⟩
  case round =>
    obtain ⟨j, hj, rfl, hall⟩ := hrel
    by_cases hlt : j < args.length
    · have hjj : (j : Int) < args.length := by omega
      have HX := Lib.hid (List.getElem?_eq_getElem hlt)
      have HM := Lib.hid (List.getElem_mem hlt)
      have HT := Lib.hid (List.take_succ_eq_append_getElem hlt)
      generalize args[j] = x at *
      obtain ⟨ab, rfl, hbb, hcx⟩ := (HB.out.below hbw).cell HX.out
      have HV := Lib.hid (fun w => by have k := Within_c x 0 ((i : Int) - 1) w; rw [isIx_w, H4.out x HM.out] at k; exact k)
      have HA := Lib.hid hall
      clear hall
      go_wp2_with (go_at_call 31; ((with_reducible refine (HV.out _).mono ?_); rintro e w' ⟨rfl, rfl⟩))
      go_round
      case rel => exact ⟨j + 1, by omega, by go_num, fun z hz => by
        rw [HT.out, List.mem_append] at hz
        rcases hz with hz | hz
        · exact HA.out z hz
        · rw [List.mem_singleton.1 hz]; exact H4.out _ HM.out⟩
      case measure => simp [intOf]; omega
    · obtain rfl : j = args.length := by omega
      clear hall
      have c : W1.cell? (al.add k) = some (.int .i64 lw) := (hbw.cell (p := al.add k) (by rw [addB]; exact hbl)).trans HC.out
      have hlw : al.block < W1.heap.size := Nat.lt_of_lt_of_le hbl hbw.size
      have cx : ∀ x' : Aft W1, x'.val.cell? (al.add k) = some (.int .i64 lw) := fun x' => (x'.pf.cell (p := al.add k) (by rw [addB]; exact hlw)).trans c
      go_wp2_with (go_at_call 31; ((with_reducible refine (HU.out _).mono ?_); rintro e w' ⟨rfl, rfl⟩))
      refine wp_region_aft (by kernel_rfl) (by kernel_rfl) ?_
      repeat (go_big_quiet_step (fail))
      refine wpQuiet_nil ?_
      intro z
      go_wp2
      go_ret
      exact ⟨rfl, Below.aft (z.below hbw hbw.size)⟩

set_option maxRecDepth 100000 in
set_option maxHeartbeats 1600000 in
theorem nodeErr_1C (k : Nat) (lw : Int) (A : Option Addr) (cap : Nat) (ls : List Int) (hls : ls.length ≤ 65536) (ad : Addr) (capN : Nat) (ns : List Nd) (hns : ns.length ≤ 65536) (i : Nat) (wd : Int) (args : List Int) (hla : args.length ≤ 65536) (hi : ns[i]? = some ⟨1, wd, args, (k : Int)⟩) (w : World) (hA : LiesI w A ls) (hN : LiesN w (some ad) ns) (h1 : isIx 1 19 = true) (h2 : isW wd = true) (h3 : (args.length : Int) = argN 1) (h4 : ∀ x ∈ args, isIx x (ns.take i).length = true) (h5 : isIx (k : Int) ls.length = true) (hy : ls[k]? = some lw) (h6 : lw = wd) :
    Calls Tryd.prog 84 #[.slice A ls.length cap, .slice (some ad) ns.length capN, .int .i64 i] w fun e w' => e = .returned (.int .i64 0) ∧ ∃ x : Aft w, w' = x.val := by
  obtain ⟨ad', had, hbk, c0, c1, c3, B, bc, c2, hB⟩ := hN.cells hi
  obtain rfl : ad = ad' := Option.some.inj had
  have hil := (List.getElem?_eq_some_iff.1 hi).1
  have hik : (i : Int) < ns.length := by omega
  have c1' : w.cell? ⟨(ad.add (i * 4)).block, (ad.add (i * 4)).off + 1, none⟩ = some (.int .i64 wd) := c1
  have c2' : w.cell? ⟨(ad.add (i * 4)).block, (ad.add (i * 4)).off + 2, none⟩ = some (.slice B args.length bc) := c2
  have c3' : w.cell? ⟨(ad.add (i * 4)).block, (ad.add (i * 4)).off + 3, none⟩ = some (.int .i64 (k : Int)) := c3
  have hlk : (ns.take i).length = i := by simp; omega
  clear c1 c2 c3 had
  have HI := Lib.hid (fun w => by have k := Within_c 1 0 18 w; rw [show win 1 0 18 = true by rw [← h1]; exact (isIx_win 1 19).symm] at k; exact k)
  have HW := Lib.hid (fun w => by have k := IsWidth_c wd w; rw [h2] at k; exact k)
  have HAC := Lib.hid (fun w => by have k := ArgCount_c 1 w; rw [← h3] at k; exact k)
  have HB := Lib.hid hB
  have HU := Lib.hid (fun w => by have kk := Within_c (k : Int) 0 (((ls.length : Nat) : Int) - 1) w; rw [isIx_w, h5] at kk; exact kk)
  obtain ⟨al, rfl, hbl, hcl⟩ := hA.cell hy
  have HC := Lib.hid hcl
  have hkl : (k : Int) < ls.length := (isIx_iff.1 h5).2
  have n6 : (lw == wd) = true := by simpa using h6
  rw [hlk] at h4
  have H4 := Lib.hid h4
  clear hA hN hB h1 h2 hi hlk h3 h4 h5 h6 hcl hy
  go_enter Tryd.func84, Tryd.ntmps84
  go_wp2_with (first | (go_at_call 31; ((with_reducible refine (HI.out _).mono ?_); rintro e w' ⟨rfl, rfl⟩)) | (go_at_call 52; ((with_reducible refine (HW.out _).mono ?_); rintro e w' ⟨rfl, rfl⟩)))
  have r0 : (w.alloc (.cells #[.int .i64 1, .int .i64 wd, .slice B args.length bc, .int .i64 (k : Int)] 65)).heap[w.heap.size]? = some (.cells #[.int .i64 1, .int .i64 wd, .slice B args.length bc, .int .i64 (k : Int)] 65) := heap_alloc_new _ _
  have z0 : w.heap.size < (w.alloc (.cells #[.int .i64 1, .int .i64 wd, .slice B args.length bc, .int .i64 (k : Int)] 65)).heap.size := by simp
  have hb0 : Below w.heap.size w (w.alloc (.cells #[.int .i64 1, .int .i64 wd, .slice B args.length bc, .int .i64 (k : Int)] 65)) := (Below.refl _ _).alloc (Nat.le_refl _) _
  generalize (w.alloc (.cells #[.int .i64 1, .int .i64 wd, .slice B args.length bc, .int .i64 (k : Int)] 65)) = W0 at *
  have q0 := cell_block (i := 0) r0
  have q1 := cell_block (i := 1) r0
  have q2 := cell_block (i := 2) r0
  have q3 := cell_block (i := 3) r0
  simp at q0 q1 q2 q3
  refine wp_region_aft (by kernel_rfl) (by kernel_rfl) ?_
  repeat (go_big_quiet_step ((go_at_call 102; exact Calls.qs (HAC.out _))))
  refine wpQuiet_nil ?_
  intro y
  have R0 := Lib.hid (show y.val.heap[w.heap.size]? = some (.cells #[.int .i64 1, .int .i64 wd, .slice B args.length bc, .int .i64 (k : Int)] 65) by rw [y.pf.block _ z0]; exact r0)
  have hbw : Below w.heap.size w y.val := y.below hb0 hb0.size
  have zy : w.heap.size < y.val.heap.size := y.lt' z0
  clear r0 q0 q1 q2 q3 hb0 z0
  generalize y.val = W1 at *
  have r0 := R0.out
  have q0 := cell_block (i := 0) r0
  have q1 := cell_block (i := 1) r0
  have q2 := cell_block (i := 2) r0
  have q3 := cell_block (i := 3) r0
  simp at q0 q1 q2 q3
  clear r0
  go_wp2
  go_loop [8] (fun v8 => ∃ j : Nat, j ≤ args.length ∧ v8 = .int .i64 j ∧ (∀ x ∈ args.take j, isIx x i = true)) (fun v8 => args.length - (intOf v8).toNat)
  case atStart => exact ⟨0, by omega, rfl, by simp⟩
  case round =>
    obtain ⟨j, hj, rfl, hall⟩ := hrel
    by_cases hlt : j < args.length
    · have hjj : (j : Int) < args.length := by omega
      have HX := Lib.hid (List.getElem?_eq_getElem hlt)
      have HM := Lib.hid (List.getElem_mem hlt)
      have HT := Lib.hid (List.take_succ_eq_append_getElem hlt)
      generalize args[j] = x at *
      obtain ⟨ab, rfl, hbb, hcx⟩ := (HB.out.below hbw).cell HX.out
      have HV := Lib.hid (fun w => by have k := Within_c x 0 ((i : Int) - 1) w; rw [isIx_w, H4.out x HM.out] at k; exact k)
      have HA := Lib.hid hall
      clear hall
      go_wp2_with (go_at_call 31; ((with_reducible refine (HV.out _).mono ?_); rintro e w' ⟨rfl, rfl⟩))
      go_round
      case rel => exact ⟨j + 1, by omega, by go_num, fun z hz => by
        rw [HT.out, List.mem_append] at hz
        rcases hz with hz | hz
        · exact HA.out z hz
        · rw [List.mem_singleton.1 hz]; exact H4.out _ HM.out⟩
      case measure => simp [intOf]; omega
    · obtain rfl : j = args.length := by omega
      clear hall
      have c : W1.cell? (al.add k) = some (.int .i64 lw) := (hbw.cell (p := al.add k) (by rw [addB]; exact hbl)).trans HC.out
      have hlw : al.block < W1.heap.size := Nat.lt_of_lt_of_le hbl hbw.size
      have cx : ∀ x' : Aft W1, x'.val.cell? (al.add k) = some (.int .i64 lw) := fun x' => (x'.pf.cell (p := al.add k) (by rw [addB]; exact hlw)).trans c
      go_wp2_with (go_at_call 31; ((with_reducible refine (HU.out _).mono ?_); rintro e w' ⟨rfl, rfl⟩))
      refine wp_region_aft (by kernel_rfl) (by kernel_rfl) ?_
      repeat (go_big_quiet_step (fail))
      refine wpQuiet_nil ?_
      intro z
      go_wp2
      go_ret
      exact ⟨rfl, Below.aft (z.below hbw hbw.size)⟩

set_option maxRecDepth 100000 in
set_option maxHeartbeats 1600000 in
theorem nodeErr_14F (A : Option Addr) (cap : Nat) (ls : List Int) (hls : ls.length ≤ 65536) (ad : Addr) (capN : Nat) (ns : List Nd) (hns : ns.length ≤ 65536) (i : Nat) (wd v : Int) (args : List Int) (hla : args.length ≤ 65536) (hi : ns[i]? = some ⟨14, wd, args, v⟩) (w : World) (hA : LiesI w A ls) (hN : LiesN w (some ad) ns) (h1 : isIx 14 19 = true) (h2 : isW wd = true) (h3 : (args.length : Int) = argN 14) (h4 : ∀ x ∈ args, isIx x (ns.take i).length = true) (h5 : isIx v 16 = false) :
    Calls Tryd.prog 84 #[.slice A ls.length cap, .slice (some ad) ns.length capN, .int .i64 i] w fun e w' => e = .returned (.int .i64 2) ∧ ∃ x : Aft w, w' = x.val := by
  obtain ⟨ad', had, hbk, c0, c1, c3, B, bc, c2, hB⟩ := hN.cells hi
  obtain rfl : ad = ad' := Option.some.inj had
  have hil := (List.getElem?_eq_some_iff.1 hi).1
  have hik : (i : Int) < ns.length := by omega
  have c1' : w.cell? ⟨(ad.add (i * 4)).block, (ad.add (i * 4)).off + 1, none⟩ = some (.int .i64 wd) := c1
  have c2' : w.cell? ⟨(ad.add (i * 4)).block, (ad.add (i * 4)).off + 2, none⟩ = some (.slice B args.length bc) := c2
  have c3' : w.cell? ⟨(ad.add (i * 4)).block, (ad.add (i * 4)).off + 3, none⟩ = some (.int .i64 v) := c3
  have hlk : (ns.take i).length = i := by simp; omega
  clear c1 c2 c3 had
  have HI := Lib.hid (fun w => by have k := Within_c 14 0 18 w; rw [show win 14 0 18 = true by rw [← h1]; exact (isIx_win 14 19).symm] at k; exact k)
  have HW := Lib.hid (fun w => by have k := IsWidth_c wd w; rw [h2] at k; exact k)
  have HAC := Lib.hid (fun w => by have k := ArgCount_c 14 w; rw [← h3] at k; exact k)
  have HB := Lib.hid hB
  have HU := Lib.hid (fun w => by have k := Within_c v 0 15 w; rw [show win v 0 15 = false by rw [← h5]; exact (isIx_win v 16).symm] at k; exact k)
  rw [hlk] at h4
  have H4 := Lib.hid h4
  clear hA hN hB h1 h2 hi hlk h3 h4 h5
  go_enter Tryd.func84, Tryd.ntmps84
  go_wp2_with (first | (go_at_call 31; ((with_reducible refine (HI.out _).mono ?_); rintro e w' ⟨rfl, rfl⟩)) | (go_at_call 52; ((with_reducible refine (HW.out _).mono ?_); rintro e w' ⟨rfl, rfl⟩)))
  have r0 : (w.alloc (.cells #[.int .i64 14, .int .i64 wd, .slice B args.length bc, .int .i64 v] 65)).heap[w.heap.size]? = some (.cells #[.int .i64 14, .int .i64 wd, .slice B args.length bc, .int .i64 v] 65) := heap_alloc_new _ _
  have z0 : w.heap.size < (w.alloc (.cells #[.int .i64 14, .int .i64 wd, .slice B args.length bc, .int .i64 v] 65)).heap.size := by simp
  have hb0 : Below w.heap.size w (w.alloc (.cells #[.int .i64 14, .int .i64 wd, .slice B args.length bc, .int .i64 v] 65)) := (Below.refl _ _).alloc (Nat.le_refl _) _
  generalize (w.alloc (.cells #[.int .i64 14, .int .i64 wd, .slice B args.length bc, .int .i64 v] 65)) = W0 at *
  have q0 := cell_block (i := 0) r0
  have q1 := cell_block (i := 1) r0
  have q2 := cell_block (i := 2) r0
  have q3 := cell_block (i := 3) r0
  simp at q0 q1 q2 q3
  refine wp_region_aft (by kernel_rfl) (by kernel_rfl) ?_
  repeat (go_big_quiet_step ((go_at_call 102; exact Calls.qs (HAC.out _))))
  refine wpQuiet_nil ?_
  intro y
  have R0 := Lib.hid (show y.val.heap[w.heap.size]? = some (.cells #[.int .i64 14, .int .i64 wd, .slice B args.length bc, .int .i64 v] 65) by rw [y.pf.block _ z0]; exact r0)
  have hbw : Below w.heap.size w y.val := y.below hb0 hb0.size
  have zy : w.heap.size < y.val.heap.size := y.lt' z0
  clear r0 q0 q1 q2 q3 hb0 z0
  generalize y.val = W1 at *
  have r0 := R0.out
  have q0 := cell_block (i := 0) r0
  have q1 := cell_block (i := 1) r0
  have q2 := cell_block (i := 2) r0
  have q3 := cell_block (i := 3) r0
  simp at q0 q1 q2 q3
  clear r0
  go_wp2
  go_loop [8] (fun v8 => ∃ j : Nat, j ≤ args.length ∧ v8 = .int .i64 j ∧ (∀ x ∈ args.take j, isIx x i = true)) (fun v8 => args.length - (intOf v8).toNat)
  case atStart => exact ⟨0, by omega, rfl, by simp⟩
  case round =>
    obtain ⟨j, hj, rfl, hall⟩ := hrel
    by_cases hlt : j < args.length
    · have hjj : (j : Int) < args.length := by omega
      have HX := Lib.hid (List.getElem?_eq_getElem hlt)
      have HM := Lib.hid (List.getElem_mem hlt)
      have HT := Lib.hid (List.take_succ_eq_append_getElem hlt)
      generalize args[j] = x at *
      obtain ⟨ab, rfl, hbb, hcx⟩ := (HB.out.below hbw).cell HX.out
      have HV := Lib.hid (fun w => by have k := Within_c x 0 ((i : Int) - 1) w; rw [isIx_w, H4.out x HM.out] at k; exact k)
      have HA := Lib.hid hall
      clear hall
      go_wp2_with (go_at_call 31; ((with_reducible refine (HV.out _).mono ?_); rintro e w' ⟨rfl, rfl⟩))
      go_round
      case rel => exact ⟨j + 1, by omega, by go_num, fun z hz => by
        rw [HT.out, List.mem_append] at hz
        rcases hz with hz | hz
        · exact HA.out z hz
        · rw [List.mem_singleton.1 hz]; exact H4.out _ HM.out⟩
      case measure => simp [intOf]; omega
    · obtain rfl : j = args.length := by omega
      clear hall
      go_wp2_with (go_at_call 31; ((with_reducible refine (HU.out _).mono ?_); rintro e w' ⟨rfl, rfl⟩))
      go_ret
      exact ⟨rfl, Below.aft hbw⟩

set_option maxRecDepth 100000 in
set_option maxHeartbeats 1600000 in
theorem nodeErr_14T (A : Option Addr) (cap : Nat) (ls : List Int) (hls : ls.length ≤ 65536) (ad : Addr) (capN : Nat) (ns : List Nd) (hns : ns.length ≤ 65536) (i : Nat) (wd v : Int) (args : List Int) (hla : args.length ≤ 65536) (hi : ns[i]? = some ⟨14, wd, args, v⟩) (w : World) (hA : LiesI w A ls) (hN : LiesN w (some ad) ns) (h1 : isIx 14 19 = true) (h2 : isW wd = true) (h3 : (args.length : Int) = argN 14) (h4 : ∀ x ∈ args, isIx x (ns.take i).length = true) (h5 : isIx v 16 = true) (hv : ∀ n ∈ ns.take i, isW n.wd = true) (hg : (14 : Int) ≤ 18) (h6 : fitW 14 wd v (wAt (ns.take i) args 0) (wAt (ns.take i) args 1) (wAt (ns.take i) args 2) = false) :
    Calls Tryd.prog 84 #[.slice A ls.length cap, .slice (some ad) ns.length capN, .int .i64 i] w fun e w' => e = .returned (.int .i64 25) ∧ ∃ x : Aft w, w' = x.val := by
  obtain ⟨ad', had, hbk, c0, c1, c3, B, bc, c2, hB⟩ := hN.cells hi
  obtain rfl : ad = ad' := Option.some.inj had
  have hil := (List.getElem?_eq_some_iff.1 hi).1
  have hik : (i : Int) < ns.length := by omega
  have c1' : w.cell? ⟨(ad.add (i * 4)).block, (ad.add (i * 4)).off + 1, none⟩ = some (.int .i64 wd) := c1
  have c2' : w.cell? ⟨(ad.add (i * 4)).block, (ad.add (i * 4)).off + 2, none⟩ = some (.slice B args.length bc) := c2
  have c3' : w.cell? ⟨(ad.add (i * 4)).block, (ad.add (i * 4)).off + 3, none⟩ = some (.int .i64 v) := c3
  have hlk : (ns.take i).length = i := by simp; omega
  clear c1 c2 c3 had
  have HI := Lib.hid (fun w => by have k := Within_c 14 0 18 w; rw [show win 14 0 18 = true by rw [← h1]; exact (isIx_win 14 19).symm] at k; exact k)
  have HW := Lib.hid (fun w => by have k := IsWidth_c wd w; rw [h2] at k; exact k)
  have HAC := Lib.hid (fun w => by have k := ArgCount_c 14 w; rw [← h3] at k; exact k)
  have HB := Lib.hid hB
  have HU := Lib.hid (fun w => by have k := Within_c v 0 15 w; rw [show win v 0 15 = true by rw [← h5]; exact (isIx_win v 16).symm] at k; exact k)
  have HF := Lib.hid (fun (W : World) (hb : Below w.heap.size w W) => by
    have k := rwidthsFit_c 14 wd v (by decide) hg (isW_iff.1 h2).1 (isW_iff.1 h2).2 (fun _ => by have := isIx_iff.1 h5; omega) B bc args h3 (some ad) capN ns hns i hv h4 W (hN.below hb) (hB.below hb)
    rw [h6] at k; exact k)
  rw [hlk] at h4
  have H4 := Lib.hid h4
  clear hA hN hB h1 h2 hi hlk h3 h4 h5 h6 hv hg
  go_enter Tryd.func84, Tryd.ntmps84
  go_wp2_with (first | (go_at_call 31; ((with_reducible refine (HI.out _).mono ?_); rintro e w' ⟨rfl, rfl⟩)) | (go_at_call 52; ((with_reducible refine (HW.out _).mono ?_); rintro e w' ⟨rfl, rfl⟩)))
  have r0 : (w.alloc (.cells #[.int .i64 14, .int .i64 wd, .slice B args.length bc, .int .i64 v] 65)).heap[w.heap.size]? = some (.cells #[.int .i64 14, .int .i64 wd, .slice B args.length bc, .int .i64 v] 65) := heap_alloc_new _ _
  have z0 : w.heap.size < (w.alloc (.cells #[.int .i64 14, .int .i64 wd, .slice B args.length bc, .int .i64 v] 65)).heap.size := by simp
  have hb0 : Below w.heap.size w (w.alloc (.cells #[.int .i64 14, .int .i64 wd, .slice B args.length bc, .int .i64 v] 65)) := (Below.refl _ _).alloc (Nat.le_refl _) _
  generalize (w.alloc (.cells #[.int .i64 14, .int .i64 wd, .slice B args.length bc, .int .i64 v] 65)) = W0 at *
  have q0 := cell_block (i := 0) r0
  have q1 := cell_block (i := 1) r0
  have q2 := cell_block (i := 2) r0
  have q3 := cell_block (i := 3) r0
  simp at q0 q1 q2 q3
  refine wp_region_aft (by kernel_rfl) (by kernel_rfl) ?_
  repeat (go_big_quiet_step ((go_at_call 102; exact Calls.qs (HAC.out _))))
  refine wpQuiet_nil ?_
  intro y
  have R0 := Lib.hid (show y.val.heap[w.heap.size]? = some (.cells #[.int .i64 14, .int .i64 wd, .slice B args.length bc, .int .i64 v] 65) by rw [y.pf.block _ z0]; exact r0)
  have hbw : Below w.heap.size w y.val := y.below hb0 hb0.size
  have zy : w.heap.size < y.val.heap.size := y.lt' z0
  clear r0 q0 q1 q2 q3 hb0 z0
  generalize y.val = W1 at *
  have r0 := R0.out
  have q0 := cell_block (i := 0) r0
  have q1 := cell_block (i := 1) r0
  have q2 := cell_block (i := 2) r0
  have q3 := cell_block (i := 3) r0
  simp at q0 q1 q2 q3
  clear r0
  go_wp2
  go_loop [8] (fun v8 => ∃ j : Nat, j ≤ args.length ∧ v8 = .int .i64 j ∧ (∀ x ∈ args.take j, isIx x i = true)) (fun v8 => args.length - (intOf v8).toNat)
  case atStart => exact ⟨0, by omega, rfl, by simp⟩
  case round =>
    obtain ⟨j, hj, rfl, hall⟩ := hrel
    by_cases hlt : j < args.length
    · have hjj : (j : Int) < args.length := by omega
      have HX := Lib.hid (List.getElem?_eq_getElem hlt)
      have HM := Lib.hid (List.getElem_mem hlt)
      have HT := Lib.hid (List.take_succ_eq_append_getElem hlt)
      generalize args[j] = x at *
      obtain ⟨ab, rfl, hbb, hcx⟩ := (HB.out.below hbw).cell HX.out
      have HV := Lib.hid (fun w => by have k := Within_c x 0 ((i : Int) - 1) w; rw [isIx_w, H4.out x HM.out] at k; exact k)
      have HA := Lib.hid hall
      clear hall
      go_wp2_with (go_at_call 31; ((with_reducible refine (HV.out _).mono ?_); rintro e w' ⟨rfl, rfl⟩))
      go_round
      case rel => exact ⟨j + 1, by omega, by go_num, fun z hz => by
        rw [HT.out, List.mem_append] at hz
        rcases hz with hz | hz
        · exact HA.out z hz
        · rw [List.mem_singleton.1 hz]; exact H4.out _ HM.out⟩
      case measure => simp [intOf]; omega
    · obtain rfl : j = args.length := by omega
      clear hall
      go_wp2_with (go_at_call 31; ((with_reducible refine (HU.out _).mono ?_); rintro e w' ⟨rfl, rfl⟩))
      refine (HF.out _ hbw).mono ?_
      rintro e w' ⟨rfl, z, rfl⟩
      go_wp2
      go_ret
      exact ⟨rfl, Below.aft (z.below hbw hbw.size)⟩

set_option maxRecDepth 100000 in
set_option maxHeartbeats 1600000 in
theorem nodeErr_14U (A : Option Addr) (cap : Nat) (ls : List Int) (hls : ls.length ≤ 65536) (ad : Addr) (capN : Nat) (ns : List Nd) (hns : ns.length ≤ 65536) (i : Nat) (wd v : Int) (args : List Int) (hla : args.length ≤ 65536) (hi : ns[i]? = some ⟨14, wd, args, v⟩) (w : World) (hA : LiesI w A ls) (hN : LiesN w (some ad) ns) (h1 : isIx 14 19 = true) (h2 : isW wd = true) (h3 : (args.length : Int) = argN 14) (h4 : ∀ x ∈ args, isIx x (ns.take i).length = true) (h5 : isIx v 16 = true) (hv : ∀ n ∈ ns.take i, isW n.wd = true) (hg : (14 : Int) ≤ 18) (h6 : fitW 14 wd v (wAt (ns.take i) args 0) (wAt (ns.take i) args 1) (wAt (ns.take i) args 2) = true) :
    Calls Tryd.prog 84 #[.slice A ls.length cap, .slice (some ad) ns.length capN, .int .i64 i] w fun e w' => e = .returned (.int .i64 0) ∧ ∃ x : Aft w, w' = x.val := by
  obtain ⟨ad', had, hbk, c0, c1, c3, B, bc, c2, hB⟩ := hN.cells hi
  obtain rfl : ad = ad' := Option.some.inj had
  have hil := (List.getElem?_eq_some_iff.1 hi).1
  have hik : (i : Int) < ns.length := by omega
  have c1' : w.cell? ⟨(ad.add (i * 4)).block, (ad.add (i * 4)).off + 1, none⟩ = some (.int .i64 wd) := c1
  have c2' : w.cell? ⟨(ad.add (i * 4)).block, (ad.add (i * 4)).off + 2, none⟩ = some (.slice B args.length bc) := c2
  have c3' : w.cell? ⟨(ad.add (i * 4)).block, (ad.add (i * 4)).off + 3, none⟩ = some (.int .i64 v) := c3
  have hlk : (ns.take i).length = i := by simp; omega
  clear c1 c2 c3 had
  have HI := Lib.hid (fun w => by have k := Within_c 14 0 18 w; rw [show win 14 0 18 = true by rw [← h1]; exact (isIx_win 14 19).symm] at k; exact k)
  have HW := Lib.hid (fun w => by have k := IsWidth_c wd w; rw [h2] at k; exact k)
  have HAC := Lib.hid (fun w => by have k := ArgCount_c 14 w; rw [← h3] at k; exact k)
  have HB := Lib.hid hB
  have HU := Lib.hid (fun w => by have k := Within_c v 0 15 w; rw [show win v 0 15 = true by rw [← h5]; exact (isIx_win v 16).symm] at k; exact k)
  have HF := Lib.hid (fun (W : World) (hb : Below w.heap.size w W) => by
    have k := rwidthsFit_c 14 wd v (by decide) hg (isW_iff.1 h2).1 (isW_iff.1 h2).2 (fun _ => by have := isIx_iff.1 h5; omega) B bc args h3 (some ad) capN ns hns i hv h4 W (hN.below hb) (hB.below hb)
    rw [h6] at k; exact k)
  rw [hlk] at h4
  have H4 := Lib.hid h4
  clear hA hN hB h1 h2 hi hlk h3 h4 h5 h6 hv hg
  go_enter Tryd.func84, Tryd.ntmps84
  go_wp2_with (first | (go_at_call 31; ((with_reducible refine (HI.out _).mono ?_); rintro e w' ⟨rfl, rfl⟩)) | (go_at_call 52; ((with_reducible refine (HW.out _).mono ?_); rintro e w' ⟨rfl, rfl⟩)))
  have r0 : (w.alloc (.cells #[.int .i64 14, .int .i64 wd, .slice B args.length bc, .int .i64 v] 65)).heap[w.heap.size]? = some (.cells #[.int .i64 14, .int .i64 wd, .slice B args.length bc, .int .i64 v] 65) := heap_alloc_new _ _
  have z0 : w.heap.size < (w.alloc (.cells #[.int .i64 14, .int .i64 wd, .slice B args.length bc, .int .i64 v] 65)).heap.size := by simp
  have hb0 : Below w.heap.size w (w.alloc (.cells #[.int .i64 14, .int .i64 wd, .slice B args.length bc, .int .i64 v] 65)) := (Below.refl _ _).alloc (Nat.le_refl _) _
  generalize (w.alloc (.cells #[.int .i64 14, .int .i64 wd, .slice B args.length bc, .int .i64 v] 65)) = W0 at *
  have q0 := cell_block (i := 0) r0
  have q1 := cell_block (i := 1) r0
  have q2 := cell_block (i := 2) r0
  have q3 := cell_block (i := 3) r0
  simp at q0 q1 q2 q3
  refine wp_region_aft (by kernel_rfl) (by kernel_rfl) ?_
  repeat (go_big_quiet_step ((go_at_call 102; exact Calls.qs (HAC.out _))))
  refine wpQuiet_nil ?_
  intro y
  have R0 := Lib.hid (show y.val.heap[w.heap.size]? = some (.cells #[.int .i64 14, .int .i64 wd, .slice B args.length bc, .int .i64 v] 65) by rw [y.pf.block _ z0]; exact r0)
  have hbw : Below w.heap.size w y.val := y.below hb0 hb0.size
  have zy : w.heap.size < y.val.heap.size := y.lt' z0
  clear r0 q0 q1 q2 q3 hb0 z0
  generalize y.val = W1 at *
  have r0 := R0.out
  have q0 := cell_block (i := 0) r0
  have q1 := cell_block (i := 1) r0
  have q2 := cell_block (i := 2) r0
  have q3 := cell_block (i := 3) r0
  simp at q0 q1 q2 q3
  clear r0
  go_wp2
  go_loop [8] (fun v8 => ∃ j : Nat, j ≤ args.length ∧ v8 = .int .i64 j ∧ (∀ x ∈ args.take j, isIx x i = true)) (fun v8 => args.length - (intOf v8).toNat)
  case atStart => exact ⟨0, by omega, rfl, by simp⟩
  case round =>
    obtain ⟨j, hj, rfl, hall⟩ := hrel
    by_cases hlt : j < args.length
    · have hjj : (j : Int) < args.length := by omega
      have HX := Lib.hid (List.getElem?_eq_getElem hlt)
      have HM := Lib.hid (List.getElem_mem hlt)
      have HT := Lib.hid (List.take_succ_eq_append_getElem hlt)
      generalize args[j] = x at *
      obtain ⟨ab, rfl, hbb, hcx⟩ := (HB.out.below hbw).cell HX.out
      have HV := Lib.hid (fun w => by have k := Within_c x 0 ((i : Int) - 1) w; rw [isIx_w, H4.out x HM.out] at k; exact k)
      have HA := Lib.hid hall
      clear hall
      go_wp2_with (go_at_call 31; ((with_reducible refine (HV.out _).mono ?_); rintro e w' ⟨rfl, rfl⟩))
      go_round
      case rel => exact ⟨j + 1, by omega, by go_num, fun z hz => by
        rw [HT.out, List.mem_append] at hz
        rcases hz with hz | hz
        · exact HA.out z hz
        · rw [List.mem_singleton.1 hz]; exact H4.out _ HM.out⟩
      case measure => simp [intOf]; omega
    · obtain rfl : j = args.length := by omega
      clear hall
      go_wp2_with (go_at_call 31; ((with_reducible refine (HU.out _).mono ?_); rintro e w' ⟨rfl, rfl⟩))
      refine (HF.out _ hbw).mono ?_
      rintro e w' ⟨rfl, z, rfl⟩
      go_wp2
      go_ret
      exact ⟨rfl, Below.aft (z.below hbw hbw.size)⟩

set_option maxRecDepth 100000 in
set_option maxHeartbeats 1600000 in
theorem nodeErr_xF (A : Option Addr) (cap : Nat) (ls : List Int) (hls : ls.length ≤ 65536) (ad : Addr) (capN : Nat) (ns : List Nd) (hns : ns.length ≤ 65536) (i : Nat) (op wd v : Int) (args : List Int) (hla : args.length ≤ 65536) (hi : ns[i]? = some ⟨op, wd, args, v⟩) (w : World) (hA : LiesI w A ls) (hN : LiesN w (some ad) ns) (h1 : isIx op 19 = true) (h2 : isW wd = true) (h3 : (args.length : Int) = argN op) (h4 : ∀ x ∈ args, isIx x (ns.take i).length = true) (o0 : ¬ op = 0) (o1 : ¬ op = 1) (o14 : ¬ op = 14) (h5 : ¬ v = 0) :
    Calls Tryd.prog 84 #[.slice A ls.length cap, .slice (some ad) ns.length capN, .int .i64 i] w fun e w' => e = .returned (.int .i64 3) ∧ ∃ x : Aft w, w' = x.val := by
  obtain ⟨ad', had, hbk, c0, c1, c3, B, bc, c2, hB⟩ := hN.cells hi
  obtain rfl : ad = ad' := Option.some.inj had
  have hil := (List.getElem?_eq_some_iff.1 hi).1
  have hik : (i : Int) < ns.length := by omega
  have c1' : w.cell? ⟨(ad.add (i * 4)).block, (ad.add (i * 4)).off + 1, none⟩ = some (.int .i64 wd) := c1
  have c2' : w.cell? ⟨(ad.add (i * 4)).block, (ad.add (i * 4)).off + 2, none⟩ = some (.slice B args.length bc) := c2
  have c3' : w.cell? ⟨(ad.add (i * 4)).block, (ad.add (i * 4)).off + 3, none⟩ = some (.int .i64 v) := c3
  have hlk : (ns.take i).length = i := by simp; omega
  clear c1 c2 c3 had
  have HI := Lib.hid (fun w => by have k := Within_c op 0 18 w; rw [show win op 0 18 = true by rw [← h1]; exact (isIx_win op 19).symm] at k; exact k)
  have HW := Lib.hid (fun w => by have k := IsWidth_c wd w; rw [h2] at k; exact k)
  have HAC := Lib.hid (fun w => by have k := ArgCount_c op w; rw [← h3] at k; exact k)
  have HB := Lib.hid hB
  have n0 : (op == 0) = false := by simpa using o0
  have n1 : (op == 1) = false := by simpa using o1
  have n14 : (op == 14) = false := by simpa using o14
  have n5 : (v == 0) = false := by simpa using h5
  rw [hlk] at h4
  have H4 := Lib.hid h4
  clear hA hN hB h1 h2 hi hlk h3 h4 h5 o0 o1 o14
  go_enter Tryd.func84, Tryd.ntmps84
  go_wp2_with (first | (go_at_call 31; ((with_reducible refine (HI.out _).mono ?_); rintro e w' ⟨rfl, rfl⟩)) | (go_at_call 52; ((with_reducible refine (HW.out _).mono ?_); rintro e w' ⟨rfl, rfl⟩)))
  have r0 : (w.alloc (.cells #[.int .i64 op, .int .i64 wd, .slice B args.length bc, .int .i64 v] 65)).heap[w.heap.size]? = some (.cells #[.int .i64 op, .int .i64 wd, .slice B args.length bc, .int .i64 v] 65) := heap_alloc_new _ _
  have z0 : w.heap.size < (w.alloc (.cells #[.int .i64 op, .int .i64 wd, .slice B args.length bc, .int .i64 v] 65)).heap.size := by simp
  have hb0 : Below w.heap.size w (w.alloc (.cells #[.int .i64 op, .int .i64 wd, .slice B args.length bc, .int .i64 v] 65)) := (Below.refl _ _).alloc (Nat.le_refl _) _
  generalize (w.alloc (.cells #[.int .i64 op, .int .i64 wd, .slice B args.length bc, .int .i64 v] 65)) = W0 at *
  have q0 := cell_block (i := 0) r0
  have q1 := cell_block (i := 1) r0
  have q2 := cell_block (i := 2) r0
  have q3 := cell_block (i := 3) r0
  simp at q0 q1 q2 q3
  refine wp_region_aft (by kernel_rfl) (by kernel_rfl) ?_
  repeat (go_big_quiet_step ((go_at_call 102; exact Calls.qs (HAC.out _))))
  refine wpQuiet_nil ?_
  intro y
  have R0 := Lib.hid (show y.val.heap[w.heap.size]? = some (.cells #[.int .i64 op, .int .i64 wd, .slice B args.length bc, .int .i64 v] 65) by rw [y.pf.block _ z0]; exact r0)
  have hbw : Below w.heap.size w y.val := y.below hb0 hb0.size
  have zy : w.heap.size < y.val.heap.size := y.lt' z0
  clear r0 q0 q1 q2 q3 hb0 z0
  generalize y.val = W1 at *
  have r0 := R0.out
  have q0 := cell_block (i := 0) r0
  have q1 := cell_block (i := 1) r0
  have q2 := cell_block (i := 2) r0
  have q3 := cell_block (i := 3) r0
  simp at q0 q1 q2 q3
  clear r0
  go_wp2
  go_loop [8] (fun v8 => ∃ j : Nat, j ≤ args.length ∧ v8 = .int .i64 j ∧ (∀ x ∈ args.take j, isIx x i = true)) (fun v8 => args.length - (intOf v8).toNat)
  case atStart => exact ⟨0, by omega, rfl, by simp⟩
  case round =>
    obtain ⟨j, hj, rfl, hall⟩ := hrel
    by_cases hlt : j < args.length
    · have hjj : (j : Int) < args.length := by omega
      have HX := Lib.hid (List.getElem?_eq_getElem hlt)
      have HM := Lib.hid (List.getElem_mem hlt)
      have HT := Lib.hid (List.take_succ_eq_append_getElem hlt)
      generalize args[j] = x at *
      obtain ⟨ab, rfl, hbb, hcx⟩ := (HB.out.below hbw).cell HX.out
      have HV := Lib.hid (fun w => by have k := Within_c x 0 ((i : Int) - 1) w; rw [isIx_w, H4.out x HM.out] at k; exact k)
      have HA := Lib.hid hall
      clear hall
      go_wp2_with (go_at_call 31; ((with_reducible refine (HV.out _).mono ?_); rintro e w' ⟨rfl, rfl⟩))
      go_round
      case rel => exact ⟨j + 1, by omega, by go_num, fun z hz => by
        rw [HT.out, List.mem_append] at hz
        rcases hz with hz | hz
        · exact HA.out z hz
        · rw [List.mem_singleton.1 hz]; exact H4.out _ HM.out⟩
      case measure => simp [intOf]; omega
    · obtain rfl : j = args.length := by omega
      clear hall
      go_wp2
      go_ret
      exact ⟨rfl, Below.aft hbw⟩

set_option maxRecDepth 100000 in
set_option maxHeartbeats 1600000 in
theorem nodeErr_xT (A : Option Addr) (cap : Nat) (ls : List Int) (hls : ls.length ≤ 65536) (ad : Addr) (capN : Nat) (ns : List Nd) (hns : ns.length ≤ 65536) (i : Nat) (op wd : Int) (args : List Int) (hla : args.length ≤ 65536) (hi : ns[i]? = some ⟨op, wd, args, 0⟩) (w : World) (hA : LiesI w A ls) (hN : LiesN w (some ad) ns) (h1 : isIx op 19 = true) (h2 : isW wd = true) (h3 : (args.length : Int) = argN op) (h4 : ∀ x ∈ args, isIx x (ns.take i).length = true) (o0 : ¬ op = 0) (o1 : ¬ op = 1) (o14 : ¬ op = 14) (hg2 : 2 ≤ op) (hv : ∀ n ∈ ns.take i, isW n.wd = true) (hg : op ≤ 18) (h6 : fitW op wd 0 (wAt (ns.take i) args 0) (wAt (ns.take i) args 1) (wAt (ns.take i) args 2) = false) :
    Calls Tryd.prog 84 #[.slice A ls.length cap, .slice (some ad) ns.length capN, .int .i64 i] w fun e w' => e = .returned (.int .i64 25) ∧ ∃ x : Aft w, w' = x.val := by
  obtain ⟨ad', had, hbk, c0, c1, c3, B, bc, c2, hB⟩ := hN.cells hi
  obtain rfl : ad = ad' := Option.some.inj had
  have hil := (List.getElem?_eq_some_iff.1 hi).1
  have hik : (i : Int) < ns.length := by omega
  have c1' : w.cell? ⟨(ad.add (i * 4)).block, (ad.add (i * 4)).off + 1, none⟩ = some (.int .i64 wd) := c1
  have c2' : w.cell? ⟨(ad.add (i * 4)).block, (ad.add (i * 4)).off + 2, none⟩ = some (.slice B args.length bc) := c2
  have c3' : w.cell? ⟨(ad.add (i * 4)).block, (ad.add (i * 4)).off + 3, none⟩ = some (.int .i64 0) := c3
  have hlk : (ns.take i).length = i := by simp; omega
  clear c1 c2 c3 had
  have HI := Lib.hid (fun w => by have k := Within_c op 0 18 w; rw [show win op 0 18 = true by rw [← h1]; exact (isIx_win op 19).symm] at k; exact k)
  have HW := Lib.hid (fun w => by have k := IsWidth_c wd w; rw [h2] at k; exact k)
  have HAC := Lib.hid (fun w => by have k := ArgCount_c op w; rw [← h3] at k; exact k)
  have HB := Lib.hid hB
  have n0 : (op == 0) = false := by simpa using o0
  have n1 : (op == 1) = false := by simpa using o1
  have n14 : (op == 14) = false := by simpa using o14
  have HF := Lib.hid (fun (W : World) (hb : Below w.heap.size w W) => by
    have k := rwidthsFit_c op wd 0 hg2 hg (isW_iff.1 h2).1 (isW_iff.1 h2).2 (fun e => absurd e o14) B bc args h3 (some ad) capN ns hns i hv h4 W (hN.below hb) (hB.below hb)
    rw [h6] at k; exact k)
  rw [hlk] at h4
  have H4 := Lib.hid h4
  clear hA hN hB h1 h2 hi hlk h3 h4 o0 o1 o14 h6 hv hg hg2
  go_enter Tryd.func84, Tryd.ntmps84
  go_wp2_with (first | (go_at_call 31; ((with_reducible refine (HI.out _).mono ?_); rintro e w' ⟨rfl, rfl⟩)) | (go_at_call 52; ((with_reducible refine (HW.out _).mono ?_); rintro e w' ⟨rfl, rfl⟩)))
  have r0 : (w.alloc (.cells #[.int .i64 op, .int .i64 wd, .slice B args.length bc, .int .i64 0] 65)).heap[w.heap.size]? = some (.cells #[.int .i64 op, .int .i64 wd, .slice B args.length bc, .int .i64 0] 65) := heap_alloc_new _ _
  have z0 : w.heap.size < (w.alloc (.cells #[.int .i64 op, .int .i64 wd, .slice B args.length bc, .int .i64 0] 65)).heap.size := by simp
  have hb0 : Below w.heap.size w (w.alloc (.cells #[.int .i64 op, .int .i64 wd, .slice B args.length bc, .int .i64 0] 65)) := (Below.refl _ _).alloc (Nat.le_refl _) _
  generalize (w.alloc (.cells #[.int .i64 op, .int .i64 wd, .slice B args.length bc, .int .i64 0] 65)) = W0 at *
  have q0 := cell_block (i := 0) r0
  have q1 := cell_block (i := 1) r0
  have q2 := cell_block (i := 2) r0
  have q3 := cell_block (i := 3) r0
  simp at q0 q1 q2 q3
  refine wp_region_aft (by kernel_rfl) (by kernel_rfl) ?_
  repeat (go_big_quiet_step ((go_at_call 102; exact Calls.qs (HAC.out _))))
  refine wpQuiet_nil ?_
  intro y
  have R0 := Lib.hid (show y.val.heap[w.heap.size]? = some (.cells #[.int .i64 op, .int .i64 wd, .slice B args.length bc, .int .i64 0] 65) by rw [y.pf.block _ z0]; exact r0)
  have hbw : Below w.heap.size w y.val := y.below hb0 hb0.size
  have zy : w.heap.size < y.val.heap.size := y.lt' z0
  clear r0 q0 q1 q2 q3 hb0 z0
  generalize y.val = W1 at *
  have r0 := R0.out
  have q0 := cell_block (i := 0) r0
  have q1 := cell_block (i := 1) r0
  have q2 := cell_block (i := 2) r0
  have q3 := cell_block (i := 3) r0
  simp at q0 q1 q2 q3
  clear r0
  go_wp2
  go_loop [8] (fun v8 => ∃ j : Nat, j ≤ args.length ∧ v8 = .int .i64 j ∧ (∀ x ∈ args.take j, isIx x i = true)) (fun v8 => args.length - (intOf v8).toNat)
  case atStart => exact ⟨0, by omega, rfl, by simp⟩
  case round =>
    obtain ⟨j, hj, rfl, hall⟩ := hrel
    by_cases hlt : j < args.length
    · have hjj : (j : Int) < args.length := by omega
      have HX := Lib.hid (List.getElem?_eq_getElem hlt)
      have HM := Lib.hid (List.getElem_mem hlt)
      have HT := Lib.hid (List.take_succ_eq_append_getElem hlt)
      generalize args[j] = x at *
      obtain ⟨ab, rfl, hbb, hcx⟩ := (HB.out.below hbw).cell HX.out
      have HV := Lib.hid (fun w => by have k := Within_c x 0 ((i : Int) - 1) w; rw [isIx_w, H4.out x HM.out] at k; exact k)
      have HA := Lib.hid hall
      clear hall
      go_wp2_with (go_at_call 31; ((with_reducible refine (HV.out _).mono ?_); rintro e w' ⟨rfl, rfl⟩))
      go_round
      case rel => exact ⟨j + 1, by omega, by go_num, fun z hz => by
        rw [HT.out, List.mem_append] at hz
        rcases hz with hz | hz
        · exact HA.out z hz
        · rw [List.mem_singleton.1 hz]; exact H4.out _ HM.out⟩
      case measure => simp [intOf]; omega
    · obtain rfl : j = args.length := by omega
      clear hall
      go_wp2_with fail
      refine (HF.out _ hbw).mono ?_
      rintro e w' ⟨rfl, z, rfl⟩
      go_wp2
      go_ret
      exact ⟨rfl, Below.aft (z.below hbw hbw.size)⟩

set_option maxRecDepth 100000 in
set_option maxHeartbeats 1600000 in
theorem nodeErr_xU (A : Option Addr) (cap : Nat) (ls : List Int) (hls : ls.length ≤ 65536) (ad : Addr) (capN : Nat) (ns : List Nd) (hns : ns.length ≤ 65536) (i : Nat) (op wd : Int) (args : List Int) (hla : args.length ≤ 65536) (hi : ns[i]? = some ⟨op, wd, args, 0⟩) (w : World) (hA : LiesI w A ls) (hN : LiesN w (some ad) ns) (h1 : isIx op 19 = true) (h2 : isW wd = true) (h3 : (args.length : Int) = argN op) (h4 : ∀ x ∈ args, isIx x (ns.take i).length = true) (o0 : ¬ op = 0) (o1 : ¬ op = 1) (o14 : ¬ op = 14) (hg2 : 2 ≤ op) (hv : ∀ n ∈ ns.take i, isW n.wd = true) (hg : op ≤ 18) (h6 : fitW op wd 0 (wAt (ns.take i) args 0) (wAt (ns.take i) args 1) (wAt (ns.take i) args 2) = true) :
    Calls Tryd.prog 84 #[.slice A ls.length cap, .slice (some ad) ns.length capN, .int .i64 i] w fun e w' => e = .returned (.int .i64 0) ∧ ∃ x : Aft w, w' = x.val := by
  obtain ⟨ad', had, hbk, c0, c1, c3, B, bc, c2, hB⟩ := hN.cells hi
  obtain rfl : ad = ad' := Option.some.inj had
  have hil := (List.getElem?_eq_some_iff.1 hi).1
  have hik : (i : Int) < ns.length := by omega
  have c1' : w.cell? ⟨(ad.add (i * 4)).block, (ad.add (i * 4)).off + 1, none⟩ = some (.int .i64 wd) := c1
  have c2' : w.cell? ⟨(ad.add (i * 4)).block, (ad.add (i * 4)).off + 2, none⟩ = some (.slice B args.length bc) := c2
  have c3' : w.cell? ⟨(ad.add (i * 4)).block, (ad.add (i * 4)).off + 3, none⟩ = some (.int .i64 0) := c3
  have hlk : (ns.take i).length = i := by simp; omega
  clear c1 c2 c3 had
  have HI := Lib.hid (fun w => by have k := Within_c op 0 18 w; rw [show win op 0 18 = true by rw [← h1]; exact (isIx_win op 19).symm] at k; exact k)
  have HW := Lib.hid (fun w => by have k := IsWidth_c wd w; rw [h2] at k; exact k)
  have HAC := Lib.hid (fun w => by have k := ArgCount_c op w; rw [← h3] at k; exact k)
  have HB := Lib.hid hB
  have n0 : (op == 0) = false := by simpa using o0
  have n1 : (op == 1) = false := by simpa using o1
  have n14 : (op == 14) = false := by simpa using o14
  have HF := Lib.hid (fun (W : World) (hb : Below w.heap.size w W) => by
    have k := rwidthsFit_c op wd 0 hg2 hg (isW_iff.1 h2).1 (isW_iff.1 h2).2 (fun e => absurd e o14) B bc args h3 (some ad) capN ns hns i hv h4 W (hN.below hb) (hB.below hb)
    rw [h6] at k; exact k)
  rw [hlk] at h4
  have H4 := Lib.hid h4
  clear hA hN hB h1 h2 hi hlk h3 h4 o0 o1 o14 h6 hv hg hg2
  go_enter Tryd.func84, Tryd.ntmps84
  go_wp2_with (first | (go_at_call 31; ((with_reducible refine (HI.out _).mono ?_); rintro e w' ⟨rfl, rfl⟩)) | (go_at_call 52; ((with_reducible refine (HW.out _).mono ?_); rintro e w' ⟨rfl, rfl⟩)))
  have r0 : (w.alloc (.cells #[.int .i64 op, .int .i64 wd, .slice B args.length bc, .int .i64 0] 65)).heap[w.heap.size]? = some (.cells #[.int .i64 op, .int .i64 wd, .slice B args.length bc, .int .i64 0] 65) := heap_alloc_new _ _
  have z0 : w.heap.size < (w.alloc (.cells #[.int .i64 op, .int .i64 wd, .slice B args.length bc, .int .i64 0] 65)).heap.size := by simp
  have hb0 : Below w.heap.size w (w.alloc (.cells #[.int .i64 op, .int .i64 wd, .slice B args.length bc, .int .i64 0] 65)) := (Below.refl _ _).alloc (Nat.le_refl _) _
  generalize (w.alloc (.cells #[.int .i64 op, .int .i64 wd, .slice B args.length bc, .int .i64 0] 65)) = W0 at *
  have q0 := cell_block (i := 0) r0
  have q1 := cell_block (i := 1) r0
  have q2 := cell_block (i := 2) r0
  have q3 := cell_block (i := 3) r0
  simp at q0 q1 q2 q3
  refine wp_region_aft (by kernel_rfl) (by kernel_rfl) ?_
  repeat (go_big_quiet_step ((go_at_call 102; exact Calls.qs (HAC.out _))))
  refine wpQuiet_nil ?_
  intro y
  have R0 := Lib.hid (show y.val.heap[w.heap.size]? = some (.cells #[.int .i64 op, .int .i64 wd, .slice B args.length bc, .int .i64 0] 65) by rw [y.pf.block _ z0]; exact r0)
  have hbw : Below w.heap.size w y.val := y.below hb0 hb0.size
  have zy : w.heap.size < y.val.heap.size := y.lt' z0
  clear r0 q0 q1 q2 q3 hb0 z0
  generalize y.val = W1 at *
  have r0 := R0.out
  have q0 := cell_block (i := 0) r0
  have q1 := cell_block (i := 1) r0
  have q2 := cell_block (i := 2) r0
  have q3 := cell_block (i := 3) r0
  simp at q0 q1 q2 q3
  clear r0
  go_wp2
  go_loop [8] (fun v8 => ∃ j : Nat, j ≤ args.length ∧ v8 = .int .i64 j ∧ (∀ x ∈ args.take j, isIx x i = true)) (fun v8 => args.length - (intOf v8).toNat)
  case atStart => exact ⟨0, by omega, rfl, by simp⟩
  case round =>
    obtain ⟨j, hj, rfl, hall⟩ := hrel
    by_cases hlt : j < args.length
    · have hjj : (j : Int) < args.length := by omega
      have HX := Lib.hid (List.getElem?_eq_getElem hlt)
      have HM := Lib.hid (List.getElem_mem hlt)
      have HT := Lib.hid (List.take_succ_eq_append_getElem hlt)
      generalize args[j] = x at *
      obtain ⟨ab, rfl, hbb, hcx⟩ := (HB.out.below hbw).cell HX.out
      have HV := Lib.hid (fun w => by have k := Within_c x 0 ((i : Int) - 1) w; rw [isIx_w, H4.out x HM.out] at k; exact k)
      have HA := Lib.hid hall
      clear hall
      go_wp2_with (go_at_call 31; ((with_reducible refine (HV.out _).mono ?_); rintro e w' ⟨rfl, rfl⟩))
      go_round
      case rel => exact ⟨j + 1, by omega, by go_num, fun z hz => by
        rw [HT.out, List.mem_append] at hz
        rcases hz with hz | hz
        · exact HA.out z hz
        · rw [List.mem_singleton.1 hz]; exact H4.out _ HM.out⟩
      case measure => simp [intOf]; omega
    · obtain rfl : j = args.length := by omega
      clear hall
      go_wp2_with fail
      refine (HF.out _ hbw).mono ?_
      rintro e w' ⟨rfl, z, rfl⟩
      go_wp2
      go_ret
      exact ⟨rfl, Below.aft (z.below hbw hbw.size)⟩

end Go.Proofs.YtkdonapgonegkaaDoor
