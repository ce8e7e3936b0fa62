/-
  Contracts of chapter 2 (graph): the references' error of a node.
-/
import Derived.Test.YtkdonapgonegkaaGreatDoorZb
import Derived.Test.YtkdonapgonegkaaGreatDoorZa
import Derived.Carry
import Derived.OpenShut
import Derived.Deep.Slices
import Derived.Lib.SmallJoins
import Derived.Deep.DeepCutAuto
import Derived.Test.YtkdonapgonegkaaGreatDoorRows
import Derived.Lib.LaidIn
import Derived.Lib.LaidTab
import Derived.Stop.LaidErr
import Derived.Deep.Strs
import Derived.FnData
set_option linter.unusedSimpArgs false
set_option linter.unusedVariables false
namespace Go.Proofs.YtkdonapgonegkaaGreatDoor
open Go.RowKit Go.BigFrame

theorem wAt_bd {before : List Nd} {args : List Int} (hv : ∀ n ∈ before, isW n.wd = true) (j : Nat) : 0 ≤ wAt before args j ∧ wAt before args j ≤ 16 := by
  unfold wAt
  split
  · decide
  · split
    · decide
    · rename_i n hn
      have := isW_iff.1 (hv n (List.mem_of_getElem? hn))
      omega
theorem take_at {ns : List Nd} {i k : Nat} {n : Nd} (h : (ns.take i)[k]? = some n) : ns[k]? = some n := by
  rw [List.getElem?_take] at h
  split at h
  · exact h
  · cases h
theorem Wid_of {ns : List Nd} {i : Nat} {args : List Int} (h : ∀ x ∈ args, isIx x (ns.take i).length = true) (j : Nat) (hj : j < args.length) : ∃ (k : Nat) (n : Nd), args[j]? = some (k : Int) ∧ ns[k]? = some n ∧ wAt (ns.take i) args j = n.wd := by
  have e := List.getElem?_eq_getElem hj
  obtain ⟨k, n, e2, g⟩ := idx_nat (h args[j] (List.getElem_mem hj))
  rw [e2] at e
  exact ⟨k, n, e, take_at g, wAt_in e g⟩
theorem Wid1 {ns : List Nd} {i : Nat} {args : List Int} (h : ∀ x ∈ args, isIx x (ns.take i).length = true) (hl : args.length = 1) : Wid ns args [wAt (ns.take i) args 0] := fun j hj => by
  obtain rfl : j = 0 := by omega
  obtain ⟨k, n, a, b, c⟩ := Wid_of h 0 hj
  exact ⟨k, n, a, b, by rw [c]; rfl⟩
theorem Wid2 {ns : List Nd} {i : Nat} {args : List Int} (h : ∀ x ∈ args, isIx x (ns.take i).length = true) (hl : args.length = 2) : Wid ns args [wAt (ns.take i) args 0, wAt (ns.take i) args 1] := fun j hj => by
  obtain ⟨k, n, a, b, c⟩ := Wid_of h j hj
  have hc : j = 0 ∨ j = 1 := by omega
  rcases hc with rfl | rfl
  all_goals exact ⟨k, n, a, b, by rw [← c]; rfl⟩
theorem Wid3 {ns : List Nd} {i : Nat} {args : List Int} (h : ∀ x ∈ args, isIx x (ns.take i).length = true) (hl : args.length = 3) : Wid ns args [wAt (ns.take i) args 0, wAt (ns.take i) args 1, wAt (ns.take i) args 2] := fun j hj => by
  obtain ⟨k, n, a, b, c⟩ := Wid_of h j hj
  have hc : j = 0 ∨ j = 1 ∨ j = 2 := by omega
  rcases hc with rfl | rfl | rfl
  all_goals exact ⟨k, n, a, b, by rw [← c]; rfl⟩

theorem rwidthsFit_c (op wd v : Int) (ho : 2 ≤ op) (ho2 : op ≤ 18) (hw1 : 1 ≤ wd) (hw2 : wd ≤ 16) (hv : op = 14 → 0 ≤ v ∧ v ≤ 15) (B : Option Addr) (bc : Nat) (args : List Int) (hla : (args.length : Int) = argN op) (N : Option Addr) (capN : Nat) (ns : List Nd) (hns : ns.length ≤ 65536) (i : Nat) (hb : ∀ n ∈ ns.take i, isW n.wd = true) (hx : ∀ x ∈ args, isIx x (ns.take i).length = true) (w : World) (hN : LiesN w N ns) (hB : LiesI w B args) :
    Calls Tryz.prog 123 #[.slice N ns.length capN, .agg #[.int .i64 op, .int .i64 wd, .slice B args.length bc, .int .i64 v]] w fun e w' => e = .returned (.bool (fitW op wd v (wAt (ns.take i) args 0) (wAt (ns.take i) args 1) (wAt (ns.take i) args 2))) ∧ ∃ x : Aft w, w' = x.val := by
  obtain ⟨a0, a1⟩ := wAt_bd (args := args) hb 0
  obtain ⟨b0, b1⟩ := wAt_bd (args := args) hb 1
  have hcase : op = 2 ∨ op = 3 ∨ op = 4 ∨ op = 5 ∨ op = 6 ∨ op = 7 ∨ op = 8 ∨ op = 9 ∨ op = 10 ∨ op = 11 ∨ op = 12 ∨ op = 13 ∨ op = 14 ∨ op = 15 ∨ op = 16 ∨ op = 17 ∨ op = 18 := by omega
  rcases hcase with rfl | rfl | rfl | rfl | rfl | rfl | rfl | rfl | rfl | rfl | rfl | rfl | rfl | rfl | rfl | rfl | rfl
  · have hl : (args.length : Int) = 1 := hla
    have hl' : args.length = 1 := by omega
    exact rfit_2 wd v _ _ _ hw1 hw2 a0 a1 b0 b1 B bc args hl' N capN ns hns w hN hB (Wid1 hx hl')
  · have hl : (args.length : Int) = 2 := hla
    have hl' : args.length = 2 := by omega
    exact rfit_3 wd v _ _ _ hw1 hw2 a0 a1 b0 b1 B bc args hl' N capN ns hns w hN hB (Wid2 hx hl')
  · have hl : (args.length : Int) = 2 := hla
    have hl' : args.length = 2 := by omega
    exact rfit_4 wd v _ _ _ hw1 hw2 a0 a1 b0 b1 B bc args hl' N capN ns hns w hN hB (Wid2 hx hl')
  · have hl : (args.length : Int) = 2 := hla
    have hl' : args.length = 2 := by omega
    exact rfit_5 wd v _ _ _ hw1 hw2 a0 a1 b0 b1 B bc args hl' N capN ns hns w hN hB (Wid2 hx hl')
  · have hl : (args.length : Int) = 2 := hla
    have hl' : args.length = 2 := by omega
    exact rfit_6 wd v _ _ _ hw1 hw2 a0 a1 b0 b1 B bc args hl' N capN ns hns w hN hB (Wid2 hx hl')
  · have hl : (args.length : Int) = 2 := hla
    have hl' : args.length = 2 := by omega
    exact rfit_7 wd v _ _ _ hw1 hw2 a0 a1 b0 b1 B bc args hl' N capN ns hns w hN hB (Wid2 hx hl')
  · have hl : (args.length : Int) = 2 := hla
    have hl' : args.length = 2 := by omega
    exact rfit_8 wd v _ _ _ hw1 hw2 a0 a1 b0 b1 B bc args hl' N capN ns hns w hN hB (Wid2 hx hl')
  · have hl : (args.length : Int) = 2 := hla
    have hl' : args.length = 2 := by omega
    exact rfit_9 wd v _ _ _ hw1 hw2 a0 a1 b0 b1 B bc args hl' N capN ns hns w hN hB (Wid2 hx hl')
  · have hl : (args.length : Int) = 2 := hla
    have hl' : args.length = 2 := by omega
    exact rfit_10 wd v _ _ _ hw1 hw2 a0 a1 b0 b1 B bc args hl' N capN ns hns w hN hB (Wid2 hx hl')
  · have hl : (args.length : Int) = 2 := hla
    have hl' : args.length = 2 := by omega
    exact rfit_11 wd v _ _ _ hw1 hw2 a0 a1 b0 b1 B bc args hl' N capN ns hns w hN hB (Wid2 hx hl')
  · have hl : (args.length : Int) = 3 := hla
    have hl' : args.length = 3 := by omega
    exact rfit_12 wd v _ _ _ hw1 hw2 a0 a1 b0 b1 B bc args hl' N capN ns hns w hN hB (Wid3 hx hl')
  · have hl : (args.length : Int) = 2 := hla
    have hl' : args.length = 2 := by omega
    exact rfit_13 wd v _ _ _ hw1 hw2 a0 a1 b0 b1 B bc args hl' N capN ns hns w hN hB (Wid2 hx hl')
  · have hl : (args.length : Int) = 1 := hla
    have hl' : args.length = 1 := by omega
    exact rfit_14 wd v _ _ _ hw1 hw2 a0 a1 b0 b1 (hv rfl).1 (hv rfl).2 B bc args hl' N capN ns hns w hN hB (Wid1 hx hl')
  · have hl : (args.length : Int) = 1 := hla
    have hl' : args.length = 1 := by omega
    exact rfit_15 wd v _ _ _ hw1 hw2 a0 a1 b0 b1 B bc args hl' N capN ns hns w hN hB (Wid1 hx hl')
  · have hl : (args.length : Int) = 1 := hla
    have hl' : args.length = 1 := by omega
    exact rfit_16 wd v _ _ _ hw1 hw2 a0 a1 b0 b1 B bc args hl' N capN ns hns w hN hB (Wid1 hx hl')
  · have hl : (args.length : Int) = 2 := hla
    have hl' : args.length = 2 := by omega
    exact rfit_17 wd v _ _ _ hw1 hw2 a0 a1 b0 b1 B bc args hl' N capN ns hns w hN hB (Wid2 hx hl')
  · have hl : (args.length : Int) = 2 := hla
    have hl' : args.length = 2 := by omega
    exact rfit_18 wd v _ _ _ hw1 hw2 a0 a1 b0 b1 B bc args hl' N capN ns hns w hN hB (Wid2 hx hl')

theorem nodeR_10 {ls : List Int} {before : List Nd} {op wd v : Int} {args : List Int} (h1 : isIx op 19 = true) (h2 : isW wd = true) (h3 : ¬ (args.length : Int) = argN op) : nodeE ls before ⟨op, wd, args, v⟩ = 10 := by
  have k : ((args.length : Int) != argN op) = true := by simpa using h3
  have e : node3 ls before ⟨op, wd, args, v⟩ = 10 := by unfold node3; simp only; rw [k]; rfl
  rw [nodeE_3 (n := ⟨op, wd, args, v⟩) h1 h2 (by rw [e]; decide), e]
theorem node3_len {ls : List Int} {before : List Nd} {op wd v : Int} {args : List Int} (h3 : (args.length : Int) = argN op) : node3 ls before ⟨op, wd, args, v⟩ = firstE [argsE args before.length 9, numE ls op wd v] := by
  have k : ((args.length : Int) != argN op) = false := by simpa using h3
  unfold node3; simp only; rw [k]; rfl
theorem nodeR_9 {ls : List Int} {before : List Nd} {op wd v : Int} {args : List Int} (h1 : isIx op 19 = true) (h2 : isW wd = true) (h3 : (args.length : Int) = argN op) {x : Int} (hx : x ∈ args) (h4 : isIx x before.length = false) : nodeE ls before ⟨op, wd, args, v⟩ = 9 := by
  have k : argsE args before.length 9 = 9 := by
    unfold argsE
    rw [if_neg]
    intro h
    have := List.all_eq_true.1 h x hx
    rw [h4] at this; cases this
  have e : node3 ls before ⟨op, wd, args, v⟩ = 9 := by rw [node3_len h3, k]; rfl
  rw [nodeE_3 (n := ⟨op, wd, args, v⟩) h1 h2 (by rw [e]; decide), e]
theorem node3_num {ls : List Int} {before : List Nd} {op wd v : Int} {args : List Int} (h3 : (args.length : Int) = argN op) (h4 : ∀ x ∈ args, isIx x before.length = true) : node3 ls before ⟨op, wd, args, v⟩ = numE ls op wd v := by
  have k : argsE args before.length 9 = 0 := by unfold argsE; rw [if_pos (List.all_eq_true.2 h4)]
  rw [node3_len h3, k, firstE_cons, if_pos rfl, firstE_one]
theorem nodeR_n {ls : List Int} {before : List Nd} {op wd v : Int} {args : List Int} (h1 : isIx op 19 = true) (h2 : isW wd = true) (h3 : (args.length : Int) = argN op) (h4 : ∀ x ∈ args, isIx x before.length = true) {c : Int} (h5 : numE ls op wd v = c) (h6 : ¬ c = 0) : nodeE ls before ⟨op, wd, args, v⟩ = c := by
  have e := node3_num (ls := ls) (before := before) (wd := wd) (v := v) h3 h4
  rw [nodeE_3 (n := ⟨op, wd, args, v⟩) h1 h2 (by rw [e, h5]; exact h6), e, h5]
theorem nodeR_0 {ls : List Int} {before : List Nd} {op wd v : Int} {args : List Int} (h1 : isIx op 19 = true) (h2 : isW wd = true) (h3 : (args.length : Int) = argN op) (h4 : ∀ x ∈ args, isIx x before.length = true) (h5 : numE ls op wd v = 0) : nodeE ls before ⟨op, wd, args, v⟩ = eIf (!fitW op wd v (wAt before args 0) (wAt before args 1) (wAt before args 2)) 25 :=
  nodeE_4 (n := ⟨op, wd, args, v⟩) h1 h2 ((node3_num h3 h4).trans h5)

set_option maxRecDepth 100000 in
set_option maxHeartbeats 1600000 in
theorem nodeErr_15 (A : Option Addr) (cap : Nat) (ls : List Int) (hls : ls.length ≤ 65536) (ad : Addr) (capN : Nat) (ns : List Nd) (hns : ns.length ≤ 65536) (i : Nat) (op wd v : Int) (args : List Int) (hla : args.length ≤ 65536) (hi : ns[i]? = some ⟨op, wd, args, v⟩) (w : World) (hA : LiesI w A ls) (hN : LiesN w (some ad) ns) (h1 : isIx op 19 = false) :
    Calls Tryz.prog 110 #[.slice A ls.length cap, .slice (some ad) ns.length capN, .int .i64 i] w fun e w' => e = .returned (.int .i64 (nodeE ls (ns.take i) ⟨op, wd, args, v⟩)) ∧ ∃ x : Aft w, w' = x.val := by
  obtain ⟨ad', had, hbk, c0, c1, c3, B, bc, c2, hB⟩ := hN.cells hi
  obtain rfl : ad = ad' := Option.some.inj had
  have hil := (List.getElem?_eq_some_iff.1 hi).1
  have hik : (i : Int) < ns.length := by omega
  have c1' : w.cell? ⟨(ad.add (i * 4)).block, (ad.add (i * 4)).off + 1, none⟩ = some (.int .i64 wd) := c1
  have c2' : w.cell? ⟨(ad.add (i * 4)).block, (ad.add (i * 4)).off + 2, none⟩ = some (.slice B args.length bc) := c2
  have c3' : w.cell? ⟨(ad.add (i * 4)).block, (ad.add (i * 4)).off + 3, none⟩ = some (.int .i64 v) := c3
  have hlk : (ns.take i).length = i := by simp; omega
  clear c1 c2 c3 had
  have HR := Lib.hid (nodeE_15 (ls := ls) (before := ns.take i) (n := ⟨op, wd, args, v⟩) h1)
  have HI := Lib.hid (fun w => by have k := Within_c op 0 18 w; rw [show win op 0 18 = false by rw [← h1]; exact (isIx_win op 19).symm] at k; exact k)
  clear hA hN hB h1 hi hlk
  go_enter Tryz.func110, Tryz.ntmps110
  go_wp2_with (first | (go_at_call 27; ((with_reducible refine (HI.out _).mono ?_); rintro e w' ⟨rfl, rfl⟩)))
  go_ret
  exact ⟨retI HR.out.symm, Below.aft (by (repeat' (first | (with_reducible exact Below.refl _ _) | (with_reducible assumption) | (with_reducible refine Below.alloc ?_ ?_ _) | (with_reducible refine Below.drew ?_) | (with_reducible refine Aft.below _ ?_ ?_) | (with_reducible refine Below.setCell_new ?_ ?_ _ _) | (with_reducible exact Nat.le_refl _) | (with_reducible refine Aft.le _ ?_) | (with_reducible refine le_alloc ?_) | (with_reducible refine le_drew ?_) | (with_reducible refine le_setCell ?_) | omega)))⟩

set_option maxRecDepth 100000 in
set_option maxHeartbeats 1600000 in
theorem nodeErr_2 (A : Option Addr) (cap : Nat) (ls : List Int) (hls : ls.length ≤ 65536) (ad : Addr) (capN : Nat) (ns : List Nd) (hns : ns.length ≤ 65536) (i : Nat) (op wd v : Int) (args : List Int) (hla : args.length ≤ 65536) (hi : ns[i]? = some ⟨op, wd, args, v⟩) (w : World) (hA : LiesI w A ls) (hN : LiesN w (some ad) ns) (h1 : isIx op 19 = true) (h2 : isW wd = false) :
    Calls Tryz.prog 110 #[.slice A ls.length cap, .slice (some ad) ns.length capN, .int .i64 i] w fun e w' => e = .returned (.int .i64 (nodeE ls (ns.take i) ⟨op, wd, args, v⟩)) ∧ ∃ x : Aft w, w' = x.val := by
  obtain ⟨ad', had, hbk, c0, c1, c3, B, bc, c2, hB⟩ := hN.cells hi
  obtain rfl : ad = ad' := Option.some.inj had
  have hil := (List.getElem?_eq_some_iff.1 hi).1
  have hik : (i : Int) < ns.length := by omega
  have c1' : w.cell? ⟨(ad.add (i * 4)).block, (ad.add (i * 4)).off + 1, none⟩ = some (.int .i64 wd) := c1
  have c2' : w.cell? ⟨(ad.add (i * 4)).block, (ad.add (i * 4)).off + 2, none⟩ = some (.slice B args.length bc) := c2
  have c3' : w.cell? ⟨(ad.add (i * 4)).block, (ad.add (i * 4)).off + 3, none⟩ = some (.int .i64 v) := c3
  have hlk : (ns.take i).length = i := by simp; omega
  clear c1 c2 c3 had
  have HR := Lib.hid (nodeE_2 (ls := ls) (before := ns.take i) (n := ⟨op, wd, args, v⟩) h1 h2)
  have HI := Lib.hid (fun w => by have k := Within_c op 0 18 w; rw [show win op 0 18 = true by rw [← h1]; exact (isIx_win op 19).symm] at k; exact k)
  have HW := Lib.hid (fun w => by have k := IsWidth_c wd w; rw [h2] at k; exact k)
  clear hA hN hB h1 h2 hi hlk
  go_enter Tryz.func110, Tryz.ntmps110
  go_wp2_with (first | (go_at_call 27; ((with_reducible refine (HI.out _).mono ?_); rintro e w' ⟨rfl, rfl⟩)) | (go_at_call 76; ((with_reducible refine (HW.out _).mono ?_); rintro e w' ⟨rfl, rfl⟩)))
  go_ret
  exact ⟨retI HR.out.symm, Below.aft (by (repeat' (first | (with_reducible exact Below.refl _ _) | (with_reducible assumption) | (with_reducible refine Below.alloc ?_ ?_ _) | (with_reducible refine Below.drew ?_) | (with_reducible refine Aft.below _ ?_ ?_) | (with_reducible refine Below.setCell_new ?_ ?_ _ _) | (with_reducible exact Nat.le_refl _) | (with_reducible refine Aft.le _ ?_) | (with_reducible refine le_alloc ?_) | (with_reducible refine le_drew ?_) | (with_reducible refine le_setCell ?_) | omega)))⟩

set_option maxRecDepth 100000 in
set_option maxHeartbeats 1600000 in
theorem nodeErr_10 (A : Option Addr) (cap : Nat) (ls : List Int) (hls : ls.length ≤ 65536) (ad : Addr) (capN : Nat) (ns : List Nd) (hns : ns.length ≤ 65536) (i : Nat) (op wd v : Int) (args : List Int) (hla : args.length ≤ 65536) (hi : ns[i]? = some ⟨op, wd, args, v⟩) (w : World) (hA : LiesI w A ls) (hN : LiesN w (some ad) ns) (h1 : isIx op 19 = true) (h2 : isW wd = true) (h3 : ¬ (args.length : Int) = argN op) :
    Calls Tryz.prog 110 #[.slice A ls.length cap, .slice (some ad) ns.length capN, .int .i64 i] w fun e w' => e = .returned (.int .i64 (nodeE ls (ns.take i) ⟨op, wd, args, v⟩)) ∧ ∃ x : Aft w, w' = x.val := by
  obtain ⟨ad', had, hbk, c0, c1, c3, B, bc, c2, hB⟩ := hN.cells hi
  obtain rfl : ad = ad' := Option.some.inj had
  have hil := (List.getElem?_eq_some_iff.1 hi).1
  have hik : (i : Int) < ns.length := by omega
  have c1' : w.cell? ⟨(ad.add (i * 4)).block, (ad.add (i * 4)).off + 1, none⟩ = some (.int .i64 wd) := c1
  have c2' : w.cell? ⟨(ad.add (i * 4)).block, (ad.add (i * 4)).off + 2, none⟩ = some (.slice B args.length bc) := c2
  have c3' : w.cell? ⟨(ad.add (i * 4)).block, (ad.add (i * 4)).off + 3, none⟩ = some (.int .i64 v) := c3
  have hlk : (ns.take i).length = i := by simp; omega
  clear c1 c2 c3 had
  have HR := Lib.hid (nodeR_10 (ls := ls) (before := ns.take i) (v := v) h1 h2 h3)
  have HI := Lib.hid (fun w => by have k := Within_c op 0 18 w; rw [show win op 0 18 = true by rw [← h1]; exact (isIx_win op 19).symm] at k; exact k)
  have HW := Lib.hid (fun w => by have k := IsWidth_c wd w; rw [h2] at k; exact k)
  have n3 : ((args.length : Int) == argN op) = false := by simpa using h3
  clear hA hN hB h1 h2 hi hlk h3
  go_enter Tryz.func110, Tryz.ntmps110
  go_wp2_with (first | (go_at_call 27; ((with_reducible refine (HI.out _).mono ?_); rintro e w' ⟨rfl, rfl⟩)) | (go_at_call 76; ((with_reducible refine (HW.out _).mono ?_); rintro e w' ⟨rfl, rfl⟩)))
  have r0 : (w.alloc (.cells #[.int .i64 op, .int .i64 wd, .slice B args.length bc, .int .i64 v] 61)).heap[w.heap.size]? = some (.cells #[.int .i64 op, .int .i64 wd, .slice B args.length bc, .int .i64 v] 61) := heap_alloc_new _ _
  have z0 : w.heap.size < (w.alloc (.cells #[.int .i64 op, .int .i64 wd, .slice B args.length bc, .int .i64 v] 61)).heap.size := by simp
  have hb0 : Below w.heap.size w (w.alloc (.cells #[.int .i64 op, .int .i64 wd, .slice B args.length bc, .int .i64 v] 61)) := (Below.refl _ _).alloc (Nat.le_refl _) _
  generalize (w.alloc (.cells #[.int .i64 op, .int .i64 wd, .slice B args.length bc, .int .i64 v] 61)) = W0 at *
  have q0 := cell_block (i := 0) r0
  have q1 := cell_block (i := 1) r0
  have q2 := cell_block (i := 2) r0
  have q3 := cell_block (i := 3) r0
  simp at q0 q1 q2 q3
  refine wp_region_aft (by kernel_rfl) (by kernel_rfl) ?_
  repeat (go_big_quiet_step ((go_at_call 89; exact Calls.qs (ArgCount_c _ _))))
  refine wpQuiet_nil ?_
  intro y
  go_wp2
  go_ret
  exact ⟨retI HR.out.symm, Below.aft (y.below hb0 hb0.size)⟩

theorem isIx_w {x : Int} {i : Nat} : win x 0 ((i : Int) - 1) = isIx x i := (isIx_win x i).symm

set_option maxRecDepth 100000 in
set_option maxHeartbeats 1600000 in
theorem nodeErr_9 (A : Option Addr) (cap : Nat) (ls : List Int) (hls : ls.length ≤ 65536) (ad : Addr) (capN : Nat) (ns : List Nd) (hns : ns.length ≤ 65536) (i : Nat) (op wd v : Int) (args : List Int) (hla : args.length ≤ 65536) (hi : ns[i]? = some ⟨op, wd, args, v⟩) (w : World) (hA : LiesI w A ls) (hN : LiesN w (some ad) ns) (h1 : isIx op 19 = true) (h2 : isW wd = true) (h3 : (args.length : Int) = argN op) (h4 : ¬ ∀ x ∈ args, isIx x (ns.take i).length = true) :
    Calls Tryz.prog 110 #[.slice A ls.length cap, .slice (some ad) ns.length capN, .int .i64 i] w fun e w' => e = .returned (.int .i64 (nodeE ls (ns.take i) ⟨op, wd, args, v⟩)) ∧ ∃ x : Aft w, w' = x.val := by
  obtain ⟨ad', had, hbk, c0, c1, c3, B, bc, c2, hB⟩ := hN.cells hi
  obtain rfl : ad = ad' := Option.some.inj had
  have hil := (List.getElem?_eq_some_iff.1 hi).1
  have hik : (i : Int) < ns.length := by omega
  have c1' : w.cell? ⟨(ad.add (i * 4)).block, (ad.add (i * 4)).off + 1, none⟩ = some (.int .i64 wd) := c1
  have c2' : w.cell? ⟨(ad.add (i * 4)).block, (ad.add (i * 4)).off + 2, none⟩ = some (.slice B args.length bc) := c2
  have c3' : w.cell? ⟨(ad.add (i * 4)).block, (ad.add (i * 4)).off + 3, none⟩ = some (.int .i64 v) := c3
  have hlk : (ns.take i).length = i := by simp; omega
  clear c1 c2 c3 had
  rw [hlk] at h4
  have HR := Lib.hid (fun x (hx : x ∈ args) (hb : isIx x i = false) => nodeR_9 (ls := ls) (before := ns.take i) (v := v) h1 h2 h3 hx (by rw [hlk]; exact hb))
  have HI := Lib.hid (fun w => by have k := Within_c op 0 18 w; rw [show win op 0 18 = true by rw [← h1]; exact (isIx_win op 19).symm] at k; exact k)
  have HW := Lib.hid (fun w => by have k := IsWidth_c wd w; rw [h2] at k; exact k)
  have HAC := Lib.hid (fun w => by have k := ArgCount_c op w; rw [← h3] at k; exact k)
  have HB := Lib.hid hB
  have H4 := Lib.hid h4
  clear hA hN hB h1 h2 hi hlk h3 h4
  go_enter Tryz.func110, Tryz.ntmps110
  go_wp2_with (first | (go_at_call 27; ((with_reducible refine (HI.out _).mono ?_); rintro e w' ⟨rfl, rfl⟩)) | (go_at_call 76; ((with_reducible refine (HW.out _).mono ?_); rintro e w' ⟨rfl, rfl⟩)))
  have r0 : (w.alloc (.cells #[.int .i64 op, .int .i64 wd, .slice B args.length bc, .int .i64 v] 61)).heap[w.heap.size]? = some (.cells #[.int .i64 op, .int .i64 wd, .slice B args.length bc, .int .i64 v] 61) := heap_alloc_new _ _
  have z0 : w.heap.size < (w.alloc (.cells #[.int .i64 op, .int .i64 wd, .slice B args.length bc, .int .i64 v] 61)).heap.size := by simp
  have hb0 : Below w.heap.size w (w.alloc (.cells #[.int .i64 op, .int .i64 wd, .slice B args.length bc, .int .i64 v] 61)) := (Below.refl _ _).alloc (Nat.le_refl _) _
  generalize (w.alloc (.cells #[.int .i64 op, .int .i64 wd, .slice B args.length bc, .int .i64 v] 61)) = W0 at *
  have q0 := cell_block (i := 0) r0
  have q1 := cell_block (i := 1) r0
  have q2 := cell_block (i := 2) r0
  have q3 := cell_block (i := 3) r0
  simp at q0 q1 q2 q3
  refine wp_region_aft (by kernel_rfl) (by kernel_rfl) ?_
  repeat (go_big_quiet_step ((go_at_call 89; exact Calls.qs (HAC.out _))))
  refine wpQuiet_nil ?_
  intro y
  have R0 := Lib.hid (show y.val.heap[w.heap.size]? = some (.cells #[.int .i64 op, .int .i64 wd, .slice B args.length bc, .int .i64 v] 61) by rw [y.pf.block _ z0]; exact r0)
  have hbw : Below w.heap.size w y.val := y.below hb0 hb0.size
  have zy : w.heap.size < y.val.heap.size := y.lt' z0
  clear r0 q0 q1 q2 q3 hb0 z0
  generalize y.val = W1 at *
  have r0 := R0.out
  have q0 := cell_block (i := 0) r0
  have q1 := cell_block (i := 1) r0
  have q2 := cell_block (i := 2) r0
  have q3 := cell_block (i := 3) r0
  simp at q0 q1 q2 q3
  clear r0
  go_wp2
  go_loop [8] (fun v8 => ∃ j : Nat, j ≤ args.length ∧ v8 = .int .i64 j ∧ (∀ x ∈ args.take j, isIx x i = true)) (fun v8 => args.length - (intOf v8).toNat)
  case atStart => exact ⟨0, by omega, rfl, by simp⟩
  case round =>
    obtain ⟨j, hj, rfl, hall⟩ := hrel
    by_cases hlt : j < args.length
    · have hjj : (j : Int) < args.length := by omega
      have HX := Lib.hid (List.getElem?_eq_getElem hlt)
      have HM := Lib.hid (List.getElem_mem hlt)
      have HT := Lib.hid (List.take_succ_eq_append_getElem hlt)
      generalize args[j] = x at *
      obtain ⟨ab, rfl, hbb, hcx⟩ := (HB.out.below hbw).cell HX.out
      cases hx : isIx x i
      · have HV := Lib.hid (fun w => by have k := Within_c x 0 ((i : Int) - 1) w; rw [isIx_w, hx] at k; exact k)
        have HE := Lib.hid (HR.out x HM.out hx)
        clear hx hall
        go_wp2_with (go_at_call 27; ((with_reducible refine (HV.out _).mono ?_); rintro e w' ⟨rfl, rfl⟩))
        go_ret
        exact ⟨retI HE.out.symm, Below.aft hbw⟩
      · have HV := Lib.hid (fun w => by have k := Within_c x 0 ((i : Int) - 1) w; rw [isIx_w, hx] at k; exact k)
        have HA := Lib.hid hall
        have HX1 := Lib.hid hx
        clear hx hall
        go_wp2_with (go_at_call 27; ((with_reducible refine (HV.out _).mono ?_); rintro e w' ⟨rfl, rfl⟩))
        go_round
        case rel => exact ⟨j + 1, by omega, by go_num, fun z hz => by
          rw [HT.out, List.mem_append] at hz
          rcases hz with hz | hz
          · exact HA.out z hz
          · rw [List.mem_singleton.1 hz]; exact HX1.out⟩
        case measure => simp [intOf]; omega
    · exact absurd (fun z hz => hall z (by rw [List.take_of_length_le (by omega)]; exact hz)) H4.out

end Go.Proofs.YtkdonapgonegkaaGreatDoor

set_option linter.unusedSimpArgs false
set_option linter.unusedVariables false
namespace Go.Proofs.YtkdonapgonegkaaGreatDoor
open Go.RowKit Go.BigFrame

set_option maxRecDepth 100000 in
set_option maxHeartbeats 1600000 in
theorem nodeErr_0F (A : Option Addr) (cap : Nat) (ls : List Int) (hls : ls.length ≤ 65536) (ad : Addr) (capN : Nat) (ns : List Nd) (hns : ns.length ≤ 65536) (i : Nat) (wd v : Int) (args : List Int) (hla : args.length ≤ 65536) (hi : ns[i]? = some ⟨0, wd, args, v⟩) (w : World) (hA : LiesI w A ls) (hN : LiesN w (some ad) ns) (h1 : isIx 0 19 = true) (h2 : isW wd = true) (h3 : (args.length : Int) = argN 0) (h4 : ∀ x ∈ args, isIx x (ns.take i).length = true) (h5 : isV v wd = false) :
    Calls Tryz.prog 110 #[.slice A ls.length cap, .slice (some ad) ns.length capN, .int .i64 i] w fun e w' => e = .returned (.int .i64 2) ∧ ∃ x : Aft w, w' = x.val := by
  obtain ⟨ad', had, hbk, c0, c1, c3, B, bc, c2, hB⟩ := hN.cells hi
  obtain rfl : ad = ad' := Option.some.inj had
  have hil := (List.getElem?_eq_some_iff.1 hi).1
  have hik : (i : Int) < ns.length := by omega
  have c1' : w.cell? ⟨(ad.add (i * 4)).block, (ad.add (i * 4)).off + 1, none⟩ = some (.int .i64 wd) := c1
  have c2' : w.cell? ⟨(ad.add (i * 4)).block, (ad.add (i * 4)).off + 2, none⟩ = some (.slice B args.length bc) := c2
  have c3' : w.cell? ⟨(ad.add (i * 4)).block, (ad.add (i * 4)).off + 3, none⟩ = some (.int .i64 v) := c3
  have hlk : (ns.take i).length = i := by simp; omega
  clear c1 c2 c3 had
  have HI := Lib.hid (fun w => by have k := Within_c 0 0 18 w; rw [show win 0 0 18 = true by rw [← h1]; exact (isIx_win 0 19).symm] at k; exact k)
  have HW := Lib.hid (fun w => by have k := IsWidth_c wd w; rw [h2] at k; exact k)
  have HAC := Lib.hid (fun w => by have k := ArgCount_c 0 w; rw [← h3] at k; exact k)
  have HB := Lib.hid hB
  have HU := Lib.hid (fun w => by have k := Fits_c v wd (by have := isW_iff.1 h2; omega) (by have := isW_iff.1 h2; omega) w; rw [show fits v wd = false from h5] at k; exact k)
  rw [hlk] at h4
  have H4 := Lib.hid h4
  clear hA hN hB h1 h2 hi hlk h3 h4 h5
  go_enter Tryz.func110, Tryz.ntmps110
  go_wp2_with (first | (go_at_call 27; ((with_reducible refine (HI.out _).mono ?_); rintro e w' ⟨rfl, rfl⟩)) | (go_at_call 76; ((with_reducible refine (HW.out _).mono ?_); rintro e w' ⟨rfl, rfl⟩)))
  have r0 : (w.alloc (.cells #[.int .i64 0, .int .i64 wd, .slice B args.length bc, .int .i64 v] 61)).heap[w.heap.size]? = some (.cells #[.int .i64 0, .int .i64 wd, .slice B args.length bc, .int .i64 v] 61) := heap_alloc_new _ _
  have z0 : w.heap.size < (w.alloc (.cells #[.int .i64 0, .int .i64 wd, .slice B args.length bc, .int .i64 v] 61)).heap.size := by simp
  have hb0 : Below w.heap.size w (w.alloc (.cells #[.int .i64 0, .int .i64 wd, .slice B args.length bc, .int .i64 v] 61)) := (Below.refl _ _).alloc (Nat.le_refl _) _
  generalize (w.alloc (.cells #[.int .i64 0, .int .i64 wd, .slice B args.length bc, .int .i64 v] 61)) = W0 at *
  have q0 := cell_block (i := 0) r0
  have q1 := cell_block (i := 1) r0
  have q2 := cell_block (i := 2) r0
  have q3 := cell_block (i := 3) r0
  simp at q0 q1 q2 q3
  refine wp_region_aft (by kernel_rfl) (by kernel_rfl) ?_
  repeat (go_big_quiet_step ((go_at_call 89; exact Calls.qs (HAC.out _))))
  refine wpQuiet_nil ?_
  intro y
  have R0 := Lib.hid (show y.val.heap[w.heap.size]? = some (.cells #[.int .i64 0, .int .i64 wd, .slice B args.length bc, .int .i64 v] 61) by rw [y.pf.block _ z0]; exact r0)
  have hbw : Below w.heap.size w y.val := y.below hb0 hb0.size
  have zy : w.heap.size < y.val.heap.size := y.lt' z0
  clear r0 q0 q1 q2 q3 hb0 z0
  generalize y.val = W1 at *
  have r0 := R0.out
  have q0 := cell_block (i := 0) r0
  have q1 := cell_block (i := 1) r0
  have q2 := cell_block (i := 2) r0
  have q3 := cell_block (i := 3) r0
  simp at q0 q1 q2 q3
  clear r0
  go_wp2
  go_loop [8] (fun v8 => ∃ j : Nat, j ≤ args.length ∧ v8 = .int .i64 j ∧ (∀ x ∈ args.take j, isIx x i = true)) (fun v8 => args.length - (intOf v8).toNat)
  case atStart => exact ⟨0, by omega, rfl, by simp⟩
  case round =>
    obtain ⟨j, hj, rfl, hall⟩ := hrel
    by_cases hlt : j < args.length
    · have hjj : (j : Int) < args.length := by omega
      have HX := Lib.hid (List.getElem?_eq_getElem hlt)
      have HM := Lib.hid (List.getElem_mem hlt)
      have HT := Lib.hid (List.take_succ_eq_append_getElem hlt)
      generalize args[j] = x at *
      obtain ⟨ab, rfl, hbb, hcx⟩ := (HB.out.below hbw).cell HX.out
      have HV := Lib.hid (fun w => by have k := Within_c x 0 ((i : Int) - 1) w; rw [isIx_w, H4.out x HM.out] at k; exact k)
      have HA := Lib.hid hall
      clear hall
      go_wp2_with (go_at_call 27; ((with_reducible refine (HV.out _).mono ?_); rintro e w' ⟨rfl, rfl⟩))
      go_round
      case rel => exact ⟨j + 1, by omega, by go_num, fun z hz => by
        rw [HT.out, List.mem_append] at hz
        rcases hz with hz | hz
        · exact HA.out z hz
        · rw [List.mem_singleton.1 hz]; exact H4.out _ HM.out⟩
      case measure => simp [intOf]; omega
    · obtain rfl : j = args.length := by omega
      clear hall
      go_wp2_with (go_at_call 93; ((with_reducible refine (HU.out _).mono ?_); rintro e w' ⟨rfl, rfl⟩))
      go_ret
      exact ⟨rfl, Below.aft hbw⟩

set_option maxRecDepth 100000 in
set_option maxHeartbeats 1600000 in
theorem nodeErr_0T (A : Option Addr) (cap : Nat) (ls : List Int) (hls : ls.length ≤ 65536) (ad : Addr) (capN : Nat) (ns : List Nd) (hns : ns.length ≤ 65536) (i : Nat) (wd v : Int) (args : List Int) (hla : args.length ≤ 65536) (hi : ns[i]? = some ⟨0, wd, args, v⟩) (w : World) (hA : LiesI w A ls) (hN : LiesN w (some ad) ns) (h1 : isIx 0 19 = true) (h2 : isW wd = true) (h3 : (args.length : Int) = argN 0) (h4 : ∀ x ∈ args, isIx x (ns.take i).length = true) (h5 : isV v wd = true) :
    Calls Tryz.prog 110 #[.slice A ls.length cap, .slice (some ad) ns.length capN, .int .i64 i] w fun e w' => e = .returned (.int .i64 0) ∧ ∃ x : Aft w, w' = x.val := by
  obtain ⟨ad', had, hbk, c0, c1, c3, B, bc, c2, hB⟩ := hN.cells hi
  obtain rfl : ad = ad' := Option.some.inj had
  have hil := (List.getElem?_eq_some_iff.1 hi).1
  have hik : (i : Int) < ns.length := by omega
  have c1' : w.cell? ⟨(ad.add (i * 4)).block, (ad.add (i * 4)).off + 1, none⟩ = some (.int .i64 wd) := c1
  have c2' : w.cell? ⟨(ad.add (i * 4)).block, (ad.add (i * 4)).off + 2, none⟩ = some (.slice B args.length bc) := c2
  have c3' : w.cell? ⟨(ad.add (i * 4)).block, (ad.add (i * 4)).off + 3, none⟩ = some (.int .i64 v) := c3
  have hlk : (ns.take i).length = i := by simp; omega
  clear c1 c2 c3 had
  have HI := Lib.hid (fun w => by have k := Within_c 0 0 18 w; rw [show win 0 0 18 = true by rw [← h1]; exact (isIx_win 0 19).symm] at k; exact k)
  have HW := Lib.hid (fun w => by have k := IsWidth_c wd w; rw [h2] at k; exact k)
  have HAC := Lib.hid (fun w => by have k := ArgCount_c 0 w; rw [← h3] at k; exact k)
  have HB := Lib.hid hB
  have HU := Lib.hid (fun w => by have k := Fits_c v wd (by have := isW_iff.1 h2; omega) (by have := isW_iff.1 h2; omega) w; rw [show fits v wd = true from h5] at k; exact k)
  rw [hlk] at h4
  have H4 := Lib.hid h4
  clear hA hN hB h1 h2 hi hlk h3 h4 h5
  go_enter Tryz.func110, Tryz.ntmps110
  go_wp2_with (first | (go_at_call 27; ((with_reducible refine (HI.out _).mono ?_); rintro e w' ⟨rfl, rfl⟩)) | (go_at_call 76; ((with_reducible refine (HW.out _).mono ?_); rintro e w' ⟨rfl, rfl⟩)))
  have r0 : (w.alloc (.cells #[.int .i64 0, .int .i64 wd, .slice B args.length bc, .int .i64 v] 61)).heap[w.heap.size]? = some (.cells #[.int .i64 0, .int .i64 wd, .slice B args.length bc, .int .i64 v] 61) := heap_alloc_new _ _
  have z0 : w.heap.size < (w.alloc (.cells #[.int .i64 0, .int .i64 wd, .slice B args.length bc, .int .i64 v] 61)).heap.size := by simp
  have hb0 : Below w.heap.size w (w.alloc (.cells #[.int .i64 0, .int .i64 wd, .slice B args.length bc, .int .i64 v] 61)) := (Below.refl _ _).alloc (Nat.le_refl _) _
  generalize (w.alloc (.cells #[.int .i64 0, .int .i64 wd, .slice B args.length bc, .int .i64 v] 61)) = W0 at *
  have q0 := cell_block (i := 0) r0
  have q1 := cell_block (i := 1) r0
  have q2 := cell_block (i := 2) r0
  have q3 := cell_block (i := 3) r0
  simp at q0 q1 q2 q3
  refine wp_region_aft (by kernel_rfl) (by kernel_rfl) ?_
  repeat (go_big_quiet_step ((go_at_call 89; exact Calls.qs (HAC.out _))))
  refine wpQuiet_nil ?_
  intro y
  have R0 := Lib.hid (show y.val.heap[w.heap.size]? = some (.cells #[.int .i64 0, .int .i64 wd, .slice B args.length bc, .int .i64 v] 61) by rw [y.pf.block _ z0]; exact r0)
  have hbw : Below w.heap.size w y.val := y.below hb0 hb0.size
  have zy : w.heap.size < y.val.heap.size := y.lt' z0
  clear r0 q0 q1 q2 q3 hb0 z0
  generalize y.val = W1 at *
  have r0 := R0.out
  have q0 := cell_block (i := 0) r0
  have q1 := cell_block (i := 1) r0
  have q2 := cell_block (i := 2) r0
  have q3 := cell_block (i := 3) r0
  simp at q0 q1 q2 q3
  clear r0
  go_wp2
  go_loop [8] (fun v8 => ∃ j : Nat, j ≤ args.length ∧ v8 = .int .i64 j ∧ (∀ x ∈ args.take j, isIx x i = true)) (fun v8 => args.length - (intOf v8).toNat)
  case atStart => exact ⟨0, by omega, rfl, by simp⟩
  case round =>
    obtain ⟨j, hj, rfl, hall⟩ := hrel
    by_cases hlt : j < args.length
    · have hjj : (j : Int) < args.length := by omega
      have HX := Lib.hid (List.getElem?_eq_getElem hlt)
      have HM := Lib.hid (List.getElem_mem hlt)
      have HT := Lib.hid (List.take_succ_eq_append_getElem hlt)
      generalize args[j] = x at *
      obtain ⟨ab, rfl, hbb, hcx⟩ := (HB.out.below hbw).cell HX.out
      have HV := Lib.hid (fun w => by have k := Within_c x 0 ((i : Int) - 1) w; rw [isIx_w, H4.out x HM.out] at k; exact k)
      have HA := Lib.hid hall
      clear hall
      go_wp2_with (go_at_call 27; ((with_reducible refine (HV.out _).mono ?_); rintro e w' ⟨rfl, rfl⟩))
      go_round
      case rel => exact ⟨j + 1, by omega, by go_num, fun z hz => by
        rw [HT.out, List.mem_append] at hz
        rcases hz with hz | hz
        · exact HA.out z hz
        · rw [List.mem_singleton.1 hz]; exact H4.out _ HM.out⟩
      case measure => simp [intOf]; omega
    · obtain rfl : j = args.length := by omega
      clear hall
      go_wp2_with (go_at_call 93; ((with_reducible refine (HU.out _).mono ?_); rintro e w' ⟨rfl, rfl⟩))
      go_ret
      exact ⟨rfl, Below.aft hbw⟩

set_option maxRecDepth 100000 in
set_option maxHeartbeats 1600000 in
theorem nodeErr_1A (A : Option Addr) (cap : Nat) (ls : List Int) (hls : ls.length ≤ 65536) (ad : Addr) (capN : Nat) (ns : List Nd) (hns : ns.length ≤ 65536) (i : Nat) (wd v : Int) (args : List Int) (hla : args.length ≤ 65536) (hi : ns[i]? = some ⟨1, wd, args, v⟩) (w : World) (hA : LiesI w A ls) (hN : LiesN w (some ad) ns) (h1 : isIx 1 19 = true) (h2 : isW wd = true) (h3 : (args.length : Int) = argN 1) (h4 : ∀ x ∈ args, isIx x (ns.take i).length = true) (h5 : isIx v ls.length = false) :
    Calls Tryz.prog 110 #[.slice A ls.length cap, .slice (some ad) ns.length capN, .int .i64 i] w fun e w' => e = .returned (.int .i64 6) ∧ ∃ x : Aft w, w' = x.val := by
  obtain ⟨ad', had, hbk, c0, c1, c3, B, bc, c2, hB⟩ := hN.cells hi
  obtain rfl : ad = ad' := Option.some.inj had
  have hil := (List.getElem?_eq_some_iff.1 hi).1
  have hik : (i : Int) < ns.length := by omega
  have c1' : w.cell? ⟨(ad.add (i * 4)).block, (ad.add (i * 4)).off + 1, none⟩ = some (.int .i64 wd) := c1
  have c2' : w.cell? ⟨(ad.add (i * 4)).block, (ad.add (i * 4)).off + 2, none⟩ = some (.slice B args.length bc) := c2
  have c3' : w.cell? ⟨(ad.add (i * 4)).block, (ad.add (i * 4)).off + 3, none⟩ = some (.int .i64 v) := c3
  have hlk : (ns.take i).length = i := by simp; omega
  clear c1 c2 c3 had
  have HI := Lib.hid (fun w => by have k := Within_c 1 0 18 w; rw [show win 1 0 18 = true by rw [← h1]; exact (isIx_win 1 19).symm] at k; exact k)
  have HW := Lib.hid (fun w => by have k := IsWidth_c wd w; rw [h2] at k; exact k)
  have HAC := Lib.hid (fun w => by have k := ArgCount_c 1 w; rw [← h3] at k; exact k)
  have HB := Lib.hid hB
  have HU := Lib.hid (fun w => by have k := Within_c v 0 (((ls.length : Nat) : Int) - 1) w; rw [isIx_w, h5] at k; exact k)
  rw [hlk] at h4
  have H4 := Lib.hid h4
  clear hA hN hB h1 h2 hi hlk h3 h4 h5
  go_enter Tryz.func110, Tryz.ntmps110
  go_wp2_with (first | (go_at_call 27; ((with_reducible refine (HI.out _).mono ?_); rintro e w' ⟨rfl, rfl⟩)) | (go_at_call 76; ((with_reducible refine (HW.out _).mono ?_); rintro e w' ⟨rfl, rfl⟩)))
  have r0 : (w.alloc (.cells #[.int .i64 1, .int .i64 wd, .slice B args.length bc, .int .i64 v] 61)).heap[w.heap.size]? = some (.cells #[.int .i64 1, .int .i64 wd, .slice B args.length bc, .int .i64 v] 61) := heap_alloc_new _ _
  have z0 : w.heap.size < (w.alloc (.cells #[.int .i64 1, .int .i64 wd, .slice B args.length bc, .int .i64 v] 61)).heap.size := by simp
  have hb0 : Below w.heap.size w (w.alloc (.cells #[.int .i64 1, .int .i64 wd, .slice B args.length bc, .int .i64 v] 61)) := (Below.refl _ _).alloc (Nat.le_refl _) _
  generalize (w.alloc (.cells #[.int .i64 1, .int .i64 wd, .slice B args.length bc, .int .i64 v] 61)) = W0 at *
  have q0 := cell_block (i := 0) r0
  have q1 := cell_block (i := 1) r0
  have q2 := cell_block (i := 2) r0
  have q3 := cell_block (i := 3) r0
  simp at q0 q1 q2 q3
  refine wp_region_aft (by kernel_rfl) (by kernel_rfl) ?_
  repeat (go_big_quiet_step ((go_at_call 89; exact Calls.qs (HAC.out _))))
  refine wpQuiet_nil ?_
  intro y
  have R0 := Lib.hid (show y.val.heap[w.heap.size]? = some (.cells #[.int .i64 1, .int .i64 wd, .slice B args.length bc, .int .i64 v] 61) by rw [y.pf.block _ z0]; exact r0)
  have hbw : Below w.heap.size w y.val := y.below hb0 hb0.size
  have zy : w.heap.size < y.val.heap.size := y.lt' z0
  clear r0 q0 q1 q2 q3 hb0 z0
  generalize y.val = W1 at *
  have r0 := R0.out
  have q0 := cell_block (i := 0) r0
  have q1 := cell_block (i := 1) r0
  have q2 := cell_block (i := 2) r0
  have q3 := cell_block (i := 3) r0
  simp at q0 q1 q2 q3
  clear r0
  go_wp2
  go_loop [8] (fun v8 => ∃ j : Nat, j ≤ args.length ∧ v8 = .int .i64 j ∧ (∀ x ∈ args.take j, isIx x i = true)) (fun v8 => args.length - (intOf v8).toNat)
  case atStart => exact ⟨0, by omega, rfl, by simp⟩
  case round =>
    obtain ⟨j, hj, rfl, hall⟩ := hrel
    by_cases hlt : j < args.length
    · have hjj : (j : Int) < args.length := by omega
      have HX := Lib.hid (List.getElem?_eq_getElem hlt)
      have HM := Lib.hid (List.getElem_mem hlt)
      have HT := Lib.hid (List.take_succ_eq_append_getElem hlt)
      generalize args[j] = x at *
      obtain ⟨ab, rfl, hbb, hcx⟩ := (HB.out.below hbw).cell HX.out
      have HV := Lib.hid (fun w => by have k := Within_c x 0 ((i : Int) - 1) w; rw [isIx_w, H4.out x HM.out] at k; exact k)
      have HA := Lib.hid hall
      clear hall
      go_wp2_with (go_at_call 27; ((with_reducible refine (HV.out _).mono ?_); rintro e w' ⟨rfl, rfl⟩))
      go_round
      case rel => exact ⟨j + 1, by omega, by go_num, fun z hz => by
        rw [HT.out, List.mem_append] at hz
        rcases hz with hz | hz
        · exact HA.out z hz
        · rw [List.mem_singleton.1 hz]; exact H4.out _ HM.out⟩
      case measure => simp [intOf]; omega
    · obtain rfl : j = args.length := by omega
      clear hall
      go_wp2_with (go_at_call 27; ((with_reducible refine (HU.out _).mono ?_); rintro e w' ⟨rfl, rfl⟩))
      go_ret
      exact ⟨rfl, Below.aft hbw⟩

set_option maxRecDepth 100000 in
set_option maxHeartbeats 1600000 in
theorem nodeErr_1B (k : Nat) (lw : Int) (A : Option Addr) (cap : Nat) (ls : List Int) (hls : ls.length ≤ 65536) (ad : Addr) (capN : Nat) (ns : List Nd) (hns : ns.length ≤ 65536) (i : Nat) (wd : Int) (args : List Int) (hla : args.length ≤ 65536) (hi : ns[i]? = some ⟨1, wd, args, (k : Int)⟩) (w : World) (hA : LiesI w A ls) (hN : LiesN w (some ad) ns) (h1 : isIx 1 19 = true) (h2 : isW wd = true) (h3 : (args.length : Int) = argN 1) (h4 : ∀ x ∈ args, isIx x (ns.take i).length = true) (h5 : isIx (k : Int) ls.length = true) (hy : ls[k]? = some lw) (h6 : ¬ lw = wd) :
    Calls Tryz.prog 110 #[.slice A ls.length cap, .slice (some ad) ns.length capN, .int .i64 i] w fun e w' => e = .returned (.int .i64 25) ∧ ∃ x : Aft w, w' = x.val := by
  obtain ⟨ad', had, hbk, c0, c1, c3, B, bc, c2, hB⟩ := hN.cells hi
  obtain rfl : ad = ad' := Option.some.inj had
  have hil := (List.getElem?_eq_some_iff.1 hi).1
  have hik : (i : Int) < ns.length := by omega
  have c1' : w.cell? ⟨(ad.add (i * 4)).block, (ad.add (i * 4)).off + 1, none⟩ = some (.int .i64 wd) := c1
  have c2' : w.cell? ⟨(ad.add (i * 4)).block, (ad.add (i * 4)).off + 2, none⟩ = some (.slice B args.length bc) := c2
  have c3' : w.cell? ⟨(ad.add (i * 4)).block, (ad.add (i * 4)).off + 3, none⟩ = some (.int .i64 (k : Int)) := c3
  have hlk : (ns.take i).length = i := by simp; omega
  clear c1 c2 c3 had
  have HI := Lib.hid (fun w => by have k := Within_c 1 0 18 w; rw [show win 1 0 18 = true by rw [← h1]; exact (isIx_win 1 19).symm] at k; exact k)
  have HW := Lib.hid (fun w => by have k := IsWidth_c wd w; rw [h2] at k; exact k)
  have HAC := Lib.hid (fun w => by have k := ArgCount_c 1 w; rw [← h3] at k; exact k)
  have HB := Lib.hid hB
  have HU := Lib.hid (fun w => by have kk := Within_c (k : Int) 0 (((ls.length : Nat) : Int) - 1) w; rw [isIx_w, h5] at kk; exact kk)
  obtain ⟨al, rfl, hbl, hcl⟩ := hA.cell hy
  have HC := Lib.hid hcl
  have hkl : (k : Int) < ls.length := (isIx_iff.1 h5).2
  have n6 : (lw == wd) = false := by simpa using h6
  rw [hlk] at h4
  have H4 := Lib.hid h4
  clear hA hN hB h1 h2 hi hlk h3 h4 h5 h6 hcl hy
  go_enter Tryz.func110, Tryz.ntmps110
  go_wp2_with (first | (go_at_call 27; ((with_reducible refine (HI.out _).mono ?_); rintro e w' ⟨rfl, rfl⟩)) | (go_at_call 76; ((with_reducible refine (HW.out _).mono ?_); rintro e w' ⟨rfl, rfl⟩)))
  have r0 : (w.alloc (.cells #[.int .i64 1, .int .i64 wd, .slice B args.length bc, .int .i64 (k : Int)] 61)).heap[w.heap.size]? = some (.cells #[.int .i64 1, .int .i64 wd, .slice B args.length bc, .int .i64 (k : Int)] 61) := heap_alloc_new _ _
  have z0 : w.heap.size < (w.alloc (.cells #[.int .i64 1, .int .i64 wd, .slice B args.length bc, .int .i64 (k : Int)] 61)).heap.size := by simp
  have hb0 : Below w.heap.size w (w.alloc (.cells #[.int .i64 1, .int .i64 wd, .slice B args.length bc, .int .i64 (k : Int)] 61)) := (Below.refl _ _).alloc (Nat.le_refl _) _
  generalize (w.alloc (.cells #[.int .i64 1, .int .i64 wd, .slice B args.length bc, .int .i64 (k : Int)] 61)) = W0 at *
  have q0 := cell_block (i := 0) r0
  have q1 := cell_block (i := 1) r0
  have q2 := cell_block (i := 2) r0
  have q3 := cell_block (i := 3) r0
  simp at q0 q1 q2 q3
  refine wp_region_aft (by kernel_rfl) (by kernel_rfl) ?_
  repeat (go_big_quiet_step ((go_at_call 89; exact Calls.qs (HAC.out _))))
  refine wpQuiet_nil ?_
  intro y
  have R0 := Lib.hid (show y.val.heap[w.heap.size]? = some (.cells #[.int .i64 1, .int .i64 wd, .slice B args.length bc, .int .i64 (k : Int)] 61) by rw [y.pf.block _ z0]; exact r0)
  have hbw : Below w.heap.size w y.val := y.below hb0 hb0.size
  have zy : w.heap.size < y.val.heap.size := y.lt' z0
  clear r0 q0 q1 q2 q3 hb0 z0
  generalize y.val = W1 at *
  have r0 := R0.out
  have q0 := cell_block (i := 0) r0
  have q1 := cell_block (i := 1) r0
  have q2 := cell_block (i := 2) r0
  have q3 := cell_block (i := 3) r0
  simp at q0 q1 q2 q3
  clear r0
  go_wp2
  go_loop [8] (fun v8 => ∃ j : Nat, j ≤ args.length ∧ v8 = .int .i64 j ∧ (∀ x ∈ args.take j, isIx x i = true)) (fun v8 => args.length - (intOf v8).toNat)
  case atStart => exact ⟨0, by omega, rfl, by simp⟩
  case round =>
    obtain ⟨j, hj, rfl, hall⟩ := hrel
    by_cases hlt : j < args.length
    · have hjj : (j : Int) < args.length := by omega
      have HX := Lib.hid (List.getElem?_eq_getElem hlt)
      have HM := Lib.hid (List.getElem_mem hlt)
      have HT := Lib.hid (List.take_succ_eq_append_getElem hlt)
      generalize args[j] = x at *
      obtain ⟨ab, rfl, hbb, hcx⟩ := (HB.out.below hbw).cell HX.out
      have HV := Lib.hid (fun w => by have k := Within_c x 0 ((i : Int) - 1) w; rw [isIx_w, H4.out x HM.out] at k; exact k)
      have HA := Lib.hid hall
      clear hall
      go_wp2_with (go_at_call 27; ((with_reducible refine (HV.out _).mono ?_); rintro e w' ⟨rfl, rfl⟩))
      go_round
      case rel => exact ⟨j + 1, by omega, by go_num, fun z hz => by
        rw [HT.out, List.mem_append] at hz
        rcases hz with hz | hz
        · exact HA.out z hz
        · rw [List.mem_singleton.1 hz]; exact H4.out _ HM.out⟩
      case measure => simp [intOf]; omega
    · obtain rfl : j = args.length := by omega
      clear hall
      have c : W1.cell? (al.add k) = some (.int .i64 lw) := (hbw.cell (p := al.add k) (by rw [addB]; exact hbl)).trans HC.out
      have hlw : al.block < W1.heap.size := Nat.lt_of_lt_of_le hbl hbw.size
      have cx : ∀ x' : Aft W1, x'.val.cell? (al.add k) = some (.int .i64 lw) := fun x' => (x'.pf.cell (p := al.add k) (by rw [addB]; exact hlw)).trans c
      go_wp2_with (go_at_call 27; ((with_reducible refine (HU.out _).mono ?_); rintro e w' ⟨rfl, rfl⟩))
      refine wp_region_aft (by kernel_rfl) (by kernel_rfl) ?_
      repeat (go_big_quiet_step (fail))
      refine wpQuiet_nil ?_
      intro z
      go_wp2
      go_ret
      exact ⟨rfl, Below.aft (z.below hbw hbw.size)⟩

set_option maxRecDepth 100000 in
set_option maxHeartbeats 1600000 in
theorem nodeErr_1C (k : Nat) (lw : Int) (A : Option Addr) (cap : Nat) (ls : List Int) (hls : ls.length ≤ 65536) (ad : Addr) (capN : Nat) (ns : List Nd) (hns : ns.length ≤ 65536) (i : Nat) (wd : Int) (args : List Int) (hla : args.length ≤ 65536) (hi : ns[i]? = some ⟨1, wd, args, (k : Int)⟩) (w : World) (hA : LiesI w A ls) (hN : LiesN w (some ad) ns) (h1 : isIx 1 19 = true) (h2 : isW wd = true) (h3 : (args.length : Int) = argN 1) (h4 : ∀ x ∈ args, isIx x (ns.take i).length = true) (h5 : isIx (k : Int) ls.length = true) (hy : ls[k]? = some lw) (h6 : lw = wd) :
    Calls Tryz.prog 110 #[.slice A ls.length cap, .slice (some ad) ns.length capN, .int .i64 i] w fun e w' => e = .returned (.int .i64 0) ∧ ∃ x : Aft w, w' = x.val := by
  obtain ⟨ad', had, hbk, c0, c1, c3, B, bc, c2, hB⟩ := hN.cells hi
  obtain rfl : ad = ad' := Option.some.inj had
  have hil := (List.getElem?_eq_some_iff.1 hi).1
  have hik : (i : Int) < ns.length := by omega
  have c1' : w.cell? ⟨(ad.add (i * 4)).block, (ad.add (i * 4)).off + 1, none⟩ = some (.int .i64 wd) := c1
  have c2' : w.cell? ⟨(ad.add (i * 4)).block, (ad.add (i * 4)).off + 2, none⟩ = some (.slice B args.length bc) := c2
  have c3' : w.cell? ⟨(ad.add (i * 4)).block, (ad.add (i * 4)).off + 3, none⟩ = some (.int .i64 (k : Int)) := c3
  have hlk : (ns.take i).length = i := by simp; omega
  clear c1 c2 c3 had
  have HI := Lib.hid (fun w => by have k := Within_c 1 0 18 w; rw [show win 1 0 18 = true by rw [← h1]; exact (isIx_win 1 19).symm] at k; exact k)
  have HW := Lib.hid (fun w => by have k := IsWidth_c wd w; rw [h2] at k; exact k)
  have HAC := Lib.hid (fun w => by have k := ArgCount_c 1 w; rw [← h3] at k; exact k)
  have HB := Lib.hid hB
  have HU := Lib.hid (fun w => by have kk := Within_c (k : Int) 0 (((ls.length : Nat) : Int) - 1) w; rw [isIx_w, h5] at kk; exact kk)
  obtain ⟨al, rfl, hbl, hcl⟩ := hA.cell hy
  have HC := Lib.hid hcl
  have hkl : (k : Int) < ls.length := (isIx_iff.1 h5).2
  have n6 : (lw == wd) = true := by simpa using h6
  rw [hlk] at h4
  have H4 := Lib.hid h4
  clear hA hN hB h1 h2 hi hlk h3 h4 h5 h6 hcl hy
  go_enter Tryz.func110, Tryz.ntmps110
  go_wp2_with (first | (go_at_call 27; ((with_reducible refine (HI.out _).mono ?_); rintro e w' ⟨rfl, rfl⟩)) | (go_at_call 76; ((with_reducible refine (HW.out _).mono ?_); rintro e w' ⟨rfl, rfl⟩)))
  have r0 : (w.alloc (.cells #[.int .i64 1, .int .i64 wd, .slice B args.length bc, .int .i64 (k : Int)] 61)).heap[w.heap.size]? = some (.cells #[.int .i64 1, .int .i64 wd, .slice B args.length bc, .int .i64 (k : Int)] 61) := heap_alloc_new _ _
  have z0 : w.heap.size < (w.alloc (.cells #[.int .i64 1, .int .i64 wd, .slice B args.length bc, .int .i64 (k : Int)] 61)).heap.size := by simp
  have hb0 : Below w.heap.size w (w.alloc (.cells #[.int .i64 1, .int .i64 wd, .slice B args.length bc, .int .i64 (k : Int)] 61)) := (Below.refl _ _).alloc (Nat.le_refl _) _
  generalize (w.alloc (.cells #[.int .i64 1, .int .i64 wd, .slice B args.length bc, .int .i64 (k : Int)] 61)) = W0 at *
  have q0 := cell_block (i := 0) r0
  have q1 := cell_block (i := 1) r0
  have q2 := cell_block (i := 2) r0
  have q3 := cell_block (i := 3) r0
  simp at q0 q1 q2 q3
  refine wp_region_aft (by kernel_rfl) (by kernel_rfl) ?_
  repeat (go_big_quiet_step ((go_at_call 89; exact Calls.qs (HAC.out _))))
  refine wpQuiet_nil ?_
  intro y
  have R0 := Lib.hid (show y.val.heap[w.heap.size]? = some (.cells #[.int .i64 1, .int .i64 wd, .slice B args.length bc, .int .i64 (k : Int)] 61) by rw [y.pf.block _ z0]; exact r0)
  have hbw : Below w.heap.size w y.val := y.below hb0 hb0.size
  have zy : w.heap.size < y.val.heap.size := y.lt' z0
  clear r0 q0 q1 q2 q3 hb0 z0
  generalize y.val = W1 at *
  have r0 := R0.out
  have q0 := cell_block (i := 0) r0
  have q1 := cell_block (i := 1) r0
  have q2 := cell_block (i := 2) r0
  have q3 := cell_block (i := 3) r0
  simp at q0 q1 q2 q3
  clear r0
  go_wp2
  go_loop [8] (fun v8 => ∃ j : Nat, j ≤ args.length ∧ v8 = .int .i64 j ∧ (∀ x ∈ args.take j, isIx x i = true)) (fun v8 => args.length - (intOf v8).toNat)
  case atStart => exact ⟨0, by omega, rfl, by simp⟩
  case round =>
    obtain ⟨j, hj, rfl, hall⟩ := hrel
    by_cases hlt : j < args.length
    · have hjj : (j : Int) < args.length := by omega
      have HX := Lib.hid (List.getElem?_eq_getElem hlt)
      have HM := Lib.hid (List.getElem_mem hlt)
      have HT := Lib.hid (List.take_succ_eq_append_getElem hlt)
      generalize args[j] = x at *
      obtain ⟨ab, rfl, hbb, hcx⟩ := (HB.out.below hbw).cell HX.out
      have HV := Lib.hid (fun w => by have k := Within_c x 0 ((i : Int) - 1) w; rw [isIx_w, H4.out x HM.out] at k; exact k)
      have HA := Lib.hid hall
      clear hall
      go_wp2_with (go_at_call 27; ((with_reducible refine (HV.out _).mono ?_); rintro e w' ⟨rfl, rfl⟩))
      go_round
      case rel => exact ⟨j + 1, by omega, by go_num, fun z hz => by
        rw [HT.out, List.mem_append] at hz
        rcases hz with hz | hz
        · exact HA.out z hz
        · rw [List.mem_singleton.1 hz]; exact H4.out _ HM.out⟩
      case measure => simp [intOf]; omega
    · obtain rfl : j = args.length := by omega
      clear hall
      have c : W1.cell? (al.add k) = some (.int .i64 lw) := (hbw.cell (p := al.add k) (by rw [addB]; exact hbl)).trans HC.out
      have hlw : al.block < W1.heap.size := Nat.lt_of_lt_of_le hbl hbw.size
      have cx : ∀ x' : Aft W1, x'.val.cell? (al.add k) = some (.int .i64 lw) := fun x' => (x'.pf.cell (p := al.add k) (by rw [addB]; exact hlw)).trans c
      go_wp2_with (go_at_call 27; ((with_reducible refine (HU.out _).mono ?_); rintro e w' ⟨rfl, rfl⟩))
      refine wp_region_aft (by kernel_rfl) (by kernel_rfl) ?_
      repeat (go_big_quiet_step (fail))
      refine wpQuiet_nil ?_
      intro z
      go_wp2
      go_ret
      exact ⟨rfl, Below.aft (z.below hbw hbw.size)⟩

set_option maxRecDepth 100000 in
set_option maxHeartbeats 1600000 in
theorem nodeErr_14F (A : Option Addr) (cap : Nat) (ls : List Int) (hls : ls.length ≤ 65536) (ad : Addr) (capN : Nat) (ns : List Nd) (hns : ns.length ≤ 65536) (i : Nat) (wd v : Int) (args : List Int) (hla : args.length ≤ 65536) (hi : ns[i]? = some ⟨14, wd, args, v⟩) (w : World) (hA : LiesI w A ls) (hN : LiesN w (some ad) ns) (h1 : isIx 14 19 = true) (h2 : isW wd = true) (h3 : (args.length : Int) = argN 14) (h4 : ∀ x ∈ args, isIx x (ns.take i).length = true) (h5 : isIx v 16 = false) :
    Calls Tryz.prog 110 #[.slice A ls.length cap, .slice (some ad) ns.length capN, .int .i64 i] w fun e w' => e = .returned (.int .i64 2) ∧ ∃ x : Aft w, w' = x.val := by
  obtain ⟨ad', had, hbk, c0, c1, c3, B, bc, c2, hB⟩ := hN.cells hi
  obtain rfl : ad = ad' := Option.some.inj had
  have hil := (List.getElem?_eq_some_iff.1 hi).1
  have hik : (i : Int) < ns.length := by omega
  have c1' : w.cell? ⟨(ad.add (i * 4)).block, (ad.add (i * 4)).off + 1, none⟩ = some (.int .i64 wd) := c1
  have c2' : w.cell? ⟨(ad.add (i * 4)).block, (ad.add (i * 4)).off + 2, none⟩ = some (.slice B args.length bc) := c2
  have c3' : w.cell? ⟨(ad.add (i * 4)).block, (ad.add (i * 4)).off + 3, none⟩ = some (.int .i64 v) := c3
  have hlk : (ns.take i).length = i := by simp; omega
  clear c1 c2 c3 had
  have HI := Lib.hid (fun w => by have k := Within_c 14 0 18 w; rw [show win 14 0 18 = true by rw [← h1]; exact (isIx_win 14 19).symm] at k; exact k)
  have HW := Lib.hid (fun w => by have k := IsWidth_c wd w; rw [h2] at k; exact k)
  have HAC := Lib.hid (fun w => by have k := ArgCount_c 14 w; rw [← h3] at k; exact k)
  have HB := Lib.hid hB
  have HU := Lib.hid (fun w => by have k := Within_c v 0 15 w; rw [show win v 0 15 = false by rw [← h5]; exact (isIx_win v 16).symm] at k; exact k)
  rw [hlk] at h4
  have H4 := Lib.hid h4
  clear hA hN hB h1 h2 hi hlk h3 h4 h5
  go_enter Tryz.func110, Tryz.ntmps110
  go_wp2_with (first | (go_at_call 27; ((with_reducible refine (HI.out _).mono ?_); rintro e w' ⟨rfl, rfl⟩)) | (go_at_call 76; ((with_reducible refine (HW.out _).mono ?_); rintro e w' ⟨rfl, rfl⟩)))
  have r0 : (w.alloc (.cells #[.int .i64 14, .int .i64 wd, .slice B args.length bc, .int .i64 v] 61)).heap[w.heap.size]? = some (.cells #[.int .i64 14, .int .i64 wd, .slice B args.length bc, .int .i64 v] 61) := heap_alloc_new _ _
  have z0 : w.heap.size < (w.alloc (.cells #[.int .i64 14, .int .i64 wd, .slice B args.length bc, .int .i64 v] 61)).heap.size := by simp
  have hb0 : Below w.heap.size w (w.alloc (.cells #[.int .i64 14, .int .i64 wd, .slice B args.length bc, .int .i64 v] 61)) := (Below.refl _ _).alloc (Nat.le_refl _) _
  generalize (w.alloc (.cells #[.int .i64 14, .int .i64 wd, .slice B args.length bc, .int .i64 v] 61)) = W0 at *
  have q0 := cell_block (i := 0) r0
  have q1 := cell_block (i := 1) r0
  have q2 := cell_block (i := 2) r0
  have q3 := cell_block (i := 3) r0
  simp at q0 q1 q2 q3
  refine wp_region_aft (by kernel_rfl) (by kernel_rfl) ?_
  repeat (go_big_quiet_step ((go_at_call 89; exact Calls.qs (HAC.out _))))
  refine wpQuiet_nil ?_
  intro y
  have R0 := Lib.hid (show y.val.heap[w.heap.size]? = some (.cells #[.int .i64 14, .int .i64 wd, .slice B args.length bc, .int .i64 v] 61) by rw [y.pf.block _ z0]; exact r0)
  have hbw : Below w.heap.size w y.val := y.below hb0 hb0.size
  have zy : w.heap.size < y.val.heap.size := y.lt' z0
  clear r0 q0 q1 q2 q3 hb0 z0
  generalize y.val = W1 at *
  have r0 := R0.out
  have q0 := cell_block (i := 0) r0
  have q1 := cell_block (i := 1) r0
  have q2 := cell_block (i := 2) r0
  have q3 := cell_block (i := 3) r0
  simp at q0 q1 q2 q3
  clear r0
  go_wp2
  go_loop [8] (fun v8 => ∃ j : Nat, j ≤ args.length ∧ v8 = .int .i64 j ∧ (∀ x ∈ args.take j, isIx x i = true)) (fun v8 => args.length - (intOf v8).toNat)
  case atStart => exact ⟨0, by omega, rfl, by simp⟩
  case round =>
    obtain ⟨j, hj, rfl, hall⟩ := hrel
    by_cases hlt : j < args.length
    · have hjj : (j : Int) < args.length := by omega
      have HX := Lib.hid (List.getElem?_eq_getElem hlt)
      have HM := Lib.hid (List.getElem_mem hlt)
      have HT := Lib.hid (List.take_succ_eq_append_getElem hlt)
      generalize args[j] = x at *
      obtain ⟨ab, rfl, hbb, hcx⟩ := (HB.out.below hbw).cell HX.out
      have HV := Lib.hid (fun w => by have k := Within_c x 0 ((i : Int) - 1) w; rw [isIx_w, H4.out x HM.out] at k; exact k)
      have HA := Lib.hid hall
      clear hall
      go_wp2_with (go_at_call 27; ((with_reducible refine (HV.out _).mono ?_); rintro e w' ⟨rfl, rfl⟩))
      go_round
      case rel => exact ⟨j + 1, by omega, by go_num, fun z hz => by
        rw [HT.out, List.mem_append] at hz
        rcases hz with hz | hz
        · exact HA.out z hz
        · rw [List.mem_singleton.1 hz]; exact H4.out _ HM.out⟩
      case measure => simp [intOf]; omega
    · obtain rfl : j = args.length := by omega
      clear hall
      go_wp2_with (go_at_call 27; ((with_reducible refine (HU.out _).mono ?_); rintro e w' ⟨rfl, rfl⟩))
      go_ret
      exact ⟨rfl, Below.aft hbw⟩

set_option maxRecDepth 100000 in
set_option maxHeartbeats 1600000 in
theorem nodeErr_14T (A : Option Addr) (cap : Nat) (ls : List Int) (hls : ls.length ≤ 65536) (ad : Addr) (capN : Nat) (ns : List Nd) (hns : ns.length ≤ 65536) (i : Nat) (wd v : Int) (args : List Int) (hla : args.length ≤ 65536) (hi : ns[i]? = some ⟨14, wd, args, v⟩) (w : World) (hA : LiesI w A ls) (hN : LiesN w (some ad) ns) (h1 : isIx 14 19 = true) (h2 : isW wd = true) (h3 : (args.length : Int) = argN 14) (h4 : ∀ x ∈ args, isIx x (ns.take i).length = true) (h5 : isIx v 16 = true) (hv : ∀ n ∈ ns.take i, isW n.wd = true) (hg : (14 : Int) ≤ 18) (h6 : fitW 14 wd v (wAt (ns.take i) args 0) (wAt (ns.take i) args 1) (wAt (ns.take i) args 2) = false) :
    Calls Tryz.prog 110 #[.slice A ls.length cap, .slice (some ad) ns.length capN, .int .i64 i] w fun e w' => e = .returned (.int .i64 25) ∧ ∃ x : Aft w, w' = x.val := by
  obtain ⟨ad', had, hbk, c0, c1, c3, B, bc, c2, hB⟩ := hN.cells hi
  obtain rfl : ad = ad' := Option.some.inj had
  have hil := (List.getElem?_eq_some_iff.1 hi).1
  have hik : (i : Int) < ns.length := by omega
  have c1' : w.cell? ⟨(ad.add (i * 4)).block, (ad.add (i * 4)).off + 1, none⟩ = some (.int .i64 wd) := c1
  have c2' : w.cell? ⟨(ad.add (i * 4)).block, (ad.add (i * 4)).off + 2, none⟩ = some (.slice B args.length bc) := c2
  have c3' : w.cell? ⟨(ad.add (i * 4)).block, (ad.add (i * 4)).off + 3, none⟩ = some (.int .i64 v) := c3
  have hlk : (ns.take i).length = i := by simp; omega
  clear c1 c2 c3 had
  have HI := Lib.hid (fun w => by have k := Within_c 14 0 18 w; rw [show win 14 0 18 = true by rw [← h1]; exact (isIx_win 14 19).symm] at k; exact k)
  have HW := Lib.hid (fun w => by have k := IsWidth_c wd w; rw [h2] at k; exact k)
  have HAC := Lib.hid (fun w => by have k := ArgCount_c 14 w; rw [← h3] at k; exact k)
  have HB := Lib.hid hB
  have HU := Lib.hid (fun w => by have k := Within_c v 0 15 w; rw [show win v 0 15 = true by rw [← h5]; exact (isIx_win v 16).symm] at k; exact k)
  have HF := Lib.hid (fun (W : World) (hb : Below w.heap.size w W) => by
    have k := rwidthsFit_c 14 wd v (by decide) hg (isW_iff.1 h2).1 (isW_iff.1 h2).2 (fun _ => by have := isIx_iff.1 h5; omega) B bc args h3 (some ad) capN ns hns i hv h4 W (hN.below hb) (hB.below hb)
    rw [h6] at k; exact k)
  rw [hlk] at h4
  have H4 := Lib.hid h4
  clear hA hN hB h1 h2 hi hlk h3 h4 h5 h6 hv hg
  go_enter Tryz.func110, Tryz.ntmps110
  go_wp2_with (first | (go_at_call 27; ((with_reducible refine (HI.out _).mono ?_); rintro e w' ⟨rfl, rfl⟩)) | (go_at_call 76; ((with_reducible refine (HW.out _).mono ?_); rintro e w' ⟨rfl, rfl⟩)))
  have r0 : (w.alloc (.cells #[.int .i64 14, .int .i64 wd, .slice B args.length bc, .int .i64 v] 61)).heap[w.heap.size]? = some (.cells #[.int .i64 14, .int .i64 wd, .slice B args.length bc, .int .i64 v] 61) := heap_alloc_new _ _
  have z0 : w.heap.size < (w.alloc (.cells #[.int .i64 14, .int .i64 wd, .slice B args.length bc, .int .i64 v] 61)).heap.size := by simp
  have hb0 : Below w.heap.size w (w.alloc (.cells #[.int .i64 14, .int .i64 wd, .slice B args.length bc, .int .i64 v] 61)) := (Below.refl _ _).alloc (Nat.le_refl _) _
  generalize (w.alloc (.cells #[.int .i64 14, .int .i64 wd, .slice B args.length bc, .int .i64 v] 61)) = W0 at *
  have q0 := cell_block (i := 0) r0
  have q1 := cell_block (i := 1) r0
  have q2 := cell_block (i := 2) r0
  have q3 := cell_block (i := 3) r0
  simp at q0 q1 q2 q3
  refine wp_region_aft (by kernel_rfl) (by kernel_rfl) ?_
  repeat (go_big_quiet_step ((go_at_call 89; exact Calls.qs (HAC.out _))))
  refine wpQuiet_nil ?_
  intro y
  have R0 := Lib.hid (show y.val.heap[w.heap.size]? = some (.cells #[.int .i64 14, .int .i64 wd, .slice B args.length bc, .int .i64 v] 61) by rw [y.pf.block _ z0]; exact r0)
  have hbw : Below w.heap.size w y.val := y.below hb0 hb0.size
  have zy : w.heap.size < y.val.heap.size := y.lt' z0
  clear r0 q0 q1 q2 q3 hb0 z0
  generalize y.val = W1 at *
  have r0 := R0.out
  have q0 := cell_block (i := 0) r0
  have q1 := cell_block (i := 1) r0
  have q2 := cell_block (i := 2) r0
  have q3 := cell_block (i := 3) r0
  simp at q0 q1 q2 q3
  clear r0
  go_wp2
  go_loop [8] (fun v8 => ∃ j : Nat, j ≤ args.length ∧ v8 = .int .i64 j ∧ (∀ x ∈ args.take j, isIx x i = true)) (fun v8 => args.length - (intOf v8).toNat)
  case atStart => exact ⟨0, by omega, rfl, by simp⟩
  case round =>
    obtain ⟨j, hj, rfl, hall⟩ := hrel
    by_cases hlt : j < args.length
    · have hjj : (j : Int) < args.length := by omega
      have HX := Lib.hid (List.getElem?_eq_getElem hlt)
      have HM := Lib.hid (List.getElem_mem hlt)
      have HT := Lib.hid (List.take_succ_eq_append_getElem hlt)
      generalize args[j] = x at *
      obtain ⟨ab, rfl, hbb, hcx⟩ := (HB.out.below hbw).cell HX.out
      have HV := Lib.hid (fun w => by have k := Within_c x 0 ((i : Int) - 1) w; rw [isIx_w, H4.out x HM.out] at k; exact k)
      have HA := Lib.hid hall
      clear hall
      go_wp2_with (go_at_call 27; ((with_reducible refine (HV.out _).mono ?_); rintro e w' ⟨rfl, rfl⟩))
      go_round
      case rel => exact ⟨j + 1, by omega, by go_num, fun z hz => by
        rw [HT.out, List.mem_append] at hz
        rcases hz with hz | hz
        · exact HA.out z hz
        · rw [List.mem_singleton.1 hz]; exact H4.out _ HM.out⟩
      case measure => simp [intOf]; omega
    · obtain rfl : j = args.length := by omega
      clear hall
      go_wp2_with (go_at_call 27; ((with_reducible refine (HU.out _).mono ?_); rintro e w' ⟨rfl, rfl⟩))
      refine (HF.out _ hbw).mono ?_
      rintro e w' ⟨rfl, z, rfl⟩
      go_wp2
      go_ret
      exact ⟨rfl, Below.aft (z.below hbw hbw.size)⟩

set_option maxRecDepth 100000 in
set_option maxHeartbeats 1600000 in
theorem nodeErr_14U (A : Option Addr) (cap : Nat) (ls : List Int) (hls : ls.length ≤ 65536) (ad : Addr) (capN : Nat) (ns : List Nd) (hns : ns.length ≤ 65536) (i : Nat) (wd v : Int) (args : List Int) (hla : args.length ≤ 65536) (hi : ns[i]? = some ⟨14, wd, args, v⟩) (w : World) (hA : LiesI w A ls) (hN : LiesN w (some ad) ns) (h1 : isIx 14 19 = true) (h2 : isW wd = true) (h3 : (args.length : Int) = argN 14) (h4 : ∀ x ∈ args, isIx x (ns.take i).length = true) (h5 : isIx v 16 = true) (hv : ∀ n ∈ ns.take i, isW n.wd = true) (hg : (14 : Int) ≤ 18) (h6 : fitW 14 wd v (wAt (ns.take i) args 0) (wAt (ns.take i) args 1) (wAt (ns.take i) args 2) = true) :
    Calls Tryz.prog 110 #[.slice A ls.length cap, .slice (some ad) ns.length capN, .int .i64 i] w fun e w' => e = .returned (.int .i64 0) ∧ ∃ x : Aft w, w' = x.val := by
  obtain ⟨ad', had, hbk, c0, c1, c3, B, bc, c2, hB⟩ := hN.cells hi
  obtain rfl : ad = ad' := Option.some.inj had
  have hil := (List.getElem?_eq_some_iff.1 hi).1
  have hik : (i : Int) < ns.length := by omega
  have c1' : w.cell? ⟨(ad.add (i * 4)).block, (ad.add (i * 4)).off + 1, none⟩ = some (.int .i64 wd) := c1
  have c2' : w.cell? ⟨(ad.add (i * 4)).block, (ad.add (i * 4)).off + 2, none⟩ = some (.slice B args.length bc) := c2
  have c3' : w.cell? ⟨(ad.add (i * 4)).block, (ad.add (i * 4)).off + 3, none⟩ = some (.int .i64 v) := c3
  have hlk : (ns.take i).length = i := by simp; omega
  clear c1 c2 c3 had
  have HI := Lib.hid (fun w => by have k := Within_c 14 0 18 w; rw [show win 14 0 18 = true by rw [← h1]; exact (isIx_win 14 19).symm] at k; exact k)
  have HW := Lib.hid (fun w => by have k := IsWidth_c wd w; rw [h2] at k; exact k)
  have HAC := Lib.hid (fun w => by have k := ArgCount_c 14 w; rw [← h3] at k; exact k)
  have HB := Lib.hid hB
  have HU := Lib.hid (fun w => by have k := Within_c v 0 15 w; rw [show win v 0 15 = true by rw [← h5]; exact (isIx_win v 16).symm] at k; exact k)
  have HF := Lib.hid (fun (W : World) (hb : Below w.heap.size w W) => by
    have k := rwidthsFit_c 14 wd v (by decide) hg (isW_iff.1 h2).1 (isW_iff.1 h2).2 (fun _ => by have := isIx_iff.1 h5; omega) B bc args h3 (some ad) capN ns hns i hv h4 W (hN.below hb) (hB.below hb)
    rw [h6] at k; exact k)
  rw [hlk] at h4
  have H4 := Lib.hid h4
  clear hA hN hB h1 h2 hi hlk h3 h4 h5 h6 hv hg
  go_enter Tryz.func110, Tryz.ntmps110
  go_wp2_with (first | (go_at_call 27; ((with_reducible refine (HI.out _).mono ?_); rintro e w' ⟨rfl, rfl⟩)) | (go_at_call 76; ((with_reducible refine (HW.out _).mono ?_); rintro e w' ⟨rfl, rfl⟩)))
  have r0 : (w.alloc (.cells #[.int .i64 14, .int .i64 wd, .slice B args.length bc, .int .i64 v] 61)).heap[w.heap.size]? = some (.cells #[.int .i64 14, .int .i64 wd, .slice B args.length bc, .int .i64 v] 61) := heap_alloc_new _ _
  have z0 : w.heap.size < (w.alloc (.cells #[.int .i64 14, .int .i64 wd, .slice B args.length bc, .int .i64 v] 61)).heap.size := by simp
  have hb0 : Below w.heap.size w (w.alloc (.cells #[.int .i64 14, .int .i64 wd, .slice B args.length bc, .int .i64 v] 61)) := (Below.refl _ _).alloc (Nat.le_refl _) _
  generalize (w.alloc (.cells #[.int .i64 14, .int .i64 wd, .slice B args.length bc, .int .i64 v] 61)) = W0 at *
  have q0 := cell_block (i := 0) r0
  have q1 := cell_block (i := 1) r0
  have q2 := cell_block (i := 2) r0
  have q3 := cell_block (i := 3) r0
  simp at q0 q1 q2 q3
  refine wp_region_aft (by kernel_rfl) (by kernel_rfl) ?_
  repeat (go_big_quiet_step ((go_at_call 89; exact Calls.qs (HAC.out _))))
  refine wpQuiet_nil ?_
  intro y
  have R0 := Lib.hid (show y.val.heap[w.heap.size]? = some (.cells #[.int .i64 14, .int .i64 wd, .slice B args.length bc, .int .i64 v] 61) by rw [y.pf.block _ z0]; exact r0)
  have hbw : Below w.heap.size w y.val := y.below hb0 hb0.size
  have zy : w.heap.size < y.val.heap.size := y.lt' z0
  clear r0 q0 q1 q2 q3 hb0 z0
  generalize y.val = W1 at *
  have r0 := R0.out
  have q0 := cell_block (i := 0) r0
  have q1 := cell_block (i := 1) r0
  have q2 := cell_block (i := 2) r0
  have q3 := cell_block (i := 3) r0
  simp at q0 q1 q2 q3
  clear r0
  go_wp2
  go_loop [8] (fun v8 => ∃ j : Nat, j ≤ args.length ∧ v8 = .int .i64 j ∧ (∀ x ∈ args.take j, isIx x i = true)) (fun v8 => args.length - (intOf v8).toNat)
  case atStart => exact ⟨0, by omega, rfl, by simp⟩
  case round =>
    obtain ⟨j, hj, rfl, hall⟩ := hrel
    by_cases hlt : j < args.length
    · have hjj : (j : Int) < args.length := by omega
      have HX := Lib.hid (List.getElem?_eq_getElem hlt)
      have HM := Lib.hid (List.getElem_mem hlt)
      have HT := Lib.hid (List.take_succ_eq_append_getElem hlt)
      generalize args[j] = x at *
      obtain ⟨ab, rfl, hbb, hcx⟩ := (HB.out.below hbw).cell HX.out
      have HV := Lib.hid (fun w => by have k := Within_c x 0 ((i : Int) - 1) w; rw [isIx_w, H4.out x HM.out] at k; exact k)
      have HA := Lib.hid hall
      clear hall
      go_wp2_with (go_at_call 27; ((with_reducible refine (HV.out _).mono ?_); rintro e w' ⟨rfl, rfl⟩))
      go_round
      case rel => exact ⟨j + 1, by omega, by go_num, fun z hz => by
        rw [HT.out, List.mem_append] at hz
        rcases hz with hz | hz
        · exact HA.out z hz
        · rw [List.mem_singleton.1 hz]; exact H4.out _ HM.out⟩
      case measure => simp [intOf]; omega
    · obtain rfl : j = args.length := by omega
      clear hall
      go_wp2_with (go_at_call 27; ((with_reducible refine (HU.out _).mono ?_); rintro e w' ⟨rfl, rfl⟩))
      refine (HF.out _ hbw).mono ?_
      rintro e w' ⟨rfl, z, rfl⟩
      go_wp2
      go_ret
      exact ⟨rfl, Below.aft (z.below hbw hbw.size)⟩

set_option maxRecDepth 100000 in
set_option maxHeartbeats 1600000 in
theorem nodeErr_xF (A : Option Addr) (cap : Nat) (ls : List Int) (hls : ls.length ≤ 65536) (ad : Addr) (capN : Nat) (ns : List Nd) (hns : ns.length ≤ 65536) (i : Nat) (op wd v : Int) (args : List Int) (hla : args.length ≤ 65536) (hi : ns[i]? = some ⟨op, wd, args, v⟩) (w : World) (hA : LiesI w A ls) (hN : LiesN w (some ad) ns) (h1 : isIx op 19 = true) (h2 : isW wd = true) (h3 : (args.length : Int) = argN op) (h4 : ∀ x ∈ args, isIx x (ns.take i).length = true) (o0 : ¬ op = 0) (o1 : ¬ op = 1) (o14 : ¬ op = 14) (h5 : ¬ v = 0) :
    Calls Tryz.prog 110 #[.slice A ls.length cap, .slice (some ad) ns.length capN, .int .i64 i] w fun e w' => e = .returned (.int .i64 3) ∧ ∃ x : Aft w, w' = x.val := by
  obtain ⟨ad', had, hbk, c0, c1, c3, B, bc, c2, hB⟩ := hN.cells hi
  obtain rfl : ad = ad' := Option.some.inj had
  have hil := (List.getElem?_eq_some_iff.1 hi).1
  have hik : (i : Int) < ns.length := by omega
  have c1' : w.cell? ⟨(ad.add (i * 4)).block, (ad.add (i * 4)).off + 1, none⟩ = some (.int .i64 wd) := c1
  have c2' : w.cell? ⟨(ad.add (i * 4)).block, (ad.add (i * 4)).off + 2, none⟩ = some (.slice B args.length bc) := c2
  have c3' : w.cell? ⟨(ad.add (i * 4)).block, (ad.add (i * 4)).off + 3, none⟩ = some (.int .i64 v) := c3
  have hlk : (ns.take i).length = i := by simp; omega
  clear c1 c2 c3 had
  have HI := Lib.hid (fun w => by have k := Within_c op 0 18 w; rw [show win op 0 18 = true by rw [← h1]; exact (isIx_win op 19).symm] at k; exact k)
  have HW := Lib.hid (fun w => by have k := IsWidth_c wd w; rw [h2] at k; exact k)
  have HAC := Lib.hid (fun w => by have k := ArgCount_c op w; rw [← h3] at k; exact k)
  have HB := Lib.hid hB
  have n0 : (op == 0) = false := by simpa using o0
  have n1 : (op == 1) = false := by simpa using o1
  have n14 : (op == 14) = false := by simpa using o14
  have n5 : (v == 0) = false := by simpa using h5
  rw [hlk] at h4
  have H4 := Lib.hid h4
  clear hA hN hB h1 h2 hi hlk h3 h4 h5 o0 o1 o14
  go_enter Tryz.func110, Tryz.ntmps110
  go_wp2_with (first | (go_at_call 27; ((with_reducible refine (HI.out _).mono ?_); rintro e w' ⟨rfl, rfl⟩)) | (go_at_call 76; ((with_reducible refine (HW.out _).mono ?_); rintro e w' ⟨rfl, rfl⟩)))
  have r0 : (w.alloc (.cells #[.int .i64 op, .int .i64 wd, .slice B args.length bc, .int .i64 v] 61)).heap[w.heap.size]? = some (.cells #[.int .i64 op, .int .i64 wd, .slice B args.length bc, .int .i64 v] 61) := heap_alloc_new _ _
  have z0 : w.heap.size < (w.alloc (.cells #[.int .i64 op, .int .i64 wd, .slice B args.length bc, .int .i64 v] 61)).heap.size := by simp
  have hb0 : Below w.heap.size w (w.alloc (.cells #[.int .i64 op, .int .i64 wd, .slice B args.length bc, .int .i64 v] 61)) := (Below.refl _ _).alloc (Nat.le_refl _) _
  generalize (w.alloc (.cells #[.int .i64 op, .int .i64 wd, .slice B args.length bc, .int .i64 v] 61)) = W0 at *
  have q0 := cell_block (i := 0) r0
  have q1 := cell_block (i := 1) r0
  have q2 := cell_block (i := 2) r0
  have q3 := cell_block (i := 3) r0
  simp at q0 q1 q2 q3
  refine wp_region_aft (by kernel_rfl) (by kernel_rfl) ?_
  repeat (go_big_quiet_step ((go_at_call 89; exact Calls.qs (HAC.out _))))
  refine wpQuiet_nil ?_
  intro y
  have R0 := Lib.hid (show y.val.heap[w.heap.size]? = some (.cells #[.int .i64 op, .int .i64 wd, .slice B args.length bc, .int .i64 v] 61) by rw [y.pf.block _ z0]; exact r0)
  have hbw : Below w.heap.size w y.val := y.below hb0 hb0.size
  have zy : w.heap.size < y.val.heap.size := y.lt' z0
  clear r0 q0 q1 q2 q3 hb0 z0
  generalize y.val = W1 at *
  have r0 := R0.out
  have q0 := cell_block (i := 0) r0
  have q1 := cell_block (i := 1) r0
  have q2 := cell_block (i := 2) r0
  have q3 := cell_block (i := 3) r0
  simp at q0 q1 q2 q3
  clear r0
  go_wp2
  go_loop [8] (fun v8 => ∃ j : Nat, j ≤ args.length ∧ v8 = .int .i64 j ∧ (∀ x ∈ args.take j, isIx x i = true)) (fun v8 => args.length - (intOf v8).toNat)
  case atStart => exact ⟨0, by omega, rfl, by simp⟩
  case round =>
    obtain ⟨j, hj, rfl, hall⟩ := hrel
    by_cases hlt : j < args.length
    · have hjj : (j : Int) < args.length := by omega
      have HX := Lib.hid (List.getElem?_eq_getElem hlt)
      have HM := Lib.hid (List.getElem_mem hlt)
      have HT := Lib.hid (List.take_succ_eq_append_getElem hlt)
      generalize args[j] = x at *
      obtain ⟨ab, rfl, hbb, hcx⟩ := (HB.out.below hbw).cell HX.out
      have HV := Lib.hid (fun w => by have k := Within_c x 0 ((i : Int) - 1) w; rw [isIx_w, H4.out x HM.out] at k; exact k)
      have HA := Lib.hid hall
      clear hall
      go_wp2_with (go_at_call 27; ((with_reducible refine (HV.out _).mono ?_); rintro e w' ⟨rfl, rfl⟩))
      go_round
      case rel => exact ⟨j + 1, by omega, by go_num, fun z hz => by
        rw [HT.out, List.mem_append] at hz
        rcases hz with hz | hz
        · exact HA.out z hz
        · rw [List.mem_singleton.1 hz]; exact H4.out _ HM.out⟩
      case measure => simp [intOf]; omega
    · obtain rfl : j = args.length := by omega
      clear hall
      go_wp2
      go_ret
      exact ⟨rfl, Below.aft hbw⟩

set_option maxRecDepth 100000 in
set_option maxHeartbeats 1600000 in
theorem nodeErr_xT (A : Option Addr) (cap : Nat) (ls : List Int) (hls : ls.length ≤ 65536) (ad : Addr) (capN : Nat) (ns : List Nd) (hns : ns.length ≤ 65536) (i : Nat) (op wd : Int) (args : List Int) (hla : args.length ≤ 65536) (hi : ns[i]? = some ⟨op, wd, args, 0⟩) (w : World) (hA : LiesI w A ls) (hN : LiesN w (some ad) ns) (h1 : isIx op 19 = true) (h2 : isW wd = true) (h3 : (args.length : Int) = argN op) (h4 : ∀ x ∈ args, isIx x (ns.take i).length = true) (o0 : ¬ op = 0) (o1 : ¬ op = 1) (o14 : ¬ op = 14) (hg2 : 2 ≤ op) (hv : ∀ n ∈ ns.take i, isW n.wd = true) (hg : op ≤ 18) (h6 : fitW op wd 0 (wAt (ns.take i) args 0) (wAt (ns.take i) args 1) (wAt (ns.take i) args 2) = false) :
    Calls Tryz.prog 110 #[.slice A ls.length cap, .slice (some ad) ns.length capN, .int .i64 i] w fun e w' => e = .returned (.int .i64 25) ∧ ∃ x : Aft w, w' = x.val := by
  obtain ⟨ad', had, hbk, c0, c1, c3, B, bc, c2, hB⟩ := hN.cells hi
  obtain rfl : ad = ad' := Option.some.inj had
  have hil := (List.getElem?_eq_some_iff.1 hi).1
  have hik : (i : Int) < ns.length := by omega
  have c1' : w.cell? ⟨(ad.add (i * 4)).block, (ad.add (i * 4)).off + 1, none⟩ = some (.int .i64 wd) := c1
  have c2' : w.cell? ⟨(ad.add (i * 4)).block, (ad.add (i * 4)).off + 2, none⟩ = some (.slice B args.length bc) := c2
  have c3' : w.cell? ⟨(ad.add (i * 4)).block, (ad.add (i * 4)).off + 3, none⟩ = some (.int .i64 0) := c3
  have hlk : (ns.take i).length = i := by simp; omega
  clear c1 c2 c3 had
  have HI := Lib.hid (fun w => by have k := Within_c op 0 18 w; rw [show win op 0 18 = true by rw [← h1]; exact (isIx_win op 19).symm] at k; exact k)
  have HW := Lib.hid (fun w => by have k := IsWidth_c wd w; rw [h2] at k; exact k)
  have HAC := Lib.hid (fun w => by have k := ArgCount_c op w; rw [← h3] at k; exact k)
  have HB := Lib.hid hB
  have n0 : (op == 0) = false := by simpa using o0
  have n1 : (op == 1) = false := by simpa using o1
  have n14 : (op == 14) = false := by simpa using o14
  have HF := Lib.hid (fun (W : World) (hb : Below w.heap.size w W) => by
    have k := rwidthsFit_c op wd 0 hg2 hg (isW_iff.1 h2).1 (isW_iff.1 h2).2 (fun e => absurd e o14) B bc args h3 (some ad) capN ns hns i hv h4 W (hN.below hb) (hB.below hb)
    rw [h6] at k; exact k)
  rw [hlk] at h4
  have H4 := Lib.hid h4
  clear hA hN hB h1 h2 hi hlk h3 h4 o0 o1 o14 h6 hv hg hg2
  go_enter Tryz.func110, Tryz.ntmps110
  go_wp2_with (first | (go_at_call 27; ((with_reducible refine (HI.out _).mono ?_); rintro e w' ⟨rfl, rfl⟩)) | (go_at_call 76; ((with_reducible refine (HW.out _).mono ?_); rintro e w' ⟨rfl, rfl⟩)))
  have r0 : (w.alloc (.cells #[.int .i64 op, .int .i64 wd, .slice B args.length bc, .int .i64 0] 61)).heap[w.heap.size]? = some (.cells #[.int .i64 op, .int .i64 wd, .slice B args.length bc, .int .i64 0] 61) := heap_alloc_new _ _
  have z0 : w.heap.size < (w.alloc (.cells #[.int .i64 op, .int .i64 wd, .slice B args.length bc, .int .i64 0] 61)).heap.size := by simp
  have hb0 : Below w.heap.size w (w.alloc (.cells #[.int .i64 op, .int .i64 wd, .slice B args.length bc, .int .i64 0] 61)) := (Below.refl _ _).alloc (Nat.le_refl _) _
  generalize (w.alloc (.cells #[.int .i64 op, .int .i64 wd, .slice B args.length bc, .int .i64 0] 61)) = W0 at *
  have q0 := cell_block (i := 0) r0
  have q1 := cell_block (i := 1) r0
  have q2 := cell_block (i := 2) r0
  have q3 := cell_block (i := 3) r0
  simp at q0 q1 q2 q3
  refine wp_region_aft (by kernel_rfl) (by kernel_rfl) ?_
  repeat (go_big_quiet_step ((go_at_call 89; exact Calls.qs (HAC.out _))))
  refine wpQuiet_nil ?_
  intro y
  have R0 := Lib.hid (show y.val.heap[w.heap.size]? = some (.cells #[.int .i64 op, .int .i64 wd, .slice B args.length bc, .int .i64 0] 61) by rw [y.pf.block _ z0]; exact r0)
  have hbw : Below w.heap.size w y.val := y.below hb0 hb0.size
  have zy : w.heap.size < y.val.heap.size := y.lt' z0
  clear r0 q0 q1 q2 q3 hb0 z0
  generalize y.val = W1 at *
  have r0 := R0.out
  have q0 := cell_block (i := 0) r0
  have q1 := cell_block (i := 1) r0
  have q2 := cell_block (i := 2) r0
  have q3 := cell_block (i := 3) r0
  simp at q0 q1 q2 q3
  clear r0
  go_wp2
  go_loop [8] (fun v8 => ∃ j : Nat, j ≤ args.length ∧ v8 = .int .i64 j ∧ (∀ x ∈ args.take j, isIx x i = true)) (fun v8 => args.length - (intOf v8).toNat)
  case atStart => exact ⟨0, by omega, rfl, by simp⟩
  case round =>
    obtain ⟨j, hj, rfl, hall⟩ := hrel
    by_cases hlt : j < args.length
    · have hjj : (j : Int) < args.length := by omega
      have HX := Lib.hid (List.getElem?_eq_getElem hlt)
      have HM := Lib.hid (List.getElem_mem hlt)
      have HT := Lib.hid (List.take_succ_eq_append_getElem hlt)
      generalize args[j] = x at *
      obtain ⟨ab, rfl, hbb, hcx⟩ := (HB.out.below hbw).cell HX.out
      have HV := Lib.hid (fun w => by have k := Within_c x 0 ((i : Int) - 1) w; rw [isIx_w, H4.out x HM.out] at k; exact k)
      have HA := Lib.hid hall
      clear hall
      go_wp2_with (go_at_call 27; ((with_reducible refine (HV.out _).mono ?_); rintro e w' ⟨rfl, rfl⟩))
      go_round
      case rel => exact ⟨j + 1, by omega, by go_num, fun z hz => by
        rw [HT.out, List.mem_append] at hz
        rcases hz with hz | hz
        · exact HA.out z hz
        · rw [List.mem_singleton.1 hz]; exact H4.out _ HM.out⟩
      case measure => simp [intOf]; omega
    · obtain rfl : j = args.length := by omega
      clear hall
      go_wp2_with fail
      refine (HF.out _ hbw).mono ?_
      rintro e w' ⟨rfl, z, rfl⟩
      go_wp2
      go_ret
      exact ⟨rfl, Below.aft (z.below hbw hbw.size)⟩

set_option maxRecDepth 100000 in
set_option maxHeartbeats 1600000 in
theorem nodeErr_xU (A : Option Addr) (cap : Nat) (ls : List Int) (hls : ls.length ≤ 65536) (ad : Addr) (capN : Nat) (ns : List Nd) (hns : ns.length ≤ 65536) (i : Nat) (op wd : Int) (args : List Int) (hla : args.length ≤ 65536) (hi : ns[i]? = some ⟨op, wd, args, 0⟩) (w : World) (hA : LiesI w A ls) (hN : LiesN w (some ad) ns) (h1 : isIx op 19 = true) (h2 : isW wd = true) (h3 : (args.length : Int) = argN op) (h4 : ∀ x ∈ args, isIx x (ns.take i).length = true) (o0 : ¬ op = 0) (o1 : ¬ op = 1) (o14 : ¬ op = 14) (hg2 : 2 ≤ op) (hv : ∀ n ∈ ns.take i, isW n.wd = true) (hg : op ≤ 18) (h6 : fitW op wd 0 (wAt (ns.take i) args 0) (wAt (ns.take i) args 1) (wAt (ns.take i) args 2) = true) :
    Calls Tryz.prog 110 #[.slice A ls.length cap, .slice (some ad) ns.length capN, .int .i64 i] w fun e w' => e = .returned (.int .i64 0) ∧ ∃ x : Aft w, w' = x.val := by
  obtain ⟨ad', had, hbk, c0, c1, c3, B, bc, c2, hB⟩ := hN.cells hi
  obtain rfl : ad = ad' := Option.some.inj had
  have hil := (List.getElem?_eq_some_iff.1 hi).1
  have hik : (i : Int) < ns.length := by omega
  have c1' : w.cell? ⟨(ad.add (i * 4)).block, (ad.add (i * 4)).off + 1, none⟩ = some (.int .i64 wd) := c1
  have c2' : w.cell? ⟨(ad.add (i * 4)).block, (ad.add (i * 4)).off + 2, none⟩ = some (.slice B args.length bc) := c2
  have c3' : w.cell? ⟨(ad.add (i * 4)).block, (ad.add (i * 4)).off + 3, none⟩ = some (.int .i64 0) := c3
  have hlk : (ns.take i).length = i := by simp; omega
  clear c1 c2 c3 had
  have HI := Lib.hid (fun w => by have k := Within_c op 0 18 w; rw [show win op 0 18 = true by rw [← h1]; exact (isIx_win op 19).symm] at k; exact k)
  have HW := Lib.hid (fun w => by have k := IsWidth_c wd w; rw [h2] at k; exact k)
  have HAC := Lib.hid (fun w => by have k := ArgCount_c op w; rw [← h3] at k; exact k)
  have HB := Lib.hid hB
  have n0 : (op == 0) = false := by simpa using o0
  have n1 : (op == 1) = false := by simpa using o1
  have n14 : (op == 14) = false := by simpa using o14
  have HF := Lib.hid (fun (W : World) (hb : Below w.heap.size w W) => by
    have k := rwidthsFit_c op wd 0 hg2 hg (isW_iff.1 h2).1 (isW_iff.1 h2).2 (fun e => absurd e o14) B bc args h3 (some ad) capN ns hns i hv h4 W (hN.below hb) (hB.below hb)
    rw [h6] at k; exact k)
  rw [hlk] at h4
  have H4 := Lib.hid h4
  clear hA hN hB h1 h2 hi hlk h3 h4 o0 o1 o14 h6 hv hg hg2
  go_enter Tryz.func110, Tryz.ntmps110
  go_wp2_with (first | (go_at_call 27; ((with_reducible refine (HI.out _).mono ?_); rintro e w' ⟨rfl, rfl⟩)) | (go_at_call 76; ((with_reducible refine (HW.out _).mono ?_); rintro e w' ⟨rfl, rfl⟩)))
  have r0 : (w.alloc (.cells #[.int .i64 op, .int .i64 wd, .slice B args.length bc, .int .i64 0] 61)).heap[w.heap.size]? = some (.cells #[.int .i64 op, .int .i64 wd, .slice B args.length bc, .int .i64 0] 61) := heap_alloc_new _ _
  have z0 : w.heap.size < (w.alloc (.cells #[.int .i64 op, .int .i64 wd, .slice B args.length bc, .int .i64 0] 61)).heap.size := by simp
  have hb0 : Below w.heap.size w (w.alloc (.cells #[.int .i64 op, .int .i64 wd, .slice B args.length bc, .int .i64 0] 61)) := (Below.refl _ _).alloc (Nat.le_refl _) _
  generalize (w.alloc (.cells #[.int .i64 op, .int .i64 wd, .slice B args.length bc, .int .i64 0] 61)) = W0 at *
  have q0 := cell_block (i := 0) r0
  have q1 := cell_block (i := 1) r0
  have q2 := cell_block (i := 2) r0
  have q3 := cell_block (i := 3) r0
  simp at q0 q1 q2 q3
  refine wp_region_aft (by kernel_rfl) (by kernel_rfl) ?_
  repeat (go_big_quiet_step ((go_at_call 89; exact Calls.qs (HAC.out _))))
  refine wpQuiet_nil ?_
  intro y
  have R0 := Lib.hid (show y.val.heap[w.heap.size]? = some (.cells #[.int .i64 op, .int .i64 wd, .slice B args.length bc, .int .i64 0] 61) by rw [y.pf.block _ z0]; exact r0)
  have hbw : Below w.heap.size w y.val := y.below hb0 hb0.size
  have zy : w.heap.size < y.val.heap.size := y.lt' z0
  clear r0 q0 q1 q2 q3 hb0 z0
  generalize y.val = W1 at *
  have r0 := R0.out
  have q0 := cell_block (i := 0) r0
  have q1 := cell_block (i := 1) r0
  have q2 := cell_block (i := 2) r0
  have q3 := cell_block (i := 3) r0
  simp at q0 q1 q2 q3
  clear r0
  go_wp2
  go_loop [8] (fun v8 => ∃ j : Nat, j ≤ args.length ∧ v8 = .int .i64 j ∧ (∀ x ∈ args.take j, isIx x i = true)) (fun v8 => args.length - (intOf v8).toNat)
  case atStart => exact ⟨0, by omega, rfl, by simp⟩
  case round =>
    obtain ⟨j, hj, rfl, hall⟩ := hrel
    by_cases hlt : j < args.length
    · have hjj : (j : Int) < args.length := by omega
      have HX := Lib.hid (List.getElem?_eq_getElem hlt)
      have HM := Lib.hid (List.getElem_mem hlt)
      have HT := Lib.hid (List.take_succ_eq_append_getElem hlt)
      generalize args[j] = x at *
      obtain ⟨ab, rfl, hbb, hcx⟩ := (HB.out.below hbw).cell HX.out
      have HV := Lib.hid (fun w => by have k := Within_c x 0 ((i : Int) - 1) w; rw [isIx_w, H4.out x HM.out] at k; exact k)
      have HA := Lib.hid hall
      clear hall
      go_wp2_with (go_at_call 27; ((with_reducible refine (HV.out _).mono ?_); rintro e w' ⟨rfl, rfl⟩))
      go_round
      case rel => exact ⟨j + 1, by omega, by go_num, fun z hz => by
        rw [HT.out, List.mem_append] at hz
        rcases hz with hz | hz
        · exact HA.out z hz
        · rw [List.mem_singleton.1 hz]; exact H4.out _ HM.out⟩
      case measure => simp [intOf]; omega
    · obtain rfl : j = args.length := by omega
      clear hall
      go_wp2_with fail
      refine (HF.out _ hbw).mono ?_
      rintro e w' ⟨rfl, z, rfl⟩
      go_wp2
      go_ret
      exact ⟨rfl, Below.aft (z.below hbw hbw.size)⟩

end Go.Proofs.YtkdonapgonegkaaGreatDoor

set_option linter.unusedSimpArgs false
set_option linter.unusedVariables false
namespace Go.Proofs.YtkdonapgonegkaaGreatDoor
open Go.RowKit Go.BigFrame

set_option maxRecDepth 100000 in
set_option maxHeartbeats 1600000 in
theorem nodeErr_c (A : Option Addr) (cap : Nat) (ls : List Int) (hls : ls.length ≤ 65536) (ad : Addr) (capN : Nat) (ns : List Nd) (hns : ns.length ≤ 65536) (i : Nat) (op wd v : Int) (args : List Int) (hla : args.length ≤ 65536) (hi : ns[i]? = some ⟨op, wd, args, v⟩) (w : World) (hA : LiesI w A ls) (hN : LiesN w (some ad) ns) (hv : ∀ n ∈ ns.take i, isW n.wd = true) :
    Calls Tryz.prog 110 #[.slice A ls.length cap, .slice (some ad) ns.length capN, .int .i64 i] w fun e w' => e = .returned (.int .i64 (nodeE ls (ns.take i) ⟨op, wd, args, v⟩)) ∧ ∃ x : Aft w, w' = x.val := by
  cases h1 : isIx op 19
  · exact nodeErr_15 A cap ls hls ad capN ns hns i op wd v args hla hi w hA hN h1
  cases h2 : isW wd
  · exact nodeErr_2 A cap ls hls ad capN ns hns i op wd v args hla hi w hA hN h1 h2
  by_cases h3 : (args.length : Int) = argN op
  case neg => exact nodeErr_10 A cap ls hls ad capN ns hns i op wd v args hla hi w hA hN h1 h2 h3
  by_cases h4 : ∀ x ∈ args, isIx x (ns.take i).length = true
  case neg => exact nodeErr_9 A cap ls hls ad capN ns hns i op wd v args hla hi w hA hN h1 h2 h3 h4
  by_cases o0 : op = 0
  · subst o0
    cases h5 : isV v wd
    · rw [nodeR_n h1 h2 h3 h4 (c := 2) (by show eIf (!isV v wd) 2 = 2; rw [h5]; rfl) (by decide)]
      exact nodeErr_0F A cap ls hls ad capN ns hns i wd v args hla hi w hA hN h1 h2 h3 h4 h5
    · rw [nodeR_0 h1 h2 h3 h4 (by show eIf (!isV v wd) 2 = 0; rw [h5]; rfl)]
      exact nodeErr_0T A cap ls hls ad capN ns hns i wd v args hla hi w hA hN h1 h2 h3 h4 h5
  by_cases o1 : op = 1
  · subst o1
    cases h5 : isIx v ls.length
    · rw [nodeR_n h1 h2 h3 h4 (c := 6) (by show (if isIx v ls.length then eIf (ls.getD v.toNat 0 != wd) 25 else 6) = 6; rw [h5]; rfl) (by decide)]
      exact nodeErr_1A A cap ls hls ad capN ns hns i wd v args hla hi w hA hN h1 h2 h3 h4 h5
    · obtain ⟨k, rfl⟩ := Int.eq_ofNat_of_zero_le (isIx_iff.1 h5).1
      have hk : k < ls.length := by have := (isIx_iff.1 h5).2; omega
      have hy := List.getElem?_eq_getElem hk
      have hn : numE ls 1 wd (k : Int) = eIf (ls[k] != wd) 25 := by
        show (if isIx (k : Int) ls.length then eIf (ls.getD (k : Int).toNat 0 != wd) 25 else 6) = _
        rw [h5, if_pos rfl]; simp [hk]
      by_cases h6 : ls[k] = wd
      · rw [nodeR_0 h1 h2 h3 h4 (by rw [hn, h6]; simp [eIf])]
        exact nodeErr_1C k ls[k] A cap ls hls ad capN ns hns i wd args hla hi w hA hN h1 h2 h3 h4 h5 hy h6
      · have n6 : (ls[k] != wd) = true := by simpa using h6
        rw [nodeR_n h1 h2 h3 h4 (c := 25) (by rw [hn, n6]; rfl) (by decide)]
        exact nodeErr_1B k ls[k] A cap ls hls ad capN ns hns i wd args hla hi w hA hN h1 h2 h3 h4 h5 hy h6
  by_cases o14 : op = 14
  · subst o14
    cases h5 : isIx v 16
    · rw [nodeR_n h1 h2 h3 h4 (c := 2) (by show eIf (!isIx v 16) 2 = 2; rw [h5]; rfl) (by decide)]
      exact nodeErr_14F A cap ls hls ad capN ns hns i wd v args hla hi w hA hN h1 h2 h3 h4 h5
    · rw [nodeR_0 h1 h2 h3 h4 (by show eIf (!isIx v 16) 2 = 0; rw [h5]; rfl)]
      cases h6 : fitW 14 wd v (wAt (ns.take i) args 0) (wAt (ns.take i) args 1) (wAt (ns.take i) args 2)
      · exact nodeErr_14T A cap ls hls ad capN ns hns i wd v args hla hi w hA hN h1 h2 h3 h4 h5 hv (by decide) h6
      · exact nodeErr_14U A cap ls hls ad capN ns hns i wd v args hla hi w hA hN h1 h2 h3 h4 h5 hv (by decide) h6
  obtain ⟨p0, p1⟩ := isIx_iff.1 h1
  have hn : numE ls op wd v = eIf (v != 0) 3 := by unfold numE; rw [if_neg o0, if_neg o1, if_neg o14]
  by_cases h5 : v = 0
  · subst h5
    rw [nodeR_0 h1 h2 h3 h4 (by rw [hn]; rfl)]
    cases h6 : fitW op wd 0 (wAt (ns.take i) args 0) (wAt (ns.take i) args 1) (wAt (ns.take i) args 2)
    · exact nodeErr_xT A cap ls hls ad capN ns hns i op wd args hla hi w hA hN h1 h2 h3 h4 o0 o1 o14 (by omega) hv (by omega) h6
    · exact nodeErr_xU A cap ls hls ad capN ns hns i op wd args hla hi w hA hN h1 h2 h3 h4 o0 o1 o14 (by omega) hv (by omega) h6
  · have n5 : (v != 0) = true := by simpa using h5
    rw [nodeR_n h1 h2 h3 h4 (c := 3) (by rw [hn, n5]; rfl) (by decide)]
    exact nodeErr_xF A cap ls hls ad capN ns hns i op wd v args hla hi w hA hN h1 h2 h3 h4 o0 o1 o14 h5

/-- What NodesErr answers: the first node with an error. -/
def nErr (ls : List Int) (ns : List Nd) : Int × Int := if 400 < ns.length then (0, 8) else firstAt (nodesE ls ns) ns.length 0

set_option maxRecDepth 100000 in
set_option maxHeartbeats 1600000 in
theorem NodesErr_c (A : Option Addr) (cap : Nat) (ls : List Int) (hls : ls.length ≤ 65536) (N : Option Addr) (capN : Nat) (ns : List Nd) (hns : ns.length ≤ 65536) (hla : ∀ n ∈ ns, n.args.length ≤ 65536) (w : World) (hA : LiesI w A ls) (hN : LiesN w N ns) :
    Calls Tryz.prog 77 #[.slice A ls.length cap, .slice N ns.length capN] w fun e w' => e = .returned (.tuple #[.int .i64 (nErr ls ns).1, .int .i64 (nErr ls ns).2]) ∧ ∃ x : Aft w, w' = x.val := by
  by_cases h4 : 400 < ns.length
  · have h400 : (400 : Int) < ns.length := by omega
    have HR := Lib.hid (show nErr ls ns = (0, 8) from if_pos h4)
    clear hA hN hla h4
    go_enter Tryz.func77, Tryz.ntmps77
    go_wp2
    go_ret2
    exact ⟨tupII (by rw [HR.out]) (by rw [HR.out]), Below.aft (Below.refl _ _)⟩
  have h400 : ¬ (400 : Int) < ns.length := by omega
  have HR := Lib.hid (show nErr ls ns = firstAt (nodesE ls ns) ns.length 0 from if_neg h4)
  have HCl := Lib.hid (fun (k : Nat) (x : Nd) (hx : ns[k]? = some x) (ad : Addr) (had : N = some ad) (hv : ∀ n ∈ ns.take k, isW n.wd = true) (W : World) (hb : Below w.heap.size w W) => show Calls Tryz.prog 110 #[.slice A ls.length cap, .slice (some ad) ns.length capN, .int .i64 k] W (fun e w' => e = .returned (.int .i64 (nodeE ls (ns.take k) x)) ∧ ∃ z : Aft W, w' = z.val) from
    nodeErr_c A cap ls hls ad capN ns hns k x.op x.wd x.v x.args (hla x (List.mem_of_getElem? hx)) hx W (hA.below hb) (had ▸ hN.below hb) hv)
  have HH := Lib.hid hN
  clear hN hA hla h4
  go_enter Tryz.func77, Tryz.ntmps77
  go_wp2
  go_loopw [6] (fun v6 wr => ∃ k : Nat, k ≤ ns.length ∧ v6 = .int .i64 k ∧ firstAt (nodesE ls ns) ns.length 0 = firstAt (nodesE ls ns) (ns.length - k) k ∧ (∀ x ∈ ns.take k, isW x.wd = true) ∧ Below w.heap.size w wr) (fun v6 _ => ns.length - (intOf v6).toNat)
  case atStart => exact ⟨0, by omega, rfl, rfl, by simp, Below.refl _ _⟩
  case round =>
    obtain ⟨k, hk, rfl, hf, hv, hb⟩ := hrel
    have HF := Lib.hid hf
    have HB := Lib.hid hb
    have HV := Lib.hid hv
    clear hf hb hv
    by_cases hlt : k < ns.length
    · have hkk : (k : Int) < ns.length := by omega
      have HX := Lib.hid (List.getElem?_eq_getElem hlt)
      generalize ns[k] = x at *
      obtain ⟨ad, rfl, _⟩ := HH.out.cells HX.out
      have HE := Lib.hid (nodesE_at (ls := ls) HX.out)
      go_wp2_with fail
      refine (HCl.out k x HX.out ad rfl HV.out _ HB.out).mono ?_
      rintro e w' ⟨rfl, y, rfl⟩
      have hby : Below w.heap.size w y.val := y.below HB.out HB.out.size
      have HY := Lib.hid hby
      clear hby
      by_cases hz : nodeE ls (ns.take k) x = 0
      · have hn := Lib.hid (firstAt_go hlt (HE.out.trans hz))
        have HW := Lib.hid (take_more HX.out HV.out (nodeE_wd hz))
        rw [hz]
        clear hz
        go_wp2
        go_roundw
        case rel => exact ⟨k + 1, by omega, by go_num, HF.out.trans hn.out, HW.out, HY.out⟩
        case measure => simp [intOf]; omega
      · have hn := Lib.hid (firstAt_stop hlt (show ¬ nodesE ls ns k = 0 by rw [HE.out]; exact hz))
        have n1 : (nodeE ls (ns.take k) x == 0) = false := by simpa using hz
        have n2 : (nodeE ls (ns.take k) x != 0) = true := by simpa using hz
        clear hz
        generalize nodeE ls (ns.take k) x = er at *
        go_wp2
        go_ret2
        exact ⟨tupII (by rw [HR.out, HF.out, hn.out]) (by rw [HR.out, HF.out, hn.out, HE.out]), Below.aft HY.out⟩
    · have hn := Lib.hid (firstAt_end (f := nodesE ls ns) (n := ns.length) (k := k) (by omega))
      go_wp2
      go_ret2
      exact ⟨tupII (by rw [HR.out, HF.out, hn.out]) (by rw [HR.out, HF.out, hn.out]), Below.aft HB.out⟩

theorem leafE_at {ls : List Int} {k : Nat} {x : Int} (h : ls[k]? = some x) : leafE ls k = eIf (!isW x) 2 := by unfold leafE; simp [List.getD, h]

set_option maxRecDepth 100000 in
set_option maxHeartbeats 1600000 in
theorem refCheckNodes_c (A : Option Addr) (cap : Nat) (ls : List Int) (hls : ls.length ≤ 65536) (N : Option Addr) (capN : Nat) (ns : List Nd) (hns : ns.length ≤ 65536) (hla : ∀ n ∈ ns, n.args.length ≤ 65536) (w : World) (hA : LiesI w A ls) (hN : LiesN w N ns) :
    Calls Tryz.prog 40 #[.slice A ls.length cap, .slice N ns.length capN] w fun e w' => e = .returned (.tuple #[.int .i64 (chk ls ns).1, .int .i64 (chk ls ns).2]) ∧ ∃ x : Aft w, w' = x.val := by
  by_cases hA40 : 40 < ls.length
  · have h40 : (40 : Int) < ls.length := by omega
    have HR := Lib.hid (show chk ls ns = (0, 8) from if_pos hA40)
    clear hA hN hla hA40
    go_enter Tryz.func40, Tryz.ntmps40
    go_wp2
    go_ret2
    exact ⟨tupII (by rw [HR.out]) (by rw [HR.out]), Below.aft (Below.refl _ _)⟩
  have h40 : ¬ (40 : Int) < ls.length := by omega
  have HN := Lib.hid (NodesErr_c A cap ls hls N capN ns hns hla w hA hN)
  have HH := Lib.hid hA
  have H4 := Lib.hid hA40
  clear hN hA hla hA40
  go_enter Tryz.func40, Tryz.ntmps40
  go_wp2
  go_loop [6] (fun v6 => ∃ k : Nat, k ≤ ls.length ∧ v6 = .int .i64 k ∧ firstAt (leafE ls) ls.length 0 = firstAt (leafE ls) (ls.length - k) k) (fun v6 => ls.length - (intOf v6).toNat)
  case atStart => exact ⟨0, by omega, rfl, rfl⟩
  case round =>
    obtain ⟨k, hk, rfl, hf⟩ := hrel
    have HF := Lib.hid hf
    clear hf
    by_cases hlt : k < ls.length
    · have hkk : (k : Int) < ls.length := by omega
      have HX := Lib.hid (List.getElem?_eq_getElem hlt)
      generalize ls[k] = x at *
      obtain ⟨al, rfl, hbl, c⟩ := HH.out.cell HX.out
      have HE := Lib.hid (leafE_at HX.out)
      cases hx : isW x
      · have HW := Lib.hid (fun w => by have kk := IsWidth_c x w; rw [hx] at kk; exact kk)
        have he : leafE ls k = 2 := by rw [HE.out, hx]; rfl
        have hn := firstAt_stop hlt (show ¬ leafE ls k = 0 by rw [he]; decide)
        have HR := Lib.hid (show chk ls ns = ((k : Int), 2) by unfold chk; rw [if_neg H4.out, HF.out, hn, he, if_neg (by simp)])
        clear hx he hn
        go_wp2_with (go_at_call 76; ((with_reducible refine (HW.out _).mono ?_); rintro e w' ⟨rfl, rfl⟩))
        go_ret2
        exact ⟨tupII (by rw [HR.out]) (by rw [HR.out]), Below.aft (Below.refl _ _)⟩
      · have HW := Lib.hid (fun w => by have kk := IsWidth_c x w; rw [hx] at kk; exact kk)
        have hn := Lib.hid (firstAt_go hlt (show leafE ls k = 0 by rw [HE.out, hx]; rfl))
        clear hx
        go_wp2_with (go_at_call 76; ((with_reducible refine (HW.out _).mono ?_); rintro e w' ⟨rfl, rfl⟩))
        go_round
        case rel => exact ⟨k + 1, by omega, by go_num, HF.out.trans hn.out⟩
        case measure => simp [intOf]; omega
    · have hn := firstAt_end (f := leafE ls) (n := ls.length) (k := k) (by omega)
      have HR := Lib.hid (show chk ls ns = nErr ls ns by unfold chk; rw [if_neg H4.out, HF.out, hn, if_pos rfl]; rfl)
      clear hn
      go_wp2_with fail
      refine HN.out.mono ?_
      rintro e w' ⟨rfl, y, rfl⟩
      go_wp2
      go_ret2
      exact ⟨tupII (by rw [HR.out]) (by rw [HR.out]), Below.aft y.pf⟩

end Go.Proofs.YtkdonapgonegkaaGreatDoor

set_option linter.unusedSimpArgs false
set_option linter.unusedVariables false
namespace Go.Proofs.YtkdonapgonegkaaGreatDoor
open Go.RowKit Go.BigFrame

/-- The limits of the laws. -/
def fewB (ls : List Int) (ns : List Nd) : Bool := !(decide (60 < ls.length) || (decide (60 < ns.length) && decide (ns.length ≤ 400)) || decide (405 < ns.length)) && ns.all fun n => decide (n.args.length ≤ 5)
theorem fewB_true {ls : List Int} {ns : List Nd} (h : fewB ls ns = true) : ls.length ≤ 60 ∧ ns.length ≤ 405 ∧ ∀ n ∈ ns, n.args.length ≤ 5 := by
  unfold fewB at h
  rw [Bool.and_eq_true] at h
  obtain ⟨h1, h2⟩ := h
  simp at h1
  refine ⟨by omega, by omega, fun n hn => ?_⟩
  have := List.all_eq_true.1 h2 n hn
  simpa using this

set_option maxRecDepth 100000 in
set_option maxHeartbeats 1600000 in
theorem few_c (A : Option Addr) (cap : Nat) (ls : List Int) (N : Option Addr) (capN : Nat) (ns : List Nd) (w : World) (hN : LiesN w N ns) :
    Calls Tryz.prog 7 #[.slice A ls.length cap, .slice N ns.length capN] w fun e w' => e = .returned (.bool (fewB ls ns)) ∧ w = w' := by
  by_cases a1 : 60 < ls.length
  · have HR := Lib.hid (show fewB ls ns = false by unfold fewB; simp [*])
    have c0 : (60 : Int) < ls.length := by omega
    clear hN
    go_enter Tryz.func7, Tryz.ntmps7
    go_wp2
    go_ret
    exact ⟨retB HR.out.symm, rfl⟩
  by_cases a2 : 405 < ns.length
  · have HR := Lib.hid (show fewB ls ns = false by unfold fewB; simp [*])
    have c0 : ¬ (60 : Int) < ls.length := by omega
    have c1 : (60 : Int) < ns.length := by omega
    have c2 : ¬ (ns.length : Int) ≤ 400 := by omega
    have c3 : (405 : Int) < ns.length := by omega
    clear hN
    go_enter Tryz.func7, Tryz.ntmps7
    go_wp2
    go_ret
    exact ⟨retB HR.out.symm, rfl⟩
  by_cases a3 : 60 < ns.length
  · by_cases a4 : ns.length ≤ 400
    · have HR := Lib.hid (show fewB ls ns = false by unfold fewB; simp [*])
      have c0 : ¬ (60 : Int) < ls.length := by omega
      have c1 : (60 : Int) < ns.length := by omega
      have c2 : (ns.length : Int) ≤ 400 := by omega
      clear hN
      go_enter Tryz.func7, Tryz.ntmps7
      go_wp2
      go_ret
      exact ⟨retB HR.out.symm, rfl⟩
    · have c0 : ¬ (60 : Int) < ls.length := by omega
      have c1 : (60 : Int) < ns.length := by omega
      have c2 : ¬ (ns.length : Int) ≤ 400 := by omega
      have c3 : ¬ (405 : Int) < ns.length := by omega
      have HH := Lib.hid hN
      clear hN
      go_enter Tryz.func7, Tryz.ntmps7
      go_wp2
      go_loop [5] (fun v5 => ∃ k : Nat, k ≤ ns.length ∧ v5 = .int .i64 k ∧ ∀ n ∈ ns.take k, n.args.length ≤ 5) (fun v5 => ns.length - (intOf v5).toNat)
      case atStart => exact ⟨0, by omega, rfl, by simp⟩
      case round =>
        obtain ⟨k, hk, rfl, hall⟩ := hrel
        have HA := Lib.hid hall
        clear hall
        by_cases hlt : k < ns.length
        · have hkk : (k : Int) < ns.length := by omega
          have HX := Lib.hid (List.getElem?_eq_getElem hlt)
          have HM := Lib.hid (List.getElem_mem hlt)
          have HT := Lib.hid (List.take_succ_eq_append_getElem hlt)
          generalize ns[k] = x at *
          obtain ⟨ad, rfl, _, _, _, _, B, bc, h2, _⟩ := HH.out.cells HX.out
          have h2' : w.cell? ⟨(ad.add (k * 4)).block, (ad.add (k * 4)).off + 2, none⟩ = some (.slice B x.args.length bc) := h2
          clear h2
          by_cases h5 : 5 < x.args.length
          · have h5' : (5 : Int) < x.args.length := by omega
            have HR := Lib.hid (show fewB ls ns = false by
              have e : (ns.all fun n => decide (n.args.length ≤ 5)) = false := by
                rw [List.all_eq_false]
                exact ⟨x, HM.out, by simp; omega⟩
              unfold fewB; rw [e, Bool.and_false])
            clear h5
            go_wp2
            go_ret
            exact ⟨retB HR.out.symm, rfl⟩
          · have h5' : ¬ (5 : Int) < x.args.length := by omega
            have H5 := Lib.hid h5
            clear h5
            go_wp2
            go_round
            case rel => exact ⟨k + 1, by omega, by go_num, fun z hz => by
              rw [HT.out, List.mem_append] at hz
              rcases hz with hz | hz
              · exact HA.out z hz
              · rw [List.mem_singleton.1 hz]; have := H5.out; omega⟩
            case measure => simp [intOf]; omega
        · have HR := Lib.hid (show fewB ls ns = true by
            have e : (ns.all fun n => decide (n.args.length ≤ 5)) = true := by
              rw [List.all_eq_true]
              intro z hz
              have := HA.out z (by rw [List.take_of_length_le (by omega)]; exact hz)
              simpa using this
            unfold fewB; rw [e, Bool.and_true]
            simp
            omega)
          go_wp2
          go_ret
          exact ⟨retB HR.out.symm, rfl⟩
  · have c0 : ¬ (60 : Int) < ls.length := by omega
    have c1 : ¬ (60 : Int) < ns.length := by omega
    have c2 : ¬ (405 : Int) < ns.length := by omega
    have HH := Lib.hid hN
    clear hN
    go_enter Tryz.func7, Tryz.ntmps7
    go_wp2
    go_loop [5] (fun v5 => ∃ k : Nat, k ≤ ns.length ∧ v5 = .int .i64 k ∧ ∀ n ∈ ns.take k, n.args.length ≤ 5) (fun v5 => ns.length - (intOf v5).toNat)
    case atStart => exact ⟨0, by omega, rfl, by simp⟩
    case round =>
      obtain ⟨k, hk, rfl, hall⟩ := hrel
      have HA := Lib.hid hall
      clear hall
      by_cases hlt : k < ns.length
      · have hkk : (k : Int) < ns.length := by omega
        have HX := Lib.hid (List.getElem?_eq_getElem hlt)
        have HM := Lib.hid (List.getElem_mem hlt)
        have HT := Lib.hid (List.take_succ_eq_append_getElem hlt)
        generalize ns[k] = x at *
        obtain ⟨ad, rfl, _, _, _, _, B, bc, h2, _⟩ := HH.out.cells HX.out
        have h2' : w.cell? ⟨(ad.add (k * 4)).block, (ad.add (k * 4)).off + 2, none⟩ = some (.slice B x.args.length bc) := h2
        clear h2
        by_cases h5 : 5 < x.args.length
        · have h5' : (5 : Int) < x.args.length := by omega
          have HR := Lib.hid (show fewB ls ns = false by
            have e : (ns.all fun n => decide (n.args.length ≤ 5)) = false := by
              rw [List.all_eq_false]
              exact ⟨x, HM.out, by simp; omega⟩
            unfold fewB; rw [e, Bool.and_false])
          clear h5
          go_wp2
          go_ret
          exact ⟨retB HR.out.symm, rfl⟩
        · have h5' : ¬ (5 : Int) < x.args.length := by omega
          have H5 := Lib.hid h5
          clear h5
          go_wp2
          go_round
          case rel => exact ⟨k + 1, by omega, by go_num, fun z hz => by
            rw [HT.out, List.mem_append] at hz
            rcases hz with hz | hz
            · exact HA.out z hz
            · rw [List.mem_singleton.1 hz]; have := H5.out; omega⟩
          case measure => simp [intOf]; omega
      · have HR := Lib.hid (show fewB ls ns = true by
          have e : (ns.all fun n => decide (n.args.length ≤ 5)) = true := by
            rw [List.all_eq_true]
            intro z hz
            have := HA.out z (by rw [List.take_of_length_le (by omega)]; exact hz)
            simpa using this
          unfold fewB; rw [e, Bool.and_true]
          simp
          omega)
        go_wp2
        go_ret
        exact ⟨retB HR.out.symm, rfl⟩

end Go.Proofs.YtkdonapgonegkaaGreatDoor

set_option linter.unusedSimpArgs false
set_option linter.unusedVariables false
namespace Go.Proofs.YtkdonapgonegkaaGreatDoor
open Go.RowKit Go.BigFrame

theorem LiesI.of_own {w : World} {base g cap : Nat} {e : TypeId} {ns : List Int} (h : w.ownsRow base e 1 (.slice (some ⟨g, 0, none⟩) ns.length cap) ns.length (ns.map (.int .i64))) : LiesI w (some ⟨g, 0, none⟩) ns := by
  intro hp
  refine ⟨_, rfl, (h.lt g rfl).2, fun i x hi => ?_⟩
  exact h.cells (g := g) rfl i (.int .i64 x) (by simp [hi])
def CopiedI (w : World) (ns : List Int) (e : Ending) (w' : World) : Prop := ∃ A' cap', e = .returned (.slice A' ns.length cap') ∧ LiesI w' A' ns ∧ Below w.heap.size w w'

set_option maxRecDepth 100000 in
set_option maxHeartbeats 1600000 in
theorem CopyIntsI_c (A : Option Addr) (cap : Nat) (ns : List Int) (w : World) (h : LiesI w A ns) (hA : ns.length = 0 → A = none ∧ cap = 0 ∨ ∃ ad, A = some ad) (h16 : ns.length ≤ 65536) :
    Calls Tryz.prog 9 #[.slice A ns.length cap] w (CopiedI w ns) := by
  obtain ⟨i0, hi, hz0, hz1, hz2⟩ := info_parts int_info
  have hown0 := World.ownsRow_lit (base := w.heap.size) (e := 3) (size := 1) w #[] 0 (Nat.le_refl _) (by unfold maxLen; omega) rfl
  have fin : ∀ (v' : Value) (w3 : World), w3.ownsRow w.heap.size 3 1 v' (0 + ns.length) ([] ++ ns.map (.int .i64)) → ∃ A' cap', Ending.returned v' = .returned (.slice A' ns.length cap') ∧ LiesI w3 A' ns := by
    intro v' w3 ho
    rw [Nat.zero_add, List.nil_append] at ho
    rcases ho.2 with ⟨rfl, h0⟩ | ⟨g, cap', cur, rfl, _⟩
    · exact ⟨none, 0, by rw [h0], fun hp => by omega⟩
    · exact ⟨_, cap', rfl, LiesI.of_own ho⟩
  have HF := Lib.hid fin
  have HO : Hid (∀ u ∈ ns.map (Value.int .i64), u.oneCell' = true) := Lib.hid (by
    intro u hu
    obtain ⟨x, _, rfl⟩ := List.mem_map.1 hu
    rfl)
  have hm1 : 0 + ns.length ≤ maxLen := by unfold maxLen; omega
  have hm2 : (0 + ns.length) * 8 ≤ 140737488355328 := by omega
  have HL : Hid ((ns.map (Value.int .i64)).length = ns.length * 1) := Lib.hid (by simp)
  clear fin
  have way : ∀ ad : Addr, A = some ad → (0 < ns.length → ad.block < w.heap.size) → (∀ i x, ns[i]? = some x → w.cell? (ad.add i) = some (.int .i64 x)) →
      Calls Tryz.prog 9 #[.slice A ns.length cap] w (CopiedI w ns) := by
    rintro ad rfl hb hc
    have hcells : ∀ j u, (ns.map (Value.int .i64))[j]? = some u → (w.alloc (.cells #[] 3)).cell? (ad.add j) = some u := by
      intro j u hj
      rw [List.getElem?_map] at hj
      cases hx : ns[j]? with
      | none => rw [hx] at hj; cases hj
      | some x =>
        rw [hx] at hj
        injection hj with hj
        subst hj
        have hb' := hb (by have := (List.getElem?_eq_some_iff.1 hx).1; omega)
        rw [World.cell?_alloc_lt _ _ _ (by rw [addB]; exact hb')]
        exact hc j x hx
    have HC := Lib.hid hcells
    clear hcells hc h hA
    go_enter Tryz.func9, Tryz.ntmps9
    go_wp2_with (at_builtin; refine wpList_append_own _ rfl _ _ 22 rfl w.heap.size 3 i0 (.int .i64 0) 1 8 Tryz.underlying22 hi hz0 hz1 hz2 rfl (by decide) _ _ _ rfl hown0 ad ns.length cap (ns.map (.int .i64)) rfl HL.out HC.out HO.out hm1 hm2 (by simp) ?_; intro v' w3 hown' hgrow3 hnn)
    go_wp2
    go_ret
    obtain ⟨A', cap', h1, h2⟩ := HF.out v' w3 hown'
    refine ⟨A', cap', h1, h2, ((Below.refl _ _).alloc (Nat.le_refl _) _).grown hgrow3 (by simp) (fun q hq => ?_)⟩
    have hq' : some w.heap.size = some q := hq
    injection hq' with hq'
    omega
  by_cases h0 : 0 < ns.length
  · obtain ⟨ad, e, hb, hc⟩ := h h0
    exact way ad e (fun _ => hb) hc
  · rcases hA (by omega) with ⟨rfl, rfl⟩ | ⟨ad, e⟩
    · obtain rfl : ns = [] := List.eq_nil_of_length_eq_zero (by omega)
      have hown1 := hown0
      clear way hown0 HF HO HL h hA
      go_enter Tryz.func9, Tryz.ntmps9
      go_wp2_with (at_builtin; refine wpList_append_own_none rfl _ _ 22 rfl w.heap.size 3 i0 1 Tryz.underlying22 hi _ _ _ rfl hown1 rfl ?_)
      go_wp2
      go_ret
      exact ⟨some ⟨w.heap.size, 0, none⟩, 0, rfl, fun hp => by simp at hp, (Below.refl _ _).alloc (Nat.le_refl _) _⟩
    · exact way ad e (fun h => absurd h h0) fun i p hp => by rw [List.getElem?_eq_none (by omega)] at hp; cases hp

def CopiedN (w : World) (ns : List Nd) (e : Ending) (w' : World) : Prop := ∃ A' cap', e = .returned (.slice A' ns.length cap') ∧ ns.length ≤ cap' ∧ LiesN w' A' ns ∧ Below w.heap.size w w'
def exL : List Int := [4, 1]
def exN : List Nd := [⟨1, 4, [], 0⟩, ⟨0, 4, [], 3⟩, ⟨6, 4, [0, 1], 0⟩, ⟨1, 1, [], 1⟩, ⟨12, 4, [3, 2, 0], 0⟩, ⟨10, 1, [4, 1], 0⟩]
theorem LiesI.block {w : World} {g : Nat} {T : TypeId} {ns : List Int} (h : w.heap[g]? = some (.cells (ns.map (Value.int .i64)).toArray T)) : LiesI w (some ⟨g, 0, none⟩) ns := fun _ => by
  refine ⟨_, rfl, (Array.getElem?_eq_some_iff.1 h).1, fun i x hi => ?_⟩
  have := cell_block (i := i) h
  rw [Addr.add_lit, Nat.zero_add, this]
  simp [hi]

set_option maxRecDepth 100000 in
set_option maxHeartbeats 1600000 in
theorem Leaves_c (w : World) : Calls Tryz.prog 29 #[] w (CopiedI w exL) := by
  go_enter Tryz.func29, Tryz.ntmps29
  go_wp2
  go_ret
  exact ⟨_, 2, rfl, LiesI.block (T := 3) (heap_alloc_new _ _), (Below.refl _ _).alloc (Nat.le_refl _) _⟩

set_option maxRecDepth 100000 in
set_option maxHeartbeats 1600000 in
theorem Nodes_c (w : World) : Calls Tryz.prog 30 #[] w (CopiedN w exN) := by
  go_enter Tryz.func30, Tryz.ntmps30
  go_wp2
  go_ret
  refine ⟨_, 6, rfl, by decide, ?_, (((((Below.refl _ _).alloc (Nat.le_refl _) _).alloc (by simp) _).alloc (by simp; omega) _).alloc (by simp; omega) _)⟩
  intro _
  refine ⟨_, rfl, by simp, fun i n hi => ?_⟩
  have hi6 : i < 6 := (List.getElem?_eq_some_iff.1 hi).1
  have hc : i = 0 ∨ i = 1 ∨ i = 2 ∨ i = 3 ∨ i = 4 ∨ i = 5 := by omega
  rcases hc with rfl | rfl | rfl | rfl | rfl | rfl
  all_goals
    obtain rfl := Option.some.inj hi
    refine ⟨by simp [go_sem], by simp [go_sem], by simp [go_sem], _, _, by simp [go_sem]; exact ⟨rfl, rfl⟩, ?_⟩
  all_goals first | (intro h; cases h; done) | exact LiesI.block (T := 3) (by (repeat' (first | omega | exact heap_alloc_new _ _ | exact heap_alloc_at (by simp; done) | (simp; omega) | (simp; done) | (refine heap_alloc' ?_ ?_))))

set_option maxRecDepth 100000 in
set_option maxHeartbeats 1600000 in
theorem errorOfGraph_c (A : Option Addr) (cap : Nat) (ls : List Int) (hls : ls.length ≤ 65536) (N : Option Addr) (capN : Nat) (ns : List Nd) (hns : ns.length ≤ 65536) (hcap : ns.length ≤ capN) (hla : ∀ n ∈ ns, n.args.length ≤ 65536) (w : World) (hA : LiesI w A ls) (hN : LiesN w N ns) (ht : TabOps w) :
    Calls Tryz.prog 33 #[.slice A ls.length cap, .slice N ns.length capN] w fun e w' => e = .returned (.int .i64 (chk ls ns).2) ∧ ∃ x : Aft w, w' = x.val := by
  have HC := Lib.hid (CheckNodes_c A cap ls hls N capN ns hns hcap hla w hA hN ht)
  clear hA hN ht hla hcap
  go_enter Tryz.func33, Tryz.ntmps33
  go_wp2_with fail
  refine HC.out.mono ?_
  rintro e w' ⟨rfl, y, rfl⟩
  go_wp2
  go_ret
  exact ⟨rfl, y, rfl⟩

/-- Two lists of numbers are the same. -/
def eqL (a b : List Int) : Bool := decide (a = b)
theorem eqL_at {a b : List Int} (hl : a.length = b.length) {k : Nat} {x y : Int} (hx : a[k]? = some x) (hy : b[k]? = some y) (hn : ¬ x = y) : eqL a b = false := by
  unfold eqL
  apply decide_eq_false
  rintro rfl
  rw [hx] at hy
  exact hn (Option.some.inj hy)
theorem eqL_all {a b : List Int} (hl : a.length = b.length) (h : a.take a.length = b.take a.length) : eqL a b = true := by
  unfold eqL
  apply decide_eq_true
  rwa [List.take_length, hl, List.take_length] at h

set_option maxRecDepth 100000 in
set_option maxHeartbeats 1600000 in
theorem Ints_c (A : Option Addr) (ca : Nat) (a : List Int) (ha : a.length ≤ 65536) (B : Option Addr) (cb : Nat) (b : List Int) (hb : b.length ≤ 65536) (w : World) (hA : LiesI w A a) (hB : LiesI w B b) :
    Calls Tryz.prog 16 #[.slice A a.length ca, .slice B b.length cb] w fun e w' => e = .returned (.bool (eqL a b)) ∧ ∃ z : Aft w, w' = z.val := by
  by_cases hl : a.length = b.length
  case neg =>
    have hl' : ((a.length : Int) == b.length) = false := by simpa using (by omega : ¬ (a.length : Int) = b.length)
    have HR := Lib.hid (show eqL a b = false by unfold eqL; apply decide_eq_false; rintro rfl; exact hl rfl)
    clear hA hB hl
    go_enter Tryz.func16, Tryz.ntmps16
    go_wp2
    go_ret
    exact ⟨retB HR.out.symm, Below.aft (Below.refl _ _)⟩
  have HA := Lib.hid hA
  have HB := Lib.hid hB
  have HL := Lib.hid hl
  rw [← hl]
  clear hA hB hl
  go_enter Tryz.func16, Tryz.ntmps16
  go_wp2
  go_loopw [5] (fun v5 wr => ∃ k : Nat, k ≤ a.length ∧ v5 = .int .i64 k ∧ a.take k = b.take k ∧ Below w.heap.size w wr) (fun v5 _ => a.length - (intOf v5).toNat)
  case atStart => exact ⟨0, by omega, rfl, by simp, Below.refl _ _⟩
  case round =>
    obtain ⟨k, hk, rfl, ht, hbw⟩ := hrel
    have HT := Lib.hid ht
    clear ht
    by_cases hlt : k < a.length
    · have hkk : (k : Int) < a.length := by omega
      have hlt2 : k < b.length := by have := HL.out; omega
      have HX := Lib.hid (List.getElem?_eq_getElem hlt)
      have HY := Lib.hid (List.getElem?_eq_getElem hlt2)
      have HTA := Lib.hid (List.take_succ_eq_append_getElem hlt)
      have HTB := Lib.hid (List.take_succ_eq_append_getElem hlt2)
      generalize a[k] = x at *
      generalize b[k] = y at *
      obtain ⟨aa, rfl, la, cx⟩ := (HA.out.below hbw).cell HX.out
      have hx : ∀ x' : Aft wr, x'.val.cell? (aa.add k) = some (.int .i64 x) := fun x' => (x'.pf.cell (p := aa.add k) (by rw [addB]; exact la)).trans cx
      obtain ⟨ab, rfl, lb, cy⟩ := (HB.out.below hbw).cell HY.out
      have hy : ∀ x' : Aft wr, x'.val.cell? (ab.add k) = some (.int .i64 y) := fun x' => (x'.pf.cell (p := ab.add k) (by rw [addB]; exact lb)).trans cy
      by_cases hxy : x = y
      · subst hxy
        go_wp2_with fail
        refine wp_region_aft (by kernel_rfl) (by kernel_rfl) ?_
        repeat (go_big_quiet_step (fail))
        refine wpQuiet_nil ?_
        intro z
        have hbz : Below w.heap.size w z.val := z.below hbw hbw.size
        go_wp2
        go_roundw
        case rel => exact ⟨k + 1, by omega, by go_num, by rw [HTA.out, HTB.out, HT.out], hbz⟩
        case measure => simp [intOf]; omega
      · have n1 : (x == y) = false := by simpa using hxy
        have HR := Lib.hid (eqL_at HL.out HX.out HY.out hxy)
        clear hxy
        go_wp2_with fail
        refine wp_region_aft (by kernel_rfl) (by kernel_rfl) ?_
        repeat (go_big_quiet_step (fail))
        refine wpQuiet_nil ?_
        intro z
        have hbz : Below w.heap.size w z.val := z.below hbw hbw.size
        go_wp2
        go_ret
        exact ⟨retB HR.out.symm, Below.aft hbz⟩
    · have HR := Lib.hid (show eqL a b = true from eqL_all HL.out (by
        have h := HT.out
        have e : k = a.length := by omega
        rw [e] at h; exact h))
      go_wp2
      go_ret
      exact ⟨retB HR.out.symm, Below.aft hbw⟩

end Go.Proofs.YtkdonapgonegkaaGreatDoor

set_option linter.unusedSimpArgs false
set_option linter.unusedVariables false
namespace Go.Proofs.YtkdonapgonegkaaGreatDoor
open Go.RowKit Go.ChangeShapes Go.WideShapes Go.ChangeAt Go.Joins Go.Deep

section
variable {H : Type} {enc : TypeId × Value → H} {P : Program} {w : World} {base : Nat} {spare : Nat → Bool} {held : Bool}

theorem lt_of_cell {w : World} {a : Addr} {v : Value} (h : w.cell? a = some v) : a.block < w.heap.size := by
  rcases Nat.lt_or_ge a.block w.heap.size with h1 | h1
  · exact h1
  · unfold World.cell? at h
    rw [Array.getElem?_eq_none h1] at h
    simp at h

theorem open_list1 {t e : TypeId} {v : Value} {d : DataW H} {p : List MemPlace} (hv : ∃ A len cap, v = .slice A len cap) (ht : P.underlying t = some (.slice e)) (he : P.underlying e = some (.int .i64)) (hce : P.cellsOf e = 1)
    (h : DataW.Trod enc P w base spare held t v d p) :
    ∃ (A : Option Addr) (cap : Nat) (ns : List Int), v = .slice A ns.length cap ∧ LiesI w A ns ∧ (ns.length = 0 → A = none ∧ cap = 0 ∨ ∃ ad, A = some ad) ∧ ns.length ≤ cap ∧ ∀ x ∈ ns, (Lit.int .i64 x).wf = true := by
  obtain ⟨A', len', cap', rfl⟩ := hv
  obtain ⟨fuel, hf⟩ := h
  rcases open_slice ht hf with ⟨hc, _⟩ | ⟨a, len, cap, m, n, D, Pl, hc, _, hl, _, hm, _, hi⟩
  · have e1 : Value.slice A' len' cap' = .slice none 0 0 := by simpa [Value.cells] using hc
    exact ⟨none, 0, [], e1, fun hp => by simp at hp, fun _ => .inl ⟨rfl, rfl⟩, Nat.le_refl _, fun x hx => by cases hx⟩
  · have e1 : Value.slice A' len' cap' = .slice (some a) len cap := by simpa [Value.cells] using hc
    have hlm : len ≤ m := by rw [hm]; split <;> omega
    have hx : ∀ i, i < len → ∃ q : Int, w.cell? (a.add i) = some (.int .i64 q) ∧ (Lit.int .i64 q).wf = true := by
      intro i hil
      obtain ⟨cs', hcs, htr⟩ := hi i (by omega)
      rw [hce, Nat.mul_one] at hcs
      obtain ⟨_, hlen, hat⟩ := World.cells?_some hcs
      match cs', hlen with
      | [u0], _ =>
        obtain ⟨q0, e0, _, w0⟩ := DataW.trod_int he htr
        simp at e0
        subst e0
        refine ⟨q0, ?_, w0⟩
        have := hat 0 (by omega)
        simpa [Addr.add_zero'] using this
    obtain ⟨V, hV⟩ := choose_lt (α := Int) (p := fun i q => w.cell? (a.add i) = some (.int .i64 q) ∧ (Lit.int .i64 q).wf = true) hx
    have hmem : ∀ i q, ((List.range len).map V)[i]? = some q → i < len ∧ q = V i := by
      intro i q hq
      rw [List.getElem?_map] at hq
      have hil : i < len := by
        rcases Nat.lt_or_ge i len with h | h
        · exact h
        · rw [List.getElem?_eq_none (by simpa using h)] at hq; cases hq
      rw [List.getElem?_range hil] at hq
      injection hq with hq
      exact ⟨hil, hq.symm⟩
    refine ⟨some a, cap, (List.range len).map V, by rw [e1]; simp, fun hp => ⟨a, rfl, ?_, fun i q hq => ?_⟩, fun _ => .inr ⟨a, rfl⟩, by simpa using hl, fun q hq => ?_⟩
    · have hpos : 0 < len := by simpa using hp
      have := lt_of_cell (hV 0 hpos).1
      rwa [addB] at this
    · obtain ⟨hil, rfl⟩ := hmem i q hq
      exact (hV i hil).1
    · obtain ⟨i, hi'⟩ := List.mem_iff_getElem?.1 hq
      obtain ⟨hil, rfl⟩ := hmem i q hi'
      exact (hV i hil).2


/-- A node in memory, with what a caller's slice says of its own arguments. -/
def NodeAt (w : World) (a : Addr) (n : Nd) : Prop := w.cell? a = some (.int .i64 n.op) ∧ w.cell? (a.add 1) = some (.int .i64 n.wd) ∧ w.cell? (a.add 3) = some (.int .i64 n.v) ∧
  ∃ B cap, w.cell? (a.add 2) = some (.slice B n.args.length cap) ∧ LiesI w B n.args ∧ (n.args.length = 0 → B = none ∧ cap = 0 ∨ ∃ ad, B = some ad) ∧ n.args.length ≤ cap
def LiesG (w : World) (A : Option Addr) (ns : List Nd) : Prop := 0 < ns.length → ∃ ad, A = some ad ∧ ad.block < w.heap.size ∧ ∀ i n, ns[i]? = some n → NodeAt w (ad.add (i * 4)) n
theorem LiesG.n {A : Option Addr} {ns : List Nd} (h : LiesG w A ns) : LiesN w A ns := fun hp => by
  obtain ⟨ad, e, hb, hc⟩ := h hp
  refine ⟨ad, e, hb, fun i n hi => ?_⟩
  obtain ⟨c0, c1, c3, B, cap, c2, hl, _⟩ := hc i n hi
  exact ⟨c0, c1, c3, B, cap, c2, hl⟩
instance : Inhabited Nd := ⟨⟨0, 0, [], 0⟩⟩
theorem open_nodes {t e : TypeId} {f0 f1 f2 f3 : Field} {ie : TypeId} {v : Value} {d : DataW H} {p : List MemPlace} (hv : ∃ A len cap, v = .slice A len cap) (ht : P.underlying t = some (.slice e)) (he : P.underlying e = some (.struct #[f0, f1, f2, f3])) (hce : P.cellsOf e = 4)
    (h0 : P.underlying f0.type = some (.int .i64)) (h1 : P.underlying f1.type = some (.int .i64)) (h2 : P.underlying f2.type = some (.slice ie)) (h3 : P.underlying f3.type = some (.int .i64)) (hie : P.underlying ie = some (.int .i64)) (hci : P.cellsOf ie = 1)
    (c0 : P.cellsOf f0.type = 1) (c1 : P.cellsOf f1.type = 1) (c2 : P.cellsOf f2.type = 1) (c3 : P.cellsOf f3.type = 1) (o0 : f0.offset = 0) (o1 : f1.offset = 1) (o2 : f2.offset = 2) (o3 : f3.offset = 3)
    (h : DataW.Trod enc P w base spare held t v d p) :
    ∃ (A : Option Addr) (cap : Nat) (ns : List Nd), v = .slice A ns.length cap ∧ LiesG w A ns ∧ (ns.length = 0 → A = none ∧ cap = 0 ∨ ∃ ad, A = some ad) ∧ ns.length ≤ cap := by
  obtain ⟨A', len', cap', rfl⟩ := hv
  obtain ⟨fuel, hf⟩ := h
  rcases open_slice ht hf with ⟨hc, _⟩ | ⟨a, len, cap, m, n, D, Pl, hc, _, hl, _, hm, _, hi⟩
  · have e1 : Value.slice A' len' cap' = .slice none 0 0 := by simpa [Value.cells] using hc
    exact ⟨none, 0, [], e1, fun hp => by simp at hp, fun _ => .inl ⟨rfl, rfl⟩, Nat.le_refl _⟩
  · have e1 : Value.slice A' len' cap' = .slice (some a) len cap := by simpa [Value.cells] using hc
    have hlm : len ≤ m := by rw [hm]; split <;> omega
    have hx : ∀ i, i < len → ∃ q : Nd, NodeAt w (a.add (i * 4)) q := by
      intro i hil
      obtain ⟨cs', hcs, htr⟩ := hi i (by omega)
      rw [hce] at hcs
      obtain ⟨_, hlen, hat⟩ := World.cells?_some hcs
      obtain ⟨y0, y1, y2, y3, n', _, _, t0, t1, t2, t3⟩ := trod_struct4 he htr
      rw [c0, o0] at t0
      rw [c1, o1] at t1
      rw [c2, o2] at t2
      rw [c3, o3] at t3
      match cs', hlen with
      | [u0, u1, u2, u3], _ =>
        obtain ⟨q0, e0, _⟩ := DataW.trod_int h0 t0
        obtain ⟨q1, e1, _⟩ := DataW.trod_int h1 t1
        obtain ⟨q3, e3, _⟩ := DataW.trod_int h3 t3
        simp at e0 e1 e3
        subst e0 e1 e3
        have hs : ∃ A len cap, u2 = .slice A len cap := by
          rcases open_slice h2 t2 with ⟨hc2, _⟩ | ⟨a2, len2, cap2, _, _, _, _, hc2, _⟩
          · exact ⟨none, 0, 0, by simpa using hc2⟩
          · exact ⟨some a2, len2, cap2, by simpa using hc2⟩
        obtain ⟨A2, len2, cap2, rfl⟩ := hs
        obtain ⟨B, bc, xs, eB, hB, hB0, hBc, _⟩ := open_list1 (enc := enc) (P := P) (w := w) (base := base) (spare := spare) (held := held) (t := f2.type) (e := ie) (v := .slice A2 len2 cap2) (d := y2.1) (p := y2.2) ⟨A2, len2, cap2, rfl⟩ h2 hie hci ⟨n', t2⟩
        refine ⟨⟨q0, q1, xs, q3⟩, ?_, ?_, ?_, B, bc, ?_, hB, hB0, hBc⟩
        · have := hat 0 (by omega)
          simpa [Addr.add_zero'] using this
        · have := hat 1 (by omega)
          simpa using this
        · have := hat 3 (by omega)
          simpa using this
        · have := hat 2 (by omega)
          rw [← eB]
          simpa using this
    obtain ⟨V, hV⟩ := choose_lt (α := Nd) (p := fun i q => NodeAt w (a.add (i * 4)) q) hx
    refine ⟨some a, cap, (List.range len).map V, by rw [e1]; simp, fun hp => ⟨a, rfl, ?_, fun i q hq => ?_⟩, fun _ => .inr ⟨a, rfl⟩, by simpa using hl⟩
    · have hpos : 0 < len := by simpa using hp
      have := lt_of_cell (hV 0 hpos).1
      rwa [addB] at this
    · rw [List.getElem?_map] at hq
      have hil : i < len := by
        rcases Nat.lt_or_ge i len with h | h
        · exact h
        · rw [List.getElem?_eq_none (by simpa using h)] at hq; cases hq
      rw [List.getElem?_range hil] at hq
      injection hq with hq
      subst hq
      exact hV i hil
end
end Go.Proofs.YtkdonapgonegkaaGreatDoor

set_option linter.unusedSimpArgs false
set_option linter.unusedVariables false
namespace Go.Proofs.YtkdonapgonegkaaGreatDoor
open Go.RowKit Go.BigFrame

def CopiedJ (w : World) (ns : List Int) (e : Ending) (w' : World) : Prop := ∃ A' cap', e = .returned (.slice A' ns.length cap') ∧ LiesI w' A' ns ∧ (∀ ad, A' = some ad → w.heap.size ≤ ad.block) ∧ Below w.heap.size w w'

set_option maxRecDepth 100000 in
set_option maxHeartbeats 1600000 in
theorem CopyIntsJ_c (A : Option Addr) (cap : Nat) (ns : List Int) (w : World) (h : LiesI w A ns) (hA : ns.length = 0 → A = none ∧ cap = 0 ∨ ∃ ad, A = some ad) (h16 : ns.length ≤ 65536) :
    Calls Tryz.prog 9 #[.slice A ns.length cap] w (CopiedJ w ns) := by
  obtain ⟨i0, hi, hz0, hz1, hz2⟩ := info_parts int_info
  have hown0 := World.ownsRow_lit (base := w.heap.size) (e := 3) (size := 1) w #[] 0 (Nat.le_refl _) (by unfold maxLen; omega) rfl
  have fin : ∀ (v' : Value) (w3 : World), w3.ownsRow w.heap.size 3 1 v' (0 + ns.length) ([] ++ ns.map (.int .i64)) → ∃ A' cap', Ending.returned v' = .returned (.slice A' ns.length cap') ∧ LiesI w3 A' ns ∧ ∀ ad, A' = some ad → w.heap.size ≤ ad.block := by
    intro v' w3 ho
    rw [Nat.zero_add, List.nil_append] at ho
    rcases ho.2 with ⟨rfl, h0⟩ | ⟨g, cap', cur, rfl, _⟩
    · exact ⟨none, 0, by rw [h0], (fun hp => by omega), fun ad h => by cases h⟩
    · exact ⟨_, cap', rfl, LiesI.of_own ho, fun ad h => by injection h with h; subst h; exact (ho.lt g rfl).1⟩
  have HF := Lib.hid fin
  have HO : Hid (∀ u ∈ ns.map (Value.int .i64), u.oneCell' = true) := Lib.hid (by
    intro u hu
    obtain ⟨x, _, rfl⟩ := List.mem_map.1 hu
    rfl)
  have hm1 : 0 + ns.length ≤ maxLen := by unfold maxLen; omega
  have hm2 : (0 + ns.length) * 8 ≤ 140737488355328 := by omega
  have HL : Hid ((ns.map (Value.int .i64)).length = ns.length * 1) := Lib.hid (by simp)
  clear fin
  have way : ∀ ad : Addr, A = some ad → (0 < ns.length → ad.block < w.heap.size) → (∀ i x, ns[i]? = some x → w.cell? (ad.add i) = some (.int .i64 x)) →
      Calls Tryz.prog 9 #[.slice A ns.length cap] w (CopiedJ w ns) := by
    rintro ad rfl hb hc
    have hcells : ∀ j u, (ns.map (Value.int .i64))[j]? = some u → (w.alloc (.cells #[] 3)).cell? (ad.add j) = some u := by
      intro j u hj
      rw [List.getElem?_map] at hj
      cases hx : ns[j]? with
      | none => rw [hx] at hj; cases hj
      | some x =>
        rw [hx] at hj
        injection hj with hj
        subst hj
        have hb' := hb (by have := (List.getElem?_eq_some_iff.1 hx).1; omega)
        rw [World.cell?_alloc_lt _ _ _ (by rw [addB]; exact hb')]
        exact hc j x hx
    have HC := Lib.hid hcells
    clear hcells hc h hA
    go_enter Tryz.func9, Tryz.ntmps9
    go_wp2_with (at_builtin; refine wpList_append_own _ rfl _ _ 22 rfl w.heap.size 3 i0 (.int .i64 0) 1 8 Tryz.underlying22 hi hz0 hz1 hz2 rfl (by decide) _ _ _ rfl hown0 ad ns.length cap (ns.map (.int .i64)) rfl HL.out HC.out HO.out hm1 hm2 (by simp) ?_; intro v' w3 hown' hgrow3 hnn)
    go_wp2
    go_ret
    obtain ⟨A', cap', h1, h2, h3⟩ := HF.out v' w3 hown'
    refine ⟨A', cap', h1, h2, h3, ((Below.refl _ _).alloc (Nat.le_refl _) _).grown hgrow3 (by simp) (fun q hq => ?_)⟩
    have hq' : some w.heap.size = some q := hq
    injection hq' with hq'
    omega
  by_cases h0 : 0 < ns.length
  · obtain ⟨ad, e, hb, hc⟩ := h h0
    exact way ad e (fun _ => hb) hc
  · rcases hA (by omega) with ⟨rfl, rfl⟩ | ⟨ad, e⟩
    · obtain rfl : ns = [] := List.eq_nil_of_length_eq_zero (by omega)
      have hown1 := hown0
      clear way hown0 HF HO HL h hA
      go_enter Tryz.func9, Tryz.ntmps9
      go_wp2_with (at_builtin; refine wpList_append_own_none rfl _ _ 22 rfl w.heap.size 3 i0 1 Tryz.underlying22 hi _ _ _ rfl hown1 rfl ?_)
      go_wp2
      go_ret
      exact ⟨some ⟨w.heap.size, 0, none⟩, 0, rfl, (fun hp => by simp at hp), (fun ad h => by injection h with h; subst h; exact Nat.le_refl _), (Below.refl _ _).alloc (Nat.le_refl _) _⟩
    · exact way ad e (fun h => absurd h h0) fun i p hp => by rw [List.getElem?_eq_none (by omega)] at hp; cases hp

theorem node_info : (Tryz.prog.info? 61).map (fun i => (i.zero, i.size, i.bytes)) = some (some (.agg #[.int .i64 0, .int .i64 0, .slice none 0 0, .int .i64 0]), 4, 48) := by kernel_rfl
theorem LiesI.set {w : World} {A : Option Addr} {ns : List Int} {g j : Nat} {u : Value} (h : LiesI w A ns) (hne : ∀ ad, A = some ad → g < ad.block) : LiesI (w.setCell ⟨g, j, none⟩ u) A ns := fun hp => by
  obtain ⟨ad, rfl, hb, hc⟩ := h hp
  have := hne ad rfl
  refine ⟨ad, rfl, by simpa using hb, fun i x hi => ?_⟩
  have k : (w.setCell ⟨g, j, none⟩ u).cell? (ad.add i) = w.cell? (ad.add i) := by
    unfold World.cell?
    rw [heap_setCell_other w ⟨g, j, none⟩ (ad.add i).block u (by rw [addB]; simp; omega)]
  exact k.trans (hc i x hi)
/-- So many nodes are copied into a row of cells. -/
def Did (w : World) (g : Nat) (ns : List Nd) (k : Nat) (xs : List Value) : Prop := ∀ i n, i < k → ns[i]? = some n → xs[i * 4]? = some (.int .i64 n.op) ∧ xs[i * 4 + 1]? = some (.int .i64 n.wd) ∧ xs[i * 4 + 3]? = some (.int .i64 n.v) ∧
  ∃ B cap, xs[i * 4 + 2]? = some (.slice B n.args.length cap) ∧ LiesI w B n.args ∧ ∀ ad, B = some ad → g < ad.block
theorem Did.set {w : World} {g k j : Nat} {ns : List Nd} {xs : List Value} {u : Value} (h : Did w g ns k xs) (hj : k * 4 ≤ j) : Did (w.setCell ⟨g, j, none⟩ u) g ns k (xs.set j u) := fun i n hi hn => by
  obtain ⟨a, b, c, B, cap, d, hl, hB⟩ := h i n hi hn
  refine ⟨?_, ?_, ?_, B, cap, ?_, hl.set hB, hB⟩
  all_goals rw [List.getElem?_set_ne (by omega)]; assumption
theorem Did.below {w W : World} {g k : Nat} {ns : List Nd} {xs : List Value} (h : Did w g ns k xs) (hb : Below w.heap.size w W) : Did W g ns k xs := fun i n hi hn => by
  obtain ⟨a, b, c, B, cap, d, hl, hB⟩ := h i n hi hn
  exact ⟨a, b, c, B, cap, d, hl.below hb, hB⟩
theorem Did.setW {w : World} {g k j : Nat} {ns : List Nd} {xs : List Value} {u : Value} (h : Did w g ns k xs) : Did (w.setCell ⟨g, j, none⟩ u) g ns k xs := fun i n hi hn => by
  obtain ⟨a, b, c, B, cap, d, hl, hB⟩ := h i n hi hn
  exact ⟨a, b, c, B, cap, d, hl.set hB, hB⟩
theorem Did.next {w : World} {g k cap : Nat} {ns : List Nd} {xs : List Value} {x : Nd} {y : Value} {B : Option Addr} (h : Did w g ns k xs) (hx : ns[k]? = some x) (hl : xs.length = ns.length * 4) (hk : k < ns.length) (hL : LiesI w B x.args) (hB : ∀ ad, B = some ad → g < ad.block) :
    Did w g ns (k + 1) (((((xs.set (k * 4) (.int .i64 x.op)).set (k * 4 + 1) (.int .i64 x.wd)).set (k * 4 + 2) y).set (k * 4 + 3) (.int .i64 x.v)).set (k * 4 + 2) (.slice B x.args.length cap)) := by
  intro i n hi hn
  by_cases hik : i < k
  · obtain ⟨a, b, c, B', cap', d, hl', hB'⟩ := h i n hik hn
    refine ⟨?_, ?_, ?_, B', cap', ?_, hl', hB'⟩
    all_goals
      rw [List.getElem?_set_ne (by omega), List.getElem?_set_ne (by omega), List.getElem?_set_ne (by omega), List.getElem?_set_ne (by omega), List.getElem?_set_ne (by omega)]
      assumption
  · obtain rfl : i = k := by omega
    rw [hx] at hn
    obtain rfl := Option.some.inj hn
    refine ⟨?_, ?_, ?_, B, cap, ?_, hL, hB⟩
    · rw [List.getElem?_set_ne (by omega), List.getElem?_set_ne (by omega), List.getElem?_set_ne (by omega), List.getElem?_set_ne (by omega), List.getElem?_set_self (by omega)]
    · rw [List.getElem?_set_ne (by omega), List.getElem?_set_ne (by omega), List.getElem?_set_ne (by omega), List.getElem?_set_self (by simp; omega)]
    · rw [List.getElem?_set_ne (by omega), List.getElem?_set_self (by simp; omega)]
    · rw [List.getElem?_set_self (by simp; omega)]
theorem add_add (a : Addr) (m k : Nat) : (a.add m).add k = a.add (m + k) := by
  by_cases hm : m = 0
  · subst hm; by_cases hk : k = 0 <;> simp [Addr.add, hk]
  · by_cases hk : k = 0 <;> simp [Addr.add, hk, hm, Nat.add_assoc]
theorem own_at {w : World} {base : Nat} {e : TypeId} {g n cap : Nat} {xs : List Value} (h : w.ownsRow base e 4 (.slice (some ⟨g, 0, none⟩) n cap) n xs) {j : Nat} (hj : j < n * 4) : ∃ u, w.cell? ⟨g, j, none⟩ = some u := by
  have hl : xs.length = n * 4 := h.1
  refine ⟨xs[j], ?_⟩
  have := h.cells (g := g) rfl j xs[j] (List.getElem?_eq_getElem (by omega))
  rwa [Addr.add_lit, Nat.zero_add] at this

set_option maxRecDepth 100000 in
set_option maxHeartbeats 1600000 in
theorem CopyNodes_c (A : Option Addr) (cap : Nat) (ns : List Nd) (hns : ns.length ≤ 65536) (hla : ∀ n ∈ ns, n.args.length ≤ 65536) (w : World) (h : LiesG w A ns) :
    Calls Tryz.prog 10 #[.slice A ns.length cap] w (CopiedN w ns) := by
  obtain ⟨i0, hi, hz0, hz1, hz2⟩ := info_parts node_info
  have HG := Lib.hid h
  have HLA := Lib.hid hla
  clear h hla
  go_enter Tryz.func10, Tryz.ntmps10
  go_wp2_with (refine wpList_make_full _ rfl _ _ 23 rfl w.heap.size 61 i0 _ 4 Tryz.underlying23 hi hz0 hz1 .i64 .i64 _ _ ns.length rfl rfl rfl rfl (by rw [hz2]; omega) (by unfold maxLen; omega) (Nat.le_refl _) ?_; intro W1 hown hgr)
  have hb1 : Below w.heap.size w W1 := (Below.refl _ _).grown hgr (Nat.le_refl _) (fun q hq => by cases hq)
  have hgl : w.heap.size < W1.heap.size := (hown.lt w.heap.size rfl).2
  have R0 := Lib.hid hown
  clear hown hgr
  go_wp2
  go_loopw [4] (fun v4 wr => ∃ (k : Nat) (xs : List Value), k ≤ ns.length ∧ v4 = .int .i64 k ∧ wr.ownsRow w.heap.size 61 4 (.slice (some ⟨w.heap.size, 0, none⟩) ns.length ns.length) ns.length xs ∧ Did wr w.heap.size ns k xs ∧ Below w.heap.size w wr) (fun v4 _ => ns.length - (intOf v4).toNat)
  case atStart => exact ⟨0, _, by omega, rfl, R0.out, fun i n hi => by omega, hb1⟩
  case round =>
    obtain ⟨k, xs, hk, rfl, hown, hd, hb⟩ := hrel
    by_cases hlt : k < ns.length
    · have hkk : (k : Int) < ns.length := by omega
      have HX := Lib.hid (List.getElem?_eq_getElem hlt)
      have HL := Lib.hid (HLA.out _ (List.getElem_mem hlt))
      generalize ns[k] = x at *
      obtain ⟨ad, rfl, hbl, hnode⟩ := HG.out (by omega)
      obtain ⟨c0, c1, c3, B, bc, c2, hB, hB0, _⟩ := hnode k x HX.out
      have hbk : ∀ q : Addr, q.block = ad.block → wr.cell? q = w.cell? q := fun q hq => hb.cell (p := q) (by rw [hq]; exact hbl)
      have a0 := (hbk (ad.add (k * 4)) (by rw [addB])).trans c0
      have a1 : wr.cell? ⟨(ad.add (k * 4)).block, (ad.add (k * 4)).off + 1, none⟩ = some (.int .i64 x.wd) := (hbk ((ad.add (k * 4)).add 1) (by rw [addB, addB])).trans c1
      have a2 : wr.cell? ⟨(ad.add (k * 4)).block, (ad.add (k * 4)).off + 2, none⟩ = some (.slice B x.args.length bc) := (hbk ((ad.add (k * 4)).add 2) (by rw [addB, addB])).trans c2
      have a3 : wr.cell? ⟨(ad.add (k * 4)).block, (ad.add (k * 4)).off + 3, none⟩ = some (.int .i64 x.v) := (hbk ((ad.add (k * 4)).add 3) (by rw [addB, addB])).trans c3
      obtain ⟨u0, d0⟩ := own_at hown (j := k * 4) (by omega)
      obtain ⟨u1, d1⟩ := own_at hown (j := k * 4 + 1) (by omega)
      obtain ⟨u2, d2⟩ := own_at hown (j := k * 4 + 2) (by omega)
      obtain ⟨u3, d3⟩ := own_at hown (j := k * 4 + 3) (by omega)
      have e0 := hown.frozenAt (k * 4)
      have e1 := hown.frozenAt (k * 4 + 1)
      have e2 := hown.frozenAt (k * 4 + 2)
      have e3 := hown.frozenAt (k * 4 + 3)
      have HD := Lib.hid hd
      have HO := Lib.hid hown
      have HB := Lib.hid hb
      have HC2 := Lib.hid c2
      clear hnode c0 c1 c2 c3 hbk hd hown hb
      go_upto_region 6 with (fail)
      clear a0 a1 a2 a3 d0 d1 d2 d3 e0 e1 e2 e3
      have ho1 := ((((HO.out.stored (k * 4) (.int .i64 x.op)).1.stored (k * 4 + 1) (.int .i64 x.wd)).1.stored (k * 4 + 2) (.slice B x.args.length bc)).1.stored (k * 4 + 3) (.int .i64 x.v)).1
      have hd1 := ((((HD.out.setW (j := k * 4) (u := .int .i64 x.op)).setW (j := k * 4 + 1) (u := .int .i64 x.wd)).setW (j := k * 4 + 2) (u := .slice B x.args.length bc)).setW (j := k * 4 + 3) (u := .int .i64 x.v))
      have hb1 : Below w.heap.size w ((((wr.setCell ⟨w.heap.size, k * 4, none⟩ (.int .i64 x.op)).setCell ⟨w.heap.size, k * 4 + 1, none⟩ (.int .i64 x.wd)).setCell ⟨w.heap.size, k * 4 + 2, none⟩ (.slice B x.args.length bc)).setCell ⟨w.heap.size, k * 4 + 3, none⟩ (.int .i64 x.v)) :=
        (((HB.out.setCell (Nat.le_refl _) _).setCell (Nat.le_refl _) _).setCell (Nat.le_refl _) _).setCell (Nat.le_refl _) _
      generalize ((((wr.setCell ⟨w.heap.size, k * 4, none⟩ (.int .i64 x.op)).setCell ⟨w.heap.size, k * 4 + 1, none⟩ (.int .i64 x.wd)).setCell ⟨w.heap.size, k * 4 + 2, none⟩ (.slice B x.args.length bc)).setCell ⟨w.heap.size, k * 4 + 3, none⟩ (.int .i64 x.v)) = S1 at *
      have a2 : S1.cell? ⟨(ad.add (k * 4)).block, (ad.add (k * 4)).off + 2, none⟩ = some (.slice B x.args.length bc) := (hb1.cell (p := (ad.add (k * 4)).add 2) (by rw [addB, addB]; exact hbl)).trans HC2.out
      have HB1 := Lib.hid hb1
      have HO1 := Lib.hid ho1
      have HD1 := Lib.hid hd1
      clear hb1 ho1 hd1
      go_wp2_with fail
      refine (CopyIntsJ_c B bc x.args S1 (hB.below HB1.out) hB0 HL.out).mono ?_
      rintro e W2 ⟨A', cap', rfl, hl2, hA2, hb2⟩
      have ho2 := own_below HO1.out hb2
      obtain ⟨u2, d2⟩ := own_at ho2 (j := k * 4 + 2) (by omega)
      have e2 := ho2.frozenAt (k * 4 + 2)
      have hgS : w.heap.size < S1.heap.size := (HO1.out.lt w.heap.size rfl).2
      have hA3 : ∀ ad, A' = some ad → w.heap.size < ad.block := fun ad h => Nat.lt_of_lt_of_le hgS (hA2 ad h)
      have HF := Lib.hid (show ∃ xs', (W2.setCell ⟨w.heap.size, k * 4 + 2, none⟩ (.slice A' x.args.length cap')).ownsRow w.heap.size 61 4 (.slice (some ⟨w.heap.size, 0, none⟩) ns.length ns.length) ns.length xs' ∧ Did (W2.setCell ⟨w.heap.size, k * 4 + 2, none⟩ (.slice A' x.args.length cap')) w.heap.size ns (k + 1) xs' ∧ Below w.heap.size w (W2.setCell ⟨w.heap.size, k * 4 + 2, none⟩ (.slice A' x.args.length cap')) from
        ⟨_, (ho2.stored (k * 4 + 2) (.slice A' x.args.length cap')).1, Did.next ((HD1.out.below hb2).setW) HX.out HO.out.1 hlt (hl2.set hA3) hA3, (HB1.out.trans (hb2.mono (Nat.le_of_lt hgS))).setCell (Nat.le_refl _) _⟩)
      clear ho2 hl2 hA2 hb2 a2 hA3
      go_wp2
      go_roundw
      case rel =>
        obtain ⟨xs', f1, f2, f3⟩ := HF.out
        exact ⟨k + 1, xs', by omega, by go_num, f1, f2, f3⟩
      case measure => simp [intOf]; omega
    · obtain rfl : k = ns.length := by omega
      have HF := Lib.hid (show CopiedN w ns (.returned (.slice (some ⟨w.heap.size, 0, none⟩) ns.length ns.length)) wr from ⟨_, ns.length, rfl, Nat.le_refl _, fun hp => ⟨_, rfl, (hown.lt w.heap.size rfl).2, fun i n hi => by
        obtain ⟨f0, f1, f3, B, bc, f2, hl, _⟩ := hd i n (List.getElem?_eq_some_iff.1 hi).1 hi
        exact ⟨hown.cells (g := w.heap.size) rfl _ _ f0, (by rw [add_add]; exact hown.cells (g := w.heap.size) rfl _ _ f1), (by rw [add_add]; exact hown.cells (g := w.heap.size) rfl _ _ f3), B, bc, (by rw [add_add]; exact hown.cells (g := w.heap.size) rfl _ _ f2), hl⟩⟩, hb⟩)
      clear hown hd hb
      go_wp2
      go_ret
      exact HF.out

end Go.Proofs.YtkdonapgonegkaaGreatDoor

set_option linter.unusedSimpArgs false
set_option linter.unusedVariables false
namespace Go.Proofs.YtkdonapgonegkaaGreatDoor
open Go.RowKit Go.BigFrame

theorem NodeAt.below {w W : World} {a : Addr} {n : Nd} (h : NodeAt w a n) (hb : Below w.heap.size w W) (hl : a.block < w.heap.size) : NodeAt W a n := by
  obtain ⟨c0, c1, c3, B, cap, c2, hB, h4⟩ := h
  have k : ∀ q : Addr, q.block = a.block → W.cell? q = w.cell? q := fun q hq => hb.cell (p := q) (by rw [hq]; exact hl)
  exact ⟨(k a rfl).trans c0, (k (a.add 1) (by rw [addB])).trans c1, (k (a.add 3) (by rw [addB])).trans c3, B, cap, (k (a.add 2) (by rw [addB])).trans c2, hB.below hb, h4⟩
theorem LiesG.below {w W : World} {A : Option Addr} {ns : List Nd} (h : LiesG w A ns) (hb : Below w.heap.size w W) : LiesG W A ns := fun hp => by
  obtain ⟨ad, e, hl, hc⟩ := h hp
  exact ⟨ad, e, Nat.lt_of_lt_of_le hl hb.size, fun i n hi => (hc i n hi).below hb (by rw [addB]; exact hl)⟩

end Go.Proofs.YtkdonapgonegkaaGreatDoor

set_option linter.unusedSimpArgs false
set_option linter.unusedVariables false
namespace Go.Proofs.YtkdonapgonegkaaGreatDoor
open Go Go.ChangeShapes Go.WideShapes Go.ChangeAt Go.RowKit Go.Joins Go.Deep

theorem lit_z {a b : Int} (h : (DataW.lit (.int .i64 a) : DataW Unit) = .lit (.int .i64 b)) : a = b := by
  injection h with h; injection h with _ h
theorem agg_3 {s s' : List UInt8} {z z' : Int} {b b' : Bool} (h : (some (DataW.agg [.lit (.string s), .lit (.int .i64 z), .lit (.bool b)] : DataW Unit)) = some (.agg [.lit (.string s'), .lit (.int .i64 z'), .lit (.bool b')])) : s = s' ∧ z = z' ∧ b = b' := by
  have := Option.some.inj h
  injection this with h
  injection h with h1 h
  injection h with h2 h
  injection h with h3 _
  refine ⟨?_, lit_z h2, ?_⟩
  · injection h1 with h1; injection h1
  · injection h3 with h3; injection h3
theorem str_of {s : List UInt8} {b : ByteArray} (h : s = b.data.toList) : b = ⟨s.toArray⟩ := by
  obtain ⟨d⟩ := b
  rw [h]
theorem agg_l {a b : List (DataW Unit)} (h : DataW.agg a = .agg b) : a = b := by injection h
set_option maxRecDepth 100000 in
theorem tabOps_of_laid {W : World} (h : laidMetH Tryz.prog Rows.graphSmallerRow.laid W) : TabOps W := by
  have h1 : laidMet Tryz.prog [("math/bits.deBruijn32tab", Rows.laid_math_bits_deBruijn32tab), ("math/bits.deBruijn64tab", Rows.laid_math_bits_deBruijn64tab), ("internal/strconv.uint64pow10", Rows.laid_internal_strconv_uint64pow10), ("ratchet/graph.operations", Rows.laid_ratchet_graph_operations)] W := h
  have h4 := laidMet.tail (laidMet.tail (laidMet.tail h1))
  obtain ⟨ps, ⟨g', t', cs, fuel, p, q, hg', ht', hvar, hd, _, _⟩, _⟩ := h4
  obtain rfl := Option.some.inj ((show Tryz.prog.globalNamed "ratchet/graph.operations" = some 0 by kernel_rfl).symm.trans hg')
  obtain rfl := Option.some.inj ((show (Tryz.prog.globals[0]?).map (·.type) = some 124 by kernel_rfl).symm.trans ht')
  obtain ⟨xs, m, _, hx, hl, hxl, hi⟩ := DataW.trod_array (n := 19) (e := 123) Tryz.underlying124 hd
  have hxs := agg_l (congrArg Prod.fst hx)
  have hc : ∀ o, o < 19 → ∃ (s : ByteArray) (z : Int) (b : Bool), cs[o * 3]? = some (.string s) ∧ cs[o * 3 + 1]? = some (.int .i64 z) ∧ cs[o * 3 + 2]? = some (.bool b) ∧ (xs.map (·.1))[o]? = some (.agg [.lit (.string s.data.toList), .lit (.int .i64 z), .lit (.bool b)]) := by
    intro o ho
    have ho' := hi o ho
    rw [show Tryz.prog.cellsOf 123 = 3 by kernel_rfl] at ho'
    obtain ⟨x, hx'⟩ : ∃ x, xs[o]? = some x := ⟨_, List.getElem?_eq_getElem (by omega)⟩
    rw [hx'] at ho'
    obtain ⟨y0, y1, y2, n', e1, _, t0, t1, t2⟩ := trod_struct3 Tryz.underlying123 ho'
    obtain ⟨z, hz, hzl, _⟩ := DataW.trod_int Tryz.underlying3 t1
    obtain ⟨sb, hs, hsl, _⟩ := DataW.trod_string Tryz.underlying9 t0
    obtain ⟨b, hb, hbl⟩ := DataW.trod_bool Tryz.underlying4 t2
    have k : Tryz.prog.cellsOf 3 = 1 := by kernel_rfl
    have ks : Tryz.prog.cellsOf 9 = 1 := by kernel_rfl
    have kb : Tryz.prog.cellsOf 4 = 1 := by kernel_rfl
    refine ⟨sb, z, b, ?_, ?_, ?_, ?_⟩
    · have h0 := congrArg (·[0]?) hs
      simp only [k, ks, kb] at h0
      simpa [List.getElem?_take, List.getElem?_drop, Nat.add_assoc] using h0
    · have h0 := congrArg (·[0]?) hz
      simp only [k, ks, kb] at h0
      simpa [List.getElem?_take, List.getElem?_drop, Nat.add_assoc] using h0
    · have h0 := congrArg (·[0]?) hb
      simp only [k, ks, kb] at h0
      simpa [List.getElem?_take, List.getElem?_drop, Nat.add_assoc] using h0
    · rw [List.getElem?_map, hx', e1, hzl, hsl, hbl]; rfl
  rw [← hxs] at hc
  have cell : ∀ o, o < 19 → cs[o * 3]? = some (.string ⟨(opL o).toArray⟩) ∧ cs[o * 3 + 1]? = some (.int .i64 (argN o)) ∧ cs[o * 3 + 2]? = some (.bool (opN o)) := by
    intro o ho
    obtain ⟨sb, z, b, hs, hz, hb, hd⟩ := hc o ho
    have hcase : o = 0 ∨ o = 1 ∨ o = 2 ∨ o = 3 ∨ o = 4 ∨ o = 5 ∨ o = 6 ∨ o = 7 ∨ o = 8 ∨ o = 9 ∨ o = 10 ∨ o = 11 ∨ o = 12 ∨ o = 13 ∨ o = 14 ∨ o = 15 ∨ o = 16 ∨ o = 17 ∨ o = 18 := by omega
    rcases hcase with rfl | rfl | rfl | rfl | rfl | rfl | rfl | rfl | rfl | rfl | rfl | rfl | rfl | rfl | rfl | rfl | rfl | rfl | rfl
    · obtain ⟨h1, h2, h3⟩ := agg_3 hd; rw [hs, hz, hb, ← h2, ← h3, str_of h1]; exact ⟨rfl, rfl, rfl⟩
    · obtain ⟨h1, h2, h3⟩ := agg_3 hd; rw [hs, hz, hb, ← h2, ← h3, str_of h1]; exact ⟨rfl, rfl, rfl⟩
    · obtain ⟨h1, h2, h3⟩ := agg_3 hd; rw [hs, hz, hb, ← h2, ← h3, str_of h1]; exact ⟨rfl, rfl, rfl⟩
    · obtain ⟨h1, h2, h3⟩ := agg_3 hd; rw [hs, hz, hb, ← h2, ← h3, str_of h1]; exact ⟨rfl, rfl, rfl⟩
    · obtain ⟨h1, h2, h3⟩ := agg_3 hd; rw [hs, hz, hb, ← h2, ← h3, str_of h1]; exact ⟨rfl, rfl, rfl⟩
    · obtain ⟨h1, h2, h3⟩ := agg_3 hd; rw [hs, hz, hb, ← h2, ← h3, str_of h1]; exact ⟨rfl, rfl, rfl⟩
    · obtain ⟨h1, h2, h3⟩ := agg_3 hd; rw [hs, hz, hb, ← h2, ← h3, str_of h1]; exact ⟨rfl, rfl, rfl⟩
    · obtain ⟨h1, h2, h3⟩ := agg_3 hd; rw [hs, hz, hb, ← h2, ← h3, str_of h1]; exact ⟨rfl, rfl, rfl⟩
    · obtain ⟨h1, h2, h3⟩ := agg_3 hd; rw [hs, hz, hb, ← h2, ← h3, str_of h1]; exact ⟨rfl, rfl, rfl⟩
    · obtain ⟨h1, h2, h3⟩ := agg_3 hd; rw [hs, hz, hb, ← h2, ← h3, str_of h1]; exact ⟨rfl, rfl, rfl⟩
    · obtain ⟨h1, h2, h3⟩ := agg_3 hd; rw [hs, hz, hb, ← h2, ← h3, str_of h1]; exact ⟨rfl, rfl, rfl⟩
    · obtain ⟨h1, h2, h3⟩ := agg_3 hd; rw [hs, hz, hb, ← h2, ← h3, str_of h1]; exact ⟨rfl, rfl, rfl⟩
    · obtain ⟨h1, h2, h3⟩ := agg_3 hd; rw [hs, hz, hb, ← h2, ← h3, str_of h1]; exact ⟨rfl, rfl, rfl⟩
    · obtain ⟨h1, h2, h3⟩ := agg_3 hd; rw [hs, hz, hb, ← h2, ← h3, str_of h1]; exact ⟨rfl, rfl, rfl⟩
    · obtain ⟨h1, h2, h3⟩ := agg_3 hd; rw [hs, hz, hb, ← h2, ← h3, str_of h1]; exact ⟨rfl, rfl, rfl⟩
    · obtain ⟨h1, h2, h3⟩ := agg_3 hd; rw [hs, hz, hb, ← h2, ← h3, str_of h1]; exact ⟨rfl, rfl, rfl⟩
    · obtain ⟨h1, h2, h3⟩ := agg_3 hd; rw [hs, hz, hb, ← h2, ← h3, str_of h1]; exact ⟨rfl, rfl, rfl⟩
    · obtain ⟨h1, h2, h3⟩ := agg_3 hd; rw [hs, hz, hb, ← h2, ← h3, str_of h1]; exact ⟨rfl, rfl, rfl⟩
    · obtain ⟨h1, h2, h3⟩ := agg_3 hd; rw [hs, hz, hb, ← h2, ← h3, str_of h1]; exact ⟨rfl, rfl, rfl⟩
  have cc : ∀ o, o < 19 → W.cell? ⟨0, o * 3 + 1, none⟩ = some (.int .i64 (argN o)) := fun o ho => (World.var?_cell (by kernel_rfl) hvar _).trans (cell o ho).2.1
  have c0 : ∀ o, o < 19 → W.cell? ⟨0, o * 3, none⟩ = some (.string ⟨(opL o).toArray⟩) := fun o ho => (World.var?_cell (by kernel_rfl) hvar _).trans (cell o ho).1
  have c2 : ∀ o, o < 19 → W.cell? ⟨0, o * 3 + 2, none⟩ = some (.bool (opN o)) := fun o ho => (World.var?_cell (by kernel_rfl) hvar _).trans (cell o ho).2.2
  exact ⟨cc, c0, c2, lt_of_cell (cc 0 (by omega))⟩
end Go.Proofs.YtkdonapgonegkaaGreatDoor
