/-
  Contracts of chapter 2 (graph): the references' error of a node.
-/
import Derived.Test.YtkdonapgonegkaaDoorGi
set_option linter.unusedSimpArgs false
set_option linter.unusedVariables false
namespace Go.Proofs.YtkdonapgonegkaaDoor
open Go.RowKit Go.BigFrame

theorem wAt_bd {before : List Nd} {args : List Int} (hv : ∀ n ∈ before, isW n.wd = true) (j : Nat) : 0 ≤ wAt before args j ∧ wAt before args j ≤ 16 := by
  unfold wAt
  split
  · decide
  · split
    · decide
    · rename_i n hn
      have := isW_iff.1 (hv n (List.mem_of_getElem? hn))
      omega
theorem take_at {ns : List Nd} {i k : Nat} {n : Nd} (h : (ns.take i)[k]? = some n) : ns[k]? = some n := by
  rw [List.getElem?_take] at h
  split at h
  · exact h
  · cases h
theorem Wid_of {ns : List Nd} {i : Nat} {args : List Int} (h : ∀ x ∈ args, isIx x (ns.take i).length = true) (j : Nat) (hj : j < args.length) : ∃ (k : Nat) (n : Nd), args[j]? = some (k : Int) ∧ ns[k]? = some n ∧ wAt (ns.take i) args j = n.wd := by
  have e := List.getElem?_eq_getElem hj
  obtain ⟨k, n, e2, g⟩ := idx_nat (h args[j] (List.getElem_mem hj))
  rw [e2] at e
  exact ⟨k, n, e, take_at g, wAt_in e g⟩
theorem Wid1 {ns : List Nd} {i : Nat} {args : List Int} (h : ∀ x ∈ args, isIx x (ns.take i).length = true) (hl : args.length = 1) : Wid ns args [wAt (ns.take i) args 0] := fun j hj => by
  obtain rfl : j = 0 := by omega
  obtain ⟨k, n, a, b, c⟩ := Wid_of h 0 hj
  exact ⟨k, n, a, b, by rw [c]; rfl⟩
theorem Wid2 {ns : List Nd} {i : Nat} {args : List Int} (h : ∀ x ∈ args, isIx x (ns.take i).length = true) (hl : args.length = 2) : Wid ns args [wAt (ns.take i) args 0, wAt (ns.take i) args 1] := fun j hj => by
  obtain ⟨k, n, a, b, c⟩ := Wid_of h j hj
  have hc : j = 0 ∨ j = 1 := by omega
  rcases hc with rfl | rfl
  all_goals exact ⟨k, n, a, b, by rw [← c]; rfl⟩
theorem Wid3 {ns : List Nd} {i : Nat} {args : List Int} (h : ∀ x ∈ args, isIx x (ns.take i).length = true) (hl : args.length = 3) : Wid ns args [wAt (ns.take i) args 0, wAt (ns.take i) args 1, wAt (ns.take i) args 2] := fun j hj => by
  obtain ⟨k, n, a, b, c⟩ := Wid_of h j hj
  have hc : j = 0 ∨ j = 1 ∨ j = 2 := by omega
  rcases hc with rfl | rfl | rfl
  all_goals exact ⟨k, n, a, b, by rw [← c]; rfl⟩

theorem rwidthsFit_c (op wd v : Int) (ho : 2 ≤ op) (ho2 : op ≤ 18) (hw1 : 1 ≤ wd) (hw2 : wd ≤ 16) (hv : op = 14 → 0 ≤ v ∧ v ≤ 15) (B : Option Addr) (bc : Nat) (args : List Int) (hla : (args.length : Int) = argN op) (N : Option Addr) (capN : Nat) (ns : List Nd) (hns : ns.length ≤ 65536) (i : Nat) (hb : ∀ n ∈ ns.take i, isW n.wd = true) (hx : ∀ x ∈ args, isIx x (ns.take i).length = true) (w : World) (hN : LiesN w N ns) (hB : LiesI w B args) :
    Calls Tryd.prog 103 #[.slice N ns.length capN, .agg #[.int .i64 op, .int .i64 wd, .slice B args.length bc, .int .i64 v]] w fun e w' => e = .returned (.bool (fitW op wd v (wAt (ns.take i) args 0) (wAt (ns.take i) args 1) (wAt (ns.take i) args 2))) ∧ ∃ x : Aft w, w' = x.val := by
  obtain ⟨a0, a1⟩ := wAt_bd (args := args) hb 0
  obtain ⟨b0, b1⟩ := wAt_bd (args := args) hb 1
  have hcase : op = 2 ∨ op = 3 ∨ op = 4 ∨ op = 5 ∨ op = 6 ∨ op = 7 ∨ op = 8 ∨ op = 9 ∨ op = 10 ∨ op = 11 ∨ op = 12 ∨ op = 13 ∨ op = 14 ∨ op = 15 ∨ op = 16 ∨ op = 17 ∨ op = 18 := by omega
  rcases hcase with rfl | rfl | rfl | rfl | rfl | rfl | rfl | rfl | rfl | rfl | rfl | rfl | rfl | rfl | rfl | rfl | rfl
  · have hl : (args.length : Int) = 1 := hla
    have hl' : args.length = 1 := by omega
    exact rfit_2 wd v _ _ _ hw1 hw2 a0 a1 b0 b1 B bc args hl' N capN ns hns w hN hB (Wid1 hx hl')
  · have hl : (args.length : Int) = 2 := hla
    have hl' : args.length = 2 := by omega
    exact rfit_3 wd v _ _ _ hw1 hw2 a0 a1 b0 b1 B bc args hl' N capN ns hns w hN hB (Wid2 hx hl')
  · have hl : (args.length : Int) = 2 := hla
    have hl' : args.length = 2 := by omega
    exact rfit_4 wd v _ _ _ hw1 hw2 a0 a1 b0 b1 B bc args hl' N capN ns hns w hN hB (Wid2 hx hl')
  · have hl : (args.length : Int) = 2 := hla
    have hl' : args.length = 2 := by omega
    exact rfit_5 wd v _ _ _ hw1 hw2 a0 a1 b0 b1 B bc args hl' N capN ns hns w hN hB (Wid2 hx hl')
  · have hl : (args.length : Int) = 2 := hla
    have hl' : args.length = 2 := by omega
    exact rfit_6 wd v _ _ _ hw1 hw2 a0 a1 b0 b1 B bc args hl' N capN ns hns w hN hB (Wid2 hx hl')
  · have hl : (args.length : Int) = 2 := hla
    have hl' : args.length = 2 := by omega
    exact rfit_7 wd v _ _ _ hw1 hw2 a0 a1 b0 b1 B bc args hl' N capN ns hns w hN hB (Wid2 hx hl')
  · have hl : (args.length : Int) = 2 := hla
    have hl' : args.length = 2 := by omega
    exact rfit_8 wd v _ _ _ hw1 hw2 a0 a1 b0 b1 B bc args hl' N capN ns hns w hN hB (Wid2 hx hl')
  · have hl : (args.length : Int) = 2 := hla
    have hl' : args.length = 2 := by omega
    exact rfit_9 wd v _ _ _ hw1 hw2 a0 a1 b0 b1 B bc args hl' N capN ns hns w hN hB (Wid2 hx hl')
  · have hl : (args.length : Int) = 2 := hla
    have hl' : args.length = 2 := by omega
    exact rfit_10 wd v _ _ _ hw1 hw2 a0 a1 b0 b1 B bc args hl' N capN ns hns w hN hB (Wid2 hx hl')
  · have hl : (args.length : Int) = 2 := hla
    have hl' : args.length = 2 := by omega
    exact rfit_11 wd v _ _ _ hw1 hw2 a0 a1 b0 b1 B bc args hl' N capN ns hns w hN hB (Wid2 hx hl')
  · have hl : (args.length : Int) = 3 := hla
    have hl' : args.length = 3 := by omega
    exact rfit_12 wd v _ _ _ hw1 hw2 a0 a1 b0 b1 B bc args hl' N capN ns hns w hN hB (Wid3 hx hl')
  · have hl : (args.length : Int) = 2 := hla
    have hl' : args.length = 2 := by omega
    exact rfit_13 wd v _ _ _ hw1 hw2 a0 a1 b0 b1 B bc args hl' N capN ns hns w hN hB (Wid2 hx hl')
  · have hl : (args.length : Int) = 1 := hla
    have hl' : args.length = 1 := by omega
    exact rfit_14 wd v _ _ _ hw1 hw2 a0 a1 b0 b1 (hv rfl).1 (hv rfl).2 B bc args hl' N capN ns hns w hN hB (Wid1 hx hl')
  · have hl : (args.length : Int) = 1 := hla
    have hl' : args.length = 1 := by omega
    exact rfit_15 wd v _ _ _ hw1 hw2 a0 a1 b0 b1 B bc args hl' N capN ns hns w hN hB (Wid1 hx hl')
  · have hl : (args.length : Int) = 1 := hla
    have hl' : args.length = 1 := by omega
    exact rfit_16 wd v _ _ _ hw1 hw2 a0 a1 b0 b1 B bc args hl' N capN ns hns w hN hB (Wid1 hx hl')
  · have hl : (args.length : Int) = 2 := hla
    have hl' : args.length = 2 := by omega
    exact rfit_17 wd v _ _ _ hw1 hw2 a0 a1 b0 b1 B bc args hl' N capN ns hns w hN hB (Wid2 hx hl')
  · have hl : (args.length : Int) = 2 := hla
    have hl' : args.length = 2 := by omega
    exact rfit_18 wd v _ _ _ hw1 hw2 a0 a1 b0 b1 B bc args hl' N capN ns hns w hN hB (Wid2 hx hl')

theorem nodeR_10 {ls : List Int} {before : List Nd} {op wd v : Int} {args : List Int} (h1 : isIx op 19 = true) (h2 : isW wd = true) (h3 : ¬ (args.length : Int) = argN op) : nodeE ls before ⟨op, wd, args, v⟩ = 10 := by
  have k : ((args.length : Int) != argN op) = true := by simpa using h3
  have e : node3 ls before ⟨op, wd, args, v⟩ = 10 := by unfold node3; simp only; rw [k]; rfl
  rw [nodeE_3 (n := ⟨op, wd, args, v⟩) h1 h2 (by rw [e]; decide), e]
theorem node3_len {ls : List Int} {before : List Nd} {op wd v : Int} {args : List Int} (h3 : (args.length : Int) = argN op) : node3 ls before ⟨op, wd, args, v⟩ = firstE [argsE args before.length 9, numE ls op wd v] := by
  have k : ((args.length : Int) != argN op) = false := by simpa using h3
  unfold node3; simp only; rw [k]; rfl
theorem nodeR_9 {ls : List Int} {before : List Nd} {op wd v : Int} {args : List Int} (h1 : isIx op 19 = true) (h2 : isW wd = true) (h3 : (args.length : Int) = argN op) {x : Int} (hx : x ∈ args) (h4 : isIx x before.length = false) : nodeE ls before ⟨op, wd, args, v⟩ = 9 := by
  have k : argsE args before.length 9 = 9 := by
    unfold argsE
    rw [if_neg]
    intro h
    have := List.all_eq_true.1 h x hx
    rw [h4] at this; cases this
  have e : node3 ls before ⟨op, wd, args, v⟩ = 9 := by rw [node3_len h3, k]; rfl
  rw [nodeE_3 (n := ⟨op, wd, args, v⟩) h1 h2 (by rw [e]; decide), e]
theorem node3_num {ls : List Int} {before : List Nd} {op wd v : Int} {args : List Int} (h3 : (args.length : Int) = argN op) (h4 : ∀ x ∈ args, isIx x before.length = true) : node3 ls before ⟨op, wd, args, v⟩ = numE ls op wd v := by
  have k : argsE args before.length 9 = 0 := by unfold argsE; rw [if_pos (List.all_eq_true.2 h4)]
  rw [node3_len h3, k, firstE_cons, if_pos rfl, firstE_one]
theorem nodeR_n {ls : List Int} {before : List Nd} {op wd v : Int} {args : List Int} (h1 : isIx op 19 = true) (h2 : isW wd = true) (h3 : (args.length : Int) = argN op) (h4 : ∀ x ∈ args, isIx x before.length = true) {c : Int} (h5 : numE ls op wd v = c) (h6 : ¬ c = 0) : nodeE ls before ⟨op, wd, args, v⟩ = c := by
  have e := node3_num (ls := ls) (before := before) (wd := wd) (v := v) h3 h4
  rw [nodeE_3 (n := ⟨op, wd, args, v⟩) h1 h2 (by rw [e, h5]; exact h6), e, h5]
theorem nodeR_0 {ls : List Int} {before : List Nd} {op wd v : Int} {args : List Int} (h1 : isIx op 19 = true) (h2 : isW wd = true) (h3 : (args.length : Int) = argN op) (h4 : ∀ x ∈ args, isIx x before.length = true) (h5 : numE ls op wd v = 0) : nodeE ls before ⟨op, wd, args, v⟩ = eIf (!fitW op wd v (wAt before args 0) (wAt before args 1) (wAt before args 2)) 25 :=
  nodeE_4 (n := ⟨op, wd, args, v⟩) h1 h2 ((node3_num h3 h4).trans h5)

set_option maxRecDepth 100000 in
set_option maxHeartbeats 1600000 in
theorem nodeErr_15 (A : Option Addr) (cap : Nat) (ls : List Int) (hls : ls.length ≤ 65536) (ad : Addr) (capN : Nat) (ns : List Nd) (hns : ns.length ≤ 65536) (i : Nat) (op wd v : Int) (args : List Int) (hla : args.length ≤ 65536) (hi : ns[i]? = some ⟨op, wd, args, v⟩) (w : World) (hA : LiesI w A ls) (hN : LiesN w (some ad) ns) (h1 : isIx op 19 = false) :
    Calls Tryd.prog 84 #[.slice A ls.length cap, .slice (some ad) ns.length capN, .int .i64 i] w fun e w' => e = .returned (.int .i64 (nodeE ls (ns.take i) ⟨op, wd, args, v⟩)) ∧ ∃ x : Aft w, w' = x.val := by
  obtain ⟨ad', had, hbk, c0, c1, c3, B, bc, c2, hB⟩ := hN.cells hi
  obtain rfl : ad = ad' := Option.some.inj had
  have hil := (List.getElem?_eq_some_iff.1 hi).1
  have hik : (i : Int) < ns.length := by omega
  have c1' : w.cell? ⟨(ad.add (i * 4)).block, (ad.add (i * 4)).off + 1, none⟩ = some (.int .i64 wd) := c1
  have c2' : w.cell? ⟨(ad.add (i * 4)).block, (ad.add (i * 4)).off + 2, none⟩ = some (.slice B args.length bc) := c2
  have c3' : w.cell? ⟨(ad.add (i * 4)).block, (ad.add (i * 4)).off + 3, none⟩ = some (.int .i64 v) := c3
  have hlk : (ns.take i).length = i := by simp; omega
  clear c1 c2 c3 had
  have HR := Lib.hid (nodeE_15 (ls := ls) (before := ns.take i) (n := ⟨op, wd, args, v⟩) h1)
  have HI := Lib.hid (fun w => by have k := Within_c op 0 18 w; rw [show win op 0 18 = false by rw [← h1]; exact (isIx_win op 19).symm] at k; exact k)
  clear hA hN hB h1 hi hlk
  go_enter Tryd.func84, Tryd.ntmps84
  go_wp2_with (first | (go_at_call 31; ((with_reducible refine (HI.out _).mono ?_); rintro e w' ⟨rfl, rfl⟩)))
  go_ret
  exact ⟨retI HR.out.symm, Below.aft (by (repeat' (first | (with_reducible exact Below.refl _ _) | (with_reducible assumption) | (with_reducible refine Below.alloc ?_ ?_ _) | (with_reducible refine Below.drew ?_) | (with_reducible refine Aft.below _ ?_ ?_) | (with_reducible refine Below.setCell_new ?_ ?_ _ _) | (with_reducible exact Nat.le_refl _) | (with_reducible refine Aft.le _ ?_) | (with_reducible refine le_alloc ?_) | (with_reducible refine le_drew ?_) | (with_reducible refine le_setCell ?_) | omega)))⟩

set_option maxRecDepth 100000 in
set_option maxHeartbeats 1600000 in
theorem nodeErr_2 (A : Option Addr) (cap : Nat) (ls : List Int) (hls : ls.length ≤ 65536) (ad : Addr) (capN : Nat) (ns : List Nd) (hns : ns.length ≤ 65536) (i : Nat) (op wd v : Int) (args : List Int) (hla : args.length ≤ 65536) (hi : ns[i]? = some ⟨op, wd, args, v⟩) (w : World) (hA : LiesI w A ls) (hN : LiesN w (some ad) ns) (h1 : isIx op 19 = true) (h2 : isW wd = false) :
    Calls Tryd.prog 84 #[.slice A ls.length cap, .slice (some ad) ns.length capN, .int .i64 i] w fun e w' => e = .returned (.int .i64 (nodeE ls (ns.take i) ⟨op, wd, args, v⟩)) ∧ ∃ x : Aft w, w' = x.val := by
  obtain ⟨ad', had, hbk, c0, c1, c3, B, bc, c2, hB⟩ := hN.cells hi
  obtain rfl : ad = ad' := Option.some.inj had
  have hil := (List.getElem?_eq_some_iff.1 hi).1
  have hik : (i : Int) < ns.length := by omega
  have c1' : w.cell? ⟨(ad.add (i * 4)).block, (ad.add (i * 4)).off + 1, none⟩ = some (.int .i64 wd) := c1
  have c2' : w.cell? ⟨(ad.add (i * 4)).block, (ad.add (i * 4)).off + 2, none⟩ = some (.slice B args.length bc) := c2
  have c3' : w.cell? ⟨(ad.add (i * 4)).block, (ad.add (i * 4)).off + 3, none⟩ = some (.int .i64 v) := c3
  have hlk : (ns.take i).length = i := by simp; omega
  clear c1 c2 c3 had
  have HR := Lib.hid (nodeE_2 (ls := ls) (before := ns.take i) (n := ⟨op, wd, args, v⟩) h1 h2)
  have HI := Lib.hid (fun w => by have k := Within_c op 0 18 w; rw [show win op 0 18 = true by rw [← h1]; exact (isIx_win op 19).symm] at k; exact k)
  have HW := Lib.hid (fun w => by have k := IsWidth_c wd w; rw [h2] at k; exact k)
  clear hA hN hB h1 h2 hi hlk
  go_enter Tryd.func84, Tryd.ntmps84
  go_wp2_with (first | (go_at_call 31; ((with_reducible refine (HI.out _).mono ?_); rintro e w' ⟨rfl, rfl⟩)) | (go_at_call 52; ((with_reducible refine (HW.out _).mono ?_); rintro e w' ⟨rfl, rfl⟩)))
  go_ret
  exact ⟨retI HR.out.symm, Below.aft (by (repeat' (first | (with_reducible exact Below.refl _ _) | (with_reducible assumption) | (with_reducible refine Below.alloc ?_ ?_ _) | (with_reducible refine Below.drew ?_) | (with_reducible refine Aft.below _ ?_ ?_) | (with_reducible refine Below.setCell_new ?_ ?_ _ _) | (with_reducible exact Nat.le_refl _) | (with_reducible refine Aft.le _ ?_) | (with_reducible refine le_alloc ?_) | (with_reducible refine le_drew ?_) | (with_reducible refine le_setCell ?_) | omega)))⟩

set_option maxRecDepth 100000 in
set_option maxHeartbeats 1600000 in
theorem nodeErr_10 (A : Option Addr) (cap : Nat) (ls : List Int) (hls : ls.length ≤ 65536) (ad : Addr) (capN : Nat) (ns : List Nd) (hns : ns.length ≤ 65536) (i : Nat) (op wd v : Int) (args : List Int) (hla : args.length ≤ 65536) (hi : ns[i]? = some ⟨op, wd, args, v⟩) (w : World) (hA : LiesI w A ls) (hN : LiesN w (some ad) ns) (h1 : isIx op 19 = true) (h2 : isW wd = true) (h3 : ¬ (args.length : Int) = argN op) :
    Calls Tryd.prog 84 #[.slice A ls.length cap, .slice (some ad) ns.length capN, .int .i64 i] w fun e w' => e = .returned (.int .i64 (nodeE ls (ns.take i) ⟨op, wd, args, v⟩)) ∧ ∃ x : Aft w, w' = x.val := by
  obtain ⟨ad', had, hbk, c0, c1, c3, B, bc, c2, hB⟩ := hN.cells hi
  obtain rfl : ad = ad' := Option.some.inj had
  have hil := (List.getElem?_eq_some_iff.1 hi).1
  have hik : (i : Int) < ns.length := by omega
  have c1' : w.cell? ⟨(ad.add (i * 4)).block, (ad.add (i * 4)).off + 1, none⟩ = some (.int .i64 wd) := c1
  have c2' : w.cell? ⟨(ad.add (i * 4)).block, (ad.add (i * 4)).off + 2, none⟩ = some (.slice B args.length bc) := c2
  have c3' : w.cell? ⟨(ad.add (i * 4)).block, (ad.add (i * 4)).off + 3, none⟩ = some (.int .i64 v) := c3
  have hlk : (ns.take i).length = i := by simp; omega
  clear c1 c2 c3 had
  have HR := Lib.hid (nodeR_10 (ls := ls) (before := ns.take i) (v := v) h1 h2 h3)
  have HI := Lib.hid (fun w => by have k := Within_c op 0 18 w; rw [show win op 0 18 = true by rw [← h1]; exact (isIx_win op 19).symm] at k; exact k)
  have HW := Lib.hid (fun w => by have k := IsWidth_c wd w; rw [h2] at k; exact k)
  have n3 : ((args.length : Int) == argN op) = false := by simpa using h3
  clear hA hN hB h1 h2 hi hlk h3
  go_enter Tryd.func84, Tryd.ntmps84
  go_wp2_with (first | (go_at_call 31; ((with_reducible refine (HI.out _).mono ?_); rintro e w' ⟨rfl, rfl⟩)) | (go_at_call 52; ((with_reducible refine (HW.out _).mono ?_); rintro e w' ⟨rfl, rfl⟩)))
  have r0 : (w.alloc (.cells #[.int .i64 op, .int .i64 wd, .slice B args.length bc, .int .i64 v] 65)).heap[w.heap.size]? = some (.cells #[.int .i64 op, .int .i64 wd, .slice B args.length bc, .int .i64 v] 65) := heap_alloc_new _ _
  have z0 : w.heap.size < (w.alloc (.cells #[.int .i64 op, .int .i64 wd, .slice B args.length bc, .int .i64 v] 65)).heap.size := by simp
  have hb0 : Below w.heap.size w (w.alloc (.cells #[.int .i64 op, .int .i64 wd, .slice B args.length bc, .int .i64 v] 65)) := (Below.refl _ _).alloc (Nat.le_refl _) _
  generalize (w.alloc (.cells #[.int .i64 op, .int .i64 wd, .slice B args.length bc, .int .i64 v] 65)) = W0 at *
  have q0 := cell_block (i := 0) r0
  have q1 := cell_block (i := 1) r0
  have q2 := cell_block (i := 2) r0
  have q3 := cell_block (i := 3) r0
  simp at q0 q1 q2 q3
  refine wp_region_aft (by kernel_rfl) (by kernel_rfl) ?_
  repeat (go_big_quiet_step ((go_at_call 102; exact Calls.qs (ArgCount_c _ _))))
  refine wpQuiet_nil ?_
  intro y
  go_wp2
  go_ret
  exact ⟨retI HR.out.symm, Below.aft (y.below hb0 hb0.size)⟩

theorem isIx_w {x : Int} {i : Nat} : win x 0 ((i : Int) - 1) = isIx x i := (isIx_win x i).symm

set_option maxRecDepth 100000 in
set_option maxHeartbeats 1600000 in
theorem nodeErr_9 (A : Option Addr) (cap : Nat) (ls : List Int) (hls : ls.length ≤ 65536) (ad : Addr) (capN : Nat) (ns : List Nd) (hns : ns.length ≤ 65536) (i : Nat) (op wd v : Int) (args : List Int) (hla : args.length ≤ 65536) (hi : ns[i]? = some ⟨op, wd, args, v⟩) (w : World) (hA : LiesI w A ls) (hN : LiesN w (some ad) ns) (h1 : isIx op 19 = true) (h2 : isW wd = true) (h3 : (args.length : Int) = argN op) (h4 : ¬ ∀ x ∈ args, isIx x (ns.take i).length = true) :
    Calls Tryd.prog 84 #[.slice A ls.length cap, .slice (some ad) ns.length capN, .int .i64 i] w fun e w' => e = .returned (.int .i64 (nodeE ls (ns.take i) ⟨op, wd, args, v⟩)) ∧ ∃ x : Aft w, w' = x.val := by
  obtain ⟨ad', had, hbk, c0, c1, c3, B, bc, c2, hB⟩ := hN.cells hi
  obtain rfl : ad = ad' := Option.some.inj had
  have hil := (List.getElem?_eq_some_iff.1 hi).1
  have hik : (i : Int) < ns.length := by omega
  have c1' : w.cell? ⟨(ad.add (i * 4)).block, (ad.add (i * 4)).off + 1, none⟩ = some (.int .i64 wd) := c1
  have c2' : w.cell? ⟨(ad.add (i * 4)).block, (ad.add (i * 4)).off + 2, none⟩ = some (.slice B args.length bc) := c2
  have c3' : w.cell? ⟨(ad.add (i * 4)).block, (ad.add (i * 4)).off + 3, none⟩ = some (.int .i64 v) := c3
  have hlk : (ns.take i).length = i := by simp; omega
  clear c1 c2 c3 had
  rw [hlk] at h4
  have HR := Lib.hid (fun x (hx : x ∈ args) (hb : isIx x i = false) => nodeR_9 (ls := ls) (before := ns.take i) (v := v) h1 h2 h3 hx (by rw [hlk]; exact hb))
  have HI := Lib.hid (fun w => by have k := Within_c op 0 18 w; rw [show win op 0 18 = true by rw [← h1]; exact (isIx_win op 19).symm] at k; exact k)
  have HW := Lib.hid (fun w => by have k := IsWidth_c wd w; rw [h2] at k; exact k)
  have HAC := Lib.hid (fun w => by have k := ArgCount_c op w; rw [← h3] at k; exact k)
  have HB := Lib.hid hB
  have H4 := Lib.hid h4
  clear hA hN hB h1 h2 hi hlk h3 h4
  go_enter Tryd.func84, Tryd.ntmps84
  go_wp2_with (first | (go_at_call 31; ((with_reducible refine (HI.out _).mono ?_); rintro e w' ⟨rfl, rfl⟩)) | (go_at_call 52; ((with_reducible refine (HW.out _).mono ?_); rintro e w' ⟨rfl, rfl⟩)))
  have r0 : (w.alloc (.cells #[.int .i64 op, .int .i64 wd, .slice B args.length bc, .int .i64 v] 65)).heap[w.heap.size]? = some (.cells #[.int .i64 op, .int .i64 wd, .slice B args.length bc, .int .i64 v] 65) := heap_alloc_new _ _
  have z0 : w.heap.size < (w.alloc (.cells #[.int .i64 op, .int .i64 wd, .slice B args.length bc, .int .i64 v] 65)).heap.size := by simp
  have hb0 : Below w.heap.size w (w.alloc (.cells #[.int .i64 op, .int .i64 wd, .slice B args.length bc, .int .i64 v] 65)) := (Below.refl _ _).alloc (Nat.le_refl _) _
  generalize (w.alloc (.cells #[.int .i64 op, .int .i64 wd, .slice B args.length bc, .int .i64 v] 65)) = W0 at *
  have q0 := cell_block (i := 0) r0
  have q1 := cell_block (i := 1) r0
  have q2 := cell_block (i := 2) r0
  have q3 := cell_block (i := 3) r0
  simp at q0 q1 q2 q3
  refine wp_region_aft (by kernel_rfl) (by kernel_rfl) ?_
  repeat (go_big_quiet_step ((go_at_call 102; exact Calls.qs (HAC.out _))))
  refine wpQuiet_nil ?_
  intro y
  have R0 := Lib.hid (show y.val.heap[w.heap.size]? = some (.cells #[.int .i64 op, .int .i64 wd, .slice B args.length bc, .int .i64 v] 65) by rw [y.pf.block _ z0]; exact r0)
  have hbw : Below w.heap.size w y.val := y.below hb0 hb0.size
  have zy : w.heap.size < y.val.heap.size := y.lt' z0
  clear r0 q0 q1 q2 q3 hb0 z0
  generalize y.val = W1 at *
  have r0 := R0.out
  have q0 := cell_block (i := 0) r0
  have q1 := cell_block (i := 1) r0
  have q2 := cell_block (i := 2) r0
  have q3 := cell_block (i := 3) r0
  simp at q0 q1 q2 q3
  clear r0
  go_wp2
  go_loop [8] (fun v8 => ∃ j : Nat, j ≤ args.length ∧ v8 = .int .i64 j ∧ (∀ x ∈ args.take j, isIx x i = true)) (fun v8 => args.length - (intOf v8).toNat)
  case atStart => exact ⟨0, by omega, rfl, by simp⟩
  case round =>
    obtain ⟨j, hj, rfl, hall⟩ := hrel
    by_cases hlt : j < args.length
    · have hjj : (j : Int) < args.length := by omega
      have HX := Lib.hid (List.getElem?_eq_getElem hlt)
      have HM := Lib.hid (List.getElem_mem hlt)
      have HT := Lib.hid (List.take_succ_eq_append_getElem hlt)
      generalize args[j] = x at *
      obtain ⟨ab, rfl, hbb, hcx⟩ := (HB.out.below hbw).cell HX.out
      cases hx : isIx x i
      · have HV := Lib.hid (fun w => by have k := Within_c x 0 ((i : Int) - 1) w; rw [isIx_w, hx] at k; exact k)
        have HE := Lib.hid (HR.out x HM.out hx)
        clear hx hall
        go_wp2_with (go_at_call 31; ((with_reducible refine (HV.out _).mono ?_); rintro e w' ⟨rfl, rfl⟩))
        go_ret
        exact ⟨retI HE.out.symm, Below.aft hbw⟩
      · have HV := Lib.hid (fun w => by have k := Within_c x 0 ((i : Int) - 1) w; rw [isIx_w, hx] at k; exact k)
        have HA := Lib.hid hall
        have HX1 := Lib.hid hx
        clear hx hall
        go_wp2_with (go_at_call 31; ((with_reducible refine (HV.out _).mono ?_); rintro e w' ⟨rfl, rfl⟩))
        go_round
        case rel => exact ⟨j + 1, by omega, by go_num, fun z hz => by
          rw [HT.out, List.mem_append] at hz
          rcases hz with hz | hz
          · exact HA.out z hz
          · rw [List.mem_singleton.1 hz]; exact HX1.out⟩
        case measure => simp [intOf]; omega
    · exact absurd (fun z hz => hall z (by rw [List.take_of_length_le (by omega)]; exact hz)) H4.out

end Go.Proofs.YtkdonapgonegkaaDoor
