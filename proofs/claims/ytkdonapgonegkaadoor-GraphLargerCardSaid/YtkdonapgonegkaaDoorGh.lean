/-
  Contracts of chapter 2 (graph): CheckNodes, whole.
-/
import Derived.Test.YtkdonapgonegkaaDoorGg
set_option linter.unusedSimpArgs false
set_option linter.unusedVariables false
namespace Go.Proofs.YtkdonapgonegkaaDoor
open Go.RowKit Go.BigFrame

theorem nodesE_at {ls : List Int} {ns : List Nd} {k : Nat} {n : Nd} (h : ns[k]? = some n) : nodesE ls ns k = nodeE ls (ns.take k) n := by unfold nodesE; rw [h]
theorem nodeE_wd {ls : List Int} {before : List Nd} {n : Nd} (h : nodeE ls before n = 0) : isW n.wd = true := by
  cases h1 : isIx n.op 19
  · rw [nodeE_15 h1] at h; cases h
  · cases h2 : isW n.wd
    · rw [nodeE_2 h1 h2] at h; cases h
    · rfl
theorem take_more {ns : List Nd} {k : Nat} {n : Nd} (h : ns[k]? = some n) (hv : ∀ x ∈ ns.take k, isW x.wd = true) (hn : isW n.wd = true) : ∀ x ∈ ns.take (k + 1), isW x.wd = true := by
  obtain ⟨hk, e⟩ := List.getElem?_eq_some_iff.1 h
  intro x hx
  rw [List.take_succ_eq_append_getElem hk, e, List.mem_append] at hx
  rcases hx with hx | hx
  · exact hv x hx
  · rw [List.mem_singleton.1 hx]; exact hn

set_option maxRecDepth 100000 in
set_option maxHeartbeats 1600000 in
theorem firstWrong_node (P Q : Nat) (A : Option Addr) (cap : Nat) (ls : List Int) (hls : ls.length ≤ 65536) (N : Option Addr) (capN : Nat) (ns : List Nd) (hns : ns.length ≤ 65536) (hcap : ns.length ≤ capN) (hla : ∀ n ∈ ns, n.args.length ≤ 65536) (w : World)
    (c0 : w.cell? ⟨P, 0, none⟩ = some (.slice A ls.length cap)) (c1 : w.cell? ⟨Q, 0, none⟩ = some (.slice N ns.length capN)) (l0 : P < w.heap.size) (l1 : Q < w.heap.size) (hA : LiesI w A ls) (hN : LiesN w N ns) (ht : TabOps w) :
    Calls Tryd.prog 49 #[.slice N ns.length capN, .func (.func 50) #[] #[.pointer (some ⟨P, 0, none⟩), .pointer (some ⟨Q, 0, none⟩)]] w fun e w' => e = .returned (.tuple #[.int .i64 (firstAt (nodesE ls ns) ns.length 0).1, .int .i64 (firstAt (nodesE ls ns) ns.length 0).2]) ∧ ∃ x : Aft w, w' = x.val := by
  have HH := Lib.hid hN
  have HCl := Lib.hid (fun (k : Nat) (hk : k < ns.length) (nd : Nd) (hnd : nd ∈ ns) (B : Option Addr) (bc : Nat) (hv : ∀ n ∈ ns.take k, isW n.wd = true) (W : World) (hb : Below w.heap.size w W) (hB : LiesI W B nd.args) =>
    CheckNodes2_c k P Q A cap ls hls N capN ns hns hk hcap nd (hla nd hnd) B bc W ((hb.cell (p := ⟨P, 0, none⟩) l0).trans c0) ((hb.cell (p := ⟨Q, 0, none⟩) l1).trans c1) (Nat.lt_of_lt_of_le l0 hb.size) (Nat.lt_of_lt_of_le l1 hb.size) (hA.below hb) (hN.below hb) hB (ht.below hb) hv)
  clear hN hA c0 c1 ht hla
  go_enter Tryd.func49, Tryd.ntmps49
  go_wp2
  go_loopw [11] (fun v11 wr => ∃ k : Nat, k ≤ ns.length ∧ v11 = .int .i64 k ∧ firstAt (nodesE ls ns) ns.length 0 = firstAt (nodesE ls ns) (ns.length - k) k ∧ (∀ x ∈ ns.take k, isW x.wd = true) ∧ Below w.heap.size w wr) (fun v11 _ => ns.length - (intOf v11).toNat)
  case atStart => exact ⟨0, by omega, rfl, rfl, by simp, Below.refl _ _⟩
  case round =>
    obtain ⟨k, hk, rfl, hf, hv, hb⟩ := hrel
    have HF := Lib.hid hf
    have HB := Lib.hid hb
    have HV := Lib.hid hv
    clear hf hb hv
    by_cases hlt : k < ns.length
    · have hkk : (k : Int) < ns.length := by omega
      have HX := Lib.hid (List.getElem?_eq_getElem hlt)
      have HM := Lib.hid (List.getElem_mem hlt)
      generalize ns[k] = x at *
      obtain ⟨ad, rfl, hbk, h0, h1, h3, B, bc, h2, hB⟩ := (HH.out.below HB.out).cells HX.out
      have HLi := Lib.hid hB
      have HE := Lib.hid (nodesE_at (ls := ls) HX.out)
      have h1' : wr.cell? ⟨(ad.add (k * 4)).block, (ad.add (k * 4)).off + 1, none⟩ = some (.int .i64 x.wd) := h1
      have h2' : wr.cell? ⟨(ad.add (k * 4)).block, (ad.add (k * 4)).off + 2, none⟩ = some (.slice B x.args.length bc) := h2
      have h3' : wr.cell? ⟨(ad.add (k * 4)).block, (ad.add (k * 4)).off + 3, none⟩ = some (.int .i64 x.v) := h3
      clear hB hbk h1 h2 h3
      go_wp2_with fail
      refine (HCl.out k hlt x HM.out B bc HV.out _ (HB.out.alloc HB.out.size _) (HLi.out.below ((Below.refl _ _).alloc (Nat.le_refl _) _))).mono ?_
      rintro e w' ⟨rfl, y, rfl⟩
      have hby : Below w.heap.size w y.val := y.below (HB.out.alloc HB.out.size _) (HB.out.alloc HB.out.size _).size
      have HY := Lib.hid hby
      clear hby
      by_cases hz : nodeE ls (ns.take k) x = 0
      · have hn := Lib.hid (firstAt_go hlt (HE.out.trans hz))
        have HW := Lib.hid (take_more HX.out HV.out (nodeE_wd hz))
        rw [hz]
        clear hz h0 h1' h2' h3'
        go_wp2
        go_roundw
        case rel => exact ⟨k + 1, by omega, by go_num, HF.out.trans hn.out, HW.out, HY.out⟩
        case measure => simp [intOf]; omega
      · have hn := Lib.hid (firstAt_stop hlt (show ¬ nodesE ls ns k = 0 by rw [HE.out]; exact hz))
        have n1 : (nodeE ls (ns.take k) x == 0) = false := by simpa using hz
        have n2 : (nodeE ls (ns.take k) x != 0) = true := by simpa using hz
        clear hz h0 h1' h2' h3'
        generalize nodeE ls (ns.take k) x = er at *
        go_wp2
        go_ret2
        exact ⟨tupII (by rw [HF.out, hn.out]) (by rw [HF.out, hn.out, HE.out]), Below.aft HY.out⟩
    · have hn := Lib.hid (firstAt_end (f := nodesE ls ns) (n := ns.length) (k := k) (by omega))
      go_wp2
      go_ret2
      exact ⟨tupII (by rw [HF.out, hn.out]) (by rw [HF.out, hn.out]), Below.aft HB.out⟩

set_option maxRecDepth 100000 in
set_option maxHeartbeats 1600000 in
theorem CheckNodes_c (A : Option Addr) (cap : Nat) (ls : List Int) (hls : ls.length ≤ 65536) (N : Option Addr) (capN : Nat) (ns : List Nd) (hns : ns.length ≤ 65536) (hcap : ns.length ≤ capN) (hla : ∀ n ∈ ns, n.args.length ≤ 65536) (w : World) (hA : LiesI w A ls) (hN : LiesN w N ns) (ht : TabOps w) :
    Calls Tryd.prog 10 #[.slice A ls.length cap, .slice N ns.length capN] w fun e w' => e = .returned (.tuple #[.int .i64 (chk ls ns).1, .int .i64 (chk ls ns).2]) ∧ ∃ x : Aft w, w' = x.val := by
  by_cases hA40 : 40 < ls.length
  · have h40 : (40 : Int) < ls.length := by omega
    have HR := Lib.hid (show chk ls ns = (0, 8) from if_pos hA40)
    clear hA hN ht hla hA40
    go_enter Tryd.func10, Tryd.ntmps10
    go_wp2
    go_ret2
    exact ⟨tupII (by rw [HR.out]) (by rw [HR.out]), Below.aft (by (repeat' (first | (with_reducible exact Below.refl _ _) | (with_reducible assumption) | (with_reducible refine Below.alloc ?_ ?_ _) | (with_reducible refine Below.drew ?_) | (with_reducible refine Aft.below _ ?_ ?_) | (with_reducible refine Below.setCell_new ?_ ?_ _ _) | (with_reducible exact Nat.le_refl _) | (with_reducible refine Aft.le _ ?_) | (with_reducible refine le_alloc ?_) | (with_reducible refine le_drew ?_) | (with_reducible refine le_setCell ?_) | omega)))⟩
  have h40 : ¬ (40 : Int) < ls.length := by omega
  have hb0 : Below w.heap.size w ((w.alloc (.cells #[.slice A ls.length cap] 22)).alloc (.cells #[.slice N ns.length capN] 23)) := ((Below.refl _ _).alloc (Nat.le_refl _) _).alloc (by simp) _
  have HL := Lib.hid (firstWrong_leaf (leafE ls) A cap ls hls ((w.alloc (.cells #[.slice A ls.length cap] 22)).alloc (.cells #[.slice N ns.length capN] 23)) (hA.below hb0) (fun k x hx W hb => by
    have e0 : leafE ls k = eIf (!isW x) 2 := by unfold leafE; simp [List.getD, hx]
    rw [e0]
    exact (CheckNodes1_c k x W).mono fun e w' ⟨he, hw⟩ => ⟨he, ⟨W, Below.refl _ _⟩, hw.symm⟩))
  by_cases hE : (firstAt (leafE ls) ls.length 0).2 = 0
  · have HN := Lib.hid (fun (W : World) (hb : Below w.heap.size w W) (l0 : w.heap.size < W.heap.size) (l1 : w.heap.size + 1 < W.heap.size) (c0 : W.cell? ⟨w.heap.size, 0, none⟩ = some (.slice A ls.length cap)) (c1 : W.cell? ⟨w.heap.size + 1, 0, none⟩ = some (.slice N ns.length capN)) =>
      firstWrong_node w.heap.size (w.heap.size + 1) A cap ls hls N capN ns hns hcap hla W c0 c1 l0 l1 (hA.below hb) (hN.below hb) (ht.below hb))
    have hR : chk ls ns = if 400 < ns.length then (0, 8) else firstAt (nodesE ls ns) ns.length 0 := by unfold chk; rw [if_neg hA40, if_pos hE]
    have HE := Lib.hid hE
    have hb0' := Lib.hid hb0
    by_cases h4 : 400 < ns.length
    · have h400 : (400 : Int) < ns.length := by omega
      rw [if_pos h4] at hR
      have HR := Lib.hid hR
      clear hA hN ht hla hA40 hE hb0 hR h4
      go_enter Tryd.func10, Tryd.ntmps10
      go_wp2_with fail
      refine HL.out.mono ?_
      rw [HE.out]
      rintro e W1 ⟨rfl, y, hW⟩
      have r0 : ((w.alloc (.cells #[.slice A ls.length cap] 22)).alloc (.cells #[.slice N ns.length capN] 23)).heap[w.heap.size]? = some (.cells #[.slice A ls.length cap] 22) := heap_alloc' (by simp) (heap_alloc_new _ _)
      have r1 : ((w.alloc (.cells #[.slice A ls.length cap] 22)).alloc (.cells #[.slice N ns.length capN] 23)).heap[w.heap.size + 1]? = some (.cells #[.slice N ns.length capN] 23) := heap_alloc_at (by simp)
      have hb1 : Below w.heap.size w W1 := by rw [hW]; exact y.below hb0'.out hb0'.out.size
      have l0 : w.heap.size < W1.heap.size := by rw [hW]; exact y.lt' (by simp; omega)
      have l1 : w.heap.size + 1 < W1.heap.size := by rw [hW]; exact y.lt' (by simp)
      have c0 : W1.cell? ⟨w.heap.size, 0, none⟩ = some (.slice A ls.length cap) := by rw [hW]; exact cell_aft y (by simp; omega) (cell_block (i := 0) r0)
      have c1 : W1.cell? ⟨w.heap.size + 1, 0, none⟩ = some (.slice N ns.length capN) := by rw [hW]; exact cell_aft y (by simp) (cell_block (i := 0) r1)
      clear hW r0 r1 HL y
      go_wp2
      go_ret2
      exact ⟨tupII (by rw [HR.out]) (by rw [HR.out]), Below.aft hb1⟩
    · have h400 : ¬ (400 : Int) < ns.length := by omega
      rw [if_neg h4] at hR
      have HR := Lib.hid hR
      clear hA hN ht hla hA40 hE hb0 hR h4
      go_enter Tryd.func10, Tryd.ntmps10
      go_wp2_with fail
      refine HL.out.mono ?_
      rw [HE.out]
      rintro e W1 ⟨rfl, y, hW⟩
      have r0 : ((w.alloc (.cells #[.slice A ls.length cap] 22)).alloc (.cells #[.slice N ns.length capN] 23)).heap[w.heap.size]? = some (.cells #[.slice A ls.length cap] 22) := heap_alloc' (by simp) (heap_alloc_new _ _)
      have r1 : ((w.alloc (.cells #[.slice A ls.length cap] 22)).alloc (.cells #[.slice N ns.length capN] 23)).heap[w.heap.size + 1]? = some (.cells #[.slice N ns.length capN] 23) := heap_alloc_at (by simp)
      have hb1 : Below w.heap.size w W1 := by rw [hW]; exact y.below hb0'.out hb0'.out.size
      have l0 : w.heap.size < W1.heap.size := by rw [hW]; exact y.lt' (by simp; omega)
      have l1 : w.heap.size + 1 < W1.heap.size := by rw [hW]; exact y.lt' (by simp)
      have c0 : W1.cell? ⟨w.heap.size, 0, none⟩ = some (.slice A ls.length cap) := by rw [hW]; exact cell_aft y (by simp; omega) (cell_block (i := 0) r0)
      have c1 : W1.cell? ⟨w.heap.size + 1, 0, none⟩ = some (.slice N ns.length capN) := by rw [hW]; exact cell_aft y (by simp) (cell_block (i := 0) r1)
      clear hW r0 r1 HL y
      go_wp2_with fail
      refine (HN.out _ hb1 l0 l1 c0 c1).mono ?_
      rintro e w' ⟨rfl, y, rfl⟩
      go_wp2
      go_ret2
      exact ⟨tupII (by rw [HR.out]) (by rw [HR.out]), Below.aft (y.below hb1 hb1.size)⟩
  · have HR := Lib.hid (show chk ls ns = firstAt (leafE ls) ls.length 0 by unfold chk; rw [if_neg hA40, if_neg hE])
    have n1 : ((firstAt (leafE ls) ls.length 0).2 == 0) = false := by simpa using hE
    have n2 : ((firstAt (leafE ls) ls.length 0).2 != 0) = true := by simpa using hE
    clear hA hN ht hla hA40 hE
    have hb0' := Lib.hid hb0
    clear hb0
    generalize firstAt (leafE ls) ls.length 0 = q at *
    go_enter Tryd.func10, Tryd.ntmps10
    go_wp2_with fail
    refine HL.out.mono ?_
    rintro e w' ⟨rfl, y, rfl⟩
    go_wp2
    go_ret2
    exact ⟨tupII (by rw [HR.out]) (by rw [HR.out]), Below.aft (y.below hb0'.out hb0'.out.size)⟩

end Go.Proofs.YtkdonapgonegkaaDoor
