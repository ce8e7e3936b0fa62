/-
  The law GraphErrors of chapter 2 (graph), over the contract of its examples.
-/
import Derived.Test.YtkdonapgonegkaaDoorGp
set_option linter.unusedSimpArgs false
set_option linter.unusedVariables false
namespace Go.Proofs.YtkdonapgonegkaaDoor
open Go.RowKit Go.BigFrame

theorem NodeAt.below {w W : World} {a : Addr} {n : Nd} (h : NodeAt w a n) (hb : Below w.heap.size w W) (hl : a.block < w.heap.size) : NodeAt W a n := by
  obtain ⟨c0, c1, c3, B, cap, c2, hB, h4⟩ := h
  have k : ∀ q : Addr, q.block = a.block → W.cell? q = w.cell? q := fun q hq => hb.cell (p := q) (by rw [hq]; exact hl)
  exact ⟨(k a rfl).trans c0, (k (a.add 1) (by rw [addB])).trans c1, (k (a.add 3) (by rw [addB])).trans c3, B, cap, (k (a.add 2) (by rw [addB])).trans c2, hB.below hb, h4⟩
theorem LiesG.below {w W : World} {A : Option Addr} {ns : List Nd} (h : LiesG w A ns) (hb : Below w.heap.size w W) : LiesG W A ns := fun hp => by
  obtain ⟨ad, e, hl, hc⟩ := h hp
  exact ⟨ad, e, Nat.lt_of_lt_of_le hl hb.size, fun i n hi => (hc i n hi).below hb (by rw [addB]; exact hl)⟩

set_option maxRecDepth 100000 in
set_option maxHeartbeats 1600000 in
theorem GraphErrors_main (hawake : Hid (∀ w : World, TabOps w → Calls Tryd.prog 8 #[] w fun e w' => e = .returned (.bool true) ∧ ∃ x : Aft w, w' = x.val)) (A : Option Addr) (cap : Nat) (ls : List Int) (N : Option Addr) (capN : Nat) (ns : List Nd) (w : World) (hA : LiesI w A ls) (hA0 : ls.length = 0 → A = none ∧ cap = 0 ∨ ∃ ad, A = some ad) (hN : LiesG w N ns) (ht : TabOps w) :
    Calls Tryd.prog 3 #[.slice A ls.length cap, .slice N ns.length capN] w fun e w' => e = .returned (.bool true) ∧ ∃ x : Aft w, w' = x.val := by
  have HAw := Lib.hid (hawake.out w ht)
  have HFw := Lib.hid (fun (W : World) (hb : Below w.heap.size w W) => few_c A cap ls N capN ns W (hN.n.below hb))
  cases hf : fewB ls ns
  · rw [hf] at HFw
    clear hawake hA hN ht hA0 hf
    go_enter Tryd.func3, Tryd.ntmps3
    go_wp2_with fail
    refine HAw.out.mono ?_
    rintro e w' ⟨rfl, x, rfl⟩
    go_wp2_with fail
    refine (HFw.out _ x.pf).mono ?_
    rintro e w' ⟨rfl, rfl⟩
    go_wp2
    go_ret
    exact ⟨rfl, x, rfl⟩
  · rw [hf] at HFw
    obtain ⟨f1, f2, f3⟩ := fewB_true hf
    have HCI := Lib.hid (fun (W : World) (hb : Below w.heap.size w W) => CopyIntsI_c A cap ls W (hA.below hb) hA0 (by omega))
    have HCN := Lib.hid (fun (W : World) (hb : Below w.heap.size w W) => CopyNodes_c N capN ns (by omega) (fun n hn => by have := f3 n hn; omega) W (hN.below hb))
    have HCK := Lib.hid (fun (W : World) (hb : Below w.heap.size w W) (A' : Option Addr) (cap' : Nat) (N' : Option Addr) (capN' : Nat) (h1 : LiesI W A' ls) (h2 : LiesN W N' ns) (h3 : ns.length ≤ capN') => CheckNodes_c A' cap' ls (by omega) N' capN' ns (by omega) h3 (fun n hn => by have := f3 n hn; omega) W h1 h2 (ht.below hb))
    have HRK := Lib.hid (fun (W : World) (hb : Below w.heap.size w W) => refCheckNodes_c A cap ls (by omega) N capN ns (by omega) (fun n hn => by have := f3 n hn; omega) W (hA.below hb) (hN.n.below hb))
    clear hawake hA hN ht hA0 hf f1 f2 f3
    go_enter Tryd.func3, Tryd.ntmps3
    go_wp2_with fail
    refine HAw.out.mono ?_
    rintro e w' ⟨rfl, x, rfl⟩
    have hb1 := x.pf
    generalize x.val = W1 at *
    go_wp2_with fail
    refine (HFw.out _ hb1).mono ?_
    rintro e w' ⟨rfl, rfl⟩
    go_wp2_with fail
    refine (HCI.out _ hb1).mono ?_
    rintro e W2 ⟨A', cap', rfl, hl2, hb2⟩
    have hbw2 := hb1.trans (hb2.mono hb1.size)
    go_wp2_with fail
    refine (HCN.out _ hbw2).mono ?_
    rintro e W3 ⟨N', capN', rfl, hc3, hl3, hb3⟩
    have hbw3 := hbw2.trans (hb3.mono hbw2.size)
    go_wp2_with fail
    refine (HCK.out _ hbw3 A' cap' N' capN' (hl2.below hb3) hl3 hc3).mono ?_
    rintro e w' ⟨rfl, y, rfl⟩
    have hbw4 := y.below hbw3 hbw3.size
    generalize y.val = W4 at *
    go_wp2_with fail
    refine (HRK.out _ hbw4).mono ?_
    rintro e w' ⟨rfl, z, rfl⟩
    have hbw5 := z.below hbw4 hbw4.size
    go_wp2
    go_ret
    exact ⟨rfl, Below.aft hbw5⟩

end Go.Proofs.YtkdonapgonegkaaDoor
