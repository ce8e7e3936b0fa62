/-
  Contracts of chapter 2 (graph): a graph shared, by the reference.
-/
import Derived.Test.YtkdonapgonegkaaGreatDoorZg
import Derived.Test.YtkdonapgonegkaaGreatDoorZf
import Derived.Test.YtkdonapgonegkaaGreatDoorZe
import Derived.Test.YtkdonapgonegkaaGreatDoorZd
set_option linter.unusedSimpArgs false
set_option linter.unusedVariables false
namespace Go.Proofs.YtkdonapgonegkaaGreatDoor
open Go.RowKit Go.BigFrame

theorem slice_one {w : World} {A : Option Addr} {ns : List Nd} {k : Nat} {n : Nd} (h : LiesN w A ns) (hn : ns[k]? = some n) : ∃ ad, A = some ad ∧ ad.block < w.heap.size ∧ LiesN w (some (ad.add (k * 4))) [n] := by
  obtain ⟨ad, rfl, hb, c0, c1, c3, B, bc, c2, hB⟩ := h.cells hn
  refine ⟨ad, rfl, hb, fun _ => ⟨_, rfl, by rw [addB]; exact hb, fun i m hi => ?_⟩⟩
  have hi0 : i = 0 := by
    have := (List.getElem?_eq_some_iff.1 hi).1
    simp at this; omega
  subst hi0
  simp at hi
  subst hi
  rw [show (ad.add (k * 4)).add (0 * 4) = ad.add (k * 4) from by simp [Addr.add]]
  exact ⟨c0, c1, c3, B, bc, c2, hB⟩
theorem new_one {w : World} {m : Nd} {A : Option Addr} {c : Nat} {q : Nat} (h : w.heap[q]? = some (.cells #[.int .i64 m.op, .int .i64 m.wd, .slice A m.args.length c, .int .i64 m.v] 61)) (hl : LiesI w A m.args) : LiesN w (some ⟨q, 0, none⟩) [m] := fun _ =>
  ⟨_, rfl, lt_of_get h, fun i n hi => by
    have hi0 : i = 0 := by
      have := (List.getElem?_eq_some_iff.1 hi).1
      simp at this; omega
    subst hi0
    simp at hi
    subst hi
    have q0 := cell_block (i := 0) h
    have q1 := cell_block (i := 1) h
    have q2 := cell_block (i := 2) h
    have q3 := cell_block (i := 3) h
    simp at q0 q1 q2 q3
    exact ⟨by simpa [Addr.add] using q0, by simpa [Addr.add] using q1, by simpa [Addr.add] using q3, A, c, by simpa [Addr.add] using q2, hl⟩⟩

theorem yielded_of {ops : Array Oper} {tmps : Array Value} {j : Nat} {o : Oper} {d : Tmp} {b : Bool} (ho : ops[j]? = some o) (hd : o.dst = some d) (he : tmps[d]?.getD undef = .bool b) : yielded ops tmps j = some b := by
  unfold yielded
  rw [ho]
  simp only [Option.bind_some, hd]
  cases ht : tmps[d]? with
  | none => rw [ht] at he; cases he
  | some v => rw [ht] at he; simp only [Option.getD_some] at he; rw [he]
theorem wanted_yes {o : Oper} {y : Nat → Option Bool} {j : Nat} {b : Bool} (hg : o.guard = some (j, b)) (hy : y j = some b) : Region.wanted o y = true := by
  unfold Region.wanted
  rw [hg]
  simp [hy]
theorem wanted_no {o : Oper} {y : Nat → Option Bool} {j : Nat} {b c : Bool} (hg : o.guard = some (j, b)) (hy : y j = some c) (hne : (c == b) = false) : ¬ Region.wanted o y = true := by
  unfold Region.wanted
  rw [hg]
  simp only [hy]
  cases b <;> cases c <;> simp at hne ⊢
/-- What is known while two nodes are held against each other. -/
def CS (V : World) (o : Obj) (b : Bool) (q : Nat) (W : World) : Prop := Below V.heap.size V W ∧ (b = true → W.heap[q]? = some o)

set_option maxRecDepth 100000 in
set_option maxHeartbeats 3200000 in
theorem refShared_c (N : Option Addr) (capN : Nat) (ns : List Nd) (hns : ns.length ≤ 65536) (L : Nat) (hall : ∀ k n, ns[k]? = some n → NodeOK ns L k n) (w : World) (hN : LiesN w N ns) :
    Calls Tryz.prog 14 #[.slice N ns.length capN] w (ConeR w (shN ns) (shP ns)) := by
  obtain ⟨i0, hi, hz0, hz1, hz2⟩ := info_parts int_info
  obtain ⟨ni0, nhi, nhz0, nhz1, nhz2⟩ := info_parts node_info
  have HN := Lib.hid hN
  have HND := Lib.hid hall
  have HSN := Lib.hid (show shN ns = (shK ns ns.length).1 from rfl)
  have HSP := Lib.hid (show shP ns = (shK ns ns.length).2 from rfl)
  clear hN hall
  go_enter Tryz.func14, Tryz.ntmps14
  go_wp2_with (refine wpList_make_full _ rfl _ _ 22 rfl w.heap.size 3 i0 _ 1 Tryz.underlying22 hi hz0 hz1 .i64 .i64 _ _ ns.length rfl rfl rfl rfl (by rw [hz2]; omega) (by unfold maxLen; omega) (Nat.le_refl _) ?_; intro W1 hown hgr; have hb2 := (Below.refl w.heap.size w).grown hgr (Nat.le_refl _) (fun q hq => by cases hq); have rg0 : W1.heap[w.heap.size]? = some (.cells (rowA (List.replicate ns.length 0)) 3) := (by have := row_block hown rfl; rwa [row_made] at this); clear hown hgr)
  have lg0 := lt_of_get rg0
  generalize hg : w.heap.size = g at *
  have hgw : w.heap.size ≤ g := Nat.le_of_eq hg
  have hb0 : Below w.heap.size w W1 := by rw [hg]; exact hb2
  clear hb2 hg
  obtain ⟨Bz, hBz⟩ : ∃ Bz, W1.heap.size = Bz := ⟨_, rfl⟩
  rw [hBz] at lg0
  have hz2' : Bz ≤ W1.heap.size := Nat.le_of_eq hBz.symm
  clear hBz
  go_loopw [4, 6] (fun v4 v6 wr => ∃ (k : Nat) (xs : List Value), k ≤ ns.length ∧ v6 = .int .i64 k ∧ NodesX wr Bz (XOff g g) v4 (shK ns k).1 xs ∧ wr.heap[g]? = some (.cells (rowA (shK ns k).2) 3) ∧ Below w.heap.size w wr ∧ Bz ≤ wr.heap.size) (fun _ v6 _ => ns.length - (intOf v6).toNat)
  case atStart => exact ⟨0, [], by omega, rfl, NodesX.nil _ _ _, rg0, hb0, hz2'⟩
  case round =>
    clear rg0 hb0 hz2'
    obtain ⟨k, xs, hk, rfl, hrow, rg, hb, hz⟩ := hrel
    obtain ⟨A0, c0', hv8, hc0, hlN, _⟩ := hrow.lies
    subst hv8
    have HKL := Lib.hid (shK_len (ns := ns) k)
    by_cases hlt : k < ns.length
    · have hkk : (k : Int) < ns.length := by omega
      have HX := Lib.hid (List.getElem?_eq_getElem hlt)
      generalize ns[k] = x at *
      have HOK := Lib.hid (HND.out k x HX.out)
      obtain ⟨ad, rfl, hbl, c0, c1, c3, B, bc, c2, hB⟩ := HN.out.cells HX.out
      obtain ⟨op, wd, args, v⟩ := x
      have HSO : Hid (plaN (shK ns k).1 ⟨op, wd, pickL (shK ns k).2 args, v⟩ < (shK ns k).1.length → shK ns (k + 1) = ((shK ns k).1, (shK ns k).2.set k (plaN (shK ns k).1 ⟨op, wd, pickL (shK ns k).2 args, v⟩ : Int))) := Lib.hid (fun h => shK_old HX.out h)
      have HSW : Hid (¬ plaN (shK ns k).1 ⟨op, wd, pickL (shK ns k).2 args, v⟩ < (shK ns k).1.length → shK ns (k + 1) = ((shK ns k).1 ++ [⟨op, wd, pickL (shK ns k).2 args, v⟩], (shK ns k).2.set k ((shK ns k).1.length : Int))) := Lib.hid (fun h => shK_new HX.out h)
      have hbk : ∀ p : Addr, p.block = ad.block → wr.cell? p = w.cell? p := fun p hp => hb.cell (p := p) (by rw [hp]; exact hbl)
      have a0 : wr.cell? (ad.add (k * 4)) = some (.int .i64 op) := (hbk (ad.add (k * 4)) (by rw [addB])).trans c0
      have a1 : wr.cell? ⟨(ad.add (k * 4)).block, (ad.add (k * 4)).off + 1, none⟩ = some (.int .i64 wd) := (hbk ((ad.add (k * 4)).add 1) (by rw [addB, addB])).trans c1
      have a2 : wr.cell? ⟨(ad.add (k * 4)).block, (ad.add (k * 4)).off + 2, none⟩ = some (.slice B args.length bc) := (hbk ((ad.add (k * 4)).add 2) (by rw [addB, addB])).trans c2
      have a3 : wr.cell? ⟨(ad.add (k * 4)).block, (ad.add (k * 4)).off + 3, none⟩ = some (.int .i64 v) := (hbk ((ad.add (k * 4)).add 3) (by rw [addB, addB])).trans c3
      clear c0 c1 c2 c3 hbk hlN
      have HBL : Hid (LiesI w B args) := Lib.hid hB
      have hal : args.length ≤ 3 := HOK.out.al
      have HAI : Hid (∀ a ∈ args, 0 ≤ a ∧ a < k) := Lib.hid (fun a ha => by
        obtain ⟨i, hi, rfl⟩ := List.mem_iff_getElem.1 ha
        exact HOK.out.ai i _ (List.getElem?_eq_getElem hi))
      have HAL3 : Hid (∀ c ∈ (shK ns k).1, c.args.length ≤ 3) := Lib.hid (shK_al3 (fun j n hn => (HND.out j n hn).al) k)
      clear hB
      generalize shK ns k = CK at *
      obtain ⟨cs, ps⟩ := CK
      simp only at *
      have hpl : ps.length = ns.length := HKL.out.1
      have HPL := Lib.hid hpl
      have hcl : cs.length ≤ 65536 := by have := HKL.out.2; omega
      have HMV := moved_c op wd v B bc args (by omega) (some ⟨g, 0, none⟩) ns.length ps (fun a ha => by rw [hpl]; obtain ⟨h0, h1⟩ := HAI.out a ha; exact isIx_true h0 (by omega)) (by omega) wr (HBL.out.below hb) (LiesI.block rg)
      rw [hpl] at HMV
      have HMV := Lib.hid HMV
      clear hpl HKL
      have hgl : (pickL ps args).length ≤ 3 := by rw [pickL_len]; exact hal
      generalize pickL ps args = gs at *
      have lg := lt_of_get rg
      go_wp2_with fail
      refine HMV.out.mono ?_
      rintro e V2 ⟨A2, cap2, rfl, _, hl2, hf2, hbv2⟩
      have hrow2 := hrow.below hbv2
      have rg2 := (hbv2.block _ (lt_of_get rg)).trans rg
      have hb2 := hb.trans (hbv2.mono hb.size)
      have hz2 := Nat.le_trans hz hbv2.size
      clear hrow rg hb hz
      have HF2 : Hid (∀ ad, A2 = some ad → XOff g g ad.block ∧ ad.block < V2.heap.size ∧ ∀ cur fz, V2.heap[ad.block]? ≠ some (.cells cur 61 fz)) := Lib.hid (fun ad h => by
        obtain ⟨h1, cur, h2⟩ := hf2 ad h
        refine ⟨XOff.mk (by omega) (by omega), lt_of_get h2, fun c z h3 => ?_⟩
        rw [h2] at h3
        simp at h3)
      clear hf2 a0 a1 a2 a3 hbv2 HMV HAI HBL
      go_upto_region 7 with (fail)
      have hbX := (Below.refl V2.heap.size V2).alloc (Nat.le_refl _) (.cells #[.int .i64 op, .int .i64 wd, .slice A2 gs.length cap2, .int .i64 v] 61)
      have rm : (V2.alloc (.cells #[.int .i64 op, .int .i64 wd, .slice A2 gs.length cap2, .int .i64 v] 61)).heap[V2.heap.size]? = some (.cells #[.int .i64 op, .int .i64 wd, .slice A2 gs.length cap2, .int .i64 v] 61) := heap_alloc_new _ _
      have hmbz : Bz ≤ V2.heap.size := hz2
      have hrow3 := hrow2.below hbX
      have rg3 := (hbX.block _ (lt_of_get rg2)).trans rg2
      have hb3 := hb2.trans (hbX.mono hb2.size)
      have hz3 := Nat.le_trans hz2 hbX.size
      clear hrow2 rg2 hb2 hz2
      have hl3 := hl2.below hbX
      have HF3 : Hid (∀ ad, A2 = some ad → XOff g g ad.block ∧ ad.block < (V2.alloc (.cells #[.int .i64 op, .int .i64 wd, .slice A2 gs.length cap2, .int .i64 v] 61)).heap.size ∧ ∀ cur fz, (V2.alloc (.cells #[.int .i64 op, .int .i64 wd, .slice A2 gs.length cap2, .int .i64 v] 61)).heap[ad.block]? ≠ some (.cells cur 61 fz)) := Lib.hid (fun ad h => by
        obtain ⟨h1, h2, h3⟩ := HF2.out ad h
        exact ⟨h1, Nat.lt_of_lt_of_le h2 hbX.size, by rw [hbX.block _ h2]; exact h3⟩)
      clear hbX hl2 HF2
      generalize V2.alloc (.cells #[.int .i64 op, .int .i64 wd, .slice A2 gs.length cap2, .int .i64 v] 61) = V3 at *
      generalize V2.heap.size = mb at *
      have HROW := Lib.hid hrow3
      have HRM := Lib.hid rm
      have HRG := Lib.hid rg3
      have HLN := Lib.hid (show LiesN V3 A0 cs from by obtain ⟨A', c', h1, _, h2, _⟩ := hrow3.lies; cases h1; exact h2)
      have HL3 := Lib.hid hl3
      have HB3 := Lib.hid hb3
      have HM0 := Lib.hid (fun (W : World) (hbW : Below V3.heap.size V3 W) => (show W.cell? ⟨mb, 0, none⟩ = some (.int .i64 op) ∧ W.cell? ⟨mb, 1, none⟩ = some (.int .i64 wd) ∧ W.cell? ⟨mb, 2, none⟩ = some (.slice A2 gs.length cap2) ∧ W.cell? ⟨mb, 3, none⟩ = some (.int .i64 v) from by
        have rm4 := (hbW.block _ (lt_of_get HRM.out)).trans HRM.out
        have m0 := cell_block (i := 0) rm4
        have m1 := cell_block (i := 1) rm4
        have m2 := cell_block (i := 2) rm4
        have m3 := cell_block (i := 3) rm4
        simp at m0 m1 m2 m3
        exact ⟨m0, m1, m2, m3⟩))
      have HSM := Lib.hid (fun (W : World) (hbW : Below V3.heap.size V3 W) (q j : Nat) (c : Nd) (ad : Addr) (cc : Nat) (hc : cs[j]? = some c) (had : A0 = some ad) (hq : W.heap[q]? = some (.cells #[.int .i64 op, .int .i64 wd, .slice A2 gs.length cap2, .int .i64 v] 61)) => (show Calls Tryz.prog 15 #[.slice (some (ad.add (j * 4))) 1 cc, .slice (some ⟨q, 0, none⟩) 1 1] W fun e w' => e = .returned (.bool (samN c ⟨op, wd, gs, v⟩)) ∧ ∃ z : Aft W, w' = z.val from by
        obtain ⟨ad', h1, h2, h3⟩ := slice_one (HLN.out.below hbW) hc
        rw [had] at h1
        cases h1
        exact SameOne_c _ cc c _ 1 ⟨op, wd, gs, v⟩ (by have := HAL3.out c (List.mem_of_getElem? hc); omega) (by show gs.length ≤ 65536; omega) W h3 (new_one (m := ⟨op, wd, gs, v⟩) hq (HL3.out.below hbW))))
      clear hrow3 rm rg3 hl3 hb3 lg
      by_cases hin : ⟨op, wd, gs, v⟩ ∈ cs
      · have hpn := plaN_lt.2 hin
        have HS := Lib.hid (HSO.out hpn)
        have HPA := Lib.hid (plaN_at hin)
        have HPF := Lib.hid (fun (j : Nat) (h : j < plaN cs ⟨op, wd, gs, v⟩) => plaN_first h)
        clear hin HSO HSW
        generalize plaN cs ⟨op, wd, gs, v⟩ = pl at *
        go_wp2_with fail
        go_loopw [8] (fun v8 w4 => ∃ j : Nat, j ≤ pl ∧ v8 = .int .i64 j ∧ Below V3.heap.size V3 w4) (fun v8 _ => pl - (intOf v8).toNat)
        case atStart => exact ⟨0, by omega, rfl, Below.refl _ _⟩
        case round =>
          obtain ⟨j, hj, rfl, hb4⟩ := hrel
          have hjc : (j : Int) < cs.length := by omega
          have hj0 : (0 : Int) ≤ j := by omega
          obtain ⟨c, hc'⟩ : ∃ c, cs[j]? = some c := ⟨_, List.getElem?_eq_getElem (by omega)⟩
          obtain ⟨ad0, rfl, hblc, _⟩ := HLN.out.cells hc'
          have HCJ := Lib.hid hc'
          clear hc'
          by_cases hjp : j < pl
          · have HSE := Lib.hid (show ∀ W : World, Below V3.heap.size V3 W → ∀ q, W.heap[q]? = some (.cells #[.int .i64 op, .int .i64 wd, .slice A2 gs.length cap2, .int .i64 v] 61) → Calls Tryz.prog 15 #[.slice (some (ad0.add (j * 4))) 1 (c0' - j), .slice (some ⟨q, 0, none⟩) 1 1] W fun e w' => e = .returned (.bool false) ∧ ∃ z : Aft W, w' = z.val from fun W hbW q hq => by
              have := HSM.out W hbW q j c ad0 (c0' - j) HCJ.out rfl hq
              rwa [HPF.out j hjp c HCJ.out] at this)
            go_wp2_with fail
            refine wp_region_fx (fun q : Nat => [(24, .int .i64 (j : Int)), (25, .slice (some ad0) cs.length c0'), (26, .int .i64 (cs.length : Int)), (27, .bool true), (28, .bool true), (29, .slice (some ad0) cs.length c0'), (30, .int .i64 (j : Int)), (31, .int .i64 (j : Int)), (32, .int .i64 ((j : Int) + 1)), (33, .slice (some (ad0.add (j * 4))) 1 (c0' - j)), (34, .agg #[.int .i64 op, .int .i64 wd, .slice A2 gs.length cap2, .int .i64 v]), (35, .slice (some ⟨q, 0, none⟩) 1 1), (36, .bool false), (37, .bool true), (38, .bool true)]) (fun (b : List Bool) (q : Nat) (W : World) => CS V3 (.cells #[.int .i64 op, .int .i64 wd, .slice A2 gs.length cap2, .int .i64 v] 61) (bt b 11) q W) (by kernel_rfl) (by kernel_rfl) ⟨0, hb4.trans (Below.drew (Below.refl _ _)), fun h => by cases h⟩ [24, 25, 26, 27, 28, 29, 30, 31, 32, 33, 34, 35, 36, 37, 38] (fun _ => rfl) (by kernel_rfl) (by decide) ⟨55, rfl, by decide⟩ ?hs ?hq
            case hs =>
              intro iop
              match iop with
              | 0 =>
                intro o ho b q W Zx hC hb hun hall hcl hon hoff hels K hK
                simp only [List.getElem?_cons_succ, List.getElem?_cons_zero, Option.some.injEq] at ho
                subst ho
                have hb : b.length = 15 := hb
                have e0 : Zx.tmps[8]?.getD undef = .int .i64 (j : Int) := ev_tmp ((hels 8 (by decide)).trans rfl)
                have HC := Lib.hid (show (fun (b : List Bool) (q : Nat) (W : World) => CS V3 (.cells #[.int .i64 op, .int .i64 wd, .slice A2 gs.length cap2, .int .i64 v] 61) (bt b 11) q W) (b.set 0 true) q W from (by show CS _ _ _ _ _; rw [bt_ne (i := 0) (by decide)]; exact hC))
                clear hC
                go_simp
                exact hK 24 _ q _ HC.out rfl (fun _ _ => rfl)
              | 1 =>
                intro o ho b q W Zx hC hb hun hall hcl hon hoff hels K hK
                simp only [List.getElem?_cons_succ, List.getElem?_cons_zero, Option.some.injEq] at ho
                subst ho
                have hb : b.length = 15 := hb
                have e0 : Zx.tmps[4]?.getD undef = .slice (some ad0) cs.length c0' := ev_tmp ((hels 4 (by decide)).trans rfl)
                have HC := Lib.hid (show (fun (b : List Bool) (q : Nat) (W : World) => CS V3 (.cells #[.int .i64 op, .int .i64 wd, .slice A2 gs.length cap2, .int .i64 v] 61) (bt b 11) q W) (b.set 1 true) q W from (by show CS _ _ _ _ _; rw [bt_ne (i := 1) (by decide)]; exact hC))
                clear hC
                go_simp
                exact hK 25 _ q _ HC.out rfl (fun _ _ => rfl)
              | 2 =>
                intro o ho b q W Zx hC hb hun hall hcl hon hoff hels K hK
                simp only [List.getElem?_cons_succ, List.getElem?_cons_zero, Option.some.injEq] at ho
                subst ho
                have hb : b.length = 15 := hb
                have e0 : Zx.tmps[25]?.getD undef = .slice (some ad0) cs.length c0' := ev_tmp (hon 1 25 _ (hall ⟨1, .data⟩ (by simp) rfl) rfl)
                have HC := Lib.hid (show (fun (b : List Bool) (q : Nat) (W : World) => CS V3 (.cells #[.int .i64 op, .int .i64 wd, .slice A2 gs.length cap2, .int .i64 v] 61) (bt b 11) q W) (b.set 2 true) q W from (by show CS _ _ _ _ _; rw [bt_ne (i := 2) (by decide)]; exact hC))
                clear hC
                go_simp
                exact hK 26 _ q _ HC.out rfl (fun _ _ => rfl)
              | 3 =>
                intro o ho b q W Zx hC hb hun hall hcl hon hoff hels K hK
                simp only [List.getElem?_cons_succ, List.getElem?_cons_zero, Option.some.injEq] at ho
                subst ho
                have hb : b.length = 15 := hb
                have e0 : Zx.tmps[24]?.getD undef = .int .i64 (j : Int) := ev_tmp (hon 0 24 _ (hall ⟨0, .data⟩ (by simp) rfl) rfl)
                have e1 : Zx.tmps[26]?.getD undef = .int .i64 (cs.length : Int) := ev_tmp (hon 2 26 _ (hall ⟨2, .data⟩ (by simp) rfl) rfl)
                have HC := Lib.hid (show (fun (b : List Bool) (q : Nat) (W : World) => CS V3 (.cells #[.int .i64 op, .int .i64 wd, .slice A2 gs.length cap2, .int .i64 v] 61) (bt b 11) q W) (b.set 3 true) q W from (by show CS _ _ _ _ _; rw [bt_ne (i := 3) (by decide)]; exact hC))
                clear hC
                go_simp
                exact hK 27 _ q _ HC.out rfl (fun _ _ => rfl)
              | 4 =>
                intro o ho b q W Zx hC hb hun hall hcl hon hoff hels K hK
                simp only [List.getElem?_cons_succ, List.getElem?_cons_zero, Option.some.injEq] at ho
                subst ho
                have hb : b.length = 15 := hb
                have e0 : Zx.tmps[27]?.getD undef = .bool true := ev_tmp (hon 3 27 _ (hall ⟨3, .data⟩ (by simp) rfl) rfl)
                have HC := Lib.hid (show (fun (b : List Bool) (q : Nat) (W : World) => CS V3 (.cells #[.int .i64 op, .int .i64 wd, .slice A2 gs.length cap2, .int .i64 v] 61) (bt b 11) q W) (b.set 4 true) q W from (by show CS _ _ _ _ _; rw [bt_ne (i := 4) (by decide)]; exact hC))
                clear hC
                go_simp
                exact hK 28 _ q _ HC.out rfl (fun _ _ => rfl)
              | 5 =>
                intro o ho b q W Zx hC hb hun hall hcl hon hoff hels K hK
                simp only [List.getElem?_cons_succ, List.getElem?_cons_zero, Option.some.injEq] at ho
                subst ho
                have hb : b.length = 15 := hb
                have eg : Zx.tmps[28]?.getD undef = .bool true := ev_tmp (hon 4 28 _ (hall ⟨4, .guard⟩ (by simp) rfl) rfl)
                rw [if_pos (wanted_yes rfl (yielded_of (by rfl) rfl eg))]
                clear eg
                have e0 : Zx.tmps[4]?.getD undef = .slice (some ad0) cs.length c0' := ev_tmp ((hels 4 (by decide)).trans rfl)
                have HC := Lib.hid (show (fun (b : List Bool) (q : Nat) (W : World) => CS V3 (.cells #[.int .i64 op, .int .i64 wd, .slice A2 gs.length cap2, .int .i64 v] 61) (bt b 11) q W) (b.set 5 true) q W from (by show CS _ _ _ _ _; rw [bt_ne (i := 5) (by decide)]; exact hC))
                clear hC
                go_simp
                exact hK 29 _ q _ HC.out rfl (fun _ _ => rfl)
              | 6 =>
                intro o ho b q W Zx hC hb hun hall hcl hon hoff hels K hK
                simp only [List.getElem?_cons_succ, List.getElem?_cons_zero, Option.some.injEq] at ho
                subst ho
                have hb : b.length = 15 := hb
                have eg : Zx.tmps[28]?.getD undef = .bool true := ev_tmp (hon 4 28 _ (hall ⟨4, .guard⟩ (by simp) rfl) rfl)
                rw [if_pos (wanted_yes rfl (yielded_of (by rfl) rfl eg))]
                clear eg
                have e0 : Zx.tmps[8]?.getD undef = .int .i64 (j : Int) := ev_tmp ((hels 8 (by decide)).trans rfl)
                have HC := Lib.hid (show (fun (b : List Bool) (q : Nat) (W : World) => CS V3 (.cells #[.int .i64 op, .int .i64 wd, .slice A2 gs.length cap2, .int .i64 v] 61) (bt b 11) q W) (b.set 6 true) q W from (by show CS _ _ _ _ _; rw [bt_ne (i := 6) (by decide)]; exact hC))
                clear hC
                go_simp
                exact hK 30 _ q _ HC.out rfl (fun _ _ => rfl)
              | 7 =>
                intro o ho b q W Zx hC hb hun hall hcl hon hoff hels K hK
                simp only [List.getElem?_cons_succ, List.getElem?_cons_zero, Option.some.injEq] at ho
                subst ho
                have hb : b.length = 15 := hb
                have eg : Zx.tmps[28]?.getD undef = .bool true := ev_tmp (hon 4 28 _ (hall ⟨4, .guard⟩ (by simp) rfl) rfl)
                rw [if_pos (wanted_yes rfl (yielded_of (by rfl) rfl eg))]
                clear eg
                have e0 : Zx.tmps[8]?.getD undef = .int .i64 (j : Int) := ev_tmp ((hels 8 (by decide)).trans rfl)
                have HC := Lib.hid (show (fun (b : List Bool) (q : Nat) (W : World) => CS V3 (.cells #[.int .i64 op, .int .i64 wd, .slice A2 gs.length cap2, .int .i64 v] 61) (bt b 11) q W) (b.set 7 true) q W from (by show CS _ _ _ _ _; rw [bt_ne (i := 7) (by decide)]; exact hC))
                clear hC
                go_simp
                exact hK 31 _ q _ HC.out rfl (fun _ _ => rfl)
              | 8 =>
                intro o ho b q W Zx hC hb hun hall hcl hon hoff hels K hK
                simp only [List.getElem?_cons_succ, List.getElem?_cons_zero, Option.some.injEq] at ho
                subst ho
                have hb : b.length = 15 := hb
                have eg : Zx.tmps[28]?.getD undef = .bool true := ev_tmp (hon 4 28 _ (hall ⟨4, .guard⟩ (by simp) rfl) rfl)
                rw [if_pos (wanted_yes rfl (yielded_of (by rfl) rfl eg))]
                clear eg
                have e0 : Zx.tmps[31]?.getD undef = .int .i64 (j : Int) := ev_tmp (hon 7 31 _ (hall ⟨7, .data⟩ (by simp) rfl) rfl)
                have hwr : IntKind.i64.wrap ((j : Int) + 1) = (j : Int) + 1 := IntWalk.i64_in _ (by omega)
                have HC := Lib.hid (show (fun (b : List Bool) (q : Nat) (W : World) => CS V3 (.cells #[.int .i64 op, .int .i64 wd, .slice A2 gs.length cap2, .int .i64 v] 61) (bt b 11) q W) (b.set 8 true) q W from (by show CS _ _ _ _ _; rw [bt_ne (i := 8) (by decide)]; exact hC))
                clear hC
                go_simp
                exact hK 32 _ q _ HC.out rfl (fun _ _ => rfl)
              | 9 =>
                intro o ho b q W Zx hC hb hun hall hcl hon hoff hels K hK
                simp only [List.getElem?_cons_succ, List.getElem?_cons_zero, Option.some.injEq] at ho
                subst ho
                have hb : b.length = 15 := hb
                have eg : Zx.tmps[28]?.getD undef = .bool true := ev_tmp (hon 4 28 _ (hall ⟨4, .guard⟩ (by simp) rfl) rfl)
                rw [if_pos (wanted_yes rfl (yielded_of (by rfl) rfl eg))]
                clear eg
                have e0 : Zx.tmps[29]?.getD undef = .slice (some ad0) cs.length c0' := ev_tmp (hon 5 29 _ (hall ⟨5, .data⟩ (by simp) rfl) rfl)
                have e1 : Zx.tmps[30]?.getD undef = .int .i64 (j : Int) := ev_tmp (hon 6 30 _ (hall ⟨6, .data⟩ (by simp) rfl) rfl)
                have e2 : Zx.tmps[32]?.getD undef = .int .i64 ((j : Int) + 1) := ev_tmp (hon 8 32 _ (hall ⟨8, .data⟩ (by simp) rfl) rfl)
                have hs0 : (0 : Int) ≤ (j : Int) + 1 := by omega
                have hs1 : (j : Int) + 1 ≤ (c0' : Int) := by omega
                have hs2 : ¬ c0' = j := by omega
                have HC := Lib.hid (show (fun (b : List Bool) (q : Nat) (W : World) => CS V3 (.cells #[.int .i64 op, .int .i64 wd, .slice A2 gs.length cap2, .int .i64 v] 61) (bt b 11) q W) (b.set 9 true) q W from (by show CS _ _ _ _ _; rw [bt_ne (i := 9) (by decide)]; exact hC))
                clear hC
                go_simp
                exact hK 33 _ q _ HC.out rfl (fun _ _ => rfl)
              | 10 =>
                intro o ho b q W Zx hC hb hun hall hcl hon hoff hels K hK
                simp only [List.getElem?_cons_succ, List.getElem?_cons_zero, Option.some.injEq] at ho
                subst ho
                have hb : b.length = 15 := hb
                have eg : Zx.tmps[28]?.getD undef = .bool true := ev_tmp (hon 4 28 _ (hall ⟨4, .guard⟩ (by simp) rfl) rfl)
                rw [if_pos (wanted_yes rfl (yielded_of (by rfl) rfl eg))]
                clear eg
                have e0 : Zx.tmps[7]?.getD undef = .pointer (some ⟨mb, 0, none⟩) := ev_tmp ((hels 7 (by decide)).trans rfl)
                obtain ⟨m0, m1, m2, m3⟩ := HM0.out W hC.1
                have HC := Lib.hid (show (fun (b : List Bool) (q : Nat) (W : World) => CS V3 (.cells #[.int .i64 op, .int .i64 wd, .slice A2 gs.length cap2, .int .i64 v] 61) (bt b 11) q W) (b.set 10 true) q W from (by show CS _ _ _ _ _; rw [bt_ne (i := 10) (by decide)]; exact hC))
                clear hC
                go_simp
                exact hK 34 _ q _ HC.out rfl (fun _ _ => rfl)
              | 11 =>
                intro o ho b q W Zx hC hb hun hall hcl hon hoff hels K hK
                simp only [List.getElem?_cons_succ, List.getElem?_cons_zero, Option.some.injEq] at ho
                subst ho
                have hb : b.length = 15 := hb
                have eg : Zx.tmps[28]?.getD undef = .bool true := ev_tmp (hon 4 28 _ (hall ⟨4, .guard⟩ (by simp) rfl) rfl)
                rw [if_pos (wanted_yes rfl (yielded_of (by rfl) rfl eg))]
                clear eg
                have e0 : Zx.tmps[34]?.getD undef = .agg #[.int .i64 op, .int .i64 wd, .slice A2 gs.length cap2, .int .i64 v] := ev_tmp (hon 10 34 _ (hall ⟨10, .data⟩ (by simp) rfl) rfl)
                have HC := Lib.hid (show CS V3 (.cells #[.int .i64 op, .int .i64 wd, .slice A2 gs.length cap2, .int .i64 v] 61) (bt (b.set 11 true) 11) W.heap.size (W.alloc (.cells #[.int .i64 op, .int .i64 wd, .slice A2 gs.length cap2, .int .i64 v] 61)) from ⟨hC.1.alloc hC.1.size _, fun _ => heap_alloc_new _ _⟩)
                clear hC
                go_simp
                refine hK 35 _ W.heap.size _ HC.out rfl ?_
                intro k' hk'
                match k', hk' with
                | 0, _ => rfl
                | 1, _ => rfl
                | 2, _ => rfl
                | 3, _ => rfl
                | 4, _ => rfl
                | 5, _ => rfl
                | 6, _ => rfl
                | 7, _ => rfl
                | 8, _ => rfl
                | 9, _ => rfl
                | 10, _ => rfl
                | 11, hk' => rw [hun] at hk'; cases hk'
                | 12, _ => rfl
                | 13, _ => rfl
                | 14, _ => rfl
                | t + 15, hk' => rfl
              | 12 =>
                intro o ho b q W Zx hC hb hun hall hcl hon hoff hels K hK
                simp only [List.getElem?_cons_succ, List.getElem?_cons_zero, Option.some.injEq] at ho
                subst ho
                have hb : b.length = 15 := hb
                have eg : Zx.tmps[28]?.getD undef = .bool true := ev_tmp (hon 4 28 _ (hall ⟨4, .guard⟩ (by simp) rfl) rfl)
                rw [if_pos (wanted_yes rfl (yielded_of (by rfl) rfl eg))]
                clear eg
                have e0 : Zx.tmps[33]?.getD undef = .slice (some (ad0.add (j * 4))) 1 (c0' - j) := ev_tmp (hon 9 33 _ (hall ⟨9, .data⟩ (by simp) rfl) rfl)
                have e1 : Zx.tmps[35]?.getD undef = .slice (some ⟨q, 0, none⟩) 1 1 := ev_tmp (hon 11 35 _ (hall ⟨11, .data⟩ (by simp) rfl) rfl)
                have hq := hC.2 (bt_of (hall ⟨11, .data⟩ (by simp) rfl))
                have hbel := hC.1
                go_simp
                refine (HSE.out W hbel q hq).mono ?_
                rintro e w' ⟨rfl, z, rfl⟩
                have HC := Lib.hid (show CS V3 (.cells #[.int .i64 op, .int .i64 wd, .slice A2 gs.length cap2, .int .i64 v] 61) (bt (b.set 12 true) 11) q z.val from by rw [bt_ne (i := 12) (by decide)]; exact ⟨hbel.trans (z.pf.mono hbel.size), fun _ => heap_aft z (lt_of_get hq) hq⟩)
                clear hC
                exact hK 36 _ q _ HC.out rfl (fun _ _ => rfl)
              | 13 =>
                intro o ho b q W Zx hC hb hun hall hcl hon hoff hels K hK
                simp only [List.getElem?_cons_succ, List.getElem?_cons_zero, Option.some.injEq] at ho
                subst ho
                have hb : b.length = 15 := hb
                have eg : Zx.tmps[28]?.getD undef = .bool true := ev_tmp (hon 4 28 _ (hall ⟨4, .guard⟩ (by simp) rfl) rfl)
                rw [if_pos (wanted_yes rfl (yielded_of (by rfl) rfl eg))]
                clear eg
                have e0 : Zx.tmps[36]?.getD undef = .bool false := ev_tmp (hon 12 36 _ (hall ⟨12, .data⟩ (by simp) rfl) rfl)
                have HC := Lib.hid (show (fun (b : List Bool) (q : Nat) (W : World) => CS V3 (.cells #[.int .i64 op, .int .i64 wd, .slice A2 gs.length cap2, .int .i64 v] 61) (bt b 11) q W) (b.set 13 true) q W from (by show CS _ _ _ _ _; rw [bt_ne (i := 13) (by decide)]; exact hC))
                clear hC
                go_simp
                exact hK 37 _ q _ HC.out rfl (fun _ _ => rfl)
              | 14 =>
                intro o ho b q W Zx hC hb hun hall hcl hon hoff hels K hK
                simp only [List.getElem?_cons_succ, List.getElem?_cons_zero, Option.some.injEq] at ho
                subst ho
                have hb : b.length = 15 := hb
                have e0 : Zx.tmps[28]?.getD undef = .bool true := ev_tmp (hon 4 28 _ (hall ⟨4, .data⟩ (by simp) rfl) rfl)
                have e1 : Zx.tmps[37]?.getD undef = .bool true := ev_tmp (hon 13 37 _ (hall ⟨13, .data⟩ (by simp) rfl) rfl)
                have HC := Lib.hid (show (fun (b : List Bool) (q : Nat) (W : World) => CS V3 (.cells #[.int .i64 op, .int .i64 wd, .slice A2 gs.length cap2, .int .i64 v] 61) (bt b 11) q W) (b.set 14 true) q W from (by show CS _ _ _ _ _; rw [bt_ne (i := 14) (by decide)]; exact hC))
                clear hC
                go_simp
                exact hK 38 _ q _ HC.out rfl (fun _ _ => rfl)
              | t + 15 =>
                intro o ho
                simp at ho
            case hq =>
              intro q W hC
              have hbq := hC.1
              clear hC
              simp only [zp, List.length_cons, List.length_nil, List.replicate, List.zip_cons_cons, List.zip_nil_right, frm, if_true]
              go_simp
              rename World => W5
              go_wp2_with fail
              go_roundw
              case rel => exact ⟨j + 1, by omega, by go_num, hbq⟩
              case measure => simp [intOf]; omega
          · obtain rfl : j = pl := by omega
            rw [HPA.out] at HCJ
            obtain rfl : ⟨op, wd, gs, v⟩ = c := Option.some.inj HCJ.out
            have HCJ := HPA
            have HSE := Lib.hid (show ∀ W : World, Below V3.heap.size V3 W → ∀ q, W.heap[q]? = some (.cells #[.int .i64 op, .int .i64 wd, .slice A2 gs.length cap2, .int .i64 v] 61) → Calls Tryz.prog 15 #[.slice (some (ad0.add (j * 4))) 1 (c0' - j), .slice (some ⟨q, 0, none⟩) 1 1] W fun e w' => e = .returned (.bool true) ∧ ∃ z : Aft W, w' = z.val from fun W hbW q hq => by
              have := HSM.out W hbW q j ⟨op, wd, gs, v⟩ ad0 (c0' - j) HCJ.out rfl hq
              rwa [samN_self] at this)
            have hne : ((j : Int) == cs.length) = false := by
              have : ¬ (j : Int) = cs.length := by omega
              simpa using this
            go_wp2_with fail
            refine wp_region_fx (fun q : Nat => [(24, .int .i64 (j : Int)), (25, .slice (some ad0) cs.length c0'), (26, .int .i64 (cs.length : Int)), (27, .bool true), (28, .bool true), (29, .slice (some ad0) cs.length c0'), (30, .int .i64 (j : Int)), (31, .int .i64 (j : Int)), (32, .int .i64 ((j : Int) + 1)), (33, .slice (some (ad0.add (j * 4))) 1 (c0' - j)), (34, .agg #[.int .i64 op, .int .i64 wd, .slice A2 gs.length cap2, .int .i64 v]), (35, .slice (some ⟨q, 0, none⟩) 1 1), (36, .bool true), (37, .bool false), (38, .bool false)]) (fun (b : List Bool) (q : Nat) (W : World) => CS V3 (.cells #[.int .i64 op, .int .i64 wd, .slice A2 gs.length cap2, .int .i64 v] 61) (bt b 11) q W) (by kernel_rfl) (by kernel_rfl) ⟨0, hb4.trans (Below.drew (Below.refl _ _)), fun h => by cases h⟩ [24, 25, 26, 27, 28, 29, 30, 31, 32, 33, 34, 35, 36, 37, 38] (fun _ => rfl) (by kernel_rfl) (by decide) ⟨55, rfl, by decide⟩ ?hs ?hq
            case hs =>
              intro iop
              match iop with
              | 0 =>
                intro o ho b q W Zx hC hb hun hall hcl hon hoff hels K hK
                simp only [List.getElem?_cons_succ, List.getElem?_cons_zero, Option.some.injEq] at ho
                subst ho
                have hb : b.length = 15 := hb
                have e0 : Zx.tmps[8]?.getD undef = .int .i64 (j : Int) := ev_tmp ((hels 8 (by decide)).trans rfl)
                have HC := Lib.hid (show (fun (b : List Bool) (q : Nat) (W : World) => CS V3 (.cells #[.int .i64 op, .int .i64 wd, .slice A2 gs.length cap2, .int .i64 v] 61) (bt b 11) q W) (b.set 0 true) q W from (by show CS _ _ _ _ _; rw [bt_ne (i := 0) (by decide)]; exact hC))
                clear hC
                go_simp
                exact hK 24 _ q _ HC.out rfl (fun _ _ => rfl)
              | 1 =>
                intro o ho b q W Zx hC hb hun hall hcl hon hoff hels K hK
                simp only [List.getElem?_cons_succ, List.getElem?_cons_zero, Option.some.injEq] at ho
                subst ho
                have hb : b.length = 15 := hb
                have e0 : Zx.tmps[4]?.getD undef = .slice (some ad0) cs.length c0' := ev_tmp ((hels 4 (by decide)).trans rfl)
                have HC := Lib.hid (show (fun (b : List Bool) (q : Nat) (W : World) => CS V3 (.cells #[.int .i64 op, .int .i64 wd, .slice A2 gs.length cap2, .int .i64 v] 61) (bt b 11) q W) (b.set 1 true) q W from (by show CS _ _ _ _ _; rw [bt_ne (i := 1) (by decide)]; exact hC))
                clear hC
                go_simp
                exact hK 25 _ q _ HC.out rfl (fun _ _ => rfl)
              | 2 =>
                intro o ho b q W Zx hC hb hun hall hcl hon hoff hels K hK
                simp only [List.getElem?_cons_succ, List.getElem?_cons_zero, Option.some.injEq] at ho
                subst ho
                have hb : b.length = 15 := hb
                have e0 : Zx.tmps[25]?.getD undef = .slice (some ad0) cs.length c0' := ev_tmp (hon 1 25 _ (hall ⟨1, .data⟩ (by simp) rfl) rfl)
                have HC := Lib.hid (show (fun (b : List Bool) (q : Nat) (W : World) => CS V3 (.cells #[.int .i64 op, .int .i64 wd, .slice A2 gs.length cap2, .int .i64 v] 61) (bt b 11) q W) (b.set 2 true) q W from (by show CS _ _ _ _ _; rw [bt_ne (i := 2) (by decide)]; exact hC))
                clear hC
                go_simp
                exact hK 26 _ q _ HC.out rfl (fun _ _ => rfl)
              | 3 =>
                intro o ho b q W Zx hC hb hun hall hcl hon hoff hels K hK
                simp only [List.getElem?_cons_succ, List.getElem?_cons_zero, Option.some.injEq] at ho
                subst ho
                have hb : b.length = 15 := hb
                have e0 : Zx.tmps[24]?.getD undef = .int .i64 (j : Int) := ev_tmp (hon 0 24 _ (hall ⟨0, .data⟩ (by simp) rfl) rfl)
                have e1 : Zx.tmps[26]?.getD undef = .int .i64 (cs.length : Int) := ev_tmp (hon 2 26 _ (hall ⟨2, .data⟩ (by simp) rfl) rfl)
                have HC := Lib.hid (show (fun (b : List Bool) (q : Nat) (W : World) => CS V3 (.cells #[.int .i64 op, .int .i64 wd, .slice A2 gs.length cap2, .int .i64 v] 61) (bt b 11) q W) (b.set 3 true) q W from (by show CS _ _ _ _ _; rw [bt_ne (i := 3) (by decide)]; exact hC))
                clear hC
                go_simp
                exact hK 27 _ q _ HC.out rfl (fun _ _ => rfl)
              | 4 =>
                intro o ho b q W Zx hC hb hun hall hcl hon hoff hels K hK
                simp only [List.getElem?_cons_succ, List.getElem?_cons_zero, Option.some.injEq] at ho
                subst ho
                have hb : b.length = 15 := hb
                have e0 : Zx.tmps[27]?.getD undef = .bool true := ev_tmp (hon 3 27 _ (hall ⟨3, .data⟩ (by simp) rfl) rfl)
                have HC := Lib.hid (show (fun (b : List Bool) (q : Nat) (W : World) => CS V3 (.cells #[.int .i64 op, .int .i64 wd, .slice A2 gs.length cap2, .int .i64 v] 61) (bt b 11) q W) (b.set 4 true) q W from (by show CS _ _ _ _ _; rw [bt_ne (i := 4) (by decide)]; exact hC))
                clear hC
                go_simp
                exact hK 28 _ q _ HC.out rfl (fun _ _ => rfl)
              | 5 =>
                intro o ho b q W Zx hC hb hun hall hcl hon hoff hels K hK
                simp only [List.getElem?_cons_succ, List.getElem?_cons_zero, Option.some.injEq] at ho
                subst ho
                have hb : b.length = 15 := hb
                have eg : Zx.tmps[28]?.getD undef = .bool true := ev_tmp (hon 4 28 _ (hall ⟨4, .guard⟩ (by simp) rfl) rfl)
                rw [if_pos (wanted_yes rfl (yielded_of (by rfl) rfl eg))]
                clear eg
                have e0 : Zx.tmps[4]?.getD undef = .slice (some ad0) cs.length c0' := ev_tmp ((hels 4 (by decide)).trans rfl)
                have HC := Lib.hid (show (fun (b : List Bool) (q : Nat) (W : World) => CS V3 (.cells #[.int .i64 op, .int .i64 wd, .slice A2 gs.length cap2, .int .i64 v] 61) (bt b 11) q W) (b.set 5 true) q W from (by show CS _ _ _ _ _; rw [bt_ne (i := 5) (by decide)]; exact hC))
                clear hC
                go_simp
                exact hK 29 _ q _ HC.out rfl (fun _ _ => rfl)
              | 6 =>
                intro o ho b q W Zx hC hb hun hall hcl hon hoff hels K hK
                simp only [List.getElem?_cons_succ, List.getElem?_cons_zero, Option.some.injEq] at ho
                subst ho
                have hb : b.length = 15 := hb
                have eg : Zx.tmps[28]?.getD undef = .bool true := ev_tmp (hon 4 28 _ (hall ⟨4, .guard⟩ (by simp) rfl) rfl)
                rw [if_pos (wanted_yes rfl (yielded_of (by rfl) rfl eg))]
                clear eg
                have e0 : Zx.tmps[8]?.getD undef = .int .i64 (j : Int) := ev_tmp ((hels 8 (by decide)).trans rfl)
                have HC := Lib.hid (show (fun (b : List Bool) (q : Nat) (W : World) => CS V3 (.cells #[.int .i64 op, .int .i64 wd, .slice A2 gs.length cap2, .int .i64 v] 61) (bt b 11) q W) (b.set 6 true) q W from (by show CS _ _ _ _ _; rw [bt_ne (i := 6) (by decide)]; exact hC))
                clear hC
                go_simp
                exact hK 30 _ q _ HC.out rfl (fun _ _ => rfl)
              | 7 =>
                intro o ho b q W Zx hC hb hun hall hcl hon hoff hels K hK
                simp only [List.getElem?_cons_succ, List.getElem?_cons_zero, Option.some.injEq] at ho
                subst ho
                have hb : b.length = 15 := hb
                have eg : Zx.tmps[28]?.getD undef = .bool true := ev_tmp (hon 4 28 _ (hall ⟨4, .guard⟩ (by simp) rfl) rfl)
                rw [if_pos (wanted_yes rfl (yielded_of (by rfl) rfl eg))]
                clear eg
                have e0 : Zx.tmps[8]?.getD undef = .int .i64 (j : Int) := ev_tmp ((hels 8 (by decide)).trans rfl)
                have HC := Lib.hid (show (fun (b : List Bool) (q : Nat) (W : World) => CS V3 (.cells #[.int .i64 op, .int .i64 wd, .slice A2 gs.length cap2, .int .i64 v] 61) (bt b 11) q W) (b.set 7 true) q W from (by show CS _ _ _ _ _; rw [bt_ne (i := 7) (by decide)]; exact hC))
                clear hC
                go_simp
                exact hK 31 _ q _ HC.out rfl (fun _ _ => rfl)
              | 8 =>
                intro o ho b q W Zx hC hb hun hall hcl hon hoff hels K hK
                simp only [List.getElem?_cons_succ, List.getElem?_cons_zero, Option.some.injEq] at ho
                subst ho
                have hb : b.length = 15 := hb
                have eg : Zx.tmps[28]?.getD undef = .bool true := ev_tmp (hon 4 28 _ (hall ⟨4, .guard⟩ (by simp) rfl) rfl)
                rw [if_pos (wanted_yes rfl (yielded_of (by rfl) rfl eg))]
                clear eg
                have e0 : Zx.tmps[31]?.getD undef = .int .i64 (j : Int) := ev_tmp (hon 7 31 _ (hall ⟨7, .data⟩ (by simp) rfl) rfl)
                have hwr : IntKind.i64.wrap ((j : Int) + 1) = (j : Int) + 1 := IntWalk.i64_in _ (by omega)
                have HC := Lib.hid (show (fun (b : List Bool) (q : Nat) (W : World) => CS V3 (.cells #[.int .i64 op, .int .i64 wd, .slice A2 gs.length cap2, .int .i64 v] 61) (bt b 11) q W) (b.set 8 true) q W from (by show CS _ _ _ _ _; rw [bt_ne (i := 8) (by decide)]; exact hC))
                clear hC
                go_simp
                exact hK 32 _ q _ HC.out rfl (fun _ _ => rfl)
              | 9 =>
                intro o ho b q W Zx hC hb hun hall hcl hon hoff hels K hK
                simp only [List.getElem?_cons_succ, List.getElem?_cons_zero, Option.some.injEq] at ho
                subst ho
                have hb : b.length = 15 := hb
                have eg : Zx.tmps[28]?.getD undef = .bool true := ev_tmp (hon 4 28 _ (hall ⟨4, .guard⟩ (by simp) rfl) rfl)
                rw [if_pos (wanted_yes rfl (yielded_of (by rfl) rfl eg))]
                clear eg
                have e0 : Zx.tmps[29]?.getD undef = .slice (some ad0) cs.length c0' := ev_tmp (hon 5 29 _ (hall ⟨5, .data⟩ (by simp) rfl) rfl)
                have e1 : Zx.tmps[30]?.getD undef = .int .i64 (j : Int) := ev_tmp (hon 6 30 _ (hall ⟨6, .data⟩ (by simp) rfl) rfl)
                have e2 : Zx.tmps[32]?.getD undef = .int .i64 ((j : Int) + 1) := ev_tmp (hon 8 32 _ (hall ⟨8, .data⟩ (by simp) rfl) rfl)
                have hs0 : (0 : Int) ≤ (j : Int) + 1 := by omega
                have hs1 : (j : Int) + 1 ≤ (c0' : Int) := by omega
                have hs2 : ¬ c0' = j := by omega
                have HC := Lib.hid (show (fun (b : List Bool) (q : Nat) (W : World) => CS V3 (.cells #[.int .i64 op, .int .i64 wd, .slice A2 gs.length cap2, .int .i64 v] 61) (bt b 11) q W) (b.set 9 true) q W from (by show CS _ _ _ _ _; rw [bt_ne (i := 9) (by decide)]; exact hC))
                clear hC
                go_simp
                exact hK 33 _ q _ HC.out rfl (fun _ _ => rfl)
              | 10 =>
                intro o ho b q W Zx hC hb hun hall hcl hon hoff hels K hK
                simp only [List.getElem?_cons_succ, List.getElem?_cons_zero, Option.some.injEq] at ho
                subst ho
                have hb : b.length = 15 := hb
                have eg : Zx.tmps[28]?.getD undef = .bool true := ev_tmp (hon 4 28 _ (hall ⟨4, .guard⟩ (by simp) rfl) rfl)
                rw [if_pos (wanted_yes rfl (yielded_of (by rfl) rfl eg))]
                clear eg
                have e0 : Zx.tmps[7]?.getD undef = .pointer (some ⟨mb, 0, none⟩) := ev_tmp ((hels 7 (by decide)).trans rfl)
                obtain ⟨m0, m1, m2, m3⟩ := HM0.out W hC.1
                have HC := Lib.hid (show (fun (b : List Bool) (q : Nat) (W : World) => CS V3 (.cells #[.int .i64 op, .int .i64 wd, .slice A2 gs.length cap2, .int .i64 v] 61) (bt b 11) q W) (b.set 10 true) q W from (by show CS _ _ _ _ _; rw [bt_ne (i := 10) (by decide)]; exact hC))
                clear hC
                go_simp
                exact hK 34 _ q _ HC.out rfl (fun _ _ => rfl)
              | 11 =>
                intro o ho b q W Zx hC hb hun hall hcl hon hoff hels K hK
                simp only [List.getElem?_cons_succ, List.getElem?_cons_zero, Option.some.injEq] at ho
                subst ho
                have hb : b.length = 15 := hb
                have eg : Zx.tmps[28]?.getD undef = .bool true := ev_tmp (hon 4 28 _ (hall ⟨4, .guard⟩ (by simp) rfl) rfl)
                rw [if_pos (wanted_yes rfl (yielded_of (by rfl) rfl eg))]
                clear eg
                have e0 : Zx.tmps[34]?.getD undef = .agg #[.int .i64 op, .int .i64 wd, .slice A2 gs.length cap2, .int .i64 v] := ev_tmp (hon 10 34 _ (hall ⟨10, .data⟩ (by simp) rfl) rfl)
                have HC := Lib.hid (show CS V3 (.cells #[.int .i64 op, .int .i64 wd, .slice A2 gs.length cap2, .int .i64 v] 61) (bt (b.set 11 true) 11) W.heap.size (W.alloc (.cells #[.int .i64 op, .int .i64 wd, .slice A2 gs.length cap2, .int .i64 v] 61)) from ⟨hC.1.alloc hC.1.size _, fun _ => heap_alloc_new _ _⟩)
                clear hC
                go_simp
                refine hK 35 _ W.heap.size _ HC.out rfl ?_
                intro k' hk'
                match k', hk' with
                | 0, _ => rfl
                | 1, _ => rfl
                | 2, _ => rfl
                | 3, _ => rfl
                | 4, _ => rfl
                | 5, _ => rfl
                | 6, _ => rfl
                | 7, _ => rfl
                | 8, _ => rfl
                | 9, _ => rfl
                | 10, _ => rfl
                | 11, hk' => rw [hun] at hk'; cases hk'
                | 12, _ => rfl
                | 13, _ => rfl
                | 14, _ => rfl
                | t + 15, hk' => rfl
              | 12 =>
                intro o ho b q W Zx hC hb hun hall hcl hon hoff hels K hK
                simp only [List.getElem?_cons_succ, List.getElem?_cons_zero, Option.some.injEq] at ho
                subst ho
                have hb : b.length = 15 := hb
                have eg : Zx.tmps[28]?.getD undef = .bool true := ev_tmp (hon 4 28 _ (hall ⟨4, .guard⟩ (by simp) rfl) rfl)
                rw [if_pos (wanted_yes rfl (yielded_of (by rfl) rfl eg))]
                clear eg
                have e0 : Zx.tmps[33]?.getD undef = .slice (some (ad0.add (j * 4))) 1 (c0' - j) := ev_tmp (hon 9 33 _ (hall ⟨9, .data⟩ (by simp) rfl) rfl)
                have e1 : Zx.tmps[35]?.getD undef = .slice (some ⟨q, 0, none⟩) 1 1 := ev_tmp (hon 11 35 _ (hall ⟨11, .data⟩ (by simp) rfl) rfl)
                have hq := hC.2 (bt_of (hall ⟨11, .data⟩ (by simp) rfl))
                have hbel := hC.1
                go_simp
                refine (HSE.out W hbel q hq).mono ?_
                rintro e w' ⟨rfl, z, rfl⟩
                have HC := Lib.hid (show CS V3 (.cells #[.int .i64 op, .int .i64 wd, .slice A2 gs.length cap2, .int .i64 v] 61) (bt (b.set 12 true) 11) q z.val from by rw [bt_ne (i := 12) (by decide)]; exact ⟨hbel.trans (z.pf.mono hbel.size), fun _ => heap_aft z (lt_of_get hq) hq⟩)
                clear hC
                exact hK 36 _ q _ HC.out rfl (fun _ _ => rfl)
              | 13 =>
                intro o ho b q W Zx hC hb hun hall hcl hon hoff hels K hK
                simp only [List.getElem?_cons_succ, List.getElem?_cons_zero, Option.some.injEq] at ho
                subst ho
                have hb : b.length = 15 := hb
                have eg : Zx.tmps[28]?.getD undef = .bool true := ev_tmp (hon 4 28 _ (hall ⟨4, .guard⟩ (by simp) rfl) rfl)
                rw [if_pos (wanted_yes rfl (yielded_of (by rfl) rfl eg))]
                clear eg
                have e0 : Zx.tmps[36]?.getD undef = .bool true := ev_tmp (hon 12 36 _ (hall ⟨12, .data⟩ (by simp) rfl) rfl)
                have HC := Lib.hid (show (fun (b : List Bool) (q : Nat) (W : World) => CS V3 (.cells #[.int .i64 op, .int .i64 wd, .slice A2 gs.length cap2, .int .i64 v] 61) (bt b 11) q W) (b.set 13 true) q W from (by show CS _ _ _ _ _; rw [bt_ne (i := 13) (by decide)]; exact hC))
                clear hC
                go_simp
                exact hK 37 _ q _ HC.out rfl (fun _ _ => rfl)
              | 14 =>
                intro o ho b q W Zx hC hb hun hall hcl hon hoff hels K hK
                simp only [List.getElem?_cons_succ, List.getElem?_cons_zero, Option.some.injEq] at ho
                subst ho
                have hb : b.length = 15 := hb
                have e0 : Zx.tmps[28]?.getD undef = .bool true := ev_tmp (hon 4 28 _ (hall ⟨4, .data⟩ (by simp) rfl) rfl)
                have e1 : Zx.tmps[37]?.getD undef = .bool false := ev_tmp (hon 13 37 _ (hall ⟨13, .data⟩ (by simp) rfl) rfl)
                have HC := Lib.hid (show (fun (b : List Bool) (q : Nat) (W : World) => CS V3 (.cells #[.int .i64 op, .int .i64 wd, .slice A2 gs.length cap2, .int .i64 v] 61) (bt b 11) q W) (b.set 14 true) q W from (by show CS _ _ _ _ _; rw [bt_ne (i := 14) (by decide)]; exact hC))
                clear hC
                go_simp
                exact hK 38 _ q _ HC.out rfl (fun _ _ => rfl)
              | t + 15 =>
                intro o ho
                simp at ho
            case hq =>
              intro q W hC
              have hbq := hC.1
              clear hC
              simp only [zp, List.length_cons, List.length_nil, List.replicate, List.zip_cons_cons, List.zip_nil_right, frm, if_true]
              go_simp
              rename World => W5
              have hrow5 := HROW.out.below hbq
              have rg5 := (hbq.block _ (lt_of_get HRG.out)).trans HRG.out
              have hb5 := HB3.out.trans (hbq.mono HB3.out.size)
              have hz5 := Nat.le_trans hz3 hbq.size
              clear hbq
              obtain ⟨u, hu⟩ : ∃ u, ps[k]? = some u := ⟨_, List.getElem?_eq_getElem (by rw [HPL.out]; exact hlt)⟩
              have qk := (cell_block (i := k) rg5).trans (rowA_in hu)
              have fk := free_block (i := k) rg5
              have hg5 : ∀ c t, W5.heap[g]? ≠ some (.cells c 61 t) := fun c t h => by rw [rg5] at h; simp at h
              have HFIN : Hid (∃ xs', NodesX (W5.setCell ⟨g, k, none⟩ (.int .i64 (j : Int))) Bz (XOff g g) (.slice (some ad0) cs.length c0') (cs) xs' ∧ (W5.setCell ⟨g, k, none⟩ (.int .i64 (j : Int))).heap[g]? = some (.cells (rowA (ps.set k j)) 3) ∧ Below w.heap.size w (W5.setCell ⟨g, k, none⟩ (.int .i64 (j : Int))) ∧ Bz ≤ (W5.setCell ⟨g, k, none⟩ (.int .i64 (j : Int))).heap.size) := Lib.hid ⟨_, hrow5.setCell (fun q hq => hq.1) hg5, by rw [heap_set rg5, rowA_set], hb5.setCell (p := ⟨g, k, none⟩) hgw _, by simpa using hz5⟩
              clear hu rg5 hrow5 hb5 hz5 hg5
              go_wp2
              go_roundw
              case rel =>
                obtain ⟨xs', h1, h2, h3, h4⟩ := HFIN.out
                exact ⟨k + 1, xs', by omega, by go_num, by rw [HS.out]; exact h1, by rw [HS.out]; exact h2, h3, h4⟩
              case measure => simp [intOf]; omega
      · have hpn := fun h => hin (plaN_lt.1 h)
        have HS := Lib.hid (HSW.out hpn)
        have HNI := Lib.hid (fun (c : Nd) (hc : c ∈ cs) => (show samN c ⟨op, wd, gs, v⟩ = false from by
          cases hs : samN c ⟨op, wd, gs, v⟩ with
          | false => rfl
          | true => exact absurd (by rw [← samN_iff.1 hs]; exact hc) hin))
        clear hin HSO HSW hpn
        go_wp2_with fail
        go_loopw [8] (fun v8 w4 => ∃ j : Nat, j ≤ cs.length ∧ v8 = .int .i64 j ∧ Below V3.heap.size V3 w4) (fun v8 _ => cs.length - (intOf v8).toNat)
        case atStart => exact ⟨0, by omega, rfl, Below.refl _ _⟩
        case round =>
          obtain ⟨j, hj, rfl, hb4⟩ := hrel
          by_cases hjp : j < cs.length
          · have hjc : (j : Int) < cs.length := by omega
            have hj0 : (0 : Int) ≤ j := by omega
            have HCJ := Lib.hid (List.getElem?_eq_getElem hjp)
            generalize cs[j] = c at *
            obtain ⟨ad0, rfl, hblc, _⟩ := HLN.out.cells HCJ.out
            have HSE := Lib.hid (show ∀ W : World, Below V3.heap.size V3 W → ∀ q, W.heap[q]? = some (.cells #[.int .i64 op, .int .i64 wd, .slice A2 gs.length cap2, .int .i64 v] 61) → Calls Tryz.prog 15 #[.slice (some (ad0.add (j * 4))) 1 (c0' - j), .slice (some ⟨q, 0, none⟩) 1 1] W fun e w' => e = .returned (.bool false) ∧ ∃ z : Aft W, w' = z.val from fun W hbW q hq => by
              have := HSM.out W hbW q j c ad0 (c0' - j) HCJ.out rfl hq
              rwa [HNI.out c (List.mem_of_getElem? HCJ.out)] at this)
            go_wp2_with fail
            refine wp_region_fx (fun q : Nat => [(24, .int .i64 (j : Int)), (25, .slice (some ad0) cs.length c0'), (26, .int .i64 (cs.length : Int)), (27, .bool true), (28, .bool true), (29, .slice (some ad0) cs.length c0'), (30, .int .i64 (j : Int)), (31, .int .i64 (j : Int)), (32, .int .i64 ((j : Int) + 1)), (33, .slice (some (ad0.add (j * 4))) 1 (c0' - j)), (34, .agg #[.int .i64 op, .int .i64 wd, .slice A2 gs.length cap2, .int .i64 v]), (35, .slice (some ⟨q, 0, none⟩) 1 1), (36, .bool false), (37, .bool true), (38, .bool true)]) (fun (b : List Bool) (q : Nat) (W : World) => CS V3 (.cells #[.int .i64 op, .int .i64 wd, .slice A2 gs.length cap2, .int .i64 v] 61) (bt b 11) q W) (by kernel_rfl) (by kernel_rfl) ⟨0, hb4.trans (Below.drew (Below.refl _ _)), fun h => by cases h⟩ [24, 25, 26, 27, 28, 29, 30, 31, 32, 33, 34, 35, 36, 37, 38] (fun _ => rfl) (by kernel_rfl) (by decide) ⟨55, rfl, by decide⟩ ?hs ?hq
            case hs =>
              intro iop
              match iop with
              | 0 =>
                intro o ho b q W Zx hC hb hun hall hcl hon hoff hels K hK
                simp only [List.getElem?_cons_succ, List.getElem?_cons_zero, Option.some.injEq] at ho
                subst ho
                have hb : b.length = 15 := hb
                have e0 : Zx.tmps[8]?.getD undef = .int .i64 (j : Int) := ev_tmp ((hels 8 (by decide)).trans rfl)
                have HC := Lib.hid (show (fun (b : List Bool) (q : Nat) (W : World) => CS V3 (.cells #[.int .i64 op, .int .i64 wd, .slice A2 gs.length cap2, .int .i64 v] 61) (bt b 11) q W) (b.set 0 true) q W from (by show CS _ _ _ _ _; rw [bt_ne (i := 0) (by decide)]; exact hC))
                clear hC
                go_simp
                exact hK 24 _ q _ HC.out rfl (fun _ _ => rfl)
              | 1 =>
                intro o ho b q W Zx hC hb hun hall hcl hon hoff hels K hK
                simp only [List.getElem?_cons_succ, List.getElem?_cons_zero, Option.some.injEq] at ho
                subst ho
                have hb : b.length = 15 := hb
                have e0 : Zx.tmps[4]?.getD undef = .slice (some ad0) cs.length c0' := ev_tmp ((hels 4 (by decide)).trans rfl)
                have HC := Lib.hid (show (fun (b : List Bool) (q : Nat) (W : World) => CS V3 (.cells #[.int .i64 op, .int .i64 wd, .slice A2 gs.length cap2, .int .i64 v] 61) (bt b 11) q W) (b.set 1 true) q W from (by show CS _ _ _ _ _; rw [bt_ne (i := 1) (by decide)]; exact hC))
                clear hC
                go_simp
                exact hK 25 _ q _ HC.out rfl (fun _ _ => rfl)
              | 2 =>
                intro o ho b q W Zx hC hb hun hall hcl hon hoff hels K hK
                simp only [List.getElem?_cons_succ, List.getElem?_cons_zero, Option.some.injEq] at ho
                subst ho
                have hb : b.length = 15 := hb
                have e0 : Zx.tmps[25]?.getD undef = .slice (some ad0) cs.length c0' := ev_tmp (hon 1 25 _ (hall ⟨1, .data⟩ (by simp) rfl) rfl)
                have HC := Lib.hid (show (fun (b : List Bool) (q : Nat) (W : World) => CS V3 (.cells #[.int .i64 op, .int .i64 wd, .slice A2 gs.length cap2, .int .i64 v] 61) (bt b 11) q W) (b.set 2 true) q W from (by show CS _ _ _ _ _; rw [bt_ne (i := 2) (by decide)]; exact hC))
                clear hC
                go_simp
                exact hK 26 _ q _ HC.out rfl (fun _ _ => rfl)
              | 3 =>
                intro o ho b q W Zx hC hb hun hall hcl hon hoff hels K hK
                simp only [List.getElem?_cons_succ, List.getElem?_cons_zero, Option.some.injEq] at ho
                subst ho
                have hb : b.length = 15 := hb
                have e0 : Zx.tmps[24]?.getD undef = .int .i64 (j : Int) := ev_tmp (hon 0 24 _ (hall ⟨0, .data⟩ (by simp) rfl) rfl)
                have e1 : Zx.tmps[26]?.getD undef = .int .i64 (cs.length : Int) := ev_tmp (hon 2 26 _ (hall ⟨2, .data⟩ (by simp) rfl) rfl)
                have HC := Lib.hid (show (fun (b : List Bool) (q : Nat) (W : World) => CS V3 (.cells #[.int .i64 op, .int .i64 wd, .slice A2 gs.length cap2, .int .i64 v] 61) (bt b 11) q W) (b.set 3 true) q W from (by show CS _ _ _ _ _; rw [bt_ne (i := 3) (by decide)]; exact hC))
                clear hC
                go_simp
                exact hK 27 _ q _ HC.out rfl (fun _ _ => rfl)
              | 4 =>
                intro o ho b q W Zx hC hb hun hall hcl hon hoff hels K hK
                simp only [List.getElem?_cons_succ, List.getElem?_cons_zero, Option.some.injEq] at ho
                subst ho
                have hb : b.length = 15 := hb
                have e0 : Zx.tmps[27]?.getD undef = .bool true := ev_tmp (hon 3 27 _ (hall ⟨3, .data⟩ (by simp) rfl) rfl)
                have HC := Lib.hid (show (fun (b : List Bool) (q : Nat) (W : World) => CS V3 (.cells #[.int .i64 op, .int .i64 wd, .slice A2 gs.length cap2, .int .i64 v] 61) (bt b 11) q W) (b.set 4 true) q W from (by show CS _ _ _ _ _; rw [bt_ne (i := 4) (by decide)]; exact hC))
                clear hC
                go_simp
                exact hK 28 _ q _ HC.out rfl (fun _ _ => rfl)
              | 5 =>
                intro o ho b q W Zx hC hb hun hall hcl hon hoff hels K hK
                simp only [List.getElem?_cons_succ, List.getElem?_cons_zero, Option.some.injEq] at ho
                subst ho
                have hb : b.length = 15 := hb
                have eg : Zx.tmps[28]?.getD undef = .bool true := ev_tmp (hon 4 28 _ (hall ⟨4, .guard⟩ (by simp) rfl) rfl)
                rw [if_pos (wanted_yes rfl (yielded_of (by rfl) rfl eg))]
                clear eg
                have e0 : Zx.tmps[4]?.getD undef = .slice (some ad0) cs.length c0' := ev_tmp ((hels 4 (by decide)).trans rfl)
                have HC := Lib.hid (show (fun (b : List Bool) (q : Nat) (W : World) => CS V3 (.cells #[.int .i64 op, .int .i64 wd, .slice A2 gs.length cap2, .int .i64 v] 61) (bt b 11) q W) (b.set 5 true) q W from (by show CS _ _ _ _ _; rw [bt_ne (i := 5) (by decide)]; exact hC))
                clear hC
                go_simp
                exact hK 29 _ q _ HC.out rfl (fun _ _ => rfl)
              | 6 =>
                intro o ho b q W Zx hC hb hun hall hcl hon hoff hels K hK
                simp only [List.getElem?_cons_succ, List.getElem?_cons_zero, Option.some.injEq] at ho
                subst ho
                have hb : b.length = 15 := hb
                have eg : Zx.tmps[28]?.getD undef = .bool true := ev_tmp (hon 4 28 _ (hall ⟨4, .guard⟩ (by simp) rfl) rfl)
                rw [if_pos (wanted_yes rfl (yielded_of (by rfl) rfl eg))]
                clear eg
                have e0 : Zx.tmps[8]?.getD undef = .int .i64 (j : Int) := ev_tmp ((hels 8 (by decide)).trans rfl)
                have HC := Lib.hid (show (fun (b : List Bool) (q : Nat) (W : World) => CS V3 (.cells #[.int .i64 op, .int .i64 wd, .slice A2 gs.length cap2, .int .i64 v] 61) (bt b 11) q W) (b.set 6 true) q W from (by show CS _ _ _ _ _; rw [bt_ne (i := 6) (by decide)]; exact hC))
                clear hC
                go_simp
                exact hK 30 _ q _ HC.out rfl (fun _ _ => rfl)
              | 7 =>
                intro o ho b q W Zx hC hb hun hall hcl hon hoff hels K hK
                simp only [List.getElem?_cons_succ, List.getElem?_cons_zero, Option.some.injEq] at ho
                subst ho
                have hb : b.length = 15 := hb
                have eg : Zx.tmps[28]?.getD undef = .bool true := ev_tmp (hon 4 28 _ (hall ⟨4, .guard⟩ (by simp) rfl) rfl)
                rw [if_pos (wanted_yes rfl (yielded_of (by rfl) rfl eg))]
                clear eg
                have e0 : Zx.tmps[8]?.getD undef = .int .i64 (j : Int) := ev_tmp ((hels 8 (by decide)).trans rfl)
                have HC := Lib.hid (show (fun (b : List Bool) (q : Nat) (W : World) => CS V3 (.cells #[.int .i64 op, .int .i64 wd, .slice A2 gs.length cap2, .int .i64 v] 61) (bt b 11) q W) (b.set 7 true) q W from (by show CS _ _ _ _ _; rw [bt_ne (i := 7) (by decide)]; exact hC))
                clear hC
                go_simp
                exact hK 31 _ q _ HC.out rfl (fun _ _ => rfl)
              | 8 =>
                intro o ho b q W Zx hC hb hun hall hcl hon hoff hels K hK
                simp only [List.getElem?_cons_succ, List.getElem?_cons_zero, Option.some.injEq] at ho
                subst ho
                have hb : b.length = 15 := hb
                have eg : Zx.tmps[28]?.getD undef = .bool true := ev_tmp (hon 4 28 _ (hall ⟨4, .guard⟩ (by simp) rfl) rfl)
                rw [if_pos (wanted_yes rfl (yielded_of (by rfl) rfl eg))]
                clear eg
                have e0 : Zx.tmps[31]?.getD undef = .int .i64 (j : Int) := ev_tmp (hon 7 31 _ (hall ⟨7, .data⟩ (by simp) rfl) rfl)
                have hwr : IntKind.i64.wrap ((j : Int) + 1) = (j : Int) + 1 := IntWalk.i64_in _ (by omega)
                have HC := Lib.hid (show (fun (b : List Bool) (q : Nat) (W : World) => CS V3 (.cells #[.int .i64 op, .int .i64 wd, .slice A2 gs.length cap2, .int .i64 v] 61) (bt b 11) q W) (b.set 8 true) q W from (by show CS _ _ _ _ _; rw [bt_ne (i := 8) (by decide)]; exact hC))
                clear hC
                go_simp
                exact hK 32 _ q _ HC.out rfl (fun _ _ => rfl)
              | 9 =>
                intro o ho b q W Zx hC hb hun hall hcl hon hoff hels K hK
                simp only [List.getElem?_cons_succ, List.getElem?_cons_zero, Option.some.injEq] at ho
                subst ho
                have hb : b.length = 15 := hb
                have eg : Zx.tmps[28]?.getD undef = .bool true := ev_tmp (hon 4 28 _ (hall ⟨4, .guard⟩ (by simp) rfl) rfl)
                rw [if_pos (wanted_yes rfl (yielded_of (by rfl) rfl eg))]
                clear eg
                have e0 : Zx.tmps[29]?.getD undef = .slice (some ad0) cs.length c0' := ev_tmp (hon 5 29 _ (hall ⟨5, .data⟩ (by simp) rfl) rfl)
                have e1 : Zx.tmps[30]?.getD undef = .int .i64 (j : Int) := ev_tmp (hon 6 30 _ (hall ⟨6, .data⟩ (by simp) rfl) rfl)
                have e2 : Zx.tmps[32]?.getD undef = .int .i64 ((j : Int) + 1) := ev_tmp (hon 8 32 _ (hall ⟨8, .data⟩ (by simp) rfl) rfl)
                have hs0 : (0 : Int) ≤ (j : Int) + 1 := by omega
                have hs1 : (j : Int) + 1 ≤ (c0' : Int) := by omega
                have hs2 : ¬ c0' = j := by omega
                have HC := Lib.hid (show (fun (b : List Bool) (q : Nat) (W : World) => CS V3 (.cells #[.int .i64 op, .int .i64 wd, .slice A2 gs.length cap2, .int .i64 v] 61) (bt b 11) q W) (b.set 9 true) q W from (by show CS _ _ _ _ _; rw [bt_ne (i := 9) (by decide)]; exact hC))
                clear hC
                go_simp
                exact hK 33 _ q _ HC.out rfl (fun _ _ => rfl)
              | 10 =>
                intro o ho b q W Zx hC hb hun hall hcl hon hoff hels K hK
                simp only [List.getElem?_cons_succ, List.getElem?_cons_zero, Option.some.injEq] at ho
                subst ho
                have hb : b.length = 15 := hb
                have eg : Zx.tmps[28]?.getD undef = .bool true := ev_tmp (hon 4 28 _ (hall ⟨4, .guard⟩ (by simp) rfl) rfl)
                rw [if_pos (wanted_yes rfl (yielded_of (by rfl) rfl eg))]
                clear eg
                have e0 : Zx.tmps[7]?.getD undef = .pointer (some ⟨mb, 0, none⟩) := ev_tmp ((hels 7 (by decide)).trans rfl)
                obtain ⟨m0, m1, m2, m3⟩ := HM0.out W hC.1
                have HC := Lib.hid (show (fun (b : List Bool) (q : Nat) (W : World) => CS V3 (.cells #[.int .i64 op, .int .i64 wd, .slice A2 gs.length cap2, .int .i64 v] 61) (bt b 11) q W) (b.set 10 true) q W from (by show CS _ _ _ _ _; rw [bt_ne (i := 10) (by decide)]; exact hC))
                clear hC
                go_simp
                exact hK 34 _ q _ HC.out rfl (fun _ _ => rfl)
              | 11 =>
                intro o ho b q W Zx hC hb hun hall hcl hon hoff hels K hK
                simp only [List.getElem?_cons_succ, List.getElem?_cons_zero, Option.some.injEq] at ho
                subst ho
                have hb : b.length = 15 := hb
                have eg : Zx.tmps[28]?.getD undef = .bool true := ev_tmp (hon 4 28 _ (hall ⟨4, .guard⟩ (by simp) rfl) rfl)
                rw [if_pos (wanted_yes rfl (yielded_of (by rfl) rfl eg))]
                clear eg
                have e0 : Zx.tmps[34]?.getD undef = .agg #[.int .i64 op, .int .i64 wd, .slice A2 gs.length cap2, .int .i64 v] := ev_tmp (hon 10 34 _ (hall ⟨10, .data⟩ (by simp) rfl) rfl)
                have HC := Lib.hid (show CS V3 (.cells #[.int .i64 op, .int .i64 wd, .slice A2 gs.length cap2, .int .i64 v] 61) (bt (b.set 11 true) 11) W.heap.size (W.alloc (.cells #[.int .i64 op, .int .i64 wd, .slice A2 gs.length cap2, .int .i64 v] 61)) from ⟨hC.1.alloc hC.1.size _, fun _ => heap_alloc_new _ _⟩)
                clear hC
                go_simp
                refine hK 35 _ W.heap.size _ HC.out rfl ?_
                intro k' hk'
                match k', hk' with
                | 0, _ => rfl
                | 1, _ => rfl
                | 2, _ => rfl
                | 3, _ => rfl
                | 4, _ => rfl
                | 5, _ => rfl
                | 6, _ => rfl
                | 7, _ => rfl
                | 8, _ => rfl
                | 9, _ => rfl
                | 10, _ => rfl
                | 11, hk' => rw [hun] at hk'; cases hk'
                | 12, _ => rfl
                | 13, _ => rfl
                | 14, _ => rfl
                | t + 15, hk' => rfl
              | 12 =>
                intro o ho b q W Zx hC hb hun hall hcl hon hoff hels K hK
                simp only [List.getElem?_cons_succ, List.getElem?_cons_zero, Option.some.injEq] at ho
                subst ho
                have hb : b.length = 15 := hb
                have eg : Zx.tmps[28]?.getD undef = .bool true := ev_tmp (hon 4 28 _ (hall ⟨4, .guard⟩ (by simp) rfl) rfl)
                rw [if_pos (wanted_yes rfl (yielded_of (by rfl) rfl eg))]
                clear eg
                have e0 : Zx.tmps[33]?.getD undef = .slice (some (ad0.add (j * 4))) 1 (c0' - j) := ev_tmp (hon 9 33 _ (hall ⟨9, .data⟩ (by simp) rfl) rfl)
                have e1 : Zx.tmps[35]?.getD undef = .slice (some ⟨q, 0, none⟩) 1 1 := ev_tmp (hon 11 35 _ (hall ⟨11, .data⟩ (by simp) rfl) rfl)
                have hq := hC.2 (bt_of (hall ⟨11, .data⟩ (by simp) rfl))
                have hbel := hC.1
                go_simp
                refine (HSE.out W hbel q hq).mono ?_
                rintro e w' ⟨rfl, z, rfl⟩
                have HC := Lib.hid (show CS V3 (.cells #[.int .i64 op, .int .i64 wd, .slice A2 gs.length cap2, .int .i64 v] 61) (bt (b.set 12 true) 11) q z.val from by rw [bt_ne (i := 12) (by decide)]; exact ⟨hbel.trans (z.pf.mono hbel.size), fun _ => heap_aft z (lt_of_get hq) hq⟩)
                clear hC
                exact hK 36 _ q _ HC.out rfl (fun _ _ => rfl)
              | 13 =>
                intro o ho b q W Zx hC hb hun hall hcl hon hoff hels K hK
                simp only [List.getElem?_cons_succ, List.getElem?_cons_zero, Option.some.injEq] at ho
                subst ho
                have hb : b.length = 15 := hb
                have eg : Zx.tmps[28]?.getD undef = .bool true := ev_tmp (hon 4 28 _ (hall ⟨4, .guard⟩ (by simp) rfl) rfl)
                rw [if_pos (wanted_yes rfl (yielded_of (by rfl) rfl eg))]
                clear eg
                have e0 : Zx.tmps[36]?.getD undef = .bool false := ev_tmp (hon 12 36 _ (hall ⟨12, .data⟩ (by simp) rfl) rfl)
                have HC := Lib.hid (show (fun (b : List Bool) (q : Nat) (W : World) => CS V3 (.cells #[.int .i64 op, .int .i64 wd, .slice A2 gs.length cap2, .int .i64 v] 61) (bt b 11) q W) (b.set 13 true) q W from (by show CS _ _ _ _ _; rw [bt_ne (i := 13) (by decide)]; exact hC))
                clear hC
                go_simp
                exact hK 37 _ q _ HC.out rfl (fun _ _ => rfl)
              | 14 =>
                intro o ho b q W Zx hC hb hun hall hcl hon hoff hels K hK
                simp only [List.getElem?_cons_succ, List.getElem?_cons_zero, Option.some.injEq] at ho
                subst ho
                have hb : b.length = 15 := hb
                have e0 : Zx.tmps[28]?.getD undef = .bool true := ev_tmp (hon 4 28 _ (hall ⟨4, .data⟩ (by simp) rfl) rfl)
                have e1 : Zx.tmps[37]?.getD undef = .bool true := ev_tmp (hon 13 37 _ (hall ⟨13, .data⟩ (by simp) rfl) rfl)
                have HC := Lib.hid (show (fun (b : List Bool) (q : Nat) (W : World) => CS V3 (.cells #[.int .i64 op, .int .i64 wd, .slice A2 gs.length cap2, .int .i64 v] 61) (bt b 11) q W) (b.set 14 true) q W from (by show CS _ _ _ _ _; rw [bt_ne (i := 14) (by decide)]; exact hC))
                clear hC
                go_simp
                exact hK 38 _ q _ HC.out rfl (fun _ _ => rfl)
              | t + 15 =>
                intro o ho
                simp at ho
            case hq =>
              intro q W hC
              have hbq := hC.1
              clear hC
              simp only [zp, List.length_cons, List.length_nil, List.replicate, List.zip_cons_cons, List.zip_nil_right, frm, if_true]
              go_simp
              rename World => W5
              go_wp2_with fail
              go_roundw
              case rel => exact ⟨j + 1, by omega, by go_num, hbq⟩
              case measure => simp [intOf]; omega
          · obtain rfl : j = cs.length := by omega
            have hne : ((cs.length : Int) == cs.length) = true := by simp
            clear hjp
            go_wp2_with fail
            refine wp_region_fx (fun q : Nat => [(24, .int .i64 (cs.length : Int)), (25, .slice A0 cs.length c0'), (26, .int .i64 (cs.length : Int)), (27, .bool false), (28, .bool false), (29, undef), (30, undef), (31, undef), (32, undef), (33, undef), (34, undef), (35, undef), (36, undef), (37, undef), (38, .bool false)]) (fun (b : List Bool) (q : Nat) (W : World) => CS V3 (.cells #[.int .i64 op, .int .i64 wd, .slice A2 gs.length cap2, .int .i64 v] 61) false q W) (by kernel_rfl) (by kernel_rfl) ⟨0, hb4.trans (Below.drew (Below.refl _ _)), fun h => by cases h⟩ [24, 25, 26, 27, 28, 29, 30, 31, 32, 33, 34, 35, 36, 37, 38] (fun _ => rfl) (by kernel_rfl) (by decide) ⟨55, rfl, by decide⟩ ?hs ?hq
            case hs =>
              intro iop
              match iop with
              | 0 =>
                intro o ho b q W Zx hC hb hun hall hcl hon hoff hels K hK
                simp only [List.getElem?_cons_succ, List.getElem?_cons_zero, Option.some.injEq] at ho
                subst ho
                have hb : b.length = 15 := hb
                have e0 : Zx.tmps[8]?.getD undef = .int .i64 (cs.length : Int) := ev_tmp ((hels 8 (by decide)).trans rfl)
                have HC := Lib.hid (show (fun (b : List Bool) (q : Nat) (W : World) => CS V3 (.cells #[.int .i64 op, .int .i64 wd, .slice A2 gs.length cap2, .int .i64 v] 61) false q W) (b.set 0 true) q W from (by exact hC))
                clear hC
                go_simp
                exact hK 24 _ q _ HC.out rfl (fun _ _ => rfl)
              | 1 =>
                intro o ho b q W Zx hC hb hun hall hcl hon hoff hels K hK
                simp only [List.getElem?_cons_succ, List.getElem?_cons_zero, Option.some.injEq] at ho
                subst ho
                have hb : b.length = 15 := hb
                have e0 : Zx.tmps[4]?.getD undef = .slice A0 cs.length c0' := ev_tmp ((hels 4 (by decide)).trans rfl)
                have HC := Lib.hid (show (fun (b : List Bool) (q : Nat) (W : World) => CS V3 (.cells #[.int .i64 op, .int .i64 wd, .slice A2 gs.length cap2, .int .i64 v] 61) false q W) (b.set 1 true) q W from (by exact hC))
                clear hC
                go_simp
                exact hK 25 _ q _ HC.out rfl (fun _ _ => rfl)
              | 2 =>
                intro o ho b q W Zx hC hb hun hall hcl hon hoff hels K hK
                simp only [List.getElem?_cons_succ, List.getElem?_cons_zero, Option.some.injEq] at ho
                subst ho
                have hb : b.length = 15 := hb
                have e0 : Zx.tmps[25]?.getD undef = .slice A0 cs.length c0' := ev_tmp (hon 1 25 _ (hall ⟨1, .data⟩ (by simp) rfl) rfl)
                have HC := Lib.hid (show (fun (b : List Bool) (q : Nat) (W : World) => CS V3 (.cells #[.int .i64 op, .int .i64 wd, .slice A2 gs.length cap2, .int .i64 v] 61) false q W) (b.set 2 true) q W from (by exact hC))
                clear hC
                go_simp
                exact hK 26 _ q _ HC.out rfl (fun _ _ => rfl)
              | 3 =>
                intro o ho b q W Zx hC hb hun hall hcl hon hoff hels K hK
                simp only [List.getElem?_cons_succ, List.getElem?_cons_zero, Option.some.injEq] at ho
                subst ho
                have hb : b.length = 15 := hb
                have e0 : Zx.tmps[24]?.getD undef = .int .i64 (cs.length : Int) := ev_tmp (hon 0 24 _ (hall ⟨0, .data⟩ (by simp) rfl) rfl)
                have e1 : Zx.tmps[26]?.getD undef = .int .i64 (cs.length : Int) := ev_tmp (hon 2 26 _ (hall ⟨2, .data⟩ (by simp) rfl) rfl)
                have HC := Lib.hid (show (fun (b : List Bool) (q : Nat) (W : World) => CS V3 (.cells #[.int .i64 op, .int .i64 wd, .slice A2 gs.length cap2, .int .i64 v] 61) false q W) (b.set 3 true) q W from (by exact hC))
                clear hC
                go_simp
                exact hK 27 _ q _ HC.out rfl (fun _ _ => rfl)
              | 4 =>
                intro o ho b q W Zx hC hb hun hall hcl hon hoff hels K hK
                simp only [List.getElem?_cons_succ, List.getElem?_cons_zero, Option.some.injEq] at ho
                subst ho
                have hb : b.length = 15 := hb
                have e0 : Zx.tmps[27]?.getD undef = .bool false := ev_tmp (hon 3 27 _ (hall ⟨3, .data⟩ (by simp) rfl) rfl)
                have HC := Lib.hid (show (fun (b : List Bool) (q : Nat) (W : World) => CS V3 (.cells #[.int .i64 op, .int .i64 wd, .slice A2 gs.length cap2, .int .i64 v] 61) false q W) (b.set 4 true) q W from (by exact hC))
                clear hC
                go_simp
                exact hK 28 _ q _ HC.out rfl (fun _ _ => rfl)
              | 5 =>
                intro o ho b q W Zx hC hb hun hall hcl hon hoff hels K hK
                simp only [List.getElem?_cons_succ, List.getElem?_cons_zero, Option.some.injEq] at ho
                subst ho
                have hb : b.length = 15 := hb
                have eg : Zx.tmps[28]?.getD undef = .bool false := ev_tmp (hon 4 28 _ (hall ⟨4, .guard⟩ (by simp) rfl) rfl)
                rw [if_neg (wanted_no rfl (yielded_of (by rfl) rfl eg) rfl)]
                clear eg
                have HC := Lib.hid (show (fun (b : List Bool) (q : Nat) (W : World) => CS V3 (.cells #[.int .i64 op, .int .i64 wd, .slice A2 gs.length cap2, .int .i64 v] 61) false q W) (b.set 5 true) q W from (by exact hC))
                clear hC
                exact hK 29 _ q _ HC.out rfl (fun _ _ => rfl)
              | 6 =>
                intro o ho b q W Zx hC hb hun hall hcl hon hoff hels K hK
                simp only [List.getElem?_cons_succ, List.getElem?_cons_zero, Option.some.injEq] at ho
                subst ho
                have hb : b.length = 15 := hb
                have eg : Zx.tmps[28]?.getD undef = .bool false := ev_tmp (hon 4 28 _ (hall ⟨4, .guard⟩ (by simp) rfl) rfl)
                rw [if_neg (wanted_no rfl (yielded_of (by rfl) rfl eg) rfl)]
                clear eg
                have HC := Lib.hid (show (fun (b : List Bool) (q : Nat) (W : World) => CS V3 (.cells #[.int .i64 op, .int .i64 wd, .slice A2 gs.length cap2, .int .i64 v] 61) false q W) (b.set 6 true) q W from (by exact hC))
                clear hC
                exact hK 30 _ q _ HC.out rfl (fun _ _ => rfl)
              | 7 =>
                intro o ho b q W Zx hC hb hun hall hcl hon hoff hels K hK
                simp only [List.getElem?_cons_succ, List.getElem?_cons_zero, Option.some.injEq] at ho
                subst ho
                have hb : b.length = 15 := hb
                have eg : Zx.tmps[28]?.getD undef = .bool false := ev_tmp (hon 4 28 _ (hall ⟨4, .guard⟩ (by simp) rfl) rfl)
                rw [if_neg (wanted_no rfl (yielded_of (by rfl) rfl eg) rfl)]
                clear eg
                have HC := Lib.hid (show (fun (b : List Bool) (q : Nat) (W : World) => CS V3 (.cells #[.int .i64 op, .int .i64 wd, .slice A2 gs.length cap2, .int .i64 v] 61) false q W) (b.set 7 true) q W from (by exact hC))
                clear hC
                exact hK 31 _ q _ HC.out rfl (fun _ _ => rfl)
              | 8 =>
                intro o ho b q W Zx hC hb hun hall hcl hon hoff hels K hK
                simp only [List.getElem?_cons_succ, List.getElem?_cons_zero, Option.some.injEq] at ho
                subst ho
                have hb : b.length = 15 := hb
                have eg : Zx.tmps[28]?.getD undef = .bool false := ev_tmp (hon 4 28 _ (hall ⟨4, .guard⟩ (by simp) rfl) rfl)
                rw [if_neg (wanted_no rfl (yielded_of (by rfl) rfl eg) rfl)]
                clear eg
                have HC := Lib.hid (show (fun (b : List Bool) (q : Nat) (W : World) => CS V3 (.cells #[.int .i64 op, .int .i64 wd, .slice A2 gs.length cap2, .int .i64 v] 61) false q W) (b.set 8 true) q W from (by exact hC))
                clear hC
                exact hK 32 _ q _ HC.out rfl (fun _ _ => rfl)
              | 9 =>
                intro o ho b q W Zx hC hb hun hall hcl hon hoff hels K hK
                simp only [List.getElem?_cons_succ, List.getElem?_cons_zero, Option.some.injEq] at ho
                subst ho
                have hb : b.length = 15 := hb
                have eg : Zx.tmps[28]?.getD undef = .bool false := ev_tmp (hon 4 28 _ (hall ⟨4, .guard⟩ (by simp) rfl) rfl)
                rw [if_neg (wanted_no rfl (yielded_of (by rfl) rfl eg) rfl)]
                clear eg
                have HC := Lib.hid (show (fun (b : List Bool) (q : Nat) (W : World) => CS V3 (.cells #[.int .i64 op, .int .i64 wd, .slice A2 gs.length cap2, .int .i64 v] 61) false q W) (b.set 9 true) q W from (by exact hC))
                clear hC
                exact hK 33 _ q _ HC.out rfl (fun _ _ => rfl)
              | 10 =>
                intro o ho b q W Zx hC hb hun hall hcl hon hoff hels K hK
                simp only [List.getElem?_cons_succ, List.getElem?_cons_zero, Option.some.injEq] at ho
                subst ho
                have hb : b.length = 15 := hb
                have eg : Zx.tmps[28]?.getD undef = .bool false := ev_tmp (hon 4 28 _ (hall ⟨4, .guard⟩ (by simp) rfl) rfl)
                rw [if_neg (wanted_no rfl (yielded_of (by rfl) rfl eg) rfl)]
                clear eg
                have HC := Lib.hid (show (fun (b : List Bool) (q : Nat) (W : World) => CS V3 (.cells #[.int .i64 op, .int .i64 wd, .slice A2 gs.length cap2, .int .i64 v] 61) false q W) (b.set 10 true) q W from (by exact hC))
                clear hC
                exact hK 34 _ q _ HC.out rfl (fun _ _ => rfl)
              | 11 =>
                intro o ho b q W Zx hC hb hun hall hcl hon hoff hels K hK
                simp only [List.getElem?_cons_succ, List.getElem?_cons_zero, Option.some.injEq] at ho
                subst ho
                have hb : b.length = 15 := hb
                have eg : Zx.tmps[28]?.getD undef = .bool false := ev_tmp (hon 4 28 _ (hall ⟨4, .guard⟩ (by simp) rfl) rfl)
                rw [if_neg (wanted_no rfl (yielded_of (by rfl) rfl eg) rfl)]
                clear eg
                have HC := Lib.hid (show (fun (b : List Bool) (q : Nat) (W : World) => CS V3 (.cells #[.int .i64 op, .int .i64 wd, .slice A2 gs.length cap2, .int .i64 v] 61) false q W) (b.set 11 true) q W from (by exact hC))
                clear hC
                exact hK 35 _ q _ HC.out rfl (fun _ _ => rfl)
              | 12 =>
                intro o ho b q W Zx hC hb hun hall hcl hon hoff hels K hK
                simp only [List.getElem?_cons_succ, List.getElem?_cons_zero, Option.some.injEq] at ho
                subst ho
                have hb : b.length = 15 := hb
                have eg : Zx.tmps[28]?.getD undef = .bool false := ev_tmp (hon 4 28 _ (hall ⟨4, .guard⟩ (by simp) rfl) rfl)
                rw [if_neg (wanted_no rfl (yielded_of (by rfl) rfl eg) rfl)]
                clear eg
                have HC := Lib.hid (show (fun (b : List Bool) (q : Nat) (W : World) => CS V3 (.cells #[.int .i64 op, .int .i64 wd, .slice A2 gs.length cap2, .int .i64 v] 61) false q W) (b.set 12 true) q W from (by exact hC))
                clear hC
                exact hK 36 _ q _ HC.out rfl (fun _ _ => rfl)
              | 13 =>
                intro o ho b q W Zx hC hb hun hall hcl hon hoff hels K hK
                simp only [List.getElem?_cons_succ, List.getElem?_cons_zero, Option.some.injEq] at ho
                subst ho
                have hb : b.length = 15 := hb
                have eg : Zx.tmps[28]?.getD undef = .bool false := ev_tmp (hon 4 28 _ (hall ⟨4, .guard⟩ (by simp) rfl) rfl)
                rw [if_neg (wanted_no rfl (yielded_of (by rfl) rfl eg) rfl)]
                clear eg
                have HC := Lib.hid (show (fun (b : List Bool) (q : Nat) (W : World) => CS V3 (.cells #[.int .i64 op, .int .i64 wd, .slice A2 gs.length cap2, .int .i64 v] 61) false q W) (b.set 13 true) q W from (by exact hC))
                clear hC
                exact hK 37 _ q _ HC.out rfl (fun _ _ => rfl)
              | 14 =>
                intro o ho b q W Zx hC hb hun hall hcl hon hoff hels K hK
                simp only [List.getElem?_cons_succ, List.getElem?_cons_zero, Option.some.injEq] at ho
                subst ho
                have hb : b.length = 15 := hb
                have e0 : Zx.tmps[28]?.getD undef = .bool false := ev_tmp (hon 4 28 _ (hall ⟨4, .data⟩ (by simp) rfl) rfl)
                have e1 : Zx.tmps[37]?.getD undef = undef := ev_tmp (hon 13 37 _ (hall ⟨13, .data⟩ (by simp) rfl) rfl)
                have HC := Lib.hid (show (fun (b : List Bool) (q : Nat) (W : World) => CS V3 (.cells #[.int .i64 op, .int .i64 wd, .slice A2 gs.length cap2, .int .i64 v] 61) false q W) (b.set 14 true) q W from (by exact hC))
                clear hC
                go_simp
                exact hK 38 _ q _ HC.out rfl (fun _ _ => rfl)
              | t + 15 =>
                intro o ho
                simp at ho
            case hq =>
              intro q W hC
              have hbq := hC.1
              clear hC
              simp only [zp, List.length_cons, List.length_nil, List.replicate, List.zip_cons_cons, List.zip_nil_right, frm, if_true]
              go_simp
              rename World => W5
              have hrow5 := HROW.out.below hbq
              have rg5 := (hbq.block _ (lt_of_get HRG.out)).trans HRG.out
              have hb5 := HB3.out.trans (hbq.mono HB3.out.size)
              have hz5 := Nat.le_trans hz3 hbq.size
              have rm5 := (hbq.block _ (lt_of_get HRM.out)).trans HRM.out
              obtain ⟨m0, m1, m2, m3⟩ := HM0.out W5 hbq
              have hl5 := HL3.out.below hbq
              have HF5 : Hid (∀ ad, A2 = some ad → XOff g g ad.block ∧ ad.block < W5.heap.size ∧ ∀ cur fz, W5.heap[ad.block]? ≠ some (.cells cur 61 fz)) := Lib.hid (fun ad h => (by
                obtain ⟨h1, h2, h3⟩ := HF3.out ad h
                exact ⟨h1, Nat.lt_of_lt_of_le h2 hbq.size, by rw [hbq.block _ h2]; exact h3⟩))
              have HL5 := Lib.hid hl5
              clear hl5 hbq rm5
              go_upto_region 12 with (at_builtin; refine wpList_append_own _ rfl _ _ 23 rfl Bz 61 ni0 (.agg #[.int .i64 0, .int .i64 0, .slice none 0 0, .int .i64 0]) 4 48 Tryz.underlying23 nhi nhz0 nhz1 nhz2 rfl (by decide) _ _ _ rfl (hrow5.1.alloc _) ⟨_, 0, none⟩ 1 1 [.int .i64 op, .int .i64 wd, .slice A2 gs.length cap2, .int .i64 v] rfl rfl four_new (fun x hx => by simp at hx; rcases hx with rfl | rfl | rfl | rfl <;> rfl) (by unfold maxLen; omega) (by omega) (by first | omega | (simp; omega) | (simp at *; omega)) ?_; intro v' V7 hown' hgrow7 hnn)
              have hrow7 := NodesX.snoc (n := ⟨op, wd, gs, v⟩) (cap := cap2) hrow5 ((Below.refl _ _).alloc (Nat.le_refl _) _) (by simpa using hown') hgrow7 HL5.out HF5.out
              have hbA := hb5.alloc hb5.size (.cells #[.int .i64 op, .int .i64 wd, .slice A2 gs.length cap2, .int .i64 v] 61)
              have hgA := (Below.refl W5.heap.size W5).alloc (Nat.le_refl _) (.cells #[.int .i64 op, .int .i64 wd, .slice A2 gs.length cap2, .int .i64 v] 61)
              have rg7 := (hgrow7.block g (Nat.lt_of_lt_of_le (lt_of_get rg5) hgA.size) (fun e => (by have := (hrow5.1.lt g e.symm).1; omega))).trans ((hgA.block g (lt_of_get rg5)).trans rg5)
              have hb7 := hbA.grown hgrow7 hbA.size (fun q hq => (by have := (hrow5.1.lt q hq).1; omega))
              have hz7 := Nat.le_trans hz5 (Nat.le_trans hgA.size hgrow7.size)
              clear hrow5 rg5 hb5 hz5 HL5 HF5 hgrow7 hown' hbA hgA m0 m1 m2 m3 hnn
              obtain ⟨u, hu⟩ : ∃ u, ps[k]? = some u := ⟨_, List.getElem?_eq_getElem (by rw [HPL.out]; exact hlt)⟩
              have qk := (cell_block (i := k) rg7).trans (rowA_in hu)
              have fk := free_block (i := k) rg7
              have hg5 : ∀ c t, V7.heap[g]? ≠ some (.cells c 61 t) := fun c t h => by rw [rg7] at h; simp at h
              have HFIN : Hid (∃ xs', NodesX (V7.setCell ⟨g, k, none⟩ (.int .i64 (cs.length : Int))) Bz (XOff g g) (v') (cs ++ [⟨op, wd, gs, v⟩]) xs' ∧ (V7.setCell ⟨g, k, none⟩ (.int .i64 (cs.length : Int))).heap[g]? = some (.cells (rowA (ps.set k cs.length)) 3) ∧ Below w.heap.size w (V7.setCell ⟨g, k, none⟩ (.int .i64 (cs.length : Int))) ∧ Bz ≤ (V7.setCell ⟨g, k, none⟩ (.int .i64 (cs.length : Int))).heap.size) := Lib.hid ⟨_, hrow7.setCell (fun q hq => hq.1) hg5, by rw [heap_set rg7, rowA_set], hb7.setCell (p := ⟨g, k, none⟩) hgw _, by simpa using hz7⟩
              clear hu rg7 hrow7 hb7 hz7 hg5
              go_wp2
              go_roundw
              case rel =>
                obtain ⟨xs', h1, h2, h3, h4⟩ := HFIN.out
                exact ⟨k + 1, xs', by omega, by go_num, by rw [HS.out]; exact h1, by rw [HS.out]; exact h2, h3, h4⟩
              case measure => simp [intOf]; omega
    · obtain rfl : k = ns.length := by omega
      have hl1 : (shK ns ns.length).2.length = ns.length := HKL.out.1
      have hF := LiesI.block rg
      have HF := Lib.hid (show ConeR w (shN ns) (shP ns) (.returned (.tuple #[.slice A0 (shK ns ns.length).1.length c0', .slice (some ⟨g, 0, none⟩) ns.length ns.length])) wr from
        ⟨A0, c0', some ⟨g, 0, none⟩, ns.length, by rw [HSN.out, HSP.out, hl1], by rw [HSN.out]; exact hc0, by rw [HSN.out]; exact hlN, by rw [HSP.out]; exact hF, hb⟩)
      clear hrow rg hF hlN hb hl1
      go_wp2
      go_ret2
      exact HF.out

end Go.Proofs.YtkdonapgonegkaaGreatDoor

set_option linter.unusedSimpArgs false
set_option linter.unusedVariables false
namespace Go.Proofs.YtkdonapgonegkaaGreatDoor
open Go.RowKit Go.BigFrame

set_option maxRecDepth 100000 in
set_option maxHeartbeats 3200000 in
theorem refCone_c (N : Option Addr) (capN : Nat) (ns : List Nd) (hns : ns.length ≤ 65536) (L : Nat) (hall : ∀ k n, ns[k]? = some n → NodeOK ns L k n) (F : Option Addr) (cf : Nat) (fr : List Int) (hfr : fr.length ≤ 65536) (hf : ∀ x ∈ fr, isIx x ns.length = true) (w : World) (hN : LiesN w N ns) (hF : LiesI w F fr) :
    Calls Tryz.prog 19 #[.slice N ns.length capN, .slice F fr.length cf] w (ConeR w (coneN ns fr) (coneP ns fr)) := by
  obtain ⟨i0, hi, hz0, hz1, hz2⟩ := info_parts int_info
  obtain ⟨ni0, nhi, nhz0, nhz1, nhz2⟩ := info_parts node_info
  have HBE := Lib.hid (baseBelow_c N capN ns hns L hall F cf fr hfr hf w hN hF)
  have HN := Lib.hid hN
  have HFF := Lib.hid hF
  have HND := Lib.hid hall
  have HFX := Lib.hid hf
  have HCN := Lib.hid (show coneN ns fr = (conK ns (belL ns fr) ns.length).1 from rfl)
  have HCP := Lib.hid (show coneP ns fr = pickL (conK ns (belL ns fr) ns.length).2 fr from rfl)
  have HBLn := Lib.hid (belL_len ns fr)
  clear hN hF hall hf
  go_enter Tryz.func19, Tryz.ntmps19
  go_wp2_with fail
  refine HBE.out.mono ?_
  rintro e W0 ⟨M, cm, rfl, hM, hfr2, hbM⟩
  rw [HBLn.out]
  have HM := Lib.hid hM
  clear hM hfr2 HBE
  generalize belL ns fr = bs at *
  go_wp2_with (refine wpList_make_full _ rfl _ _ 22 rfl W0.heap.size 3 i0 _ 1 Tryz.underlying22 hi hz0 hz1 .i64 .i64 _ _ ns.length rfl rfl rfl rfl (by rw [hz2]; omega) (by unfold maxLen; omega) (Nat.le_refl _) ?_; intro W2 hown hgr; have hb2 := (Below.refl W0.heap.size W0).grown hgr (Nat.le_refl _) (fun q hq => by cases hq); have rg0 : W2.heap[W0.heap.size]? = some (.cells (rowA (List.replicate ns.length 0)) 3) := (by have := row_block hown rfl; rwa [row_made] at this); clear hown hgr)
  have HMC := Lib.hid (show ∀ (k : Nat) (b : Bool), bs[k]? = some b → ∃ ad : Addr, M = some ad ∧ ad.block < W0.heap.size ∧ W2.cell? (ad.add k) = some (.bool b) from fun k b hk => by
    obtain ⟨ad, h1, h2, h3⟩ := HM.out.cell hk
    exact ⟨ad, h1, h2, (hb2.cell (p := ad.add k) (by rw [addB]; exact h2)).trans h3⟩)
  clear HM
  have hb0 := hbM.trans (hb2.mono hbM.size)
  have hgw : w.heap.size ≤ W0.heap.size := hbM.size
  have lg0 := lt_of_get rg0
  clear hb2 hbM
  generalize W0.heap.size = g at *
  obtain ⟨Bz, hBz⟩ : ∃ Bz, W2.heap.size = Bz := ⟨_, rfl⟩
  have hz2' : Bz ≤ W2.heap.size := Nat.le_of_eq hBz.symm
  have hz2b : W2.heap.size ≤ Bz := Nat.le_of_eq hBz
  have lgB : g < Bz := by omega
  clear hBz
  go_loopw [7, 9] (fun v7 v9 wr => ∃ (k : Nat) (xs : List Value), k ≤ ns.length ∧ v9 = .int .i64 k ∧ NodesX wr Bz (XOff g g) v7 (conK ns bs k).1 xs ∧ wr.heap[g]? = some (.cells (rowA (conK ns bs k).2) 3) ∧ Below w.heap.size w wr ∧ But g W2 wr ∧ Bz ≤ wr.heap.size) (fun _ v9 _ => ns.length - (intOf v9).toNat)
  case atStart => exact ⟨0, [], by omega, rfl, NodesX.nil _ _ _, rg0, hb0, But.refl _ _, hz2'⟩
  case round =>
    clear rg0 hb0 hz2'
    obtain ⟨k, xs, hk, rfl, hrow, rg, hb, hbut, hz⟩ := hrel
    obtain ⟨A0, c0', hv8, hc0, hlN, _⟩ := hrow.lies
    subst hv8
    have HKL := Lib.hid (conK_len (ns := ns) (bs := bs) k)
    by_cases hlt : k < ns.length
    · have hkk : (k : Int) < ns.length := by omega
      have HX := Lib.hid (List.getElem?_eq_getElem hlt)
      generalize ns[k] = x at *
      obtain ⟨b, hbk'⟩ : ∃ b, bs[k]? = some b := ⟨_, List.getElem?_eq_getElem (by rw [HBLn.out]; exact hlt)⟩
      obtain ⟨am, rfl, ham, cm0⟩ := HMC.out k b hbk'
      have cm1 := (hbut.cell (p := am.add k) (by rw [addB]; omega) (by rw [addB]; omega)).trans cm0
      have HBK := Lib.hid hbk'
      clear cm0 hbk' hlN
      cases b with
      | false =>
        have HS := Lib.hid (conK_no HX.out HBK.out)
        have HR := Lib.hid hrow
        clear hrow
        go_wp2
        go_roundw
        case rel => exact ⟨k + 1, xs, by omega, by go_num, by rw [HS.out]; exact HR.out, by rw [HS.out]; exact rg, hb, hbut, hz⟩
        case measure => simp [intOf]; omega
      | true =>
        have HS := Lib.hid (conK_yes HX.out HBK.out)
        have HOK := Lib.hid (HND.out k x HX.out)
        obtain ⟨ad, rfl, hbl, c0, c1, c3, B, bc, c2, hB⟩ := HN.out.cells HX.out
        obtain ⟨op, wd, args, v⟩ := x
        have hal : args.length ≤ 3 := HOK.out.al
        have HAI : Hid (∀ a ∈ args, 0 ≤ a ∧ a < k) := Lib.hid (fun a ha => by
          obtain ⟨i, hi, rfl⟩ := List.mem_iff_getElem.1 ha
          exact HOK.out.ai i _ (List.getElem?_eq_getElem hi))
        have HBL : Hid (LiesI w B args) := Lib.hid hB
        clear hB
        obtain ⟨u, hu⟩ : ∃ u, (conK ns bs k).2[k]? = some u := ⟨_, List.getElem?_eq_getElem (by rw [HKL.out.1]; exact hlt)⟩
        have qk := (cell_block (i := k) rg).trans (rowA_in hu)
        have fk := free_block (i := k) rg
        have hml := HKL.out.2
        have HPL := Lib.hid HKL.out.1
        clear hu HKL
        generalize conK ns bs k = CK at *
        obtain ⟨cs, ps⟩ := CK
        simp only at *
        have hcl : cs.length ≤ 65536 := by omega
        have HROW := Lib.hid hrow
        clear hrow
        go_upto_region 9 with (fail)
        have rgS : (wr.setCell ⟨g, k, none⟩ (.int .i64 (cs.length : Int))).heap[g]? = some (.cells (rowA (ps.set k cs.length)) 3) := by rw [heap_set rg, rowA_set]
        have hbS : Below w.heap.size w (wr.setCell ⟨g, k, none⟩ (.int .i64 (cs.length : Int))) := hb.setCell (p := ⟨g, k, none⟩) hgw _
        have hbutS : But g W2 (wr.setCell ⟨g, k, none⟩ (.int .i64 (cs.length : Int))) := hbut.setCell
        have hg5 : ∀ c t, wr.heap[g]? ≠ some (.cells c 61 t) := fun c t h => by rw [rg] at h; simp at h
        have HROWS := Lib.hid (HROW.out.setCell (m := g) (j := k) (u := .int .i64 (cs.length : Int)) (fun q hq => hq.1) hg5)
        have hzS : Bz ≤ (wr.setCell ⟨g, k, none⟩ (.int .i64 (cs.length : Int))).heap.size := by simpa using hz
        have hbk : ∀ p : Addr, p.block = ad.block → (wr.setCell ⟨g, k, none⟩ (.int .i64 (cs.length : Int))).cell? p = w.cell? p := fun p hp => hbS.cell (p := p) (by rw [hp]; exact hbl)
        clear rg hb hbut HROW qk fk hg5 hz cm1
        generalize wr.setCell ⟨g, k, none⟩ (.int .i64 (cs.length : Int)) = S1 at *
        have a0 : S1.cell? (ad.add (k * 4)) = some (.int .i64 op) := (hbk (ad.add (k * 4)) (by rw [addB])).trans c0
        have a1 : S1.cell? ⟨(ad.add (k * 4)).block, (ad.add (k * 4)).off + 1, none⟩ = some (.int .i64 wd) := (hbk ((ad.add (k * 4)).add 1) (by rw [addB, addB])).trans c1
        have a2 : S1.cell? ⟨(ad.add (k * 4)).block, (ad.add (k * 4)).off + 2, none⟩ = some (.slice B args.length bc) := (hbk ((ad.add (k * 4)).add 2) (by rw [addB, addB])).trans c2
        have a3 : S1.cell? ⟨(ad.add (k * 4)).block, (ad.add (k * 4)).off + 3, none⟩ = some (.int .i64 v) := (hbk ((ad.add (k * 4)).add 3) (by rw [addB, addB])).trans c3
        clear c0 c1 c2 c3 hbk
        have HMV := moved_c op wd v B bc args (by omega) (some ⟨g, 0, none⟩) ns.length (ps.set k cs.length) (fun a ha => by rw [List.length_set, HPL.out]; obtain ⟨h0, h1⟩ := HAI.out a ha; exact isIx_true h0 (by omega)) (by rw [List.length_set, HPL.out]; omega) S1 (HBL.out.below hbS) (LiesI.block rgS)
        rw [List.length_set, HPL.out] at HMV
        have HMV := Lib.hid HMV
        have HS : Hid (conK ns bs (k + 1) = (cs ++ [⟨op, wd, pickL (ps.set k cs.length) args, v⟩], ps.set k cs.length)) := Lib.hid HS.out
        have hgl : (pickL (ps.set k cs.length) args).length ≤ 3 := by rw [pickL_len]; exact hal
        generalize pickL (ps.set k cs.length) args = gs at *
        have lgS := lt_of_get rgS
        go_wp2_with fail
        refine HMV.out.mono ?_
        rintro e W4 ⟨A2, cap2, rfl, _, hl2, hf2, hb4⟩
        have hrow4 := HROWS.out.below hb4
        have HL2 := Lib.hid hl2
        have HF2 : Hid (∀ ad, A2 = some ad → XOff g g ad.block ∧ ad.block < W4.heap.size ∧ ∀ cur fz, W4.heap[ad.block]? ≠ some (.cells cur 61 fz)) := Lib.hid (fun ad h => by
          obtain ⟨h1, cur, h2⟩ := hf2 ad h
          refine ⟨XOff.mk (by omega) (by omega), lt_of_get h2, fun c z h3 => ?_⟩
          rw [h2] at h3
          simp at h3)
        have hz4 := Nat.le_trans hzS hb4.size
        have hbut4 := hbutS.below hb4
        have rg4 := (hb4.block _ lgS).trans rgS
        have hb45 := hbS.trans (hb4.mono hbS.size)
        clear hl2 hf2 a0 a1 a2 a3 HMV HROWS hb4 rgS hbS hbutS hzS lgS
        go_wp2_with (at_builtin; refine wpList_append_own _ rfl _ _ 23 rfl Bz 61 ni0 (.agg #[.int .i64 0, .int .i64 0, .slice none 0 0, .int .i64 0]) 4 48 Tryz.underlying23 nhi nhz0 nhz1 nhz2 rfl (by decide) _ _ _ rfl (hrow4.1.alloc _) ⟨_, 0, none⟩ 1 1 [.int .i64 op, .int .i64 wd, .slice A2 gs.length cap2, .int .i64 v] rfl rfl four_new (fun x hx => by simp at hx; rcases hx with rfl | rfl | rfl | rfl <;> rfl) (by unfold maxLen; omega) (by omega) (by first | omega | (simp; omega) | (simp at *; omega)) ?_; intro v' w3 hown' hgrow3 hnn)
        have HR5 := Lib.hid (NodesX.snoc (n := ⟨op, wd, gs, v⟩) (cap := cap2) hrow4 ((Below.refl _ _).alloc (Nat.le_refl _) _) (by simpa using hown') hgrow3 HL2.out HF2.out)
        have hgA := (Below.refl W4.heap.size W4).alloc (Nat.le_refl _) (.cells #[.int .i64 op, .int .i64 wd, .slice A2 gs.length cap2, .int .i64 v] 61)
        have HG5 := Lib.hid ((hgrow3.block g (Nat.lt_of_lt_of_le (lt_of_get rg4) hgA.size) (fun e => by have := (hrow4.1.lt g e.symm).1; omega)).trans ((hgA.block g (lt_of_get rg4)).trans rg4))
        have HB5 := Lib.hid ((hb45.alloc hb45.size (.cells #[.int .i64 op, .int .i64 wd, .slice A2 gs.length cap2, .int .i64 v] 61)).grown hgrow3 (by simp; have := hb45.size; omega) (fun q hq => by have := (hrow4.1.lt q hq).1; omega))
        have HT5 := Lib.hid ((hbut4.alloc (.cells #[.int .i64 op, .int .i64 wd, .slice A2 gs.length cap2, .int .i64 v] 61)).grown hgrow3 (fun q hq => by have := (hrow4.1.lt q hq).1; omega))
        have HZ5 := Lib.hid (Nat.le_trans hz4 (Nat.le_trans hgA.size hgrow3.size))
        clear hown' hgrow3 hrow4 hb45 rg4 hbut4 hgA hz4 hnn
        go_wp2
        go_roundw
        case rel => exact ⟨k + 1, _, by omega, by go_num, by rw [HS.out]; exact HR5.out, by rw [HS.out]; exact HG5.out, HB5.out, HT5.out, HZ5.out⟩
        case measure => simp [intOf]; omega
    · obtain rfl : k = ns.length := by omega
      obtain ⟨wo, rfl⟩ : ∃ wo : World, wo = wr := ⟨_, rfl⟩
      have HPL := Lib.hid HKL.out.1
      have HLN := Lib.hid hlN
      have HRG := Lib.hid rg
      have HBW := Lib.hid hb
      rw [← HCN.out] at hc0 HLN ⊢
      have HCP' := HCP
      generalize (conK ns bs ns.length).2 = ps at *
      generalize coneN ns fr = cs at *
      have lg := lt_of_get rg
      clear hrow rg hbut hlN hz hb HKL HND HMC HBLn
      go_wp2_with fail
      have hv : wo.ownsRow wo.heap.size 3 1 (.slice none 0 0) 0 [] := World.ownsRow_nil _ _ _ _
      go_loopw [10, 11] (fun v10 v11 w4 => ∃ j : Nat, j ≤ fr.length ∧ v11 = .int .i64 j ∧ w4.ownsRow wo.heap.size 3 1 v10 (pickL ps (fr.take j)).length ((pickL ps (fr.take j)).map (Value.int .i64)) ∧ Below wo.heap.size wo w4) (fun _ v11 _ => fr.length - (intOf v11).toNat)
      case atStart => exact ⟨0, by omega, rfl, hv, Below.refl _ _⟩
      case round =>
        clear hv
        obtain ⟨j, hj, rfl, hown, hb4⟩ := hrel
        have hbw4 := HBW.out.trans (hb4.mono HBW.out.size)
        by_cases hlt2 : j < fr.length
        · have hjj : (j : Int) < fr.length := by omega
          have HXF := Lib.hid (List.getElem?_eq_getElem hlt2)
          have HIX := Lib.hid (HFX.out _ (List.getElem_mem hlt2))
          generalize fr[j] = x at *
          obtain ⟨x0, x1⟩ := isIx_iff.1 HIX.out
          obtain ⟨p, rfl⟩ := Int.eq_ofNat_of_zero_le x0
          obtain ⟨af, rfl, hbf, cf0⟩ := HFF.out.cell HXF.out
          have cf1 := (hbw4.cell (p := af.add j) (by rw [addB]; exact hbf)).trans cf0
          have hpn : (p : Int) < ns.length := by omega
          obtain ⟨u, hu⟩ : ∃ u, ps[p]? = some u := ⟨_, List.getElem?_eq_getElem (by rw [HPL.out]; omega)⟩
          have qp := ((cell_block (i := p) ((hb4.block g lg).trans HRG.out))).trans (rowA_in hu)
          have HS := Lib.hid (pickL_snoc HXF.out hu)
          have hml2 : (pickL ps (fr.take j)).length ≤ 65536 := by rw [pickL_len, List.length_take]; omega
          generalize hm : (pickL ps (fr.take j)).length = m at *
          clear cf0 hu
          have hz4 := hb4.size
          go_wp2_with (at_builtin; refine wpList_append_own _ rfl _ _ 22 rfl wo.heap.size 3 i0 (.int .i64 0) 1 8 Tryz.underlying22 hi hz0 hz1 hz2 rfl (by decide) _ _ _ rfl (hown.alloc _) ⟨_, 0, none⟩ 1 1 [.int .i64 _] rfl rfl (cell_one_new _ _ _) (fun x hx => by simp at hx; subst hx; rfl) (by unfold maxLen; omega) (by omega) (by first | omega | (simp; have := hb4.size; omega) | (simp at *; omega)) ?_; intro v' w3 hown' hgrow3 hnn)
          have HF := Lib.hid (own_snoc hown' hm.symm HS.out)
          have hal2 := hb4.alloc hb4.size (.cells #[.int .i64 u] 3)
          have HB2 := Lib.hid (hal2.grown hgrow3 hal2.size (fun q hq => (hown.lt q hq).1))
          clear hown' hgrow3 hown hal2 qp hnn
          go_wp2
          go_roundw
          case rel => exact ⟨j + 1, by omega, by go_num, HF.out, HB2.out⟩
          case measure => simp [intOf]; omega
        · obtain rfl : j = fr.length := by omega
          rw [List.take_length] at hown
          obtain ⟨A', cap', rfl, _, hl, _⟩ := own_lies hown
          have HF := Lib.hid (show ConeR w cs (coneP ns fr) (.returned (.tuple #[.slice A0 cs.length c0', .slice A' (pickL ps fr).length cap'])) _ from
            ⟨A0, c0', A', cap', by rw [HCP.out], hc0, HLN.out.below hb4, by rw [HCP.out]; exact hl, hbw4⟩)
          clear hown hl hb4 hbw4
          go_wp2
          go_ret2
          exact HF.out

end Go.Proofs.YtkdonapgonegkaaGreatDoor

set_option linter.unusedSimpArgs false
set_option linter.unusedVariables false
namespace Go.Proofs.YtkdonapgonegkaaGreatDoor
open Go.RowKit Go.BigFrame

theorem foldedNode1_c (k P : Nat) (A : Option Addr) (cap : Nat) (bs : List Nd) (m : Nd) (hm : bs[k]? = some m) (hl : bs.length ≤ 65536) (w : World) (c0 : w.cell? ⟨P, 0, none⟩ = some (.slice A bs.length cap)) (h : LiesN w A bs) :
    Calls Tryz.prog 68 #[.int .i64 k, .pointer (some ⟨P, 0, none⟩)] w fun e w' => e = .returned (.bool (m.op != 0)) ∧ w = w' := by
  obtain ⟨ad, rfl, hb, h0, _⟩ := h.cells hm
  have hk := (List.getElem?_eq_some_iff.1 hm).1
  have hkk : (k : Int) < bs.length := by omega
  clear hm h
  go_enter Tryz.func68, Tryz.ntmps68
  go_wp2
  go_ret
  exact ⟨rfl, rfl⟩

set_option maxRecDepth 100000 in
set_option maxHeartbeats 1600000 in
theorem foldedNode2_c (k P : Nat) (A : Option Addr) (cap : Nat) (bs : List Nd) (m : Nd) (hm : bs[k]? = some m) (hl : bs.length ≤ 65536) (w : World) (lP : P < w.heap.size)
    (c0 : w.cell? ⟨P, 0, none⟩ = some (.slice A bs.length cap)) (h : LiesN w A bs) :
    Calls Tryz.prog 71 #[.int .i64 k, .pointer (some ⟨P, 0, none⟩)] w fun e w' => e = .returned (.agg #[.int .i64 m.wd, .int .i64 m.v]) ∧ ∃ y : Aft w, w' = y.val := by
  obtain ⟨ad, rfl, hb, h0, h1, h3, _⟩ := h.cells hm
  have hk := (List.getElem?_eq_some_iff.1 hm).1
  have hkk : (k : Int) < bs.length := by omega
  have h1' : w.cell? ⟨(ad.add (k * 4)).block, (ad.add (k * 4)).off + 1, none⟩ = some (.int .i64 m.wd) := h1
  have h3' : w.cell? ⟨(ad.add (k * 4)).block, (ad.add (k * 4)).off + 3, none⟩ = some (.int .i64 m.v) := h3
  have hbk : (ad.add (k * 4)).block < w.heap.size := by rw [addB]; exact hb
  clear hm h h0 h1 h3
  go_enter Tryz.func71, Tryz.ntmps71
  go_wp2_with fail
  have hb0 : Below w.heap.size w (w.alloc (.cells #[.int .i64 0, .int .i64 0] 114)) := (Below.refl _ _).alloc (Nat.le_refl _) _
  have d0 := (hb0.cell (p := ⟨P, 0, none⟩) lP).trans c0
  have d1 := (hb0.cell (p := ⟨(ad.add (k * 4)).block, (ad.add (k * 4)).off + 1, none⟩) hbk).trans h1'
  have d3 := (hb0.cell (p := ⟨(ad.add (k * 4)).block, (ad.add (k * 4)).off + 3, none⟩) hbk).trans h3'
  have rr : (w.alloc (.cells #[.int .i64 0, .int .i64 0] 114)).heap[w.heap.size]? = some (.cells #[.int .i64 0, .int .i64 0] 114) := heap_alloc_new _ _
  have lr := lt_of_get rr
  clear c0 h1' h3'
  have lP' : P < (w.alloc (.cells #[.int .i64 0, .int .i64 0] 114)).heap.size := by simp; omega
  have lb' : (ad.add (k * 4)).block < (w.alloc (.cells #[.int .i64 0, .int .i64 0] 114)).heap.size := by simp; omega
  generalize w.alloc (.cells #[.int .i64 0, .int .i64 0] 114) = W1 at *
  have hx : ∀ z : Aft W1, z.val.cell? ⟨(ad.add (k * 4)).block, (ad.add (k * 4)).off + 1, none⟩ = some (.int .i64 m.wd) := fun z => (z.cell _ _ lb').trans d1
  have hy : ∀ z : Aft W1, z.val.cell? ⟨(ad.add (k * 4)).block, (ad.add (k * 4)).off + 3, none⟩ = some (.int .i64 m.v) := fun z => (z.cell _ _ lb').trans d3
  refine wp_region_aft_tail 10 (by kernel_rfl) (by kernel_rfl) ?_
  simp only [List.take_succ_cons, List.take_zero, List.drop_succ_cons, List.drop_zero]
  repeat (go_big_quiet_step (fail))
  refine wpQuiet_nil ?_
  intro y
  have r2 := heap_aft y lr rr
  have q0 := cell_block (i := 0) r2
  have q1 := cell_block (i := 1) r2
  have f0 := free_block (i := 0) r2
  have f1 := free_block (i := 1) r2
  simp at q0 q1
  have hby := y.below hb0 hb0.size
  clear rr r2 hx hy d0 d1 d3
  generalize y.val = W2 at *
  go_wp2
  refine bodyPost_ret (by simp [results, Tryz.results71, go_sem, q0, q1]; try rfl) rfl ?_
  exact ⟨rfl, Below.aft (by (repeat' (first | (with_reducible exact Below.refl _ _) | (with_reducible assumption) | (with_reducible refine Below.alloc ?_ ?_ _) | (with_reducible refine Below.drew ?_) | (with_reducible refine Aft.below _ ?_ ?_) | (with_reducible refine Below.setCell_new ?_ ?_ _ _) | (with_reducible exact Nat.le_refl _) | (with_reducible refine Aft.le _ ?_) | (with_reducible refine le_alloc ?_) | (with_reducible refine le_drew ?_) | (with_reducible refine le_setCell ?_) | omega)))⟩

set_option maxRecDepth 100000 in
set_option maxHeartbeats 1600000 in
theorem fargs0 (op wd v : Int) (B : Option Addr) (bc : Nat) (P : Nat) (A : Option Addr) (cap : Nat) (ns : List Nd) (hl : ns.length ≤ 65536) (w : World) (lP : P < w.heap.size) 
    (c0 : w.cell? ⟨P, 0, none⟩ = some (.slice A ns.length cap)) (h : LiesN w A ns) (hB : LiesI w B []) :
    Calls Tryz.prog 70 #[.agg #[.int .i64 op, .int .i64 wd, .slice B 0 bc, .int .i64 v], .func (.func 71) #[] #[.pointer (some ⟨P, 0, none⟩)]] w fun e w' => e = .returned (.agg #[.int .i64 0, .int .i64 0, .int .i64 0, .int .i64 0, .int .i64 0, .int .i64 0]) ∧ ∃ x : Aft w, w' = x.val := by
  clear h hB c0 
  go_enter Tryz.func70, Tryz.ntmps70
  go_wp2_with fail
  have rL : (((w.alloc (.cells #[.int .i64 op, .int .i64 wd, .slice B 0 bc, .int .i64 v] 61)).alloc (.cells #[.int .i64 0, .int .i64 0, .int .i64 0, .int .i64 0, .int .i64 0, .int .i64 0] 115)).alloc (.cells #[.int .i64 0, .int .i64 0, .int .i64 0, .int .i64 0, .int .i64 0, .int .i64 0] 115)).heap[w.heap.size + 2]? = some (.cells #[.int .i64 0, .int .i64 0, .int .i64 0, .int .i64 0, .int .i64 0, .int .i64 0] 115) := by
    exact heap_alloc_at (by simp)
  have rR : (((w.alloc (.cells #[.int .i64 op, .int .i64 wd, .slice B 0 bc, .int .i64 v] 61)).alloc (.cells #[.int .i64 0, .int .i64 0, .int .i64 0, .int .i64 0, .int .i64 0, .int .i64 0] 115)).alloc (.cells #[.int .i64 0, .int .i64 0, .int .i64 0, .int .i64 0, .int .i64 0, .int .i64 0] 115)).heap[w.heap.size + 1]? = some (.cells #[.int .i64 0, .int .i64 0, .int .i64 0, .int .i64 0, .int .i64 0, .int .i64 0] 115) := by
    exact heap_alloc' (by simp) (heap_alloc_at (by simp))
  have rN : (((w.alloc (.cells #[.int .i64 op, .int .i64 wd, .slice B 0 bc, .int .i64 v] 61)).alloc (.cells #[.int .i64 0, .int .i64 0, .int .i64 0, .int .i64 0, .int .i64 0, .int .i64 0] 115)).alloc (.cells #[.int .i64 0, .int .i64 0, .int .i64 0, .int .i64 0, .int .i64 0, .int .i64 0] 115)).heap[w.heap.size]? = some (.cells #[.int .i64 op, .int .i64 wd, .slice B 0 bc, .int .i64 v] 61) := heap_alloc' (by simp; omega) (heap_alloc' (by simp) (heap_alloc_new _ _))
  have hb0 : Below w.heap.size w (((w.alloc (.cells #[.int .i64 op, .int .i64 wd, .slice B 0 bc, .int .i64 v] 61)).alloc (.cells #[.int .i64 0, .int .i64 0, .int .i64 0, .int .i64 0, .int .i64 0, .int .i64 0] 115)).alloc (.cells #[.int .i64 0, .int .i64 0, .int .i64 0, .int .i64 0, .int .i64 0, .int .i64 0] 115)) := (((Below.refl _ _).alloc (Nat.le_refl _) _).alloc (by simp) _).alloc (by simp; omega) _
  have qN := cell_block (i := 2) rN
  simp at qN
  clear rN
  generalize (((w.alloc (.cells #[.int .i64 op, .int .i64 wd, .slice B 0 bc, .int .i64 v] 61)).alloc (.cells #[.int .i64 0, .int .i64 0, .int .i64 0, .int .i64 0, .int .i64 0, .int .i64 0] 115)).alloc (.cells #[.int .i64 0, .int .i64 0, .int .i64 0, .int .i64 0, .int .i64 0, .int .i64 0] 115)) = W0 at *
  refine wp_loop_rounds 1 ?_
  rw [rounds_succ]
  have u0 := cell_block (i := 0) rL
  have p0 := cell_block (i := 0) rR
  have f0 := free_block (i := 0) rR
  have u1 := cell_block (i := 1) rL
  have p1 := cell_block (i := 1) rR
  have f1 := free_block (i := 1) rR
  have u2 := cell_block (i := 2) rL
  have p2 := cell_block (i := 2) rR
  have f2 := free_block (i := 2) rR
  have u3 := cell_block (i := 3) rL
  have p3 := cell_block (i := 3) rR
  have f3 := free_block (i := 3) rR
  have u4 := cell_block (i := 4) rL
  have p4 := cell_block (i := 4) rR
  have f4 := free_block (i := 4) rR
  have u5 := cell_block (i := 5) rL
  have p5 := cell_block (i := 5) rR
  have f5 := free_block (i := 5) rR
  simp at u0 u1 u2 u3 u4 u5 p0 p1 p2 p3 p4 p5
  go_wp2
  refine bodyPost_ret (by simp [results, Tryz.results70, go_sem, p0, p1, p2, p3, p4, p5]; try rfl) rfl ?_
  exact ⟨rfl, Below.aft (by (repeat' (first | (with_reducible exact Below.refl _ _) | (with_reducible assumption) | (with_reducible refine Below.alloc ?_ ?_ _) | (with_reducible refine Below.drew ?_) | (with_reducible refine Aft.below _ ?_ ?_) | (with_reducible refine Below.setCell_new ?_ ?_ _ _) | (with_reducible exact Nat.le_refl _) | (with_reducible refine Aft.le _ ?_) | (with_reducible refine le_alloc ?_) | (with_reducible refine le_drew ?_) | (with_reducible refine le_setCell ?_) | omega)))⟩

set_option maxRecDepth 100000 in
set_option maxHeartbeats 1600000 in
theorem fargs1 (op wd v : Int) (B : Option Addr) (bc : Nat) (P : Nat) (A : Option Addr) (cap : Nat) (ns : List Nd) (hl : ns.length ≤ 65536) (w : World) (lP : P < w.heap.size) (k0 : Nat) (n0 : Nd) (g0 : ns[k0]? = some n0)
    (c0 : w.cell? ⟨P, 0, none⟩ = some (.slice A ns.length cap)) (h : LiesN w A ns) (hB : LiesI w B [(k0 : Int)]) :
    Calls Tryz.prog 70 #[.agg #[.int .i64 op, .int .i64 wd, .slice B 1 bc, .int .i64 v], .func (.func 71) #[] #[.pointer (some ⟨P, 0, none⟩)]] w fun e w' => e = .returned (.agg #[.int .i64 n0.wd, .int .i64 n0.v, .int .i64 0, .int .i64 0, .int .i64 0, .int .i64 0]) ∧ ∃ x : Aft w, w' = x.val := by
  have HC0 := Lib.hid (fun (W : World) (hb : Below w.heap.size w W) => foldedNode2_c k0 P A cap ns n0 g0 hl W (Nat.lt_of_lt_of_le lP hb.size) ((hb.cell (p := ⟨P, 0, none⟩) lP).trans c0) (h.below hb))
  obtain ⟨ad, rfl, hbk, hcell⟩ := hB (by simp)
  have hx0 := hcell 0 k0 (by rfl)
  have HX := Lib.hid (fun (W : World) (hb : Below w.heap.size w W) (i : Nat) => (hb.cell (p := ad.add i) (by rw [addB]; exact hbk)))
  clear h hB c0 hcell 
  go_enter Tryz.func70, Tryz.ntmps70
  go_wp2_with fail
  have rL : (((w.alloc (.cells #[.int .i64 op, .int .i64 wd, .slice (some ad) 1 bc, .int .i64 v] 61)).alloc (.cells #[.int .i64 0, .int .i64 0, .int .i64 0, .int .i64 0, .int .i64 0, .int .i64 0] 115)).alloc (.cells #[.int .i64 0, .int .i64 0, .int .i64 0, .int .i64 0, .int .i64 0, .int .i64 0] 115)).heap[w.heap.size + 2]? = some (.cells #[.int .i64 0, .int .i64 0, .int .i64 0, .int .i64 0, .int .i64 0, .int .i64 0] 115) := by
    exact heap_alloc_at (by simp)
  have rR : (((w.alloc (.cells #[.int .i64 op, .int .i64 wd, .slice (some ad) 1 bc, .int .i64 v] 61)).alloc (.cells #[.int .i64 0, .int .i64 0, .int .i64 0, .int .i64 0, .int .i64 0, .int .i64 0] 115)).alloc (.cells #[.int .i64 0, .int .i64 0, .int .i64 0, .int .i64 0, .int .i64 0, .int .i64 0] 115)).heap[w.heap.size + 1]? = some (.cells #[.int .i64 0, .int .i64 0, .int .i64 0, .int .i64 0, .int .i64 0, .int .i64 0] 115) := by
    exact heap_alloc' (by simp) (heap_alloc_at (by simp))
  have rN : (((w.alloc (.cells #[.int .i64 op, .int .i64 wd, .slice (some ad) 1 bc, .int .i64 v] 61)).alloc (.cells #[.int .i64 0, .int .i64 0, .int .i64 0, .int .i64 0, .int .i64 0, .int .i64 0] 115)).alloc (.cells #[.int .i64 0, .int .i64 0, .int .i64 0, .int .i64 0, .int .i64 0, .int .i64 0] 115)).heap[w.heap.size]? = some (.cells #[.int .i64 op, .int .i64 wd, .slice (some ad) 1 bc, .int .i64 v] 61) := heap_alloc' (by simp; omega) (heap_alloc' (by simp) (heap_alloc_new _ _))
  have hb0 : Below w.heap.size w (((w.alloc (.cells #[.int .i64 op, .int .i64 wd, .slice (some ad) 1 bc, .int .i64 v] 61)).alloc (.cells #[.int .i64 0, .int .i64 0, .int .i64 0, .int .i64 0, .int .i64 0, .int .i64 0] 115)).alloc (.cells #[.int .i64 0, .int .i64 0, .int .i64 0, .int .i64 0, .int .i64 0, .int .i64 0] 115)) := (((Below.refl _ _).alloc (Nat.le_refl _) _).alloc (by simp) _).alloc (by simp; omega) _
  have qN := cell_block (i := 2) rN
  simp at qN
  clear rN
  generalize (((w.alloc (.cells #[.int .i64 op, .int .i64 wd, .slice (some ad) 1 bc, .int .i64 v] 61)).alloc (.cells #[.int .i64 0, .int .i64 0, .int .i64 0, .int .i64 0, .int .i64 0, .int .i64 0] 115)).alloc (.cells #[.int .i64 0, .int .i64 0, .int .i64 0, .int .i64 0, .int .i64 0, .int .i64 0] 115)) = W0 at *
  have cc0 : W0.cell? ad = some (.int .i64 k0) := (HX.out _ hb0 0).trans hx0
  refine wp_loop_rounds 2 ?_
  rw [rounds_succ]
  go_wp2_with fail
  refine (HC0.out _ hb0).mono ?_
  rintro e w' ⟨rfl, y0, rfl⟩
  have rLy := heap_aft y0 (lt_of_get rL) rL
  have rRy := heap_aft y0 (lt_of_get rR) rR
  have hby := y0.below hb0 hb0.size
  have qL0 := cell_block (i := 0) rLy
  have qL1 := cell_block (i := 1) rLy
  have fL0 := free_block (i := 0) rLy
  have fL1 := free_block (i := 1) rLy
  simp at qL0 qL1
  have rL1 : ((y0.val.setCell ⟨w.heap.size + 2, 0, none⟩ (.int .i64 n0.wd)).setCell ⟨w.heap.size + 2, 1, none⟩ (.int .i64 n0.v)).heap[w.heap.size + 2]? = some (.cells #[.int .i64 n0.wd, .int .i64 n0.v, .int .i64 0, .int .i64 0, .int .i64 0, .int .i64 0] 115) := heap_set (heap_set rLy)
  have rR1 : ((y0.val.setCell ⟨w.heap.size + 2, 0, none⟩ (.int .i64 n0.wd)).setCell ⟨w.heap.size + 2, 1, none⟩ (.int .i64 n0.v)).heap[w.heap.size + 1]? = some (.cells #[.int .i64 0, .int .i64 0, .int .i64 0, .int .i64 0, .int .i64 0, .int .i64 0] 115) := heap_set_ne (heap_set_ne rRy (by omega)) (by omega)
  have hb1 : Below w.heap.size w ((y0.val.setCell ⟨w.heap.size + 2, 0, none⟩ (.int .i64 n0.wd)).setCell ⟨w.heap.size + 2, 1, none⟩ (.int .i64 n0.v)) := (hby.setCell (by first | omega | (simp; done) | (simp; omega)) _).setCell (by first | omega | (simp; done) | (simp; omega)) _
  clear cc0
  go_wp2_with fail
  clear rL rR rLy rRy qL0 qL1 fL0 fL1 hby
  have rL := rL1
  have rR := rR1
  clear rL1 rR1
  generalize ((y0.val.setCell ⟨w.heap.size + 2, 0, none⟩ (.int .i64 n0.wd)).setCell ⟨w.heap.size + 2, 1, none⟩ (.int .i64 n0.v)) = W1 at *
  rw [rounds_succ]
  have u0 := cell_block (i := 0) rL
  have p0 := cell_block (i := 0) rR
  have f0 := free_block (i := 0) rR
  have u1 := cell_block (i := 1) rL
  have p1 := cell_block (i := 1) rR
  have f1 := free_block (i := 1) rR
  have u2 := cell_block (i := 2) rL
  have p2 := cell_block (i := 2) rR
  have f2 := free_block (i := 2) rR
  have u3 := cell_block (i := 3) rL
  have p3 := cell_block (i := 3) rR
  have f3 := free_block (i := 3) rR
  have u4 := cell_block (i := 4) rL
  have p4 := cell_block (i := 4) rR
  have f4 := free_block (i := 4) rR
  have u5 := cell_block (i := 5) rL
  have p5 := cell_block (i := 5) rR
  have f5 := free_block (i := 5) rR
  simp at u0 u1 u2 u3 u4 u5 p0 p1 p2 p3 p4 p5
  go_wp2
  refine bodyPost_ret (by simp [results, Tryz.results70, go_sem, p0, p1, p2, p3, p4, p5]; try rfl) rfl ?_
  exact ⟨rfl, Below.aft (by (repeat' (first | (with_reducible exact Below.refl _ _) | (with_reducible assumption) | (with_reducible refine Below.alloc ?_ ?_ _) | (with_reducible refine Below.drew ?_) | (with_reducible refine Aft.below _ ?_ ?_) | (with_reducible refine Below.setCell_new ?_ ?_ _ _) | (with_reducible exact Nat.le_refl _) | (with_reducible refine Aft.le _ ?_) | (with_reducible refine le_alloc ?_) | (with_reducible refine le_drew ?_) | (with_reducible refine le_setCell ?_) | omega)))⟩

set_option maxRecDepth 100000 in
set_option maxHeartbeats 1600000 in
theorem fargs2 (op wd v : Int) (B : Option Addr) (bc : Nat) (P : Nat) (A : Option Addr) (cap : Nat) (ns : List Nd) (hl : ns.length ≤ 65536) (w : World) (lP : P < w.heap.size) (k0 : Nat) (n0 : Nd) (g0 : ns[k0]? = some n0) (k1 : Nat) (n1 : Nd) (g1 : ns[k1]? = some n1)
    (c0 : w.cell? ⟨P, 0, none⟩ = some (.slice A ns.length cap)) (h : LiesN w A ns) (hB : LiesI w B [(k0 : Int), (k1 : Int)]) :
    Calls Tryz.prog 70 #[.agg #[.int .i64 op, .int .i64 wd, .slice B 2 bc, .int .i64 v], .func (.func 71) #[] #[.pointer (some ⟨P, 0, none⟩)]] w fun e w' => e = .returned (.agg #[.int .i64 n0.wd, .int .i64 n0.v, .int .i64 n1.wd, .int .i64 n1.v, .int .i64 0, .int .i64 0]) ∧ ∃ x : Aft w, w' = x.val := by
  have HC0 := Lib.hid (fun (W : World) (hb : Below w.heap.size w W) => foldedNode2_c k0 P A cap ns n0 g0 hl W (Nat.lt_of_lt_of_le lP hb.size) ((hb.cell (p := ⟨P, 0, none⟩) lP).trans c0) (h.below hb))
  have HC1 := Lib.hid (fun (W : World) (hb : Below w.heap.size w W) => foldedNode2_c k1 P A cap ns n1 g1 hl W (Nat.lt_of_lt_of_le lP hb.size) ((hb.cell (p := ⟨P, 0, none⟩) lP).trans c0) (h.below hb))
  obtain ⟨ad, rfl, hbk, hcell⟩ := hB (by simp)
  have hx0 := hcell 0 k0 (by rfl)
  have hx1 := hcell 1 k1 (by rfl)
  have HX := Lib.hid (fun (W : World) (hb : Below w.heap.size w W) (i : Nat) => (hb.cell (p := ad.add i) (by rw [addB]; exact hbk)))
  clear h hB c0 hcell 
  go_enter Tryz.func70, Tryz.ntmps70
  go_wp2_with fail
  have rL : (((w.alloc (.cells #[.int .i64 op, .int .i64 wd, .slice (some ad) 2 bc, .int .i64 v] 61)).alloc (.cells #[.int .i64 0, .int .i64 0, .int .i64 0, .int .i64 0, .int .i64 0, .int .i64 0] 115)).alloc (.cells #[.int .i64 0, .int .i64 0, .int .i64 0, .int .i64 0, .int .i64 0, .int .i64 0] 115)).heap[w.heap.size + 2]? = some (.cells #[.int .i64 0, .int .i64 0, .int .i64 0, .int .i64 0, .int .i64 0, .int .i64 0] 115) := by
    exact heap_alloc_at (by simp)
  have rR : (((w.alloc (.cells #[.int .i64 op, .int .i64 wd, .slice (some ad) 2 bc, .int .i64 v] 61)).alloc (.cells #[.int .i64 0, .int .i64 0, .int .i64 0, .int .i64 0, .int .i64 0, .int .i64 0] 115)).alloc (.cells #[.int .i64 0, .int .i64 0, .int .i64 0, .int .i64 0, .int .i64 0, .int .i64 0] 115)).heap[w.heap.size + 1]? = some (.cells #[.int .i64 0, .int .i64 0, .int .i64 0, .int .i64 0, .int .i64 0, .int .i64 0] 115) := by
    exact heap_alloc' (by simp) (heap_alloc_at (by simp))
  have rN : (((w.alloc (.cells #[.int .i64 op, .int .i64 wd, .slice (some ad) 2 bc, .int .i64 v] 61)).alloc (.cells #[.int .i64 0, .int .i64 0, .int .i64 0, .int .i64 0, .int .i64 0, .int .i64 0] 115)).alloc (.cells #[.int .i64 0, .int .i64 0, .int .i64 0, .int .i64 0, .int .i64 0, .int .i64 0] 115)).heap[w.heap.size]? = some (.cells #[.int .i64 op, .int .i64 wd, .slice (some ad) 2 bc, .int .i64 v] 61) := heap_alloc' (by simp; omega) (heap_alloc' (by simp) (heap_alloc_new _ _))
  have hb0 : Below w.heap.size w (((w.alloc (.cells #[.int .i64 op, .int .i64 wd, .slice (some ad) 2 bc, .int .i64 v] 61)).alloc (.cells #[.int .i64 0, .int .i64 0, .int .i64 0, .int .i64 0, .int .i64 0, .int .i64 0] 115)).alloc (.cells #[.int .i64 0, .int .i64 0, .int .i64 0, .int .i64 0, .int .i64 0, .int .i64 0] 115)) := (((Below.refl _ _).alloc (Nat.le_refl _) _).alloc (by simp) _).alloc (by simp; omega) _
  have qN := cell_block (i := 2) rN
  simp at qN
  clear rN
  generalize (((w.alloc (.cells #[.int .i64 op, .int .i64 wd, .slice (some ad) 2 bc, .int .i64 v] 61)).alloc (.cells #[.int .i64 0, .int .i64 0, .int .i64 0, .int .i64 0, .int .i64 0, .int .i64 0] 115)).alloc (.cells #[.int .i64 0, .int .i64 0, .int .i64 0, .int .i64 0, .int .i64 0, .int .i64 0] 115)) = W0 at *
  have cc0 : W0.cell? ad = some (.int .i64 k0) := (HX.out _ hb0 0).trans hx0
  refine wp_loop_rounds 3 ?_
  rw [rounds_succ]
  go_wp2_with fail
  refine (HC0.out _ hb0).mono ?_
  rintro e w' ⟨rfl, y0, rfl⟩
  have rLy := heap_aft y0 (lt_of_get rL) rL
  have rRy := heap_aft y0 (lt_of_get rR) rR
  have hby := y0.below hb0 hb0.size
  have qL0 := cell_block (i := 0) rLy
  have qL1 := cell_block (i := 1) rLy
  have fL0 := free_block (i := 0) rLy
  have fL1 := free_block (i := 1) rLy
  simp at qL0 qL1
  have rL1 : ((y0.val.setCell ⟨w.heap.size + 2, 0, none⟩ (.int .i64 n0.wd)).setCell ⟨w.heap.size + 2, 1, none⟩ (.int .i64 n0.v)).heap[w.heap.size + 2]? = some (.cells #[.int .i64 n0.wd, .int .i64 n0.v, .int .i64 0, .int .i64 0, .int .i64 0, .int .i64 0] 115) := heap_set (heap_set rLy)
  have rR1 : ((y0.val.setCell ⟨w.heap.size + 2, 0, none⟩ (.int .i64 n0.wd)).setCell ⟨w.heap.size + 2, 1, none⟩ (.int .i64 n0.v)).heap[w.heap.size + 1]? = some (.cells #[.int .i64 0, .int .i64 0, .int .i64 0, .int .i64 0, .int .i64 0, .int .i64 0] 115) := heap_set_ne (heap_set_ne rRy (by omega)) (by omega)
  have hb1 : Below w.heap.size w ((y0.val.setCell ⟨w.heap.size + 2, 0, none⟩ (.int .i64 n0.wd)).setCell ⟨w.heap.size + 2, 1, none⟩ (.int .i64 n0.v)) := (hby.setCell (by first | omega | (simp; done) | (simp; omega)) _).setCell (by first | omega | (simp; done) | (simp; omega)) _
  clear cc0
  go_wp2_with fail
  clear rL rR rLy rRy qL0 qL1 fL0 fL1 hby
  have rL := rL1
  have rR := rR1
  clear rL1 rR1
  generalize ((y0.val.setCell ⟨w.heap.size + 2, 0, none⟩ (.int .i64 n0.wd)).setCell ⟨w.heap.size + 2, 1, none⟩ (.int .i64 n0.v)) = W1 at *
  have cc1 : W1.cell? ⟨ad.block, ad.off + 1, none⟩ = some (.int .i64 k1) := (HX.out _ hb1 1).trans hx1
  rw [rounds_succ]
  go_wp2_with fail
  refine (HC1.out _ hb1).mono ?_
  rintro e w' ⟨rfl, y1, rfl⟩
  have rLy := heap_aft y1 (lt_of_get rL) rL
  have rRy := heap_aft y1 (lt_of_get rR) rR
  have hby := y1.below hb1 hb1.size
  have qL0 := cell_block (i := 2) rLy
  have qL1 := cell_block (i := 3) rLy
  have fL0 := free_block (i := 2) rLy
  have fL1 := free_block (i := 3) rLy
  simp at qL0 qL1
  have rL1 : ((y1.val.setCell ⟨w.heap.size + 2, 2, none⟩ (.int .i64 n1.wd)).setCell ⟨w.heap.size + 2, 3, none⟩ (.int .i64 n1.v)).heap[w.heap.size + 2]? = some (.cells #[.int .i64 n0.wd, .int .i64 n0.v, .int .i64 n1.wd, .int .i64 n1.v, .int .i64 0, .int .i64 0] 115) := heap_set (heap_set rLy)
  have rR1 : ((y1.val.setCell ⟨w.heap.size + 2, 2, none⟩ (.int .i64 n1.wd)).setCell ⟨w.heap.size + 2, 3, none⟩ (.int .i64 n1.v)).heap[w.heap.size + 1]? = some (.cells #[.int .i64 0, .int .i64 0, .int .i64 0, .int .i64 0, .int .i64 0, .int .i64 0] 115) := heap_set_ne (heap_set_ne rRy (by omega)) (by omega)
  have hb2 : Below w.heap.size w ((y1.val.setCell ⟨w.heap.size + 2, 2, none⟩ (.int .i64 n1.wd)).setCell ⟨w.heap.size + 2, 3, none⟩ (.int .i64 n1.v)) := (hby.setCell (by first | omega | (simp; done) | (simp; omega)) _).setCell (by first | omega | (simp; done) | (simp; omega)) _
  clear cc1
  go_wp2_with fail
  clear rL rR rLy rRy qL0 qL1 fL0 fL1 hby
  have rL := rL1
  have rR := rR1
  clear rL1 rR1
  generalize ((y1.val.setCell ⟨w.heap.size + 2, 2, none⟩ (.int .i64 n1.wd)).setCell ⟨w.heap.size + 2, 3, none⟩ (.int .i64 n1.v)) = W2 at *
  rw [rounds_succ]
  have u0 := cell_block (i := 0) rL
  have p0 := cell_block (i := 0) rR
  have f0 := free_block (i := 0) rR
  have u1 := cell_block (i := 1) rL
  have p1 := cell_block (i := 1) rR
  have f1 := free_block (i := 1) rR
  have u2 := cell_block (i := 2) rL
  have p2 := cell_block (i := 2) rR
  have f2 := free_block (i := 2) rR
  have u3 := cell_block (i := 3) rL
  have p3 := cell_block (i := 3) rR
  have f3 := free_block (i := 3) rR
  have u4 := cell_block (i := 4) rL
  have p4 := cell_block (i := 4) rR
  have f4 := free_block (i := 4) rR
  have u5 := cell_block (i := 5) rL
  have p5 := cell_block (i := 5) rR
  have f5 := free_block (i := 5) rR
  simp at u0 u1 u2 u3 u4 u5 p0 p1 p2 p3 p4 p5
  go_wp2
  refine bodyPost_ret (by simp [results, Tryz.results70, go_sem, p0, p1, p2, p3, p4, p5]; try rfl) rfl ?_
  exact ⟨rfl, Below.aft (by (repeat' (first | (with_reducible exact Below.refl _ _) | (with_reducible assumption) | (with_reducible refine Below.alloc ?_ ?_ _) | (with_reducible refine Below.drew ?_) | (with_reducible refine Aft.below _ ?_ ?_) | (with_reducible refine Below.setCell_new ?_ ?_ _ _) | (with_reducible exact Nat.le_refl _) | (with_reducible refine Aft.le _ ?_) | (with_reducible refine le_alloc ?_) | (with_reducible refine le_drew ?_) | (with_reducible refine le_setCell ?_) | omega)))⟩

set_option maxRecDepth 100000 in
set_option maxHeartbeats 1600000 in
theorem fargs3 (op wd v : Int) (B : Option Addr) (bc : Nat) (P : Nat) (A : Option Addr) (cap : Nat) (ns : List Nd) (hl : ns.length ≤ 65536) (w : World) (lP : P < w.heap.size) (k0 : Nat) (n0 : Nd) (g0 : ns[k0]? = some n0) (k1 : Nat) (n1 : Nd) (g1 : ns[k1]? = some n1) (k2 : Nat) (n2 : Nd) (g2 : ns[k2]? = some n2)
    (c0 : w.cell? ⟨P, 0, none⟩ = some (.slice A ns.length cap)) (h : LiesN w A ns) (hB : LiesI w B [(k0 : Int), (k1 : Int), (k2 : Int)]) :
    Calls Tryz.prog 70 #[.agg #[.int .i64 op, .int .i64 wd, .slice B 3 bc, .int .i64 v], .func (.func 71) #[] #[.pointer (some ⟨P, 0, none⟩)]] w fun e w' => e = .returned (.agg #[.int .i64 n0.wd, .int .i64 n0.v, .int .i64 n1.wd, .int .i64 n1.v, .int .i64 n2.wd, .int .i64 n2.v]) ∧ ∃ x : Aft w, w' = x.val := by
  have HC0 := Lib.hid (fun (W : World) (hb : Below w.heap.size w W) => foldedNode2_c k0 P A cap ns n0 g0 hl W (Nat.lt_of_lt_of_le lP hb.size) ((hb.cell (p := ⟨P, 0, none⟩) lP).trans c0) (h.below hb))
  have HC1 := Lib.hid (fun (W : World) (hb : Below w.heap.size w W) => foldedNode2_c k1 P A cap ns n1 g1 hl W (Nat.lt_of_lt_of_le lP hb.size) ((hb.cell (p := ⟨P, 0, none⟩) lP).trans c0) (h.below hb))
  have HC2 := Lib.hid (fun (W : World) (hb : Below w.heap.size w W) => foldedNode2_c k2 P A cap ns n2 g2 hl W (Nat.lt_of_lt_of_le lP hb.size) ((hb.cell (p := ⟨P, 0, none⟩) lP).trans c0) (h.below hb))
  obtain ⟨ad, rfl, hbk, hcell⟩ := hB (by simp)
  have hx0 := hcell 0 k0 (by rfl)
  have hx1 := hcell 1 k1 (by rfl)
  have hx2 := hcell 2 k2 (by rfl)
  have HX := Lib.hid (fun (W : World) (hb : Below w.heap.size w W) (i : Nat) => (hb.cell (p := ad.add i) (by rw [addB]; exact hbk)))
  clear h hB c0 hcell 
  go_enter Tryz.func70, Tryz.ntmps70
  go_wp2_with fail
  have rL : (((w.alloc (.cells #[.int .i64 op, .int .i64 wd, .slice (some ad) 3 bc, .int .i64 v] 61)).alloc (.cells #[.int .i64 0, .int .i64 0, .int .i64 0, .int .i64 0, .int .i64 0, .int .i64 0] 115)).alloc (.cells #[.int .i64 0, .int .i64 0, .int .i64 0, .int .i64 0, .int .i64 0, .int .i64 0] 115)).heap[w.heap.size + 2]? = some (.cells #[.int .i64 0, .int .i64 0, .int .i64 0, .int .i64 0, .int .i64 0, .int .i64 0] 115) := by
    exact heap_alloc_at (by simp)
  have rR : (((w.alloc (.cells #[.int .i64 op, .int .i64 wd, .slice (some ad) 3 bc, .int .i64 v] 61)).alloc (.cells #[.int .i64 0, .int .i64 0, .int .i64 0, .int .i64 0, .int .i64 0, .int .i64 0] 115)).alloc (.cells #[.int .i64 0, .int .i64 0, .int .i64 0, .int .i64 0, .int .i64 0, .int .i64 0] 115)).heap[w.heap.size + 1]? = some (.cells #[.int .i64 0, .int .i64 0, .int .i64 0, .int .i64 0, .int .i64 0, .int .i64 0] 115) := by
    exact heap_alloc' (by simp) (heap_alloc_at (by simp))
  have rN : (((w.alloc (.cells #[.int .i64 op, .int .i64 wd, .slice (some ad) 3 bc, .int .i64 v] 61)).alloc (.cells #[.int .i64 0, .int .i64 0, .int .i64 0, .int .i64 0, .int .i64 0, .int .i64 0] 115)).alloc (.cells #[.int .i64 0, .int .i64 0, .int .i64 0, .int .i64 0, .int .i64 0, .int .i64 0] 115)).heap[w.heap.size]? = some (.cells #[.int .i64 op, .int .i64 wd, .slice (some ad) 3 bc, .int .i64 v] 61) := heap_alloc' (by simp; omega) (heap_alloc' (by simp) (heap_alloc_new _ _))
  have hb0 : Below w.heap.size w (((w.alloc (.cells #[.int .i64 op, .int .i64 wd, .slice (some ad) 3 bc, .int .i64 v] 61)).alloc (.cells #[.int .i64 0, .int .i64 0, .int .i64 0, .int .i64 0, .int .i64 0, .int .i64 0] 115)).alloc (.cells #[.int .i64 0, .int .i64 0, .int .i64 0, .int .i64 0, .int .i64 0, .int .i64 0] 115)) := (((Below.refl _ _).alloc (Nat.le_refl _) _).alloc (by simp) _).alloc (by simp; omega) _
  have qN := cell_block (i := 2) rN
  simp at qN
  clear rN
  generalize (((w.alloc (.cells #[.int .i64 op, .int .i64 wd, .slice (some ad) 3 bc, .int .i64 v] 61)).alloc (.cells #[.int .i64 0, .int .i64 0, .int .i64 0, .int .i64 0, .int .i64 0, .int .i64 0] 115)).alloc (.cells #[.int .i64 0, .int .i64 0, .int .i64 0, .int .i64 0, .int .i64 0, .int .i64 0] 115)) = W0 at *
  have cc0 : W0.cell? ad = some (.int .i64 k0) := (HX.out _ hb0 0).trans hx0
  refine wp_loop_rounds 4 ?_
  rw [rounds_succ]
  go_wp2_with fail
  refine (HC0.out _ hb0).mono ?_
  rintro e w' ⟨rfl, y0, rfl⟩
  have rLy := heap_aft y0 (lt_of_get rL) rL
  have rRy := heap_aft y0 (lt_of_get rR) rR
  have hby := y0.below hb0 hb0.size
  have qL0 := cell_block (i := 0) rLy
  have qL1 := cell_block (i := 1) rLy
  have fL0 := free_block (i := 0) rLy
  have fL1 := free_block (i := 1) rLy
  simp at qL0 qL1
  have rL1 : ((y0.val.setCell ⟨w.heap.size + 2, 0, none⟩ (.int .i64 n0.wd)).setCell ⟨w.heap.size + 2, 1, none⟩ (.int .i64 n0.v)).heap[w.heap.size + 2]? = some (.cells #[.int .i64 n0.wd, .int .i64 n0.v, .int .i64 0, .int .i64 0, .int .i64 0, .int .i64 0] 115) := heap_set (heap_set rLy)
  have rR1 : ((y0.val.setCell ⟨w.heap.size + 2, 0, none⟩ (.int .i64 n0.wd)).setCell ⟨w.heap.size + 2, 1, none⟩ (.int .i64 n0.v)).heap[w.heap.size + 1]? = some (.cells #[.int .i64 0, .int .i64 0, .int .i64 0, .int .i64 0, .int .i64 0, .int .i64 0] 115) := heap_set_ne (heap_set_ne rRy (by omega)) (by omega)
  have hb1 : Below w.heap.size w ((y0.val.setCell ⟨w.heap.size + 2, 0, none⟩ (.int .i64 n0.wd)).setCell ⟨w.heap.size + 2, 1, none⟩ (.int .i64 n0.v)) := (hby.setCell (by first | omega | (simp; done) | (simp; omega)) _).setCell (by first | omega | (simp; done) | (simp; omega)) _
  clear cc0
  go_wp2_with fail
  clear rL rR rLy rRy qL0 qL1 fL0 fL1 hby
  have rL := rL1
  have rR := rR1
  clear rL1 rR1
  generalize ((y0.val.setCell ⟨w.heap.size + 2, 0, none⟩ (.int .i64 n0.wd)).setCell ⟨w.heap.size + 2, 1, none⟩ (.int .i64 n0.v)) = W1 at *
  have cc1 : W1.cell? ⟨ad.block, ad.off + 1, none⟩ = some (.int .i64 k1) := (HX.out _ hb1 1).trans hx1
  rw [rounds_succ]
  go_wp2_with fail
  refine (HC1.out _ hb1).mono ?_
  rintro e w' ⟨rfl, y1, rfl⟩
  have rLy := heap_aft y1 (lt_of_get rL) rL
  have rRy := heap_aft y1 (lt_of_get rR) rR
  have hby := y1.below hb1 hb1.size
  have qL0 := cell_block (i := 2) rLy
  have qL1 := cell_block (i := 3) rLy
  have fL0 := free_block (i := 2) rLy
  have fL1 := free_block (i := 3) rLy
  simp at qL0 qL1
  have rL1 : ((y1.val.setCell ⟨w.heap.size + 2, 2, none⟩ (.int .i64 n1.wd)).setCell ⟨w.heap.size + 2, 3, none⟩ (.int .i64 n1.v)).heap[w.heap.size + 2]? = some (.cells #[.int .i64 n0.wd, .int .i64 n0.v, .int .i64 n1.wd, .int .i64 n1.v, .int .i64 0, .int .i64 0] 115) := heap_set (heap_set rLy)
  have rR1 : ((y1.val.setCell ⟨w.heap.size + 2, 2, none⟩ (.int .i64 n1.wd)).setCell ⟨w.heap.size + 2, 3, none⟩ (.int .i64 n1.v)).heap[w.heap.size + 1]? = some (.cells #[.int .i64 0, .int .i64 0, .int .i64 0, .int .i64 0, .int .i64 0, .int .i64 0] 115) := heap_set_ne (heap_set_ne rRy (by omega)) (by omega)
  have hb2 : Below w.heap.size w ((y1.val.setCell ⟨w.heap.size + 2, 2, none⟩ (.int .i64 n1.wd)).setCell ⟨w.heap.size + 2, 3, none⟩ (.int .i64 n1.v)) := (hby.setCell (by first | omega | (simp; done) | (simp; omega)) _).setCell (by first | omega | (simp; done) | (simp; omega)) _
  clear cc1
  go_wp2_with fail
  clear rL rR rLy rRy qL0 qL1 fL0 fL1 hby
  have rL := rL1
  have rR := rR1
  clear rL1 rR1
  generalize ((y1.val.setCell ⟨w.heap.size + 2, 2, none⟩ (.int .i64 n1.wd)).setCell ⟨w.heap.size + 2, 3, none⟩ (.int .i64 n1.v)) = W2 at *
  have cc2 : W2.cell? ⟨ad.block, ad.off + 2, none⟩ = some (.int .i64 k2) := (HX.out _ hb2 2).trans hx2
  rw [rounds_succ]
  go_wp2_with fail
  refine (HC2.out _ hb2).mono ?_
  rintro e w' ⟨rfl, y2, rfl⟩
  have rLy := heap_aft y2 (lt_of_get rL) rL
  have rRy := heap_aft y2 (lt_of_get rR) rR
  have hby := y2.below hb2 hb2.size
  have qL0 := cell_block (i := 4) rLy
  have qL1 := cell_block (i := 5) rLy
  have fL0 := free_block (i := 4) rLy
  have fL1 := free_block (i := 5) rLy
  simp at qL0 qL1
  have rL1 : ((y2.val.setCell ⟨w.heap.size + 2, 4, none⟩ (.int .i64 n2.wd)).setCell ⟨w.heap.size + 2, 5, none⟩ (.int .i64 n2.v)).heap[w.heap.size + 2]? = some (.cells #[.int .i64 n0.wd, .int .i64 n0.v, .int .i64 n1.wd, .int .i64 n1.v, .int .i64 n2.wd, .int .i64 n2.v] 115) := heap_set (heap_set rLy)
  have rR1 : ((y2.val.setCell ⟨w.heap.size + 2, 4, none⟩ (.int .i64 n2.wd)).setCell ⟨w.heap.size + 2, 5, none⟩ (.int .i64 n2.v)).heap[w.heap.size + 1]? = some (.cells #[.int .i64 0, .int .i64 0, .int .i64 0, .int .i64 0, .int .i64 0, .int .i64 0] 115) := heap_set_ne (heap_set_ne rRy (by omega)) (by omega)
  have hb3 : Below w.heap.size w ((y2.val.setCell ⟨w.heap.size + 2, 4, none⟩ (.int .i64 n2.wd)).setCell ⟨w.heap.size + 2, 5, none⟩ (.int .i64 n2.v)) := (hby.setCell (by first | omega | (simp; done) | (simp; omega)) _).setCell (by first | omega | (simp; done) | (simp; omega)) _
  clear cc2
  go_wp2_with fail
  clear rL rR rLy rRy qL0 qL1 fL0 fL1 hby
  have rL := rL1
  have rR := rR1
  clear rL1 rR1
  generalize ((y2.val.setCell ⟨w.heap.size + 2, 4, none⟩ (.int .i64 n2.wd)).setCell ⟨w.heap.size + 2, 5, none⟩ (.int .i64 n2.v)) = W3 at *
  rw [rounds_succ]
  have u0 := cell_block (i := 0) rL
  have p0 := cell_block (i := 0) rR
  have f0 := free_block (i := 0) rR
  have u1 := cell_block (i := 1) rL
  have p1 := cell_block (i := 1) rR
  have f1 := free_block (i := 1) rR
  have u2 := cell_block (i := 2) rL
  have p2 := cell_block (i := 2) rR
  have f2 := free_block (i := 2) rR
  have u3 := cell_block (i := 3) rL
  have p3 := cell_block (i := 3) rR
  have f3 := free_block (i := 3) rR
  have u4 := cell_block (i := 4) rL
  have p4 := cell_block (i := 4) rR
  have f4 := free_block (i := 4) rR
  have u5 := cell_block (i := 5) rL
  have p5 := cell_block (i := 5) rR
  have f5 := free_block (i := 5) rR
  simp at u0 u1 u2 u3 u4 u5 p0 p1 p2 p3 p4 p5
  go_wp2
  refine bodyPost_ret (by simp [results, Tryz.results70, go_sem, p0, p1, p2, p3, p4, p5]; try rfl) rfl ?_
  exact ⟨rfl, Below.aft (by (repeat' (first | (with_reducible exact Below.refl _ _) | (with_reducible assumption) | (with_reducible refine Below.alloc ?_ ?_ _) | (with_reducible refine Below.drew ?_) | (with_reducible refine Aft.below _ ?_ ?_) | (with_reducible refine Below.setCell_new ?_ ?_ _ _) | (with_reducible exact Nat.le_refl _) | (with_reducible refine Aft.le _ ?_) | (with_reducible refine le_alloc ?_) | (with_reducible refine le_drew ?_) | (with_reducible refine le_setCell ?_) | omega)))⟩

theorem fargs_c (op wd v : Int) (args : List Int) (al : args.length ≤ 3) (B : Option Addr) (bc : Nat) (P : Nat) (A : Option Addr) (cap : Nat) (bs : List Nd) (hl : bs.length ≤ 65536) (w : World) (lP : P < w.heap.size)
    (harg : ∀ i, i < args.length → ∃ (j : Nat) (m : Nd), args[i]? = some (j : Int) ∧ bs[j]? = some m)
    (c0 : w.cell? ⟨P, 0, none⟩ = some (.slice A bs.length cap)) (h : LiesN w A bs) (hB : LiesI w B args) :
    Calls Tryz.prog 70 #[.agg #[.int .i64 op, .int .i64 wd, .slice B args.length bc, .int .i64 v], .func (.func 71) #[] #[.pointer (some ⟨P, 0, none⟩)]] w fun e w' => e = .returned (.agg #[.int .i64 (wAt bs args 0), .int .i64 (cvA bs args 0), .int .i64 (wAt bs args 1), .int .i64 (cvA bs args 1), .int .i64 (wAt bs args 2), .int .i64 (cvA bs args 2)]) ∧ ∃ x : Aft w, w' = x.val := by
  match args, al with
  | [], _ =>
    rw [wAt_out (i := 0) (by simp), cvA_out (i := 0) (by simp)]
    rw [wAt_out (i := 1) (by simp), cvA_out (i := 1) (by simp)]
    rw [wAt_out (i := 2) (by simp), cvA_out (i := 2) (by simp)]
    exact fargs0 op wd v B bc P A cap bs hl w lP  c0 h hB
  | [a0], _ =>
    obtain ⟨j0, m0, p0, q0⟩ := harg 0 (by simp)
    rw [wAt_in p0 q0, cvA_in p0 q0]
    obtain rfl : a0 = (j0 : Int) := by simpa using p0
    rw [wAt_out (i := 1) (by simp), cvA_out (i := 1) (by simp)]
    rw [wAt_out (i := 2) (by simp), cvA_out (i := 2) (by simp)]
    exact fargs1 op wd v B bc P A cap bs hl w lP j0 m0 q0 c0 h hB
  | [a0, a1], _ =>
    obtain ⟨j0, m0, p0, q0⟩ := harg 0 (by simp)
    rw [wAt_in p0 q0, cvA_in p0 q0]
    obtain rfl : a0 = (j0 : Int) := by simpa using p0
    obtain ⟨j1, m1, p1, q1⟩ := harg 1 (by simp)
    rw [wAt_in p1 q1, cvA_in p1 q1]
    obtain rfl : a1 = (j1 : Int) := by simpa using p1
    rw [wAt_out (i := 2) (by simp), cvA_out (i := 2) (by simp)]
    exact fargs2 op wd v B bc P A cap bs hl w lP j0 m0 q0 j1 m1 q1 c0 h hB
  | [a0, a1, a2], _ =>
    obtain ⟨j0, m0, p0, q0⟩ := harg 0 (by simp)
    rw [wAt_in p0 q0, cvA_in p0 q0]
    obtain rfl : a0 = (j0 : Int) := by simpa using p0
    obtain ⟨j1, m1, p1, q1⟩ := harg 1 (by simp)
    rw [wAt_in p1 q1, cvA_in p1 q1]
    obtain rfl : a1 = (j1 : Int) := by simpa using p1
    obtain ⟨j2, m2, p2, q2⟩ := harg 2 (by simp)
    rw [wAt_in p2 q2, cvA_in p2 q2]
    obtain rfl : a2 = (j2 : Int) := by simpa using p2
    exact fargs3 op wd v B bc P A cap bs hl w lP j0 m0 q0 j1 m1 q1 j2 m2 q2 c0 h hB

end Go.Proofs.YtkdonapgonegkaaGreatDoor

set_option linter.unusedSimpArgs false
set_option linter.unusedVariables false
namespace Go.Proofs.YtkdonapgonegkaaGreatDoor
open Go.RowKit Go.BigFrame

/-- The first place at which something holds, or -1. -/
def ixF (p : Int → Bool) : Nat → List Int → Int
  | _, [] => -1
  | k, x :: r => if p x then (k : Int) else ixF p (k + 1) r
theorem ixF_any (p : Int → Bool) : ∀ (k : Nat) (xs : List Int), decide (0 ≤ ixF p k xs) = xs.any p
  | _, [] => rfl
  | k, x :: r => by
    rw [List.any_cons]
    unfold ixF
    cases p x
    · simp [ixF_any p (k + 1) r]
    · simp
theorem ixF_drop {p : Int → Bool} {xs : List Int} {k : Nat} {x : Int} (h : xs[k]? = some x) : ixF p k (xs.drop k) = if p x then (k : Int) else ixF p (k + 1) (xs.drop (k + 1)) := by
  obtain ⟨hk, rfl⟩ := List.getElem?_eq_some_iff.1 h
  rw [List.drop_eq_getElem_cons hk]; rfl

set_option maxRecDepth 100000 in
set_option maxHeartbeats 1600000 in
theorem IndexFuncF_c (p : Int → Bool) (P : Nat) (A : Option Addr) (cap : Nat) (xs : List Int) (hl : xs.length ≤ 65536) (w : World) (hA : LiesI w A xs)
    (hK : ∀ x ∈ xs, Calls Tryz.prog 68 #[.int .i64 x, .pointer (some ⟨P, 0, none⟩)] w fun e w' => e = .returned (.bool (p x)) ∧ w = w') :
    Calls Tryz.prog 107 #[.slice A xs.length cap, .func (.func 68) #[] #[.pointer (some ⟨P, 0, none⟩)]] w fun e w' => e = .returned (.int .i64 (ixF p 0 xs)) ∧ w = w' := by
  have HA := Lib.hid hA
  have HK := Lib.hid hK
  have HR := Lib.hid (show ixF p 0 xs = ixF p 0 (xs.drop 0) from rfl)
  clear hA hK
  generalize ixF p 0 xs = r at *
  go_enter Tryz.func107, Tryz.ntmps107
  go_wp2
  go_loop [8] (fun v8 => ∃ k : Nat, k ≤ xs.length ∧ v8 = .int .i64 k ∧ r = ixF p k (xs.drop k)) (fun v8 => xs.length - (intOf v8).toNat)
  case atStart => exact ⟨0, by omega, rfl, HR.out⟩
  case round =>
    obtain ⟨k, hk, rfl, hr⟩ := hrel
    have HQ := Lib.hid hr
    clear hr HR
    by_cases hlt : k < xs.length
    · have hkk : (k : Int) < xs.length := by omega
      have HX := Lib.hid (List.getElem?_eq_getElem hlt)
      have HM := Lib.hid (List.getElem_mem hlt)
      generalize xs[k] = x at *
      obtain ⟨ad, rfl, hbl, c0⟩ := HA.out.cell HX.out
      have HD := Lib.hid (ixF_drop (p := p) HX.out)
      have HC := Lib.hid (HK.out x HM.out)
      obtain ⟨b, hb⟩ : ∃ b, p x = b := ⟨_, rfl⟩
      rw [hb] at HC HD
      clear hb
      cases b with
      | true =>
        have HE := Lib.hid (show (k : Int) = r from (HQ.out.trans HD.out).symm)
        go_wp2_with (go_at_call 68; refine HC.out.mono ?_; rintro e w' ⟨rfl, rfl⟩)
        go_ret
        exact ⟨retI HE.out, rfl⟩
      | false =>
        have HE := Lib.hid (show r = ixF p (k + 1) (xs.drop (k + 1)) from HQ.out.trans HD.out)
        go_wp2_with (go_at_call 68; refine HC.out.mono ?_; rintro e w' ⟨rfl, rfl⟩)
        go_round
        case rel => exact ⟨k + 1, by omega, by go_num, HE.out⟩
        case measure => simp [intOf]; omega
    · obtain rfl : k = xs.length := by omega
      have HE := Lib.hid (show -1 = r from by rw [HQ.out, List.drop_length]; rfl)
      go_wp2
      go_ret
      exact ⟨retI HE.out, rfl⟩

set_option maxRecDepth 100000 in
set_option maxHeartbeats 1600000 in
theorem ContainsFuncF_c (p : Int → Bool) (P : Nat) (A : Option Addr) (cap : Nat) (xs : List Int) (hl : xs.length ≤ 65536) (w : World) (hA : LiesI w A xs)
    (hK : ∀ x ∈ xs, Calls Tryz.prog 68 #[.int .i64 x, .pointer (some ⟨P, 0, none⟩)] w fun e w' => e = .returned (.bool (p x)) ∧ w = w') :
    Calls Tryz.prog 67 #[.slice A xs.length cap, .func (.func 68) #[] #[.pointer (some ⟨P, 0, none⟩)]] w fun e w' => e = .returned (.bool (xs.any p)) ∧ w = w' := by
  have HI := Lib.hid (IndexFuncF_c p P A cap xs hl w hA hK)
  have HE := Lib.hid (ixF_any p 0 xs)
  clear hA hK
  generalize ixF p 0 xs = r at *
  go_enter Tryz.func67, Tryz.ntmps67
  go_wp2_with (go_at_call 107; refine HI.out.mono ?_; rintro e w' ⟨rfl, rfl⟩)
  go_ret
  exact ⟨congrArg (fun b => Ending.returned (.bool b)) HE.out, rfl⟩

/-- A node, as a result: its arguments in a row of its own. -/
def WithN (w : World) (m : Nd) (e : Ending) (w' : World) : Prop := ∃ A' cap', e = .returned (.agg #[.int .i64 m.op, .int .i64 m.wd, .slice A' m.args.length cap', .int .i64 m.v]) ∧ LiesI w' A' m.args ∧ (∀ ad, A' = some ad → w.heap.size ≤ ad.block ∧ ∃ cur, w'.heap[ad.block]? = some (.cells cur 3 (0, 0))) ∧ Below w.heap.size w w'

set_option maxRecDepth 100000 in
set_option maxHeartbeats 1600000 in
theorem foldedNode_c (A : Option Addr) (cap : Nat) (bs : List Nd) (hl : bs.length ≤ 65536) (op wd v : Int) (args : List Int) (al : args.length ≤ 3) (B : Option Addr) (bc : Nat) (w : World) (hA : LiesN w A bs) (hB : LiesI w B args)
    (harg : ∀ i, i < args.length → ∃ (j : Nat) (m : Nd), args[i]? = some (j : Int) ∧ bs[j]? = some m)
    (hfit : stays bs ⟨op, wd, args, v⟩ = false → Fit3 op wd v (wAt bs args 0) (cvA bs args 0) (wAt bs args 1) (cvA bs args 1)) :
    Calls Tryz.prog 37 #[.slice A bs.length cap, .agg #[.int .i64 op, .int .i64 wd, .slice B args.length bc, .int .i64 v]] w (WithN w (fldN bs ⟨op, wd, args, v⟩)) := by
  have HCF := Lib.hid (show ∀ W : World, Below w.heap.size w W → W.cell? ⟨w.heap.size, 0, none⟩ = some (.slice A bs.length cap) → Calls Tryz.prog 67 #[.slice B args.length bc, .func (.func 68) #[] #[.pointer (some ⟨w.heap.size, 0, none⟩)]] W fun e w' => e = .returned (.bool (args.any (opC bs))) ∧ W = w' from fun W hb c0 =>
    ContainsFuncF_c (opC bs) w.heap.size B bc args (by omega) W (hB.below hb) (fun x hx => by
      obtain ⟨i, hi, rfl⟩ := List.mem_iff_getElem.1 hx
      obtain ⟨j, m, h1, h2⟩ := harg i hi
      have e : args[i] = (j : Int) := by rw [List.getElem?_eq_getElem hi] at h1; exact Option.some.inj h1
      rw [e, opC_in h2]
      exact foldedNode1_c j w.heap.size A cap bs m h2 hl W c0 (hA.below hb)))
  have HCP := Lib.hid (fun (W : World) (hb : Below w.heap.size w W) => copied_c op wd v B bc args (by omega) W (hB.below hb))
  cases any_h : args.any (opC bs) with
  | true =>
    have HST := Lib.hid (show fldN bs ⟨op, wd, args, v⟩ = ⟨op, wd, args, v⟩ from if_pos (by unfold stays; simp only; rw [any_h]; rfl))
    clear hfit harg
    go_enter Tryz.func37, Tryz.ntmps37
    go_upto_region 1 with (fail)
    have rP : (((w.alloc (.cells #[.slice A bs.length cap] 23)).alloc (.cells #[.int .i64 op, .int .i64 wd, .slice B args.length bc, .int .i64 v] 61)).alloc (.cells #[.int .i64 0, .int .i64 0, .slice none 0 0, .int .i64 0] 61)).heap[w.heap.size]? = some (.cells #[.slice A bs.length cap] 23) := heap_alloc' (by simp; omega) (heap_alloc' (by simp) (heap_alloc_new _ _))
    have rN : (((w.alloc (.cells #[.slice A bs.length cap] 23)).alloc (.cells #[.int .i64 op, .int .i64 wd, .slice B args.length bc, .int .i64 v] 61)).alloc (.cells #[.int .i64 0, .int .i64 0, .slice none 0 0, .int .i64 0] 61)).heap[w.heap.size + 1]? = some (.cells #[.int .i64 op, .int .i64 wd, .slice B args.length bc, .int .i64 v] 61) := heap_alloc' (by simp) (heap_alloc_at (by simp))
    have rR : (((w.alloc (.cells #[.slice A bs.length cap] 23)).alloc (.cells #[.int .i64 op, .int .i64 wd, .slice B args.length bc, .int .i64 v] 61)).alloc (.cells #[.int .i64 0, .int .i64 0, .slice none 0 0, .int .i64 0] 61)).heap[w.heap.size + 2]? = some (.cells #[.int .i64 0, .int .i64 0, .slice none 0 0, .int .i64 0] 61) := heap_alloc_at (by simp)
    have hb0 : Below w.heap.size w (((w.alloc (.cells #[.slice A bs.length cap] 23)).alloc (.cells #[.int .i64 op, .int .i64 wd, .slice B args.length bc, .int .i64 v] 61)).alloc (.cells #[.int .i64 0, .int .i64 0, .slice none 0 0, .int .i64 0] 61)) := (((Below.refl _ _).alloc (Nat.le_refl _) _).alloc (by simp) _).alloc (by simp; omega) _
    generalize (((w.alloc (.cells #[.slice A bs.length cap] 23)).alloc (.cells #[.int .i64 op, .int .i64 wd, .slice B args.length bc, .int .i64 v] 61)).alloc (.cells #[.int .i64 0, .int .i64 0, .slice none 0 0, .int .i64 0] 61)) = W0 at *
    have qP := cell_block (i := 0) rP
    have n0 := cell_block (i := 0) rN
    have n1 := cell_block (i := 1) rN
    have n2 := cell_block (i := 2) rN
    have n3 := cell_block (i := 3) rN
    simp at qP n0 n1 n2 n3
    have HC1 := Lib.hid (HCF.out W0 hb0 qP)
    rw [any_h] at HC1
    clear hA hB HCF
    go_wp2_with (go_at_call 67; refine HC1.out.mono ?_; rintro e w' ⟨rfl, rfl⟩)
    refine (HCP.out W0 hb0).mono ?_
    rintro e W2 ⟨A', cap', rfl, _, hl2, hfr, hb2⟩
    have rR2 := (hb2.block _ (lt_of_get rR)).trans rR
    have hbw := hb0.trans (hb2.mono hb0.size)
    have lz := lt_of_get rR
    have hfr2 : ∀ ad, A' = some ad → w.heap.size + 2 < ad.block := fun ad h => by have := (hfr ad h).1; omega
    have HF := Lib.hid (show WithN w ⟨op, wd, args, v⟩ (.returned (.agg #[.int .i64 op, .int .i64 wd, .slice A' args.length cap', .int .i64 v])) ((((W2.setCell ⟨w.heap.size + 2, 0, none⟩ (.int .i64 op)).setCell ⟨w.heap.size + 2, 1, none⟩ (.int .i64 wd)).setCell ⟨w.heap.size + 2, 2, none⟩ (.slice A' args.length cap')).setCell ⟨w.heap.size + 2, 3, none⟩ (.int .i64 v)) from
      ⟨A', cap', rfl, (((hl2.set hfr2).set hfr2).set hfr2).set hfr2, fun ad h => (by obtain ⟨h1, cur, h2⟩ := hfr ad h; exact ⟨by omega, cur, by rw [heap_setCell_ne (by omega), heap_setCell_ne (by omega), heap_setCell_ne (by omega), heap_setCell_ne (by omega)]; exact h2⟩), (((hbw.setCell (by simp) _).setCell (by simp) _).setCell (by simp) _).setCell (by simp) _⟩)
    clear hl2 hfr hfr2 hbw hb2 hb0 rR rP rN qP n0 n1 n2 n3
    have r0 := cell_block (i := 0) rR2
    have e0 := free_block (i := 0) rR2
    have r1 := cell_block (i := 1) rR2
    have e1 := free_block (i := 1) rR2
    have r2 := cell_block (i := 2) rR2
    have e2 := free_block (i := 2) rR2
    have r3 := cell_block (i := 3) rR2
    have e3 := free_block (i := 3) rR2
    simp at r0 r1 r2 r3
    go_wp2
    refine bodyPost_ret (by simp [results, Tryz.results37, go_sem, r0, r1, r2, r3]; try rfl) rfl ?_
    rw [HST.out]
    exact HF.out

  | false =>
    by_cases h0 : args = []
    · have HST := Lib.hid (show fldN bs ⟨op, wd, args, v⟩ = ⟨op, wd, args, v⟩ from if_pos (by unfold stays; simp only; rw [h0]; simp))
      clear hfit harg
      have hz : args.length = 0 := by rw [h0]; rfl
      have hz1 : ((args.length : Int) == 0) = true := by simp [hz]
      clear h0 hz
      go_enter Tryz.func37, Tryz.ntmps37
      go_upto_region 1 with (fail)
      have rP : (((w.alloc (.cells #[.slice A bs.length cap] 23)).alloc (.cells #[.int .i64 op, .int .i64 wd, .slice B args.length bc, .int .i64 v] 61)).alloc (.cells #[.int .i64 0, .int .i64 0, .slice none 0 0, .int .i64 0] 61)).heap[w.heap.size]? = some (.cells #[.slice A bs.length cap] 23) := heap_alloc' (by simp; omega) (heap_alloc' (by simp) (heap_alloc_new _ _))
      have rN : (((w.alloc (.cells #[.slice A bs.length cap] 23)).alloc (.cells #[.int .i64 op, .int .i64 wd, .slice B args.length bc, .int .i64 v] 61)).alloc (.cells #[.int .i64 0, .int .i64 0, .slice none 0 0, .int .i64 0] 61)).heap[w.heap.size + 1]? = some (.cells #[.int .i64 op, .int .i64 wd, .slice B args.length bc, .int .i64 v] 61) := heap_alloc' (by simp) (heap_alloc_at (by simp))
      have rR : (((w.alloc (.cells #[.slice A bs.length cap] 23)).alloc (.cells #[.int .i64 op, .int .i64 wd, .slice B args.length bc, .int .i64 v] 61)).alloc (.cells #[.int .i64 0, .int .i64 0, .slice none 0 0, .int .i64 0] 61)).heap[w.heap.size + 2]? = some (.cells #[.int .i64 0, .int .i64 0, .slice none 0 0, .int .i64 0] 61) := heap_alloc_at (by simp)
      have hb0 : Below w.heap.size w (((w.alloc (.cells #[.slice A bs.length cap] 23)).alloc (.cells #[.int .i64 op, .int .i64 wd, .slice B args.length bc, .int .i64 v] 61)).alloc (.cells #[.int .i64 0, .int .i64 0, .slice none 0 0, .int .i64 0] 61)) := (((Below.refl _ _).alloc (Nat.le_refl _) _).alloc (by simp) _).alloc (by simp; omega) _
      generalize (((w.alloc (.cells #[.slice A bs.length cap] 23)).alloc (.cells #[.int .i64 op, .int .i64 wd, .slice B args.length bc, .int .i64 v] 61)).alloc (.cells #[.int .i64 0, .int .i64 0, .slice none 0 0, .int .i64 0] 61)) = W0 at *
      have qP := cell_block (i := 0) rP
      have n0 := cell_block (i := 0) rN
      have n1 := cell_block (i := 1) rN
      have n2 := cell_block (i := 2) rN
      have n3 := cell_block (i := 3) rN
      simp at qP n0 n1 n2 n3
      have HC1 := Lib.hid (HCF.out W0 hb0 qP)
      rw [any_h] at HC1
      clear hA hB HCF
      go_wp2_with (go_at_call 67; refine HC1.out.mono ?_; rintro e w' ⟨rfl, rfl⟩)
      refine (HCP.out W0 hb0).mono ?_
      rintro e W2 ⟨A', cap', rfl, _, hl2, hfr, hb2⟩
      have rR2 := (hb2.block _ (lt_of_get rR)).trans rR
      have hbw := hb0.trans (hb2.mono hb0.size)
      have lz := lt_of_get rR
      have hfr2 : ∀ ad, A' = some ad → w.heap.size + 2 < ad.block := fun ad h => by have := (hfr ad h).1; omega
      have HF := Lib.hid (show WithN w ⟨op, wd, args, v⟩ (.returned (.agg #[.int .i64 op, .int .i64 wd, .slice A' args.length cap', .int .i64 v])) ((((W2.setCell ⟨w.heap.size + 2, 0, none⟩ (.int .i64 op)).setCell ⟨w.heap.size + 2, 1, none⟩ (.int .i64 wd)).setCell ⟨w.heap.size + 2, 2, none⟩ (.slice A' args.length cap')).setCell ⟨w.heap.size + 2, 3, none⟩ (.int .i64 v)) from
        ⟨A', cap', rfl, (((hl2.set hfr2).set hfr2).set hfr2).set hfr2, fun ad h => (by obtain ⟨h1, cur, h2⟩ := hfr ad h; exact ⟨by omega, cur, by rw [heap_setCell_ne (by omega), heap_setCell_ne (by omega), heap_setCell_ne (by omega), heap_setCell_ne (by omega)]; exact h2⟩), (((hbw.setCell (by simp) _).setCell (by simp) _).setCell (by simp) _).setCell (by simp) _⟩)
      clear hl2 hfr hfr2 hbw hb2 hb0 rR rP rN qP n0 n1 n2 n3
      have r0 := cell_block (i := 0) rR2
      have e0 := free_block (i := 0) rR2
      have r1 := cell_block (i := 1) rR2
      have e1 := free_block (i := 1) rR2
      have r2 := cell_block (i := 2) rR2
      have e2 := free_block (i := 2) rR2
      have r3 := cell_block (i := 3) rR2
      have e3 := free_block (i := 3) rR2
      simp at r0 r1 r2 r3
      go_wp2
      refine bodyPost_ret (by simp [results, Tryz.results37, go_sem, r0, r1, r2, r3]; try rfl) rfl ?_
      rw [HST.out]
      exact HF.out

    · have hne : stays bs ⟨op, wd, args, v⟩ = false := by
        unfold stays; simp only; rw [any_h]
        cases args with
        | nil => exact absurd rfl h0
        | cons a r => rfl
      have HFT := Lib.hid (hfit hne)
      have HST := Lib.hid (show fldN bs ⟨op, wd, args, v⟩ = ⟨0, wd, [], resG op wd v (wAt bs args 0) (cvA bs args 0) (wAt bs args 1) (cvA bs args 1) (cvA bs args 2)⟩ from if_neg (by rw [hne]; decide))
      have hz1 : ((args.length : Int) == 0) = false := by
        have : args.length ≠ 0 := fun e => h0 (List.length_eq_zero_iff.1 e)
        simpa using this
      clear h0 hne hfit
      have HAR := Lib.hid (fun (W : World) (hb : Below w.heap.size w W) (lP : w.heap.size < W.heap.size) (c0 : W.cell? ⟨w.heap.size, 0, none⟩ = some (.slice A bs.length cap)) => fargs_c op wd v args al B bc w.heap.size A cap bs hl W lP harg c0 (hA.below hb) (hB.below hb))
      clear harg
      go_enter Tryz.func37, Tryz.ntmps37
      go_upto_region 1 with (fail)
      have rP : (((w.alloc (.cells #[.slice A bs.length cap] 23)).alloc (.cells #[.int .i64 op, .int .i64 wd, .slice B args.length bc, .int .i64 v] 61)).alloc (.cells #[.int .i64 0, .int .i64 0, .slice none 0 0, .int .i64 0] 61)).heap[w.heap.size]? = some (.cells #[.slice A bs.length cap] 23) := heap_alloc' (by simp; omega) (heap_alloc' (by simp) (heap_alloc_new _ _))
      have rN : (((w.alloc (.cells #[.slice A bs.length cap] 23)).alloc (.cells #[.int .i64 op, .int .i64 wd, .slice B args.length bc, .int .i64 v] 61)).alloc (.cells #[.int .i64 0, .int .i64 0, .slice none 0 0, .int .i64 0] 61)).heap[w.heap.size + 1]? = some (.cells #[.int .i64 op, .int .i64 wd, .slice B args.length bc, .int .i64 v] 61) := heap_alloc' (by simp) (heap_alloc_at (by simp))
      have rR : (((w.alloc (.cells #[.slice A bs.length cap] 23)).alloc (.cells #[.int .i64 op, .int .i64 wd, .slice B args.length bc, .int .i64 v] 61)).alloc (.cells #[.int .i64 0, .int .i64 0, .slice none 0 0, .int .i64 0] 61)).heap[w.heap.size + 2]? = some (.cells #[.int .i64 0, .int .i64 0, .slice none 0 0, .int .i64 0] 61) := heap_alloc_at (by simp)
      have hb0 : Below w.heap.size w (((w.alloc (.cells #[.slice A bs.length cap] 23)).alloc (.cells #[.int .i64 op, .int .i64 wd, .slice B args.length bc, .int .i64 v] 61)).alloc (.cells #[.int .i64 0, .int .i64 0, .slice none 0 0, .int .i64 0] 61)) := (((Below.refl _ _).alloc (Nat.le_refl _) _).alloc (by simp) _).alloc (by simp; omega) _
      generalize (((w.alloc (.cells #[.slice A bs.length cap] 23)).alloc (.cells #[.int .i64 op, .int .i64 wd, .slice B args.length bc, .int .i64 v] 61)).alloc (.cells #[.int .i64 0, .int .i64 0, .slice none 0 0, .int .i64 0] 61)) = W0 at *
      have qP := cell_block (i := 0) rP
      have n0 := cell_block (i := 0) rN
      have n1 := cell_block (i := 1) rN
      have n2 := cell_block (i := 2) rN
      have n3 := cell_block (i := 3) rN
      simp at qP n0 n1 n2 n3
      have HC1 := Lib.hid (HCF.out W0 hb0 qP)
      rw [any_h] at HC1
      have lP := lt_of_get rP
      have HA2 := Lib.hid (fun (z : Aft W0) => HAR.out z.val (z.below hb0 hb0.size) (z.lt' lP) (by have := cell_block (i := 0) (heap_aft z lP rP); simpa using this))
      have lN := lt_of_get rN
      have lR := lt_of_get rR
      obtain ⟨R, hR⟩ : ∃ R, resG op wd v (wAt bs args 0) (cvA bs args 0) (wAt bs args 1) (cvA bs args 1) (cvA bs args 2) = R := ⟨_, rfl⟩
      have HRS := Lib.hid (fun (W : World) => resultOf_c op wd v (wAt bs args 0) (cvA bs args 0) (wAt bs args 1) (cvA bs args 1) (wAt bs args 2) (cvA bs args 2) HFT.out B args.length bc W)
      rw [hR] at HRS HST
      have HCO := Lib.hid (fun (W : World) => (constant_c wd R W).mono (fun e w' (h : e = .returned (.agg #[.int .i64 0, .int .i64 wd, .slice none 0 0, .int .i64 R]) ∧ Below W.heap.size W w') => (show e = .returned (.agg #[.int .i64 0, .int .i64 wd, .slice none 0 0, .int .i64 R]) ∧ ∃ x : Aft W, w' = x.val from ⟨h.1, Below.aft h.2⟩)))
      clear hA hB HCF HCP HAR hR
      go_wp2_with (go_at_call 67; refine HC1.out.mono ?_; rintro e w' ⟨rfl, rfl⟩)
      refine wp_region_aft_tail 8 (by kernel_rfl) (by kernel_rfl) ?_
      simp only [List.take_succ_cons, List.take_zero, List.drop_succ_cons, List.drop_zero]
      repeat (go_big_quiet_step (first | (go_at_call 70; exact Calls.qa (HA2.out _)) | (go_at_call 69; exact Calls.qa (HRS.out _)) | (go_at_call 61; exact Calls.qa (HCO.out _))))
      refine wpQuiet_nil ?_
      intro y
      have rR2 := heap_aft y lR rR
      have hby := y.below hb0 hb0.size
      have HF := Lib.hid (show WithN w ⟨0, wd, [], R⟩ (.returned (.agg #[.int .i64 0, .int .i64 wd, .slice none 0 0, .int .i64 R])) ((((y.val.setCell ⟨w.heap.size + 2, 0, none⟩ (.int .i64 0)).setCell ⟨w.heap.size + 2, 1, none⟩ (.int .i64 wd)).setCell ⟨w.heap.size + 2, 2, none⟩ (.slice none 0 0)).setCell ⟨w.heap.size + 2, 3, none⟩ (.int .i64 R)) from
        ⟨none, 0, rfl, fun h => by simp at h, fun ad h => (by cases h), (((hby.setCell (by simp) _).setCell (by simp) _).setCell (by simp) _).setCell (by simp) _⟩)
      clear hby rP rN rR hb0 qP n0 n1 n2 n3 HA2 HRS HCO HC1
      generalize y.val = W2 at *
      have r0 := cell_block (i := 0) rR2
      have e0 := free_block (i := 0) rR2
      have r1 := cell_block (i := 1) rR2
      have e1 := free_block (i := 1) rR2
      have r2 := cell_block (i := 2) rR2
      have e2 := free_block (i := 2) rR2
      have r3 := cell_block (i := 3) rR2
      have e3 := free_block (i := 3) rR2
      simp at r0 r1 r2 r3
      go_wp2
      refine bodyPost_ret (by simp [results, Tryz.results37, go_sem, r0, r1, r2, r3]; try rfl) rfl ?_
      rw [HST.out]
      exact HF.out

end Go.Proofs.YtkdonapgonegkaaGreatDoor

set_option linter.unusedSimpArgs false
set_option linter.unusedVariables false
namespace Go.Proofs.YtkdonapgonegkaaGreatDoor
open Go.RowKit Go.BigFrame

theorem NewRow.lies {w : World} {g n k : Nat} {T : List Nd} {xs : List Value} (h : NewRow w g n T k xs) (hk : k ≤ T.length) : LiesN w (some ⟨g, 0, none⟩) (T.take k) := fun hp => ⟨_, rfl, (h.1.lt g rfl).2, fun i m hi => by
  have hik : i < k := by
    have := (List.getElem?_eq_some_iff.1 hi).1
    rw [List.length_take] at this; omega
  rw [List.getElem?_take, if_pos hik] at hi
  obtain ⟨f0, f1, f3, B, bc, f2, hl, _⟩ := h.2 i m hik hi
  exact ⟨h.1.cells (g := g) rfl _ _ f0, (by rw [add_add]; exact h.1.cells (g := g) rfl _ _ f1), (by rw [add_add]; exact h.1.cells (g := g) rfl _ _ f3), B, bc, (by rw [add_add]; exact h.1.cells (g := g) rfl _ _ f2), hl⟩⟩
theorem NewRow.below {w W : World} {g n k : Nat} {T : List Nd} {xs : List Value} (h : NewRow w g n T k xs) (hb : Below w.heap.size w W) : NewRow W g n T k xs := ⟨own_below h.1 hb, h.2.below hb⟩

theorem WithN.from_ {w y : World} {m : Nd} (hb : Below w.heap.size w y) {e : Ending} {w' : World} (h : WithN y m e w') : WithN w m e w' := by
  obtain ⟨A', cap', h1, h2, h3, h4⟩ := h
  exact ⟨A', cap', h1, h2, fun ad he => ⟨Nat.le_trans hb.size (h3 ad he).1, (h3 ad he).2⟩, hb.trans (h4.mono hb.size)⟩

set_option maxRecDepth 100000 in
set_option maxHeartbeats 3200000 in
theorem FoldedOf_c (A : Option Addr) (cap : Nat) (ls : List Int) (hls : ls.length ≤ 65536) (N : Option Addr) (capN : Nat) (ns : List Nd) (hns : ns.length ≤ 65536) (hcap : ns.length ≤ capN) (hla : ∀ n ∈ ns, n.args.length ≤ 65536) (w : World) (hA : LiesI w A ls) (hN : LiesN w N ns) (ht : TabOps w) :
    Calls Tryz.prog 11 #[.slice A ls.length cap, .slice N ns.length capN] w (NodesE w (chk ls ns).2 (fldL ns)) := by
  have HC := errorOfGraph_c A cap ls hls N capN ns hns hcap hla w hA hN ht
  by_cases h0 : (chk ls ns).2 = 0
  case neg =>
    generalize (chk ls ns).2 = er at *
    have HC := Lib.hid HC
    have HE := Lib.hid h0
    have n1 : (er == 0) = false := by simpa using h0
    have n2 : (er != 0) = true := by simpa using h0
    clear h0 hA hN ht hla hcap
    go_enter Tryz.func11, Tryz.ntmps11
    go_wp2_with fail
    refine HC.out.mono ?_
    rintro e w' ⟨rfl, y, rfl⟩
    have hbF := y.pf
    go_wp2
    go_ret2
    exact NodesE.bad HE.out hbF
  rw [h0] at HC ⊢
  obtain ⟨i0, hi, hz0, hz1, hz2⟩ := info_parts node_info
  have HC := Lib.hid HC
  have HN := Lib.hid hN
  have HND := Lib.hid (chk_nodes h0)
  have HFC := Lib.hid (fitC_of h0)
  have HT := Lib.hid (fldL_len ns)
  have HTT := Lib.hid (fun (k : Nat) (h : k ≤ ns.length) => fldL_take h)
  have HTA := Lib.hid (fun (k : Nat) (n : Nd) (h : ns[k]? = some n) => fldL_at h)
  clear h0 hA hN ht hla hcap
  generalize fldL ns = T at *
  go_enter Tryz.func11, Tryz.ntmps11
  go_wp2_with fail
  refine HC.out.mono ?_
  rintro e w' ⟨rfl, y, rfl⟩
  have hbF := y.pf
  generalize y.val = W0 at *
  go_wp2_with (refine wpList_make_full _ rfl _ _ 23 rfl W0.heap.size 61 i0 _ 4 Tryz.underlying23 hi hz0 hz1 .i64 .i64 _ _ ns.length rfl rfl rfl rfl (by rw [hz2]; omega) (by unfold maxLen; omega) (Nat.le_refl _) ?_; intro W1 hown hgr)
  have hb1 : Below w.heap.size w W1 := hbF.grown hgr hbF.size (fun q hq => by cases hq)
  have hgw : w.heap.size ≤ W0.heap.size := hbF.size
  have R0 := Lib.hid hown
  clear hown hgr hbF
  go_wp2_with fail
  go_loopw [21] (fun v21 wr => ∃ (k : Nat) (xs : List Value), k ≤ ns.length ∧ v21 = .int .i64 k ∧ NewRow wr W0.heap.size ns.length T k xs ∧ Below w.heap.size w wr) (fun v21 _ => ns.length - (intOf v21).toNat)
  case atStart => exact ⟨0, _, by omega, rfl, ⟨R0.out, fun i n hi => by omega⟩, hb1⟩
  case round =>
    clear R0 hb1
    obtain ⟨k, xs, hk, rfl, hnr, hb⟩ := hrel
    have HNR := Lib.hid hnr
    clear hnr
    by_cases hlt : k < ns.length
    · have hkk : (k : Int) < ns.length := by omega
      have hk0 : (0 : Int) ≤ k := by omega
      have HX := Lib.hid (List.getElem?_eq_getElem hlt)
      generalize ns[k] = x at *
      obtain ⟨ad, rfl, hbl, c0, c1, c3, B, bc, c2, hB⟩ := HN.out.cells HX.out
      have hbk : ∀ p : Addr, p.block = ad.block → wr.cell? p = w.cell? p := fun p hp => hb.cell (p := p) (by rw [hp]; exact hbl)
      have a0 := (hbk (ad.add (k * 4)) (by rw [addB])).trans c0
      have a1 : wr.cell? ⟨(ad.add (k * 4)).block, (ad.add (k * 4)).off + 1, none⟩ = some (.int .i64 x.wd) := (hbk ((ad.add (k * 4)).add 1) (by rw [addB, addB])).trans c1
      have a2 : wr.cell? ⟨(ad.add (k * 4)).block, (ad.add (k * 4)).off + 2, none⟩ = some (.slice B x.args.length bc) := (hbk ((ad.add (k * 4)).add 2) (by rw [addB, addB])).trans c2
      have a3 : wr.cell? ⟨(ad.add (k * 4)).block, (ad.add (k * 4)).off + 3, none⟩ = some (.int .i64 x.v) := (hbk ((ad.add (k * 4)).add 3) (by rw [addB, addB])).trans c3
      clear c0 c1 c2 c3 hbk
      have HBL := Lib.hid hB
      clear hB
      have HOK := Lib.hid (HND.out k x HX.out)
      have HTX := Lib.hid (HTA.out k x HX.out)
      obtain ⟨op, wd, args, v0⟩ := x
      simp only at a0 a1 a2 a3 HBL
      go_upto_region 8 with (fail)
      have hbX := (Below.refl wr.heap.size wr).alloc (Nat.le_refl _) (.cells #[.int .i64 op, .int .i64 wd, .slice B args.length bc, .int .i64 v0] 61)
      have HNX := Lib.hid (HNR.out.below hbX)
      have hbA := hb.alloc hb.size (.cells #[.int .i64 op, .int .i64 wd, .slice B args.length bc, .int .i64 v0] 61)
      have hgX := Nat.lt_of_lt_of_le (HNR.out.1.lt W0.heap.size rfl).2 hbX.size
      have rn : (wr.alloc (.cells #[.int .i64 op, .int .i64 wd, .slice B args.length bc, .int .i64 v0] 61)).heap[wr.heap.size]? = some (.cells #[.int .i64 op, .int .i64 wd, .slice B args.length bc, .int .i64 v0] 61) := heap_alloc_new _ _
      clear hb hbX a0 a1 a2 a3 HNR
      generalize wr.alloc (.cells #[.int .i64 op, .int .i64 wd, .slice B args.length bc, .int .i64 v0] 61) = W1' at *
      generalize wr.heap.size = q at *
      have n0 := cell_block (i := 0) rn
      have n1 := cell_block (i := 1) rn
      have n2 := cell_block (i := 2) rn
      have n3 := cell_block (i := 3) rn
      simp at n0 n1 n2 n3
      have HFN := fun (y : World) (hy : Below W1'.heap.size W1' y) => (foldedNode_c (some ⟨W0.heap.size, 0, none⟩) ns.length (fldK ns k) (by rw [fldK_len hk]; omega) op wd v0 args HOK.out.al B bc y (by have := (HNX.out.below hy).lies (by rw [HT.out]; exact hk); rwa [HTT.out k hk] at this) (HBL.out.below (hbA.trans (hy.mono hbA.size)))
        (fun i hi => by
          have h1 := List.getElem?_eq_getElem hi
          obtain ⟨y0, y1⟩ := HOK.out.ai i _ h1
          obtain ⟨j, hj⟩ := Int.eq_ofNat_of_zero_le y0
          rw [hj] at h1 y1
          exact ⟨j, _, h1, fldK_at hk (by omega) (List.getElem?_eq_getElem (by omega))⟩)
        (fun hs => fit3_fld (n := ⟨op, wd, args, v0⟩) HND.out HX.out HFC.out hs)).mono (fun e w' h => WithN.from_ hy h)
      rw [fldK_len hk] at HFN
      have HFN := Lib.hid HFN
      generalize fldN (fldK ns k) ⟨op, wd, args, v0⟩ = m at *
      obtain ⟨mo, mw, ma, mv⟩ := m
      have HTAIL : Hid (∀ (W2 : World) (A2 : Option Addr) (cap2 : Nat), LiesI W2 A2 ma → (∀ ad, A2 = some ad → W1'.heap.size ≤ ad.block ∧ ∃ cur, W2.heap[ad.block]? = some (.cells cur 3 (0, 0))) → Below W1'.heap.size W1' W2 →
          (∀ i, i < 4 → (∃ u, W2.cell? ⟨W0.heap.size, k * 4 + i, none⟩ = some u) ∧ W2.frozen? ⟨W0.heap.size, k * 4 + i, none⟩ = false) ∧ ∃ xs', NewRow ((((W2.setCell ⟨W0.heap.size, k * 4, none⟩ (.int .i64 mo)).setCell ⟨W0.heap.size, k * 4 + 1, none⟩ (.int .i64 mw)).setCell ⟨W0.heap.size, k * 4 + 2, none⟩ (.slice A2 ma.length cap2)).setCell ⟨W0.heap.size, k * 4 + 3, none⟩ (.int .i64 mv)) W0.heap.size ns.length T (k + 1) xs' ∧ Below w.heap.size w ((((W2.setCell ⟨W0.heap.size, k * 4, none⟩ (.int .i64 mo)).setCell ⟨W0.heap.size, k * 4 + 1, none⟩ (.int .i64 mw)).setCell ⟨W0.heap.size, k * 4 + 2, none⟩ (.slice A2 ma.length cap2)).setCell ⟨W0.heap.size, k * 4 + 3, none⟩ (.int .i64 mv))) := Lib.hid (by
        intro W2 A2 cap2 hl2 hf2 hb2
        have hg2 : ∀ ad, A2 = some ad → W0.heap.size < ad.block := fun ad h => Nat.lt_of_lt_of_le hgX (hf2 ad h).1
        have ho2 := own_below HNX.out.1 hb2
        refine ⟨fun i hi => ⟨own_at ho2 (by omega), ho2.frozenAt _⟩, _, ⟨((((ho2.stored (k * 4) (.int .i64 mo)).1.stored (k * 4 + 1) (.int .i64 mw)).1.stored (k * 4 + 2) (.slice A2 ma.length cap2)).1.stored (k * 4 + 3) (.int .i64 mv)).1,
          DidX.next4 (x := ⟨mo, mw, ma, mv⟩) (cap := cap2) ((((((HNX.out.2.below hb2)).setW).setW).setW).setW) HTX.out (by rw [HT.out]; exact ho2.1) (by rw [HT.out]; exact hlt) ((((hl2.set hg2).set hg2).set hg2).set hg2) (fun ad h => ?_)⟩, ((((hbA.trans (hb2.mono hbA.size)).setCell hgw _).setCell hgw _).setCell hgw _).setCell hgw _⟩
        obtain ⟨h1, cur, h2⟩ := hf2 ad h
        have h3 := hg2 ad h
        refine ⟨h3, by simpa using lt_of_get h2, fun c z h4 => ?_⟩
        rw [heap_setCell_ne (by omega), heap_setCell_ne (by omega), heap_setCell_ne (by omega), heap_setCell_ne (by omega), h2] at h4
        simp at h4)
      clear HNX
      (try simp only at HFN)
      go_region_with (go_at_call 37; refine (HFN.out _ (by first | exact Below.refl _ _ | exact Below.drew (Below.refl _ _))).mono ?_; rintro e W2 ⟨A2, cap2, rfl, hl2, hf2, hb2⟩; have HF := Lib.hid (HTAIL.out W2 A2 cap2 hl2 hf2 hb2).2; obtain ⟨⟨u0, d0⟩, e0⟩ := (HTAIL.out W2 A2 cap2 hl2 hf2 hb2).1 0 (by omega); obtain ⟨⟨u1, d1⟩, e1⟩ := (HTAIL.out W2 A2 cap2 hl2 hf2 hb2).1 1 (by omega); obtain ⟨⟨u2, d2⟩, e2⟩ := (HTAIL.out W2 A2 cap2 hl2 hf2 hb2).1 2 (by omega); obtain ⟨⟨u3, d3⟩, e3⟩ := (HTAIL.out W2 A2 cap2 hl2 hf2 hb2).1 3 (by omega); rw [Nat.add_zero] at d0 e0; clear hl2 hf2 hb2)
      all_goals
        go_wp2
        go_roundw
        case rel =>
          obtain ⟨xs', h1, h2⟩ := HF.out
          exact ⟨k + 1, xs', by omega, by go_num, h1, h2⟩
        case measure => simp [intOf]; omega
    · obtain rfl : k = ns.length := by omega
      have HF := Lib.hid (show NodesE w 0 T (.returned (.tuple #[.slice (some ⟨W0.heap.size, 0, none⟩) ns.length ns.length, .int .i64 0])) wr from ⟨.inr ⟨rfl, _, ns.length, by rw [HT.out], by have := HNR.out.lies (by rw [HT.out]; exact Nat.le_refl _); rwa [← HT.out, List.take_length] at this⟩, hb⟩)
      clear HNR hb
      go_wp2
      go_ret2
      exact HF.out

end Go.Proofs.YtkdonapgonegkaaGreatDoor
