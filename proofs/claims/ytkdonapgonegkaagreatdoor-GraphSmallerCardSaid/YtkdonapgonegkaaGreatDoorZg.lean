/-
  Contracts of chapter 2 (graph): a graph folded, by the reference.
-/
import Derived.Test.YtkdonapgonegkaaGreatDoorZf
import Derived.Test.YtkdonapgonegkaaGreatDoorZc
import Derived.Test.YtkdonapgonegkaaGreatDoorZe
import Derived.Test.YtkdonapgonegkaaGreatDoorZd
import Derived.DeepKeys4
import Derived.Maps.Own
import Derived.Maps.OwnSet
import Derived.Maps.OwnOps
import Derived.Maps.Keyed
import Derived.Maps.Views
set_option linter.unusedSimpArgs false
set_option linter.unusedVariables false
namespace Go.Proofs.YtkdonapgonegkaaGreatDoor
open Go.RowKit Go.BigFrame

/-- Two appends to two rows beside each other, in a region of twelve operations; a block that stays. -/
def CK (Wo : World) (xb : Nat) (o : Obj) (T : TypeId) (r1 : Value) (xs : List Int) (x : Int) (r2 : Value) (ys : List Int) (y : Int) (b : List Bool) (q : Nat × Nat × Value × Value) (W : World) : Prop :=
  W.heap[xb]? = some o ∧ NJ Wo T r1 xs x r2 ys y (bt b 3) (bt b 4) (bt b 8) (bt b 9) q W
theorem CK.quiet {Wo : World} {xb : Nat} {o : Obj} {T : TypeId} {r1 : Value} {xs : List Int} {x : Int} {r2 : Value} {ys : List Int} {y : Int} {b : List Bool} {q : Nat × Nat × Value × Value} {W : World} (h : CK Wo xb o T r1 xs x r2 ys y b q W) (i : Nat)
    (hi : i ≠ 3 ∧ i ≠ 4 ∧ i ≠ 8 ∧ i ≠ 9) : CK Wo xb o T r1 xs x r2 ys y (b.set i true) q W := by
  unfold CK
  rw [bt_ne hi.1, bt_ne hi.2.1, bt_ne hi.2.2.1, bt_ne hi.2.2.2]
  exact h
theorem CK.start {Wo : World} {xb : Nat} {o : Obj} {T : TypeId} {r1 : Value} {xs : List Int} {x : Int} {r2 : Value} {ys : List Int} {y : Int} {W : World} (h : W.heap[xb]? = some o) (hb : Below Wo.heap.size Wo W) (hr : Rows2 W Wo.heap.size T r1 xs r2 ys) (q : Nat × Nat × Value × Value) : CK Wo xb o T r1 xs x r2 ys y (List.replicate 12 false) q W.drew :=
  ⟨h, (NJ.start hb hr q).drew⟩

set_option maxRecDepth 100000 in
set_option maxHeartbeats 6400000 in
theorem refFolded_c {ls : List Int} {ns : List Nd} (h : (chk ls ns).2 = 0) (N : Option Addr) (capN : Nat) (w : World) (hN : LiesG w N ns) :
    Calls Tryz.prog 17 #[.slice N ns.length capN] w (CopiedN w (fldL ns)) := by
  obtain ⟨i0, hi, hz0, hz1, hz2⟩ := info_parts int_info
  have hns : ns.length ≤ 400 := (chk_ok h).2.2.1
  have HC := Lib.hid (CopyNodesX_c N capN ns (by omega) (fun n hn => by obtain ⟨k, hk, rfl⟩ := List.mem_iff_getElem.1 hn; have := (chk_nodes h k _ (List.getElem?_eq_getElem hk)).al; omega) w hN)
  have HND := Lib.hid (fun (k : Nat) (n : Nd) => chk_nodes h k n)
  have HT := Lib.hid (fldL_len ns)
  have HTA := Lib.hid (fun (k : Nat) (n : Nd) (h : ns[k]? = some n) => fldL_at h)
  have HTT := Lib.hid (fun (k : Nat) (h : k ≤ ns.length) => fldL_take h)
  have HAO := Lib.hid (fun (k : Nat) (n : Nd) (hn : ns[k]? = some n) (hs : stays (fldK ns k) n = false) => argsOK_fld h hn hs)
  have HKL := Lib.hid (fun (k : Nat) (hk : k ≤ ns.length) => fldK_len (ns := ns) hk)
  clear hN h
  generalize fldL ns = T at *
  go_enter Tryz.func17, Tryz.ntmps17
  go_wp2_with fail
  refine HC.out.mono ?_
  rintro e W1 ⟨xs, rfl, hrow, hb1⟩
  have HR0 := Lib.hid hrow
  clear hrow
  go_wp2_with fail
  go_loopw [4] (fun v4 wr => ∃ (k : Nat) (xs : List Value) (L : List Nd), k ≤ ns.length ∧ v4 = .int .i64 k ∧ L = T.take k ++ ns.drop k ∧ NodesX wr w.heap.size (fun _ => True) (.slice (some ⟨w.heap.size, 0, none⟩) ns.length ns.length) L xs ∧ Below w.heap.size w wr) (fun v4 _ => ns.length - (intOf v4).toNat)
  case atStart => exact ⟨0, xs, ns, by omega, rfl, by simp, HR0.out, hb1⟩
  case round =>
    clear HR0 hb1
    obtain ⟨k, xs, L, hk, rfl, hL, hrow, hb⟩ := hrel
    obtain ⟨Wo, rfl⟩ : ∃ Wo : World, Wo = wr := ⟨_, rfl⟩
    have HTL := HT.out
    have hLn : L.length = ns.length := by rw [hL]; simp; omega
    by_cases hlt : k < ns.length
    · have hkk : (k : Int) < ns.length := by omega
      have hX := List.getElem?_eq_getElem hlt
      generalize ns[k] = nd at *
      have hLK : L[k]? = some nd := by rw [hL, prog_at HTL hlt]; exact hX
      have hrow' := hrow
      rw [← hLn] at hrow'
      have HCE : Hid (∀ (j : Nat) (m : Nd), L[j]? = some m → ∃ B cap, LiesI Wo B m.args ∧ ∀ W : World, Below Wo.heap.size Wo W → W.cell? ⟨w.heap.size, j * 4, none⟩ = some (.int .i64 m.op) ∧ W.cell? ⟨w.heap.size, j * 4 + 1, none⟩ = some (.int .i64 m.wd) ∧ W.cell? ⟨w.heap.size, j * 4 + 2, none⟩ = some (.slice B m.args.length cap) ∧ W.cell? ⟨w.heap.size, j * 4 + 3, none⟩ = some (.int .i64 m.v)) := Lib.hid (fun j m hm => by
        obtain ⟨f0, f1, f3, B, bc, f2, hl, _⟩ := hrow.2 j m hm
        refine ⟨B, bc, hl, fun W hbW => ?_⟩
        have lg := (hrow'.1.lt w.heap.size rfl).2
        have q0 := (hbW.cell (p := (⟨w.heap.size, 0, none⟩ : Addr).add (j * 4)) (by rw [addB]; exact lg)).trans (hrow'.1.cells (g := w.heap.size) rfl _ _ f0)
        have q1 := (hbW.cell (p := (⟨w.heap.size, 0, none⟩ : Addr).add (j * 4 + 1)) (by rw [addB]; exact lg)).trans (hrow'.1.cells (g := w.heap.size) rfl _ _ f1)
        have q2 := (hbW.cell (p := (⟨w.heap.size, 0, none⟩ : Addr).add (j * 4 + 2)) (by rw [addB]; exact lg)).trans (hrow'.1.cells (g := w.heap.size) rfl _ _ f2)
        have q3 := (hbW.cell (p := (⟨w.heap.size, 0, none⟩ : Addr).add (j * 4 + 3)) (by rw [addB]; exact lg)).trans (hrow'.1.cells (g := w.heap.size) rfl _ _ f3)
        rw [Addr.add_lit, Nat.zero_add] at q0 q1 q2 q3
        exact ⟨q0, q1, q2, q3⟩)
      obtain ⟨B, bc, hB, HA⟩ := HCE.out k nd hLK
      have HA0 := Lib.hid HA
      have HBL := Lib.hid hB
      have HBF : Hid (∀ p, p < k → ∃ m, (fldK ns k)[p]? = some m ∧ L[p]? = some m) := Lib.hid (fun p hp => by
        have hn := List.getElem?_eq_getElem (l := ns) (i := p) (by omega)
        exact ⟨_, fldK_at hk hp hn, (congrArg (fun (l : List Nd) => l[p]?) hL).trans ((prog_before HTL hk hp).trans (HTA.out p _ hn))⟩)
      have HOK := Lib.hid (HND.out k nd hX)
      have hal : nd.args.length ≤ 3 := HOK.out.al
      have HR := Lib.hid hrow
      have HR' := Lib.hid hrow'
      have HL := Lib.hid hL
      have HX := Lib.hid hX
      have HLN := Lib.hid hLn
      have HBW := Lib.hid hb
      have HK := Lib.hid (fun (h : T[k]? = ns[k]?) => prog_keep HTL hlt h)
      have HAOK := Lib.hid (fun hs => HAO.out k nd hX hs)
      have HPN := Lib.hid (fun (t : Nd) (ht : T[k]? = some t) => prog_next HTL hlt ht)
      have HTK := Lib.hid (HTA.out k nd hX)
      clear hrow hrow' hLK hL hX hLn hb HA hB HTL
      obtain ⟨op, wd, args, v⟩ := nd
      simp only at *
      generalize fldK ns k = bs at *
      obtain ⟨a0, a1, a2, a3⟩ := HA0.out Wo (Below.refl _ _)
      go_wp2_with fail
      go_loopw [5, 6, 7] (fun v5 v6 v7 w4 => ∃ j : Nat, j ≤ args.length ∧ v7 = .int .i64 j ∧ Rows2 w4 Wo.heap.size 3 v5 (ccV bs (args.take j)) v6 (ccW bs (args.take j)) ∧ Below Wo.heap.size Wo w4) (fun _ _ v7 _ => args.length - (intOf v7).toNat)
      case atStart => exact ⟨0, by omega, rfl, Rows2.nil _ _ _, Below.refl _ _⟩
      case round =>
        clear a0 a1 a2 a3
        obtain ⟨j, hj, rfl, hrr, hb4⟩ := hrel
        obtain ⟨a0, a1, a2, a3⟩ := HA0.out _ hb4
        by_cases hlt2 : j < args.length
        · have hjj : (j : Int) < args.length := by omega
          have HXA := Lib.hid (List.getElem?_eq_getElem hlt2)
          generalize args[j] = a at *
          obtain ⟨g0, g1⟩ := HOK.out.ai j a HXA.out
          obtain ⟨p, rfl⟩ := Int.eq_ofNat_of_zero_le g0
          obtain ⟨ba, rfl, hbal, ca⟩ := HBL.out.cell HXA.out
          have hpn : (p : Int) < ns.length := by omega
          obtain ⟨m, hm1, hm2⟩ := HBF.out p (by omega)
          obtain ⟨Bm, cm, _, HMC⟩ := HCE.out p m hm2
          obtain ⟨b0, b1, b2, b3⟩ := HMC _ hb4
          have ca4 := (hb4.cell (p := ba.add j) (by rw [addB]; exact hbal)).trans ca
          have HMO := Lib.hid (opC_in hm1)
          have HAV := Lib.hid (av_in hm1)
          have HAW := Lib.hid (aw_in hm1)
          clear hm1 hm2 HMC ca
          have HRR := Lib.hid hrr
          clear hrr
          go_upto_region 10 with (fail)
          rename World => w4
          have hb5 := hb4.alloc hb4.size (.cells #[.int .i64 m.op, .int .i64 m.wd, .slice Bm m.args.length cm, .int .i64 m.v] 61)
          have rx : (w4.alloc (.cells #[.int .i64 m.op, .int .i64 m.wd, .slice Bm m.args.length cm, .int .i64 m.v] 61)).heap[w4.heap.size]? = some (.cells #[.int .i64 m.op, .int .i64 m.wd, .slice Bm m.args.length cm, .int .i64 m.v] 61) := heap_alloc_new _ _
          have HRA := Lib.hid (HRR.out.alloc (.cells #[.int .i64 m.op, .int .i64 m.wd, .slice Bm m.args.length cm, .int .i64 m.v] 61))
          clear a0 a1 a2 a3 b0 b1 b2 b3 ca4 hb4 HRR
          generalize w4.alloc (.cells #[.int .i64 m.op, .int .i64 m.wd, .slice Bm m.args.length cm, .int .i64 m.v] 61) = W5 at *
          generalize w4.heap.size = xb at *
          have HXC : Hid (∀ W : World, W.heap[xb]? = some (.cells #[.int .i64 m.op, .int .i64 m.wd, .slice Bm m.args.length cm, .int .i64 m.v] 61) → W.cell? ⟨xb, 0, none⟩ = some (.int .i64 m.op) ∧ W.cell? ⟨xb, 1, none⟩ = some (.int .i64 m.wd) ∧ W.cell? ⟨xb, 2, none⟩ = some (.slice Bm m.args.length cm) ∧ W.cell? ⟨xb, 3, none⟩ = some (.int .i64 m.v)) := Lib.hid (fun W rx => by
            have m0 := cell_block (i := 0) rx
            have m1 := cell_block (i := 1) rx
            have m2 := cell_block (i := 2) rx
            have m3 := cell_block (i := 3) rx
            simp at m0 m1 m2 m3
            exact ⟨m0, m1, m2, m3⟩)
          obtain ⟨m0, m1, m2, m3⟩ := HXC.out W5 rx
          by_cases ho : m.op = 0
          · have ho1 : (m.op == 0) = true := by simpa using ho
            have hoc : opC bs (p : Int) = false := by rw [HMO.out]; simpa using ho
            obtain ⟨hp1, hp2⟩ := cc_yes HXA.out hoc
            rw [HAV.out] at hp1
            rw [HAW.out] at hp2
            have HP1 := Lib.hid hp1
            have HP2 := Lib.hid hp2
            have HUL := Lib.hid (show (ccV bs (args.take j)).length ≤ 3 by have := cc_le bs (args.take j); rw [List.length_take] at this; omega)
            have HWL := Lib.hid (show (ccW bs (args.take j)).length ≤ 3 by rw [cc_len]; exact HUL.out)
            have HST := Lib.hid (fun q => CK.start (x := m.v) (y := m.wd) rx hb5 HRA.out q)
            clear ho hoc hp1 hp2 HRA
            go_upto_region 11 with (fail)
            clear m0 m1 m2 m3 ho1
            refine wp_region_fx (fun q : Nat × Nat × Value × Value => [(41, u5), (42, .pointer (some ⟨xb, 3, none⟩)), (43, .int .i64 m.v), (44, .slice (some ⟨q.1, 0, none⟩) 1 1), (45, q.2.2.1), (46, u6), (47, .pointer (some ⟨xb, 1, none⟩)), (48, .int .i64 m.wd), (49, .slice (some ⟨q.2.1, 0, none⟩) 1 1), (50, q.2.2.2), (5, q.2.2.1), (6, q.2.2.2)]) (CK Wo xb (.cells #[.int .i64 m.op, .int .i64 m.wd, .slice Bm m.args.length cm, .int .i64 m.v] 61) 3 u5 (ccV bs (args.take j)) m.v u6 (ccW bs (args.take j)) m.wd) (by kernel_rfl) (by kernel_rfl) ⟨(0, 0, u5, u6), HST.out (0, 0, u5, u6)⟩ [41, 42, 43, 44, 45, 46, 47, 48, 49, 50, 5, 6] (fun _ => rfl) (by kernel_rfl) (by decide) ⟨86, rfl, by decide⟩ ?hs ?hq
            case hs =>
              intro iop
              match iop with
              | 0 =>
                intro o ho b q W Zx hC hb hun hall hcl hon hoff hels K hK
                simp only [List.getElem?_cons_succ, List.getElem?_cons_zero, Option.some.injEq] at ho
                subst ho
                have hb : b.length = 12 := hb
                have hz := not_yet (j := 10) (by omega) hcl rfl ⟨0, .phase⟩ (by simp) rfl rfl hun
                have e0 : Zx.tmps[5]?.getD undef = u5 := ev_tmp ((hoff 10 5 _ hz rfl).trans rfl)
                have HC := Lib.hid (hC.quiet 0 (by decide))
                clear hC
                go_simp
                exact hK 41 _ q _ HC.out rfl (fun _ _ => rfl)
              | 1 =>
                intro o ho b q W Zx hC hb hun hall hcl hon hoff hels K hK
                simp only [List.getElem?_cons_succ, List.getElem?_cons_zero, Option.some.injEq] at ho
                subst ho
                have hb : b.length = 12 := hb
                have e0 : Zx.tmps[8]?.getD undef = .pointer (some ⟨xb, 0, none⟩) := ev_tmp ((hels 8 (by decide)).trans rfl)
                have HC := Lib.hid (hC.quiet 1 (by decide))
                clear hC
                go_simp
                exact hK 42 _ q _ HC.out rfl (fun _ _ => rfl)
              | 2 =>
                intro o ho b q W Zx hC hb hun hall hcl hon hoff hels K hK
                simp only [List.getElem?_cons_succ, List.getElem?_cons_zero, Option.some.injEq] at ho
                subst ho
                have hb : b.length = 12 := hb
                have e0 : Zx.tmps[42]?.getD undef = .pointer (some ⟨xb, 3, none⟩) := ev_tmp (hon 1 42 _ (hall ⟨1, .data⟩ (by simp) rfl) rfl)
                obtain ⟨hc0, hc1, hc2, hc3⟩ := HXC.out W hC.1
                have HC := Lib.hid (hC.quiet 2 (by decide))
                clear hC
                go_simp
                exact hK 43 _ q _ HC.out rfl (fun _ _ => rfl)
              | 3 =>
                intro o ho b q W Zx hC hb hun hall hcl hon hoff hels K hK
                simp only [List.getElem?_cons_succ, List.getElem?_cons_zero, Option.some.injEq] at ho
                subst ho
                have hb : b.length = 12 := hb
                have e0 : Zx.tmps[43]?.getD undef = .int .i64 m.v := ev_tmp (hon 2 43 _ (hall ⟨2, .data⟩ (by simp) rfl) rfl)
                have hn := not_yet (j := 4) (by omega) hcl rfl ⟨3, .data⟩ (by simp) rfl rfl hun
                have HC := Lib.hid (show CK Wo xb (.cells #[.int .i64 m.op, .int .i64 m.wd, .slice Bm m.args.length cm, .int .i64 m.v] 61) 3 u5 (ccV bs (args.take j)) m.v u6 (ccW bs (args.take j)) m.wd (b.set 3 true) (W.heap.size, q.2) (W.alloc (.cells #[.int .i64 m.v] 3)) from by
                  obtain ⟨hA, h⟩ := hC
                  refine ⟨heap_alloc' (lt_of_get hA) hA, ?_⟩
                  rw [bt_of hun, bt_of hn] at h
                  rw [bt_eq hun, bt_ne (i := 3) (j := 4) (by decide), bt_ne (i := 3) (j := 8) (by decide), bt_ne (i := 3) (j := 9) (by decide), bt_of hn]
                  exact h.bs1)
                clear hC
                go_simp
                refine hK 44 _ (W.heap.size, q.2) _ HC.out rfl ?_
                intro k' hk'
                match k', hk' with
                | 0, _ => rfl
                | 1, _ => rfl
                | 2, _ => rfl
                | 3, hk' => rw [hun] at hk'; cases hk'
                | 4, _ => rfl
                | 5, _ => rfl
                | 6, _ => rfl
                | 7, _ => rfl
                | 8, _ => rfl
                | 9, _ => rfl
                | 10, _ => rfl
                | 11, _ => rfl
                | t + 12, hk' => rfl
              | 4 =>
                intro o ho b q W Zx hC hb hun hall hcl hon hoff hels K hK
                simp only [List.getElem?_cons_succ, List.getElem?_cons_zero, Option.some.injEq] at ho
                subst ho
                have hb : b.length = 12 := hb
                have e0 : Zx.eval (.tmp 41) = u5 := hon 0 41 _ (hall ⟨0, .data⟩ (by simp) rfl) rfl
                have e1 : Zx.eval (.tmp 44) = .slice (some ⟨q.1, 0, none⟩) 1 1 := hon 3 44 _ (hall ⟨3, .data⟩ (by simp) rfl) rfl
                have hn := not_yet (j := 10) (by omega) hcl rfl ⟨4, .data⟩ (by simp) rfl rfl hun
                have hp := hall ⟨3, .data⟩ (by simp) rfl
                obtain ⟨hA, h⟩ := hC
                have hn9 := not_yet (j := 9) (by omega) hcl rfl ⟨4, .chain⟩ (by simp) rfl rfl hun
                rw [bt_of hun, bt_of hp, bt_of hn9] at h
                have hr : Rows2 W Wo.heap.size 3 u5 (ccV bs (args.take j)) u6 (ccW bs (args.take j)) := by simpa using h.row
                have hcell := cell_one (h.c1 rfl rfl)
                have hA := hA
                refine step_append_at rfl (.tmp 41) (.tmp 44) 22 rfl Wo.heap.size 3 i0 (.int .i64 0) 1 8 Tryz.underlying22 hi hz0 hz1 hz2 rfl (by decide) u5 _ _ e0 hr.o1 ⟨q.1, 0, none⟩ 1 1 [.int .i64 m.v] e1 rfl hcell (fun u hu => by simp at hu; subst hu; rfl) (by have := HUL.out; unfold maxLen; omega) (by have := HUL.out; omega) h.bel.size ?_
                intro v' w' ho hg hat
                refine hK 45 _ (q.1, q.2.1, v', q.2.2.2) _ ?_ rfl ?_
                · refine ⟨(hg.block xb (lt_of_get hA) (fun e => own_not hr.o1 (by decide) xb e.symm _ _ hA)).trans hA, ?_⟩
                  rw [bt_eq hun, bt_ne (i := 4) (j := 3) (by decide), bt_ne (i := 4) (j := 8) (by decide), bt_ne (i := 4) (j := 9) (by decide)]
                  rw [bt_of hp, bt_of hn9]
                  exact h.ap1 ho hg hat
                · intro k' hk'
                  match k', hk' with
                  | 0, _ => rfl
                  | 1, _ => rfl
                  | 2, _ => rfl
                  | 3, _ => rfl
                  | 4, hk' => rw [hun] at hk'; cases hk'
                  | 5, _ => rfl
                  | 6, _ => rfl
                  | 7, _ => rfl
                  | 8, _ => rfl
                  | 9, _ => rfl
                  | 10, hk' => rw [hn] at hk'; cases hk'
                  | 11, _ => rfl
                  | t + 12, hk' => rfl
              | 5 =>
                intro o ho b q W Zx hC hb hun hall hcl hon hoff hels K hK
                simp only [List.getElem?_cons_succ, List.getElem?_cons_zero, Option.some.injEq] at ho
                subst ho
                have hb : b.length = 12 := hb
                have hz := not_yet (j := 11) (by omega) hcl rfl ⟨5, .phase⟩ (by simp) rfl rfl hun
                have e0 : Zx.tmps[6]?.getD undef = u6 := ev_tmp ((hoff 11 6 _ hz rfl).trans rfl)
                have HC := Lib.hid (hC.quiet 5 (by decide))
                clear hC
                go_simp
                exact hK 46 _ q _ HC.out rfl (fun _ _ => rfl)
              | 6 =>
                intro o ho b q W Zx hC hb hun hall hcl hon hoff hels K hK
                simp only [List.getElem?_cons_succ, List.getElem?_cons_zero, Option.some.injEq] at ho
                subst ho
                have hb : b.length = 12 := hb
                have e0 : Zx.tmps[8]?.getD undef = .pointer (some ⟨xb, 0, none⟩) := ev_tmp ((hels 8 (by decide)).trans rfl)
                have HC := Lib.hid (hC.quiet 6 (by decide))
                clear hC
                go_simp
                exact hK 47 _ q _ HC.out rfl (fun _ _ => rfl)
              | 7 =>
                intro o ho b q W Zx hC hb hun hall hcl hon hoff hels K hK
                simp only [List.getElem?_cons_succ, List.getElem?_cons_zero, Option.some.injEq] at ho
                subst ho
                have hb : b.length = 12 := hb
                have e0 : Zx.tmps[47]?.getD undef = .pointer (some ⟨xb, 1, none⟩) := ev_tmp (hon 6 47 _ (hall ⟨6, .data⟩ (by simp) rfl) rfl)
                obtain ⟨hc0, hc1, hc2, hc3⟩ := HXC.out W hC.1
                have HC := Lib.hid (hC.quiet 7 (by decide))
                clear hC
                go_simp
                exact hK 48 _ q _ HC.out rfl (fun _ _ => rfl)
              | 8 =>
                intro o ho b q W Zx hC hb hun hall hcl hon hoff hels K hK
                simp only [List.getElem?_cons_succ, List.getElem?_cons_zero, Option.some.injEq] at ho
                subst ho
                have hb : b.length = 12 := hb
                have e0 : Zx.tmps[48]?.getD undef = .int .i64 m.wd := ev_tmp (hon 7 48 _ (hall ⟨7, .data⟩ (by simp) rfl) rfl)
                have hn := not_yet (j := 9) (by omega) hcl rfl ⟨8, .data⟩ (by simp) rfl rfl hun
                have HC := Lib.hid (show CK Wo xb (.cells #[.int .i64 m.op, .int .i64 m.wd, .slice Bm m.args.length cm, .int .i64 m.v] 61) 3 u5 (ccV bs (args.take j)) m.v u6 (ccW bs (args.take j)) m.wd (b.set 8 true) (q.1, W.heap.size, q.2.2) (W.alloc (.cells #[.int .i64 m.wd] 3)) from by
                  obtain ⟨hA, h⟩ := hC
                  refine ⟨heap_alloc' (lt_of_get hA) hA, ?_⟩
                  rw [bt_of hun, bt_of hn] at h
                  rw [bt_eq hun, bt_ne (i := 8) (j := 3) (by decide), bt_ne (i := 8) (j := 4) (by decide), bt_ne (i := 8) (j := 9) (by decide), bt_of hn]
                  exact h.bs2)
                clear hC
                go_simp
                refine hK 49 _ (q.1, W.heap.size, q.2.2) _ HC.out rfl ?_
                intro k' hk'
                match k', hk' with
                | 0, _ => rfl
                | 1, _ => rfl
                | 2, _ => rfl
                | 3, _ => rfl
                | 4, _ => rfl
                | 5, _ => rfl
                | 6, _ => rfl
                | 7, _ => rfl
                | 8, hk' => rw [hun] at hk'; cases hk'
                | 9, _ => rfl
                | 10, _ => rfl
                | 11, _ => rfl
                | t + 12, hk' => rfl
              | 9 =>
                intro o ho b q W Zx hC hb hun hall hcl hon hoff hels K hK
                simp only [List.getElem?_cons_succ, List.getElem?_cons_zero, Option.some.injEq] at ho
                subst ho
                have hb : b.length = 12 := hb
                have e0 : Zx.eval (.tmp 46) = u6 := hon 5 46 _ (hall ⟨5, .data⟩ (by simp) rfl) rfl
                have e1 : Zx.eval (.tmp 49) = .slice (some ⟨q.2.1, 0, none⟩) 1 1 := hon 8 49 _ (hall ⟨8, .data⟩ (by simp) rfl) rfl
                have hn := not_yet (j := 11) (by omega) hcl rfl ⟨9, .data⟩ (by simp) rfl rfl hun
                have hp := hall ⟨8, .data⟩ (by simp) rfl
                obtain ⟨hA, h⟩ := hC
                have hp4 := hall ⟨4, .chain⟩ (by simp) rfl
                have hp3 := hcl 4 _ rfl hp4 ⟨3, .data⟩ (by simp) rfl
                rw [bt_of hun, bt_of hp, bt_of hp4, bt_of hp3] at h
                have hr : Rows2 W Wo.heap.size 3 q.2.2.1 ((ccV bs (args.take j)) ++ [m.v]) u6 (ccW bs (args.take j)) := by simpa using h.row
                have hcell := cell_one ((h.c2 rfl rfl).1)
                have hA := hA
                refine step_append_at rfl (.tmp 46) (.tmp 49) 22 rfl Wo.heap.size 3 i0 (.int .i64 0) 1 8 Tryz.underlying22 hi hz0 hz1 hz2 rfl (by decide) u6 _ _ e0 hr.o2 ⟨q.2.1, 0, none⟩ 1 1 [.int .i64 m.wd] e1 rfl hcell (fun u hu => by simp at hu; subst hu; rfl) (by have := HWL.out; unfold maxLen; omega) (by have := HWL.out; omega) h.bel.size ?_
                intro v' w' ho hg hat
                refine hK 50 _ (q.1, q.2.1, q.2.2.1, v') _ ?_ rfl ?_
                · refine ⟨(hg.block xb (lt_of_get hA) (fun e => own_not hr.o2 (by decide) xb e.symm _ _ hA)).trans hA, ?_⟩
                  rw [bt_eq hun, bt_ne (i := 9) (j := 3) (by decide), bt_ne (i := 9) (j := 4) (by decide), bt_ne (i := 9) (j := 8) (by decide)]
                  rw [bt_of hp, bt_of hp4, bt_of hp3]
                  exact h.ap2 ho hg hat
                · intro k' hk'
                  match k', hk' with
                  | 0, _ => rfl
                  | 1, _ => rfl
                  | 2, _ => rfl
                  | 3, _ => rfl
                  | 4, _ => rfl
                  | 5, _ => rfl
                  | 6, _ => rfl
                  | 7, _ => rfl
                  | 8, _ => rfl
                  | 9, hk' => rw [hun] at hk'; cases hk'
                  | 10, _ => rfl
                  | 11, hk' => rw [hn] at hk'; cases hk'
                  | t + 12, hk' => rfl
              | 10 =>
                intro o ho b q W Zx hC hb hun hall hcl hon hoff hels K hK
                simp only [List.getElem?_cons_succ, List.getElem?_cons_zero, Option.some.injEq] at ho
                subst ho
                have hb : b.length = 12 := hb
                have e0 : Zx.tmps[45]?.getD undef = q.2.2.1 := ev_tmp (hon 4 45 _ (hall ⟨4, .data⟩ (by simp) rfl) rfl)
                have HC := Lib.hid (hC.quiet 10 (by decide))
                clear hC
                go_simp
                exact hK 5 _ q _ HC.out rfl (fun _ _ => rfl)
              | 11 =>
                intro o ho b q W Zx hC hb hun hall hcl hon hoff hels K hK
                simp only [List.getElem?_cons_succ, List.getElem?_cons_zero, Option.some.injEq] at ho
                subst ho
                have hb : b.length = 12 := hb
                have e0 : Zx.tmps[50]?.getD undef = q.2.2.2 := ev_tmp (hon 9 50 _ (hall ⟨9, .data⟩ (by simp) rfl) rfl)
                have HC := Lib.hid (hC.quiet 11 (by decide))
                clear hC
                go_simp
                exact hK 6 _ q _ HC.out rfl (fun _ _ => rfl)
              | t + 12 =>
                intro o ho
                simp at ho
            case hq =>
              intro q W hC
              have hF : NJ Wo 3 u5 (ccV bs (args.take j)) m.v u6 (ccW bs (args.take j)) m.wd true true true true q W := hC.2
              clear hC
              have HR := Lib.hid hF.row
              have HB := Lib.hid hF.bel
              clear hF
              simp only [zp, List.length_cons, List.length_nil, List.replicate, List.zip_cons_cons, List.zip_nil_right, frm, if_true]
              have HR2 := Lib.hid (show Rows2 W Wo.heap.size 3 q.2.2.1 (ccV bs (args.take (j + 1))) q.2.2.2 (ccW bs (args.take (j + 1))) from by
                rw [HP1.out, HP2.out]; simpa using HR.out)
              clear HR HP1 HP2 HST
              go_simp
              rename World => W6
              go_wp2_with fail
              go_roundw
              case rel => exact ⟨j + 1, by omega, by go_num, HR2.out, HB.out⟩
              case measure => simp [intOf]; omega
          · have ho1 : (m.op == 0) = false := by simpa using ho
            have hoc : opC bs (p : Int) = true := by rw [HMO.out]; simpa using ho
            obtain ⟨hp1, hp2⟩ := cc_no HXA.out hoc
            have HP1 := Lib.hid hp1
            have HP2 := Lib.hid hp2
            clear ho hoc hp1 hp2
            go_wp2
            go_roundw
            case rel => exact ⟨j + 1, by omega, by go_num, by rw [HP1.out, HP2.out]; exact HRA.out, hb5⟩
            case measure => simp [intOf]; omega
        · obtain rfl : j = args.length := by omega
          rw [List.take_length] at hrr
          obtain ⟨Av, cv, rfl, hlv⟩ := lies_form hrr.o1
          obtain ⟨Aw, cw, rfl, hlw⟩ := lies_form hrr.o2
          rename World => w4
          have hb6 := HBW.out.trans (hb4.mono HBW.out.size)
          have HRB := Lib.hid (HR.out.below hb4)
          have HLV := Lib.hid hlv
          have HLW := Lib.hid hlw
          clear hrr hlv hlw
          by_cases h0 : args = []
          · have HK' := Lib.hid (HK.out (by rw [HTK.out, HX.out]; exact congrArg some (if_pos (by unfold stays; simp only; rw [h0]; simp))))
            have z1 : ¬ (0 : Int) < (args.length : Int) := by rw [h0]; simp
            clear h0
            go_wp2
            go_roundw
            case rel => exact ⟨k + 1, xs, L, by omega, by go_num, HL.out.trans HK'.out.symm, HRB.out, hb6⟩
            case measure => simp [intOf]; omega
          · have z1 : (0 : Int) < (args.length : Int) := by
              have : args.length ≠ 0 := fun e => h0 (List.eq_nil_of_length_eq_zero e)
              omega
            cases hany : args.any (opC bs) with
            | true =>
              have HK' := Lib.hid (HK.out (by rw [HTK.out, HX.out]; exact congrArg some (if_pos (by unfold stays; simp only; rw [hany]; rfl))))
              have hlt3 := cc_some hany
              clear h0 hany
              generalize (ccV bs args).length = ul at *
              have z2 : ((ul : Int) == (args.length : Int)) = false := by
                have : ¬ (ul : Int) = (args.length : Int) := by omega
                simpa using this
              have z3 : (ul == args.length) = false := by
                have : ¬ ul = args.length := by omega
                simpa using this
              go_wp2
              go_roundw
              case rel => exact ⟨k + 1, xs, L, by omega, by go_num, HL.out.trans HK'.out.symm, HRB.out, hb6⟩
              case measure => simp [intOf]; omega
            | false =>
              have hst : stays bs ⟨op, wd, args, v⟩ = false := by
                unfold stays; simp only; rw [hany]
                cases args with
                | nil => exact absurd rfl h0
                | cons a r => rfl
              have hAO := HAOK.out hst
              have hrs := res_fld hst
              have hul : (ccV bs args).length = args.length := by rw [(cc_all hany).1, List.length_map]
              have hwl : (ccW bs args).length = args.length := by rw [cc_len]; exact hul
              have HAP := fun (z : Aft w4) => Apply_c op wd v _ _ hAO B args.length bc Av cv Aw cw none 0 0 z.val (HLV.out.aft z) (HLW.out.aft z)
              have hTR := HTK.out
              rw [hrs] at hTR
              simp only at hTR
              rw [hul, hwl] at HAP
              rw [hul, hwl]
              generalize resG op wd v ((ccW bs args).getD 0 0) ((ccV bs args).getD 0 0) ((ccW bs args).getD 1 0) ((ccV bs args).getD 1 0) ((ccV bs args).getD 2 0) = R at *
              have HAP := Lib.hid HAP
              have HPS := Lib.hid (HPN.out _ hTR)
              clear hany h0 hst hAO hrs hul hwl hTR HLV HLW
              have c0 : ∀ z : Aft w4, z.val.cell? ⟨w.heap.size, k * 4, none⟩ = some (.int .i64 op) := fun z => (HA0.out z.val (hb4.trans (z.pf.mono hb4.size))).1
              have c1 : ∀ z : Aft w4, z.val.cell? ⟨w.heap.size, k * 4 + 1, none⟩ = some (.int .i64 wd) := fun z => (HA0.out z.val (hb4.trans (z.pf.mono hb4.size))).2.1
              have c2 : ∀ z : Aft w4, z.val.cell? ⟨w.heap.size, k * 4 + 2, none⟩ = some (.slice B args.length bc) := fun z => (HA0.out z.val (hb4.trans (z.pf.mono hb4.size))).2.2.1
              have c3 : ∀ z : Aft w4, z.val.cell? ⟨w.heap.size, k * 4 + 3, none⟩ = some (.int .i64 v) := fun z => (HA0.out z.val (hb4.trans (z.pf.mono hb4.size))).2.2.2
              have HB4 := Lib.hid hb4
              go_wp2_with fail
              refine wp_region_aft_tail 16 (by kernel_rfl) (by kernel_rfl) ?_
              simp only [List.take_succ_cons, List.take_zero, List.drop_succ_cons, List.drop_zero]
              clear a0 a1 a2 a3
              repeat (go_big_quiet_step ((go_at_call 42; exact Calls.qa (HAP.out _))))
              refine wpQuiet_nil ?_
              intro y
              have hbY := HB4.out.trans (y.pf.mono HB4.out.size)
              have ho2 := own_below HR'.out.1 hbY
              have lk : k < L.length := by rw [HLN.out]; exact hlt
              obtain ⟨u0, d0⟩ := own_at ho2 (j := k * 4) (by omega)
              have e0 := ho2.frozenAt (k * 4)
              obtain ⟨u1, d1⟩ := own_at ho2 (j := k * 4 + 1) (by omega)
              have e1 := ho2.frozenAt (k * 4 + 1)
              obtain ⟨u2, d2⟩ := own_at ho2 (j := k * 4 + 2) (by omega)
              have e2 := ho2.frozenAt (k * 4 + 2)
              obtain ⟨u3, d3⟩ := own_at ho2 (j := k * 4 + 3) (by omega)
              have e3 := ho2.frozenAt (k * 4 + 3)
              have HP : Hid (∃ xs', NodesX ((((y.val.setCell ⟨w.heap.size, k * 4, none⟩ (.int .i64 0)).setCell ⟨w.heap.size, k * 4 + 1, none⟩ (.int .i64 wd)).setCell ⟨w.heap.size, k * 4 + 2, none⟩ (.slice none 0 0)).setCell ⟨w.heap.size, k * 4 + 3, none⟩ (.int .i64 R)) w.heap.size (fun _ => True) (.slice (some ⟨w.heap.size, 0, none⟩) L.length L.length) (L.set k ⟨0, wd, [], R⟩) xs') := Lib.hid
                (NodesX.put (n := ⟨0, wd, [], R⟩) (B := none) (bc := 0) (HR'.out.below hbY) lk (fun h => by simp at h) (fun ad h => by cases h))
              rw [HLN.out] at HP
              have hbw := HBW.out.trans (hbY.mono HBW.out.size)
              have HB : Hid (Below w.heap.size w ((((y.val.setCell ⟨w.heap.size, k * 4, none⟩ (.int .i64 0)).setCell ⟨w.heap.size, k * 4 + 1, none⟩ (.int .i64 wd)).setCell ⟨w.heap.size, k * 4 + 2, none⟩ (.slice none 0 0)).setCell ⟨w.heap.size, k * 4 + 3, none⟩ (.int .i64 R))) := Lib.hid ((((hbw.setCell (Nat.le_refl _) _).setCell (Nat.le_refl _) _).setCell (Nat.le_refl _) _).setCell (Nat.le_refl _) _)
              clear ho2 hbY hbw c0 c1 c2 c3 lk
              generalize y.val = W6 at *
              go_wp2
              go_roundw
              case rel =>
                obtain ⟨xs', hp⟩ := HP.out
                exact ⟨k + 1, xs', _, by omega, by go_num, (congrArg (fun (l : List Nd) => l.set k ⟨0, wd, [], R⟩) HL.out).trans HPS.out, hp, HB.out⟩
              case measure => simp [intOf]; omega
    · obtain rfl : k = ns.length := by omega
      obtain ⟨A', cap', e1, _, hl, _⟩ := hrow.lies
      simp only [Value.slice.injEq] at e1
      obtain ⟨rfl, _, rfl⟩ := e1
      have hLT : L = T := by rw [hL]; exact prog_all HTL
      have HF := Lib.hid (show CopiedN w T (.returned (.slice (some ⟨w.heap.size, 0, none⟩) ns.length ns.length)) Wo from by
        subst hLT
        exact ⟨_, ns.length, by rw [hLn], Nat.le_of_eq hLn, hl, hb⟩)
      clear hrow hl hb hL hLT hLn HTL
      go_wp2
      go_ret
      exact HF.out

end Go.Proofs.YtkdonapgonegkaaGreatDoor

set_option linter.unusedSimpArgs false
set_option linter.unusedVariables false
namespace Go.Proofs.YtkdonapgonegkaaGreatDoor
open Go.RowKit Go.BigFrame

end Go.Proofs.YtkdonapgonegkaaGreatDoor

set_option linter.unusedSimpArgs false
set_option linter.unusedVariables false
namespace Go.Proofs.YtkdonapgonegkaaGreatDoor
open Go.RowKit Go.BigFrame

set_option maxRecDepth 100000 in
set_option maxHeartbeats 1600000 in
theorem refNodesErr_c (A : Option Addr) (cap : Nat) (ls : List Int) (hls : ls.length ≤ 65536) (N : Option Addr) (capN : Nat) (ns : List Nd) (hns : ns.length ≤ 65536) (hla : ∀ n ∈ ns, n.args.length ≤ 65536) (w : World) (hA : LiesI w A ls) (hN : LiesN w N ns) :
    Calls Tryz.prog 13 #[.slice A ls.length cap, .slice N ns.length capN] w fun e w' => e = .returned (.int .i64 (chk ls ns).2) ∧ ∃ x : Aft w, w' = x.val := by
  have HC := Lib.hid (refCheckNodes_c A cap ls hls N capN ns hns hla w hA hN)
  clear hA hN hla
  go_enter Tryz.func13, Tryz.ntmps13
  go_wp2_with fail
  refine HC.out.mono ?_
  rintro e w' ⟨rfl, y, rfl⟩
  go_wp2
  go_ret
  exact ⟨rfl, y, rfl⟩

end Go.Proofs.YtkdonapgonegkaaGreatDoor

set_option linter.unusedSimpArgs false
set_option linter.unusedVariables false
namespace Go.Proofs.YtkdonapgonegkaaGreatDoor
open Go.RowKit Go.BigFrame

/-- Nodes, or an error and none. -/
def NodesE (w : World) (er : Int) (T : List Nd) (e : Ending) (w' : World) : Prop :=
  (er ≠ 0 ∧ e = .returned (.tuple #[.slice none 0 0, .int .i64 er]) ∨ er = 0 ∧ ∃ A' c, e = .returned (.tuple #[.slice A' T.length c, .int .i64 0]) ∧ LiesN w' A' T) ∧ Below w.heap.size w w'
theorem NodesE.bad {w w' : World} {er : Int} {T : List Nd} (h : er ≠ 0) (hb : Below w.heap.size w w') : NodesE w er T (.returned (.tuple #[.slice none 0 0, .int .i64 er])) w' := ⟨.inl ⟨h, rfl⟩, hb⟩
theorem DidX.next4 {w : World} {g k cap : Nat} {ns : List Nd} {xs : List Value} {x : Nd} {B : Option Addr} (h : DidX w g ns k xs) (hx : ns[k]? = some x) (hl : xs.length = ns.length * 4) (hk : k < ns.length) (hL : LiesI w B x.args) (hB : ∀ ad, B = some ad → g < ad.block ∧ ad.block < w.heap.size ∧ ∀ cur fz, w.heap[ad.block]? ≠ some (.cells cur 61 fz)) :
    DidX w g ns (k + 1) ((((xs.set (k * 4) (.int .i64 x.op)).set (k * 4 + 1) (.int .i64 x.wd)).set (k * 4 + 2) (.slice B x.args.length cap)).set (k * 4 + 3) (.int .i64 x.v)) := by
  intro i n hi hn
  by_cases hik : i < k
  · obtain ⟨a, b, c, B', cap', d, hl', hB'⟩ := h i n hik hn
    refine ⟨?_, ?_, ?_, B', cap', ?_, hl', hB'⟩
    all_goals
      rw [List.getElem?_set_ne (by omega), List.getElem?_set_ne (by omega), List.getElem?_set_ne (by omega), List.getElem?_set_ne (by omega)]
      assumption
  · obtain rfl : i = k := by omega
    rw [hx] at hn
    obtain rfl := Option.some.inj hn
    refine ⟨?_, ?_, ?_, B, cap, ?_, hL, hB⟩
    · rw [List.getElem?_set_ne (by omega), List.getElem?_set_ne (by omega), List.getElem?_set_ne (by omega), List.getElem?_set_self (by omega)]
    · rw [List.getElem?_set_ne (by omega), List.getElem?_set_ne (by omega), List.getElem?_set_self (by simp; omega)]
    · rw [List.getElem?_set_self (by simp; omega)]
    · rw [List.getElem?_set_ne (by omega), List.getElem?_set_self (by simp; omega)]

/-- A row of nodes that is being filled. -/
def NewRow (w : World) (g n : Nat) (T : List Nd) (k : Nat) (xs : List Value) : Prop := w.ownsRow g 61 4 (.slice (some ⟨g, 0, none⟩) n n) n xs ∧ DidX w g T k xs

end Go.Proofs.YtkdonapgonegkaaGreatDoor

set_option linter.unusedSimpArgs false
set_option linter.unusedVariables false
namespace Go.Proofs.YtkdonapgonegkaaGreatDoor
open Go.RowKit Go.BigFrame

/-- Nodes and numbers, or an error and none. -/
def AppE (w : World) (er : Int) (cs : List Nd) (ps : List Int) (e : Ending) (w' : World) : Prop :=
  (er ≠ 0 ∧ e = .returned (.tuple #[.slice none 0 0, .slice none 0 0, .int .i64 er]) ∨ er = 0 ∧ ∃ A c B c2, e = .returned (.tuple #[.slice A cs.length c, .slice B ps.length c2, .int .i64 0]) ∧ LiesN w' A cs ∧ LiesI w' B ps) ∧ Below w.heap.size w w'
theorem AppE.bad {w w' : World} {er : Int} {cs : List Nd} {ps : List Int} (h : er ≠ 0) (hb : Below w.heap.size w w') : AppE w er cs ps (.returned (.tuple #[.slice none 0 0, .slice none 0 0, .int .i64 er])) w' := ⟨.inl ⟨h, rfl⟩, hb⟩
end Go.Proofs.YtkdonapgonegkaaGreatDoor

set_option linter.unusedSimpArgs false
set_option linter.unusedVariables false
namespace Go.Proofs.YtkdonapgonegkaaGreatDoor
open Go.RowKit Go.BigFrame

set_option maxRecDepth 100000 in
set_option maxHeartbeats 1600000 in
theorem ConeOf_c (A : Option Addr) (cap : Nat) (ls : List Int) (hls : ls.length ≤ 65536) (N : Option Addr) (capN : Nat) (ns : List Nd) (hns : ns.length ≤ 65536) (hcap : ns.length ≤ capN) (hla : ∀ n ∈ ns, n.args.length ≤ 65536) (F : Option Addr) (cf : Nat) (fr : List Int) (hfr : fr.length ≤ 65536) (w : World) (hA : LiesI w A ls) (hN : LiesN w N ns) (hF : LiesI w F fr) (ht : TabOps w) :
    Calls Tryz.prog 12 #[.slice A ls.length cap, .slice N ns.length capN, .slice F fr.length cf] w (AppE w (fromE ls ns fr) (coneN ns fr) (coneP ns fr)) := by
  have HC := errorOfFrom_c A cap ls hls N capN ns hns hcap hla F cf fr hfr w hA hN hF ht
  by_cases h0 : fromE ls ns fr = 0
  case neg =>
    generalize fromE ls ns fr = er at *
    have HC := Lib.hid HC
    have HE := Lib.hid h0
    have n1 : (er == 0) = false := by simpa using h0
    have n2 : (er != 0) = true := by simpa using h0
    clear h0 hA hN hF ht hla hcap
    go_enter Tryz.func12, Tryz.ntmps12
    go_wp2_with fail
    refine HC.out.mono ?_
    rintro e w' ⟨rfl, y, rfl⟩
    have hbF := y.pf
    go_wp2
    go_ret3
    exact AppE.bad HE.out hbF
  obtain ⟨g0, g1⟩ := fromE_ok h0
  have HCO := Lib.hid (fun (y : Aft w) => coneOf_c N capN ns hns ls.length (chk_nodes g0) F cf fr hfr g1 y.val (hN.aft y) (hF.aft y))
  rw [h0] at HC ⊢
  have HC := Lib.hid HC
  clear h0 g0 g1 hA hN hF ht hla hcap
  generalize coneN ns fr = cs at *
  generalize coneP ns fr = ps at *
  go_enter Tryz.func12, Tryz.ntmps12
  go_wp2_with fail
  refine HC.out.mono ?_
  rintro e w' ⟨rfl, y, rfl⟩
  go_wp2_with fail
  refine (HCO.out y).mono ?_
  rintro e W2 ⟨A', c, B, c2, rfl, _, hl, hp, hb⟩
  have HF := Lib.hid (show AppE w 0 cs ps (.returned (.tuple #[.slice A' cs.length c, .slice B ps.length c2, .int .i64 0])) W2 from ⟨.inr ⟨rfl, A', c, B, c2, rfl, hl, hp⟩, y.pf.trans (hb.mono y.pf.size)⟩)
  clear hl hp hb
  go_wp2
  go_ret3
  exact HF.out

set_option maxRecDepth 100000 in
set_option maxHeartbeats 1600000 in
theorem SameOne_c (A : Option Addr) (ca : Nat) (m : Nd) (B : Option Addr) (cb : Nat) (x : Nd) (hm : m.args.length ≤ 65536) (hx : x.args.length ≤ 65536) (w : World) (hA : LiesN w A [m]) (hB : LiesN w B [x]) :
    Calls Tryz.prog 15 #[.slice A 1 ca, .slice B 1 cb] w fun e w' => e = .returned (.bool (samN m x)) ∧ ∃ z : Aft w, w' = z.val := by
  obtain ⟨aa, rfl, hbla, c0, c1, c3, Ba, bca, c2, hBa⟩ := hA.cells (k := 0) (n := m) rfl
  have hbl := hbla
  rw [show aa.add (0 * 4) = aa from by simp [Addr.add]] at c0 c1 c2 c3
  have a0 : ∀ z : Aft w, z.val.cell? aa = some (.int .i64 m.op) := fun z => (z.pf.cell (p := aa) (by exact hbl)).trans c0
  have a1 : ∀ z : Aft w, z.val.cell? ⟨aa.block, aa.off + 1, none⟩ = some (.int .i64 m.wd) := fun z => (z.pf.cell (p := aa.add 1) (by rw [addB]; exact hbl)).trans c1
  have a2 : ∀ z : Aft w, z.val.cell? ⟨aa.block, aa.off + 2, none⟩ = some (.slice Ba m.args.length bca) := fun z => (z.pf.cell (p := aa.add 2) (by rw [addB]; exact hbl)).trans c2
  have a3 : ∀ z : Aft w, z.val.cell? ⟨aa.block, aa.off + 3, none⟩ = some (.int .i64 m.v) := fun z => (z.pf.cell (p := aa.add 3) (by rw [addB]; exact hbl)).trans c3
  clear c0 c1 c2 c3 hbl
  obtain ⟨ab, rfl, hblb, c0, c1, c3, Bb, bcb, c2, hBb⟩ := hB.cells (k := 0) (n := x) rfl
  have hbl := hblb
  rw [show ab.add (0 * 4) = ab from by simp [Addr.add]] at c0 c1 c2 c3
  have b0 : ∀ z : Aft w, z.val.cell? ab = some (.int .i64 x.op) := fun z => (z.pf.cell (p := ab) (by exact hbl)).trans c0
  have b1 : ∀ z : Aft w, z.val.cell? ⟨ab.block, ab.off + 1, none⟩ = some (.int .i64 x.wd) := fun z => (z.pf.cell (p := ab.add 1) (by rw [addB]; exact hbl)).trans c1
  have b2 : ∀ z : Aft w, z.val.cell? ⟨ab.block, ab.off + 2, none⟩ = some (.slice Bb x.args.length bcb) := fun z => (z.pf.cell (p := ab.add 2) (by rw [addB]; exact hbl)).trans c2
  have b3 : ∀ z : Aft w, z.val.cell? ⟨ab.block, ab.off + 3, none⟩ = some (.int .i64 x.v) := fun z => (z.pf.cell (p := ab.add 3) (by rw [addB]; exact hbl)).trans c3
  clear c0 c1 c2 c3 hbl
  have HI := Lib.hid (fun (z : Aft w) => Ints_c Ba bca m.args hm Bb bcb x.args hx z.val (hBa.aft z) (hBb.aft z))
  clear hA hB hBa hBb
  obtain ⟨mo, mw, ma, mv⟩ := m
  obtain ⟨xo, xw, xa, xv⟩ := x
  simp only at *
  by_cases h1 : mo = xo
  case neg =>
    have HR := Lib.hid (show false = samN ⟨mo, mw, ma, mv⟩ ⟨xo, xw, xa, xv⟩ by unfold samN; simp [h1])
    have g1 : (mo != xo) = true := by simpa using h1
    have g2 : (mo == xo) = false := by simpa using h1
    clear h1
    go_enter Tryz.func15, Tryz.ntmps15
    go_wp2
    refine wp_loop_rounds 2 ?_
    rw [rounds_succ]
    go_wp2_with fail
    refine wp_region_aft (by kernel_rfl) (by kernel_rfl) ?_
    repeat (go_big_quiet_step ((go_at_call 16; exact Calls.qa (HI.out _))))
    refine wpQuiet_nil ?_
    intro y
    go_wp2
    go_ret
    exact ⟨congrArg (fun b => Ending.returned (.bool b)) HR.out, y, rfl⟩
  subst h1
  by_cases h2 : mw = xw
  case neg =>
    have HR := Lib.hid (show false = samN ⟨mo, mw, ma, mv⟩ ⟨mo, xw, xa, xv⟩ by unfold samN; simp [h2])
    have g1 : (mw != xw) = true := by simpa using h2
    have g2 : (mw == xw) = false := by simpa using h2
    clear h2
    go_enter Tryz.func15, Tryz.ntmps15
    go_wp2
    refine wp_loop_rounds 2 ?_
    rw [rounds_succ]
    go_wp2_with fail
    refine wp_region_aft (by kernel_rfl) (by kernel_rfl) ?_
    repeat (go_big_quiet_step ((go_at_call 16; exact Calls.qa (HI.out _))))
    refine wpQuiet_nil ?_
    intro y
    go_wp2
    go_ret
    exact ⟨congrArg (fun b => Ending.returned (.bool b)) HR.out, y, rfl⟩
  subst h2
  by_cases h3 : mv = xv
  case neg =>
    have HR := Lib.hid (show false = samN ⟨mo, mw, ma, mv⟩ ⟨mo, mw, xa, xv⟩ by unfold samN; simp [h3])
    have g1 : (mv != xv) = true := by simpa using h3
    have g2 : (mv == xv) = false := by simpa using h3
    clear h3
    go_enter Tryz.func15, Tryz.ntmps15
    go_wp2
    refine wp_loop_rounds 2 ?_
    rw [rounds_succ]
    go_wp2_with fail
    refine wp_region_aft (by kernel_rfl) (by kernel_rfl) ?_
    repeat (go_big_quiet_step ((go_at_call 16; exact Calls.qa (HI.out _))))
    refine wpQuiet_nil ?_
    intro y
    go_wp2
    go_ret
    exact ⟨congrArg (fun b => Ending.returned (.bool b)) HR.out, y, rfl⟩
  subst h3
  have HS := Lib.hid (show samN ⟨mo, mw, ma, mv⟩ ⟨mo, mw, xa, mv⟩ = eqL ma xa by unfold samN eqL; simp)
  cases he : eqL ma xa with
  | false =>
    rw [he] at HI
    have HR := Lib.hid (show false = samN ⟨mo, mw, ma, mv⟩ ⟨mo, mw, xa, mv⟩ by rw [HS.out, he])
    clear he HS
    go_enter Tryz.func15, Tryz.ntmps15
    go_wp2
    refine wp_loop_rounds 2 ?_
    rw [rounds_succ]
    go_wp2_with fail
    refine wp_region_aft (by kernel_rfl) (by kernel_rfl) ?_
    repeat (go_big_quiet_step ((go_at_call 16; exact Calls.qa (HI.out _))))
    refine wpQuiet_nil ?_
    intro y
    go_wp2
    go_ret
    exact ⟨congrArg (fun b => Ending.returned (.bool b)) HR.out, y, rfl⟩
  | true =>
    rw [he] at HI
    have HR := Lib.hid (show true = samN ⟨mo, mw, ma, mv⟩ ⟨mo, mw, xa, mv⟩ by rw [HS.out, he])
    clear he HS
    go_enter Tryz.func15, Tryz.ntmps15
    go_wp2
    refine wp_loop_rounds 2 ?_
    rw [rounds_succ]
    go_wp2_with fail
    refine wp_region_aft (by kernel_rfl) (by kernel_rfl) ?_
    repeat (go_big_quiet_step ((go_at_call 16; exact Calls.qa (HI.out _))))
    refine wpQuiet_nil ?_
    intro y
    go_wp2_with fail
    rw [rounds_succ]
    go_wp2
    go_ret
    exact ⟨congrArg (fun b => Ending.returned (.bool b)) HR.out, y, rfl⟩

end Go.Proofs.YtkdonapgonegkaaGreatDoor

set_option linter.unusedSimpArgs false
set_option linter.unusedVariables false
namespace Go.Proofs.YtkdonapgonegkaaGreatDoor
open Go.RowKit Go.BigFrame

theorem likeness1_c (a : Int) (w : World) : Calls Tryz.prog 66 #[.int .i64 a] w fun e w' => e = .returned (.int .i64 a) ∧ w = w' := by
  go_enter Tryz.func66, Tryz.ntmps66
  go_wp2
  go_ret
  exact ⟨rfl, rfl⟩

set_option maxRecDepth 100000 in
set_option maxHeartbeats 1600000 in
theorem largs0 (op wd v : Int) (B : Option Addr) (bc : Nat) (w : World)  (hB : LiesI w B []) :
    Calls Tryz.prog 65 #[.agg #[.int .i64 op, .int .i64 wd, .slice B 0 bc, .int .i64 v], .func (.func 66) #[] #[]] w fun e w' => e = .returned (.agg #[.int .i64 0, .int .i64 0, .int .i64 0]) ∧ ∃ x : Aft w, w' = x.val := by
  clear hB 
  go_enter Tryz.func65, Tryz.ntmps65
  go_wp2_with fail
  have rL : (((w.alloc (.cells #[.int .i64 op, .int .i64 wd, .slice B 0 bc, .int .i64 v] 61)).alloc (.cells #[.int .i64 0, .int .i64 0, .int .i64 0] 67)).alloc (.cells #[.int .i64 0, .int .i64 0, .int .i64 0] 67)).heap[w.heap.size + 2]? = some (.cells #[.int .i64 0, .int .i64 0, .int .i64 0] 67) := by
    exact heap_alloc_at (by simp)
  have rR : (((w.alloc (.cells #[.int .i64 op, .int .i64 wd, .slice B 0 bc, .int .i64 v] 61)).alloc (.cells #[.int .i64 0, .int .i64 0, .int .i64 0] 67)).alloc (.cells #[.int .i64 0, .int .i64 0, .int .i64 0] 67)).heap[w.heap.size + 1]? = some (.cells #[.int .i64 0, .int .i64 0, .int .i64 0] 67) := by
    exact heap_alloc' (by simp) (heap_alloc_at (by simp))
  have rN : (((w.alloc (.cells #[.int .i64 op, .int .i64 wd, .slice B 0 bc, .int .i64 v] 61)).alloc (.cells #[.int .i64 0, .int .i64 0, .int .i64 0] 67)).alloc (.cells #[.int .i64 0, .int .i64 0, .int .i64 0] 67)).heap[w.heap.size]? = some (.cells #[.int .i64 op, .int .i64 wd, .slice B 0 bc, .int .i64 v] 61) := heap_alloc' (by simp; omega) (heap_alloc' (by simp) (heap_alloc_new _ _))
  have hb0 : Below w.heap.size w (((w.alloc (.cells #[.int .i64 op, .int .i64 wd, .slice B 0 bc, .int .i64 v] 61)).alloc (.cells #[.int .i64 0, .int .i64 0, .int .i64 0] 67)).alloc (.cells #[.int .i64 0, .int .i64 0, .int .i64 0] 67)) := (((Below.refl _ _).alloc (Nat.le_refl _) _).alloc (by simp) _).alloc (by simp; omega) _
  have qN := cell_block (i := 2) rN
  simp at qN
  clear rN
  generalize (((w.alloc (.cells #[.int .i64 op, .int .i64 wd, .slice B 0 bc, .int .i64 v] 61)).alloc (.cells #[.int .i64 0, .int .i64 0, .int .i64 0] 67)).alloc (.cells #[.int .i64 0, .int .i64 0, .int .i64 0] 67)) = W0 at *
  refine wp_loop_rounds 1 ?_
  rw [rounds_succ]
  have u0 := cell_block (i := 0) rL
  have p0 := cell_block (i := 0) rR
  have f0 := free_block (i := 0) rR
  have u1 := cell_block (i := 1) rL
  have p1 := cell_block (i := 1) rR
  have f1 := free_block (i := 1) rR
  have u2 := cell_block (i := 2) rL
  have p2 := cell_block (i := 2) rR
  have f2 := free_block (i := 2) rR
  simp at u0 u1 u2 p0 p1 p2
  go_wp2
  refine bodyPost_ret (by simp [results, Tryz.results65, go_sem, p0, p1, p2]; try rfl) rfl ?_
  exact ⟨rfl, Below.aft (by (repeat' (first | (with_reducible exact Below.refl _ _) | (with_reducible assumption) | (with_reducible refine Below.alloc ?_ ?_ _) | (with_reducible refine Below.drew ?_) | (with_reducible refine Aft.below _ ?_ ?_) | (with_reducible refine Below.setCell_new ?_ ?_ _ _) | (with_reducible exact Nat.le_refl _) | (with_reducible refine Aft.le _ ?_) | (with_reducible refine le_alloc ?_) | (with_reducible refine le_drew ?_) | (with_reducible refine le_setCell ?_) | omega)))⟩

set_option maxRecDepth 100000 in
set_option maxHeartbeats 1600000 in
theorem largs1 (op wd v : Int) (B : Option Addr) (bc : Nat) (w : World) (k0 : Int) (hB : LiesI w B [k0]) :
    Calls Tryz.prog 65 #[.agg #[.int .i64 op, .int .i64 wd, .slice B 1 bc, .int .i64 v], .func (.func 66) #[] #[]] w fun e w' => e = .returned (.agg #[.int .i64 k0, .int .i64 0, .int .i64 0]) ∧ ∃ x : Aft w, w' = x.val := by
  obtain ⟨ad, rfl, hbk, hcell⟩ := hB (by simp)
  have hx0 := hcell 0 k0 (by rfl)
  have HX := Lib.hid (fun (W : World) (hb : Below w.heap.size w W) (i : Nat) => (hb.cell (p := ad.add i) (by rw [addB]; exact hbk)))
  clear hB hcell
  go_enter Tryz.func65, Tryz.ntmps65
  go_wp2_with fail
  have rL : (((w.alloc (.cells #[.int .i64 op, .int .i64 wd, .slice (some ad) 1 bc, .int .i64 v] 61)).alloc (.cells #[.int .i64 0, .int .i64 0, .int .i64 0] 67)).alloc (.cells #[.int .i64 0, .int .i64 0, .int .i64 0] 67)).heap[w.heap.size + 2]? = some (.cells #[.int .i64 0, .int .i64 0, .int .i64 0] 67) := by
    exact heap_alloc_at (by simp)
  have rR : (((w.alloc (.cells #[.int .i64 op, .int .i64 wd, .slice (some ad) 1 bc, .int .i64 v] 61)).alloc (.cells #[.int .i64 0, .int .i64 0, .int .i64 0] 67)).alloc (.cells #[.int .i64 0, .int .i64 0, .int .i64 0] 67)).heap[w.heap.size + 1]? = some (.cells #[.int .i64 0, .int .i64 0, .int .i64 0] 67) := by
    exact heap_alloc' (by simp) (heap_alloc_at (by simp))
  have rN : (((w.alloc (.cells #[.int .i64 op, .int .i64 wd, .slice (some ad) 1 bc, .int .i64 v] 61)).alloc (.cells #[.int .i64 0, .int .i64 0, .int .i64 0] 67)).alloc (.cells #[.int .i64 0, .int .i64 0, .int .i64 0] 67)).heap[w.heap.size]? = some (.cells #[.int .i64 op, .int .i64 wd, .slice (some ad) 1 bc, .int .i64 v] 61) := heap_alloc' (by simp; omega) (heap_alloc' (by simp) (heap_alloc_new _ _))
  have hb0 : Below w.heap.size w (((w.alloc (.cells #[.int .i64 op, .int .i64 wd, .slice (some ad) 1 bc, .int .i64 v] 61)).alloc (.cells #[.int .i64 0, .int .i64 0, .int .i64 0] 67)).alloc (.cells #[.int .i64 0, .int .i64 0, .int .i64 0] 67)) := (((Below.refl _ _).alloc (Nat.le_refl _) _).alloc (by simp) _).alloc (by simp; omega) _
  have qN := cell_block (i := 2) rN
  simp at qN
  clear rN
  generalize (((w.alloc (.cells #[.int .i64 op, .int .i64 wd, .slice (some ad) 1 bc, .int .i64 v] 61)).alloc (.cells #[.int .i64 0, .int .i64 0, .int .i64 0] 67)).alloc (.cells #[.int .i64 0, .int .i64 0, .int .i64 0] 67)) = W0 at *
  have cc0 : W0.cell? ad = some (.int .i64 k0) := (HX.out _ hb0 0).trans hx0
  refine wp_loop_rounds 2 ?_
  rw [rounds_succ]
  go_wp2_with fail
  refine (likeness1_c k0 _).mono ?_
  rintro e w' ⟨rfl, rfl⟩
  have qL0 := cell_block (i := 0) rL
  have fL0 := free_block (i := 0) rL
  simp at qL0
  have rL1 : (W0.setCell ⟨w.heap.size + 2, 0, none⟩ (.int .i64 k0)).heap[w.heap.size + 2]? = some (.cells #[.int .i64 k0, .int .i64 0, .int .i64 0] 67) := heap_set rL
  have rR1 : (W0.setCell ⟨w.heap.size + 2, 0, none⟩ (.int .i64 k0)).heap[w.heap.size + 1]? = some (.cells #[.int .i64 0, .int .i64 0, .int .i64 0] 67) := heap_set_ne rR (by omega)
  have hb1 : Below w.heap.size w (W0.setCell ⟨w.heap.size + 2, 0, none⟩ (.int .i64 k0)) := hb0.setCell (by first | omega | (simp; done) | (simp; omega)) _
  go_wp2_with fail
  clear rL rR qL0 fL0 cc0
  have rL := rL1
  have rR := rR1
  clear rL1 rR1
  generalize (W0.setCell ⟨w.heap.size + 2, 0, none⟩ (.int .i64 k0)) = W1 at *
  rw [rounds_succ]
  have u0 := cell_block (i := 0) rL
  have p0 := cell_block (i := 0) rR
  have f0 := free_block (i := 0) rR
  have u1 := cell_block (i := 1) rL
  have p1 := cell_block (i := 1) rR
  have f1 := free_block (i := 1) rR
  have u2 := cell_block (i := 2) rL
  have p2 := cell_block (i := 2) rR
  have f2 := free_block (i := 2) rR
  simp at u0 u1 u2 p0 p1 p2
  go_wp2
  refine bodyPost_ret (by simp [results, Tryz.results65, go_sem, p0, p1, p2]; try rfl) rfl ?_
  exact ⟨rfl, Below.aft (by (repeat' (first | (with_reducible exact Below.refl _ _) | (with_reducible assumption) | (with_reducible refine Below.alloc ?_ ?_ _) | (with_reducible refine Below.drew ?_) | (with_reducible refine Aft.below _ ?_ ?_) | (with_reducible refine Below.setCell_new ?_ ?_ _ _) | (with_reducible exact Nat.le_refl _) | (with_reducible refine Aft.le _ ?_) | (with_reducible refine le_alloc ?_) | (with_reducible refine le_drew ?_) | (with_reducible refine le_setCell ?_) | omega)))⟩

set_option maxRecDepth 100000 in
set_option maxHeartbeats 1600000 in
theorem largs2 (op wd v : Int) (B : Option Addr) (bc : Nat) (w : World) (k0 : Int) (k1 : Int) (hB : LiesI w B [k0, k1]) :
    Calls Tryz.prog 65 #[.agg #[.int .i64 op, .int .i64 wd, .slice B 2 bc, .int .i64 v], .func (.func 66) #[] #[]] w fun e w' => e = .returned (.agg #[.int .i64 k0, .int .i64 k1, .int .i64 0]) ∧ ∃ x : Aft w, w' = x.val := by
  obtain ⟨ad, rfl, hbk, hcell⟩ := hB (by simp)
  have hx0 := hcell 0 k0 (by rfl)
  have hx1 := hcell 1 k1 (by rfl)
  have HX := Lib.hid (fun (W : World) (hb : Below w.heap.size w W) (i : Nat) => (hb.cell (p := ad.add i) (by rw [addB]; exact hbk)))
  clear hB hcell
  go_enter Tryz.func65, Tryz.ntmps65
  go_wp2_with fail
  have rL : (((w.alloc (.cells #[.int .i64 op, .int .i64 wd, .slice (some ad) 2 bc, .int .i64 v] 61)).alloc (.cells #[.int .i64 0, .int .i64 0, .int .i64 0] 67)).alloc (.cells #[.int .i64 0, .int .i64 0, .int .i64 0] 67)).heap[w.heap.size + 2]? = some (.cells #[.int .i64 0, .int .i64 0, .int .i64 0] 67) := by
    exact heap_alloc_at (by simp)
  have rR : (((w.alloc (.cells #[.int .i64 op, .int .i64 wd, .slice (some ad) 2 bc, .int .i64 v] 61)).alloc (.cells #[.int .i64 0, .int .i64 0, .int .i64 0] 67)).alloc (.cells #[.int .i64 0, .int .i64 0, .int .i64 0] 67)).heap[w.heap.size + 1]? = some (.cells #[.int .i64 0, .int .i64 0, .int .i64 0] 67) := by
    exact heap_alloc' (by simp) (heap_alloc_at (by simp))
  have rN : (((w.alloc (.cells #[.int .i64 op, .int .i64 wd, .slice (some ad) 2 bc, .int .i64 v] 61)).alloc (.cells #[.int .i64 0, .int .i64 0, .int .i64 0] 67)).alloc (.cells #[.int .i64 0, .int .i64 0, .int .i64 0] 67)).heap[w.heap.size]? = some (.cells #[.int .i64 op, .int .i64 wd, .slice (some ad) 2 bc, .int .i64 v] 61) := heap_alloc' (by simp; omega) (heap_alloc' (by simp) (heap_alloc_new _ _))
  have hb0 : Below w.heap.size w (((w.alloc (.cells #[.int .i64 op, .int .i64 wd, .slice (some ad) 2 bc, .int .i64 v] 61)).alloc (.cells #[.int .i64 0, .int .i64 0, .int .i64 0] 67)).alloc (.cells #[.int .i64 0, .int .i64 0, .int .i64 0] 67)) := (((Below.refl _ _).alloc (Nat.le_refl _) _).alloc (by simp) _).alloc (by simp; omega) _
  have qN := cell_block (i := 2) rN
  simp at qN
  clear rN
  generalize (((w.alloc (.cells #[.int .i64 op, .int .i64 wd, .slice (some ad) 2 bc, .int .i64 v] 61)).alloc (.cells #[.int .i64 0, .int .i64 0, .int .i64 0] 67)).alloc (.cells #[.int .i64 0, .int .i64 0, .int .i64 0] 67)) = W0 at *
  have cc0 : W0.cell? ad = some (.int .i64 k0) := (HX.out _ hb0 0).trans hx0
  refine wp_loop_rounds 3 ?_
  rw [rounds_succ]
  go_wp2_with fail
  refine (likeness1_c k0 _).mono ?_
  rintro e w' ⟨rfl, rfl⟩
  have qL0 := cell_block (i := 0) rL
  have fL0 := free_block (i := 0) rL
  simp at qL0
  have rL1 : (W0.setCell ⟨w.heap.size + 2, 0, none⟩ (.int .i64 k0)).heap[w.heap.size + 2]? = some (.cells #[.int .i64 k0, .int .i64 0, .int .i64 0] 67) := heap_set rL
  have rR1 : (W0.setCell ⟨w.heap.size + 2, 0, none⟩ (.int .i64 k0)).heap[w.heap.size + 1]? = some (.cells #[.int .i64 0, .int .i64 0, .int .i64 0] 67) := heap_set_ne rR (by omega)
  have hb1 : Below w.heap.size w (W0.setCell ⟨w.heap.size + 2, 0, none⟩ (.int .i64 k0)) := hb0.setCell (by first | omega | (simp; done) | (simp; omega)) _
  go_wp2_with fail
  clear rL rR qL0 fL0 cc0
  have rL := rL1
  have rR := rR1
  clear rL1 rR1
  generalize (W0.setCell ⟨w.heap.size + 2, 0, none⟩ (.int .i64 k0)) = W1 at *
  have cc1 : W1.cell? ⟨ad.block, ad.off + 1, none⟩ = some (.int .i64 k1) := (HX.out _ hb1 1).trans hx1
  rw [rounds_succ]
  go_wp2_with fail
  refine (likeness1_c k1 _).mono ?_
  rintro e w' ⟨rfl, rfl⟩
  have qL0 := cell_block (i := 1) rL
  have fL0 := free_block (i := 1) rL
  simp at qL0
  have rL1 : (W1.setCell ⟨w.heap.size + 2, 1, none⟩ (.int .i64 k1)).heap[w.heap.size + 2]? = some (.cells #[.int .i64 k0, .int .i64 k1, .int .i64 0] 67) := heap_set rL
  have rR1 : (W1.setCell ⟨w.heap.size + 2, 1, none⟩ (.int .i64 k1)).heap[w.heap.size + 1]? = some (.cells #[.int .i64 0, .int .i64 0, .int .i64 0] 67) := heap_set_ne rR (by omega)
  have hb2 : Below w.heap.size w (W1.setCell ⟨w.heap.size + 2, 1, none⟩ (.int .i64 k1)) := hb1.setCell (by first | omega | (simp; done) | (simp; omega)) _
  go_wp2_with fail
  clear rL rR qL0 fL0 cc1
  have rL := rL1
  have rR := rR1
  clear rL1 rR1
  generalize (W1.setCell ⟨w.heap.size + 2, 1, none⟩ (.int .i64 k1)) = W2 at *
  rw [rounds_succ]
  have u0 := cell_block (i := 0) rL
  have p0 := cell_block (i := 0) rR
  have f0 := free_block (i := 0) rR
  have u1 := cell_block (i := 1) rL
  have p1 := cell_block (i := 1) rR
  have f1 := free_block (i := 1) rR
  have u2 := cell_block (i := 2) rL
  have p2 := cell_block (i := 2) rR
  have f2 := free_block (i := 2) rR
  simp at u0 u1 u2 p0 p1 p2
  go_wp2
  refine bodyPost_ret (by simp [results, Tryz.results65, go_sem, p0, p1, p2]; try rfl) rfl ?_
  exact ⟨rfl, Below.aft (by (repeat' (first | (with_reducible exact Below.refl _ _) | (with_reducible assumption) | (with_reducible refine Below.alloc ?_ ?_ _) | (with_reducible refine Below.drew ?_) | (with_reducible refine Aft.below _ ?_ ?_) | (with_reducible refine Below.setCell_new ?_ ?_ _ _) | (with_reducible exact Nat.le_refl _) | (with_reducible refine Aft.le _ ?_) | (with_reducible refine le_alloc ?_) | (with_reducible refine le_drew ?_) | (with_reducible refine le_setCell ?_) | omega)))⟩

set_option maxRecDepth 100000 in
set_option maxHeartbeats 1600000 in
theorem largs3 (op wd v : Int) (B : Option Addr) (bc : Nat) (w : World) (k0 : Int) (k1 : Int) (k2 : Int) (hB : LiesI w B [k0, k1, k2]) :
    Calls Tryz.prog 65 #[.agg #[.int .i64 op, .int .i64 wd, .slice B 3 bc, .int .i64 v], .func (.func 66) #[] #[]] w fun e w' => e = .returned (.agg #[.int .i64 k0, .int .i64 k1, .int .i64 k2]) ∧ ∃ x : Aft w, w' = x.val := by
  obtain ⟨ad, rfl, hbk, hcell⟩ := hB (by simp)
  have hx0 := hcell 0 k0 (by rfl)
  have hx1 := hcell 1 k1 (by rfl)
  have hx2 := hcell 2 k2 (by rfl)
  have HX := Lib.hid (fun (W : World) (hb : Below w.heap.size w W) (i : Nat) => (hb.cell (p := ad.add i) (by rw [addB]; exact hbk)))
  clear hB hcell
  go_enter Tryz.func65, Tryz.ntmps65
  go_wp2_with fail
  have rL : (((w.alloc (.cells #[.int .i64 op, .int .i64 wd, .slice (some ad) 3 bc, .int .i64 v] 61)).alloc (.cells #[.int .i64 0, .int .i64 0, .int .i64 0] 67)).alloc (.cells #[.int .i64 0, .int .i64 0, .int .i64 0] 67)).heap[w.heap.size + 2]? = some (.cells #[.int .i64 0, .int .i64 0, .int .i64 0] 67) := by
    exact heap_alloc_at (by simp)
  have rR : (((w.alloc (.cells #[.int .i64 op, .int .i64 wd, .slice (some ad) 3 bc, .int .i64 v] 61)).alloc (.cells #[.int .i64 0, .int .i64 0, .int .i64 0] 67)).alloc (.cells #[.int .i64 0, .int .i64 0, .int .i64 0] 67)).heap[w.heap.size + 1]? = some (.cells #[.int .i64 0, .int .i64 0, .int .i64 0] 67) := by
    exact heap_alloc' (by simp) (heap_alloc_at (by simp))
  have rN : (((w.alloc (.cells #[.int .i64 op, .int .i64 wd, .slice (some ad) 3 bc, .int .i64 v] 61)).alloc (.cells #[.int .i64 0, .int .i64 0, .int .i64 0] 67)).alloc (.cells #[.int .i64 0, .int .i64 0, .int .i64 0] 67)).heap[w.heap.size]? = some (.cells #[.int .i64 op, .int .i64 wd, .slice (some ad) 3 bc, .int .i64 v] 61) := heap_alloc' (by simp; omega) (heap_alloc' (by simp) (heap_alloc_new _ _))
  have hb0 : Below w.heap.size w (((w.alloc (.cells #[.int .i64 op, .int .i64 wd, .slice (some ad) 3 bc, .int .i64 v] 61)).alloc (.cells #[.int .i64 0, .int .i64 0, .int .i64 0] 67)).alloc (.cells #[.int .i64 0, .int .i64 0, .int .i64 0] 67)) := (((Below.refl _ _).alloc (Nat.le_refl _) _).alloc (by simp) _).alloc (by simp; omega) _
  have qN := cell_block (i := 2) rN
  simp at qN
  clear rN
  generalize (((w.alloc (.cells #[.int .i64 op, .int .i64 wd, .slice (some ad) 3 bc, .int .i64 v] 61)).alloc (.cells #[.int .i64 0, .int .i64 0, .int .i64 0] 67)).alloc (.cells #[.int .i64 0, .int .i64 0, .int .i64 0] 67)) = W0 at *
  have cc0 : W0.cell? ad = some (.int .i64 k0) := (HX.out _ hb0 0).trans hx0
  refine wp_loop_rounds 4 ?_
  rw [rounds_succ]
  go_wp2_with fail
  refine (likeness1_c k0 _).mono ?_
  rintro e w' ⟨rfl, rfl⟩
  have qL0 := cell_block (i := 0) rL
  have fL0 := free_block (i := 0) rL
  simp at qL0
  have rL1 : (W0.setCell ⟨w.heap.size + 2, 0, none⟩ (.int .i64 k0)).heap[w.heap.size + 2]? = some (.cells #[.int .i64 k0, .int .i64 0, .int .i64 0] 67) := heap_set rL
  have rR1 : (W0.setCell ⟨w.heap.size + 2, 0, none⟩ (.int .i64 k0)).heap[w.heap.size + 1]? = some (.cells #[.int .i64 0, .int .i64 0, .int .i64 0] 67) := heap_set_ne rR (by omega)
  have hb1 : Below w.heap.size w (W0.setCell ⟨w.heap.size + 2, 0, none⟩ (.int .i64 k0)) := hb0.setCell (by first | omega | (simp; done) | (simp; omega)) _
  go_wp2_with fail
  clear rL rR qL0 fL0 cc0
  have rL := rL1
  have rR := rR1
  clear rL1 rR1
  generalize (W0.setCell ⟨w.heap.size + 2, 0, none⟩ (.int .i64 k0)) = W1 at *
  have cc1 : W1.cell? ⟨ad.block, ad.off + 1, none⟩ = some (.int .i64 k1) := (HX.out _ hb1 1).trans hx1
  rw [rounds_succ]
  go_wp2_with fail
  refine (likeness1_c k1 _).mono ?_
  rintro e w' ⟨rfl, rfl⟩
  have qL0 := cell_block (i := 1) rL
  have fL0 := free_block (i := 1) rL
  simp at qL0
  have rL1 : (W1.setCell ⟨w.heap.size + 2, 1, none⟩ (.int .i64 k1)).heap[w.heap.size + 2]? = some (.cells #[.int .i64 k0, .int .i64 k1, .int .i64 0] 67) := heap_set rL
  have rR1 : (W1.setCell ⟨w.heap.size + 2, 1, none⟩ (.int .i64 k1)).heap[w.heap.size + 1]? = some (.cells #[.int .i64 0, .int .i64 0, .int .i64 0] 67) := heap_set_ne rR (by omega)
  have hb2 : Below w.heap.size w (W1.setCell ⟨w.heap.size + 2, 1, none⟩ (.int .i64 k1)) := hb1.setCell (by first | omega | (simp; done) | (simp; omega)) _
  go_wp2_with fail
  clear rL rR qL0 fL0 cc1
  have rL := rL1
  have rR := rR1
  clear rL1 rR1
  generalize (W1.setCell ⟨w.heap.size + 2, 1, none⟩ (.int .i64 k1)) = W2 at *
  have cc2 : W2.cell? ⟨ad.block, ad.off + 2, none⟩ = some (.int .i64 k2) := (HX.out _ hb2 2).trans hx2
  rw [rounds_succ]
  go_wp2_with fail
  refine (likeness1_c k2 _).mono ?_
  rintro e w' ⟨rfl, rfl⟩
  have qL0 := cell_block (i := 2) rL
  have fL0 := free_block (i := 2) rL
  simp at qL0
  have rL1 : (W2.setCell ⟨w.heap.size + 2, 2, none⟩ (.int .i64 k2)).heap[w.heap.size + 2]? = some (.cells #[.int .i64 k0, .int .i64 k1, .int .i64 k2] 67) := heap_set rL
  have rR1 : (W2.setCell ⟨w.heap.size + 2, 2, none⟩ (.int .i64 k2)).heap[w.heap.size + 1]? = some (.cells #[.int .i64 0, .int .i64 0, .int .i64 0] 67) := heap_set_ne rR (by omega)
  have hb3 : Below w.heap.size w (W2.setCell ⟨w.heap.size + 2, 2, none⟩ (.int .i64 k2)) := hb2.setCell (by first | omega | (simp; done) | (simp; omega)) _
  go_wp2_with fail
  clear rL rR qL0 fL0 cc2
  have rL := rL1
  have rR := rR1
  clear rL1 rR1
  generalize (W2.setCell ⟨w.heap.size + 2, 2, none⟩ (.int .i64 k2)) = W3 at *
  rw [rounds_succ]
  have u0 := cell_block (i := 0) rL
  have p0 := cell_block (i := 0) rR
  have f0 := free_block (i := 0) rR
  have u1 := cell_block (i := 1) rL
  have p1 := cell_block (i := 1) rR
  have f1 := free_block (i := 1) rR
  have u2 := cell_block (i := 2) rL
  have p2 := cell_block (i := 2) rR
  have f2 := free_block (i := 2) rR
  simp at u0 u1 u2 p0 p1 p2
  go_wp2
  refine bodyPost_ret (by simp [results, Tryz.results65, go_sem, p0, p1, p2]; try rfl) rfl ?_
  exact ⟨rfl, Below.aft (by (repeat' (first | (with_reducible exact Below.refl _ _) | (with_reducible assumption) | (with_reducible refine Below.alloc ?_ ?_ _) | (with_reducible refine Below.drew ?_) | (with_reducible refine Aft.below _ ?_ ?_) | (with_reducible refine Below.setCell_new ?_ ?_ _ _) | (with_reducible exact Nat.le_refl _) | (with_reducible refine Aft.le _ ?_) | (with_reducible refine le_alloc ?_) | (with_reducible refine le_drew ?_) | (with_reducible refine le_setCell ?_) | omega)))⟩

theorem largs_c (op wd v : Int) (args : List Int) (al : args.length ≤ 3) (B : Option Addr) (bc : Nat) (w : World) (hB : LiesI w B args) :
    Calls Tryz.prog 65 #[.agg #[.int .i64 op, .int .i64 wd, .slice B args.length bc, .int .i64 v], .func (.func 66) #[] #[]] w fun e w' => e = .returned (.agg #[.int .i64 (args.getD 0 0), .int .i64 (args.getD 1 0), .int .i64 (args.getD 2 0)]) ∧ ∃ x : Aft w, w' = x.val := by
  match args, al with
  | [], _ => exact largs0 op wd v B bc w  hB
  | [a0], _ => exact largs1 op wd v B bc w a0 hB
  | [a0, a1], _ => exact largs2 op wd v B bc w a0 a1 hB
  | [a0, a1, a2], _ => exact largs3 op wd v B bc w a0 a1 a2 hB

/-- The key of a node, as a value. -/
def keyV (m : Nd) : Value := .agg #[.int .i64 m.op, .int .i64 m.wd, .int .i64 m.v, .int .i64 (m.args.getD 0 0), .int .i64 (m.args.getD 1 0), .int .i64 (m.args.getD 2 0)]

set_option maxRecDepth 100000 in
set_option maxHeartbeats 1600000 in
theorem likenessOf_c (op wd v : Int) (args : List Int) (al : args.length ≤ 3) (B : Option Addr) (bc : Nat) (w : World) (hB : LiesI w B args) :
    Calls Tryz.prog 36 #[.agg #[.int .i64 op, .int .i64 wd, .slice B args.length bc, .int .i64 v]] w fun e w' => e = .returned (keyV ⟨op, wd, args, v⟩) ∧ ∃ x : Aft w, w' = x.val := by
  unfold keyV
  simp only
  have HLA := Lib.hid (fun (W : World) (hb : Below w.heap.size w W) => largs_c op wd v args al B bc W (hB.below hb))
  clear hB
  generalize args.getD 0 0 = g0 at *
  generalize args.getD 1 0 = g1 at *
  generalize args.getD 2 0 = g2 at *
  go_enter Tryz.func36, Tryz.ntmps36
  go_upto_region 1 with (fail)
  have rN : ((w.alloc (.cells #[.int .i64 op, .int .i64 wd, .slice B args.length bc, .int .i64 v] 61)).alloc (.cells #[.int .i64 0, .int .i64 0, .int .i64 0, .int .i64 0, .int .i64 0, .int .i64 0] 69)).heap[w.heap.size]? = some (.cells #[.int .i64 op, .int .i64 wd, .slice B args.length bc, .int .i64 v] 61) := heap_alloc' (by simp) (heap_alloc_new _ _)
  have rR : ((w.alloc (.cells #[.int .i64 op, .int .i64 wd, .slice B args.length bc, .int .i64 v] 61)).alloc (.cells #[.int .i64 0, .int .i64 0, .int .i64 0, .int .i64 0, .int .i64 0, .int .i64 0] 69)).heap[w.heap.size + 1]? = some (.cells #[.int .i64 0, .int .i64 0, .int .i64 0, .int .i64 0, .int .i64 0, .int .i64 0] 69) := heap_alloc_at (by simp)
  have hb0 : Below w.heap.size w ((w.alloc (.cells #[.int .i64 op, .int .i64 wd, .slice B args.length bc, .int .i64 v] 61)).alloc (.cells #[.int .i64 0, .int .i64 0, .int .i64 0, .int .i64 0, .int .i64 0, .int .i64 0] 69)) := ((Below.refl _ _).alloc (Nat.le_refl _) _).alloc (by simp) _
  generalize ((w.alloc (.cells #[.int .i64 op, .int .i64 wd, .slice B args.length bc, .int .i64 v] 61)).alloc (.cells #[.int .i64 0, .int .i64 0, .int .i64 0, .int .i64 0, .int .i64 0, .int .i64 0] 69)) = W0 at *
  have n0 := cell_block (i := 0) rN
  have n1 := cell_block (i := 1) rN
  have n2 := cell_block (i := 2) rN
  have n3 := cell_block (i := 3) rN
  simp at n0 n1 n2 n3
  have lN := lt_of_get rN
  have lR := lt_of_get rR
  have HL0 := Lib.hid (fun (z : Aft W0) => HLA.out z.val (z.below hb0 hb0.size))
  clear HLA
  refine wp_region_aft_tail 9 (by kernel_rfl) (by kernel_rfl) ?_
  simp only [List.take_succ_cons, List.take_zero, List.drop_succ_cons, List.drop_zero]
  repeat (go_big_quiet_step ((go_at_call 65; exact Calls.qa (HL0.out _))))
  refine wpQuiet_nil ?_
  intro y
  have rR2 := heap_aft y lR rR
  have hby := y.below hb0 hb0.size
  clear rN rR hb0 n0 n1 n2 n3 HL0
  generalize y.val = W2 at *
  have r0 := cell_block (i := 0) rR2
  have e0 := free_block (i := 0) rR2
  have r1 := cell_block (i := 1) rR2
  have e1 := free_block (i := 1) rR2
  have r2 := cell_block (i := 2) rR2
  have e2 := free_block (i := 2) rR2
  have r3 := cell_block (i := 3) rR2
  have e3 := free_block (i := 3) rR2
  have r4 := cell_block (i := 4) rR2
  have e4 := free_block (i := 4) rR2
  have r5 := cell_block (i := 5) rR2
  have e5 := free_block (i := 5) rR2
  simp at r0 r1 r2 r3 r4 r5
  go_wp2
  refine bodyPost_ret (by simp [results, Tryz.results36, go_sem, r0, r1, r2, r3, r4, r5]; try rfl) rfl ?_
  exact ⟨rfl, Below.aft (by (repeat' (first | (with_reducible exact Below.refl _ _) | (with_reducible assumption) | (with_reducible refine Below.alloc ?_ ?_ _) | (with_reducible refine Below.drew ?_) | (with_reducible refine Aft.below _ ?_ ?_) | (with_reducible refine Below.setCell_new ?_ ?_ _ _) | (with_reducible exact Nat.le_refl _) | (with_reducible refine Aft.le _ ?_) | (with_reducible refine le_alloc ?_) | (with_reducible refine le_drew ?_) | (with_reducible refine le_setCell ?_) | omega)))⟩

end Go.Proofs.YtkdonapgonegkaaGreatDoor

set_option linter.unusedSimpArgs false
set_option linter.unusedVariables false
namespace Go.Proofs.YtkdonapgonegkaaGreatDoor
open Go.RowKit Go.BigFrame Go.Maps

abbrev DU := DataW Unit
theorem laidOutP : laidOutB Tryz.prog = true := by kernel_rfl
theorem rowL : (69 : TypeId) < Tryz.prog.types.size := of_decide_eq_true (by kernel_rfl)
theorem ktL : Tryz.prog.keyTypeAt 4 69 = true := by kernel_rfl
theorem lawL : WideMaps.KeyLaw Tryz.prog 69 := deep_law_laid (m := 4) laidOutP (by omega) rowL ktL (by rw [Tryz.underlying69])
theorem keyedL : Keyed Tryz.prog 69 := Keyed.of_law lawL
theorem zeroI (w : World) : (zeroValue 3).run Tryz.prog w = .ok (.int .i64 0) w := by kernel_rfl
theorem keyTypeL : Tryz.prog.keyType 69 = true := by kernel_rfl
theorem cellsOfL : Tryz.prog.cellsOf 69 = 6 := by kernel_rfl
theorem cellsOf3 : Tryz.prog.cellsOf 67 = 3 := by kernel_rfl
theorem cellsOfI : Tryz.prog.cellsOf 3 = 1 := by kernel_rfl
theorem sizeT : ∃ m, Tryz.prog.types.size = m + 3 := ⟨Tryz.prog.types.size - 3, by have : 3 ≤ Tryz.prog.types.size := of_decide_eq_true (by kernel_rfl); omega⟩
/-- Numbers that are small. -/
structure KB (m : Nd) : Prop where
  o : -65536 ≤ m.op ∧ m.op ≤ 65536
  w : -65536 ≤ m.wd ∧ m.wd ≤ 65536
  v : -65536 ≤ m.v ∧ m.v ≤ 65536
  a0 : -65536 ≤ m.args.getD 0 0 ∧ m.args.getD 0 0 ≤ 65536
  a1 : -65536 ≤ m.args.getD 1 0 ∧ m.args.getD 1 0 ≤ 65536
  a2 : -65536 ≤ m.args.getD 2 0 ∧ m.args.getD 2 0 ≤ 65536
theorem wfI {x : Int} (h : -65536 ≤ x ∧ x ≤ 65536) : (Lit.int .i64 x).wf = true := by
  have h1 : IntKind.min .i64 = -9223372036854775808 := by decide
  have h2 : IntKind.max .i64 = 9223372036854775807 := by decide
  unfold Lit.wf
  simp only [Bool.and_eq_true, decide_eq_true_eq]
  rw [h1, h2]; omega
/-- The key of a node, as the reader has it. -/
def klN (m : Nd) : Lit := .string (keyBytes [.int .i64 m.op, .int .i64 m.wd, .int .i64 m.v, .int .i64 (m.args.getD 0 0), .int .i64 (m.args.getD 1 0), .int .i64 (m.args.getD 2 0)])
theorem keyLits6 {D : Nat} {a b c x y z : Int} (ha : (Lit.int .i64 a).wf = true) (hb : (Lit.int .i64 b).wf = true) (hc : (Lit.int .i64 c).wf = true) (hx : (Lit.int .i64 x).wf = true) (hy : (Lit.int .i64 y).wf = true) (hz : (Lit.int .i64 z).wf = true) :
    Tryz.prog.keyLits (D + 3) 69 [.int .i64 a, .int .i64 b, .int .i64 c, .int .i64 x, .int .i64 y, .int .i64 z] = some [.int .i64 a, .int .i64 b, .int .i64 c, .int .i64 x, .int .i64 y, .int .i64 z] := by
  unfold Program.keyLits
  simp only [Tryz.underlying69]
  rw [if_pos (by rw [cellsOfL]; exact ⟨rfl, by simp⟩)]
  simp [Program.keyLits, Tryz.underlying3, Tryz.underlying67, cellsOf3, cellsOfI, ha, hb, hc, hx, hy, hz, List.mapM_cons, List.range, List.range.loop]
theorem keyOfN {m : Nd} (h : KB m) : keyOf Tryz.prog 69 (keyV m) = some (klN m) := by
  obtain ⟨D, hD⟩ := sizeT
  unfold keyOf
  simp only [Tryz.underlying69]
  rw [if_pos (by simp [keyTypeL, Value.formed, keyV, Tryz.underlying69, cellsOfL]), hD]
  show (Tryz.prog.keyLits (D + 1 + 3) _ _).map _ = _
  rw [show (keyV m).cells.toList = [.int .i64 m.op, .int .i64 m.wd, .int .i64 m.v, .int .i64 (m.args.getD 0 0), .int .i64 (m.args.getD 1 0), .int .i64 (m.args.getD 2 0)] from rfl]
  rw [keyLits6 (wfI h.o) (wfI h.w) (wfI h.v) (wfI h.a0) (wfI h.a1) (wfI h.a2)]
  rfl
/-- A node as the graph's are. -/
structure KN (m : Nd) : Prop where
  kb : KB m
  al : (m.args.length : Int) = argN m.op
theorem klN_eq {a b : Nd} (ha : KN a) (hb : KN b) (h : klN a = klN b) : a = b := by
  have e : keyV a = keyV b := keyedL.inj (keyOfN ha.kb) (by rw [keyOfN hb.kb, h])
  refine key6_eq ha.al hb.al ?_
  unfold keyV at e
  simp only [Value.agg.injEq, Array.mk.injEq, List.cons.injEq, Value.int.injEq, true_and, and_true] at e
  obtain ⟨h1, h2, h3, h4, h5, h6⟩ := e
  unfold key6
  rw [h1, h2, h3, h4, h5, h6]
theorem klN_key (m : Nd) : WideAt.IsKeyLit (klN m) := trivial
/-- What the map says of nodes. -/
structure Reads (D : DU) (cs : List Nd) : Prop where
  map : IsMap D
  kn : ∀ c ∈ cs, KN c
  yes : ∀ c ∈ cs, has D (klN c) = true ∧ D.atKey (klN c) (.lit (.int .i64 0)) = .lit (.int .i64 (plaN cs c))
  no : ∀ m, KN m → ¬ m ∈ cs → has D (klN m) = false
theorem Reads.nil : Reads (.map []) [] := ⟨isMap_empty, fun _ h => (by cases h), fun _ h => (by cases h), fun _ _ _ => rfl⟩
theorem Reads.put {D : DU} {cs : List Nd} {m : Nd} (h : Reads D cs) (hm : KN m) (hn : ¬ m ∈ cs) : Reads (D.put (klN m) (.lit (.int .i64 (cs.length : Int)))) (cs ++ [m]) := by
  refine ⟨h.map.put _ _, ?_, ?_, ?_⟩
  · intro c hc
    rcases List.mem_append.1 hc with hc | hc
    · exact h.kn c hc
    · rw [List.mem_singleton.1 hc]; exact hm
  · intro c hc
    rcases List.mem_append.1 hc with hc | hc
    · have hne : klN c ≠ klN m := fun e => hn (by rw [← klN_eq (h.kn c hc) hm e]; exact hc)
      rw [has_put_other hne, atKey_put_other hne, plaN_snoc_in hc]
      exact h.yes c hc
    · obtain rfl := List.mem_singleton.1 hc
      rw [has_put_same h.map (klN_key _), atKey_put_same h.map (klN_key _), plaN_snoc_new hn]
      exact ⟨rfl, rfl⟩
  · intro c hc hcn
    have hne : klN c ≠ klN m := fun e => hcn (by rw [klN_eq hc hm e]; simp)
    rw [has_put_other hne]
    exact h.no c hc (fun e => hcn (by simp [e]))
theorem own_map_below {w W : World} {P : Program} {k : TypeId} {R : Value → Option (DU × List MemPlace)} {b n : Nat} {D : DU} (h : w.ownsMap P k R b n D) (hb : Below w.heap.size w W) : W.ownsMap P k R b n D := by
  have hlt := h.lt
  obtain ⟨es, clock, hc, F, hs, hD⟩ := h
  exact ⟨es, clock, (hb.block b hlt).trans hc, F, hs, hD⟩
theorem own_map_at {w : World} {P : Program} {k : TypeId} {R : Value → Option (DU × List MemPlace)} {b n : Nat} {D : DU} (h : w.ownsMap P k R b n D) : ∀ c T z, w.heap[b]? ≠ some (.cells c T z) := by
  obtain ⟨es, clock, hc, _⟩ := h
  intro c T z e
  rw [hc] at e; cases e
theorem plainI_inv {v : Value} {n : Int} {ps : List MemPlace} (h : plainElem (H := Unit) Tryz.prog 3 v = some (.lit (.int .i64 n), ps)) : v = .int .i64 n := by
  obtain ⟨a, rfl, h2, _⟩ := plainElem_int_inv Tryz.underlying3 h
  simp only [Prod.mk.injEq, DataW.lit.injEq, Lit.int.injEq, true_and] at h2
  rw [h2.1]
/-- What a look-up gives: of a node that is there its place, of another one that it is not. -/
theorem look_yes {w : World} {b n : Nat} {D : DU} {cs : List Nd} {m : Nd} (h : w.ownsMap Tryz.prog 69 (plainElem Tryz.prog 3) b n D) (hR : Reads D cs) (hm : m ∈ cs) :
    (Instr.lookup 63 (.map (some b)) (keyV m) true).run Tryz.prog w = .ok (.tuple #[.int .i64 (plaN cs m), .bool true]) w := by
  obtain ⟨v, ps, hrun, hv⟩ := h.look_ok keyedL Tryz.underlying63 (zeroI w) (plainElem_int Tryz.underlying3 (by decide)) (keyOfN (hR.kn m hm).kb)
  obtain ⟨h1, h2⟩ := hR.yes m hm
  rw [h2] at hv
  rw [hrun, h1, plainI_inv hv]
theorem atKey_none {D : DU} {l : Lit} {z : DU} (h : has D l = false) : D.atKey l z = z := atKey_of_not_has h z
theorem look_no {w : World} {b n : Nat} {D : DU} {cs : List Nd} {m : Nd} (h : w.ownsMap Tryz.prog 69 (plainElem Tryz.prog 3) b n D) (hR : Reads D cs) (hm : KN m) (hn : ¬ m ∈ cs) :
    (Instr.lookup 63 (.map (some b)) (keyV m) true).run Tryz.prog w = .ok (.tuple #[.int .i64 0, .bool false]) w := by
  obtain ⟨v, ps, hrun, hv⟩ := h.look_ok keyedL Tryz.underlying63 (zeroI w) (plainElem_int Tryz.underlying3 (by decide)) (keyOfN hm.kb)
  have h1 := hR.no m hm hn
  rw [atKey_none h1] at hv
  rw [hrun, h1, plainI_inv hv]
/-- The nodes of a graph, moved, are such. -/
theorem KN.of {ls : List Int} {ns : List Nd} (h : (chk ls ns).2 = 0) {k : Nat} {n : Nd} (hn : ns[k]? = some n) {ps : List Int} (hp : ∀ x ∈ ps, 0 ≤ x ∧ x ≤ 65536) : KN (mvB ps n) := by
  have ok := chk_nodes h k n hn
  obtain ⟨h1, h2, h3, h4, h5, _⟩ := nodeE_ok ((chk_ok h).2.2.2 k n hn)
  have hv : 0 ≤ n.v ∧ n.v ≤ 65536 := by
    by_cases e0 : n.op = 0
    · obtain ⟨w1, w2, w3⟩ := fitC_of h k n hn
      have := w3 e0; have := pwle w1 w2; omega
    · by_cases e1 : n.op = 1
      · have := ok.lf e1; have := (chk_ok h).1; omega
      · by_cases e2 : n.op = 14
        · have := ok.sl e2; omega
        · unfold numE at h5
          rw [if_neg e0, if_neg e1, if_neg e2] at h5
          have := eIf_zero h5 (by decide)
          have : n.v = 0 := by simpa using this
          omega
  have hg : ∀ i : Nat, -65536 ≤ (pickL ps n.args).getD i 0 ∧ (pickL ps n.args).getD i 0 ≤ 65536 := by
    intro i
    by_cases hi : i < n.args.length
    · have e : (pickL ps n.args).getD i 0 = ps.getD (n.args[i]).toNat 0 := by
        simp [pickL, List.getD, hi]
      rw [e]
      by_cases hj : (n.args[i]).toNat < ps.length
      · simp only [List.getD, List.getElem?_eq_getElem hj, Option.getD_some]
        have := hp _ (List.getElem_mem hj); omega
      · simp only [List.getD, List.getElem?_eq_none (Nat.le_of_not_lt hj), Option.getD_none]; omega
    · have e : (pickL ps n.args).getD i 0 = 0 := by
        rw [List.getD, List.getElem?_eq_none (by rw [pickL_len]; omega)]; rfl
      rw [e]; omega
  exact ⟨⟨⟨by have := ok.o0; simp [mvB]; omega, by have := ok.o1; simp [mvB]; omega⟩, ⟨by have := ok.w1; simp [mvB]; omega, by have := ok.w2; simp [mvB]; omega⟩, ⟨by simp [mvB]; omega, by simp [mvB]; omega⟩, hg 0, hg 1, hg 2⟩, by simpa [mvB, pickL_len] using h3⟩
theorem shK_bd {ns : List Nd} (hl : ns.length ≤ 65536) : ∀ k : Nat, ∀ x ∈ (shK ns k).2, 0 ≤ x ∧ x ≤ 65536 := by
  intro k
  induction k with
  | zero => intro x hx; have := List.eq_of_mem_replicate (show x ∈ List.replicate ns.length 0 from hx); omega
  | succ k ih =>
    simp only [shK]
    split
    · exact ih
    · intro x hx
      rcases List.mem_or_eq_of_mem_set hx with hx | rfl
      · exact ih x hx
      · rename_i n hn
        have h1 := plaN_le (shK ns k).1 (mvB (shK ns k).2 n)
        have h2 := (shK_len (ns := ns) k).2
        have h3 := (List.getElem?_eq_some_iff.1 hn).1
        omega

end Go.Proofs.YtkdonapgonegkaaGreatDoor

set_option linter.unusedSimpArgs false
set_option linter.unusedVariables false
namespace Go.Proofs.YtkdonapgonegkaaGreatDoor
open Go.RowKit Go.BigFrame Go.Maps

set_option maxRecDepth 100000 in
set_option maxHeartbeats 1600000 in
theorem withArgs_shared (P : Nat) (g : Int → Int) (op wd v : Int) (B : Option Addr) (bc : Nat) (gs : List Int) (hal : gs.length ≤ 65536) (w : World) (hB : LiesI w B gs)
    (hK : ∀ a ∈ gs, ∀ W : World, Below w.heap.size w W → Calls Tryz.prog 35 #[.int .i64 a, .pointer (some ⟨P, 0, none⟩)] W fun e w' => e = .returned (.int .i64 (g a)) ∧ W = w') :
    Calls Tryz.prog 34 #[.agg #[.int .i64 op, .int .i64 wd, .slice B gs.length bc, .int .i64 v], .func (.func 35) #[] #[.pointer (some ⟨P, 0, none⟩)]] w (WithA w op wd v (gs.map g)) := by
  obtain ⟨i0, hi, hz0, hz1, hz2⟩ := info_parts int_info
  have HB := Lib.hid hB
  have HK := Lib.hid hK
  clear hB hK
  go_enter Tryz.func34, Tryz.ntmps34
  go_wp2_with fail
  have rP : ((w.alloc (.cells #[.int .i64 op, .int .i64 wd, .slice B gs.length bc, .int .i64 v] 61)).alloc (.cells #[.int .i64 0, .int .i64 0, .slice none 0 0, .int .i64 0] 61)).heap[w.heap.size]? = some (.cells #[.int .i64 op, .int .i64 wd, .slice B gs.length bc, .int .i64 v] 61) := heap_alloc' (by simp) (heap_alloc_new _ _)
  have rR : ((w.alloc (.cells #[.int .i64 op, .int .i64 wd, .slice B gs.length bc, .int .i64 v] 61)).alloc (.cells #[.int .i64 0, .int .i64 0, .slice none 0 0, .int .i64 0] 61)).heap[w.heap.size + 1]? = some (.cells #[.int .i64 0, .int .i64 0, .slice none 0 0, .int .i64 0] 61) := heap_alloc_at (by simp)
  have hb0 : Below w.heap.size w ((w.alloc (.cells #[.int .i64 op, .int .i64 wd, .slice B gs.length bc, .int .i64 v] 61)).alloc (.cells #[.int .i64 0, .int .i64 0, .slice none 0 0, .int .i64 0] 61)) := ((Below.refl _ _).alloc (Nat.le_refl _) _).alloc (by simp) _
  have hs0 : w.heap.size + 2 ≤ ((w.alloc (.cells #[.int .i64 op, .int .i64 wd, .slice B gs.length bc, .int .i64 v] 61)).alloc (.cells #[.int .i64 0, .int .i64 0, .slice none 0 0, .int .i64 0] 61)).heap.size := by simp
  generalize ((w.alloc (.cells #[.int .i64 op, .int .i64 wd, .slice B gs.length bc, .int .i64 v] 61)).alloc (.cells #[.int .i64 0, .int .i64 0, .slice none 0 0, .int .i64 0] 61)) = W0 at *
  go_loopw [5, 11] (fun v5 v11 wr => ∃ k : Nat, k ≤ gs.length ∧ v11 = .int .i64 k ∧ wr.ownsRow (w.heap.size + 2) 3 1 v5 ((gs.take k).map g).length (((gs.take k).map g).map (Value.int .i64)) ∧ wr.heap[w.heap.size]? = some (.cells #[.int .i64 op, .int .i64 wd, .slice B gs.length bc, .int .i64 v] 61) ∧ wr.heap[w.heap.size + 1]? = some (.cells #[.int .i64 0, .int .i64 0, .slice none 0 0, .int .i64 0] 61) ∧ Below w.heap.size w wr ∧ w.heap.size + 2 ≤ wr.heap.size) (fun _ v11 _ => gs.length - (intOf v11).toNat)
  case atStart => exact ⟨0, by omega, rfl, World.ownsRow_nil _ _ _ _, rP, rR, hb0, hs0⟩
  case round =>
    clear rP rR hb0 hs0
    obtain ⟨k, hk, rfl, hown, rP, rR, hb, hs⟩ := hrel
    by_cases hlt : k < gs.length
    · have hkk : (k : Int) < gs.length := by omega
      have HX := Lib.hid (List.getElem?_eq_getElem hlt)
      have HM := Lib.hid (List.getElem_mem hlt)
      generalize gs[k] = a at *
      obtain ⟨ad, rfl, hbl, c0⟩ := HB.out.cell HX.out
      have c1 := (hb.cell (p := ad.add k) (by rw [addB]; exact hbl)).trans c0
      have HS := Lib.hid (map_snoc (g := g) HX.out)
      have hml : ((gs.take k).map g).length ≤ 65536 := by simp; omega
      generalize hm : ((gs.take k).map g).length = m at *
      clear c0
      go_wp2_with (first | (go_at_call 35; refine (HK.out a HM.out _ hb).mono ?_; rintro e w' ⟨rfl, rfl⟩) | (at_builtin; refine wpList_append_own _ rfl _ _ 22 rfl (w.heap.size + 2) 3 i0 (.int .i64 0) 1 8 Tryz.underlying22 hi hz0 hz1 hz2 rfl (by decide) _ _ _ rfl (hown.alloc _) ⟨_, 0, none⟩ 1 1 [.int .i64 _] rfl rfl (cell_one_new _ _ _) (fun x hx => by simp at hx; subst hx; rfl) (by unfold maxLen; omega) (by omega) (by first | omega | (simp; omega) | (simp at *; omega)) ?_; intro v' w3 hown' hgrow3 hnn))
      have HF := Lib.hid (own_snoc hown' hm.symm HS.out)
      have hal2 := hb.alloc hb.size (.cells #[.int .i64 (g a)] 3)
      have HB2 := Lib.hid (hal2.grown hgrow3 hal2.size (fun q hq => Nat.le_trans (by omega) (hown.lt q hq).1))
      have hbp := ((Below.refl (w.heap.size + 2) wr).alloc hs (.cells #[.int .i64 (g a)] 3)).grown hgrow3 (by simp; omega) (fun q hq => (hown.lt q hq).1)
      have HP := Lib.hid ((hbp.block _ (by omega)).trans rP)
      have HR := Lib.hid ((hbp.block _ (by omega)).trans rR)
      have hs3 := Nat.le_trans hs hbp.size
      clear hown' hgrow3 hown hal2 hbp rP rR
      go_wp2
      go_roundw
      case rel => exact ⟨k + 1, by omega, by go_num, HF.out, HP.out, HR.out, HB2.out, hs3⟩
      case measure => simp [intOf]; omega
    · obtain rfl : k = gs.length := by omega
      rw [List.take_length] at hown
      obtain ⟨A', cap', rfl, hc, hl, hfr⟩ := own_lies hown
      have HF := Lib.hid (show WithA w op wd v (gs.map g) (.returned (.agg #[.int .i64 op, .int .i64 wd, .slice A' gs.length cap', .int .i64 v])) (((((wr.setCell ⟨w.heap.size, 2, none⟩ (.slice A' gs.length cap')).setCell ⟨w.heap.size + 1, 0, none⟩ (.int .i64 op)).setCell ⟨w.heap.size + 1, 1, none⟩ (.int .i64 wd)).setCell ⟨w.heap.size + 1, 2, none⟩ (.slice A' gs.length cap')).setCell ⟨w.heap.size + 1, 3, none⟩ (.int .i64 v)) from
        ⟨A', cap', by rw [List.length_map], hc, ((((hl.set (fun ad h => by have := (hfr ad h).1; omega)).set (fun ad h => by have := (hfr ad h).1; omega)).set (fun ad h => by have := (hfr ad h).1; omega)).set (fun ad h => by have := (hfr ad h).1; omega)).set (fun ad h => by have := (hfr ad h).1; omega), fun ad h => (by obtain ⟨h1, cur, h2⟩ := hfr ad h; exact ⟨by omega, cur, by rw [heap_setCell_ne (by omega), heap_setCell_ne (by omega), heap_setCell_ne (by omega), heap_setCell_ne (by omega), heap_setCell_ne (by omega)]; exact h2⟩),
          ((((hb.setCell (Nat.le_refl _) _).setCell (Nat.le_succ _) _).setCell (Nat.le_succ _) _).setCell (Nat.le_succ _) _).setCell (Nat.le_succ _) _⟩)
      clear hown hl hc hfr hb
      have p0 := cell_block (i := 0) rP
      have f0 := free_block (i := 0) rP
      have r0 := cell_block (i := 0) rR
      have e0 := free_block (i := 0) rR
      have p1 := cell_block (i := 1) rP
      have f1 := free_block (i := 1) rP
      have r1 := cell_block (i := 1) rR
      have e1 := free_block (i := 1) rR
      have p2 := cell_block (i := 2) rP
      have f2 := free_block (i := 2) rP
      have r2 := cell_block (i := 2) rR
      have e2 := free_block (i := 2) rR
      have p3 := cell_block (i := 3) rP
      have f3 := free_block (i := 3) rP
      have r3 := cell_block (i := 3) rR
      have e3 := free_block (i := 3) rR
      simp at p0 p1 p2 p3 r0 r1 r2 r3
      go_wp2
      refine bodyPost_ret (by simp [results, Tryz.results34, go_sem, r0, r1, r2, r3]; try rfl) rfl ?_
      exact HF.out


theorem SharedOf1_c (k n m : Nat) (x : Int) (P : Nat) (ad : Addr) (hk : k < n) (hn : n ≤ 65536) (w : World) (c0 : w.cell? ⟨P, 0, none⟩ = some (.slice (some ad) n m)) (c1 : w.cell? (ad.add k) = some (.int .i64 x)) :
    Calls Tryz.prog 35 #[.int .i64 k, .pointer (some ⟨P, 0, none⟩)] w fun e w' => e = .returned (.int .i64 x) ∧ w = w' := by
  have hkk : (k : Int) < n := by omega
  go_enter Tryz.func35, Tryz.ntmps35
  go_wp2
  go_ret
  exact ⟨rfl, rfl⟩


/-- Blocks that are none of two. -/
def XOff (g M : Nat) (q : Nat) : Prop := q ≠ g ∧ q ≠ M
theorem XOff.mk {g M q : Nat} (h1 : g < q) (h2 : M < q) : XOff g M q := ⟨by omega, by omega⟩

set_option maxRecDepth 100000 in
set_option maxHeartbeats 3200000 in
theorem SharedOf_c (A : Option Addr) (cap : Nat) (ls : List Int) (hls : ls.length ≤ 65536) (N : Option Addr) (capN : Nat) (ns : List Nd) (hns : ns.length ≤ 65536) (hcap : ns.length ≤ capN) (hla : ∀ n ∈ ns, n.args.length ≤ 65536) (w : World) (hA : LiesI w A ls) (hN : LiesN w N ns) (ht : TabOps w) :
    Calls Tryz.prog 8 #[.slice A ls.length cap, .slice N ns.length capN] w (AppE w (chk ls ns).2 (shN ns) (shP ns)) := by
  have HC := errorOfGraph_c A cap ls hls N capN ns hns hcap hla w hA hN ht
  by_cases h0 : (chk ls ns).2 = 0
  case neg =>
    generalize (chk ls ns).2 = er at *
    have HC := Lib.hid HC
    have HE := Lib.hid h0
    have n1 : (er == 0) = false := by simpa using h0
    have n2 : (er != 0) = true := by simpa using h0
    clear h0 hA hN ht hla hcap
    go_enter Tryz.func8, Tryz.ntmps8
    go_wp2_with fail
    refine HC.out.mono ?_
    rintro e w' ⟨rfl, y, rfl⟩
    have hbF := y.pf
    go_wp2
    go_ret3
    exact AppE.bad HE.out hbF
  have HKN := Lib.hid (fun (k : Nat) (n : Nd) (ps : List Int) (hn : ns[k]? = some n) (hp : ∀ x ∈ ps, 0 ≤ x ∧ x ≤ 65536) => KN.of h0 hn hp)
  rw [h0] at HC ⊢
  obtain ⟨i0, hi, hz0, hz1, hz2⟩ := info_parts int_info
  obtain ⟨ni0, nhi, nhz0, nhz1, nhz2⟩ := info_parts node_info
  have HC := Lib.hid HC
  have HN := Lib.hid hN
  have HND := Lib.hid (chk_nodes h0)
  have HSN := Lib.hid (show shN ns = (shK ns ns.length).1 from rfl)
  have HSP := Lib.hid (show shP ns = (shK ns ns.length).2 from rfl)
  have hmm := @run_makeMap Tryz.prog
  clear h0 hA hN ht hla hcap
  go_enter Tryz.func8, Tryz.ntmps8
  go_wp2_with fail
  refine HC.out.mono ?_
  rintro e w' ⟨rfl, y, rfl⟩
  have hbF := y.pf
  generalize y.val = W0 at *
  go_wp2_with (refine wpList_make_full _ rfl _ _ 22 rfl W0.heap.size 3 i0 _ 1 Tryz.underlying22 hi hz0 hz1 .i64 .i64 _ _ ns.length rfl rfl rfl rfl (by rw [hz2]; omega) (by unfold maxLen; omega) (Nat.le_refl _) ?_; intro W1 hown hgr; have hb2 := hbF.grown hgr hbF.size (fun q hq => by cases hq); have rg0 : W1.heap[W0.heap.size]? = some (.cells (rowA (List.replicate ns.length 0)) 3) := (by have := row_block hown rfl; rwa [row_made] at this); clear hown hgr)
  clear hmm
  have hgw : w.heap.size ≤ W0.heap.size := hbF.size
  have lg0 := lt_of_get rg0
  generalize W0.heap.size = g at *
  have rP0 : ((W1.alloc (.cells #[.slice (some ⟨g, 0, none⟩) ns.length ns.length] 22)).alloc (.map #[] 0)).heap[W1.heap.size]? = some (.cells #[.slice (some ⟨g, 0, none⟩) ns.length ns.length] 22) := heap_alloc' (by simp) (heap_alloc_new _ _)
  have rg1 : ((W1.alloc (.cells #[.slice (some ⟨g, 0, none⟩) ns.length ns.length] 22)).alloc (.map #[] 0)).heap[g]? = some (.cells (rowA (List.replicate ns.length 0)) 3) := heap_alloc' (by simp; omega) (heap_alloc' lg0 rg0)
  have hmap0 : ((W1.alloc (.cells #[.slice (some ⟨g, 0, none⟩) ns.length ns.length] 22)).alloc (.map #[] 0)).ownsMap Tryz.prog 69 (plainElem Tryz.prog 3) (W1.heap.size + 1) 0 (.map [] : DU) := by
    have := World.ownsMap_made (W1.alloc (.cells #[.slice (some ⟨g, 0, none⟩) ns.length ns.length] 22)) Tryz.prog 69 (R := (plainElem Tryz.prog 3 : Value → Option (DU × List MemPlace)))
    simpa using this
  have hb0 : Below w.heap.size w ((W1.alloc (.cells #[.slice (some ⟨g, 0, none⟩) ns.length ns.length] 22)).alloc (.map #[] 0)) := (hb2.alloc hb2.size _).alloc (by have := hb2.size; simp; omega) _
  have hgP : g < W1.heap.size := lg0
  have hwP : w.heap.size ≤ W1.heap.size := hb2.size
  have hzz : W1.heap.size + 1 < ((W1.alloc (.cells #[.slice (some ⟨g, 0, none⟩) ns.length ns.length] 22)).alloc (.map #[] 0)).heap.size := by simp
  clear rg0 hb2 hbF lg0
  generalize (W1.alloc (.cells #[.slice (some ⟨g, 0, none⟩) ns.length ns.length] 22)).alloc (.map #[] 0) = W2 at *
  generalize W1.heap.size = P at *
  obtain ⟨M, hM⟩ : ∃ M, P + 1 = M := ⟨_, rfl⟩
  rw [hM] at hmap0 hzz ⊢
  have hPM : P < M := by omega
  clear hM
  obtain ⟨Bz, hBz⟩ : ∃ Bz, W2.heap.size = Bz := ⟨_, rfl⟩
  rw [hBz] at hzz
  have hz2' : Bz ≤ W2.heap.size := Nat.le_of_eq hBz.symm
  clear hBz
  go_loopw [8, 28] (fun v8 v28 wr => ∃ (k : Nat) (xs : List Value) (D : DU), k ≤ ns.length ∧ v28 = .int .i64 k ∧ NodesX wr Bz (XOff g M) v8 (shK ns k).1 xs ∧ wr.heap[g]? = some (.cells (rowA (shK ns k).2) 3) ∧ wr.heap[P]? = some (.cells #[.slice (some ⟨g, 0, none⟩) ns.length ns.length] 22) ∧ wr.ownsMap Tryz.prog 69 (plainElem Tryz.prog 3) M k D ∧ Reads D (shK ns k).1 ∧ Below w.heap.size w wr ∧ Bz ≤ wr.heap.size) (fun _ v28 _ => ns.length - (intOf v28).toNat)
  case atStart => exact ⟨0, [], _, by omega, rfl, NodesX.nil _ _ _, rg1, rP0, hmap0, Reads.nil, hb0, hz2'⟩
  case round =>
    clear rP0 rg1 hmap0 hb0 hz2'
    obtain ⟨k, xs, D, hk, rfl, hrow, rg, rP, hmap, hrd, hb, hz⟩ := hrel
    obtain ⟨A0, c0', hv8, hc0, hlN, _⟩ := hrow.lies
    subst hv8
    have HKL := Lib.hid (shK_len (ns := ns) k)
    by_cases hlt : k < ns.length
    · have hkk : (k : Int) < ns.length := by omega
      have HX := Lib.hid (List.getElem?_eq_getElem hlt)
      generalize ns[k] = x at *
      have HBD := Lib.hid (shK_bd hns k)
      have HOK := Lib.hid (HND.out k x HX.out)
      have HKM := Lib.hid (HKN.out k x _ HX.out HBD.out)
      obtain ⟨ad, rfl, hbl, c0, c1, c3, B, bc, c2, hB⟩ := HN.out.cells HX.out
      obtain ⟨op, wd, args, v⟩ := x
      have HSO : Hid (plaN (shK ns k).1 ⟨op, wd, pickL (shK ns k).2 args, v⟩ < (shK ns k).1.length → shK ns (k + 1) = ((shK ns k).1, (shK ns k).2.set k (plaN (shK ns k).1 ⟨op, wd, pickL (shK ns k).2 args, v⟩ : Int))) := Lib.hid (fun h => shK_old HX.out h)
      have HSW : Hid (¬ plaN (shK ns k).1 ⟨op, wd, pickL (shK ns k).2 args, v⟩ < (shK ns k).1.length → shK ns (k + 1) = ((shK ns k).1 ++ [⟨op, wd, pickL (shK ns k).2 args, v⟩], (shK ns k).2.set k ((shK ns k).1.length : Int))) := Lib.hid (fun h => shK_new HX.out h)
      have HKM : Hid (KN ⟨op, wd, pickL (shK ns k).2 args, v⟩) := Lib.hid HKM.out
      have hbk : ∀ p : Addr, p.block = ad.block → wr.cell? p = w.cell? p := fun p hp => hb.cell (p := p) (by rw [hp]; exact hbl)
      have a0 : wr.cell? (ad.add (k * 4)) = some (.int .i64 op) := (hbk (ad.add (k * 4)) (by rw [addB])).trans c0
      have a1 : wr.cell? ⟨(ad.add (k * 4)).block, (ad.add (k * 4)).off + 1, none⟩ = some (.int .i64 wd) := (hbk ((ad.add (k * 4)).add 1) (by rw [addB, addB])).trans c1
      have a2 : wr.cell? ⟨(ad.add (k * 4)).block, (ad.add (k * 4)).off + 2, none⟩ = some (.slice B args.length bc) := (hbk ((ad.add (k * 4)).add 2) (by rw [addB, addB])).trans c2
      have a3 : wr.cell? ⟨(ad.add (k * 4)).block, (ad.add (k * 4)).off + 3, none⟩ = some (.int .i64 v) := (hbk ((ad.add (k * 4)).add 3) (by rw [addB, addB])).trans c3
      clear c0 c1 c2 c3 hbk hlN
      have HBL : Hid (LiesI w B args) := Lib.hid hB
      have hal : args.length ≤ 3 := HOK.out.al
      have HAI : Hid (∀ a ∈ args, 0 ≤ a ∧ a < k) := Lib.hid (fun a ha => by
        obtain ⟨i, hi, rfl⟩ := List.mem_iff_getElem.1 ha
        exact HOK.out.ai i _ (List.getElem?_eq_getElem hi))
      clear hB HKN HND HBD
      generalize shK ns k = CK at *
      obtain ⟨cs, ps⟩ := CK
      simp only at *
      have hpl : ps.length = ns.length := HKL.out.1
      have HPL := Lib.hid hpl
      have hcl : cs.length ≤ 65536 := by have := HKL.out.2; omega
      clear hpl HKL
      have HRD := Lib.hid hrd
      clear hrd
      go_upto_region 10 with (fail)
      have hbX := (Below.refl wr.heap.size wr).alloc (Nat.le_refl _) (.cells #[.int .i64 op, .int .i64 wd, .slice B args.length bc, .int .i64 v] 61)
      have rn : (wr.alloc (.cells #[.int .i64 op, .int .i64 wd, .slice B args.length bc, .int .i64 v] 61)).heap[wr.heap.size]? = some (.cells #[.int .i64 op, .int .i64 wd, .slice B args.length bc, .int .i64 v] 61) := heap_alloc_new _ _
      have hnz : Bz ≤ wr.heap.size := hz
      have hrow1 := hrow.below hbX
      have rg1 := (hbX.block _ (lt_of_get rg)).trans rg
      have rP1 := (hbX.block _ (lt_of_get rP)).trans rP
      have hmap1 := own_map_below hmap hbX
      have hb1 := hb.trans (hbX.mono hb.size)
      have hz1 := Nat.le_trans hz hbX.size
      clear hrow rg rP hmap hb hz
      clear hbX a0 a1 a2 a3
      generalize wr.alloc (.cells #[.int .i64 op, .int .i64 wd, .slice B args.length bc, .int .i64 v] 61) = V1 at *
      generalize wr.heap.size = nb at *
      have n0 := cell_block (i := 0) rn
      have n1 := cell_block (i := 1) rn
      have n2 := cell_block (i := 2) rn
      have n3 := cell_block (i := 3) rn
      have qP := cell_block (i := 0) rP1
      simp at n0 n1 n2 n3 qP
      have lP1 := lt_of_get rP1
      have HWA := Lib.hid (withArgs_shared P (fun a => ps.getD a.toNat 0) op wd v B bc args (by omega) V1 (HBL.out.below hb1) (fun a ha W hbW => by
        obtain ⟨h0, h1⟩ := HAI.out a ha
        obtain ⟨j, rfl⟩ := Int.eq_ofNat_of_zero_le h0
        have hj : j < ps.length := by rw [HPL.out]; omega
        refine SharedOf1_c j ns.length ns.length _ P ⟨g, 0, none⟩ (by omega) hns W ?_ ?_
        · have := cell_block (i := 0) ((hbW.block P lP1).trans rP1)
          simpa using this
        · rw [Addr.add_lit, Nat.zero_add]
          refine (cell_block ((hbW.block g (lt_of_get rg1)).trans rg1)).trans (rowA_in ?_)
          simp [List.getD, List.getElem?_eq_getElem hj]))
      rw [show args.map (fun a => ps.getD a.toNat 0) = pickL ps args from rfl] at HWA
      have hgl : (pickL ps args).length ≤ 3 := by rw [pickL_len]; exact hal
      generalize pickL ps args = gs at *
      have lV1 : M < V1.heap.size := by omega
      have lV1' : g < V1.heap.size := by omega
      go_wp2_with fail
      refine HWA.out.mono ?_
      rintro e V2 ⟨A2, cap2, rfl, _, hl2, hf2, hbv2⟩
      have hrow2 := hrow1.below hbv2
      have rg2 := (hbv2.block _ (lt_of_get rg1)).trans rg1
      have rP2 := (hbv2.block _ (lt_of_get rP1)).trans rP1
      have hmap2 := own_map_below hmap1 hbv2
      have hb2 := hb1.trans (hbv2.mono hb1.size)
      have hz2 := Nat.le_trans hz1 hbv2.size
      clear hrow1 rg1 rP1 hmap1 hb1 hz1
      have HF2 : Hid (∀ ad, A2 = some ad → XOff g M ad.block ∧ ad.block < V2.heap.size ∧ ∀ cur fz, V2.heap[ad.block]? ≠ some (.cells cur 61 fz)) := Lib.hid (fun ad h => by
        obtain ⟨h1, cur, h2⟩ := hf2 ad h
        refine ⟨XOff.mk (by omega) (by omega), lt_of_get h2, fun c z h3 => ?_⟩
        rw [h2] at h3
        simp at h3)
      clear hf2 n0 n1 n2 n3 qP rn hbv2 HWA HAI HBL
      go_upto_region 11 with (fail)
      have hbX := (Below.refl V2.heap.size V2).alloc (Nat.le_refl _) (.cells #[.int .i64 op, .int .i64 wd, .slice A2 gs.length cap2, .int .i64 v] 61)
      have rm : (V2.alloc (.cells #[.int .i64 op, .int .i64 wd, .slice A2 gs.length cap2, .int .i64 v] 61)).heap[V2.heap.size]? = some (.cells #[.int .i64 op, .int .i64 wd, .slice A2 gs.length cap2, .int .i64 v] 61) := heap_alloc_new _ _
      have hmbz : Bz ≤ V2.heap.size := hz2
      have hrow3 := hrow2.below hbX
      have rg3 := (hbX.block _ (lt_of_get rg2)).trans rg2
      have rP3 := (hbX.block _ (lt_of_get rP2)).trans rP2
      have hmap3 := own_map_below hmap2 hbX
      have hb3 := hb2.trans (hbX.mono hb2.size)
      have hz3 := Nat.le_trans hz2 hbX.size
      clear hrow2 rg2 rP2 hmap2 hb2 hz2
      have hl3 := hl2.below hbX
      have HF3 : Hid (∀ ad, A2 = some ad → XOff g M ad.block ∧ ad.block < (V2.alloc (.cells #[.int .i64 op, .int .i64 wd, .slice A2 gs.length cap2, .int .i64 v] 61)).heap.size ∧ ∀ cur fz, (V2.alloc (.cells #[.int .i64 op, .int .i64 wd, .slice A2 gs.length cap2, .int .i64 v] 61)).heap[ad.block]? ≠ some (.cells cur 61 fz)) := Lib.hid (fun ad h => by
        obtain ⟨h1, h2, h3⟩ := HF2.out ad h
        exact ⟨h1, Nat.lt_of_lt_of_le h2 hbX.size, by rw [hbX.block _ h2]; exact h3⟩)
      clear hbX hl2 HF2
      generalize V2.alloc (.cells #[.int .i64 op, .int .i64 wd, .slice A2 gs.length cap2, .int .i64 v] 61) = V3 at *
      generalize V2.heap.size = mb at *
      have m0 := cell_block (i := 0) rm
      have m1 := cell_block (i := 1) rm
      have m2 := cell_block (i := 2) rm
      have m3 := cell_block (i := 3) rm
      simp at m0 m1 m2 m3
      have HLK := Lib.hid (fun (W : World) (hbW : Below V3.heap.size V3 W) => likenessOf_c op wd v gs hgl A2 cap2 W (hl3.below hbW))
      have HKV := Lib.hid (keyOfN HKM.out.kb)
      by_cases hin : ⟨op, wd, gs, v⟩ ∈ cs
      · have HPN := Lib.hid (plaN_lt.2 hin)
        have HLO : Hid (∀ W : World, Below V3.heap.size V3 W → (Instr.lookup 63 (.map (some M)) (keyV ⟨op, wd, gs, v⟩) true).run Tryz.prog W = .ok (.tuple #[.int .i64 (plaN cs ⟨op, wd, gs, v⟩), .bool true]) W) := Lib.hid (fun W hbW => look_yes (own_map_below hmap3 hbW) HRD.out hin)
        have HS := Lib.hid (HSO.out HPN.out)
        clear hin HSO HSW HPN HKM HKV
        generalize plaN cs ⟨op, wd, gs, v⟩ = pl at *
        go_wp2_with fail
        refine (HLK.out _ (Below.refl _ _)).mono ?_
        rintro e w' ⟨rfl, z, rfl⟩
        have hlo := HLO.out _ z.pf
        have hbX := z.pf
        have hrow4 := hrow3.below hbX
        have rg4 := (hbX.block _ (lt_of_get rg3)).trans rg3
        have rP4 := (hbX.block _ (lt_of_get rP3)).trans rP3
        have hmap4 := own_map_below hmap3 hbX
        have hb4 := hb3.trans (hbX.mono hb3.size)
        have hz4 := Nat.le_trans hz3 hbX.size
        clear hrow3 rg3 rP3 hmap3 hb3 hz3
        clear hbX m0 m1 m2 m3 HLO HLK rm hl3 HF3
        generalize z.val = V4 at *
        have qP := cell_block (i := 0) rP4
        simp at qP
        obtain ⟨u, hu⟩ : ∃ u, ps[k]? = some u := ⟨_, List.getElem?_eq_getElem (by rw [HPL.out]; exact hlt)⟩
        have qk := (cell_block (i := k) rg4).trans (rowA_in hu)
        have fk := free_block (i := k) rg4
        have hg4 : ∀ c t, V4.heap[g]? ≠ some (.cells c 61 t) := fun c t h => by rw [rg4] at h; simp at h
        have HFIN : Hid (NodesX (V4.setCell ⟨g, k, none⟩ (.int .i64 (pl : Int))) Bz (XOff g M) (.slice A0 cs.length c0') cs xs ∧ (V4.setCell ⟨g, k, none⟩ (.int .i64 (pl : Int))).heap[g]? = some (.cells (rowA (ps.set k pl)) 3) ∧ (V4.setCell ⟨g, k, none⟩ (.int .i64 (pl : Int))).heap[P]? = some (.cells #[.slice (some ⟨g, 0, none⟩) ns.length ns.length] 22) ∧ (V4.setCell ⟨g, k, none⟩ (.int .i64 (pl : Int))).ownsMap Tryz.prog 69 (plainElem Tryz.prog 3) M (k + 1) D ∧ Below w.heap.size w (V4.setCell ⟨g, k, none⟩ (.int .i64 (pl : Int))) ∧ Bz ≤ (V4.setCell ⟨g, k, none⟩ (.int .i64 (pl : Int))).heap.size) := Lib.hid
          ⟨hrow4.setCell (fun q hq => hq.1) hg4, by rw [heap_set rg4, rowA_set], heap_set_ne rP4 (by omega), (hmap4.setCell (a := ⟨g, k, none⟩) (show M ≠ g by omega) _).mono (Nat.le_succ _), hb4.setCell (p := ⟨g, k, none⟩) hgw _, by simpa using hz4⟩
        clear hu rg4 rP4 hrow4 hmap4 hb4 hz4 hg4
        go_wp2
        go_roundw
        case rel =>
          obtain ⟨h1, h2, h3, h4, h5, h6⟩ := HFIN.out
          exact ⟨k + 1, xs, D, by omega, by go_num, by rw [HS.out]; exact h1, by rw [HS.out]; exact h2, h3, h4, by rw [HS.out]; exact HRD.out, h5, h6⟩
        case measure => simp [intOf]; omega
      · have HPN := Lib.hid (fun h => hin (plaN_lt.1 h))
        have HLO : Hid (∀ W : World, Below V3.heap.size V3 W → (Instr.lookup 63 (.map (some M)) (keyV ⟨op, wd, gs, v⟩) true).run Tryz.prog W = .ok (.tuple #[.int .i64 0, .bool false]) W) := Lib.hid (fun W hbW => look_no (own_map_below hmap3 hbW) HRD.out HKM.out hin)
        have HS := Lib.hid (HSW.out HPN.out)
        have HRP := Lib.hid (HRD.out.put HKM.out hin)
        clear hin HSO HSW HPN
        go_wp2_with fail
        refine (HLK.out _ (Below.refl _ _)).mono ?_
        rintro e w' ⟨rfl, z, rfl⟩
        have hlo := HLO.out _ z.pf
        have hbX := z.pf
        have rm4 := (hbX.block _ (lt_of_get rm)).trans rm
        have HLK4 := Lib.hid (fun (W : World) (hbW : Below z.val.heap.size z.val W) => HLK.out W (hbX.trans (hbW.mono hbX.size)))
        have hl4 := hl3.below hbX
        have HF4 : Hid (∀ ad, A2 = some ad → XOff g M ad.block ∧ ad.block < z.val.heap.size ∧ ∀ cur fz, z.val.heap[ad.block]? ≠ some (.cells cur 61 fz)) := Lib.hid (fun ad h => by
          obtain ⟨h1, h2, h3⟩ := HF3.out ad h
          exact ⟨h1, Nat.lt_of_lt_of_le h2 hbX.size, by rw [hbX.block _ h2]; exact h3⟩)
        have hrow4 := hrow3.below hbX
        have rg4 := (hbX.block _ (lt_of_get rg3)).trans rg3
        have rP4 := (hbX.block _ (lt_of_get rP3)).trans rP3
        have hmap4 := own_map_below hmap3 hbX
        have hb4 := hb3.trans (hbX.mono hb3.size)
        have hz4 := Nat.le_trans hz3 hbX.size
        clear hrow3 rg3 rP3 hmap3 hb3 hz3
        clear hbX m0 m1 m2 m3 HLO HLK rm hl3 HF3
        generalize z.val = V4 at *
        have m0 := cell_block (i := 0) rm4
        have m1 := cell_block (i := 1) rm4
        have m2 := cell_block (i := 2) rm4
        have m3 := cell_block (i := 3) rm4
        simp at m0 m1 m2 m3
        go_wp2_with fail
        refine (HLK4.out _ (Below.refl _ _)).mono ?_
        rintro e w' ⟨rfl, z, rfl⟩
        have hbX := z.pf
        have rm5 := (hbX.block _ (lt_of_get rm4)).trans rm4
        have hl5 := hl4.below hbX
        have HF5 : Hid (∀ ad, A2 = some ad → XOff g M ad.block ∧ ad.block < z.val.heap.size ∧ ∀ cur fz, z.val.heap[ad.block]? ≠ some (.cells cur 61 fz)) := Lib.hid (fun ad h => by
          obtain ⟨h1, h2, h3⟩ := HF4.out ad h
          exact ⟨h1, Nat.lt_of_lt_of_le h2 hbX.size, by rw [hbX.block _ h2]; exact h3⟩)
        have hrow5 := hrow4.below hbX
        have rg5 := (hbX.block _ (lt_of_get rg4)).trans rg4
        have rP5 := (hbX.block _ (lt_of_get rP4)).trans rP4
        have hmap5 := own_map_below hmap4 hbX
        have hb5 := hb4.trans (hbX.mono hb4.size)
        have hz5 := Nat.le_trans hz4 hbX.size
        clear hrow4 rg4 rP4 hmap4 hb4 hz4
        clear hbX m0 m1 m2 m3 HLK4 rm4 hl4 HF4 hlo
        generalize z.val = V5 at *
        go_upto_region 15 with (at_mapUpdate; refine wpList_mapUpdate_own _ rfl _ _ _ 63 rfl 69 3 keyedL Tryz.underlying63 _ M k D rfl hmap5 (by unfold maxLen; omega) _ _ _ rfl rfl HKV.out (.lit (.int .i64 (cs.length : Int))) [] (plainElem_int Tryz.underlying3 (wfI (by omega))) ?_; intro V6 hmap6 hgrow6)
        have hMne : ∀ c z, V5.heap[M]? ≠ some (.cells c 61 z) := fun c z => own_map_at hmap5 c 61 z
        have hrow6 := hrow5.beside hgrow6 (fun q _ hq => ⟨hq, fun e => hq.2 (Option.some.inj e)⟩) (fun q e => by injection e with e; subst e; exact hMne)
        have rg6 := (hgrow6.block g (lt_of_get rg5) (fun e => by injection e with e; omega)).trans rg5
        have rP6 := (hgrow6.block P (lt_of_get rP5) (fun e => by injection e with e; omega)).trans rP5
        have rm6 := (hgrow6.block mb (lt_of_get rm5) (fun e => by injection e with e; omega)).trans rm5
        have hb6 := hb5.grown hgrow6 hb5.size (fun q hq => by injection hq with hq; omega)
        have hz6 := Nat.le_trans hz5 hgrow6.size
        have HF6 : Hid (∀ ad, A2 = some ad → XOff g M ad.block ∧ ad.block < V6.heap.size ∧ ∀ cur fz, V6.heap[ad.block]? ≠ some (.cells cur 61 fz)) := Lib.hid (fun ad h => by
          obtain ⟨h1, h2, h3⟩ := HF5.out ad h
          exact ⟨h1, Nat.lt_of_lt_of_le h2 hgrow6.size, by rw [hgrow6.block _ h2 (fun e => h1.2 (Option.some.inj e))]; exact h3⟩)
        have hl6 : LiesI V6 A2 gs := fun hp => by
          obtain ⟨ad, rfl, h1, h2⟩ := hl5 hp
          refine ⟨ad, rfl, Nat.lt_of_lt_of_le h1 hgrow6.size, fun i x hi => ?_⟩
          have := h2 i x hi
          unfold World.cell? at this ⊢
          rw [show (ad.add i).block = ad.block from by rw [addB]] at this ⊢
          rw [hgrow6.block _ h1 (fun e => (HF5.out ad rfl).1.2 (Option.some.inj e))]
          exact this
        clear hrow5 rg5 rP5 rm5 hb5 hz5 hl5 HF5 hMne hgrow6 hmap5
        have m0 := cell_block (i := 0) rm6
        have m1 := cell_block (i := 1) rm6
        have m2 := cell_block (i := 2) rm6
        have m3 := cell_block (i := 3) rm6
        simp at m0 m1 m2 m3
        have HL6 := Lib.hid hl6
        clear hl6
        go_upto_region 16 with (at_builtin; refine wpList_append_own _ rfl _ _ 23 rfl Bz 61 ni0 (.agg #[.int .i64 0, .int .i64 0, .slice none 0 0, .int .i64 0]) 4 48 Tryz.underlying23 nhi nhz0 nhz1 nhz2 rfl (by decide) _ _ _ rfl (hrow6.1.alloc _) ⟨_, 0, none⟩ 1 1 [.int .i64 op, .int .i64 wd, .slice A2 gs.length cap2, .int .i64 v] rfl rfl four_new (fun x hx => by simp at hx; rcases hx with rfl | rfl | rfl | rfl <;> rfl) (by unfold maxLen; omega) (by omega) (by first | omega | (simp; omega) | (simp at *; omega)) ?_; intro v' V7 hown' hgrow7 hnn)
        have hrow7 := NodesX.snoc (n := ⟨op, wd, gs, v⟩) (cap := cap2) hrow6 ((Below.refl _ _).alloc (Nat.le_refl _) _) (by simpa using hown') hgrow7 HL6.out HF6.out
        have hbA := hb6.alloc hb6.size (.cells #[.int .i64 op, .int .i64 wd, .slice A2 gs.length cap2, .int .i64 v] 61)
        have hgA := (Below.refl V6.heap.size V6).alloc (Nat.le_refl _) (.cells #[.int .i64 op, .int .i64 wd, .slice A2 gs.length cap2, .int .i64 v] 61)
        have rg7 := (hgrow7.block g (Nat.lt_of_lt_of_le (lt_of_get rg6) hgA.size) (fun e => by have := (hrow6.1.lt g e.symm).1; omega)).trans ((hgA.block g (lt_of_get rg6)).trans rg6)
        have rP7 := (hgrow7.block P (Nat.lt_of_lt_of_le (lt_of_get rP6) hgA.size) (fun e => by have := (hrow6.1.lt P e.symm).1; omega)).trans ((hgA.block P (lt_of_get rP6)).trans rP6)
        have hmap7 := (hmap6.alloc (.cells #[.int .i64 op, .int .i64 wd, .slice A2 gs.length cap2, .int .i64 v] 61)).kept hgrow7 (fun e => by have := (hrow6.1.lt M e.symm).1; omega)
        have hb7 := hbA.grown hgrow7 hbA.size (fun q hq => by have := (hrow6.1.lt q hq).1; omega)
        have hz7 := Nat.le_trans hz6 (Nat.le_trans hgA.size hgrow7.size)
        clear hrow6 rg6 rP6 rm6 hb6 hz6 HL6 HF6 hgrow7 hown' hmap6 hbA hgA m0 m1 m2 m3 hnn
        have qP := cell_block (i := 0) rP7
        simp at qP
        obtain ⟨u, hu⟩ : ∃ u, ps[k]? = some u := ⟨_, List.getElem?_eq_getElem (by rw [HPL.out]; exact hlt)⟩
        have qk := (cell_block (i := k) rg7).trans (rowA_in hu)
        have fk := free_block (i := k) rg7
        have hg7 : ∀ c t, V7.heap[g]? ≠ some (.cells c 61 t) := fun c t h => by rw [rg7] at h; simp at h
        have HFIN : Hid (∃ xs', NodesX (V7.setCell ⟨g, k, none⟩ (.int .i64 (cs.length : Int))) Bz (XOff g M) v' (cs ++ [⟨op, wd, gs, v⟩]) xs' ∧ (V7.setCell ⟨g, k, none⟩ (.int .i64 (cs.length : Int))).heap[g]? = some (.cells (rowA (ps.set k cs.length)) 3) ∧ (V7.setCell ⟨g, k, none⟩ (.int .i64 (cs.length : Int))).heap[P]? = some (.cells #[.slice (some ⟨g, 0, none⟩) ns.length ns.length] 22) ∧ (V7.setCell ⟨g, k, none⟩ (.int .i64 (cs.length : Int))).ownsMap Tryz.prog 69 (plainElem Tryz.prog 3) M (k + 1) (D.put (klN ⟨op, wd, gs, v⟩) (.lit (.int .i64 (cs.length : Int)))) ∧ Below w.heap.size w (V7.setCell ⟨g, k, none⟩ (.int .i64 (cs.length : Int))) ∧ Bz ≤ (V7.setCell ⟨g, k, none⟩ (.int .i64 (cs.length : Int))).heap.size) := Lib.hid
          ⟨_, hrow7.setCell (fun q hq => hq.1) hg7, by rw [heap_set rg7, rowA_set], heap_set_ne rP7 (by omega), hmap7.setCell (a := ⟨g, k, none⟩) (show M ≠ g by omega) _, hb7.setCell (p := ⟨g, k, none⟩) hgw _, by simpa using hz7⟩
        clear hu rg7 rP7 hrow7 hmap7 hb7 hz7 hg7
        go_wp2
        go_roundw
        case rel =>
          obtain ⟨xs', h1, h2, h3, h4, h5, h6⟩ := HFIN.out
          exact ⟨k + 1, xs', _, by omega, by go_num, by rw [HS.out]; exact h1, by rw [HS.out]; exact h2, h3, h4, by rw [HS.out]; exact HRP.out, h5, h6⟩
        case measure => simp [intOf]; omega
    · obtain rfl : k = ns.length := by omega
      have qP := cell_block (i := 0) rP
      simp at qP
      have lP := lt_of_get rP
      have hl1 : (shK ns ns.length).2.length = ns.length := HKL.out.1
      have hF := LiesI.block rg
      have HLN := Lib.hid hlN
      have HFF := Lib.hid hF
      have HBB := Lib.hid hb
      have HL1 := Lib.hid hl1
      clear hrow rg hmap hF hlN hb hl1 hrd
      go_wp2_with fail
      refine wp_region_aft (by kernel_rfl) (by kernel_rfl) ?_
      repeat (go_big_quiet_step (fail))
      refine wpQuiet_nil ?_
      intro z
      have HF := Lib.hid (show AppE w 0 (shN ns) (shP ns) (.returned (.tuple #[.slice A0 (shK ns ns.length).1.length c0', .slice (some ⟨g, 0, none⟩) ns.length ns.length, .int .i64 0])) z.val from
        ⟨.inr ⟨rfl, A0, c0', some ⟨g, 0, none⟩, ns.length, by rw [HSN.out, HSP.out, HL1.out], by rw [HSN.out]; exact HLN.out.below z.pf, by rw [HSP.out]; exact HFF.out.below z.pf⟩, HBB.out.trans (z.pf.mono HBB.out.size)⟩)
      generalize z.val = Z at *
      go_wp2
      go_ret3
      exact HF.out

end Go.Proofs.YtkdonapgonegkaaGreatDoor
