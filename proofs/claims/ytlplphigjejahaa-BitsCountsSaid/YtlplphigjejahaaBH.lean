/-
  Contracts of the functions of chapter 1 (twenty-fourth part: permutations).
-/
import Derived.Test.YtlplphigjejahaaBG
import Derived.Test.YtlplphigjejahaaBw
set_option linter.unusedSimpArgs false
set_option linter.unusedVariables false
namespace Go.Proofs.Ytlplphigjejahaa
open Go.RowKit Go.BigFrame

def nth (ns : List Int) (i : Int) : Int := ns.getD i.toNat 0
theorem nth_at {ns : List Int} {k : Nat} (h : k < ns.length) : ns[(k : Int).toNat]? = some (nth ns k) := by
  unfold nth; rw [Int.toNat_natCast, List.getElem?_eq_getElem h]; simp [List.getD, h]
def permE (wd v : Int) (ns : List Int) : Int := if bErr wd v = 0 then ordE wd ns else bErr wd v
theorem hasI_at {w : World} {ad : Addr} {cap : Nat} {ns : List Int} {k : Nat} {x : Int} (h : LiesI w (some ad) ns) (hl : ns.length ≤ 18) (hk : k ≤ ns.length) :
    Calls Try.prog 88 #[.slice (some ad) k cap, .int .i64 x] w fun e w' => e = .returned (.bool (hasI (ns.take k) x)) ∧ w = w' := by
  have := Has_c (some ad) cap (ns.take k) x w (h.take k) (by simp; omega)
  rwa [List.length_take, Nat.min_eq_left hk] at this

set_option maxRecDepth 20000 in
set_option maxHeartbeats 3200000 in
theorem OrderErr_c (A : Option Addr) (cap : Nat) (ns : List Int) (wd v : Int) (w : World) (h : LiesI w A ns) (hl : ns.length ≤ 18) (hcap : ns.length ≤ cap) :
    Calls Try.prog 47 #[.agg #[.int .i64 wd, .int .i64 v], .slice A ns.length cap] w fun e w' => e = .returned (.int .i64 (permE wd v ns)) ∧ ∃ x : Aft w, w' = x.val := by
  by_cases hE : bErr wd v = 0
  case neg =>
    have hz1 : (bErr wd v == 0) = false := by simpa using hE
    have hz2 : (bErr wd v != 0) = true := by simpa using hE
    have HR := Lib.hid (show permE wd v ns = bErr wd v from if_neg hE)
    clear hE
    go_enter Try.func47, Try.ntmps47
    go_wp2_with fail
    refine (BitsErr_c wd v _).mono ?_
    rintro e w' ⟨rfl, y, rfl⟩
    go_wp2
    go_ret
    exact ⟨retI HR.out.symm, Below.aft (by (repeat' (first | (with_reducible exact Below.refl _ _) | (with_reducible assumption) | (with_reducible exact Aft.pf _) | (with_reducible refine Below.alloc ?_ ?_ _) | (with_reducible refine Below.drew ?_) | (with_reducible refine Aft.below _ ?_ ?_) | (with_reducible refine Below.setCell_new ?_ ?_ _ _) | (with_reducible exact Nat.le_refl _) | (with_reducible refine Aft.le _ ?_) | (with_reducible refine le_alloc ?_) | (with_reducible refine le_drew ?_) | (with_reducible refine le_setCell ?_) | omega)))⟩
  case pos =>
    have HE := Lib.hid hE
    obtain ⟨b1, b2, b3, b4⟩ := bErr_ok.1 hE
    have HR0 := Lib.hid (show permE wd v ns = ordE wd ns from if_pos hE)
    have HLI := Lib.hid h
    clear hE h
    go_enter Try.func47, Try.ntmps47
    go_wp2_with fail
    refine (BitsErr_c wd v _).mono ?_
    rw [HE.out]
    rintro e w' ⟨rfl, x1, rfl⟩
    have ma : x1.val.heap[w.heap.size]? = some (.cells #[.int .i64 wd, .int .i64 v] 23) := by (repeat' (first | (with_reducible assumption) | omega | (simp only [World.size_alloc, World.size_drew, World.size_setCell]; omega) | (refine heap_alloc_at ?_; (first | rfl | (simp; done))) | (with_reducible refine heap_aft _ ?_ ?_) | (with_reducible refine heap_alloc' ?_ ?_) | (with_reducible refine heap_drew ?_)))
    have hb1 : Below w.heap.size w x1.val := by (repeat' (first | (with_reducible exact Below.refl _ _) | (with_reducible assumption) | (with_reducible exact Aft.pf _) | (with_reducible refine Below.alloc ?_ ?_ _) | (with_reducible refine Below.drew ?_) | (with_reducible refine Aft.below _ ?_ ?_) | (with_reducible refine Below.setCell_new ?_ ?_ _ _) | (with_reducible exact Nat.le_refl _) | (with_reducible refine Aft.le _ ?_) | (with_reducible refine le_alloc ?_) | (with_reducible refine le_drew ?_) | (with_reducible refine le_setCell ?_) | omega))
    generalize x1.val = W1 at *
    have la := lt_of_get ma
    have qa0 := cell_block (i := 0) ma
    have qa1 := cell_block (i := 1) ma
    simp at qa0 qa1
    have HA := Lib.hid ma
    clear ma
    by_cases hlen : (ns.length : Int) = wd
    case neg =>
      have hz1 : ((ns.length : Int) != wd) = true := by simpa using hlen
      have HR := Lib.hid (show permE wd v ns = 10 by rw [HR0.out]; exact if_neg hlen)
      clear hlen
      go_wp2
      go_ret
      exact ⟨retI HR.out.symm, Below.aft (by (repeat' (first | (with_reducible exact Below.refl _ _) | (with_reducible assumption) | (with_reducible exact Aft.pf _) | (with_reducible refine Below.alloc ?_ ?_ _) | (with_reducible refine Below.drew ?_) | (with_reducible refine Aft.below _ ?_ ?_) | (with_reducible refine Below.setCell_new ?_ ?_ _ _) | (with_reducible exact Nat.le_refl _) | (with_reducible refine Aft.le _ ?_) | (with_reducible refine le_alloc ?_) | (with_reducible refine le_drew ?_) | (with_reducible refine le_setCell ?_) | omega)))⟩
    case pos =>
      have hz1 : ((ns.length : Int) != wd) = false := by simpa using hlen
      have HR := Lib.hid (show permE wd v ns = scanAt wd ns 0 by rw [HR0.out]; exact if_pos hlen)
      go_wp2
      go_loopw [6] (fun v6 wr => ∃ (k : Nat) (y : Aft W1), wr = y.val ∧ k ≤ ns.length ∧ v6 = .int .i64 k ∧ scanAt wd ns k = scanAt wd ns 0) (fun v6 _ => ns.length - (intOf v6).toNat)
      case atStart => exact ⟨0, ⟨_, Below.refl _ _⟩, rfl, by omega, rfl, rfl⟩
      case round =>
        obtain ⟨k, y, rfl, hk, rfl, hs⟩ := hrel
        have HS := Lib.hid hs
        clear hs
        have pa0 := (y.cell _ _ la).trans qa0
        have pa1 := (y.cell _ _ la).trans qa1
        have lay := y.lt' la
        by_cases hlt : k < ns.length
        · obtain ⟨ad, rfl, hbk, hc⟩ := HLI.out (by omega)
          obtain ⟨x, hx⟩ : ∃ x, ns[k]? = some x := ⟨_, List.getElem?_eq_getElem hlt⟩
          have hst := Lib.hid (scanAt_step (n := wd) hx)
          have c : y.val.cell? (ad.add k) = some (.int .i64 x) := (y.pf.cell (p := ad.add k) (by rw [addB]; exact Nat.lt_of_lt_of_le hbk hb1.size)).trans ((hb1.cell (p := ad.add k) (by rw [addB]; exact hbk)).trans (hc k x hx))
          have hHas := Lib.hid fun z : Aft y.val => hasI_at (cap := cap) (x := x) (((HLI.out.aft ⟨_, hb1⟩).aft y).aft z) hl hk
          have hlb : ad.block < y.val.heap.size := Nat.lt_of_lt_of_le hbk (Nat.le_trans hb1.size y.pf.size)
          have hbz : (ad.add k).block < y.val.heap.size := by rw [addB]; exact hlb
          have hkk : (k : Int) < ns.length := by omega
          have hkc : k ≤ cap := by omega
          clear hx hc
          cases hwn : win x 0 (wd - 1)
          · have HQ := Lib.hid (show permE wd v ns = 6 by rw [HR.out, ← HS.out, hst.out, hwn]; rfl)
            clear hHas hst
            have hwc := Within_c x 0 (wd - 1)
            rw [hwn] at hwc
            go_wp2_with fail
            refine wp_region_aft (by kernel_rfl) (by kernel_rfl) ?_
            repeat (go_big_quiet_step ((go_at_call 38; exact Calls.qs (hwc _))))
            refine wpQuiet_nil ?_
            intro z
            have hBz : Below w.heap.size w z.val := by (repeat' (first | (with_reducible exact Below.refl _ _) | (with_reducible assumption) | (with_reducible exact Aft.pf _) | (with_reducible refine Below.alloc ?_ ?_ _) | (with_reducible refine Below.drew ?_) | (with_reducible refine Aft.below _ ?_ ?_) | (with_reducible refine Below.setCell_new ?_ ?_ _ _) | (with_reducible exact Nat.le_refl _) | (with_reducible refine Aft.le _ ?_) | (with_reducible refine le_alloc ?_) | (with_reducible refine le_drew ?_) | (with_reducible refine le_setCell ?_) | omega))
            go_wp2
            go_ret
            exact ⟨retI HQ.out.symm, Below.aft (by (repeat' (first | (with_reducible exact Below.refl _ _) | (with_reducible assumption) | (with_reducible exact Aft.pf _) | (with_reducible refine Below.alloc ?_ ?_ _) | (with_reducible refine Below.drew ?_) | (with_reducible refine Aft.below _ ?_ ?_) | (with_reducible refine Below.setCell_new ?_ ?_ _ _) | (with_reducible exact Nat.le_refl _) | (with_reducible refine Aft.le _ ?_) | (with_reducible refine le_alloc ?_) | (with_reducible refine le_drew ?_) | (with_reducible refine le_setCell ?_) | omega)))⟩
          · have hwc := Within_c x 0 (wd - 1)
            rw [hwn] at hwc
            cases hcn : hasI (ns.take k) x
            · have HQ := Lib.hid (show scanAt wd ns (k + 1) = scanAt wd ns 0 by rw [← HS.out, hst.out, hwn, hcn]; rfl)
              rw [hcn] at hHas
              clear hst
              go_wp2_with fail
              refine wp_region_aft (by kernel_rfl) (by kernel_rfl) ?_
              repeat (go_big_quiet_step ((go_at_call 38; exact Calls.qs (hwc _))))
              refine wpQuiet_nil ?_
              intro z
              have czz := (z.pf.cell (p := ad.add k) hbz).trans c
              have hH2 := Lib.hid fun q : Aft z.val => hHas.out ⟨q.val, z.pf.trans (q.pf.mono z.size)⟩
              clear hHas
              go_wp2_with fail
              refine wp_region_aft (by kernel_rfl) (by kernel_rfl) ?_
              repeat (go_big_quiet_step ((go_at_call 88; exact Calls.qs (hH2.out _))))
              refine wpQuiet_nil ?_
              intro z2
              go_wp2
              go_roundw
              case rel => exact ⟨k + 1, ⟨z2.val, z2.below (z.below y.pf y.size) (Nat.le_trans y.size z.size)⟩, rfl, by omega, by go_num, HQ.out⟩
              case measure => simp [intOf]; omega
            · have HQ := Lib.hid (show permE wd v ns = 23 by rw [HR.out, ← HS.out, hst.out, hwn, hcn]; rfl)
              rw [hcn] at hHas
              clear hst
              go_wp2_with fail
              refine wp_region_aft (by kernel_rfl) (by kernel_rfl) ?_
              repeat (go_big_quiet_step ((go_at_call 38; exact Calls.qs (hwc _))))
              refine wpQuiet_nil ?_
              intro z
              have czz := (z.pf.cell (p := ad.add k) hbz).trans c
              have hH2 := Lib.hid fun q : Aft z.val => hHas.out ⟨q.val, z.pf.trans (q.pf.mono z.size)⟩
              clear hHas
              go_wp2_with fail
              refine wp_region_aft (by kernel_rfl) (by kernel_rfl) ?_
              repeat (go_big_quiet_step ((go_at_call 88; exact Calls.qs (hH2.out _))))
              refine wpQuiet_nil ?_
              intro z2
              have hBz : Below w.heap.size w z2.val := z2.below (z.below (y.below hb1 hb1.size) (Nat.le_trans hb1.size y.pf.size)) (Nat.le_trans hb1.size (Nat.le_trans y.pf.size z.pf.size))
              go_wp2
              go_ret
              exact ⟨retI HQ.out.symm, Below.aft (by (repeat' (first | (with_reducible exact Below.refl _ _) | (with_reducible assumption) | (with_reducible exact Aft.pf _) | (with_reducible refine Below.alloc ?_ ?_ _) | (with_reducible refine Below.drew ?_) | (with_reducible refine Aft.below _ ?_ ?_) | (with_reducible refine Below.setCell_new ?_ ?_ _ _) | (with_reducible exact Nat.le_refl _) | (with_reducible refine Aft.le _ ?_) | (with_reducible refine le_alloc ?_) | (with_reducible refine le_drew ?_) | (with_reducible refine le_setCell ?_) | omega)))⟩
        · obtain rfl : k = ns.length := by omega
          have HQ := Lib.hid (show permE wd v ns = 0 by rw [HR.out, ← HS.out, scanAt_end])
          go_wp2
          go_ret
          exact ⟨retI HQ.out.symm, Below.aft (by (repeat' (first | (with_reducible exact Below.refl _ _) | (with_reducible assumption) | (with_reducible exact Aft.pf _) | (with_reducible refine Below.alloc ?_ ?_ _) | (with_reducible refine Below.drew ?_) | (with_reducible refine Aft.below _ ?_ ?_) | (with_reducible refine Below.setCell_new ?_ ?_ _ _) | (with_reducible exact Nat.le_refl _) | (with_reducible refine Aft.le _ ?_) | (with_reducible refine le_alloc ?_) | (with_reducible refine le_drew ?_) | (with_reducible refine le_setCell ?_) | omega)))⟩

set_option maxRecDepth 20000 in
set_option maxHeartbeats 3200000 in
theorem Permuted1_c (i wd v : Int) (A O cap : Nat) (ad : Addr) (ns : List Int) (x : Int) (w : World) (h2 : wd ≤ 16) (hi : 0 ≤ i) (hx : ns[i.toNat]? = some x) (h18 : ns.length ≤ 18)
    (ca : w.cell? ⟨A, 0, none⟩ = some (.int .i64 wd)) (cv : w.cell? ⟨A, 1, none⟩ = some (.int .i64 v)) (co : w.cell? ⟨O, 0, none⟩ = some (.slice (some ad) ns.length cap)) (hl : LiesI w (some ad) ns) (la : A < w.heap.size) (lo : O < w.heap.size) :
    Calls Try.prog 87 #[.int .i64 i, .pointer (some ⟨A, 0, none⟩), .pointer (some ⟨O, 0, none⟩)] w fun e w' => e = .returned (.int .i64 (bitI wd v x)) ∧ ∃ y : Aft w, w' = y.val := by
  have hlt : i.toNat < ns.length := (List.getElem?_eq_some_iff.1 hx).1
  obtain ⟨ad', e, hb, hc⟩ := hl (by omega)
  injection e with e
  subst e
  have c := hc _ _ hx
  have hbz : (ad.add i.toNat).block < w.heap.size := by rw [addB]; exact hb
  have hil : i < (ns.length : Int) := by omega
  clear hc hx hl
  go_enter Try.func87, Try.ntmps87
  go_wp2_with fail
  refine wp_region_aft (by kernel_rfl) (by kernel_rfl) ?_
  repeat (go_big_quiet_step ((go_at_call 76; exact Calls.qa (bitAt_c _ _ _ h2 _))))
  refine wpQuiet_nil ?_
  intro x
  go_wp2
  go_ret
  exact ⟨rfl, Below.aft (by (repeat' (first | (with_reducible exact Below.refl _ _) | (with_reducible refine Below.alloc ?_ ?_ _) | (with_reducible refine Below.drew ?_) | (with_reducible refine Aft.below _ ?_ ?_) | (with_reducible refine Below.setCell_new ?_ ?_ _ _) | (with_reducible exact Nat.le_refl _) | (with_reducible refine Aft.le _ ?_) | (with_reducible refine le_alloc ?_) | (with_reducible refine le_drew ?_) | (with_reducible refine le_setCell ?_) | omega)))⟩


set_option maxHeartbeats 400000 in
theorem bitwise_Permuted (n : Nat) (v : Int) (A O cap : Nat) (ad : Addr) (ns : List Int) (w : World) (h1 : 1 ≤ n) (h2 : n ≤ 16) (hns : ns.length = n) (ca : w.cell? ⟨A, 0, none⟩ = some (.int .i64 n)) (cv : w.cell? ⟨A, 1, none⟩ = some (.int .i64 v)) (co : w.cell? ⟨O, 0, none⟩ = some (.slice (some ad) ns.length cap)) (hl : LiesI w (some ad) ns) (la : A < w.heap.size) (lo : O < w.heap.size) :
    Calls Try.prog 74 #[.int .i64 n, .func (.func 87) #[] #[.pointer (some ⟨A, 0, none⟩), .pointer (some ⟨O, 0, none⟩)]] w fun e w' => e = .returned (.agg #[.int .i64 n, .int .i64 (bw (fun i => bitI n v (nth ns i)) n)]) ∧ ∃ x : Aft w, w' = x.val := by
  go_enter Try.func74, Try.ntmps74
  go_wp2_with fail
  go_loopw [5, 8] (fun v5 v8 wr => ∃ (k : Nat) (y : Aft (w.alloc (.cells #[.int .i64 0, .int .i64 0] 23))), wr = y.val ∧ k ≤ n ∧ v8 = .int .i64 k ∧ v5 = .int .i64 (bw (fun i => bitI n v (nth ns i)) k)) (fun _ v8 _ => n - (intOf v8).toNat)
  case atStart => exact ⟨0, ⟨_, Below.refl _ _⟩, rfl, by omega, rfl, rfl⟩
  case round =>
    obtain ⟨k, y, rfl, hk, rfl, rfl⟩ := hrel
    by_cases hlt : k < n
    · have hj := Lib.hid (bw_join (fun i => bitI n v (nth ns i)) k (by omega) (fun i => bitI_bd _ _ _))
      go_wp2_with fail
      refine (Permuted1_c k n v A O cap ad ns (nth ns k) y.val (by omega) (by omega) (nth_at (by omega)) (by omega) (cell_aft y (lt_alloc la) (cell_alloc la ca)) (cell_aft y (lt_alloc la) (cell_alloc la cv)) (cell_aft y (lt_alloc lo) (cell_alloc lo co)) ((hl.aft ⟨_, (Below.refl _ _).alloc (Nat.le_refl _) _⟩).aft y) (y.lt' (lt_alloc la)) (y.lt' (lt_alloc lo))).mono ?_
      skip
      rintro e w' ⟨rfl, z, rfl⟩
      go_wp2
      go_roundw
      case rel => exact ⟨k + 1, ⟨z.val, z.below y.pf y.pf.size⟩, rfl, by omega, by go_num, by rw [← hj.out]⟩
      case measure => simp [intOf]; omega
    · obtain rfl : k = n := by omega
      go_wp2
      refine bodyPost_ret (by simp [results, Try.results74, go_sem]; try rfl) rfl ?_
      exact ⟨rfl, Below.aft (by (repeat' (first | (with_reducible exact Below.refl _ _) | (with_reducible refine Below.alloc ?_ ?_ _) | (with_reducible refine Below.drew ?_) | (with_reducible refine Aft.below _ ?_ ?_) | (with_reducible refine Below.setCell_new ?_ ?_ _ _) | (with_reducible exact Nat.le_refl _) | (with_reducible refine Aft.le _ ?_) | (with_reducible refine le_alloc ?_) | (with_reducible refine le_drew ?_) | (with_reducible refine le_setCell ?_) | omega)))⟩

end Go.Proofs.Ytlplphigjejahaa
