/-
  Contracts of the functions of chapter 1 (twenty-third part: permutations).
-/
import Derived.Test.YtlplphigjejahaaBF
import Derived.Test.YtlplphigjejahaaBz
import Derived.Maps.Own
import Derived.Maps.Keyed
import Derived.Maps.Views
set_option linter.unusedSimpArgs false
set_option linter.unusedVariables false
namespace Go.Proofs.Ytlplphigjejahaa
open Go.RowKit Go.BigFrame Go.Maps

/-- The slice at A reads as the list ns of numbers. -/
def LiesI (w : World) (A : Option Addr) (ns : List Int) : Prop :=
  0 < ns.length → ∃ ad, A = some ad ∧ ad.block < w.heap.size ∧ ∀ i x, ns[i]? = some x → w.cell? (ad.add i) = some (.int .i64 x)
theorem LiesI.aft {w : World} {A : Option Addr} {ns : List Int} (h : LiesI w A ns) (x : Aft w) : LiesI x.val A ns := fun hp => by
  obtain ⟨ad, rfl, hb, hc⟩ := h hp
  exact ⟨ad, rfl, x.lt' hb, fun i z hi => (x.pf.cell (p := ad.add i) (by rw [addB]; exact hb)).trans (hc i z hi)⟩
theorem LiesI.take {w : World} {A : Option Addr} {ns : List Int} (h : LiesI w A ns) (k : Nat) : LiesI w A (ns.take k) := fun hp => by
  obtain ⟨ad, rfl, hb, hc⟩ := h (by simp at hp; omega)
  refine ⟨ad, rfl, hb, fun i z hi => hc i z ?_⟩
  rw [List.getElem?_take] at hi
  split at hi
  · exact hi
  · cases hi
abbrev DU := DataW Unit
def hasI (ns : List Int) (x : Int) : Bool := ns.contains x
theorem hasI_def (ns : List Int) (x : Int) : ns.contains x = hasI ns x := rfl
/-- The set of numbers that were seen, as the map's reading. -/
def mset (ns : List Int) : DU := ns.foldl (fun D x => D.put (.int .i64 x) (.lit (.bool true))) (.map [])
theorem mset_snoc (ns : List Int) (x : Int) : mset (ns ++ [x]) = (mset ns).put (.int .i64 x) (.lit (.bool true)) := by unfold mset; rw [List.foldl_append]; rfl
theorem mset_map : ∀ (ns : List Int) (D : DU), IsMap D → IsMap (ns.foldl (fun D x => D.put (.int .i64 x) (.lit (.bool true))) D)
  | [], _, h => h
  | x :: r, D, h => mset_map r _ (h.put _ _)
theorem mset_fold : ∀ (ns : List Int) (D : DU) (x : Int), IsMap D → (ns.foldl (fun D x => D.put (.int .i64 x) (.lit (.bool true))) D).atKey (.int .i64 x) (.lit (.bool false)) = if ns.contains x then .lit (.bool true) else D.atKey (.int .i64 x) (.lit (.bool false))
  | [], D, x, _ => by simp
  | y :: r, D, x, h => by
    rw [List.foldl_cons, mset_fold r _ x (h.put _ _)]
    by_cases e : x = y
    · subst e
      rw [atKey_put_same h (by simp [WideAt.IsKeyLit])]
      simp
    · rw [atKey_put_other (by intro h; injection h with _ h; exact e h)]
      have : (y :: r).contains x = r.contains x := by simp [e]
      rw [this]
theorem mset_at (ns : List Int) (x : Int) : (mset ns).atKey (.int .i64 x) (.lit (.bool false)) = .lit (.bool (ns.contains x)) := by
  unfold mset
  rw [mset_fold _ _ _ isMap_empty]
  cases h : ns.contains x <;> rfl
theorem keyedI : Keyed Try.prog 3 := int_keyed Try.underlying3
theorem zeroB (w : World) : (zeroValue 4).run Try.prog w = .ok (.bool false) w := by kernel_rfl
theorem plainElem_bool_inv {P : Program} {e : TypeId} (he : P.underlying e = some .bool) {v : Value} {c : Bool} {ps : List MemPlace} (h : plainElem (H := Unit) P e v = some (.lit (.bool c), ps)) : v = .bool c := by
  unfold plainElem at h
  rw [he] at h
  cases v <;> simp at h
  rw [h.1]
theorem own_lookup {w : World} {b n : Nat} {ns : List Int} (h : w.ownsMap Try.prog 3 (plainElem Try.prog 4) b n (mset ns)) {x : Int} (hx : (Lit.int .i64 x).wf = true) :
    (Instr.lookup 106 (.map (some b)) (.int .i64 x) false).run Try.prog w = .ok (.bool (hasI ns x)) w := by
  obtain ⟨v, ps, hrun, hv⟩ := h.lookup keyedI Try.underlying106 (zeroB w) (plainElem_bool Try.underlying4 false) (keyOf_int_mk Try.underlying3 hx)
  rw [mset_at, hasI_def] at hv
  rw [hrun, plainElem_bool_inv Try.underlying4 hv]
theorem own_map_aft {w : World} {P : Program} {k : TypeId} {R : Value → Option (DataW Unit × List MemPlace)} {b n : Nat} {D : DU} (h : w.ownsMap P k R b n D) (y : Aft w) : y.val.ownsMap P k R b n D := by
  have hlt := h.lt
  obtain ⟨es, clock, hb, F, hs, hD⟩ := h
  exact ⟨es, clock, (y.pf.block b hlt).trans hb, F, hs, hD⟩
/-- The first error of an order, from a place on. -/
def scan (n : Int) : List Int → List Int → Int
  | _, [] => 0
  | seen, x :: r => if win x 0 (n - 1) then (if hasI seen x then 23 else scan n (seen ++ [x]) r) else 6
def scanAt (n : Int) (ns : List Int) (k : Nat) : Int := scan n (ns.take k) (ns.drop k)
theorem scanAt_step {n : Int} {ns : List Int} {k : Nat} {x : Int} (h : ns[k]? = some x) : scanAt n ns k = if win x 0 (n - 1) then (if hasI (ns.take k) x then 23 else scanAt n ns (k + 1)) else 6 := by
  obtain ⟨hk, e⟩ := List.getElem?_eq_some_iff.1 h
  unfold scanAt
  rw [List.drop_eq_getElem_cons hk, e]
  show (if win x 0 (n - 1) then (if hasI (ns.take k) x then 23 else scan n (ns.take k ++ [x]) (ns.drop (k + 1))) else 6) = _
  rw [List.take_succ_eq_append_getElem hk, e]
theorem scanAt_end (n : Int) (ns : List Int) : scanAt n ns ns.length = 0 := by unfold scanAt; rw [List.drop_length]; rfl
def ordE (n : Int) (ns : List Int) : Int := if (ns.length : Int) = n then scanAt n ns 0 else 10

set_option maxRecDepth 20000 in
set_option maxHeartbeats 3200000 in
theorem Has_c (A : Option Addr) (cap : Nat) (ns : List Int) (x : Int) (w : World) (h : LiesI w A ns) (hl : ns.length ≤ 65536) :
    Calls Try.prog 88 #[.slice A ns.length cap, .int .i64 x] w fun e w' => e = .returned (.bool (hasI ns x)) ∧ w = w' := by
  have HH := Lib.hid h
  clear h
  go_enter Try.func88, Try.ntmps88
  go_wp2
  go_loop [5] (fun v5 => ∃ k : Nat, k ≤ ns.length ∧ v5 = .int .i64 k ∧ hasI (ns.take k) x = false) (fun v5 => ns.length - (intOf v5).toNat)
  case atStart => exact ⟨0, by omega, rfl, by simp [hasI]⟩
  case round =>
    obtain ⟨k, hk, rfl, hc⟩ := hrel
    have HC := Lib.hid hc
    clear hc
    by_cases hlt : k < ns.length
    · obtain ⟨ad, rfl, hb, hcell⟩ := HH.out (by omega)
      obtain ⟨y, hy⟩ : ∃ y, ns[k]? = some y := ⟨_, List.getElem?_eq_getElem hlt⟩
      have c := hcell k y hy
      have hkk : (k : Int) < ns.length := by omega
      have ht := Lib.hid (show ns.take (k + 1) = ns.take k ++ [y] by
        obtain ⟨hk, e⟩ := List.getElem?_eq_some_iff.1 hy
        rw [List.take_succ_eq_append_getElem hk, e])
      have hm := Lib.hid (List.mem_of_getElem? hy)
      clear hcell hy
      by_cases he : y = x
      · subst he
        have hr := Lib.hid (show hasI ns y = true by simpa [hasI] using hm.out)
        go_wp2
        go_ret
        exact ⟨congrArg (fun b => Ending.returned (.bool b)) hr.out.symm, rfl⟩
      · have he1 : (y == x) = false := by simpa using he
        have he2 : ¬ x = y := fun q => he q.symm
        have HE := Lib.hid he2
        clear he he2
        go_wp2
        go_round
        case rel => exact ⟨k + 1, by omega, by go_num, by rw [ht.out]; have := HC.out; simp [hasI] at this ⊢; exact ⟨this, HE.out⟩⟩
        case measure => simp [intOf]; omega
    · obtain rfl : k = ns.length := by omega
      have hr := Lib.hid (show hasI ns x = false by have := HC.out; rwa [List.take_length] at this)
      go_wp2
      go_ret
      exact ⟨congrArg (fun b => Ending.returned (.bool b)) hr.out.symm, rfl⟩

set_option maxRecDepth 20000 in
set_option maxHeartbeats 3200000 in
theorem errorOfOrder_c (A : Option Addr) (cap : Nat) (ns : List Int) (n : Int) (w : World) (h : LiesI w A ns) (hl : ns.length ≤ 18) (hwf : ∀ x ∈ ns, (Lit.int .i64 x).wf = true) :
    Calls Try.prog 86 #[.slice A ns.length cap, .int .i64 n] w fun e w' => e = .returned (.int .i64 (ordE n ns)) ∧ ∃ x : Aft w, w' = x.val := by
  by_cases hlen : (ns.length : Int) = n
  case neg =>
    have hR := Lib.hid (show ordE n ns = 10 from if_neg hlen)
    have hz1 : ((ns.length : Int) != n) = true := by simpa using hlen
    clear hlen h hwf
    go_enter Try.func86, Try.ntmps86
    go_wp2
    go_ret
    exact ⟨retI hR.out.symm, Below.aft (Below.refl _ _)⟩
  case pos =>
    have hO := Lib.hid (show ordE n ns = scanAt n ns 0 from if_pos hlen)
    have hz1 : ((ns.length : Int) != n) = false := by simpa using hlen
    have hn1 : 0 ≤ n := by omega
    have hn2 : n ≤ 18 := by omega
    have HLI := Lib.hid h
    have HW := Lib.hid hwf
    have HN := Lib.hid hlen
    have hmm := @run_makeMap Try.prog
    clear hwf h hlen
    go_enter Try.func86, Try.ntmps86
    go_wp2
    clear hmm
    go_loopw [16] (fun v16 wr => ∃ k : Nat, k ≤ ns.length ∧ v16 = .int .i64 k ∧ wr.ownsMap Try.prog 3 (plainElem Try.prog 4) w.heap.size k (mset (ns.take k)) ∧ Below w.heap.size w wr ∧ scanAt n ns k = scanAt n ns 0) (fun v16 _ => ns.length - (intOf v16).toNat)
    case atStart => exact ⟨0, by omega, rfl, World.ownsMap_made _ _ _ _, (Below.refl _ _).alloc (Nat.le_refl _) _, rfl⟩
    case round =>
      obtain ⟨k, hk, rfl, hown, hb, hs⟩ := hrel
      have HS := Lib.hid hs
      clear hs
      by_cases hlt : k < ns.length
      · obtain ⟨ad, rfl, hbk, hc⟩ := HLI.out (by omega)
        have HC := Lib.hid hc
        clear hc
        obtain ⟨x, hx⟩ : ∃ x, ns[k]? = some x := ⟨_, List.getElem?_eq_getElem hlt⟩
        have hst := Lib.hid (scanAt_step (n := n) hx)
        have c := (hb.cell (p := ad.add k) (by rw [addB]; exact hbk)).trans (HC.out k x hx)
        have hwx := HW.out x (List.mem_of_getElem? hx)
        have HL : ∀ y : Aft wr, (Instr.lookup 106 (.map (some w.heap.size)) (.int .i64 x) false).run Try.prog y.val = .ok (.bool (hasI (ns.take k) x)) y.val := fun y => own_lookup (own_map_aft hown y) hwx
        have hkk : (k : Int) < ns.length := by omega
        have ht := Lib.hid (show ns.take (k + 1) = ns.take k ++ [x] by
          obtain ⟨hk, e⟩ := List.getElem?_eq_some_iff.1 hx
          rw [List.take_succ_eq_append_getElem hk, e])
        clear hx
        by_cases h0 : x < 0
        · have hz : decide (x < 0) = true := by simpa using h0
          have hwn : win x 0 (n - 1) = false := by simp [win]; omega
          have HR := Lib.hid (show ordE n ns = 6 by rw [hO.out, ← HS.out, hst.out, hwn]; rfl)
          have HF : Hid (firstE [eIf true 6, eIf (hasI (ns.take k) x) 23] = 6) := Lib.hid (by rfl)
          go_wp2_with fail
          refine wp_region_aft_tail 12 (by kernel_rfl) (by kernel_rfl) ?_
          simp only [List.take_succ_cons, List.take_zero, List.drop_succ_cons, List.drop_zero]
          repeat (go_big_quiet_step ((go_at_call 65; exact Calls.qs (errorIf_c _ _ _))))
          refine wpQuiet_nil ?_
          intro y
          have hoy := own_map_aft hown y
          have hby := hb.trans (y.pf.mono hb.size)
          have hsz := hby.size
          clear HL
          generalize y.val = W2 at *
          go_wp2_with fail
          refine (firstError2 _ _ _ _ _ _ (by exact heap_alloc_at (by simp [go_sem]))).mono ?_
          rw [HF.out]
          rintro e w' ⟨rfl, rfl⟩
          go_wp2
          go_ret
          exact ⟨retI HR.out.symm, Below.aft (by (repeat' (first | (with_reducible exact Below.refl _ _) | (with_reducible assumption) | (with_reducible exact Aft.pf _) | (with_reducible refine Below.alloc ?_ ?_ _) | (with_reducible refine Below.drew ?_) | (with_reducible refine Aft.below _ ?_ ?_) | (with_reducible refine Below.setCell_new ?_ ?_ _ _) | (with_reducible exact Nat.le_refl _) | (with_reducible refine Aft.le _ ?_) | (with_reducible refine le_alloc ?_) | (with_reducible refine le_drew ?_) | (with_reducible refine le_setCell ?_) | omega)))⟩
        · have hz : decide (x < 0) = false := by simpa using h0
          by_cases h1 : n ≤ x
          · have hy : decide (n ≤ x) = true := by simpa using h1
            have hwn : win x 0 (n - 1) = false := by simp [win]; omega
            have HR := Lib.hid (show ordE n ns = 6 by rw [hO.out, ← HS.out, hst.out, hwn]; rfl)
            have HF : Hid (firstE [eIf true 6, eIf (hasI (ns.take k) x) 23] = 6) := Lib.hid (by rfl)
            go_wp2_with fail
            refine wp_region_aft_tail 12 (by kernel_rfl) (by kernel_rfl) ?_
            simp only [List.take_succ_cons, List.take_zero, List.drop_succ_cons, List.drop_zero]
            repeat (go_big_quiet_step ((go_at_call 65; exact Calls.qs (errorIf_c _ _ _))))
            refine wpQuiet_nil ?_
            intro y
            have hoy := own_map_aft hown y
            have hby := hb.trans (y.pf.mono hb.size)
            have hsz := hby.size
            clear HL
            generalize y.val = W2 at *
            go_wp2_with fail
            refine (firstError2 _ _ _ _ _ _ (by exact heap_alloc_at (by simp [go_sem]))).mono ?_
            rw [HF.out]
            rintro e w' ⟨rfl, rfl⟩
            go_wp2
            go_ret
            exact ⟨retI HR.out.symm, Below.aft (by (repeat' (first | (with_reducible exact Below.refl _ _) | (with_reducible assumption) | (with_reducible exact Aft.pf _) | (with_reducible refine Below.alloc ?_ ?_ _) | (with_reducible refine Below.drew ?_) | (with_reducible refine Aft.below _ ?_ ?_) | (with_reducible refine Below.setCell_new ?_ ?_ _ _) | (with_reducible exact Nat.le_refl _) | (with_reducible refine Aft.le _ ?_) | (with_reducible refine le_alloc ?_) | (with_reducible refine le_drew ?_) | (with_reducible refine le_setCell ?_) | omega)))⟩
          · have hy : decide (n ≤ x) = false := by simpa using h1
            have hwn : win x 0 (n - 1) = true := by simp [win]; omega
            cases hcn : hasI (ns.take k) x
            · have HR := Lib.hid (show scanAt n ns (k + 1) = scanAt n ns 0 by rw [← HS.out, hst.out, hwn, hcn]; rfl)
              rw [hcn] at HL
              have HF : Hid (firstE [eIf false 6, eIf false 23] = 0) := Lib.hid (by rfl)
              go_wp2_with fail
              refine wp_region_aft_tail 12 (by kernel_rfl) (by kernel_rfl) ?_
              simp only [List.take_succ_cons, List.take_zero, List.drop_succ_cons, List.drop_zero]
              repeat (go_big_quiet_step ((go_at_call 65; exact Calls.qs (errorIf_c _ _ _))))
              refine wpQuiet_nil ?_
              intro y
              have hoy := own_map_aft hown y
              have hby := hb.trans (y.pf.mono hb.size)
              have hsz := hby.size
              clear HL
              generalize y.val = W2 at *
              go_wp2_with fail
              refine (firstError2 _ _ _ _ _ _ (by exact heap_alloc_at (by simp [go_sem]))).mono ?_
              rw [HF.out]
              rintro e w' ⟨rfl, rfl⟩
              skip
              go_wp2_with (at_mapUpdate; refine wpList_mapUpdate_own _ rfl _ _ _ 106 rfl 3 4 keyedI Try.underlying106 _ w.heap.size k _ rfl (hoy.alloc _) (by unfold maxLen; omega) _ _ _ rfl rfl (keyOf_int_mk Try.underlying3 hwx) _ [] (plainElem_bool Try.underlying4 true) ?_; intro w1 hown1 hgrow1)
              go_wp2
              go_roundw
              case rel => exact ⟨k + 1, by omega, by go_num, by rw [ht.out, mset_snoc]; exact hown1, (hby.alloc hby.size _).grown hgrow1 (by have := hby.size; simp; omega) (fun j hj => by cases hj; exact Nat.le_refl _), HR.out⟩
              case measure => simp [intOf]; omega
            · have HR := Lib.hid (show ordE n ns = 23 by rw [hO.out, ← HS.out, hst.out, hwn, hcn]; rfl)
              rw [hcn] at HL
              have HF : Hid (firstE [eIf false 6, eIf true 23] = 23) := Lib.hid (by rfl)
              go_wp2_with fail
              refine wp_region_aft_tail 12 (by kernel_rfl) (by kernel_rfl) ?_
              simp only [List.take_succ_cons, List.take_zero, List.drop_succ_cons, List.drop_zero]
              repeat (go_big_quiet_step ((go_at_call 65; exact Calls.qs (errorIf_c _ _ _))))
              refine wpQuiet_nil ?_
              intro y
              have hoy := own_map_aft hown y
              have hby := hb.trans (y.pf.mono hb.size)
              have hsz := hby.size
              clear HL
              generalize y.val = W2 at *
              go_wp2_with fail
              refine (firstError2 _ _ _ _ _ _ (by exact heap_alloc_at (by simp [go_sem]))).mono ?_
              rw [HF.out]
              rintro e w' ⟨rfl, rfl⟩
              go_wp2
              go_ret
              exact ⟨retI HR.out.symm, Below.aft (by (repeat' (first | (with_reducible exact Below.refl _ _) | (with_reducible assumption) | (with_reducible exact Aft.pf _) | (with_reducible refine Below.alloc ?_ ?_ _) | (with_reducible refine Below.drew ?_) | (with_reducible refine Aft.below _ ?_ ?_) | (with_reducible refine Below.setCell_new ?_ ?_ _ _) | (with_reducible exact Nat.le_refl _) | (with_reducible refine Aft.le _ ?_) | (with_reducible refine le_alloc ?_) | (with_reducible refine le_drew ?_) | (with_reducible refine le_setCell ?_) | omega)))⟩
      · obtain rfl : k = ns.length := by omega
        have HR := Lib.hid (show ordE n ns = 0 by rw [hO.out, ← HS.out, scanAt_end])
        clear hown
        go_wp2
        go_ret
        exact ⟨retI HR.out.symm, Below.aft hb⟩

end Go.Proofs.Ytlplphigjejahaa
