/-
  Contracts of chapter 2 (graph): the references' CheckNodes.
-/
import Derived.Test.YtkdonapgonegkaaDoorGk
set_option linter.unusedSimpArgs false
set_option linter.unusedVariables false
namespace Go.Proofs.YtkdonapgonegkaaDoor
open Go.RowKit Go.BigFrame

set_option maxRecDepth 100000 in
set_option maxHeartbeats 1600000 in
theorem nodeErr_c (A : Option Addr) (cap : Nat) (ls : List Int) (hls : ls.length ≤ 65536) (ad : Addr) (capN : Nat) (ns : List Nd) (hns : ns.length ≤ 65536) (i : Nat) (op wd v : Int) (args : List Int) (hla : args.length ≤ 65536) (hi : ns[i]? = some ⟨op, wd, args, v⟩) (w : World) (hA : LiesI w A ls) (hN : LiesN w (some ad) ns) (hv : ∀ n ∈ ns.take i, isW n.wd = true) :
    Calls Tryd.prog 84 #[.slice A ls.length cap, .slice (some ad) ns.length capN, .int .i64 i] w fun e w' => e = .returned (.int .i64 (nodeE ls (ns.take i) ⟨op, wd, args, v⟩)) ∧ ∃ x : Aft w, w' = x.val := by
  cases h1 : isIx op 19
  · exact nodeErr_15 A cap ls hls ad capN ns hns i op wd v args hla hi w hA hN h1
  cases h2 : isW wd
  · exact nodeErr_2 A cap ls hls ad capN ns hns i op wd v args hla hi w hA hN h1 h2
  by_cases h3 : (args.length : Int) = argN op
  case neg => exact nodeErr_10 A cap ls hls ad capN ns hns i op wd v args hla hi w hA hN h1 h2 h3
  by_cases h4 : ∀ x ∈ args, isIx x (ns.take i).length = true
  case neg => exact nodeErr_9 A cap ls hls ad capN ns hns i op wd v args hla hi w hA hN h1 h2 h3 h4
  by_cases o0 : op = 0
  · subst o0
    cases h5 : isV v wd
    · rw [nodeR_n h1 h2 h3 h4 (c := 2) (by show eIf (!isV v wd) 2 = 2; rw [h5]; rfl) (by decide)]
      exact nodeErr_0F A cap ls hls ad capN ns hns i wd v args hla hi w hA hN h1 h2 h3 h4 h5
    · rw [nodeR_0 h1 h2 h3 h4 (by show eIf (!isV v wd) 2 = 0; rw [h5]; rfl)]
      exact nodeErr_0T A cap ls hls ad capN ns hns i wd v args hla hi w hA hN h1 h2 h3 h4 h5
  by_cases o1 : op = 1
  · subst o1
    cases h5 : isIx v ls.length
    · rw [nodeR_n h1 h2 h3 h4 (c := 6) (by show (if isIx v ls.length then eIf (ls.getD v.toNat 0 != wd) 25 else 6) = 6; rw [h5]; rfl) (by decide)]
      exact nodeErr_1A A cap ls hls ad capN ns hns i wd v args hla hi w hA hN h1 h2 h3 h4 h5
    · obtain ⟨k, rfl⟩ := Int.eq_ofNat_of_zero_le (isIx_iff.1 h5).1
      have hk : k < ls.length := by have := (isIx_iff.1 h5).2; omega
      have hy := List.getElem?_eq_getElem hk
      have hn : numE ls 1 wd (k : Int) = eIf (ls[k] != wd) 25 := by
        show (if isIx (k : Int) ls.length then eIf (ls.getD (k : Int).toNat 0 != wd) 25 else 6) = _
        rw [h5, if_pos rfl]; simp [hk]
      by_cases h6 : ls[k] = wd
      · rw [nodeR_0 h1 h2 h3 h4 (by rw [hn, h6]; simp [eIf])]
        exact nodeErr_1C k ls[k] A cap ls hls ad capN ns hns i wd args hla hi w hA hN h1 h2 h3 h4 h5 hy h6
      · have n6 : (ls[k] != wd) = true := by simpa using h6
        rw [nodeR_n h1 h2 h3 h4 (c := 25) (by rw [hn, n6]; rfl) (by decide)]
        exact nodeErr_1B k ls[k] A cap ls hls ad capN ns hns i wd args hla hi w hA hN h1 h2 h3 h4 h5 hy h6
  by_cases o14 : op = 14
  · subst o14
    cases h5 : isIx v 16
    · rw [nodeR_n h1 h2 h3 h4 (c := 2) (by show eIf (!isIx v 16) 2 = 2; rw [h5]; rfl) (by decide)]
      exact nodeErr_14F A cap ls hls ad capN ns hns i wd v args hla hi w hA hN h1 h2 h3 h4 h5
    · rw [nodeR_0 h1 h2 h3 h4 (by show eIf (!isIx v 16) 2 = 0; rw [h5]; rfl)]
      cases h6 : fitW 14 wd v (wAt (ns.take i) args 0) (wAt (ns.take i) args 1) (wAt (ns.take i) args 2)
      · exact nodeErr_14T A cap ls hls ad capN ns hns i wd v args hla hi w hA hN h1 h2 h3 h4 h5 hv (by decide) h6
      · exact nodeErr_14U A cap ls hls ad capN ns hns i wd v args hla hi w hA hN h1 h2 h3 h4 h5 hv (by decide) h6
  obtain ⟨p0, p1⟩ := isIx_iff.1 h1
  have hn : numE ls op wd v = eIf (v != 0) 3 := by unfold numE; rw [if_neg o0, if_neg o1, if_neg o14]
  by_cases h5 : v = 0
  · subst h5
    rw [nodeR_0 h1 h2 h3 h4 (by rw [hn]; rfl)]
    cases h6 : fitW op wd 0 (wAt (ns.take i) args 0) (wAt (ns.take i) args 1) (wAt (ns.take i) args 2)
    · exact nodeErr_xT A cap ls hls ad capN ns hns i op wd args hla hi w hA hN h1 h2 h3 h4 o0 o1 o14 (by omega) hv (by omega) h6
    · exact nodeErr_xU A cap ls hls ad capN ns hns i op wd args hla hi w hA hN h1 h2 h3 h4 o0 o1 o14 (by omega) hv (by omega) h6
  · have n5 : (v != 0) = true := by simpa using h5
    rw [nodeR_n h1 h2 h3 h4 (c := 3) (by rw [hn, n5]; rfl) (by decide)]
    exact nodeErr_xF A cap ls hls ad capN ns hns i op wd v args hla hi w hA hN h1 h2 h3 h4 o0 o1 o14 h5

/-- What NodesErr answers: the first node with an error. -/
def nErr (ls : List Int) (ns : List Nd) : Int × Int := if 400 < ns.length then (0, 8) else firstAt (nodesE ls ns) ns.length 0

set_option maxRecDepth 100000 in
set_option maxHeartbeats 1600000 in
theorem NodesErr_c (A : Option Addr) (cap : Nat) (ls : List Int) (hls : ls.length ≤ 65536) (N : Option Addr) (capN : Nat) (ns : List Nd) (hns : ns.length ≤ 65536) (hla : ∀ n ∈ ns, n.args.length ≤ 65536) (w : World) (hA : LiesI w A ls) (hN : LiesN w N ns) :
    Calls Tryd.prog 53 #[.slice A ls.length cap, .slice N ns.length capN] w fun e w' => e = .returned (.tuple #[.int .i64 (nErr ls ns).1, .int .i64 (nErr ls ns).2]) ∧ ∃ x : Aft w, w' = x.val := by
  by_cases h4 : 400 < ns.length
  · have h400 : (400 : Int) < ns.length := by omega
    have HR := Lib.hid (show nErr ls ns = (0, 8) from if_pos h4)
    clear hA hN hla h4
    go_enter Tryd.func53, Tryd.ntmps53
    go_wp2
    go_ret2
    exact ⟨tupII (by rw [HR.out]) (by rw [HR.out]), Below.aft (Below.refl _ _)⟩
  have h400 : ¬ (400 : Int) < ns.length := by omega
  have HR := Lib.hid (show nErr ls ns = firstAt (nodesE ls ns) ns.length 0 from if_neg h4)
  have HCl := Lib.hid (fun (k : Nat) (x : Nd) (hx : ns[k]? = some x) (ad : Addr) (had : N = some ad) (hv : ∀ n ∈ ns.take k, isW n.wd = true) (W : World) (hb : Below w.heap.size w W) => show Calls Tryd.prog 84 #[.slice A ls.length cap, .slice (some ad) ns.length capN, .int .i64 k] W (fun e w' => e = .returned (.int .i64 (nodeE ls (ns.take k) x)) ∧ ∃ z : Aft W, w' = z.val) from
    nodeErr_c A cap ls hls ad capN ns hns k x.op x.wd x.v x.args (hla x (List.mem_of_getElem? hx)) hx W (hA.below hb) (had ▸ hN.below hb) hv)
  have HH := Lib.hid hN
  clear hN hA hla h4
  go_enter Tryd.func53, Tryd.ntmps53
  go_wp2
  go_loopw [6] (fun v6 wr => ∃ k : Nat, k ≤ ns.length ∧ v6 = .int .i64 k ∧ firstAt (nodesE ls ns) ns.length 0 = firstAt (nodesE ls ns) (ns.length - k) k ∧ (∀ x ∈ ns.take k, isW x.wd = true) ∧ Below w.heap.size w wr) (fun v6 _ => ns.length - (intOf v6).toNat)
  case atStart => exact ⟨0, by omega, rfl, rfl, by simp, Below.refl _ _⟩
  case round =>
    obtain ⟨k, hk, rfl, hf, hv, hb⟩ := hrel
    have HF := Lib.hid hf
    have HB := Lib.hid hb
    have HV := Lib.hid hv
    clear hf hb hv
    by_cases hlt : k < ns.length
    · have hkk : (k : Int) < ns.length := by omega
      have HX := Lib.hid (List.getElem?_eq_getElem hlt)
      generalize ns[k] = x at *
      obtain ⟨ad, rfl, _⟩ := HH.out.cells HX.out
      have HE := Lib.hid (nodesE_at (ls := ls) HX.out)
      go_wp2_with fail
      refine (HCl.out k x HX.out ad rfl HV.out _ HB.out).mono ?_
      rintro e w' ⟨rfl, y, rfl⟩
      have hby : Below w.heap.size w y.val := y.below HB.out HB.out.size
      have HY := Lib.hid hby
      clear hby
      by_cases hz : nodeE ls (ns.take k) x = 0
      · have hn := Lib.hid (firstAt_go hlt (HE.out.trans hz))
        have HW := Lib.hid (take_more HX.out HV.out (nodeE_wd hz))
        rw [hz]
        clear hz
        go_wp2
        go_roundw
        case rel => exact ⟨k + 1, by omega, by go_num, HF.out.trans hn.out, HW.out, HY.out⟩
        case measure => simp [intOf]; omega
      · have hn := Lib.hid (firstAt_stop hlt (show ¬ nodesE ls ns k = 0 by rw [HE.out]; exact hz))
        have n1 : (nodeE ls (ns.take k) x == 0) = false := by simpa using hz
        have n2 : (nodeE ls (ns.take k) x != 0) = true := by simpa using hz
        clear hz
        generalize nodeE ls (ns.take k) x = er at *
        go_wp2
        go_ret2
        exact ⟨tupII (by rw [HR.out, HF.out, hn.out]) (by rw [HR.out, HF.out, hn.out, HE.out]), Below.aft HY.out⟩
    · have hn := Lib.hid (firstAt_end (f := nodesE ls ns) (n := ns.length) (k := k) (by omega))
      go_wp2
      go_ret2
      exact ⟨tupII (by rw [HR.out, HF.out, hn.out]) (by rw [HR.out, HF.out, hn.out]), Below.aft HB.out⟩

theorem leafE_at {ls : List Int} {k : Nat} {x : Int} (h : ls[k]? = some x) : leafE ls k = eIf (!isW x) 2 := by unfold leafE; simp [List.getD, h]

set_option maxRecDepth 100000 in
set_option maxHeartbeats 1600000 in
theorem refCheckNodes_c (A : Option Addr) (cap : Nat) (ls : List Int) (hls : ls.length ≤ 65536) (N : Option Addr) (capN : Nat) (ns : List Nd) (hns : ns.length ≤ 65536) (hla : ∀ n ∈ ns, n.args.length ≤ 65536) (w : World) (hA : LiesI w A ls) (hN : LiesN w N ns) :
    Calls Tryd.prog 13 #[.slice A ls.length cap, .slice N ns.length capN] w fun e w' => e = .returned (.tuple #[.int .i64 (chk ls ns).1, .int .i64 (chk ls ns).2]) ∧ ∃ x : Aft w, w' = x.val := by
  by_cases hA40 : 40 < ls.length
  · have h40 : (40 : Int) < ls.length := by omega
    have HR := Lib.hid (show chk ls ns = (0, 8) from if_pos hA40)
    clear hA hN hla hA40
    go_enter Tryd.func13, Tryd.ntmps13
    go_wp2
    go_ret2
    exact ⟨tupII (by rw [HR.out]) (by rw [HR.out]), Below.aft (Below.refl _ _)⟩
  have h40 : ¬ (40 : Int) < ls.length := by omega
  have HN := Lib.hid (NodesErr_c A cap ls hls N capN ns hns hla w hA hN)
  have HH := Lib.hid hA
  have H4 := Lib.hid hA40
  clear hN hA hla hA40
  go_enter Tryd.func13, Tryd.ntmps13
  go_wp2
  go_loop [6] (fun v6 => ∃ k : Nat, k ≤ ls.length ∧ v6 = .int .i64 k ∧ firstAt (leafE ls) ls.length 0 = firstAt (leafE ls) (ls.length - k) k) (fun v6 => ls.length - (intOf v6).toNat)
  case atStart => exact ⟨0, by omega, rfl, rfl⟩
  case round =>
    obtain ⟨k, hk, rfl, hf⟩ := hrel
    have HF := Lib.hid hf
    clear hf
    by_cases hlt : k < ls.length
    · have hkk : (k : Int) < ls.length := by omega
      have HX := Lib.hid (List.getElem?_eq_getElem hlt)
      generalize ls[k] = x at *
      obtain ⟨al, rfl, hbl, c⟩ := HH.out.cell HX.out
      have HE := Lib.hid (leafE_at HX.out)
      cases hx : isW x
      · have HW := Lib.hid (fun w => by have kk := IsWidth_c x w; rw [hx] at kk; exact kk)
        have he : leafE ls k = 2 := by rw [HE.out, hx]; rfl
        have hn := firstAt_stop hlt (show ¬ leafE ls k = 0 by rw [he]; decide)
        have HR := Lib.hid (show chk ls ns = ((k : Int), 2) by unfold chk; rw [if_neg H4.out, HF.out, hn, he, if_neg (by simp)])
        clear hx he hn
        go_wp2_with (go_at_call 52; ((with_reducible refine (HW.out _).mono ?_); rintro e w' ⟨rfl, rfl⟩))
        go_ret2
        exact ⟨tupII (by rw [HR.out]) (by rw [HR.out]), Below.aft (Below.refl _ _)⟩
      · have HW := Lib.hid (fun w => by have kk := IsWidth_c x w; rw [hx] at kk; exact kk)
        have hn := Lib.hid (firstAt_go hlt (show leafE ls k = 0 by rw [HE.out, hx]; rfl))
        clear hx
        go_wp2_with (go_at_call 52; ((with_reducible refine (HW.out _).mono ?_); rintro e w' ⟨rfl, rfl⟩))
        go_round
        case rel => exact ⟨k + 1, by omega, by go_num, HF.out.trans hn.out⟩
        case measure => simp [intOf]; omega
    · have hn := firstAt_end (f := leafE ls) (n := ls.length) (k := k) (by omega)
      have HR := Lib.hid (show chk ls ns = nErr ls ns by unfold chk; rw [if_neg H4.out, HF.out, hn, if_pos rfl]; rfl)
      clear hn
      go_wp2_with fail
      refine HN.out.mono ?_
      rintro e w' ⟨rfl, y, rfl⟩
      go_wp2
      go_ret2
      exact ⟨tupII (by rw [HR.out]) (by rw [HR.out]), Below.aft y.pf⟩

end Go.Proofs.YtkdonapgonegkaaDoor
