/-
  Chapter 2 (graph): plain mathematics of the nodes below some nodes, of cones, of what values depend on, and of trials. No walk.
-/
import Derived.Test.YtkdonapgonegkaaDoorQH
import Derived.Test.YtkdonapgonegkaaDoorQG
import Derived.Maps.AppendAt
import Derived.Test.YtkdonapgonegkaaDoorQC
set_option linter.unusedSimpArgs false
set_option linter.unusedVariables false
namespace Go.Proofs.YtkdonapgonegkaaDoor
open Go.RowKit Go.BigFrame

/-- All nodes of a list are valid. -/
def AllOK (ns : List Nd) (L : Nat) : Prop := ∀ k n, ns[k]? = some n → NodeOK ns L k n
def onB (bs : List Bool) (k : Nat) : Prop := bs[k]? = some true
theorem onB.lt {bs : List Bool} {k : Nat} (h : onB bs k) : k < bs.length := (List.getElem?_eq_some_iff.1 h).1
theorem onB_set {bs : List Bool} {i k : Nat} : onB (bs.set i true) k ↔ (k = i ∧ i < bs.length) ∨ onB bs k := by
  unfold onB
  by_cases h : i = k
  · subst h
    by_cases hl : i < bs.length
    · rw [List.getElem?_set_self hl]; simp [hl]
    · rw [List.getElem?_eq_none (by simpa using hl), List.getElem?_eq_none (by omega)]; simp [hl]
  · rw [List.getElem?_set_ne h]
    constructor
    · exact .inr
    · rintro (⟨e, _⟩ | e)
      · exact absurd e.symm h
      · exact e
theorem mark_on : ∀ {is : List Int} {bs : List Bool} {k : Nat}, onB (markL bs is) k ↔ onB bs k ∨ (k < bs.length ∧ ∃ i ∈ is, i.toNat = k)
  | [], bs, k => by simp [markL]
  | i :: is, bs, k => by
    have ih := mark_on (is := is) (bs := bs.set i.toNat true) (k := k)
    show onB (markL (bs.set i.toNat true) is) k ↔ _
    rw [ih, onB_set, List.length_set]
    constructor
    · rintro ((⟨rfl, h⟩ | h) | ⟨h, j, hj, rfl⟩)
      · exact .inr ⟨h, i, by simp, rfl⟩
      · exact .inl h
      · exact .inr ⟨h, j, by simp [hj], rfl⟩
    · rintro (h | ⟨h, j, hj, rfl⟩)
      · exact .inl (.inr h)
      · rcases List.mem_cons.1 hj with rfl | hj
        · exact .inl (.inl ⟨rfl, h⟩)
        · exact .inr ⟨h, j, hj, rfl⟩
theorem belD_mono {ns : List Nd} : ∀ {m : Nat} {bs : List Bool} {k : Nat}, onB bs k → onB (belD ns m bs) k
  | 0, bs, k, h => h
  | m + 1, bs, k, h => by
    rw [belD]
    refine belD_mono ?_
    split
    · split
      · exact h
      · exact mark_on.2 (.inl h)
    · exact h
theorem mark_hi {is : List Int} {bs : List Bool} {j : Nat} (h : ∀ i ∈ is, i.toNat ≠ j) : onB (markL bs is) j ↔ onB bs j := by
  rw [mark_on]
  constructor
  · rintro (h1 | ⟨_, i, hi, e⟩)
    · exact h1
    · exact absurd e (h i hi)
  · exact .inl
theorem belD_hi {ns : List Nd} {L : Nat} (hall : AllOK ns L) : ∀ {m : Nat} {bs : List Bool} {j : Nat}, m ≤ j + 1 → (onB (belD ns m bs) j ↔ onB bs j)
  | 0, bs, j, _ => Iff.rfl
  | m + 1, bs, j, h => by
    rw [belD, belD_hi hall (by omega)]
    split
    · split
      · rfl
      · rename_i n hn
        refine mark_hi fun i hi => ?_
        obtain ⟨x, hx, rfl⟩ := List.mem_iff_getElem.1 hi
        have := (hall m n hn).ai x _ (List.getElem?_eq_getElem hx)
        omega
    · rfl
theorem belD_closed {ns : List Nd} {L : Nat} (hall : AllOK ns L) : ∀ {m : Nat} {bs : List Bool} {k : Nat} {n : Nd}, k < m → bs.length = ns.length → ns[k]? = some n → onB (belD ns m bs) k → ∀ {i j : Nat}, n.args[i]? = some (j : Int) → onB (belD ns m bs) j
  | 0, bs, k, n, h, _, _, _, _, _, _ => by omega
  | m + 1, bs, k, n, h, hl, hn, ho, i, j, ha => by
    rw [belD] at ho ⊢
    by_cases hkm : k < m
    · refine belD_closed hall hkm ?_ hn ho ha
      split
      · split
        · exact hl
        · rw [markL_len]; exact hl
      · exact hl
    · obtain rfl : k = m := by omega
      have h1 := (belD_hi hall (Nat.le_succ k)).1 ho
      have hb : bs.getD k false = true := by
        cases hbk : bs.getD k false with
        | true => rfl
        | false =>
          rw [hbk] at h1
          simp only [Bool.false_eq_true, if_false] at h1
          rw [List.getD_eq_getElem?_getD, h1] at hbk
          cases hbk
      rw [hb]
      simp only [if_true, hn]
      have hi := (hall k n hn).ai i _ ha
      exact belD_mono (mark_on.2 (.inr ⟨by have := (List.getElem?_eq_some_iff.1 hn).1; omega, (j : Int), List.mem_of_getElem? ha, by simp⟩))
theorem belL_fr {ns : List Nd} {fr : List Int} {k : Nat} (hk : k < ns.length) (h : (k : Int) ∈ fr) : onB (belL ns fr) k :=
  belD_mono (mark_on.2 (.inr ⟨by simpa using hk, _, h, by simp⟩))
theorem belL_closed {ns : List Nd} {L : Nat} (hall : AllOK ns L) {fr : List Int} {k : Nat} {n : Nd} (hn : ns[k]? = some n) (ho : onB (belL ns fr) k) {i j : Nat} (ha : n.args[i]? = some (j : Int)) : onB (belL ns fr) j :=
  belD_closed hall (List.getElem?_eq_some_iff.1 hn).1 (by rw [markL_len]; simp) hn ho ha
/-- All values at once: each is that of its node by the others. -/
theorem valsK_at {ns : List Nd} {us : List Int} {k m : Nat} (hk : k < m) (hm : m ≤ ns.length) : (valsK ns us m)[k]? = (valsL ns us)[k]? := by
  have step : ∀ d, k + 1 + d ≤ ns.length → (valsK ns us (k + 1 + d))[k]? = (valsK ns us (k + 1))[k]? := by
    intro d
    induction d with
    | zero => intro _; rfl
    | succ d ih =>
      intro h
      rw [show k + 1 + (d + 1) = (k + 1 + d) + 1 by omega, valsK_step (List.getElem?_eq_getElem (by omega)), List.getElem?_append_left (by rw [valsK_len (by omega)]; omega)]
      exact ih (by omega)
  have e1 := step (m - (k + 1)) (by omega)
  have e2 := step (ns.length - (k + 1)) (by omega)
  rw [show k + 1 + (m - (k + 1)) = m by omega] at e1
  rw [show k + 1 + (ns.length - (k + 1)) = ns.length by omega] at e2
  rw [e1]; unfold valsL; rw [e2]
theorem vAt_same {xs ys args : List Int} {i : Nat} (h : ∀ (j : Nat), args[i]? = some (j : Int) → xs.getD j 0 = ys.getD j 0) (h0 : ∀ a, args[i]? = some a → 0 ≤ a) : vAt xs args i = vAt ys args i := by
  unfold vAt
  cases ha : args[i]? with
  | none => rfl
  | some a =>
    obtain ⟨j, rfl⟩ := Int.eq_ofNat_of_zero_le (h0 a ha)
    have := h j ha
    simpa using this
theorem valL_fix {ns : List Nd} {L : Nat} (hall : AllOK ns L) {us : List Int} {k : Nat} {n : Nd} (hn : ns[k]? = some n) : (valsL ns us)[k]? = some (valN ns us (valsL ns us) n) := by
  have hk := (List.getElem?_eq_some_iff.1 hn).1
  rw [← valsK_at (m := k + 1) (by omega) (by omega), valsK_step hn, List.getElem?_append_right (by rw [valsK_len (by omega)]; omega), valsK_len (by omega), Nat.sub_self]
  simp only [List.getElem?_cons_zero, Option.some.injEq]
  have key : ∀ i, vAt (valsK ns us k) n.args i = vAt (valsL ns us) n.args i := fun i => vAt_same (fun j hj => by
    have := (hall k n hn).ai i _ hj
    rw [List.getD_eq_getElem?_getD, valsK_at (by omega) (by omega), ← List.getD_eq_getElem?_getD]) (fun a ha => ((hall k n hn).ai i a ha).1)
  unfold valN
  rw [key 0, key 1, key 2]
/-- A cone: where each node that is below lies in it, and what lies there. -/
structure ConeInv (ns : List Nd) (bs : List Bool) (L k : Nat) : Prop where
  len : (conK ns bs k).2.length = ns.length
  plc : ∀ j n, j < k → onB bs j → ns[j]? = some n → ∃ p : Nat, (conK ns bs k).2[j]? = some (p : Int) ∧ p < (conK ns bs k).1.length ∧ (conK ns bs k).1[p]? = some ⟨n.op, n.wd, n.args.map (fun a => (conK ns bs k).2.getD a.toNat 0), n.v⟩
  frm : ∀ p, p < (conK ns bs k).1.length → ∃ j, j < k ∧ onB bs j ∧ (conK ns bs k).2[j]? = some (p : Int)
  asc : ∀ i j p q : Nat, i < j → j < k → onB bs i → onB bs j → (conK ns bs k).2[i]? = some (p : Int) → (conK ns bs k).2[j]? = some (q : Int) → p < q
theorem cone_inv {ns : List Nd} {L : Nat} (hall : AllOK ns L) {bs : List Bool} (hl : bs.length = ns.length) : ∀ k, k ≤ ns.length → ConeInv ns bs L k
  | 0, _ => ⟨(conK_len 0).1, fun j n h => by omega, fun p hp => by simp [conK] at hp, fun i j p q _ h => by omega⟩
  | k + 1, hk => by
    have ih := cone_inv hall hl k (by omega)
    have hn := List.getElem?_eq_getElem (l := ns) (i := k) (by omega)
    have hb := List.getElem?_eq_getElem (l := bs) (i := k) (by omega)
    cases hbk : bs[k] with
    | false =>
      rw [hbk] at hb
      have e := conK_no hn hb
      have no : ¬ onB bs k := by unfold onB; rw [hb]; simp
      refine ⟨by rw [e]; exact ih.len, fun j n hj ho hjn => ?_, fun p hp => ?_, fun i j p q hij hj hi hoj => ?_⟩
      · rw [e]
        have : j ≠ k := fun e => no (e ▸ ho)
        exact ih.plc j n (by omega) ho hjn
      · rw [e] at hp ⊢
        obtain ⟨j, h1, h2⟩ := ih.frm p hp
        exact ⟨j, by omega, h2⟩
      · rw [e]
        have : j ≠ k := fun e => no (e ▸ hoj)
        exact ih.asc i j p q hij (by omega) hi hoj
    | true =>
      rw [hbk] at hb
      have e := conK_yes hn hb
      generalize hP : (conK ns bs k).2 = P at *
      generalize hC : (conK ns bs k).1 = C at *
      have hPl : P.length = ns.length := by rw [← hP]; exact ih.len
      have ne : ∀ j, j < k → (P.set k (C.length : Int))[j]? = P[j]? := fun j hj => List.getElem?_set_ne (by omega)
      have here : (P.set k (C.length : Int))[k]? = some (C.length : Int) := List.getElem?_set_self (by omega)
      have args : ∀ j n, j ≤ k → ns[j]? = some n → n.args.map (fun a => (P.set k (C.length : Int)).getD a.toNat 0) = n.args.map (fun a => P.getD a.toNat 0) := fun j n hj hjn => by
        refine List.map_congr_left fun a ha => ?_
        obtain ⟨i, hi, rfl⟩ := List.mem_iff_getElem.1 ha
        have := (hall j n hjn).ai i _ (List.getElem?_eq_getElem hi)
        rw [List.getD_eq_getElem?_getD, ne _ (by omega), ← List.getD_eq_getElem?_getD]
      refine ⟨?_, ?_, ?_, ?_⟩
      · rw [e]; simpa using hPl
      · intro j n hj ho hjn
        rw [e]
        simp only
        by_cases hjk : j = k
        · subst hjk
          rw [hn] at hjn
          obtain rfl := Option.some.inj hjn
          exact ⟨C.length, here, by simp, by simp⟩
        · obtain ⟨p, h1, h2, h3⟩ := ih.plc j n (by omega) ho hjn
          rw [hP] at h1 h3
          rw [hC] at h2 h3
          refine ⟨p, by rw [ne j (by omega)]; exact h1, by simp; omega, ?_⟩
          rw [List.getElem?_append_left h2, h3, args j n (by omega) hjn]
      · intro p hp
        rw [e] at hp ⊢
        simp only [List.length_append, List.length_cons, List.length_nil] at hp ⊢
        by_cases hpc : p = C.length
        · subst hpc
          exact ⟨k, by omega, hb, here⟩
        · obtain ⟨j, h1, h2, h3⟩ := ih.frm p (by rw [hC]; omega)
          rw [hP] at h3
          exact ⟨j, by omega, h2, by rw [ne j h1]; exact h3⟩
      · intro i j p q hij hj hi ho
        rw [e]
        simp only
        by_cases hjk : j = k
        · subst hjk
          rw [here, ne i hij]
          intro h1 h2
          have hlt := hi.lt
          obtain ⟨p', h3, h4, _⟩ := ih.plc i ns[i] hij hi (List.getElem?_eq_getElem (by omega))
          rw [hP] at h3
          rw [hC] at h4
          rw [h1] at h3
          have : (p : Int) = p' := by simpa using h3
          have : (C.length : Int) = q := by simpa using h2
          omega
        · rw [ne i (by omega), ne j (by omega)]
          have := ih.asc i j p q hij (by omega) hi ho
          rw [hP] at this
          exact this

theorem cone_full {ns : List Nd} {L : Nat} (hall : AllOK ns L) (fr : List Int) : ConeInv ns (belL ns fr) L ns.length := cone_inv hall (belL_len ns fr) ns.length (Nat.le_refl _)
/-- The place of a node in the cone. -/
def plP (ns : List Nd) (fr : List Int) : List Int := (conK ns (belL ns fr) ns.length).2
theorem cone_at {ns : List Nd} {L : Nat} (hall : AllOK ns L) {fr : List Int} {j : Nat} {n : Nd} (ho : onB (belL ns fr) j) (hn : ns[j]? = some n) :
    ∃ p : Nat, (plP ns fr)[j]? = some (p : Int) ∧ p < (coneN ns fr).length ∧ (coneN ns fr)[p]? = some ⟨n.op, n.wd, n.args.map (fun a => (plP ns fr).getD a.toNat 0), n.v⟩ :=
  (cone_full hall fr).plc j n (List.getElem?_eq_some_iff.1 hn).1 ho hn
/-- The arguments of a node of the cone. -/
theorem cone_arg {ns : List Nd} {L : Nat} (hall : AllOK ns L) {fr : List Int} {j : Nat} {n : Nd} (ho : onB (belL ns fr) j) (hn : ns[j]? = some n) {i a : Nat} (ha : n.args[i]? = some (a : Int)) :
    ∃ q : Nat, (n.args.map (fun a => (plP ns fr).getD a.toNat 0))[i]? = some (q : Int) ∧ (plP ns fr)[a]? = some (q : Int) ∧ onB (belL ns fr) a ∧ a < j := by
  have hoa := belL_closed hall hn ho ha
  have haj := ((hall j n hn).ai i _ ha).2
  have hlt := hoa.lt
  rw [belL_len] at hlt
  obtain ⟨q, h1, _⟩ := cone_at hall hoa (List.getElem?_eq_getElem hlt)
  refine ⟨q, ?_, h1, hoa, by omega⟩
  rw [List.getElem?_map, ha]
  simp [List.getD, h1]
theorem cone_ok {ns : List Nd} {L : Nat} (hall : AllOK ns L) (fr : List Int) : AllOK (coneN ns fr) L := by
  intro p c hc
  have hp := (List.getElem?_eq_some_iff.1 hc).1
  obtain ⟨j, hj, ho, hpj⟩ := (cone_full hall fr).frm p hp
  have hn := List.getElem?_eq_getElem (l := ns) (i := j) hj
  generalize ns[j] = n at hn
  obtain ⟨p', h1, h2, h3⟩ := cone_at hall ho hn
  have hpp : p' = p := by
    have : (plP ns fr)[j]? = some (p : Int) := hpj
    rw [this] at h1
    have : (p : Int) = p' := by simpa using h1
    omega
  subst hpp
  rw [hc] at h3
  obtain rfl := Option.some.inj h3
  have ok := hall j n hn
  refine ⟨ok.o0, ok.o1, ok.w1, ok.w2, by simpa using ok.al, fun i a ha => ?_, fun h => by simpa using ok.a11 h, fun h => by simpa using ok.a16 h, ok.lf, ok.sl⟩
  simp only at ha
  have hi : i < n.args.length := by have := (List.getElem?_eq_some_iff.1 ha).1; simpa using this
  obtain ⟨a0, m, ha0, _, _⟩ := ok.arg hj hi
  obtain ⟨q, hq, hqa, hoa, haj⟩ := cone_arg hall ho hn ha0
  rw [hq] at ha
  obtain rfl := Option.some.inj ha
  have := (cone_full hall fr).asc a0 j q p' haj hj hoa ho hqa hpj
  omega
theorem cone_p {ns : List Nd} {L : Nat} (hall : AllOK ns L) {fr : List Int} (hf : ∀ x ∈ fr, isIx x ns.length = true) : ∀ x ∈ coneP ns fr, isIx x (coneN ns fr).length = true := by
  intro x hx
  unfold coneP pickL at hx
  obtain ⟨f, hfr, rfl⟩ := List.mem_map.1 hx
  obtain ⟨f0, f1⟩ := isIx_iff.1 (hf f hfr)
  obtain ⟨j, rfl⟩ := Int.eq_ofNat_of_zero_le f0
  have hj : j < ns.length := by omega
  obtain ⟨p, h1, h2, _⟩ := cone_at hall (belL_fr hj hfr) (List.getElem?_eq_getElem hj)
  have h1' : (conK ns (belL ns fr) ns.length).2[j]? = some (p : Int) := h1
  simp only [Int.toNat_natCast, List.getD, h1', Option.getD_some]
  exact isIx_true (by omega) (by omega)
/-- In a cone a node has the value that it has in the graph. -/
theorem cone_val {ns : List Nd} {L : Nat} (hall : AllOK ns L) {fr us : List Int} : ∀ j, onB (belL ns fr) j → (valsL (coneN ns fr) us).getD ((plP ns fr).getD j 0).toNat 0 = (valsL ns us).getD j 0 := by
  intro j
  induction j using Nat.strongRecOn with
  | ind j ih =>
    intro ho
    have hlt := ho.lt
    rw [belL_len] at hlt
    have hn := List.getElem?_eq_getElem hlt
    generalize ns[j] = n at hn
    obtain ⟨p, h1, h2, h3⟩ := cone_at hall ho hn
    have e1 := valL_fix (cone_ok hall fr) (us := us) h3
    have e2 := valL_fix hall (us := us) hn
    rw [List.getD_eq_getElem?_getD (l := plP ns fr), h1, Option.getD_some, Int.toNat_natCast, List.getD_eq_getElem?_getD, e1, List.getD_eq_getElem?_getD, e2]
    simp only [Option.getD_some]
    have len : ∀ i, n.args[i]? = none → (n.args.map (fun a => (plP ns fr).getD a.toNat 0))[i]? = none := fun i hi => by rw [List.getElem?_map, hi]; rfl
    have kw : ∀ i, wAt (coneN ns fr) (n.args.map (fun a => (plP ns fr).getD a.toNat 0)) i = wAt ns n.args i := fun i => by
      by_cases hi : i < n.args.length
      · obtain ⟨a0, m, ha0, _, hm⟩ := (hall j n hn).arg hlt hi
        obtain ⟨q, hq, hqa, hoa, _⟩ := cone_arg hall ho hn ha0
        obtain ⟨q', hq', _, hc⟩ := cone_at hall hoa hm
        rw [hqa] at hq'
        have : q = q' := by have : (q : Int) = q' := by simpa using hq'
                            omega
        subst this
        rw [wAt_in hq hc, wAt_in ha0 hm]
      · rw [wAt_out (by simpa using hi), wAt_out (by omega)]
    have kv : ∀ i, vAt (valsL (coneN ns fr) us) (n.args.map (fun a => (plP ns fr).getD a.toNat 0)) i = vAt (valsL ns us) n.args i := fun i => by
      by_cases hi : i < n.args.length
      · obtain ⟨a0, m, ha0, _, hm⟩ := (hall j n hn).arg hlt hi
        obtain ⟨q, hq, hqa, hoa, haj⟩ := cone_arg hall ho hn ha0
        have := ih a0 haj hoa
        rw [List.getD_eq_getElem?_getD (l := plP ns fr), hqa, Option.getD_some, Int.toNat_natCast] at this
        unfold vAt
        rw [hq, ha0]
        simpa using this
      · rw [vAt_out (by simpa using hi), vAt_out (by omega)]
    unfold valN
    rw [kw 0, kw 1, kv 0, kv 1, kv 2]
theorem coneN_le (ns : List Nd) (fr : List Int) : (coneN ns fr).length ≤ ns.length := (conK_len ns.length).2
/-- The values of named nodes in a trial. -/
theorem triN_val {ls : List Int} {ns : List Nd} (hall : AllOK ns ls.length) {fr : List Int} (hf : ∀ x ∈ fr, isIx x ns.length = true) (k : Nat) : triN ls ns fr k = pickL (valsL ns (triV ls ns fr k)) fr := by
  unfold triN coneP pickL
  rw [List.map_map]
  refine List.map_congr_left fun f hfr => ?_
  obtain ⟨f0, f1⟩ := isIx_iff.1 (hf f hfr)
  obtain ⟨j, rfl⟩ := Int.eq_ofNat_of_zero_le f0
  exact cone_val hall j (belL_fr (by omega) hfr)
theorem TriOK.of {ls : List Int} {ns : List Nd} {fr : List Int} (h : (chk ls ns).2 = 0) (hf : ∀ x ∈ fr, isIx x ns.length = true) (h1 : fr.length ≤ 65536) (hb : bitsL ls ns fr ≤ 16) : TriOK ls ns fr := by
  obtain ⟨c1, c2, c3, _⟩ := chk_ok h
  have hall : AllOK ns ls.length := chk_nodes h
  exact ⟨by omega, c2, by omega, hall, h1, hf, hb, cone_ok hall fr, by have := coneN_le ns fr; omega, cone_p hall hf⟩

/-- Values of leaves that fit. -/
def FitV (ls us : List Int) : Prop := us.length = ls.length ∧ ∀ (i : Nat) (x y : Int), us[i]? = some x → ls[i]? = some y → 0 ≤ x ∧ x < pw y
theorem FitV.of {ls us : List Int} (h : valE ls us = 0) : FitV ls us := by
  refine ⟨?_, fun i x y hx hy => valE_fit h hx hy⟩
  unfold valE at h
  by_cases h1 : us.length = ls.length
  · exact h1
  · rw [if_neg h1] at h; exact absurd h (by decide)
theorem triD_fit {ls used : List Int} (hu : ∀ x ∈ used, 0 ≤ x ∧ x < ls.length) : ∀ (m : Nat) (row : List Int) (num : Int), m ≤ used.length → FitV ls row → FitV ls (triD ls used m row num)
  | 0, row, num, _, h => h
  | m + 1, row, num, hm, h => by
    rw [triD]
    have hx := hu _ (List.getElem_mem (l := used) (n := m) (by omega))
    have e : used.getD m 0 = used[m] := by simp [List.getD, List.getElem?_eq_getElem (show m < used.length by omega)]
    rw [e]
    refine triD_fit hu m _ _ (by omega) ⟨by simpa using h.1, fun i x y hx' hy => ?_⟩
    by_cases hi : (used[m]).toNat = i
    · subst hi
      rw [List.getElem?_set_self (by have := h.1; omega)] at hx'
      obtain rfl := Option.some.inj hx'
      have : ls.getD (used[m]).toNat 0 = y := by simp [List.getD, hy]
      rw [this]
      exact ⟨Int.emod_nonneg _ (Int.ne_of_gt (pw_pos y)), Int.emod_lt_of_pos _ (pw_pos y)⟩
    · rw [List.getElem?_set_ne hi] at hx'
      exact h.2 i x y hx' hy
theorem triL_fit {ls used : List Int} (hu : ∀ x ∈ used, 0 ≤ x ∧ x < ls.length) (num : Int) : FitV ls (triL ls used num) := by
  refine triD_fit hu _ _ _ (Nat.le_refl _) ⟨by simp, fun i x y hx _ => ?_⟩
  rw [List.getElem?_replicate] at hx
  split at hx
  · obtain rfl := Option.some.inj hx
    exact ⟨Int.le_refl _, pw_pos y⟩
  · cases hx
end Go.Proofs.YtkdonapgonegkaaDoor

set_option linter.unusedSimpArgs false
set_option linter.unusedVariables false
namespace Go.Proofs.YtkdonapgonegkaaDoor
open Go.RowKit Go.BigFrame

set_option maxRecDepth 100000 in
set_option maxHeartbeats 1600000 in
theorem Bits_c (A : Option Addr) (cap : Nat) (ls : List Int) (hls : ls.length ≤ 65536) (hw : ∀ x ∈ ls, isW x = true) (N : Option Addr) (capN : Nat) (ns : List Nd) (hns : ns.length ≤ 65536) (hall : ∀ k n, ns[k]? = some n → NodeOK ns ls.length k n) (F : Option Addr) (cf : Nat) (fr : List Int) (hfr : fr.length ≤ 65536) (hf : ∀ x ∈ fr, isIx x ns.length = true) (w : World) (hA : LiesI w A ls) (hN : LiesN w N ns) (hF : LiesI w F fr) :
    Calls Tryd.prog 37 #[.slice A ls.length cap, .slice N ns.length capN, .slice F fr.length cf] w fun e w' => e = .returned (.int .i64 (bitsL ls ns fr)) ∧ ∃ x : Aft w, w' = x.val := by
  have HLB := Lib.hid (baseLeavesBelow_c N capN ns hns ls.length hls hall F cf fr hfr hf w hN hF)
  have HA := Lib.hid hA
  have HW := Lib.hid hw
  clear hA hN hF hall hf hw
  go_enter Tryd.func37, Tryd.ntmps37
  go_wp2_with fail
  refine HLB.out.mono ?_
  rintro e W2 ⟨M, cm, rfl, hM, hb2⟩
  have HM := Lib.hid hM
  have HB := Lib.hid hb2
  have HR := Lib.hid (show bitsL ls ns fr = sumK ls (lbL ns fr ls.length) (lbL ns fr ls.length).length from rfl)
  have HMEM := Lib.hid (fun x (h : x ∈ lbL ns fr ls.length) => lbL_mem h)
  have hxl : (lbL ns fr ls.length).length ≤ 65536 := Nat.le_trans lbL_len hls
  clear hM hb2
  generalize lbL ns fr ls.length = xs at *
  go_wp2_with fail
  go_loop [7, 9] (fun v7 v15 => ∃ k : Nat, k ≤ xs.length ∧ v15 = .int .i64 k ∧ v7 = .int .i64 (sumK ls xs k)) (fun _ v15 => xs.length - (intOf v15).toNat)
  case atStart => exact ⟨0, by omega, rfl, rfl⟩
  case round =>
    obtain ⟨k, hk, rfl, rfl⟩ := hrel
    by_cases hlt : k < xs.length
    · have hkk : (k : Int) < xs.length := by omega
      have HX := Lib.hid (List.getElem?_eq_getElem hlt)
      have HI := Lib.hid (HMEM.out _ (List.getElem_mem hlt))
      generalize xs[k] = x at *
      obtain ⟨x0, x1⟩ := HI.out
      obtain ⟨p, rfl⟩ := Int.eq_ofNat_of_zero_le x0
      obtain ⟨am, rfl, ham, c0⟩ := HM.out.cell HX.out
      have hp : p < ls.length := by omega
      have HY := Lib.hid (List.getElem?_eq_getElem hp)
      have hiw := isW_iff.1 (HW.out _ (List.getElem_mem hp))
      have HS : Hid (sumK ls xs (k + 1) = sumK ls xs k + ls[p]) := Lib.hid (by
        have e : xs.getD k 0 = (p : Int) := by simp [List.getD, HX.out]
        have e2 : ls.getD ((p : Nat) : Int).toNat 0 = ls[p] := by simp [hp]
        simp only [sumK, e, e2])
      generalize ls[p] = u at *
      obtain ⟨aa, rfl, hal, c1⟩ := HA.out.cell HY.out
      have c2 := (HB.out.cell (p := aa.add p) (by rw [addB]; exact hal)).trans c1
      have hsb := sumK_bd (xs := xs) HW.out k
      obtain ⟨u1, u2⟩ := hiw
      obtain ⟨s1, s2⟩ := hsb
      clear c1
      generalize sumK ls xs k = s at *
      go_wp2
      go_round
      case rel => exact ⟨k + 1, by omega, by go_num, by rw [HS.out]⟩
      case measure => simp [intOf]; omega
    · obtain rfl : k = xs.length := by omega
      go_wp2
      go_ret
      exact ⟨retI HR.out.symm, Below.aft HB.out⟩

def lightB (n : Int) : Bool := decide (n ≤ 9) || decide (12 < n)
set_option maxRecDepth 100000 in
set_option maxHeartbeats 1600000 in
theorem light_c (A : Option Addr) (cap : Nat) (ls : List Int) (hls : ls.length ≤ 65536) (hw : ∀ x ∈ ls, isW x = true) (N : Option Addr) (capN : Nat) (ns : List Nd) (hns : ns.length ≤ 65536) (hall : ∀ k n, ns[k]? = some n → NodeOK ns ls.length k n) (F : Option Addr) (cf : Nat) (fr : List Int) (hfr : fr.length ≤ 65536) (hf : ∀ x ∈ fr, isIx x ns.length = true) (w : World) (hA : LiesI w A ls) (hN : LiesN w N ns) (hF : LiesI w F fr) :
    Calls Tryd.prog 34 #[.slice A ls.length cap, .slice N ns.length capN, .slice F fr.length cf] w fun e w' => e = .returned (.bool (lightB (bitsL ls ns fr))) ∧ ∃ x : Aft w, w' = x.val := by
  have HB := Lib.hid (fun (W : World) (hb : Below w.heap.size w W) => Bits_c A cap ls hls hw N capN ns hns hall F cf fr hfr hf W (hA.below hb) (hN.below hb) (hF.below hb))
  clear hA hN hF hall hf hw
  by_cases h9 : bitsL ls ns fr ≤ 9
  · have e : lightB (bitsL ls ns fr) = true := by unfold lightB; simp [h9]
    rw [e]
    generalize bitsL ls ns fr = b at *
    go_enter Tryd.func34, Tryd.ntmps34
    go_wp2_with fail
    refine (HB.out w (Below.refl _ _)).mono ?_
    rintro e w' ⟨rfl, x1, rfl⟩
    go_wp2
    go_ret
    exact ⟨rfl, x1, rfl⟩
  · have e : lightB (bitsL ls ns fr) = decide (12 < bitsL ls ns fr) := by unfold lightB; simp [h9]
    rw [e]
    generalize bitsL ls ns fr = b at *
    have d9 : decide (b ≤ 9) = false := by simpa using h9
    clear h9
    go_enter Tryd.func34, Tryd.ntmps34
    go_wp2_with fail
    refine (HB.out w (Below.refl _ _)).mono ?_
    rintro e w' ⟨rfl, x1, rfl⟩
    go_wp2_with fail
    refine (HB.out x1.val x1.pf).mono ?_
    rintro e w' ⟨rfl, x2, rfl⟩
    go_wp2
    go_ret
    exact ⟨rfl, Below.aft (x2.below x1.pf x1.pf.size)⟩

set_option maxRecDepth 100000 in
set_option maxHeartbeats 1600000 in
theorem DifferenceOf_err (A : Option Addr) (cap : Nat) (ls : List Int) (hls : ls.length ≤ 65536) (N : Option Addr) (capN : Nat) (ns : List Nd) (hns : ns.length ≤ 65536) (hcap : ns.length ≤ capN) (hla : ∀ n ∈ ns, n.args.length ≤ 65536) (i j er : Int) (he : fromE ls ns [i, j] = er) (hne : er ≠ 0) (w : World) (hA : LiesI w A ls) (hN : LiesN w N ns) (ht : TabOps w) :
    Calls Tryd.prog 35 #[.slice A ls.length cap, .slice N ns.length capN, .int .i64 i, .int .i64 j] w fun e w' => e = .returned (.tuple #[.slice none 0 0, .int .i64 er]) ∧ Below w.heap.size w w' := by
  have HFE := Lib.hid he
  have HEF := Lib.hid (fun (W : World) (hb : Below w.heap.size w W) F cf (hF : LiesI W F [i, j]) => errorOfFrom_c A cap ls hls N capN ns hns hcap hla F cf [i, j] (by simp) W (hA.below hb) (hN.below hb) hF (ht.below hb))
  have c1 : (er == 0) = false := by simpa using hne
  have c2 : (er != 0) = true := by simpa using hne
  clear hA hN ht hla hcap he hne
  go_enter Tryd.func35, Tryd.ntmps35
  go_wp2_with fail
  have r1 : (((w.alloc (.cells #[.slice none 0 0] 22)).alloc (.cells #[.int .i64 0] 26)).alloc (.cells #[.int .i64 i, .int .i64 j] 3)).heap[w.heap.size]? = some (.cells #[.slice none 0 0] 22) := heap_alloc' (by simp; omega) (heap_alloc' (by simp) (heap_alloc_new _ _))
  have r2 : (((w.alloc (.cells #[.slice none 0 0] 22)).alloc (.cells #[.int .i64 0] 26)).alloc (.cells #[.int .i64 i, .int .i64 j] 3)).heap[w.heap.size + 1]? = some (.cells #[.int .i64 0] 26) := heap_alloc' (by simp) (heap_alloc_at (by simp))
  have r3 : (((w.alloc (.cells #[.slice none 0 0] 22)).alloc (.cells #[.int .i64 0] 26)).alloc (.cells #[.int .i64 i, .int .i64 j] 3)).heap[w.heap.size + 2]? = some (.cells #[.int .i64 i, .int .i64 j] 3) := heap_alloc_at (by simp)
  have hb0 : Below w.heap.size w (((w.alloc (.cells #[.slice none 0 0] 22)).alloc (.cells #[.int .i64 0] 26)).alloc (.cells #[.int .i64 i, .int .i64 j] 3)) := (((Below.refl _ _).alloc (Nat.le_refl _) _).alloc (by simp) _).alloc (by simp; omega) _
  generalize (((w.alloc (.cells #[.slice none 0 0] 22)).alloc (.cells #[.int .i64 0] 26)).alloc (.cells #[.int .i64 i, .int .i64 j] 3)) = W0 at *
  have hF0 : LiesI W0 (some ⟨w.heap.size + 2, 0, none⟩) [i, j] := LiesI.block r3
  refine (HEF.out W0 hb0 (some ⟨w.heap.size + 2, 0, none⟩) 2 hF0).mono ?_
  rw [HFE.out]
  rintro e w' ⟨rfl, x1, rfl⟩
  have r1 := heap_aft x1 (lt_of_get r1) r1
  have r2 := heap_aft x1 (lt_of_get r2) r2
  have hF1 := hF0.aft x1
  have hb1 := x1.below hb0 hb0.size
  clear r3 hb0 hF0 HEF
  generalize x1.val = W1 at *
  clear hF1
  have lz1 := lt_of_get r1
  have lz2 := lt_of_get r2
  have q1 := cell_block (i := 0) r1
  have f1 := free_block (i := 0) r1
  have q2 := cell_block (i := 0) r2
  have f2 := free_block (i := 0) r2
  simp at q1 q2
  go_wp2
  refine bodyPost_ret (v := .tuple #[.slice none 0 0, .int .i64 er]) (by simp [results, Tryd.results35, go_sem, q1, q2, f1, f2]; try rfl) rfl ?_
  exact ⟨rfl, (hb1.setCell (Nat.le_refl _) _).setCell (Nat.le_succ _) _⟩

set_option maxRecDepth 100000 in
set_option maxHeartbeats 1600000 in
theorem DifferenceOf_width (A : Option Addr) (cap : Nat) (ls : List Int) (hls : ls.length ≤ 65536) (N : Option Addr) (capN : Nat) (ns : List Nd) (hns : ns.length ≤ 65536) (hcap : ns.length ≤ capN) (hla : ∀ n ∈ ns, n.args.length ≤ 65536) (i j : Nat) (ni nj : Nd) (hi : ns[i]? = some ni) (hj : ns[j]? = some nj) (hwd : ni.wd ≠ nj.wd) (hc : (chk ls ns).2 = 0) (w : World) (hA : LiesI w A ls) (hN : LiesN w N ns) (ht : TabOps w) :
    Calls Tryd.prog 35 #[.slice A ls.length cap, .slice N ns.length capN, .int .i64 i, .int .i64 j] w fun e w' => e = .returned (.tuple #[.slice none 0 0, .int .i64 25]) ∧ Below w.heap.size w w' := by
  have hi' := (List.getElem?_eq_some_iff.1 hi).1
  have hj' := (List.getElem?_eq_some_iff.1 hj).1
  have HFE := Lib.hid (show fromE ls ns [(i : Int), (j : Int)] = 0 by
    unfold fromE thenE; rw [if_pos hc]; unfold argsE; rw [if_pos]; simp [isIx]; omega)
  have HN := Lib.hid hN
  have HEF := Lib.hid (fun (W : World) (hb : Below w.heap.size w W) F cf (hF : LiesI W F [(i : Int), (j : Int)]) => errorOfFrom_c A cap ls hls N capN ns hns hcap hla F cf [(i : Int), (j : Int)] (by simp) W (hA.below hb) (hN.below hb) hF (ht.below hb))
  have HCI := Lib.hid hi
  have HCJ := Lib.hid hj

  have d1 : (ni.wd == nj.wd) = false := by simpa using hwd
  have d2 : (ni.wd != nj.wd) = true := by simpa using hwd
  clear hA hN ht hla hcap hc hi hj hwd
  go_enter Tryd.func35, Tryd.ntmps35
  go_wp2_with fail
  have r1 : (((w.alloc (.cells #[.slice none 0 0] 22)).alloc (.cells #[.int .i64 0] 26)).alloc (.cells #[.int .i64 i, .int .i64 j] 3)).heap[w.heap.size]? = some (.cells #[.slice none 0 0] 22) := heap_alloc' (by simp; omega) (heap_alloc' (by simp) (heap_alloc_new _ _))
  have r2 : (((w.alloc (.cells #[.slice none 0 0] 22)).alloc (.cells #[.int .i64 0] 26)).alloc (.cells #[.int .i64 i, .int .i64 j] 3)).heap[w.heap.size + 1]? = some (.cells #[.int .i64 0] 26) := heap_alloc' (by simp) (heap_alloc_at (by simp))
  have r3 : (((w.alloc (.cells #[.slice none 0 0] 22)).alloc (.cells #[.int .i64 0] 26)).alloc (.cells #[.int .i64 i, .int .i64 j] 3)).heap[w.heap.size + 2]? = some (.cells #[.int .i64 i, .int .i64 j] 3) := heap_alloc_at (by simp)
  have hb0 : Below w.heap.size w (((w.alloc (.cells #[.slice none 0 0] 22)).alloc (.cells #[.int .i64 0] 26)).alloc (.cells #[.int .i64 i, .int .i64 j] 3)) := (((Below.refl _ _).alloc (Nat.le_refl _) _).alloc (by simp) _).alloc (by simp; omega) _
  generalize (((w.alloc (.cells #[.slice none 0 0] 22)).alloc (.cells #[.int .i64 0] 26)).alloc (.cells #[.int .i64 i, .int .i64 j] 3)) = W0 at *
  have hF0 : LiesI W0 (some ⟨w.heap.size + 2, 0, none⟩) [i, j] := LiesI.block r3
  refine (HEF.out W0 hb0 (some ⟨w.heap.size + 2, 0, none⟩) 2 hF0).mono ?_
  rw [HFE.out]
  rintro e w' ⟨rfl, x1, rfl⟩
  have r1 := heap_aft x1 (lt_of_get r1) r1
  have r2 := heap_aft x1 (lt_of_get r2) r2
  have hF1 := hF0.aft x1
  have hb1 := x1.below hb0 hb0.size
  clear r3 hb0 hF0 HEF
  generalize x1.val = W1 at *
  obtain ⟨ad, rfl, hbl, _, ci, _⟩ := HN.out.cells HCI.out
  obtain ⟨ad', had', _, _, cj, _⟩ := HN.out.cells HCJ.out
  injection had' with had'
  subst had'
  have di : ∀ z : Aft W1, z.val.cell? ⟨(ad.add (i * 4)).block, (ad.add (i * 4)).off + 1, none⟩ = some (.int .i64 ni.wd) := fun z => ((z.below hb1 hb1.size).cell (p := (ad.add (i * 4)).add 1) (by rw [addB, addB]; exact hbl)).trans ci
  have dj : ∀ z : Aft W1, z.val.cell? ⟨(ad.add (j * 4)).block, (ad.add (j * 4)).off + 1, none⟩ = some (.int .i64 nj.wd) := fun z => ((z.below hb1 hb1.size).cell (p := (ad.add (j * 4)).add 1) (by rw [addB, addB]; exact hbl)).trans cj
  have hij : (i : Int) < ns.length := by omega
  have hjj : (j : Int) < ns.length := by omega
  clear ci cj
  go_wp2_with fail
  refine wp_region_aft (by kernel_rfl) (by kernel_rfl) ?_
  repeat (go_big_quiet_step (fail))
  refine wpQuiet_nil ?_
  intro x2
  have r1 := heap_aft x2 (lt_of_get r1) r1
  have r2 := heap_aft x2 (lt_of_get r2) r2
  have hF2 := hF1.aft x2
  have hb2 := x2.below hb1 hb1.size
  clear di dj hF1 hb1
  generalize x2.val = W2 at *
  clear hF2
  have lz1 := lt_of_get r1
  have lz2 := lt_of_get r2
  have q1 := cell_block (i := 0) r1
  have f1 := free_block (i := 0) r1
  have q2 := cell_block (i := 0) r2
  have f2 := free_block (i := 0) r2
  simp at q1 q2
  go_wp2
  refine bodyPost_ret (v := .tuple #[.slice none 0 0, .int .i64 25]) (by simp [results, Tryd.results35, go_sem, q1, q2, f1, f2]; try rfl) rfl ?_
  exact ⟨rfl, (hb2.setCell (Nat.le_refl _) _).setCell (Nat.le_succ _) _⟩

set_option maxRecDepth 100000 in
set_option maxHeartbeats 1600000 in
theorem DifferenceOf_large (A : Option Addr) (cap : Nat) (ls : List Int) (hls : ls.length ≤ 65536) (N : Option Addr) (capN : Nat) (ns : List Nd) (hns : ns.length ≤ 65536) (hcap : ns.length ≤ capN) (hla : ∀ n ∈ ns, n.args.length ≤ 65536) (i j : Nat) (ni nj : Nd) (hi : ns[i]? = some ni) (hj : ns[j]? = some nj) (hwd : ni.wd = nj.wd) (hbit : 12 < bitsL ls ns [(i : Int), (j : Int)]) (hc : (chk ls ns).2 = 0) (w : World) (hA : LiesI w A ls) (hN : LiesN w N ns) (ht : TabOps w) :
    Calls Tryd.prog 35 #[.slice A ls.length cap, .slice N ns.length capN, .int .i64 i, .int .i64 j] w fun e w' => e = .returned (.tuple #[.slice none 0 0, .int .i64 8]) ∧ Below w.heap.size w w' := by
  have hi' := (List.getElem?_eq_some_iff.1 hi).1
  have hj' := (List.getElem?_eq_some_iff.1 hj).1
  have HFE := Lib.hid (show fromE ls ns [(i : Int), (j : Int)] = 0 by
    unfold fromE thenE; rw [if_pos hc]; unfold argsE; rw [if_pos]; simp [isIx]; omega)
  have HN := Lib.hid hN
  have HEF := Lib.hid (fun (W : World) (hb : Below w.heap.size w W) F cf (hF : LiesI W F [(i : Int), (j : Int)]) => errorOfFrom_c A cap ls hls N capN ns hns hcap hla F cf [(i : Int), (j : Int)] (by simp) W (hA.below hb) (hN.below hb) hF (ht.below hb))
  have HCI := Lib.hid hi
  have HCJ := Lib.hid hj

  have HBB := Lib.hid (fun (W : World) (hb : Below w.heap.size w W) F cf (hF : LiesI W F [(i : Int), (j : Int)]) => bitsBelow_c A cap ls hls (chk_ok hc).2.1 N capN ns hns (chk_nodes hc) F cf [(i : Int), (j : Int)] (by simp) (by intro x hx; simp at hx; rcases hx with rfl | rfl <;> exact isIx_true (by omega) (by omega)) W (hA.below hb) (hN.below hb) hF)
  obtain ⟨wi, hwi⟩ : ∃ wi, ni.wd = wi := ⟨_, rfl⟩
  have hwj : nj.wd = wi := by rw [← hwd]; exact hwi
  clear hA hN ht hla hcap hc hi hj hwd
  generalize hbb : bitsL ls ns [(i : Int), (j : Int)] = bb at *
  clear hbb
  go_enter Tryd.func35, Tryd.ntmps35
  go_wp2_with fail
  have r1 : (((w.alloc (.cells #[.slice none 0 0] 22)).alloc (.cells #[.int .i64 0] 26)).alloc (.cells #[.int .i64 i, .int .i64 j] 3)).heap[w.heap.size]? = some (.cells #[.slice none 0 0] 22) := heap_alloc' (by simp; omega) (heap_alloc' (by simp) (heap_alloc_new _ _))
  have r2 : (((w.alloc (.cells #[.slice none 0 0] 22)).alloc (.cells #[.int .i64 0] 26)).alloc (.cells #[.int .i64 i, .int .i64 j] 3)).heap[w.heap.size + 1]? = some (.cells #[.int .i64 0] 26) := heap_alloc' (by simp) (heap_alloc_at (by simp))
  have r3 : (((w.alloc (.cells #[.slice none 0 0] 22)).alloc (.cells #[.int .i64 0] 26)).alloc (.cells #[.int .i64 i, .int .i64 j] 3)).heap[w.heap.size + 2]? = some (.cells #[.int .i64 i, .int .i64 j] 3) := heap_alloc_at (by simp)
  have hb0 : Below w.heap.size w (((w.alloc (.cells #[.slice none 0 0] 22)).alloc (.cells #[.int .i64 0] 26)).alloc (.cells #[.int .i64 i, .int .i64 j] 3)) := (((Below.refl _ _).alloc (Nat.le_refl _) _).alloc (by simp) _).alloc (by simp; omega) _
  generalize (((w.alloc (.cells #[.slice none 0 0] 22)).alloc (.cells #[.int .i64 0] 26)).alloc (.cells #[.int .i64 i, .int .i64 j] 3)) = W0 at *
  have hF0 : LiesI W0 (some ⟨w.heap.size + 2, 0, none⟩) [i, j] := LiesI.block r3
  refine (HEF.out W0 hb0 (some ⟨w.heap.size + 2, 0, none⟩) 2 hF0).mono ?_
  rw [HFE.out]
  rintro e w' ⟨rfl, x1, rfl⟩
  have r1 := heap_aft x1 (lt_of_get r1) r1
  have r2 := heap_aft x1 (lt_of_get r2) r2
  have hF1 := hF0.aft x1
  have hb1 := x1.below hb0 hb0.size
  clear r3 hb0 hF0 HEF
  generalize x1.val = W1 at *
  obtain ⟨ad, rfl, hbl, _, ci, _⟩ := HN.out.cells HCI.out
  obtain ⟨ad', had', _, _, cj, _⟩ := HN.out.cells HCJ.out
  injection had' with had'
  subst had'
  have di : ∀ z : Aft W1, z.val.cell? ⟨(ad.add (i * 4)).block, (ad.add (i * 4)).off + 1, none⟩ = some (.int .i64 wi) := fun z => ((z.below hb1 hb1.size).cell (p := (ad.add (i * 4)).add 1) (by rw [addB, addB]; exact hbl)).trans (hwi ▸ ci)
  have dj : ∀ z : Aft W1, z.val.cell? ⟨(ad.add (j * 4)).block, (ad.add (j * 4)).off + 1, none⟩ = some (.int .i64 wi) := fun z => ((z.below hb1 hb1.size).cell (p := (ad.add (j * 4)).add 1) (by rw [addB, addB]; exact hbl)).trans (hwj ▸ cj)
  have hij : (i : Int) < ns.length := by omega
  have hjj : (j : Int) < ns.length := by omega
  clear ci cj
  go_wp2_with fail
  refine wp_region_aft (by kernel_rfl) (by kernel_rfl) ?_
  repeat (go_big_quiet_step (fail))
  refine wpQuiet_nil ?_
  intro x2
  have r1 := heap_aft x2 (lt_of_get r1) r1
  have r2 := heap_aft x2 (lt_of_get r2) r2
  have hF2 := hF1.aft x2
  have hb2 := x2.below hb1 hb1.size
  clear di dj hF1 hb1
  generalize x2.val = W2 at *
  go_wp2_with fail
  refine (HBB.out W2 hb2 _ 2 hF2).mono ?_
  rintro e w' ⟨rfl, x3, rfl⟩
  have r1 := heap_aft x3 (lt_of_get r1) r1
  have r2 := heap_aft x3 (lt_of_get r2) r2
  have hb3 := x3.below hb2 hb2.size
  clear hF2 hb2
  generalize x3.val = W3 at *
  have lz1 := lt_of_get r1
  have lz2 := lt_of_get r2
  have q1 := cell_block (i := 0) r1
  have f1 := free_block (i := 0) r1
  have q2 := cell_block (i := 0) r2
  have f2 := free_block (i := 0) r2
  simp at q1 q2
  go_wp2
  refine bodyPost_ret (v := .tuple #[.slice none 0 0, .int .i64 8]) (by simp [results, Tryd.results35, go_sem, q1, q2, f1, f2]; try rfl) rfl ?_
  exact ⟨rfl, (hb3.setCell (Nat.le_refl _) _).setCell (Nat.le_succ _) _⟩

end Go.Proofs.YtkdonapgonegkaaDoor

set_option linter.unusedSimpArgs false
set_option linter.unusedVariables false
namespace Go.Proofs.YtkdonapgonegkaaDoor
open Go.RowKit Go.BigFrame

theorem cho_lt {bs : List Bool} : ∀ m, (choK bs m).Pairwise (· < ·)
  | 0 => by simp [choK]
  | m + 1 => by
    simp only [choK]
    rw [List.pairwise_append]
    refine ⟨cho_lt m, by split <;> simp, fun a ha b hb => ?_⟩
    split at hb
    · simp at hb
      have := choK_mem m a ha
      omega
    · cases hb
theorem lb_asc (ns : List Nd) (fr : List Int) (L : Nat) : (lbL ns fr L).Pairwise (· < ·) := cho_lt _
theorem triD_set {ls used : List Int} {p : Nat} {v : Int} : ∀ (m : Nat) (row : List Int) (k : Int), (∀ x ∈ used.take m, x.toNat ≠ p) → m ≤ used.length → triD ls used m (row.set p v) k = (triD ls used m row k).set p v
  | 0, row, k, _, _ => rfl
  | m + 1, row, k, h, hm => by
    rw [triD, triD]
    have e : used.getD m 0 = used[m] := by simp [List.getD, List.getElem?_eq_getElem (show m < used.length by omega)]
    have ht : used.take (m + 1) = used.take m ++ [used[m]] := List.take_succ_eq_append_getElem (by omega)
    rw [e]
    have hin : ∀ x, x ∈ used.take m → x ∈ used.take (m + 1) := fun x hx => by rw [ht]; exact List.mem_append_left _ hx
    have hin2 : used[m] ∈ used.take (m + 1) := by rw [ht]; exact List.mem_append_right _ (List.mem_singleton.2 rfl)
    have hne : (used[m]).toNat ≠ p := h _ hin2
    rw [List.set_comm _ _ (Ne.symm hne)]
    exact triD_set m _ _ (fun x hx => h x (hin x hx)) (by omega)
/-- A row with the values of the first leaves that are used, by number. -/
def rowT (ls used : List Int) (m k : Nat) : List Int := triD ls used m (List.replicate ls.length 0) k
theorem rowT_len (ls used : List Int) (m k : Nat) : (rowT ls used m k).length = ls.length := by unfold rowT; rw [triD_len, List.length_replicate]
theorem rowT_next {ls used : List Int} {m k v W : Nat} {x : Int} (hp : used.Pairwise (· < ·)) (h0 : ∀ y ∈ used, 0 ≤ y) (hx : used[m]? = some x) (hW : pw (ls.getD x.toNat 0) = W) (hv : v < W) : rowT ls used (m + 1) (k * W + v) = (rowT ls used m k).set x.toNat (v : Int) := by
  have hm := (List.getElem?_eq_some_iff.1 hx).1
  have e : used.getD m 0 = x := by simp [List.getD, hx]
  unfold rowT
  rw [triD, e, hW]
  have h1 : (((k * W + v : Nat)) : Int) % (W : Int) = v := by
    rw [← Int.natCast_emod, Nat.mul_comm, Nat.mul_add_mod, Nat.mod_eq_of_lt hv]
  have h2 : (((k * W + v : Nat)) : Int) / (W : Int) = k := by
    rw [← Int.natCast_ediv, Nat.mul_comm, Nat.mul_add_div (by omega), Nat.div_eq_of_lt hv, Nat.add_zero]
  rw [h1, h2]
  refine triD_set m _ _ (fun y hy e2 => ?_) (by omega)
  have hlt : y < x := by
    obtain ⟨i, hi, rfl⟩ := List.mem_iff_getElem.1 hy
    rw [List.length_take] at hi
    have := (List.pairwise_iff_getElem.1 hp) i m (by omega) hm (by omega)
    rw [List.getElem_take]
    rw [List.getElem?_eq_getElem hm] at hx
    obtain rfl := Option.some.inj hx
    exact this
  have := h0 y (List.mem_of_mem_take hy)
  omega
/-- The first n of them. -/
def tabR (ls used : List Int) (m n : Nat) : List (List Int) := (List.range n).map (rowT ls used m)
theorem tabR_len (ls used : List Int) (m n : Nat) : (tabR ls used m n).length = n := by simp [tabR]
theorem tabR_at {ls used : List Int} {m n k : Nat} (h : k < n) : (tabR ls used m n)[k]? = some (rowT ls used m k) := by simp [tabR, h]
theorem tabR_snoc (ls used : List Int) (m n : Nat) : tabR ls used m (n + 1) = tabR ls used m n ++ [rowT ls used m n] := by simp [tabR, List.range_succ]
theorem tabR_one (ls used : List Int) : tabR ls used 0 1 = [List.replicate ls.length 0] := by simp [tabR, rowT, triD]

/-- A row, of the call's own, of rows of numbers that lie elsewhere. -/
structure RowsX (w : World) (base : Nat) (v : Value) (rows : List (List Int)) (xs : List Value) : Prop where
  own : w.ownsRow base 22 1 v rows.length xs
  lie : ∀ (i : Nat) (r : List Int), rows[i]? = some r → ∃ B c, xs[i]? = some (.slice B r.length c) ∧ LiesI w B r ∧ (∀ ad, B = some ad → some ad.block ≠ v.ownBlock)
theorem RowsX.below {w w' : World} {base : Nat} {v : Value} {rows : List (List Int)} {xs : List Value} (h : RowsX w base v rows xs) (hb : Below w.heap.size w w') : RowsX w' base v rows xs :=
  ⟨own_below h.own hb, fun i r hi => by obtain ⟨B, c, h1, h2, h3⟩ := h.lie i r hi; exact ⟨B, c, h1, h2.below hb, h3⟩⟩
theorem RowsX.nil (w : World) (base : Nat) : RowsX w base (.slice none 0 0) [] [] := ⟨World.ownsRow_nil _ _ _ _, fun i r hi => by simp at hi⟩
theorem RowsX.mono {w : World} {base base' : Nat} {v : Value} {rows : List (List Int)} {xs : List Value} (h : RowsX w base v rows xs) (hb : base' ≤ base) : RowsX w base' v rows xs := ⟨⟨h.own.1, h.own.2.imp id (fun ⟨g, cap, cur, h1, h2, h3⟩ => ⟨g, cap, cur, h1, Nat.le_trans hb h2, h3⟩)⟩, h.lie⟩
theorem RowsX.len {w : World} {base : Nat} {v : Value} {rows : List (List Int)} {xs : List Value} (h : RowsX w base v rows xs) : xs.length = rows.length := by have := h.own.1; omega
theorem LiesI.grownBy {w w' : World} {A : Option Addr} {r : List Int} {row : Option Nat} (h : LiesI w A r) (hg : w.grownBy w' row) (hne : ∀ ad, A = some ad → some ad.block ≠ row) : LiesI w' A r := fun hp => by
  obtain ⟨ad, rfl, hb, hc⟩ := h hp
  have hn := hne ad rfl
  exact ⟨ad, rfl, Nat.lt_of_lt_of_le hb hg.size, fun i x hi => hg.cell (hc i x hi) (by rw [addB]; exact hn)⟩
theorem RowsX.snoc {w w' : World} {base : Nat} {v v' : Value} {rows : List (List Int)} {xs : List Value} (h : RowsX w base v rows xs) {B : Option Addr} {r : List Int} {c : Nat} (hr : LiesI w B r) (hB : ∀ ad, B = some ad → some ad.block ≠ v.ownBlock ∧ ad.block < w.heap.size)
    (hlt : ∀ (i : Nat) (B' : Option Addr) (n c' : Nat), xs[i]? = some (.slice B' n c') → ∀ ad, B' = some ad → ad.block < w.heap.size)
    (ho : w'.ownsRow base 22 1 v' (rows.length + 1) (xs ++ [.slice B r.length c])) (hg : w.grownBy w' v.ownBlock) (hat : v'.ownBlock = v.ownBlock ∨ v'.ownBlock = some w.heap.size) : RowsX w' base v' (rows ++ [r]) (xs ++ [.slice B r.length c]) := by
  have hl := h.len
  have off : ∀ ad : Addr, some ad.block ≠ v.ownBlock → ad.block < w.heap.size → some ad.block ≠ v'.ownBlock := fun ad h1 h2 e => by
    rcases hat with e2 | e2
    · exact h1 (e.trans e2)
    · rw [e2] at e
      injection e with e
      omega
  refine ⟨by rw [List.length_append]; exact ho, fun i s hi => ?_⟩
  by_cases hir : i < rows.length
  · rw [List.getElem?_append_left hir] at hi
    obtain ⟨B', c', h1, h2, h3⟩ := h.lie i s hi
    refine ⟨B', c', by rw [List.getElem?_append_left (by omega)]; exact h1, h2.grownBy hg h3, fun ad e => off ad (h3 ad e) (hlt i B' _ c' h1 ad e)⟩
  · by_cases hie : i = rows.length
    · subst hie
      rw [List.getElem?_append_right (Nat.le_refl _), Nat.sub_self] at hi
      simp at hi
      subst hi
      exact ⟨B, c, by rw [List.getElem?_append_right (by omega)]; simp [hl], hr.grownBy hg (fun ad e => (hB ad e).1), fun ad e => off ad (hB ad e).1 (hB ad e).2⟩
    · rw [List.getElem?_eq_none (by rw [List.length_append]; simp; omega)] at hi
      cases hi
/-- All rows of a row lie below a bound. -/
def Bnd (w : World) (xs : List Value) : Prop := ∀ (i : Nat) (B' : Option Addr) (n c' : Nat), xs[i]? = some (.slice B' n c') → ∀ ad, B' = some ad → ad.block < w.heap.size
theorem Bnd.mono {w w' : World} {xs : List Value} (h : Bnd w xs) (hs : w.heap.size ≤ w'.heap.size) : Bnd w' xs := fun i B n c hi ad e => Nat.lt_of_lt_of_le (h i B n c hi ad e) hs
theorem Bnd.nil (w : World) : Bnd w [] := fun i B n c hi => by simp at hi
theorem Bnd.snoc {w : World} {xs : List Value} {B : Option Addr} {n c : Nat} (h : Bnd w xs) (hB : ∀ ad, B = some ad → ad.block < w.heap.size) : Bnd w (xs ++ [.slice B n c]) := fun i B' n' c' hi ad e => by
  by_cases hl : i < xs.length
  · rw [List.getElem?_append_left hl] at hi
    exact h i B' n' c' hi ad e
  · by_cases hle : i = xs.length
    · subst hle
      rw [List.getElem?_append_right (Nat.le_refl _), Nat.sub_self] at hi
      simp at hi
      obtain ⟨rfl, _, _⟩ := hi
      exact hB ad e
    · rw [List.getElem?_eq_none (by rw [List.length_append]; simp; omega)] at hi
      cases hi

def CopiedO (w : World) (ns : List Int) (e : Ending) (w' : World) : Prop := ∃ v, e = .returned v ∧ w'.ownsRow w.heap.size 3 1 v ns.length (ns.map (Value.int .i64)) ∧ Below w.heap.size w w'
set_option maxRecDepth 100000 in
set_option maxHeartbeats 1600000 in
theorem CopyIntsO_c (A : Option Addr) (cap : Nat) (ns : List Int) (w : World) (h : LiesI w A ns) (hA : ns.length = 0 → A = none ∧ cap = 0 ∨ ∃ ad, A = some ad) (h16 : ns.length ≤ 65536) :
    Calls Tryd.prog 11 #[.slice A ns.length cap] w (CopiedO w ns) := by
  obtain ⟨i0, hi, hz0, hz1, hz2⟩ := info_parts int_info
  have hown0 := World.ownsRow_lit (base := w.heap.size) (e := 3) (size := 1) w #[] 0 (Nat.le_refl _) (by unfold maxLen; omega) rfl
  have fin : ∀ (v' : Value) (w3 : World), w3.ownsRow w.heap.size 3 1 v' (0 + ns.length) ([] ++ ns.map (.int .i64)) → Ending.returned v' = .returned v' ∧ w3.ownsRow w.heap.size 3 1 v' ns.length (ns.map (.int .i64)) := by
    intro v' w3 ho
    rw [Nat.zero_add, List.nil_append] at ho
    exact ⟨rfl, ho⟩
  have HF := Lib.hid fin
  have HO : Hid (∀ u ∈ ns.map (Value.int .i64), u.oneCell' = true) := Lib.hid (by
    intro u hu
    obtain ⟨x, _, rfl⟩ := List.mem_map.1 hu
    rfl)
  have hm1 : 0 + ns.length ≤ maxLen := by unfold maxLen; omega
  have hm2 : (0 + ns.length) * 8 ≤ 140737488355328 := by omega
  have HL : Hid ((ns.map (Value.int .i64)).length = ns.length * 1) := Lib.hid (by simp)
  clear fin
  have way : ∀ ad : Addr, A = some ad → (0 < ns.length → ad.block < w.heap.size) → (∀ i x, ns[i]? = some x → w.cell? (ad.add i) = some (.int .i64 x)) →
      Calls Tryd.prog 11 #[.slice A ns.length cap] w (CopiedO w ns) := by
    rintro ad rfl hb hc
    have hcells : ∀ j u, (ns.map (Value.int .i64))[j]? = some u → (w.alloc (.cells #[] 3)).cell? (ad.add j) = some u := by
      intro j u hj
      rw [List.getElem?_map] at hj
      cases hx : ns[j]? with
      | none => rw [hx] at hj; cases hj
      | some x =>
        rw [hx] at hj
        injection hj with hj
        subst hj
        have hb' := hb (by have := (List.getElem?_eq_some_iff.1 hx).1; omega)
        rw [World.cell?_alloc_lt _ _ _ (by rw [addB]; exact hb')]
        exact hc j x hx
    have HC := Lib.hid hcells
    clear hcells hc h hA
    go_enter Tryd.func11, Tryd.ntmps11
    go_wp2_with (at_builtin; refine wpList_append_own _ rfl _ _ 22 rfl w.heap.size 3 i0 (.int .i64 0) 1 8 Tryd.underlying22 hi hz0 hz1 hz2 rfl (by decide) _ _ _ rfl hown0 ad ns.length cap (ns.map (.int .i64)) rfl HL.out HC.out HO.out hm1 hm2 (by simp) ?_; intro v' w3 hown' hgrow3 hnn)
    go_wp2
    go_ret
    obtain ⟨_, h2⟩ := HF.out v' w3 hown'
    refine ⟨v', rfl, h2, ((Below.refl _ _).alloc (Nat.le_refl _) _).grown hgrow3 (by simp) (fun q hq => ?_)⟩
    have hq' : some w.heap.size = some q := hq
    injection hq' with hq'
    omega
  by_cases h0 : 0 < ns.length
  · obtain ⟨ad, e, hb, hc⟩ := h h0
    exact way ad e (fun _ => hb) hc
  · rcases hA (by omega) with ⟨rfl, rfl⟩ | ⟨ad, e⟩
    · obtain rfl : ns = [] := List.eq_nil_of_length_eq_zero (by omega)
      have hown1 := hown0
      clear way hown0 HF HO HL h hA
      go_enter Tryd.func11, Tryd.ntmps11
      go_wp2_with (at_builtin; refine wpList_append_own_none rfl _ _ 22 rfl w.heap.size 3 i0 1 Tryd.underlying22 hi _ _ _ rfl hown1 rfl ?_)
      go_wp2
      go_ret
      exact ⟨_, rfl, hown1, (Below.refl _ _).alloc (Nat.le_refl _) _⟩
    · exact way ad e (fun h => absurd h h0) fun i p hp => by rw [List.getElem?_eq_none (by omega)] at hp; cases hp


end Go.Proofs.YtkdonapgonegkaaDoor

set_option linter.unusedSimpArgs false
set_option linter.unusedVariables false
namespace Go.Proofs.YtkdonapgonegkaaDoor
open Go.RowKit Go.BigFrame

theorem ints_info : (Tryd.prog.info? 22).map (fun i => (i.zero, i.size, i.bytes)) = some (some (.slice none 0 0), 1, 24) := by kernel_rfl
theorem sumK_mono {ls xs : List Int} (hl : ∀ x ∈ ls, isW x = true) {k : Nat} : ∀ {l : Nat}, k ≤ l → sumK ls xs k ≤ sumK ls xs l
  | 0, h => by obtain rfl : k = 0 := by omega
               exact Int.le_refl _
  | l + 1, h => by
    by_cases hk : k = l + 1
    · subst hk; exact Int.le_refl _
    · have ih := sumK_mono (xs := xs) hl (l := l) (k := k) (by omega)
      simp only [sumK]
      have : 0 ≤ ls.getD (xs.getD l 0).toNat 0 := by
        by_cases hx : (xs.getD l 0).toNat < ls.length
        · rw [List.getD_eq_getElem?_getD, List.getElem?_eq_getElem hx]
          have := isW_iff.1 (hl _ (List.getElem_mem hx))
          simp only [Option.getD_some]
          omega
        · rw [List.getD_eq_getElem?_getD, List.getElem?_eq_none (by omega)]
          exact Int.le_refl _
      omega
def TriesR (w : World) (ls used : List Int) (n : Nat) (e : Ending) (w' : World) : Prop := ∃ v xs, e = .returned v ∧ RowsX w' w.heap.size v (tabR ls used used.length n) xs ∧ Bnd w' xs ∧ Below w.heap.size w w'
theorem row_form {w : World} {base : Nat} {e : TypeId} {v : Value} {n : Nat} {xs : List Value} (h : w.ownsRow base e 1 v n xs) (hn : 0 < n) : ∃ g cap, v = .slice (some ⟨g, 0, none⟩) n cap ∧ base ≤ g := by
  rcases h.2 with ⟨_, h2⟩ | ⟨g, cap, cur, h1, h2, _⟩
  · omega
  · exact ⟨g, cap, h1, h2⟩

set_option maxRecDepth 100000 in
set_option maxHeartbeats 3200000 in
theorem Tries_c (A : Option Addr) (cap : Nat) (ls : List Int) (hls : ls.length ≤ 65536) (hw : ∀ x ∈ ls, isW x = true) (N : Option Addr) (capN : Nat) (ns : List Nd) (hns : ns.length ≤ 65536) (hall : ∀ k n, ns[k]? = some n → NodeOK ns ls.length k n) (F : Option Addr) (cf : Nat) (fr : List Int) (hfr : fr.length ≤ 65536) (hf : ∀ x ∈ fr, isIx x ns.length = true) (w : World) (hA : LiesI w A ls) (hN : LiesN w N ns) (hF : LiesI w F fr) (n0 : Nat) (hbit : bitsL ls ns fr ≤ 16) (hn0 : (n0 : Int) = pw (bitsL ls ns fr)) :
    Calls Tryd.prog 75 #[.slice A ls.length cap, .slice N ns.length capN, .slice F fr.length cf] w (TriesR w ls (lbL ns fr ls.length) n0) := by
  obtain ⟨i0, hi, hz0, hz1, hz2⟩ := info_parts int_info
  obtain ⟨i1, ji, jz0, jz1, jz2⟩ := info_parts ints_info
  have HLB := Lib.hid (baseLeavesBelow_c N capN ns hns ls.length hls hall F cf fr hfr hf w hN hF)
  have HA := Lib.hid hA
  have HW := Lib.hid hw
  have HBT := Lib.hid (show ∀ m : Nat, m ≤ (lbL ns fr ls.length).length → 0 ≤ sumK ls (lbL ns fr ls.length) m ∧ sumK ls (lbL ns fr ls.length) m ≤ 16 from fun m hm =>
    ⟨(sumK_bd hw m).1, Int.le_trans (sumK_mono hw hm) hbit⟩)
  have HN0 := Lib.hid (show (n0 : Int) = pw (sumK ls (lbL ns fr ls.length) (lbL ns fr ls.length).length) from hn0)
  have HMEM := Lib.hid (fun x (h : x ∈ lbL ns fr ls.length) => lbL_mem h)
  have HASC := Lib.hid (lb_asc ns fr ls.length)
  have hul : (lbL ns fr ls.length).length ≤ 65536 := Nat.le_trans lbL_len hls
  clear hA hN hF hall hf hw hbit hn0
  generalize lbL ns fr ls.length = used at *
  go_enter Tryd.func75, Tryd.ntmps75
  go_wp2_with fail
  refine HLB.out.mono ?_
  rintro e W1 ⟨M, cm, rfl, hM, hb1⟩
  have HM := Lib.hid hM
  have HB1 := Lib.hid hb1
  clear hM hb1 HLB
  go_wp2_with (refine wpList_make_full _ rfl _ _ 22 rfl W1.heap.size 3 i0 _ 1 Tryd.underlying22 hi hz0 hz1 .i64 .i64 _ _ ls.length rfl rfl rfl rfl (by rw [hz2]; omega) (by unfold maxLen; omega) (Nat.le_refl _) ?_; intro W2 hown hgr; have hb2 := (Below.refl W1.heap.size W1).grown hgr (Nat.le_refl _) (fun q hq => by cases hq); have rg : W2.heap[W1.heap.size]? = some (.cells (rowA (List.replicate ls.length 0)) 3) := (by have := row_block hown rfl; rwa [row_made] at this); clear hown hgr)
  have HST := Lib.hid (show RowsX (W2.alloc (.cells #[.slice (some ⟨W1.heap.size, 0, none⟩) ls.length ls.length] 22)) W1.heap.size (.slice (some ⟨W2.heap.size, 0, none⟩) 1 1) (tabR ls used 0 1) [.slice (some ⟨W1.heap.size, 0, none⟩) ls.length ls.length] ∧ Bnd (W2.alloc (.cells #[.slice (some ⟨W1.heap.size, 0, none⟩) ls.length ls.length] 22)) [.slice (some ⟨W1.heap.size, 0, none⟩) ls.length ls.length] ∧ Below W1.heap.size W1 (W2.alloc (.cells #[.slice (some ⟨W1.heap.size, 0, none⟩) ls.length ls.length] 22)) from by
    have lg := lt_of_get rg
    have hsz := hb2.size
    refine ⟨⟨?_, fun i r hi => ?_⟩, ?_, hb2.alloc hsz _⟩
    · rw [tabR_len]
      exact World.ownsRow_lit (base := W1.heap.size) (e := 22) (size := 1) W2 #[.slice (some ⟨W1.heap.size, 0, none⟩) ls.length ls.length] 1 hsz (by unfold maxLen; omega) rfl
    · rw [tabR_one] at hi
      match i, hi with
      | 0, hi =>
        simp at hi
        subst hi
        refine ⟨some ⟨W1.heap.size, 0, none⟩, ls.length, by simp, ?_, fun ad e => ?_⟩
        · exact (LiesI.block (ns := List.replicate ls.length 0) rg).below ((Below.refl _ _).alloc (Nat.le_refl _) _)
        · injection e with e
          subst e
          intro e2
          have : W1.heap.size = W2.heap.size := by simpa [Value.ownBlock] using e2
          omega
      | i + 1, hi => simp at hi
    · have h0 : Bnd (W2.alloc (.cells #[.slice (some ⟨W1.heap.size, 0, none⟩) ls.length ls.length] 22)) ([] ++ [.slice (some ⟨W1.heap.size, 0, none⟩) ls.length ls.length]) := (Bnd.nil _).snoc (fun ad e => by
        injection e with e
        subst e
        simp
        omega)
      exact h0)
  clear rg hb2
  go_wp2_with fail
  go_loopw [8, 9] (fun v8 v9 wr => ∃ (m n : Nat) (xs : List Value), m ≤ used.length ∧ v9 = .int .i64 m ∧ (n : Int) = pw (sumK ls used m) ∧ RowsX wr W1.heap.size v8 (tabR ls used m n) xs ∧ Bnd wr xs ∧ Below W1.heap.size W1 wr) (fun _ v9 _ => used.length - (intOf v9).toNat)
  case atStart => exact ⟨0, 1, _, by omega, rfl, rfl, HST.out.1, HST.out.2.1, HST.out.2.2⟩
  case round =>
    clear HST
    obtain ⟨m, n, xs, hm, rfl, hn, hR, hBd, hb⟩ := hrel
    by_cases hlt : m < used.length
    · have hmm : (m : Int) < used.length := by omega
      have HX := Lib.hid (List.getElem?_eq_getElem hlt)
      have HI := Lib.hid (HMEM.out _ (List.getElem_mem hlt))
      generalize used[m] = x at *
      obtain ⟨x0, x1⟩ := HI.out
      obtain ⟨p, rfl⟩ := Int.eq_ofNat_of_zero_le x0
      obtain ⟨am, rfl, ham, c0⟩ := HM.out.cell HX.out
      have hp : p < ls.length := by omega
      have HY := Lib.hid (List.getElem?_eq_getElem hp)
      have hiw := isW_iff.1 (HW.out _ (List.getElem_mem hp))
      have hsb := HBT.out m (by omega)
      have hsb1 := HBT.out (m + 1) (by omega)
      have HS : Hid (sumK ls used (m + 1) = sumK ls used m + ls[p]) := Lib.hid (by
        have e : used.getD m 0 = (p : Int) := by simp [List.getD, HX.out]
        have e2 : ls.getD ((p : Nat) : Int).toNat 0 = ls[p] := by simp [hp]
        simp only [sumK, e, e2])
      have HLP : Hid (ls.getD ((p : Nat) : Int).toNat 0 = ls[p]) := Lib.hid (by simp [hp])
      generalize ls[p] = u at *
      obtain ⟨aa, rfl, hal, c1⟩ := HA.out.cell HY.out
      obtain ⟨u1, u2⟩ := hiw
      have hpu := pw_bd (n := u) (by omega) u2
      obtain ⟨Wn, hWn⟩ := Int.eq_ofNat_of_zero_le (show 0 ≤ pw u by omega)
      have hnW : ((n * Wn : Nat) : Int) = pw (sumK ls used (m + 1)) := by rw [HS.out, pw_add hsb.1 (by omega), ← hn, hWn]; simp
      have hpn := pw_bd hsb.1 hsb.2
      have hpn1 := pw_bd hsb1.1 hsb1.2
      have hn1 : 1 ≤ n := by omega
      have hnWb : n * Wn ≤ 65536 := by omega
      have hnb : n ≤ 65536 := by omega
      have hWn1 : 1 ≤ Wn ∧ Wn ≤ 65536 := by omega
      have HPW := Lib.hid (fun (W : World) => Power_c u (by omega) (by omega) W)
      rw [hWn] at HPW
      have HWN := Lib.hid (show pw (ls.getD ((p : Nat) : Int).toNat 0) = Wn by rw [HLP.out]; exact hWn)
      have HNW := Lib.hid hnW
      clear hpu hnW hpn hpn1 hsb hsb1 hn hWn
      obtain ⟨g8, c8, rfl, hg8⟩ := row_form hR.own (by rw [tabR_len]; exact hn1)
      have HR0 := Lib.hid hR
      have hlR := hR.len
      rw [tabR_len] at hlR
      have HOU := Lib.hid (show ∀ (k : Nat) (W : World), k < n → Below wr.heap.size wr W → ∃ B c, W.cell? ⟨g8, k, none⟩ = some (.slice B ls.length c) ∧ LiesI W B (rowT ls used m k) from fun k W hk hbW => by
        obtain ⟨B, c, h1, h2, _⟩ := HR0.out.lie k _ (tabR_at hk)
        rw [rowT_len] at h1
        refine ⟨B, c, ?_, h2.below hbW⟩
        have hlt8 := (HR0.out.own.lt g8 rfl).2
        have h3 := HR0.out.own.cellAt k (by rw [tabR_len]; omega)
        rw [h1] at h3
        exact (hbW.cell (p := ⟨g8, k, none⟩) hlt8).trans h3)
      have HB := Lib.hid hb
      have HCL := Lib.hid (show ∀ W : World, Below wr.heap.size wr W → W.cell? (am.add m) = some (.int .i64 p) ∧ W.cell? (aa.add p) = some (.int .i64 u) from fun W hbW =>
        have hbw := HB.out.trans (hbW.mono HB.out.size)
        ⟨(hbw.cell (p := am.add m) (by rw [addB]; exact ham)).trans c0, ((HB1.out.trans (hbw.mono HB1.out.size)).cell (p := aa.add p) (by rw [addB]; exact hal)).trans c1⟩)
      have hppl : (p : Int) < ls.length := by omega
      rw [tabR_len] at *
      clear hR hBd hb c0 c1 HR0
      rename World => W0
      go_wp2_with fail
      go_loopw [10, 11] (fun v10 v11 w4 => ∃ (k : Nat) (ys : List Value), k ≤ n ∧ v11 = .int .i64 k ∧ RowsX w4 W0.heap.size v10 (tabR ls used (m + 1) (k * Wn)) ys ∧ Bnd w4 ys ∧ Below W0.heap.size W0 w4) (fun _ v11 _ => n - (intOf v11).toNat)
      case atStart => exact ⟨0, [], by omega, rfl, by rw [Nat.zero_mul]; exact RowsX.nil _ _, Bnd.nil _, Below.refl _ _⟩
      case round =>
        obtain ⟨k, ys, hk, rfl, hR4, hBd4, hb4⟩ := hrel
        by_cases hltk : k < n
        · have hkk : (k : Int) < n := by omega
          have HR4 := Lib.hid hR4
          have HBD4 := Lib.hid hBd4
          have HB4 := Lib.hid hb4
          clear hR4 hBd4 hb4
          go_wp2_with fail
          go_loopw [10, 12] (fun v10 v12 w5 => ∃ (v : Nat) (ys : List Value), v ≤ Wn ∧ v12 = .int .i64 v ∧ RowsX w5 W0.heap.size v10 (tabR ls used (m + 1) (k * Wn + v)) ys ∧ Bnd w5 ys ∧ Below W0.heap.size W0 w5) (fun _ v12 _ => Wn - (intOf v12).toNat)
          case atStart => exact ⟨0, _, by omega, rfl, HR4.out, HBD4.out, HB4.out⟩
          case round =>
            clear HR4 HBD4 HB4
            obtain ⟨v, ys, hv, rfl, hR5, hBd5, hb5⟩ := hrel
            obtain ⟨q0, q1⟩ := HCL.out _ hb5
            by_cases hltv : v < Wn
            · have hvv : (v : Int) < Wn := by omega
              obtain ⟨B, c, o0, hLB⟩ := HOU.out k _ hltk hb5
              obtain ⟨ab, rfl, _, _⟩ := hLB (by rw [rowT_len]; omega)
              have HCO := Lib.hid (CopyIntsO_c (some ab) c (rowT ls used m k) wr hLB (fun _ => .inr ⟨ab, rfl⟩) (by rw [rowT_len]; omega))
              rw [rowT_len] at HCO
              have HR5 := Lib.hid hR5
              have HBD5 := Lib.hid hBd5
              have hs5 := hb5.size
              clear hR5 hBd5 hLB
              go_wp2_with fail
              refine (HPW.out _).mono ?_
              rintro e w' ⟨rfl, rfl⟩
              go_wp2_with fail
              refine HCO.out.mono ?_
              rintro e w6 ⟨v13, rfl, ho6, hb6⟩
              rw [rowT_len] at ho6
              obtain ⟨g, c6, rfl, hg6⟩ := row_form ho6 (by omega)
              have hbw6 := hb5.trans (hb6.mono hb5.size)
              obtain ⟨r0, r1⟩ := HCL.out _ hbw6
              have lg6 := (ho6.lt g rfl).2
              have hpr : p < (rowT ls used m k).length := by rw [rowT_len]; exact hp
              have old : w6.cell? ⟨g, p, none⟩ = some (Value.int .i64 (rowT ls used m k)[p]) := by rw [ho6.cellAt p (by omega), List.getElem?_map, List.getElem?_eq_getElem hpr]; rfl
              have fz := ho6.frozenAt p
              have hst := ho6.stored p (.int .i64 v)
              have HL7 := Lib.hid (show LiesI (w6.setCell ⟨g, p, none⟩ (.int .i64 v)) (some ⟨g, 0, none⟩) (rowT ls used (m + 1) (k * Wn + v)) from by
                have e := rowT_next (k := k) HASC.out (fun y hy => (HMEM.out y hy).1) HX.out HWN.out hltv
                rw [Int.toNat_natCast] at e
                rw [e]
                have h1 := hst.1
                rw [← List.map_set] at h1
                have h2 : ((rowT ls used m k).set p (v : Int)).length = ls.length := by rw [List.length_set, rowT_len]
                rw [← h2] at h1
                exact LiesI.of_own h1)
              have HB7 := Lib.hid (show Below wr.heap.size wr (w6.setCell ⟨g, p, none⟩ (.int .i64 v)) from hb6.setCell hg6 _)
              generalize (rowT ls used m k)[p] = oldv at *
              clear hst ho6 hpr
              have hkv : k * Wn + v < 65536 := by
                have h1 : (k + 1) * Wn ≤ n * Wn := Nat.mul_le_mul_right _ hltk
                rw [Nat.add_mul, Nat.one_mul] at h1
                omega
              have hsz7 : wr.heap.size ≤ (w6.setCell ⟨g, p, none⟩ (.int .i64 v)).heap.size := HB7.out.size
              have hg7 : g < (w6.setCell ⟨g, p, none⟩ (.int .i64 v)).heap.size := by simpa using lg6
              have HG6 := Lib.hid hg6
              clear hbw6 hb6 lg6
              go_upto_region 15 with (fail)
              generalize w6.setCell ⟨g, p, none⟩ (.int .i64 v) = w7 at *
              go_wp2_with (at_builtin; refine wpList_append_own_at _ rfl _ _ 101 rfl W0.heap.size 22 i1 (.slice none 0 0) 1 24 Tryd.underlying101 ji jz0 jz1 jz2 rfl (by decide) _ _ _ rfl ((HR5.out.below HB7.out).own.alloc _) ⟨_, 0, none⟩ 1 1 [.slice (some ⟨g, 0, none⟩) ls.length c6] rfl rfl (cell_one_new _ _ _) (fun x hx => by simp at hx; subst hx; rfl) (by rw [tabR_len]; unfold maxLen; omega) (by rw [tabR_len]; omega) (by first | omega | (simp; omega) | (simp at *; omega)) ?_; intro v' w9 hown' hgrow hnn hat)
              have hal := (Below.refl w7.heap.size w7).alloc (Nat.le_refl _) (.cells #[.slice (some ⟨g, 0, none⟩) ls.length c6] 22)
              have HF := Lib.hid (show RowsX w9 W0.heap.size v' (tabR ls used (m + 1) (k * Wn + (v + 1))) (ys ++ [.slice (some ⟨g, 0, none⟩) ls.length c6]) from by
                rw [show k * Wn + (v + 1) = (k * Wn + v) + 1 by omega, tabR_snoc]
                have e := rowT_len ls used (m + 1) (k * Wn + v)
                rw [← e] at hown' ⊢
                refine RowsX.snoc ((HR5.out.below HB7.out).below hal) (HL7.out.below hal) (fun ad e => ?_) ((HBD5.out.mono HB7.out.size).mono hal.size) hown' hgrow hat
                injection e with e
                subst e
                refine ⟨fun e2 => ?_, by simp; omega⟩
                have k1 := (HR5.out.own.lt _ e2.symm).2
                have k2 := HG6.out
                (try simp at k1)
                omega)
              have HBD := Lib.hid (show Bnd w9 (ys ++ [.slice (some ⟨g, 0, none⟩) ls.length c6]) from
                (((HBD5.out.mono HB7.out.size).mono hal.size).snoc (fun ad e => by injection e with e; subst e; simp at hg7 ⊢; omega)).mono hgrow.size)
              have HB9 := Lib.hid (show Below W0.heap.size W0 w9 from ((hb5.trans (HB7.out.mono hs5)).trans (hal.mono (Nat.le_trans hs5 hsz7))).grown hgrow (Nat.le_trans (Nat.le_trans hs5 hsz7) hal.size) (fun q hq => (HR5.out.own.lt q hq).1))
              clear hown' hgrow hat hnn hal
              go_wp2
              go_roundw
              case rel => exact ⟨v + 1, _, by omega, by go_num, HF.out, HBD.out, HB9.out⟩
              case measure => simp [intOf]; omega
            · obtain rfl : v = Wn := by omega
              have HF := Lib.hid (show RowsX wr W0.heap.size u10 (tabR ls used (m + 1) ((k + 1) * v)) ys from by rw [Nat.add_mul, Nat.one_mul]; exact hR5)
              have HBD5 := Lib.hid hBd5
              have HB5 := Lib.hid hb5
              clear hR5 hBd5 hb5
              go_wp2_with (go_at_call 41; refine (HPW.out _).mono ?_; rintro e w' ⟨rfl, rfl⟩)
              go_roundw
              case rel => exact ⟨k + 1, _, by omega, by go_num, HF.out, HBD5.out, HB5.out⟩
              case measure => simp [intOf]; omega
        · obtain rfl : k = n := by omega
          have HF := Lib.hid (hR4.mono (HB.out.size))
          have HBD4 := Lib.hid hBd4
          have HBW := Lib.hid (HB.out.trans (hb4.mono HB.out.size))
          clear hR4 hBd4 hb4
          go_wp2
          go_roundw
          case rel => exact ⟨m + 1, k * Wn, _, by omega, by go_num, HNW.out, HF.out, HBD4.out, HBW.out⟩
          case measure => simp [intOf]; omega
    · obtain rfl : m = used.length := by omega
      have e : n = n0 := by have := HN0.out; omega
      subst e
      have HF := Lib.hid (show TriesR w ls used n (.returned u8) wr from ⟨_, xs, rfl, hR.mono HB1.out.size, hBd, HB1.out.trans (hb.mono HB1.out.size)⟩)
      clear hR hBd hb
      go_wp2
      go_ret
      exact HF.out

end Go.Proofs.YtkdonapgonegkaaDoor

set_option linter.unusedSimpArgs false
set_option linter.unusedVariables false
namespace Go.Proofs.YtkdonapgonegkaaDoor
open Go.RowKit Go.BigFrame

set_option maxRecDepth 100000 in
set_option maxHeartbeats 1600000 in
theorem nodeErrX_15 (A : Option Addr) (cap : Nat) (ls : List Int) (hls : ls.length ≤ 65536) (ad : Addr) (capN : Nat) (ns : List Nd) (hns : ns.length ≤ 65536) (i : Nat) (op wd v : Int) (args : List Int) (hi : ns[i]? = some ⟨op, wd, args, v⟩) (w : World) (hA : LiesI w A ls) (hN : LiesN w (some ad) ns) (h1 : isIx op 19 = false) :
    Calls Tryd.prog 84 #[.slice A ls.length cap, .slice (some ad) ns.length capN, .int .i64 i] w fun e w' => e = .returned (.int .i64 (nodeE ls (ns.take i) ⟨op, wd, args, v⟩)) ∧ ∃ x : Aft w, w' = x.val := by
  obtain ⟨ad', had, hbk, c0, c1, c3, B, bc, c2, hB⟩ := hN.cells hi
  obtain rfl : ad = ad' := Option.some.inj had
  have hil := (List.getElem?_eq_some_iff.1 hi).1
  have hik : (i : Int) < ns.length := by omega
  have c1' : w.cell? ⟨(ad.add (i * 4)).block, (ad.add (i * 4)).off + 1, none⟩ = some (.int .i64 wd) := c1
  have c2' : w.cell? ⟨(ad.add (i * 4)).block, (ad.add (i * 4)).off + 2, none⟩ = some (.slice B args.length bc) := c2
  have c3' : w.cell? ⟨(ad.add (i * 4)).block, (ad.add (i * 4)).off + 3, none⟩ = some (.int .i64 v) := c3
  have hlk : (ns.take i).length = i := by simp; omega
  clear c1 c2 c3 had
  have HR := Lib.hid (nodeE_15 (ls := ls) (before := ns.take i) (n := ⟨op, wd, args, v⟩) h1)
  have HI := Lib.hid (fun w => by have k := Within_c op 0 18 w; rw [show win op 0 18 = false by rw [← h1]; exact (isIx_win op 19).symm] at k; exact k)
  clear hA hN hB h1 hi hlk
  go_enter Tryd.func84, Tryd.ntmps84
  go_wp2_with (first | (go_at_call 31; ((with_reducible refine (HI.out _).mono ?_); rintro e w' ⟨rfl, rfl⟩)))
  go_ret
  exact ⟨retI HR.out.symm, Below.aft (by (repeat' (first | (with_reducible exact Below.refl _ _) | (with_reducible assumption) | (with_reducible refine Below.alloc ?_ ?_ _) | (with_reducible refine Below.drew ?_) | (with_reducible refine Aft.below _ ?_ ?_) | (with_reducible refine Below.setCell_new ?_ ?_ _ _) | (with_reducible exact Nat.le_refl _) | (with_reducible refine Aft.le _ ?_) | (with_reducible refine le_alloc ?_) | (with_reducible refine le_drew ?_) | (with_reducible refine le_setCell ?_) | omega)))⟩


set_option maxRecDepth 100000 in
set_option maxHeartbeats 1600000 in
theorem nodeErrX_2 (A : Option Addr) (cap : Nat) (ls : List Int) (hls : ls.length ≤ 65536) (ad : Addr) (capN : Nat) (ns : List Nd) (hns : ns.length ≤ 65536) (i : Nat) (op wd v : Int) (args : List Int) (hi : ns[i]? = some ⟨op, wd, args, v⟩) (w : World) (hA : LiesI w A ls) (hN : LiesN w (some ad) ns) (h1 : isIx op 19 = true) (h2 : isW wd = false) :
    Calls Tryd.prog 84 #[.slice A ls.length cap, .slice (some ad) ns.length capN, .int .i64 i] w fun e w' => e = .returned (.int .i64 (nodeE ls (ns.take i) ⟨op, wd, args, v⟩)) ∧ ∃ x : Aft w, w' = x.val := by
  obtain ⟨ad', had, hbk, c0, c1, c3, B, bc, c2, hB⟩ := hN.cells hi
  obtain rfl : ad = ad' := Option.some.inj had
  have hil := (List.getElem?_eq_some_iff.1 hi).1
  have hik : (i : Int) < ns.length := by omega
  have c1' : w.cell? ⟨(ad.add (i * 4)).block, (ad.add (i * 4)).off + 1, none⟩ = some (.int .i64 wd) := c1
  have c2' : w.cell? ⟨(ad.add (i * 4)).block, (ad.add (i * 4)).off + 2, none⟩ = some (.slice B args.length bc) := c2
  have c3' : w.cell? ⟨(ad.add (i * 4)).block, (ad.add (i * 4)).off + 3, none⟩ = some (.int .i64 v) := c3
  have hlk : (ns.take i).length = i := by simp; omega
  clear c1 c2 c3 had
  have HR := Lib.hid (nodeE_2 (ls := ls) (before := ns.take i) (n := ⟨op, wd, args, v⟩) h1 h2)
  have HI := Lib.hid (fun w => by have k := Within_c op 0 18 w; rw [show win op 0 18 = true by rw [← h1]; exact (isIx_win op 19).symm] at k; exact k)
  have HW := Lib.hid (fun w => by have k := IsWidth_c wd w; rw [h2] at k; exact k)
  clear hA hN hB h1 h2 hi hlk
  go_enter Tryd.func84, Tryd.ntmps84
  go_wp2_with (first | (go_at_call 31; ((with_reducible refine (HI.out _).mono ?_); rintro e w' ⟨rfl, rfl⟩)) | (go_at_call 52; ((with_reducible refine (HW.out _).mono ?_); rintro e w' ⟨rfl, rfl⟩)))
  go_ret
  exact ⟨retI HR.out.symm, Below.aft (by (repeat' (first | (with_reducible exact Below.refl _ _) | (with_reducible assumption) | (with_reducible refine Below.alloc ?_ ?_ _) | (with_reducible refine Below.drew ?_) | (with_reducible refine Aft.below _ ?_ ?_) | (with_reducible refine Below.setCell_new ?_ ?_ _ _) | (with_reducible exact Nat.le_refl _) | (with_reducible refine Aft.le _ ?_) | (with_reducible refine le_alloc ?_) | (with_reducible refine le_drew ?_) | (with_reducible refine le_setCell ?_) | omega)))⟩


set_option maxRecDepth 100000 in
set_option maxHeartbeats 1600000 in
theorem nodeErrX_10 (A : Option Addr) (cap : Nat) (ls : List Int) (hls : ls.length ≤ 65536) (ad : Addr) (capN : Nat) (ns : List Nd) (hns : ns.length ≤ 65536) (i : Nat) (op wd v : Int) (args : List Int) (hi : ns[i]? = some ⟨op, wd, args, v⟩) (w : World) (hA : LiesI w A ls) (hN : LiesN w (some ad) ns) (h1 : isIx op 19 = true) (h2 : isW wd = true) (h3 : ¬ (args.length : Int) = argN op) :
    Calls Tryd.prog 84 #[.slice A ls.length cap, .slice (some ad) ns.length capN, .int .i64 i] w fun e w' => e = .returned (.int .i64 (nodeE ls (ns.take i) ⟨op, wd, args, v⟩)) ∧ ∃ x : Aft w, w' = x.val := by
  obtain ⟨ad', had, hbk, c0, c1, c3, B, bc, c2, hB⟩ := hN.cells hi
  obtain rfl : ad = ad' := Option.some.inj had
  have hil := (List.getElem?_eq_some_iff.1 hi).1
  have hik : (i : Int) < ns.length := by omega
  have c1' : w.cell? ⟨(ad.add (i * 4)).block, (ad.add (i * 4)).off + 1, none⟩ = some (.int .i64 wd) := c1
  have c2' : w.cell? ⟨(ad.add (i * 4)).block, (ad.add (i * 4)).off + 2, none⟩ = some (.slice B args.length bc) := c2
  have c3' : w.cell? ⟨(ad.add (i * 4)).block, (ad.add (i * 4)).off + 3, none⟩ = some (.int .i64 v) := c3
  have hlk : (ns.take i).length = i := by simp; omega
  clear c1 c2 c3 had
  have HR := Lib.hid (nodeR_10 (ls := ls) (before := ns.take i) (v := v) h1 h2 h3)
  have HI := Lib.hid (fun w => by have k := Within_c op 0 18 w; rw [show win op 0 18 = true by rw [← h1]; exact (isIx_win op 19).symm] at k; exact k)
  have HW := Lib.hid (fun w => by have k := IsWidth_c wd w; rw [h2] at k; exact k)
  have n3 : ((args.length : Int) == argN op) = false := by simpa using h3
  clear hA hN hB h1 h2 hi hlk h3
  go_enter Tryd.func84, Tryd.ntmps84
  go_wp2_with (first | (go_at_call 31; ((with_reducible refine (HI.out _).mono ?_); rintro e w' ⟨rfl, rfl⟩)) | (go_at_call 52; ((with_reducible refine (HW.out _).mono ?_); rintro e w' ⟨rfl, rfl⟩)))
  have r0 : (w.alloc (.cells #[.int .i64 op, .int .i64 wd, .slice B args.length bc, .int .i64 v] 65)).heap[w.heap.size]? = some (.cells #[.int .i64 op, .int .i64 wd, .slice B args.length bc, .int .i64 v] 65) := heap_alloc_new _ _
  have z0 : w.heap.size < (w.alloc (.cells #[.int .i64 op, .int .i64 wd, .slice B args.length bc, .int .i64 v] 65)).heap.size := by simp
  have hb0 : Below w.heap.size w (w.alloc (.cells #[.int .i64 op, .int .i64 wd, .slice B args.length bc, .int .i64 v] 65)) := (Below.refl _ _).alloc (Nat.le_refl _) _
  generalize (w.alloc (.cells #[.int .i64 op, .int .i64 wd, .slice B args.length bc, .int .i64 v] 65)) = W0 at *
  have q0 := cell_block (i := 0) r0
  have q1 := cell_block (i := 1) r0
  have q2 := cell_block (i := 2) r0
  have q3 := cell_block (i := 3) r0
  simp at q0 q1 q2 q3
  refine wp_region_aft (by kernel_rfl) (by kernel_rfl) ?_
  repeat (go_big_quiet_step ((go_at_call 102; exact Calls.qs (ArgCount_c _ _))))
  refine wpQuiet_nil ?_
  intro y
  go_wp2
  go_ret
  exact ⟨retI HR.out.symm, Below.aft (y.below hb0 hb0.size)⟩


set_option maxRecDepth 100000 in
set_option maxHeartbeats 1600000 in
theorem nodeErrX_c (A : Option Addr) (cap : Nat) (ls : List Int) (hls : ls.length ≤ 65536) (ad : Addr) (capN : Nat) (ns : List Nd) (hns : ns.length ≤ 65536) (i : Nat) (op wd v : Int) (args : List Int) (hi : ns[i]? = some ⟨op, wd, args, v⟩) (w : World) (hA : LiesI w A ls) (hN : LiesN w (some ad) ns) (hv : ∀ n ∈ ns.take i, isW n.wd = true) :
    Calls Tryd.prog 84 #[.slice A ls.length cap, .slice (some ad) ns.length capN, .int .i64 i] w fun e w' => e = .returned (.int .i64 (nodeE ls (ns.take i) ⟨op, wd, args, v⟩)) ∧ ∃ x : Aft w, w' = x.val := by
  by_cases hla : args.length ≤ 65536
  · exact nodeErr_c A cap ls hls ad capN ns hns i op wd v args hla hi w hA hN hv
  cases h1 : isIx op 19
  · exact nodeErrX_15 A cap ls hls ad capN ns hns i op wd v args hi w hA hN h1
  cases h2 : isW wd
  · exact nodeErrX_2 A cap ls hls ad capN ns hns i op wd v args hi w hA hN h1 h2
  have h3 : ¬ (args.length : Int) = argN op := by
    unfold argN
    repeat' split
    all_goals omega
  exact nodeErrX_10 A cap ls hls ad capN ns hns i op wd v args hi w hA hN h1 h2 h3

set_option maxRecDepth 100000 in
set_option maxHeartbeats 1600000 in
theorem NodesErrX_c (A : Option Addr) (cap : Nat) (ls : List Int) (hls : ls.length ≤ 65536) (N : Option Addr) (capN : Nat) (ns : List Nd) (hns : ns.length ≤ 65536) (w : World) (hA : LiesI w A ls) (hN : LiesN w N ns) :
    Calls Tryd.prog 53 #[.slice A ls.length cap, .slice N ns.length capN] w fun e w' => e = .returned (.tuple #[.int .i64 (nErr ls ns).1, .int .i64 (nErr ls ns).2]) ∧ ∃ x : Aft w, w' = x.val := by
  by_cases h4 : 400 < ns.length
  · have h400 : (400 : Int) < ns.length := by omega
    have HR := Lib.hid (show nErr ls ns = (0, 8) from if_pos h4)
    clear hA hN h4
    go_enter Tryd.func53, Tryd.ntmps53
    go_wp2
    go_ret2
    exact ⟨tupII (by rw [HR.out]) (by rw [HR.out]), Below.aft (Below.refl _ _)⟩
  have h400 : ¬ (400 : Int) < ns.length := by omega
  have HR := Lib.hid (show nErr ls ns = firstAt (nodesE ls ns) ns.length 0 from if_neg h4)
  have HCl := Lib.hid (fun (k : Nat) (x : Nd) (hx : ns[k]? = some x) (ad : Addr) (had : N = some ad) (hv : ∀ n ∈ ns.take k, isW n.wd = true) (W : World) (hb : Below w.heap.size w W) => show Calls Tryd.prog 84 #[.slice A ls.length cap, .slice (some ad) ns.length capN, .int .i64 k] W (fun e w' => e = .returned (.int .i64 (nodeE ls (ns.take k) x)) ∧ ∃ z : Aft W, w' = z.val) from
    nodeErrX_c A cap ls hls ad capN ns hns k x.op x.wd x.v x.args hx W (hA.below hb) (had ▸ hN.below hb) hv)
  have HH := Lib.hid hN
  clear hN hA h4
  go_enter Tryd.func53, Tryd.ntmps53
  go_wp2
  go_loopw [6] (fun v6 wr => ∃ k : Nat, k ≤ ns.length ∧ v6 = .int .i64 k ∧ firstAt (nodesE ls ns) ns.length 0 = firstAt (nodesE ls ns) (ns.length - k) k ∧ (∀ x ∈ ns.take k, isW x.wd = true) ∧ Below w.heap.size w wr) (fun v6 _ => ns.length - (intOf v6).toNat)
  case atStart => exact ⟨0, by omega, rfl, rfl, by simp, Below.refl _ _⟩
  case round =>
    obtain ⟨k, hk, rfl, hf, hv, hb⟩ := hrel
    have HF := Lib.hid hf
    have HB := Lib.hid hb
    have HV := Lib.hid hv
    clear hf hb hv
    by_cases hlt : k < ns.length
    · have hkk : (k : Int) < ns.length := by omega
      have HX := Lib.hid (List.getElem?_eq_getElem hlt)
      generalize ns[k] = x at *
      obtain ⟨ad, rfl, _⟩ := HH.out.cells HX.out
      have HE := Lib.hid (nodesE_at (ls := ls) HX.out)
      go_wp2_with fail
      refine (HCl.out k x HX.out ad rfl HV.out _ HB.out).mono ?_
      rintro e w' ⟨rfl, y, rfl⟩
      have hby : Below w.heap.size w y.val := y.below HB.out HB.out.size
      have HY := Lib.hid hby
      clear hby
      by_cases hz : nodeE ls (ns.take k) x = 0
      · have hn := Lib.hid (firstAt_go hlt (HE.out.trans hz))
        have HW := Lib.hid (take_more HX.out HV.out (nodeE_wd hz))
        rw [hz]
        clear hz
        go_wp2
        go_roundw
        case rel => exact ⟨k + 1, by omega, by go_num, HF.out.trans hn.out, HW.out, HY.out⟩
        case measure => simp [intOf]; omega
      · have hn := Lib.hid (firstAt_stop hlt (show ¬ nodesE ls ns k = 0 by rw [HE.out]; exact hz))
        have n1 : (nodeE ls (ns.take k) x == 0) = false := by simpa using hz
        have n2 : (nodeE ls (ns.take k) x != 0) = true := by simpa using hz
        clear hz
        generalize nodeE ls (ns.take k) x = er at *
        go_wp2
        go_ret2
        exact ⟨tupII (by rw [HR.out, HF.out, hn.out]) (by rw [HR.out, HF.out, hn.out, HE.out]), Below.aft HY.out⟩
    · have hn := Lib.hid (firstAt_end (f := nodesE ls ns) (n := ns.length) (k := k) (by omega))
      go_wp2
      go_ret2
      exact ⟨tupII (by rw [HR.out, HF.out, hn.out]) (by rw [HR.out, HF.out, hn.out]), Below.aft HB.out⟩


set_option maxRecDepth 100000 in
set_option maxHeartbeats 1600000 in
theorem refCheckNodesX_c (A : Option Addr) (cap : Nat) (ls : List Int) (N : Option Addr) (capN : Nat) (ns : List Nd) (hns : ns.length ≤ 65536) (w : World) (hA : LiesI w A ls) (hN : LiesN w N ns) :
    Calls Tryd.prog 13 #[.slice A ls.length cap, .slice N ns.length capN] w fun e w' => e = .returned (.tuple #[.int .i64 (chk ls ns).1, .int .i64 (chk ls ns).2]) ∧ ∃ x : Aft w, w' = x.val := by
  by_cases hA40 : 40 < ls.length
  · have h40 : (40 : Int) < ls.length := by omega
    have HR := Lib.hid (show chk ls ns = (0, 8) from if_pos hA40)
    clear hA hN hA40
    go_enter Tryd.func13, Tryd.ntmps13
    go_wp2
    go_ret2
    exact ⟨tupII (by rw [HR.out]) (by rw [HR.out]), Below.aft (Below.refl _ _)⟩
  have h40 : ¬ (40 : Int) < ls.length := by omega
  have hls : ls.length ≤ 65536 := by omega
  have HN := Lib.hid (NodesErrX_c A cap ls hls N capN ns hns w hA hN)
  have HH := Lib.hid hA
  have H4 := Lib.hid hA40
  clear hN hA hA40
  go_enter Tryd.func13, Tryd.ntmps13
  go_wp2
  go_loop [6] (fun v6 => ∃ k : Nat, k ≤ ls.length ∧ v6 = .int .i64 k ∧ firstAt (leafE ls) ls.length 0 = firstAt (leafE ls) (ls.length - k) k) (fun v6 => ls.length - (intOf v6).toNat)
  case atStart => exact ⟨0, by omega, rfl, rfl⟩
  case round =>
    obtain ⟨k, hk, rfl, hf⟩ := hrel
    have HF := Lib.hid hf
    clear hf
    by_cases hlt : k < ls.length
    · have hkk : (k : Int) < ls.length := by omega
      have HX := Lib.hid (List.getElem?_eq_getElem hlt)
      generalize ls[k] = x at *
      obtain ⟨al, rfl, hbl, c⟩ := HH.out.cell HX.out
      have HE := Lib.hid (leafE_at HX.out)
      cases hx : isW x
      · have HW := Lib.hid (fun w => by have kk := IsWidth_c x w; rw [hx] at kk; exact kk)
        have he : leafE ls k = 2 := by rw [HE.out, hx]; rfl
        have hn := firstAt_stop hlt (show ¬ leafE ls k = 0 by rw [he]; decide)
        have HR := Lib.hid (show chk ls ns = ((k : Int), 2) by unfold chk; rw [if_neg H4.out, HF.out, hn, he, if_neg (by simp)])
        clear hx he hn
        go_wp2_with (go_at_call 52; ((with_reducible refine (HW.out _).mono ?_); rintro e w' ⟨rfl, rfl⟩))
        go_ret2
        exact ⟨tupII (by rw [HR.out]) (by rw [HR.out]), Below.aft (Below.refl _ _)⟩
      · have HW := Lib.hid (fun w => by have kk := IsWidth_c x w; rw [hx] at kk; exact kk)
        have hn := Lib.hid (firstAt_go hlt (show leafE ls k = 0 by rw [HE.out, hx]; rfl))
        clear hx
        go_wp2_with (go_at_call 52; ((with_reducible refine (HW.out _).mono ?_); rintro e w' ⟨rfl, rfl⟩))
        go_round
        case rel => exact ⟨k + 1, by omega, by go_num, HF.out.trans hn.out⟩
        case measure => simp [intOf]; omega
    · have hn := firstAt_end (f := leafE ls) (n := ls.length) (k := k) (by omega)
      have HR := Lib.hid (show chk ls ns = nErr ls ns by unfold chk; rw [if_neg H4.out, HF.out, hn, if_pos rfl]; rfl)
      clear hn
      go_wp2_with fail
      refine HN.out.mono ?_
      rintro e w' ⟨rfl, y, rfl⟩
      go_wp2
      go_ret2
      exact ⟨tupII (by rw [HR.out]) (by rw [HR.out]), Below.aft y.pf⟩


set_option maxRecDepth 100000 in
set_option maxHeartbeats 1600000 in
theorem refNodesErrX_c (A : Option Addr) (cap : Nat) (ls : List Int) (N : Option Addr) (capN : Nat) (ns : List Nd) (hns : ns.length ≤ 65536) (w : World) (hA : LiesI w A ls) (hN : LiesN w N ns) :
    Calls Tryd.prog 18 #[.slice A ls.length cap, .slice N ns.length capN] w fun e w' => e = .returned (.int .i64 (chk ls ns).2) ∧ ∃ x : Aft w, w' = x.val := by
  have HC := Lib.hid (refCheckNodesX_c A cap ls N capN ns hns w hA hN)
  clear hA hN
  go_enter Tryd.func18, Tryd.ntmps18
  go_wp2_with fail
  refine HC.out.mono ?_
  rintro e w' ⟨rfl, y, rfl⟩
  go_wp2
  go_ret
  exact ⟨rfl, y, rfl⟩


end Go.Proofs.YtkdonapgonegkaaDoor

set_option linter.unusedSimpArgs false
set_option linter.unusedVariables false
namespace Go.Proofs.YtkdonapgonegkaaDoor
open Go.RowKit Go.BigFrame

theorem firstAt_none {f : Nat → Int} : ∀ (n k : Nat), (∀ i, k ≤ i → i < k + n → f i = 0) → (firstAt f n k).2 = 0
  | 0, k, _ => rfl
  | n + 1, k, h => by
    unfold firstAt
    rw [if_pos (h k (Nat.le_refl _) (by omega))]
    exact firstAt_none n (k + 1) (fun i h1 h2 => h i (by omega) (by omega))
theorem FitV.val {ls us : List Int} (h : FitV ls us) : valE ls us = 0 := by
  unfold valE
  rw [if_pos h.1]
  refine firstAt_none _ _ fun i _ hi => ?_
  have h1 : i < us.length := by omega
  have hx := List.getElem?_eq_getElem h1
  have hy := List.getElem?_eq_getElem (l := ls) (i := i) (by have := h.1; omega)
  have := h.2 i _ _ hx hy
  rw [valK_at hx hy]
  unfold isV eIf
  simp
  omega
theorem triV_fit (ls : List Int) (ns : List Nd) (fr : List Int) (k : Nat) : FitV ls (triV ls ns fr k) := triL_fit (fun x hx => lbL_mem hx) _
end Go.Proofs.YtkdonapgonegkaaDoor
