/-
  Chapter 1, strings: plain lemmas of digits, cuts and numbers (no Go text).
-/
import Derived.Test.YtlplphigjejahaaDoorSc
set_option linter.unusedSimpArgs false
set_option linter.unusedVariables false
namespace Go.Proofs.YtlplphigjejahaaDoor

/-- A digit's byte. -/
def dgB (d : Nat) : UInt8 := if d < 10 then UInt8.ofNat (48 + d) else UInt8.ofNat (87 + d)
theorem dgB_nat {d : Nat} (h : d < 16) : (dgB d).toNat = if d < 10 then 48 + d else 87 + d := by
  unfold dgB; split <;> simp [UInt8.toNat_ofNat'] <;> omega
theorem digI_dgB {d : Nat} (h : d < 16) : digI ((dgB d).toNat : Int) = d := by
  rw [dgB_nat h]; unfold digI; split <;> (repeat' split) <;> omega
theorem dgB_ne {d : Nat} (h : d < 16) : (dgB d).toNat ≠ 95 := by rw [dgB_nat h]; split <;> omega
/-- The digits of a number: as few as possible; or so many. -/
def minD (b n : Nat) : List UInt8 :=
  if h : n < b ∨ b < 2 then [dgB n] else minD b (n / b) ++ [dgB (n % b)]
termination_by n
decreasing_by exact Nat.div_lt_self (by omega) (by omega)
def fixD (b : Nat) : Nat → Nat → List UInt8
  | 0, _ => []
  | k + 1, n => fixD b k (n / b) ++ [dgB (n % b)]
theorem minD_small {b n : Nat} (h : n < b) : minD b n = [dgB n] := by rw [minD, dif_pos (Or.inl h)]
theorem minD_big {b n : Nat} (h : b ≤ n) (hb : 2 ≤ b) : minD b n = minD b (n / b) ++ [dgB (n % b)] := by rw [minD, dif_neg (by omega)]
theorem fixD_len (b : Nat) : ∀ k n, (fixD b k n).length = k
  | 0, _ => rfl
  | k + 1, n => by simp [fixD, fixD_len b k]
theorem fixD_zero {b : Nat} (hb : 2 ≤ b) : ∀ k, fixD b k 0 = List.replicate k 48
  | 0 => rfl
  | k + 1 => by
    rw [fixD, Nat.zero_div, Nat.zero_mod, fixD_zero hb k, List.replicate_succ']
    rfl
theorem minD_len {b : Nat} (hb : 2 ≤ b) : ∀ k n, n < b ^ (k + 1) → (minD b n).length ≤ k + 1
  | 0, n, h => by rw [minD_small (by simpa using h)]; simp
  | k + 1, n, h => by
    by_cases hn : n < b
    · rw [minD_small hn]; simp
    · rw [minD_big (by omega) hb]
      have := minD_len hb k (n / b) (by rw [Nat.div_lt_iff_lt_mul (by omega)]; rwa [Nat.pow_succ] at h)
      simp; omega
theorem pad_min {b : Nat} (hb : 2 ≤ b) : ∀ k n, n < b ^ (k + 1) → List.replicate (k + 1 - (minD b n).length) 48 ++ minD b n = fixD b (k + 1) n
  | 0, n, h => by
    have hn : n < b := by simpa using h
    rw [minD_small hn]; simp [fixD, Nat.mod_eq_of_lt hn]
  | k + 1, n, h => by
    by_cases hn : n < b
    · rw [minD_small hn, fixD, Nat.div_eq_of_lt hn, Nat.mod_eq_of_lt hn, fixD_zero hb]; simp
    · have hd : n / b < b ^ (k + 1) := by rw [Nat.div_lt_iff_lt_mul (by omega)]; rwa [Nat.pow_succ] at h
      rw [minD_big (by omega) hb, fixD, ← pad_min hb k (n / b) hd]
      have := minD_len hb k (n / b) hd
      rw [← List.append_assoc]
      congr 2
      simp
theorem run_digit {b : Nat} {l : List UInt8} {t : Num} {d : Nat} (h : numRun b l = some t) (hd : d < b) (hb : b ≤ 16) :
    numRun b (l ++ [dgB d]) = some ⟨min (t.v * b + d) 65536, t.n + 1, true⟩ := by
  unfold numRun at *
  rw [List.foldl_append, h]
  simp only [List.foldl, numStep]
  rw [if_neg (dgB_ne (by omega)), digI_dgB (by omega), if_neg (by omega)]
theorem div_pow {b k n : Nat} (hb : 2 ≤ b) (h : n < b ^ (k + 1)) : n / b < b ^ k := by
  rw [Nat.div_lt_iff_lt_mul (by omega)]; rwa [Nat.pow_succ] at h
theorem digit_sum {b n : Nat} (hn : n ≤ 65535) : min (((n / b : Nat) : Int) * (b : Int) + ((n % b : Nat) : Int)) 65536 = (n : Int) := by
  have h := Nat.div_add_mod n b
  have h' : ((n / b : Nat) : Int) * (b : Int) + ((n % b : Nat) : Int) = (n : Int) := by
    rw [Int.mul_comm]; exact_mod_cast h
  rw [h']; omega
theorem run_fix {b : Nat} (hb : 2 ≤ b) (h16 : b ≤ 16) : ∀ k n, n < b ^ k → n ≤ 65535 → numRun b (fixD b k n) = some ⟨n, k, decide (0 < k)⟩
  | 0, n, h, _ => by
    have : n = 0 := by simpa using h
    subst this; rfl
  | k + 1, n, h, hn => by
    have ih := run_fix hb h16 k (n / b) (div_pow hb h) (Nat.le_trans (Nat.div_le_self _ _) hn)
    rw [fixD, run_digit ih (Nat.mod_lt _ (by omega)) h16]
    simp only [digit_sum hn]
    simp
theorem run_min {b : Nat} (hb : 2 ≤ b) (h16 : b ≤ 16) : ∀ k n, n < b ^ (k + 1) → n ≤ 65535 → numRun b (minD b n) = some ⟨n, (minD b n).length, true⟩
  | 0, n, h, hn => by
    have hn' : n < b := by simpa using h
    rw [minD_small hn']
    have := run_digit (b := b) (l := []) (t := ⟨0, 0, false⟩) (d := n) rfl hn' h16
    simp only [List.nil_append] at this
    rw [this]; simp; omega
  | k + 1, n, h, hn => by
    by_cases hn' : n < b
    · rw [minD_small hn']
      have := run_digit (b := b) (l := []) (t := ⟨0, 0, false⟩) (d := n) rfl hn' h16
      simp only [List.nil_append] at this
      rw [this]; simp; omega
    · have ih := run_min hb h16 k (n / b) (div_pow hb h) (Nat.le_trans (Nat.div_le_self _ _) hn)
      rw [minD_big (by omega) hb, run_digit ih (Nat.mod_lt _ (by omega)) h16]
      simp only [digit_sum hn]
      simp
/-- A quote among the digits: they are malformed. -/
theorem run_quote (base : Int) {l : List UInt8} (h : (39 : UInt8) ∈ l) : numRun base l = none := by
  obtain ⟨a, c, rfl⟩ := List.append_of_mem h
  unfold numRun
  rw [List.foldl_append]
  simp only [List.foldl]
  have : numStep base (a.foldl (numStep base) (some ⟨0, 0, false⟩)) 39 = none := by
    cases a.foldl (numStep base) (some ⟨0, 0, false⟩) with
    | none => rfl
    | some t =>
      have e : digI (((39 : UInt8).toNat : Nat) : Int) = -1 := by decide
      simp only [numStep, e]
      rw [if_neg (by decide), if_pos (by omega)]
  rw [this, fold_none]
/-- Cutting at a byte: what is cut off, and what is being read. -/
def cutStep (c : UInt8) (t : List (List UInt8) × List UInt8) (x : UInt8) : List (List UInt8) × List UInt8 :=
  if x = c then (t.1 ++ [t.2], []) else (t.1, t.2 ++ [x])
def cutF (c : UInt8) (l : List UInt8) : List (List UInt8) × List UInt8 := l.foldl (cutStep c) ([], [])
theorem cut_len (c : UInt8) : ∀ (l : List UInt8) (t), (l.foldl (cutStep c) t).1.length = t.1.length + l.count c
  | [], t => by simp
  | x :: l, t => by
    rw [List.foldl, cut_len c l, List.count_cons]
    unfold cutStep
    by_cases h : x = c
    · simp [h]; omega
    · simp [h]
theorem cut_none (c : UInt8) : ∀ (l : List UInt8) (t), l.count c = 0 → l.foldl (cutStep c) t = (t.1, t.2 ++ l)
  | [], t, _ => by simp
  | x :: l, t, h => by
    rw [List.count_cons] at h
    have hx : x ≠ c := by intro e; subst e; simp at h
    rw [List.foldl, cut_none c l _ (by omega)]
    simp [cutStep, hx]
theorem index_none (c : UInt8) : ∀ l : List UInt8, l.count c = 0 → Lib.indexByte l c = -1
  | [], _ => rfl
  | x :: l, h => by
    rw [List.count_cons] at h
    have hx : ¬ (x == c) = true := by intro e; simp [e] at h
    rw [Lib.indexByte, if_neg hx, index_none c l (by omega)]; rfl
theorem index_some (c : UInt8) : ∀ (l : List UInt8), 0 < l.count c → ∃ k : Nat, k < l.length ∧ Lib.indexByte l c = k ∧ (l.drop (k + 1)).count c + 1 = l.count c ∧ ∀ t, l.foldl (cutStep c) t = (l.drop (k + 1)).foldl (cutStep c) (t.1 ++ [t.2 ++ l.take k], [])
  | [], h => by simp at h
  | x :: l, h => by
    by_cases hx : x = c
    · subst hx
      exact ⟨0, by simp, by simp [Lib.indexByte], by simp, fun t => by simp [cutStep]⟩
    · rw [List.count_cons] at h
      have hx' : ¬ (x == c) = true := by simpa using hx
      obtain ⟨k, h1, h2, h3, h4⟩ := index_some c l (by simpa [hx] using h)
      refine ⟨k + 1, by simp; omega, ?_, ?_, fun t => ?_⟩
      · rw [Lib.indexByte, if_neg hx', h2]
        have : ¬ (((k : Int)) == -1) = true := by simp
        rw [if_neg this]; simp
      · rw [List.count_cons]; simpa [hx] using h3
      · rw [List.foldl, h4]; simp [cutStep, hx]
/-- The numbers of the references: decimal digits behind a sign. -/
def decStep : Option Int → UInt8 → Option Int
  | none, _ => none
  | some n, c => if c.toNat < 48 ∨ 57 < c.toNat then none else some (10 * n + (c.toNat - 48))
def decRun (l : List UInt8) : Option Int := l.foldl decStep (some 0)
def sgnAt (l : List UInt8) : Nat := if l.headD 0 = 45 then 1 else 0
def nmBad (m : Nat) (l : List UInt8) : Bool := l.length == sgnAt l || decide (m < l.length - sgnAt l) || ((l.drop (sgnAt l)).headD 0 == 48 && decide (1 < l.length))
def nmB (m : Nat) (l : List UInt8) : Bool := !nmBad m l && (decRun (l.drop (sgnAt l))).isSome
def nmV (m : Nat) (l : List UInt8) : Int := if nmB m l then (if sgnAt l = 1 then -((decRun (l.drop (sgnAt l))).getD 0) else (decRun (l.drop (sgnAt l))).getD 0) else 0
theorem dec_none (l : List UInt8) : l.foldl decStep none = none := by
  induction l with
  | nil => rfl
  | cons c l ih => simpa [List.foldl, decStep] using ih

theorem sgn_two {l : List UInt8} : sgnAt l = 0 ∨ sgnAt l = 1 := by unfold sgnAt; split <;> simp
theorem dec_cons (c : UInt8) (l : List UInt8) (n : Int) : (c :: l).foldl decStep (some n) = if c.toNat < 48 ∨ 57 < c.toNat then none else l.foldl decStep (some (10 * n + (c.toNat - 48))) := by
  rw [List.foldl]; simp only [decStep]; split
  · rw [dec_none]
  · rfl
theorem dec_neg {l : List UInt8} : ∀ {n : Int}, 0 ≤ n → ∀ {m}, l.foldl decStep (some n) = some m → n ≤ m := by
  induction l with
  | nil => intro n _ m h; simp at h; omega
  | cons c l ih =>
    intro n hn m h
    rw [dec_cons] at h
    split at h
    · cases h
    · have := ih (n := 10 * n + (c.toNat - 48)) (by omega) h
      omega
theorem digit_ten {c : UInt8} : (digI (c.toNat : Int) < 0 ∨ 10 ≤ digI (c.toNat : Int)) ↔ (c.toNat < 48 ∨ 57 < c.toNat) := by
  unfold digI; split <;> (repeat' split) <;> omega
theorem digI_dec {c : UInt8} (h : ¬ (c.toNat < 48 ∨ 57 < c.toNat)) : digI (c.toNat : Int) = (c.toNat : Int) - 48 := by
  unfold digI; rw [if_pos (by omega)]
theorem num1 (c : UInt8) : numB 10 [c] = !decide (c.toNat < 48 ∨ 57 < c.toNat) ∧ (¬ (c.toNat < 48 ∨ 57 < c.toNat) → numV 10 [c] = (c.toNat : Int) - 48) := by
  unfold numB numV numRun
  simp only [List.foldl, numStep]
  by_cases h95 : c.toNat = 95
  · rw [if_pos h95]; simp; omega
  · rw [if_neg h95]
    by_cases h : c.toNat < 48 ∨ 57 < c.toNat
    · rw [if_pos (digit_ten.2 h)]; simp [h]
    · rw [if_neg (mt digit_ten.1 h), digI_dec h]; simp [h]; omega
theorem num2 (c d : UInt8) : numB 10 [c, d] = (!decide (c.toNat < 48 ∨ 57 < c.toNat) && !decide (d.toNat < 48 ∨ 57 < d.toNat)) ∧ (¬ (c.toNat < 48 ∨ 57 < c.toNat) → ¬ (d.toNat < 48 ∨ 57 < d.toNat) → numV 10 [c, d] = 10 * ((c.toNat : Int) - 48) + ((d.toNat : Int) - 48)) := by
  unfold numB numV numRun
  simp only [List.foldl, numStep]
  by_cases h95 : c.toNat = 95
  · rw [if_pos h95]; simp [numStep]; omega
  · rw [if_neg h95]
    by_cases h : c.toNat < 48 ∨ 57 < c.toNat
    · rw [if_pos (digit_ten.2 h)]; simp [numStep, h]
    · rw [if_neg (mt digit_ten.1 h), digI_dec h]
      simp only [numStep]
      by_cases k95 : d.toNat = 95
      · rw [if_pos k95]; simp [k95]
      · rw [if_neg k95]
        by_cases k : d.toNat < 48 ∨ 57 < d.toNat
        · rw [if_pos (digit_ten.2 k)]; simp [k]
        · rw [if_neg (mt digit_ten.1 k), digI_dec k]; simp [h, k]; omega
theorem u8eq {a : UInt8} {n : Nat} (hn : n < 256) : (a = UInt8.ofNat n) ↔ a.toNat = n := by
  constructor
  · rintro rfl; simp [UInt8.toNat_ofNat']; omega
  · intro h; apply UInt8.toNat_inj.1; simp [UInt8.toNat_ofNat', h]; omega
/-- The width in a string: the reference's number of at most two digits, if it is not negative. -/
theorem num_wid (l : List UInt8) : widB l = (nmB 2 l && decide (0 ≤ nmV 2 l)) ∧ (widB l = true → widV l = nmV 2 l) := by
  match l with
  | [] => decide
  | [c] =>
    have hw : widBad [c] = false := by simp [widBad]
    simp only [widB, widV, hw]
    by_cases h45 : c = 45
    · subst h45; decide
    · have hs : sgnAt [c] = 0 := by simp [sgnAt, h45]
      have hb : nmBad 2 [c] = false := by simp [nmBad, hs]
      have e : decRun [c] = if c.toNat < 48 ∨ 57 < c.toNat then none else some ((c.toNat : Int) - 48) := by simp [decRun, decStep]
      obtain ⟨h1, h2⟩ := num1 c
      simp only [nmV, nmB, hs, hb, List.drop_zero, e]
      by_cases h : c.toNat < 48 ∨ 57 < c.toNat
      · simp [h1, h]
      · have h2' := h2 h
        simp [h1, h, h2']; omega
  | [c, d] =>
    by_cases h45 : c = 45
    · subst h45
      have hl : widB [45, d] = false := by
        unfold widB; split
        · rfl
        · rw [(num2 _ _).1]; rfl
      rw [hl]
      refine ⟨?_, fun h => by cases h⟩
      have hs : sgnAt [45, d] = 1 := by simp [sgnAt]
      by_cases h48 : d = 48
      · subst h48; decide
      · have h48' : d.toNat ≠ 48 := fun e => h48 ((u8eq (by decide)).2 e)
        have e : decRun [d] = if d.toNat < 48 ∨ 57 < d.toNat then none else some ((d.toNat : Int) - 48) := by simp [decRun, decStep]
        have hb : nmBad 2 [45, d] = false := by simp [nmBad, hs, h48]
        simp only [nmV, nmB, hs, hb, List.drop_succ_cons, List.drop_zero, e]
        by_cases h : d.toNat < 48 ∨ 57 < d.toNat
        · simp [h]
        · simp [h]; omega
    · have hs : sgnAt [c, d] = 0 := by simp [sgnAt, h45]
      have e : decRun [c, d] = if c.toNat < 48 ∨ 57 < c.toNat then none else if d.toNat < 48 ∨ 57 < d.toNat then none else some (10 * ((c.toNat : Int) - 48) + ((d.toNat : Int) - 48)) := by
        simp only [decRun, List.foldl, decStep]
        by_cases h : c.toNat < 48 ∨ 57 < c.toNat
        · simp [h, decStep]
        · simp [h, decStep]
      obtain ⟨h1, h2⟩ := num2 c d
      by_cases h48 : c = 48
      · subst h48
        have : widBad [48, d] = true := by simp [widBad]
        have hb : nmBad 2 [48, d] = true := by simp [nmBad, hs]
        simp [widB, nmB, hb, this]
      · have h48' : c.toNat ≠ 48 := fun e => h48 ((u8eq (by decide)).2 e)
        have hw : widBad [c, d] = false := by simp [widBad, h48']
        have hb : nmBad 2 [c, d] = false := by simp [nmBad, hs, h48]
        simp only [widB, widV, hw, nmV, nmB, hs, hb, List.drop_zero, e]
        by_cases h : c.toNat < 48 ∨ 57 < c.toNat
        · simp [h1, h]
        · by_cases k : d.toNat < 48 ∨ 57 < d.toNat
          · simp [h1, h, k]
          · have h2' := h2 h k
            simp [h1, h, k, h2']; omega
  | c :: d :: f :: r =>
    have hw : widBad (c :: d :: f :: r) = true := by simp [widBad]
    refine ⟨?_, fun h => by simp [widB, hw] at h⟩
    simp only [widB, hw, if_true]
    symm
    rw [Bool.and_eq_false_iff]
    by_cases hB : nmB 2 (c :: d :: f :: r) = true
    · right
      have hB' := hB
      unfold nmB at hB
      simp only [Bool.and_eq_true, Bool.not_eq_true'] at hB
      obtain ⟨hb, hd⟩ := hB
      rcases sgn_two (l := c :: d :: f :: r) with hs | hs
      · simp [nmBad, hs] at hb
      · unfold nmV
        rw [if_pos hB', if_pos hs]
        rw [hs] at hd
        simp only [List.drop_succ_cons, List.drop_zero] at hd
        obtain ⟨m, hm⟩ := Option.isSome_iff_exists.1 hd
        rw [hs, List.drop_succ_cons, List.drop_zero, hm]
        simp only [Option.getD_some]
        have h48 : d ≠ 48 := by intro e; subst e; simp [nmBad, hs] at hb
        have h48' : d.toNat ≠ 48 := fun e => h48 ((u8eq (by decide)).2 e)
        unfold decRun at hm
        rw [dec_cons] at hm
        split at hm
        · cases hm
        · have := dec_neg (by omega) hm
          simp; omega
    · left; simpa using hB

theorem dec_min : ∀ n, Lib.decDigits n = minD 10 n := by
  intro n
  induction n using Nat.strongRecOn with
  | _ n ih =>
    rw [Lib.decDigits, minD]
    by_cases h : n < 10
    · rw [dif_pos h, dif_pos (Or.inl h)]; simp [dgB, h]
    · rw [dif_neg h, dif_neg (by omega), ih (n / 10) (by omega)]
      have : n % 10 < 10 := Nat.mod_lt _ (by decide)
      simp [dgB, this]
theorem itoa_min {n : Nat} : Lib.itoa (n : Int) = minD 10 n := by
  unfold Lib.itoa; rw [if_neg (by omega), Int.toNat_natCast, dec_min]
/-- The parts of a literal. -/
def befL (l : List UInt8) : List UInt8 := if Lib.indexByte l 39 = -1 then l else l.take (Lib.indexByte l 39).toNat
def aftL (l : List UInt8) : List UInt8 := if Lib.indexByte l 39 = -1 then [] else l.drop ((Lib.indexByte l 39).toNat + 1)
def baseN (n : Nat) : Int := if n = 98 then 2 else if n = 100 then 10 else if n = 104 then 16 else 0
def baseL (l : List UInt8) : Int := match l with | [] => 0 | c :: _ => baseN c.toNat
def litOk (l : List UInt8) : Bool := widB (befL l) && baseL (aftL l) != 0
def litW (l : List UInt8) : Int := if litOk l then widV (befL l) else 0
def litV (l : List UInt8) : Int := if litOk l then numV (baseL (aftL l)) ((aftL l).drop 1) else 0
def litB (l : List UInt8) : Bool := if litOk l then numB (baseL (aftL l)) ((aftL l).drop 1) else false
def parE (l : List UInt8) : Int := if litB l then bErr (litW l) (litV l) else 7
def parW (l : List UInt8) : Int := if parE l = 0 then litW l else 0
def parV (l : List UInt8) : Int := if parE l = 0 then litV l else 0
theorem bErr_min {w r v : Int} (h : min r 65536 = v) (h0 : 0 ≤ r) : bErr w r = bErr w v := by
  unfold bErr
  by_cases hw : isW w = true
  · rw [if_pos hw, if_pos hw]
    have hw' : 1 ≤ w ∧ w ≤ 16 := by simpa [isW] using hw
    have := pw_bd (n := w) (by omega) hw'.2
    congr 1
    rw [Bool.eq_iff_iff]
    simp
    omega
  · rw [if_neg hw, if_neg hw]
theorem bErr_zero {w v : Int} (h : bErr w v = 0) : 1 ≤ w ∧ w ≤ 16 ∧ 0 ≤ v ∧ v < pw w := by
  unfold bErr at h
  split at h
  · rename_i hw
    have hw' : 1 ≤ w ∧ w ≤ 16 := by simpa [isW] using hw
    unfold eIf at h
    split at h
    · cases h
    · rename_i k; simp at k; omega
  · cases h
theorem index_pos : ∀ (a r : List UInt8), a.count 39 = 0 → Lib.indexByte (a ++ 39 :: r) 39 = a.length
  | [], r, _ => by simp [Lib.indexByte]
  | x :: a, r, h => by
    rw [List.count_cons] at h
    have hx : ¬ (x == 39) = true := by intro e; simp [e] at h
    rw [List.cons_append, Lib.indexByte, if_neg hx, index_pos a r (by omega)]
    have : ¬ (((a.length : Int)) == -1) = true := by simp
    rw [if_neg this]; simp
theorem bef_at (a r : List UInt8) (h : a.count 39 = 0) : befL (a ++ 39 :: r) = a ∧ aftL (a ++ 39 :: r) = r := by
  have e := index_pos a r h
  have n1 : ¬ ((a.length : Int) = -1) := by omega
  unfold befL aftL
  rw [e, if_neg n1, if_neg n1, Int.toNat_natCast]
  constructor
  · simp
  · rw [List.drop_append]; simp
theorem wid_parse {w : Nat} (h1 : 1 ≤ w) (h2 : w ≤ 16) : widB (minD 10 w) = true ∧ widV (minD 10 w) = w ∧ (minD 10 w).count 39 = 0 ∧ (minD 10 w).length ≤ 2 := by
  by_cases h : w < 10
  · rw [minD_small h]
    have : ∀ d : Fin 10, widB [dgB d] = true ∧ widV [dgB d] = (d : Nat) ∧ [dgB d].count 39 = 0 ∧ [dgB d].length ≤ 2 := by decide
    exact this ⟨w, h⟩
  · rw [minD_big (by omega) (by decide), minD_small (by omega)]
    have : ∀ d : Fin 7, widB ([dgB ((10 + d.val) / 10)] ++ [dgB ((10 + d.val) % 10)]) = true ∧ widV ([dgB ((10 + d.val) / 10)] ++ [dgB ((10 + d.val) % 10)]) = ((10 + d.val : Nat) : Int) ∧ ([dgB ((10 + d.val) / 10)] ++ [dgB ((10 + d.val) % 10)]).count 39 = 0 ∧ ([dgB ((10 + d.val) / 10)] ++ [dgB ((10 + d.val) % 10)]).length ≤ 2 := by decide
    have k := this ⟨w - 10, by omega⟩
    have e : 10 + (w - 10) = w := by omega
    simp only [e] at k
    exact k
/-- What a written literal means. -/
theorem parse_lit {w v n b : Nat} {c : UInt8} {body : List UInt8} (h1 : 1 ≤ w) (h2 : w ≤ 16) (hc : baseN c.toNat = (b : Int)) (hb : b ≠ 0) (hr : numRun b body = some ⟨v, n, true⟩) (hn : n ≤ 20) (hE : bErr w v = 0) :
    parE (minD 10 w ++ 39 :: c :: body) = 0 ∧ parW (minD 10 w ++ 39 :: c :: body) = w ∧ parV (minD 10 w ++ 39 :: c :: body) = v := by
  obtain ⟨k1, k2, k3, _⟩ := wid_parse h1 h2
  obtain ⟨e1, e2⟩ := bef_at (minD 10 w) (c :: body) k3
  have e3 : baseL (c :: body) = (b : Int) := hc
  have ok : litOk (minD 10 w ++ 39 :: c :: body) = true := by
    unfold litOk; rw [e1, e2, k1, e3]; simp; omega
  have eW : litW (minD 10 w ++ 39 :: c :: body) = w := by unfold litW; rw [if_pos ok, e1, k2]
  have eV : litV (minD 10 w ++ 39 :: c :: body) = v := by unfold litV; rw [if_pos ok, e2, e3]; simp [numV, hr]
  have eB : litB (minD 10 w ++ 39 :: c :: body) = true := by unfold litB; rw [if_pos ok, e2, e3]; simp [numB, hr, show (n : Int) ≤ 20 by omega]
  have eE : parE (minD 10 w ++ 39 :: c :: body) = 0 := by unfold parE; rw [if_pos eB, eW, eV, hE]
  exact ⟨eE, by unfold parW; rw [if_pos eE, eW], by unfold parV; rw [if_pos eE, eV]⟩
/-- The string of a value. -/
def plcN (b w : Nat) : Nat := if b = 2 then w else (w + 3) / 4
def bodyL (b w v : Nat) : List UInt8 := if b = 10 then minD 10 v else fixD b (plcN b w) v
def letB (b : Nat) : UInt8 := if b = 2 then 98 else if b = 10 then 100 else 104
def fmtL (w v b : Nat) : List UInt8 := minD 10 w ++ 39 :: letB b :: bodyL b w v
theorem val_bd {w v : Nat} (h1 : 1 ≤ w) (h2 : w ≤ 16) (h : (v : Int) < pw w) : v < 2 ^ w ∧ v < 16 ^ ((w + 3) / 4) ∧ v ≤ 65535 := by
  have e : v < 2 ^ w := by
    unfold pw at h; rw [Int.toNat_natCast] at h; exact_mod_cast h
  have h16 : 2 ^ w ≤ 65536 := Nat.pow_le_pow_right (n := 2) (by decide) h2
  refine ⟨e, Nat.lt_of_lt_of_le e ?_, by omega⟩
  rw [show (16 : Nat) = 2 ^ 4 from rfl, ← Nat.pow_mul]
  exact Nat.pow_le_pow_right (by decide) (by omega)
theorem fmt_parse {w v b : Nat} (hb : b = 2 ∨ b = 10 ∨ b = 16) (hE : bErr w v = 0) :
    parE (fmtL w v b) = 0 ∧ parW (fmtL w v b) = w ∧ parV (fmtL w v b) = v ∧ (fmtL w v b).length ≤ 60 := by
  obtain ⟨h1, h2, _, h4⟩ := bErr_zero hE
  have h1' : 1 ≤ w := by omega
  have h2' : w ≤ 16 := by omega
  obtain ⟨v1, v2, v3⟩ := val_bd h1' h2' h4
  have hl := (wid_parse h1' h2').2.2.2
  have key : ∃ n : Nat, numRun b (bodyL b w v) = some ⟨v, n, true⟩ ∧ n ≤ 20 ∧ (bodyL b w v).length ≤ 20 := by
    rcases hb with rfl | rfl | rfl
    · refine ⟨w, ?_, by omega, ?_⟩
      · have := run_fix (b := 2) (by decide) (by decide) w v v1 v3
        simpa [bodyL, plcN, show 0 < w by omega] using this
      · simp [bodyL, plcN, fixD_len]; omega
    · refine ⟨(minD 10 v).length, ?_, ?_, ?_⟩
      · simpa [bodyL] using run_min (b := 10) (by decide) (by decide) 4 v (by omega) v3
      · have := minD_len (b := 10) (by decide) 4 v (by omega); omega
      · have := minD_len (b := 10) (by decide) 4 v (by omega); simp [bodyL]; omega
    · refine ⟨(w + 3) / 4, ?_, by omega, ?_⟩
      · have := run_fix (b := 16) (by decide) (by decide) ((w + 3) / 4) v v2 v3
        simpa [bodyL, plcN, show 0 < (w + 3) / 4 by omega] using this
      · simp [bodyL, plcN, fixD_len]; omega
  obtain ⟨n, r1, r2, r3⟩ := key
  have hc : baseN (letB b).toNat = (b : Int) := by rcases hb with rfl | rfl | rfl <;> decide
  obtain ⟨p1, p2, p3⟩ := parse_lit h1' h2' hc (by omega) r1 r2 hE
  exact ⟨p1, p2, p3, by simp [fmtL]; omega⟩
/-- The program's zeros ahead of the fewest digits. -/
theorem zeros_fix {b k n : Nat} (hb : 2 ≤ b) (hk : 1 ≤ k) (h : n < b ^ k) : List.replicate (k - (minD b n).length) 48 ++ minD b n = fixD b k n := by
  obtain ⟨m, rfl⟩ : ∃ m, k = m + 1 := ⟨k - 1, by omega⟩
  exact pad_min hb m n h

end Go.Proofs.YtlplphigjejahaaDoor
