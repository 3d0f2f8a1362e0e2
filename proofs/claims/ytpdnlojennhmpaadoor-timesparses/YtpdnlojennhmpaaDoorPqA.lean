/- What digits behind a dot say of a unit, and what a text says of a span: plainly, no program; no statement of the seat is proved here. -/
import Derived.Test.YtpdnlojennhmpaaDoorPaC
import Derived.Test.YtpdnlojennhmpaaDoorUp
namespace Go.Proofs.YtpdnlojennhmpaaDoor
set_option linter.unusedVariables false
open Go.RowKit
/-- The units' names and lengths. -/
def qN (j : Nat) : List UInt8 := ([[68], [72], [77], [83], [77, 83], [85, 83], [78, 83]] : List (List UInt8)).getD j []
def qL (i : Nat) : Nat := ([86400000000000, 3600000000000, 60000000000, 1000000000, 1000000, 1000, 1] : List Nat).getD i 1
/-- The number of digits, the last one first. -/
def valR : List UInt8 → Nat
  | [] => 0
  | c :: l => (c.toNat - 48) + 10 * valR l
def AllD (l : List UInt8) : Prop := ∀ c ∈ l, 48 ≤ c.toNat ∧ c.toNat ≤ 57
theorem rf_val (u : Nat) : ∀ (r : List UInt8) (z : Nat), AllD r → rfF (u : Int) r (z : Int) = if (z + u * valR r) % 10 ^ r.length = 0 then some (((z + u * valR r) / 10 ^ r.length : Nat) : Int) else none
  | [], z, _ => by simp [rfF, valR, Nat.mod_one]
  | c :: r, z, h => by
    have hc := h c List.mem_cons_self
    have hr : AllD r := fun x hx => h x (List.mem_cons_of_mem _ hx)
    rw [show valR (c :: r) = (c.toNat - 48) + 10 * valR r from rfl, List.length_cons]
    simp only [rfF]
    obtain ⟨d, hd⟩ : ∃ d, c.toNat - 48 = d := ⟨_, rfl⟩
    rw [hd]
    have c1 : ((c.toNat : Int) - 48) % 256 = d := by omega
    rw [c1]
    have e1 : (z : Int) + (d : Int) * u = ((z + d * u : Nat) : Int) := by push_cast; rfl
    rw [e1]
    have e2 : z + u * (d + 10 * valR r) = z + d * u + 10 * (u * valR r) := by
      rw [Nat.mul_add, Nat.mul_comm u d, Nat.mul_left_comm]; omega
    rw [e2]
    obtain ⟨a, ha⟩ : ∃ a, z + d * u = a := ⟨_, rfl⟩
    obtain ⟨v, hv⟩ : ∃ v, u * valR r = v := ⟨_, rfl⟩
    rw [ha, hv]
    by_cases g : a % 10 = 0
    · rw [if_pos (by omega)]
      have e3 : ((a : Int) / 10) = ((a / 10 : Nat) : Int) := by omega
      rw [e3, rf_val u r (a / 10) hr, hv]
      have e4 : a + 10 * v = 10 * (a / 10 + v) := by omega
      have m1 : 10 * (a / 10 + v) % 10 ^ (r.length + 1) = 10 * ((a / 10 + v) % 10 ^ r.length) := by
        rw [Nat.pow_succ, Nat.mul_comm (10 ^ r.length) 10, Nat.mul_mod_mul_left]
      have m2 : 10 * (a / 10 + v) / 10 ^ (r.length + 1) = (a / 10 + v) / 10 ^ r.length := by
        rw [Nat.pow_succ, Nat.mul_comm (10 ^ r.length) 10, Nat.mul_div_mul_left _ _ (by omega)]
      rw [e4, m1, m2]
      by_cases q : (a / 10 + v) % 10 ^ r.length = 0
      · rw [if_pos q, if_pos (by omega)]
      · rw [if_neg q, if_neg (by omega)]
    · rw [if_neg (by omega), if_neg]
      intro q
      have : (a + 10 * v) % 10 = 0 := by
        have d1 : 10 ∣ 10 ^ (r.length + 1) := ⟨10 ^ r.length, by rw [Nat.pow_succ, Nat.mul_comm]⟩
        exact Nat.mod_eq_zero_of_dvd (Nat.dvd_trans d1 (Nat.dvd_of_mod_eq_zero q))
      omega
/-- What digits behind a dot say of a unit, if that is whole. -/
def frO (u : Nat) (l : List UInt8) : Option Nat := if (u * valR l.reverse) % 10 ^ l.length = 0 then some (u * valR l.reverse / 10 ^ l.length) else none
theorem rf_frO (u : Nat) (l : List UInt8) (h : AllD l) : rfF (u : Int) l.reverse 0 = (frO u l).map (fun n : Nat => (n : Int)) := by
  have := rf_val u l.reverse 0 (fun c hc => h c (List.mem_reverse.mp hc))
  rw [show ((0 : Nat) : Int) = 0 from rfl, Nat.zero_add, List.length_reverse] at this
  rw [this]
  unfold frO
  split <;> rfl
theorem valR_lt : ∀ l : List UInt8, AllD l → valR l < 10 ^ l.length
  | [], _ => by simp [valR]
  | c :: l, h => by
    have hc := h c List.mem_cons_self
    have := valR_lt l (fun x hx => h x (List.mem_cons_of_mem _ hx))
    simp only [valR, List.length_cons, Nat.pow_succ]
    omega
/-- A fraction is below its unit. -/
theorem frO_lt (u : Nat) (l : List UInt8) (h : AllD l) (n : Nat) (e : frO u l = some n) : n ≤ u := by
  unfold frO at e
  split at e
  · have := valR_lt l.reverse (fun c hc => h c (List.mem_reverse.mp hc))
    rw [List.length_reverse] at this
    obtain rfl := Option.some.inj e
    refine Nat.le_of_lt_succ (Nat.div_lt_of_lt_mul ?_)
    have q : u * valR l.reverse ≤ u * 10 ^ l.length := Nat.mul_le_mul_left _ (Nat.le_of_lt this)
    have p : 0 < 10 ^ l.length := Nat.pow_pos (by omega)
    rw [Nat.mul_succ, Nat.mul_comm (10 ^ l.length) u]
    omega
  · cases e
theorem valR_app (a : List UInt8) : ∀ b : List UInt8, valR (b ++ a) = valR b + 10 ^ b.length * valR a
  | [] => by simp [valR]
  | c :: b => by
    simp only [List.cons_append, valR, List.length_cons, valR_app a b, Nat.pow_succ]
    rw [Nat.mul_add, Nat.mul_comm (10 ^ b.length) 10, Nat.mul_assoc]
    omega
theorem valR_noughts : ∀ k, valR (List.replicate k 48) = 0
  | 0 => rfl
  | k + 1 => by simp [List.replicate_succ, valR, valR_noughts k]
/-- Noughts at the end play no part. -/
theorem frO_noughts (u k : Nat) (l : List UInt8) : frO u (l ++ List.replicate k 48) = frO u l := by
  have e : valR (l ++ List.replicate k 48).reverse = 10 ^ k * valR l.reverse := by
    rw [List.reverse_append, valR_app, List.reverse_replicate, valR_noughts, List.length_replicate]; omega
  have p : 0 < 10 ^ k := Nat.pow_pos (by omega)
  unfold frO
  rw [e, List.length_append, List.length_replicate, Nat.mul_left_comm, Nat.add_comm l.length k, Nat.pow_add, Nat.mul_mod_mul_left, Nat.mul_div_mul_left _ _ p]
  by_cases q : u * valR l.reverse % 10 ^ l.length = 0
  · rw [if_pos q, if_pos (by rw [q]; rfl)]
  · rw [if_neg q, if_neg]
    intro g
    rcases Nat.mul_eq_zero.mp g with g | g
    · omega
    · exact q g
/-- No unit has 2 or 5 so often. -/
theorem frO_long (u : Nat) (l : List UInt8) (c : UInt8) (hu : u ∣ 86400000000000) (hl : 16 ≤ l.length) (hc : 48 ≤ c.toNat ∧ c.toNat ≤ 57) (h0 : ¬ c = 48) : frO u (l ++ [c]) = none := by
  unfold frO
  rw [if_neg]
  intro g
  rw [List.reverse_append, List.reverse_singleton, List.singleton_append, valR, List.length_append, List.length_singleton] at g
  have d1 := Nat.dvd_of_mod_eq_zero g
  have c0 : c.toNat ≠ 48 := by
    intro e
    apply h0
    exact UInt8.toNat_inj.mp e
  generalize hX : c.toNat - 48 + 10 * valR l.reverse = X at *
  have d2 : (10 : Nat) ^ 17 ∣ 10 ^ (l.length + 1) := Nat.pow_dvd_pow 10 (by omega)
  obtain ⟨v, hv⟩ := hu
  have d3 : (10 : Nat) ^ 17 ∣ 86400000000000 * X := by
    rw [hv, Nat.mul_right_comm]
    exact Nat.dvd_trans (Nat.dvd_trans d2 d1) (Nat.dvd_mul_right _ _)
  obtain ⟨t, ht⟩ := d3
  have : X % 10 = 0 := by omega
  omega
/-- The document's way: both shortened by what divides both. -/
theorem frO_gcd (u x e : Nat) : (x % (10 ^ e / Nat.gcd u (10 ^ e)) = 0 ↔ u * x % 10 ^ e = 0) ∧ (u * x % 10 ^ e = 0 → x / (10 ^ e / Nat.gcd u (10 ^ e)) * (u / Nat.gcd u (10 ^ e)) = u * x / 10 ^ e) := by
  have p : 0 < 10 ^ e := Nat.pow_pos (by omega)
  have g0 : 0 < Nat.gcd u (10 ^ e) := Nat.gcd_pos_of_pos_right _ p
  obtain ⟨a, ha⟩ := Nat.gcd_dvd_left u (10 ^ e)
  obtain ⟨b, hb⟩ := Nat.gcd_dvd_right u (10 ^ e)
  have co : Nat.Coprime a b := by
    have := Nat.coprime_div_gcd_div_gcd (m := u) (n := 10 ^ e) g0
    rwa [show u / Nat.gcd u (10 ^ e) = a from Nat.div_eq_of_eq_mul_right g0 ha, show 10 ^ e / Nat.gcd u (10 ^ e) = b from Nat.div_eq_of_eq_mul_right g0 hb] at this
  have ea : u / Nat.gcd u (10 ^ e) = a := Nat.div_eq_of_eq_mul_right g0 ha
  have eb : 10 ^ e / Nat.gcd u (10 ^ e) = b := Nat.div_eq_of_eq_mul_right g0 hb
  rw [ea, eb]
  generalize Nat.gcd u (10 ^ e) = g at *
  have b0 : 0 < b := by
    rcases Nat.eq_zero_or_pos b with q | q
    · rw [q] at hb; omega
    · exact q
  have m : u * x % 10 ^ e = g * (a * x % b) := by rw [ha, hb, Nat.mul_assoc, Nat.mul_mod_mul_left]
  have dd : u * x / 10 ^ e = a * x / b := by rw [ha, hb, Nat.mul_assoc, Nat.mul_div_mul_left _ _ g0]
  have key : x % b = 0 ↔ a * x % b = 0 := by
    constructor
    · intro h; exact Nat.mod_eq_zero_of_dvd (Nat.dvd_trans (Nat.dvd_of_mod_eq_zero h) (Nat.dvd_mul_left _ _))
    · intro h; exact Nat.mod_eq_zero_of_dvd (co.symm.dvd_of_dvd_mul_left (Nat.dvd_of_mod_eq_zero h))
  refine ⟨?_, fun h => ?_⟩
  · rw [key, m]
    constructor
    · intro h; rw [h]; rfl
    · intro h
      rcases Nat.mul_eq_zero.mp h with q | q
      · omega
      · exact q
  · have h2 : a * x % b = 0 := by
      rw [m] at h
      rcases Nat.mul_eq_zero.mp h with q | q
      · omega
      · exact q
    obtain ⟨c, rfl⟩ := Nat.dvd_of_mod_eq_zero (key.mpr h2)
    rw [dd, Nat.mul_div_cancel_left _ b0, Nat.mul_left_comm, Nat.mul_div_cancel_left _ b0, Nat.mul_comm]
/-- A text's parts: the digits, the dot, the digits behind it, the letters, the rest. -/
def cpW (l : List UInt8) : List UInt8 := l.take (runT digT l)
def cp1 (l : List UInt8) : List UInt8 := l.drop (runT digT l)
def cpD (l : List UInt8) : Bool := (cp1 l).head? == some 46
def cp2 (l : List UInt8) : List UInt8 := if cpD l then (cp1 l).tail else cp1 l
def cpB (l : List UInt8) : List UInt8 := if cpD l then (cp2 l).take (runT digT (cp2 l)) else []
def cp3 (l : List UInt8) : List UInt8 := if cpD l then (cp2 l).drop (runT digT (cp2 l)) else cp2 l
def cpU (l : List UInt8) : List UInt8 := (cp3 l).take (runT letT (cp3 l))
def cpR (l : List UInt8) : List UInt8 := (cp3 l).drop (runT letT (cp3 l))
/-- The number of the first unit of that name, from the kth on. -/
def fuF (w : List UInt8) : Nat → Nat → Option Nat
  | 0, _ => none
  | f + 1, k => if qN k = w then some k else fuF w f (k + 1)
def fuO (w : List UInt8) (k : Nat) : Option Nat := fuF w (7 - k) k
theorem fuF_bd (w : List UInt8) : ∀ (f k i : Nat), fuF w f k = some i → k ≤ i ∧ i < k + f
  | 0, k, i, h => by cases h
  | f + 1, k, i, h => by
    simp only [fuF] at h
    split at h
    · obtain rfl := Option.some.inj h; omega
    · have := fuF_bd w f (k + 1) i h; omega
theorem fuO_bd (w : List UInt8) (k i : Nat) (h : fuO w k = some i) : k ≤ i ∧ i < 7 := by
  have := fuF_bd w _ k i h
  by_cases g : k ≤ 7
  · omega
  · rw [fuO, show 7 - k = 0 by omega] at h; cases h
/-- The unit's bound in the midst. -/
def pM (j : Nat) : Nat := ([9223372036854775807, 24, 60, 60, 1000, 1000, 1000] : List Nat).getD j 0
/-- What a part says: so many nanoseconds, its unit's number, what stands behind it. -/
def ptO (l : List UInt8) (k : Nat) : Option (Nat × Nat × List UInt8) :=
  if cpW l = [] then none else
  match rnF (cpW l) 0 with
  | none => none
  | some n =>
    match fuO (Lib.toUpperA (cpU l)) k with
    | none => none
    | some i =>
      if cpD l = true ∧ (cpB l = [] ∨ cpR l ≠ []) then none
      else if ¬ k = 0 ∧ pM i ≤ n.toNat then none
      else match frO (qL i) (cpB l) with
        | none => none
        | some f => some (n.toNat * qL i + f, i, cpR l)
def trU (l : List UInt8) : List UInt8 := if l.head? == some 95 then l.tail else l
/-- A span's nanoseconds, x of them being known and units from the kth on left. -/
def spF : Nat → List UInt8 → Nat → Nat → Option Nat
  | 0, _, _, _ => none
  | f + 1, l, x, k =>
    match ptO l k with
    | none => none
    | some (m, i, r) => if x + m ≤ 9223372036854775807 then (if r = [] then some (x + m) else spF f (trU r) (x + m) (i + 1)) else none
theorem run_all (p : Int → Bool) : ∀ l : List UInt8, ∀ c ∈ l.take (runT p l), p c.toNat = true
  | [], c, h => by simp at h
  | b :: l, c, h => by
    simp only [runT] at h
    split at h
    · next q =>
      rw [List.take_succ_cons] at h
      rcases List.mem_cons.mp h with rfl | h
      · exact q
      · exact run_all p l c h
    · simp at h
theorem dig_AllD (l : List UInt8) (h : ∀ c ∈ l, digT c.toNat = true) : AllD l := fun c hc => by
  have := h c hc
  unfold digT at this
  simp at this
  omega
theorem cpB_dig (l : List UInt8) : AllD (cpB l) := by
  unfold cpB
  split
  · exact dig_AllD _ (run_all digT _)
  · intro c hc; cases hc
theorem cpU_ascii (l : List UInt8) : ∀ c ∈ cpU l, c.toNat < 128 := fun c hc => by
  have := run_all letT _ c hc
  unfold letT at this
  simp at this
  omega
theorem ptO_bd (l : List UInt8) (k m i : Nat) (r : List UInt8) (h : ptO l k = some (m, i, r)) : k ≤ i ∧ i < 7 := by
  unfold ptO at h
  split at h
  · cases h
  · split at h
    · cases h
    · split at h
      · cases h
      · next i' hi =>
        have b := fuO_bd _ _ _ hi
        split at h
        · cases h
        · split at h
          · cases h
          · split at h
            · cases h
            · simp only [Option.some.injEq, Prod.mk.injEq] at h
              obtain ⟨_, rfl, _⟩ := h
              exact b
/-- How many there are plays no part beyond what is left of units. -/
theorem spF_more : ∀ (f g : Nat) (l : List UInt8) (x k : Nat), 8 ≤ f + k → 8 ≤ g + k → spF f l x k = spF g l x k
  | 0, 0, l, x, k, _, _ => rfl
  | 0, g + 1, l, x, k, hf, hg => by
    rw [spF, spF]
    cases h : ptO l k with
    | none => rfl
    | some t =>
      obtain ⟨m, i, r⟩ := t
      have := ptO_bd l k m i r h
      omega
  | f + 1, 0, l, x, k, hf, hg => by
    rw [spF, spF]
    cases h : ptO l k with
    | none => rfl
    | some t =>
      obtain ⟨m, i, r⟩ := t
      have := ptO_bd l k m i r h
      omega
  | f + 1, g + 1, l, x, k, hf, hg => by
    rw [spF, spF]
    cases h : ptO l k with
    | none => rfl
    | some t =>
      obtain ⟨m, i, r⟩ := t
      have b := ptO_bd l k m i r h
      simp only
      rw [spF_more f g (trU r) (x + m) (i + 1) (by omega) (by omega)]
/-- What a text says of a span, without its sign. -/
def spO (l : List UInt8) (x k : Nat) : Option Nat := spF 8 l x k
theorem spO_step (l : List UInt8) (x k : Nat) : spO l x k = match ptO l k with
    | none => none
    | some (m, i, r) => if x + m ≤ 9223372036854775807 then (if r = [] then some (x + m) else spO (trU r) (x + m) (i + 1)) else none := by
  unfold spO
  rw [spF]
  cases h : ptO l k with
  | none => rfl
  | some t =>
    obtain ⟨m, i, r⟩ := t
    have b := ptO_bd l k m i r h
    simp only
    rw [spF_more 7 8 (trU r) (x + m) (i + 1) (by omega) (by omega)]
end Go.Proofs.YtpdnlojennhmpaaDoor
