/- What readNumber of value answers of every text; no statement of the seat is proved here. -/
import Derived.Test.YtpaibmganlaaeaaGreatDoorFz11
namespace Go.Proofs.YtpaibmganlaaeaaGreatDoor
set_option linter.unusedVariables false
open Go.RowKit
theorem calm_of (x : Nat) (h : x = 9221120237041090561 ∨ fnan x = false) : calm x := by
  intro s t e
  rcases h with rfl | h
  · have : FloatKind.f64.decode 9221120237041090561 = .nan false 2251799813685249 := by rfl
    rw [this] at e
    injection e with e1 e2
    subst e2
    decide
  · exfalso
    unfold fnan at h
    simp only [decide_eq_false_iff_not] at h
    have e' : FloatKind.f64.format.read x = .nan s t := e
    rcases read_cases x with ⟨m, p, q, _⟩ | ⟨q, _⟩ | ⟨f, q, r⟩
    · rw [q] at e'
      cases e'
    · rw [q] at e'
      cases e'
    · exact h r
section
variable (k kv b : Int) (s : ByteArray) (w : World)
theorem fromTime_of (h0 : 0 ≤ b) (h1 : b < 18446744073709551616) (hk : 0 ≤ k ∧ k < 256) (m : may3 kv b s = true) : Calls Tryz.prog 143 #[.int .u8 k, V kv b s] w fun e w' => CvOk k e ∧ Below w.heap.size w w' := by
  by_cases d : k = 5
  · subst d
    exact fromTime_5 kv b s w h0 h1
  · by_cases d2 : k = 15 ∧ kv = 17
    · obtain ⟨rfl, rfl⟩ := d2
      have l : b < 7258118400000000000 := by simp [may3, mayW] at m; exact m.2
      refine (fromTime_d b s w h0 l).mono ?_
      rintro e w' ⟨rfl, hb⟩
      exact ⟨⟨15, _, E0, 0, rfl, by omega, by omega, Nat.zero_le _, fun _ => ⟨(day_may b h0 l).1, rfl⟩⟩, hb⟩
    · by_cases d3 : k = 16 ∧ kv = 17
      · obtain ⟨rfl, rfl⟩ := d3
        have l : b < 7258118400000000000 := by simp [may3, mayW] at m; exact m.2
        refine (fromTime_t b s w h0 l).mono ?_
        rintro e w' ⟨rfl, hb⟩
        exact ⟨⟨16, _, E0, 0, rfl, by omega, by omega, Nat.zero_le _, fun _ => ⟨(day_may b h0 l).2, rfl⟩⟩, hb⟩
      · exact fromTime_8 k kv b s w d d2 d3
theorem fromFloat_of (x : Nat) (hk : 1 ≤ k ∧ k ≤ 19) (h : calm x) : Calls Tryz.prog 140 #[.int .u8 k, .float .f64 x] w fun e w' => CvOk k e ∧ Below w.heap.size w w' := by
  rcases (by omega : k = 1 ∨ (2 ≤ k ∧ k ≤ 13) ∨ 14 ≤ k) with rfl | d | d
  · exact fromFloat_1 x w
  · exact fromFloat_n k x w (by omega) d h
  · exact fromFloat_8 k x w (by omega) d
theorem fromText_of (hk : 1 ≤ k ∧ k ≤ 19) (hs : s.size ≤ maxLen) : Calls Tryz.prog 141 #[.int .u8 k, .string s] w fun e w' => CvOk k e ∧ Below w.heap.size w w' := by
  rcases (by omega : k = 1 ∨ 2 ≤ k) with rfl | d
  · exact fromText_1 s w
  · exact fromText_n k s w (by omega) d hs
set_option maxRecDepth 100000 in
set_option maxHeartbeats 1000000 in
theorem Convert_x (h0 : 0 ≤ b) (h1 : b < 18446744073709551616) (hk : 0 ≤ k ∧ k < 256) (hv : 0 ≤ kv ∧ kv < 256) (hs : s.size ≤ maxLen) (d : may3 kv b s = false ∨ ¬ (1 ≤ k ∧ k ≤ 19)) : Calls Tryz.prog 114 #[.int .u8 k, V kv b s] w fun e w' => CvOk k e ∧ Below w.heap.size w w' := by
  have M : Hid (∀ w, Calls Tryz.prog 15 #[V kv b s] w fun e w' => e = .returned (.bool (may3 kv b s)) ∧ Below w.heap.size w w') := fun w => May_of kv b s w h0 h1 hv hs
  cases m : may3 kv b s
  · rw [m] at M
    clear d m
    go_enter Tryz.func114, Tryz.ntmps114
    go_wp2_with (go_at_call 15; refine (M.out _).mono ?_; rintro e w1 ⟨rfl, hb⟩; obtain ⟨z0, z1, q0, q1, q2, q3, q4, q5, q6, HB⟩ := step_box hb; clear hb)
    exact bodyPost_ret (v := .tuple #[V 0 0 E0, .int .i64 8]) (by simp [results, Tryz.results114, go_sem, q3, q4, q5]) rfl ⟨cv_fault k 8 (by omega), ((HB.setCell (by simp) _).setCell (by simp) _).setCell (by simp) _⟩
  · have dk : ¬ (1 ≤ k ∧ k ≤ 19) := by
      rcases d with d | d
      · rw [m] at d
        cases d
      · exact d
    rw [m] at M
    clear d m
    have DK : Hid _ := dk
    clear dk
    go_enter Tryz.func114, Tryz.ntmps114
    go_wp2_with (first
      | (go_at_call 15; refine (M.out _).mono ?_; rintro e w1 ⟨rfl, hb⟩; obtain ⟨z0, z1, q0, q1, q2, q3, q4, q5, q6, HB⟩ := step_box hb; clear hb)
      | (go_at_call 118; refine (isKind_is k _ false hk (by symm; rw [decide_eq_false_iff_not]; exact DK.out)).mono ?_; rintro e w2 ⟨rfl, rfl⟩))
    exact bodyPost_ret (v := .tuple #[V 0 0 E0, .int .i64 8]) (by simp [results, Tryz.results114, go_sem, q3, q4, q5]) rfl ⟨cv_fault k 8 (by omega), ((HB.setCell (by simp) _).setCell (by simp) _).setCell (by simp) _⟩
set_option maxRecDepth 100000 in
set_option maxHeartbeats 2000000 in
theorem Convert_y (h0 : 0 ≤ b) (h1 : b < 18446744073709551616) (hk : 1 ≤ k ∧ k ≤ 19) (hv : 0 ≤ kv ∧ kv < 256) (hs : s.size ≤ maxLen) (m : may3 kv b s = true) (hP : Pow w) : Calls Tryz.prog 114 #[.int .u8 k, V kv b s] w fun e w' => CvOk k e ∧ Below w.heap.size w w' := by
  have M : Hid (∀ w, Calls Tryz.prog 15 #[V kv b s] w fun e w' => e = .returned (.bool true) ∧ Below w.heap.size w w') := fun w => by
    have := May_of kv b s w h0 h1 hv hs
    rwa [m] at this
  by_cases e : kv = k
  · subst e
    have CV : CvOk kv (.returned (.tuple #[V kv b s, .int .i64 0])) := ⟨kv, b, s, 0, rfl, ⟨h0, h1⟩, hv, hs, fun _ => ⟨m, rfl⟩⟩
    clear m hP
    go_enter Tryz.func114, Tryz.ntmps114
    go_wp2_with (first
      | (go_at_call 15; refine (M.out _).mono ?_; rintro e w1 ⟨rfl, hb⟩; obtain ⟨z0, z1, q0, q1, q2, q3, q4, q5, q6, HB⟩ := step_box hb; clear hb)
      | (go_at_call 118; refine (isKind_is kv _ true hv (by symm; simpa using hk)).mono ?_; rintro e w2 ⟨rfl, rfl⟩))
    exact bodyPost_ret (v := .tuple #[V kv b s, .int .i64 0]) (by simp [results, Tryz.results114, go_sem, q3, q4, q5]) rfl ⟨CV, ((HB.setCell (by simp) _).setCell (by simp) _).setCell (by simp) _⟩
  · have f : (kv == k) = false := by simpa using e
    have hx := call_frombits
    by_cases e18 : kv = 18
    · subst e18
      have cm : calm b.toNat := by
        apply calm_of
        simp [may3, mayW] at m
        rcases m.2 with q | q
        · left; omega
        · right; exact q
      have F : Hid (∀ w, Calls Tryz.prog 140 #[.int .u8 k, .float .f64 b.toNat] w fun e w' => CvOk k e ∧ Below w.heap.size w w') := fun w => fromFloat_of k w b.toNat hk cm
      clear m hP e
      go_enter Tryz.func114, Tryz.ntmps114
      go_wp2_with (first
        | (go_at_call 15; refine (M.out _).mono ?_; rintro e w1 ⟨rfl, hb⟩; obtain ⟨z0, z1, q0, q1, q2, q3, q4, q5, q6, HB⟩ := step_box hb; clear hb)
        | (go_at_call 118; refine (isKind_is k _ true (by omega) (by symm; simpa using hk)).mono ?_; rintro e w2 ⟨rfl, rfl⟩)
        | (go_at_call 140; refine (F.out _).mono ?_; rintro e w4 ⟨⟨k', b', s', f, rfl, hb', hk', hs', hf⟩, hb4⟩; obtain ⟨u0, u1, l0, l1, l2⟩ := step2 hb4 z0 z1))
      exact bodyPost_ret (v := .tuple #[V k' b' s', .int .i64 f]) (by simp [results, Tryz.results114, go_sem, l1, q3, q4, q5]) rfl ⟨⟨k', b', s', f, rfl, hb', hk', hs', hf⟩, (((HB.trans (hb4.mono (Nat.le_of_lt z0))).setCell (by simp) _).setCell (by simp) _).setCell (by simp) _⟩
    · have f18 : (kv == 18) = false := by simpa using e18
      by_cases e19 : kv = 19
      · subst e19
        have F : Hid (∀ w, Calls Tryz.prog 141 #[.int .u8 k, .string s] w fun e w' => CvOk k e ∧ Below w.heap.size w w') := fun w => fromText_of k s w hk hs
        clear m hP e
        go_enter Tryz.func114, Tryz.ntmps114
        go_wp2_with (first
          | (go_at_call 15; refine (M.out _).mono ?_; rintro e w1 ⟨rfl, hb⟩; obtain ⟨z0, z1, q0, q1, q2, q3, q4, q5, q6, HB⟩ := step_box hb; clear hb)
          | (go_at_call 118; refine (isKind_is k _ true (by omega) (by symm; simpa using hk)).mono ?_; rintro e w2 ⟨rfl, rfl⟩)
          | (go_at_call 141; refine (F.out _).mono ?_; rintro e w4 ⟨⟨k', b', s', f, rfl, hb', hk', hs', hf⟩, hb4⟩; obtain ⟨u0, u1, l0, l1, l2⟩ := step2 hb4 z0 z1))
        exact bodyPost_ret (v := .tuple #[V k' b' s', .int .i64 f]) (by simp [results, Tryz.results114, go_sem, l1, q3, q4, q5]) rfl ⟨⟨k', b', s', f, rfl, hb', hk', hs', hf⟩, (((HB.trans (hb4.mono (Nat.le_of_lt z0))).setCell (by simp) _).setCell (by simp) _).setCell (by simp) _⟩
      · have f19 : (kv == 19) = false := by simpa using e19
        by_cases et : 14 ≤ kv ∧ kv ≤ 17
        · have F : Hid (∀ w, Calls Tryz.prog 143 #[.int .u8 k, V kv b s] w fun e w' => CvOk k e ∧ Below w.heap.size w w') := fun w => fromTime_of k kv b s w h0 h1 (by omega) m
          clear m hP e
          go_enter Tryz.func114, Tryz.ntmps114
          go_wp2_with (first
            | (go_at_call 15; refine (M.out _).mono ?_; rintro e w1 ⟨rfl, hb⟩; obtain ⟨z0, z1, q0, q1, q2, q3, q4, q5, q6, HB⟩ := step_box hb; clear hb)
            | (go_at_call 118; refine (isKind_is k _ true (by omega) (by symm; simpa using hk)).mono ?_; rintro e w2 ⟨rfl, rfl⟩)
            | (go_at_call 142; refine (isTime_is kv _ true hv (by symm; simpa using et)).mono ?_; rintro e w2 ⟨rfl, rfl⟩)
            | (go_at_call 143; refine (F.out _).mono ?_; rintro e w4 ⟨⟨k', b', s', f, rfl, hb', hk', hs', hf⟩, hb4⟩; obtain ⟨u0, u1, l0, l1, l2⟩ := step2 hb4 z0 z1))
          exact bodyPost_ret (v := .tuple #[V k' b' s', .int .i64 f]) (by simp [results, Tryz.results114, go_sem, l1, q3, q4, q5]) rfl ⟨⟨k', b', s', f, rfl, hb', hk', hs', hf⟩, (((HB.trans (hb4.mono (Nat.le_of_lt z0))).setCell (by simp) _).setCell (by simp) _).setCell (by simp) _⟩
        · have v1 : 1 ≤ kv ∧ kv ≤ 13 := by
            have : kv ≠ 0 ∧ kv ≤ 19 := by
              constructor
              · rintro rfl
                simp [may3, mayW] at m
              · apply Classical.byContradiction
                intro q
                simp only [may3, mayW] at m
                simp [show ¬ kv = 19 by omega, show ¬ kv = 1 by omega, show ¬ kv = 2 by omega, show ¬ kv = 3 by omega, show ¬ kv = 4 by omega, show ¬ kv = 5 by omega, show ¬ kv = 6 by omega, show ¬ kv = 7 by omega, show ¬ kv = 8 by omega, show ¬ kv = 9 by omega, show ¬ kv = 10 by omega, show ¬ kv = 11 by omega, show ¬ kv = 12 by omega, show ¬ kv = 13 by omega, show ¬ kv = 14 by omega, show ¬ kv = 15 by omega, show ¬ kv = 16 by omega, show ¬ kv = 17 by omega, show ¬ kv = 18 by omega] at m
            omega
          have F : Hid (∀ w, Pow w → Calls Tryz.prog 144 #[.int .u8 k, V kv b s] w fun e w' => CvOk k e ∧ Below w.heap.size w w') := fun w hp => fromPlain_of k kv b s w h0 h1 hs hk v1 m hp
          have HP : Hid (Pow w) := hP
          have ET : Hid _ := et
          clear m hP e et
          go_enter Tryz.func114, Tryz.ntmps114
          go_wp2_with (first
            | (go_at_call 15; refine (M.out _).mono ?_; rintro e w1 ⟨rfl, hb⟩; obtain ⟨z0, z1, q0, q1, q2, q3, q4, q5, q6, HB⟩ := step_box hb; clear hb)
            | (go_at_call 118; refine (isKind_is k _ true (by omega) (by symm; simpa using hk)).mono ?_; rintro e w2 ⟨rfl, rfl⟩)
            | (go_at_call 142; refine (isTime_is kv _ false hv (by symm; rw [decide_eq_false_iff_not]; exact ET.out)).mono ?_; rintro e w2 ⟨rfl, rfl⟩)
            | (go_at_call 144; refine (F.out _ (pow_below HP.out HB)).mono ?_; rintro e w4 ⟨⟨k', b', s', f, rfl, hb', hk', hs', hf⟩, hb4⟩; obtain ⟨u0, u1, l0, l1, l2⟩ := step2 hb4 z0 z1))
          exact bodyPost_ret (v := .tuple #[V k' b' s', .int .i64 f]) (by simp [results, Tryz.results114, go_sem, l1, q3, q4, q5]) rfl ⟨⟨k', b', s', f, rfl, hb', hk', hs', hf⟩, (((HB.trans (hb4.mono (Nat.le_of_lt z0))).setCell (by simp) _).setCell (by simp) _).setCell (by simp) _⟩
theorem Convert_of (h0 : 0 ≤ b) (h1 : b < 18446744073709551616) (hk : 0 ≤ k ∧ k < 256) (hv : 0 ≤ kv ∧ kv < 256) (hs : s.size ≤ maxLen) (hP : Pow w) : Calls Tryz.prog 114 #[.int .u8 k, V kv b s] w fun e w' => CvOk k e ∧ Below w.heap.size w w' := by
  by_cases a : may3 kv b s = false ∨ ¬ (1 ≤ k ∧ k ≤ 19)
  · exact Convert_x k kv b s w h0 h1 hk hv hs a
  · have m : may3 kv b s = true := by
      cases q : may3 kv b s
      · exact absurd (Or.inl q) a
      · rfl
    have d : 1 ≤ k ∧ k ≤ 19 := Classical.byContradiction (fun q => a (Or.inr q))
    exact Convert_y k kv b s w h0 h1 d hv hs m hP
end
end Go.Proofs.YtpaibmganlaaeaaGreatDoor
namespace Go.Proofs.YtpaibmganlaaeaaGreatDoor
set_option linter.unusedVariables false
open Go.RowKit
/-- A number's text. -/
def numS (n : Int) : ByteArray := if n < 0 then ⟨#[45]⟩ ++ decS n.natAbs else decS n.natAbs
/-- The number of bytes that are digits. -/
def rdL : List UInt8 → Int → Option Int
  | [], z => some z
  | c :: l, z => if (c.toNat : Int) < 48 then none else if 57 < (c.toNat : Int) then none else if (18446744073709551615 - ((c.toNat : Int) - 48)) / 10 < z then none else rdL l (z * 10 + ((c.toNat : Int) - 48))
theorem rdL_append (a b : List UInt8) : ∀ z, rdL (a ++ b) z = (rdL a z).bind fun y => rdL b y := by
  induction a with
  | nil => intro z; rfl
  | cons c a ih =>
    intro z
    simp only [List.cons_append, rdL]
    repeat' split
    all_goals first | rfl | exact ih _
theorem rdL_dec (u : Nat) : u < 18446744073709551616 → rdL (Lib.decDigits u) 0 = some (u : Int) := by
  induction u using Nat.strongRecOn with
  | _ u ih =>
    intro hu
    by_cases h : u < 10
    · rw [Lib.decDigits_one h]
      have e : (UInt8.ofNat (48 + u)).toNat = 48 + u := by simp; omega
      simp only [rdL, e]
      rw [if_neg (by omega), if_neg (by omega), if_neg (by omega)]
      congr 1
      omega
    · have e : Lib.decDigits u = Lib.decDigits (u / 10) ++ [UInt8.ofNat (48 + u % 10)] := by
        rw [Lib.decDigits, dif_neg h]
      rw [e, rdL_append, ih (u / 10) (by omega) (by omega)]
      have e2 : (UInt8.ofNat (48 + u % 10)).toNat = 48 + u % 10 := by simp; omega
      simp only [Option.bind_some, rdL, e2]
      rw [if_neg (by omega), if_neg (by omega), if_neg (by omega)]
      congr 1
      omega
theorem dec_first (u : Nat) : u < 18446744073709551616 → u ≠ 0 → ∃ c l, Lib.decDigits u = c :: l ∧ c.toNat ≠ 48 := by
  induction u using Nat.strongRecOn with
  | _ u ih =>
    intro hu h0
    by_cases h : u < 10
    · rw [Lib.decDigits_one h]
      refine ⟨_, _, rfl, ?_⟩
      have e : (UInt8.ofNat (48 + u)).toNat = 48 + u := by simp; omega
      omega
    · have e : Lib.decDigits u = Lib.decDigits (u / 10) ++ [UInt8.ofNat (48 + u % 10)] := by
        rw [Lib.decDigits, dif_neg h]
      obtain ⟨c, l, e2, h2⟩ := ih (u / 10) (by omega) (by omega) (by omega)
      exact ⟨c, l ++ [UInt8.ofNat (48 + u % 10)], by rw [e, e2]; rfl, h2⟩
theorem dec_head (u : Nat) (hu : u < 18446744073709551616) : ∃ c l, Lib.decDigits u = c :: l ∧ 48 ≤ c.toNat ∧ c.toNat ≤ 57 := by
  have r := rdL_dec u hu
  cases q : Lib.decDigits u with
  | nil =>
    have := Lib.decDigits_length u
    rw [q] at this
    by_cases h : u < 10
    · rw [Lib.decDigits_one h] at q
      cases q
    · rw [Lib.decDigits, dif_neg h] at q
      simp at q
  | cons c l =>
    refine ⟨c, l, rfl, ?_⟩
    rw [q] at r
    simp only [rdL] at r
    split at r
    · cases r
    · split at r
      · cases r
      · omega
theorem rdL_step (d : ByteArray) (k : Nat) (z u : Int) (h : k < d.size) (r : rdL (d.data.toList.drop k) z = some u) : 48 ≤ (d[k].toNat : Int) ∧ (d[k].toNat : Int) ≤ 57 ∧ z ≤ (18446744073709551615 - ((d[k].toNat : Int) - 48)) / 10 ∧ rdL (d.data.toList.drop (k + 1)) (z * 10 + ((d[k].toNat : Int) - 48)) = some u := by
  have e : d.data.toList.drop k = d[k] :: d.data.toList.drop (k + 1) := by
    rw [List.drop_eq_getElem_cons (by simpa using h)]; rfl
  rw [e] at r
  simp only [rdL] at r
  split at r
  · cases r
  · split at r
    · cases r
    · split at r
      · cases r
      · exact ⟨by omega, by omega, by omega, r⟩
set_option maxHeartbeats 2000000 in
theorem readNumber_rd (s d : ByteArray) (p : Bool) (u : Int) (w : World) (C : Hid (∀ w, Calls Tryz.prog 182 #[.string s, .string sMinus] w fun e w' => e = .returned (.tuple #[.string d, .bool p]) ∧ w' = w)) (hd : d.size ≤ maxLen) (h0 : 0 < d.size)
    (hq : (d[0].toNat : Int) ≠ 48 ∨ (s.toList == [48]) = true) (R : Hid (rdL d.data.toList 0 = some u)) (hP : p = true → 1 ≤ u) :
    Calls Tryz.prog 163 #[.string s] w fun e w' => e = .returned (.tuple #[NB (sgn p u), .bool true]) ∧ Below w.heap.size w w' := by
  have hm : d.size ≤ 9223372036854775807 := hd
  unfold sgn
  have g : (d.toList == []) = false := by
    rw [beq_eq_false_iff_ne, ByteArray.toList_eq]
    intro q
    have : d.data.toList.length = 0 := by rw [q]; rfl
    rw [Array.length_toList] at this
    have e : d.data.size = d.size := rfl
    omega
  go_enter Tryz.func163, Tryz.ntmps163
  rcases hq with q0 | q1
  · have q0' : ((d[0].toNat : Int) == 48) = false := by simpa using q0
    have X : Unit := ()
    cases X with
    | unit =>
        go_wp2_with (go_at_call 182; refine (C.out _).mono ?_; rintro e w' ⟨rfl, rfl⟩)
        go_loop [6, 28] (fun sz i => ∃ (k : Nat) (z : Int), k ≤ d.size ∧ i = .int .i64 k ∧ sz = .int .u64 z ∧ 0 ≤ z ∧ z ≤ 18446744073709551615 ∧ Hid (rdL (d.data.toList.drop k) z = some u)) (fun _ i => d.size - (intOf i).toNat)
        case atStart => exact ⟨0, 0, Nat.zero_le _, rfl, rfl, by omega, by omega, by show _ = _; simpa using R.out⟩
        case round =>
          obtain ⟨k, z, hk, rfl, rfl, z0, z1, Z⟩ := hrel
          by_cases hlt : k < d.size
          · obtain ⟨c1, c2, c3, zn⟩ := rdL_step d k z u hlt Z.out
            have Z2 : Hid _ := zn
            clear Z zn
            go_wp2
            go_round
            case rel =>
              go_light
              exact ⟨k + 1, z * 10 + ((d[k].toNat : Int) - 48), by omega, by go_num, rfl, by omega, by omega, Z2⟩
            case measure => simp [intOf]; omega
          · have e : z = u := by
              have q := Z.out
              rw [show d.data.toList.drop k = [] from List.drop_eq_nil_of_le (by simp; omega)] at q
              simp [rdL] at q
              exact q
            clear Z
            subst e
            cases p
            · go_wp2
              exact bodyPost_ret (v := .tuple #[NB z, .bool true]) (by rw [NB_raw_pos z0]; simp [results, Tryz.results163, go_sem]) rfl ⟨rfl, by go_grown⟩
            · have z2 := hP rfl
              go_wp2
              exact bodyPost_ret (v := .tuple #[NB (-z), .bool true]) (by rw [NB_raw_neg (by omega : -z < 0), show ((-z).natAbs : Int) = z by omega]; simp [results, Tryz.results163, go_sem]) rfl ⟨rfl, by go_grown⟩
  · by_cases q0 : (d[0].toNat : Int) = 48
    case pos =>
        go_wp2_with (go_at_call 182; refine (C.out _).mono ?_; rintro e w' ⟨rfl, rfl⟩)
        go_loop [6, 28] (fun sz i => ∃ (k : Nat) (z : Int), k ≤ d.size ∧ i = .int .i64 k ∧ sz = .int .u64 z ∧ 0 ≤ z ∧ z ≤ 18446744073709551615 ∧ Hid (rdL (d.data.toList.drop k) z = some u)) (fun _ i => d.size - (intOf i).toNat)
        case atStart => exact ⟨0, 0, Nat.zero_le _, rfl, rfl, by omega, by omega, by show _ = _; simpa using R.out⟩
        case round =>
          obtain ⟨k, z, hk, rfl, rfl, z0, z1, Z⟩ := hrel
          by_cases hlt : k < d.size
          · obtain ⟨c1, c2, c3, zn⟩ := rdL_step d k z u hlt Z.out
            have Z2 : Hid _ := zn
            clear Z zn
            go_wp2
            go_round
            case rel =>
              go_light
              exact ⟨k + 1, z * 10 + ((d[k].toNat : Int) - 48), by omega, by go_num, rfl, by omega, by omega, Z2⟩
            case measure => simp [intOf]; omega
          · have e : z = u := by
              have q := Z.out
              rw [show d.data.toList.drop k = [] from List.drop_eq_nil_of_le (by simp; omega)] at q
              simp [rdL] at q
              exact q
            clear Z
            subst e
            cases p
            · go_wp2
              exact bodyPost_ret (v := .tuple #[NB z, .bool true]) (by rw [NB_raw_pos z0]; simp [results, Tryz.results163, go_sem]) rfl ⟨rfl, by go_grown⟩
            · have z2 := hP rfl
              go_wp2
              exact bodyPost_ret (v := .tuple #[NB (-z), .bool true]) (by rw [NB_raw_neg (by omega : -z < 0), show ((-z).natAbs : Int) = z by omega]; simp [results, Tryz.results163, go_sem]) rfl ⟨rfl, by go_grown⟩
    case neg =>
        go_wp2_with (go_at_call 182; refine (C.out _).mono ?_; rintro e w' ⟨rfl, rfl⟩)
        go_loop [6, 28] (fun sz i => ∃ (k : Nat) (z : Int), k ≤ d.size ∧ i = .int .i64 k ∧ sz = .int .u64 z ∧ 0 ≤ z ∧ z ≤ 18446744073709551615 ∧ Hid (rdL (d.data.toList.drop k) z = some u)) (fun _ i => d.size - (intOf i).toNat)
        case atStart => exact ⟨0, 0, Nat.zero_le _, rfl, rfl, by omega, by omega, by show _ = _; simpa using R.out⟩
        case round =>
          obtain ⟨k, z, hk, rfl, rfl, z0, z1, Z⟩ := hrel
          by_cases hlt : k < d.size
          · obtain ⟨c1, c2, c3, zn⟩ := rdL_step d k z u hlt Z.out
            have Z2 : Hid _ := zn
            clear Z zn
            go_wp2
            go_round
            case rel =>
              go_light
              exact ⟨k + 1, z * 10 + ((d[k].toNat : Int) - 48), by omega, by go_num, rfl, by omega, by omega, Z2⟩
            case measure => simp [intOf]; omega
          · have e : z = u := by
              have q := Z.out
              rw [show d.data.toList.drop k = [] from List.drop_eq_nil_of_le (by simp; omega)] at q
              simp [rdL] at q
              exact q
            clear Z
            subst e
            cases p
            · go_wp2
              exact bodyPost_ret (v := .tuple #[NB z, .bool true]) (by rw [NB_raw_pos z0]; simp [results, Tryz.results163, go_sem]) rfl ⟨rfl, by go_grown⟩
            · have z2 := hP rfl
              go_wp2
              exact bodyPost_ret (v := .tuple #[NB (-z), .bool true]) (by rw [NB_raw_neg (by omega : -z < 0), show ((-z).natAbs : Int) = z by omega]; simp [results, Tryz.results163, go_sem]) rfl ⟨rfl, by go_grown⟩
end Go.Proofs.YtpaibmganlaaeaaGreatDoor
namespace Go.Proofs.YtpaibmganlaaeaaGreatDoor
set_option linter.unusedVariables false
open Go.RowKit
/-- At the kth byte the number goes on, or it is none. -/
theorem rdL_at (d : ByteArray) (k : Nat) (z : Int) (h : k < d.size) : rdL (d.data.toList.drop k) z = if (d[k].toNat : Int) < 48 then none else if 57 < (d[k].toNat : Int) then none else if (18446744073709551615 - ((d[k].toNat : Int) - 48)) / 10 < z then none else rdL (d.data.toList.drop (k + 1)) (z * 10 + ((d[k].toNat : Int) - 48)) := by
  have e : d.data.toList.drop k = d[k] :: d.data.toList.drop (k + 1) := by
    rw [List.drop_eq_getElem_cons (by simpa using h)]; rfl
  rw [e]
  rfl
set_option maxHeartbeats 2000000 in
theorem readNumber_none (s d : ByteArray) (p : Bool) (w : World) (C : Hid (∀ w, Calls Tryz.prog 182 #[.string s, .string sMinus] w fun e w' => e = .returned (.tuple #[.string d, .bool p]) ∧ w' = w)) (hd : d.size ≤ maxLen) (h0 : 0 < d.size)
    (hq : (d[0].toNat : Int) ≠ 48) (R : Hid (rdL d.data.toList 0 = none)) :
    Calls Tryz.prog 163 #[.string s] w fun e w' => e = .returned (.tuple #[NB 0, .bool false]) ∧ Below w.heap.size w w' := by
  have hm : d.size ≤ 9223372036854775807 := hd
  have g : (d.toList == []) = false := by
    rw [beq_eq_false_iff_ne, ByteArray.toList_eq]
    intro q
    have : d.data.toList.length = 0 := by rw [q]; rfl
    rw [Array.length_toList] at this
    have e : d.data.size = d.size := rfl
    omega
  have q0' : ((d[0].toNat : Int) == 48) = false := by simpa using hq
  go_enter Tryz.func163, Tryz.ntmps163
  go_wp2_with (go_at_call 182; refine (C.out _).mono ?_; rintro e w' ⟨rfl, rfl⟩)
  go_loop [6, 28] (fun sz i => ∃ (k : Nat) (z : Int), k ≤ d.size ∧ i = .int .i64 k ∧ sz = .int .u64 z ∧ 0 ≤ z ∧ z ≤ 18446744073709551615 ∧ Hid (rdL (d.data.toList.drop k) z = none)) (fun _ i => d.size - (intOf i).toNat)
  case atStart => exact ⟨0, 0, Nat.zero_le _, rfl, rfl, by omega, by omega, by show _ = _; simpa using R.out⟩
  case round =>
    obtain ⟨k, z, hk, rfl, rfl, z0, z1, Z⟩ := hrel
    by_cases hlt : k < d.size
    · have ST : Hid _ := rdL_at d k z hlt
      by_cases c1 : (d[k].toNat : Int) < 48
      · clear ST Z
        go_wp2
        exact bodyPost_ret (v := .tuple #[NB 0, .bool false]) (by rw [NB_raw_pos (by omega)]; simp [results, Tryz.results163, go_sem]) rfl ⟨rfl, by go_grown⟩
      · by_cases c2 : 57 < (d[k].toNat : Int)
        · clear ST Z
          go_wp2
          exact bodyPost_ret (v := .tuple #[NB 0, .bool false]) (by rw [NB_raw_pos (by omega)]; simp [results, Tryz.results163, go_sem]) rfl ⟨rfl, by go_grown⟩
        · by_cases c3 : (18446744073709551615 - ((d[k].toNat : Int) - 48)) / 10 < z
          · clear ST Z
            go_wp2
            exact bodyPost_ret (v := .tuple #[NB 0, .bool false]) (by rw [NB_raw_pos (by omega)]; simp [results, Tryz.results163, go_sem]) rfl ⟨rfl, by go_grown⟩
          · have NX : Hid (rdL (d.data.toList.drop (k + 1)) (z * 10 + ((d[k].toNat : Int) - 48)) = none) := by
              show _ = _
              have q := Z.out
              rwa [ST.out, if_neg c1, if_neg c2, if_neg c3] at q
            clear ST Z
            go_wp2
            go_round
            case rel =>
              go_light
              exact ⟨k + 1, z * 10 + ((d[k].toNat : Int) - 48), by omega, by go_num, rfl, by omega, by omega, NX⟩
            case measure => simp [intOf]; omega
    · exfalso
      have q := Z.out
      rw [show d.data.toList.drop k = [] from List.drop_eq_nil_of_le (by simp; omega)] at q
      cases q
theorem readNumber_empty (s d : ByteArray) (p : Bool) (w : World) (C : Hid (∀ w, Calls Tryz.prog 182 #[.string s, .string sMinus] w fun e w' => e = .returned (.tuple #[.string d, .bool p]) ∧ w' = w)) (h0 : d.size = 0) :
    Calls Tryz.prog 163 #[.string s] w fun e w' => e = .returned (.tuple #[NB 0, .bool false]) ∧ Below w.heap.size w w' := by
  have g : (d.toList == []) = true := by
    rw [beq_iff_eq, ByteArray.toList_eq]
    apply List.eq_nil_of_length_eq_zero
    rw [Array.length_toList]
    exact h0
  go_enter Tryz.func163, Tryz.ntmps163
  go_wp2_with (go_at_call 182; refine (C.out _).mono ?_; rintro e w' ⟨rfl, rfl⟩)
  exact bodyPost_ret (v := .tuple #[NB 0, .bool false]) (by rw [NB_raw_pos (by omega)]; simp [results, Tryz.results163, go_sem]) rfl ⟨rfl, by go_grown⟩
theorem readNumber_nought (s d : ByteArray) (p : Bool) (w : World) (C : Hid (∀ w, Calls Tryz.prog 182 #[.string s, .string sMinus] w fun e w' => e = .returned (.tuple #[.string d, .bool p]) ∧ w' = w)) (hd : d.size ≤ maxLen) (h0 : 0 < d.size) (hq : (d[0].toNat : Int) = 48) (hs : (s.toList == [48]) = false) :
    Calls Tryz.prog 163 #[.string s] w fun e w' => e = .returned (.tuple #[NB 0, .bool false]) ∧ Below w.heap.size w w' := by
  have hm : d.size ≤ 9223372036854775807 := hd
  have g : (d.toList == []) = false := by
    rw [beq_eq_false_iff_ne, ByteArray.toList_eq]
    intro q
    have : d.data.toList.length = 0 := by rw [q]; rfl
    rw [Array.length_toList] at this
    have e : d.data.size = d.size := rfl
    omega
  have hs2 : (s.toList != [48]) = true := by rw [bne, hs]; rfl
  go_enter Tryz.func163, Tryz.ntmps163
  go_wp2_with (go_at_call 182; refine (C.out _).mono ?_; rintro e w' ⟨rfl, rfl⟩)
  exact bodyPost_ret (v := .tuple #[NB 0, .bool false]) (by rw [NB_raw_pos (by omega)]; simp [results, Tryz.results163, go_sem]) rfl ⟨rfl, by go_grown⟩
end Go.Proofs.YtpaibmganlaaeaaGreatDoor
namespace Go.Proofs.YtpaibmganlaaeaaGreatDoor
set_option linter.unusedVariables false
open Go.RowKit
/-- The number of a text without a sign. -/
def dgO (l : List UInt8) : Option Int := if l = [] ∨ 20 < l.length ∨ (1 < l.length ∧ l.head? = some 48) then none else rdL l 0
def dgV (o : Option Int) : Value := match o with
  | none => .tuple #[.int .u64 0, .bool false]
  | some n => .tuple #[.int .u64 n, .bool true]
set_option maxHeartbeats 2000000 in
theorem digitsR1_of (s : ByteArray) (w : World) (hs : s.size ≤ maxLen) : Calls Tryz.prog 173 #[.string s] w fun e w' => e = .returned (dgV (dgO s.data.toList)) ∧ w' = w := by
  have hm : s.size ≤ 9223372036854775807 := hs
  have SL : Hid (s.data.toList.length = s.size) := by show _ = _; simp
  generalize hR : dgO s.data.toList = R
  have HR : Hid (dgO s.data.toList = R) := hR
  clear hR
  by_cases z0 : s.size = 0
  · have E : Hid (R = none) := by
      show _ = _
      rw [← HR.out, dgO, if_pos (Or.inl (List.eq_nil_of_length_eq_zero (by rw [SL.out]; exact z0)))]
    have g : s.toList.isEmpty = true := by
      rw [ByteArray.toList_eq, List.isEmpty_iff]
      exact List.eq_nil_of_length_eq_zero (by rw [SL.out]; exact z0)
    clear HR
    go_enter Tryz.func173, Tryz.ntmps173
    go_wp2
    go_returns
    exact ⟨by rw [E.out]; rfl, rfl⟩
  have g : s.toList.isEmpty = false := by
    rw [ByteArray.toList_eq]
    cases q : s.data.toList with
    | nil => have := SL.out; rw [q] at this; simp at this; omega
    | cons a l => rfl
  by_cases l20 : 20 < s.size
  · have E : Hid (R = none) := by
      show _ = _
      rw [← HR.out, dgO, if_pos (Or.inr (Or.inl (by rw [SL.out]; exact l20)))]
    have l20' : (20 : Int) < s.size := by omega
    clear HR
    go_enter Tryz.func173, Tryz.ntmps173
    go_wp2
    go_returns
    exact ⟨by rw [E.out]; rfl, rfl⟩
  have h1 : 0 < s.size := by omega
  have hd : Hid (s.data.toList.head? = some s[0]) := by
    show _ = _
    rw [List.head?_eq_getElem?, List.getElem?_eq_getElem (by rw [SL.out]; exact h1)]
    rfl
  by_cases lead : 1 < s.size ∧ (s[0].toNat : Int) = 48
  · obtain ⟨l1, l2⟩ := lead
    have E : Hid (R = none) := by
      show _ = _
      have : s[0] = 48 := UInt8.toNat_inj.mp (by show s[0].toNat = 48; omega)
      rw [← HR.out, dgO, if_pos (Or.inr (Or.inr ⟨by rw [SL.out]; exact l1, by rw [hd.out, this]⟩))]
    have l1' : (1 : Int) < s.size := by omega
    clear HR hd
    go_enter Tryz.func173, Tryz.ntmps173
    go_wp2
    go_returns
    exact ⟨by rw [E.out]; rfl, rfl⟩
  have RD : Hid (rdL s.data.toList 0 = R) := by
    show _ = _
    rw [← HR.out, dgO, if_neg]
    rintro (q | q | ⟨q1, q2⟩)
    · rw [q] at SL
      have := SL.out
      simp at this
      omega
    · rw [SL.out] at q; omega
    · rw [SL.out] at q1
      rw [hd.out] at q2
      exact lead ⟨q1, by rw [Option.some.inj q2]; rfl⟩
  have way : ¬ (1 : Int) < s.size ∨ ((1 : Int) < s.size ∧ ¬ (s[0].toNat : Int) = 48) := by
    by_cases q : 1 < s.size
    · right; exact ⟨by omega, fun e => lead ⟨q, e⟩⟩
    · left; omega
  clear HR hd lead
  rcases way with w1 | ⟨w1, w2⟩
  all_goals
    try have w2' : ((s[0].toNat : Int) == 48) = false := by simpa using w2
    go_enter Tryz.func173, Tryz.ntmps173
    go_wp2_with fail
    go_loop [4, 5] (fun sz i => ∃ (k : Nat) (z : Int), k ≤ s.size ∧ i = .int .i64 k ∧ sz = .int .u64 z ∧ 0 ≤ z ∧ z ≤ 18446744073709551615 ∧ Hid (rdL (s.data.toList.drop k) z = R)) (fun _ i => s.size - (intOf i).toNat)
    case atStart => exact ⟨0, 0, Nat.zero_le _, rfl, rfl, by omega, by omega, by show _ = _; simpa using RD.out⟩
    case round =>
      obtain ⟨k, z, hk, rfl, rfl, z0', z1, Z⟩ := hrel
      by_cases hlt : k < s.size
      · have i1 : (k : Int) < s.size := by omega
        have ST : Hid _ := rdL_at s k z hlt
        by_cases c1 : (s[k].toNat : Int) < 48
        · have E : Hid (R = none) := by
            show _ = _
            rw [← Z.out, ST.out, if_pos c1]
          clear ST Z
          go_wp2
          go_returns
          exact ⟨by rw [E.out]; rfl, rfl⟩
        · by_cases c2 : 57 < (s[k].toNat : Int)
          · have E : Hid (R = none) := by
              show _ = _
              rw [← Z.out, ST.out, if_neg c1, if_pos c2]
            clear ST Z
            go_wp2
            go_returns
            exact ⟨by rw [E.out]; rfl, rfl⟩
          · by_cases c3 : (18446744073709551615 - ((s[k].toNat : Int) - 48)) / 10 < z
            · have E : Hid (R = none) := by
                show _ = _
                rw [← Z.out, ST.out, if_neg c1, if_neg c2, if_pos c3]
              clear ST Z
              go_wp2
              go_returns
              exact ⟨by rw [E.out]; rfl, rfl⟩
            · have NX : Hid (rdL (s.data.toList.drop (k + 1)) (z * 10 + ((s[k].toNat : Int) - 48)) = R) := by
                show _ = _
                rw [← Z.out, ST.out, if_neg c1, if_neg c2, if_neg c3]
              clear ST Z
              go_wp2
              go_round
              case rel =>
                go_light
                exact ⟨k + 1, z * 10 + ((s[k].toNat : Int) - 48), by omega, by go_num, rfl, by omega, by omega, NX⟩
              case measure => simp [intOf]; omega
      · have E : Hid (R = some z) := by
          show _ = _
          rw [← Z.out, show s.data.toList.drop k = [] from List.drop_eq_nil_of_le (by rw [SL.out]; omega)]
          rfl
        clear Z
        go_wp2
        go_returns
        exact ⟨by rw [E.out]; rfl, rfl⟩
end Go.Proofs.YtpaibmganlaaeaaGreatDoor
namespace Go.Proofs.YtpaibmganlaaeaaGreatDoor
set_option linter.unusedVariables false
/-- What is read is no less than its first digits say, and below 2^64. -/
theorem rdL_bd : ∀ (l : List UInt8) (z u : Int), 0 ≤ z → z ≤ 18446744073709551615 → rdL l z = some u → z * 10 ^ l.length ≤ u ∧ u ≤ 18446744073709551615
  | [], z, u, h0, h1, h => by
    have : z = u := Option.some.inj h
    simp
    omega
  | c :: l, z, u, h0, h1, h => by
    simp only [rdL] at h
    split at h
    · cases h
    · split at h
      · cases h
      · split at h
        · cases h
        · obtain ⟨a, b⟩ := rdL_bd l (z * 10 + ((c.toNat : Int) - 48)) u (by omega) (by omega) h
          refine ⟨?_, b⟩
          have p : (0 : Int) ≤ 10 ^ l.length := Int.le_of_lt (Int.pow_pos (by omega))
          have e : z * 10 ^ (c :: l).length = z * 10 * 10 ^ l.length := by
            rw [List.length_cons, Int.pow_succ, Int.mul_comm (10 ^ l.length), Int.mul_assoc]
          rw [e]
          have q : 0 ≤ ((c.toNat : Int) - 48) * 10 ^ l.length := Int.mul_nonneg (by omega) p
          rw [Int.add_mul] at a
          omega
/-- Without a nought ahead it is 1 or more, and of 20 digits at most. -/
theorem rdL_first (c : UInt8) (l : List UInt8) (u : Int) (hc : ¬ c = 48) (h : rdL (c :: l) 0 = some u) : 1 ≤ u ∧ u ≤ 18446744073709551615 ∧ l.length ≤ 19 := by
  simp only [rdL] at h
  split at h
  · cases h
  · split at h
    · cases h
    · split at h
      · cases h
      · have c48 : (c.toNat : Int) ≠ 48 := fun e => hc (UInt8.toNat_inj.mp (by show c.toNat = 48; omega))
        obtain ⟨a, b⟩ := rdL_bd l (0 * 10 + ((c.toNat : Int) - 48)) u (by omega) (by omega) h
        have p1 : (1 : Int) ≤ 10 ^ l.length := Int.add_one_le_of_lt (Int.pow_pos (by omega))
        have d1 : 1 ≤ (c.toNat : Int) - 48 := by omega
        have m : 1 * (10 : Int) ^ l.length ≤ (0 * 10 + ((c.toNat : Int) - 48)) * 10 ^ l.length := Int.mul_le_mul_of_nonneg_right (by omega) (by omega)
        refine ⟨by omega, b, ?_⟩
        by_cases g : l.length ≤ 19
        · exact g
        · exfalso
          have : (10 : Nat) ^ 20 ≤ 10 ^ l.length := Nat.pow_le_pow_right (by omega) (by omega)
          have e : ((10 ^ l.length : Nat) : Int) = (10 : Int) ^ l.length := by push_cast; rfl
          have : (100000000000000000000 : Int) ≤ (10 : Int) ^ l.length := by rw [← e]; exact Int.ofNat_le.mpr this
          omega
/-- A text's number, the program's way and the document's. -/
def txC (l : List UInt8) : Option Int :=
  if (if l.head? = some 45 then l.tail else l) = [] ∨ ((if l.head? = some 45 then l.tail else l).head? = some 48 ∧ ¬ l = [48]) then none
  else (rdL (if l.head? = some 45 then l.tail else l) 0).map fun u => if l.head? = some 45 then -u else u
def txR (l : List UInt8) : Option Int :=
  match dgO (if 1 < l.length ∧ l.head? = some 45 then l.tail else l) with
  | none => none
  | some u => if (1 < l.length ∧ l.head? = some 45) ∧ u = 0 then none else some (if 1 < l.length ∧ l.head? = some 45 then -u else u)
/-- Of digits without a nought ahead both read the same. -/
theorem dgO_first (c : UInt8) (l : List UInt8) (hc : ¬ c = 48) : dgO (c :: l) = rdL (c :: l) 0 := by
  unfold dgO
  by_cases g : 20 < (c :: l).length
  · rw [if_pos (Or.inr (Or.inl g))]
    cases q : rdL (c :: l) 0 with
    | none => rfl
    | some u =>
      have := (rdL_first c l u hc q).2.2
      simp at g
      omega
  · rw [if_neg]
    rintro (h | h | ⟨_, h⟩)
    · cases h
    · exact g h
    · exact hc (by simpa using h)
theorem tx_same (l : List UInt8) : txC l = txR l := by
  unfold txC txR
  cases l with
  | nil => rfl
  | cons a t =>
    by_cases m : a = 45
    · subst m
      cases t with
      | nil => rfl
      | cons c r =>
        have p : 1 < (45 :: c :: r : List UInt8).length ∧ (45 :: c :: r : List UInt8).head? = some 45 := ⟨by simp, rfl⟩
        have hh : (45 :: c :: r : List UInt8).head? = some 45 := rfl
        simp only [if_pos p, if_pos hh, List.tail_cons]
        by_cases z : c = 48
        · subst z
          rw [if_pos (Or.inr ⟨rfl, by simp⟩)]
          cases r with
          | nil => rfl
          | cons d r =>
            have : dgO (48 :: d :: r) = none := by
              unfold dgO
              rw [if_pos (Or.inr (Or.inr ⟨by simp, rfl⟩))]
            rw [this]
        · rw [if_neg (by simp [z]), dgO_first c r z]
          cases q : rdL (c :: r) 0 with
          | none => rfl
          | some u =>
            have b := (rdL_first c r u z q).1
            simp only [Option.map_some]
            rw [if_neg (by omega)]
    · have hh : ¬ (a :: t).head? = some 45 := by simpa using m
      have p : ¬ (1 < (a :: t).length ∧ (a :: t).head? = some 45) := fun h => hh h.2
      simp only [if_neg p, if_neg hh]
      by_cases z : a = 48
      · subst z
        cases t with
        | nil => rfl
        | cons d r =>
          have : dgO (48 :: d :: r) = none := by
            unfold dgO
            rw [if_pos (Or.inr (Or.inr ⟨by simp, rfl⟩))]
          rw [this, if_pos (Or.inr ⟨rfl, by simp⟩)]
      · rw [if_neg (by simp [z]), dgO_first a t z]
        cases q : rdL (a :: t) 0 with
        | none => rfl
        | some u =>
          simp only [Option.map_some]
          rw [if_neg (fun h => p h.1)]
end Go.Proofs.YtpaibmganlaaeaaGreatDoor
namespace Go.Proofs.YtpaibmganlaaeaaGreatDoor
set_option linter.unusedVariables false
open Go.RowKit
theorem min_head (s : ByteArray) : minB s = decide (s.data.toList.head? = some 45) := by
  have sl : s.data.toList.length = s.size := by simp
  unfold minB
  have e : (s.extract 0 1).toList = s.data.toList.take 1 := by
    rw [ByteArray.toList_eq, ByteArray.data_extract]
    simp
  rw [e, ← sl]
  cases s.data.toList with
  | nil => rfl
  | cons a t =>
    by_cases h : a = 45 <;> simp [h]
theorem aft_list (s : ByteArray) : (aftS s).data.toList = if s.data.toList.head? = some 45 then s.data.toList.tail else s.data.toList := by
  have m := min_head s
  unfold aftS
  by_cases h : s.data.toList.head? = some 45
  · rw [decide_eq_true h] at m
    rw [m, if_pos rfl, if_pos h, ByteArray.data_extract]
    simp
    exact List.take_of_length_le (by rw [List.length_tail]; simp)
  · rw [decide_eq_false h] at m
    rw [m, if_neg h]
    rfl
/-- The number, or none. -/
def rnX (o : Option Int) : Value := match o with
  | none => .tuple #[NB 0, .bool false]
  | some n => .tuple #[NB n, .bool true]
theorem readNumber_exact (s : ByteArray) (w : World) (hs : s.size ≤ maxLen) : Calls Tryz.prog 163 #[.string s] w fun e w' => e = .returned (rnX (txC s.data.toList)) ∧ Below w.heap.size w w' := by
  have C : Hid (∀ w, Calls Tryz.prog 182 #[.string s, .string sMinus] w fun e w' => e = .returned (.tuple #[.string (aftS s), .bool (minB s)]) ∧ w' = w) := fun w => CutPrefix_of s w hs
  have al := aft_list s
  have mh := min_head s
  have dl : (aftS s).data.toList.length = (aftS s).size := by simp
  have sl : s.data.toList.length = s.size := by simp
  have dz : (aftS s).size ≤ maxLen := by
    rw [← dl, al]
    split
    · rw [List.length_tail, sl]; omega
    · rw [sl]; exact hs
  unfold txC
  rw [← al]
  generalize aftS s = d at *
  by_cases z : d.size = 0
  · rw [if_pos (Or.inl (List.eq_nil_of_length_eq_zero (by omega)))]
    exact readNumber_empty s d _ w C z
  · have h0 : 0 < d.size := by omega
    have hd : d.data.toList.head? = some d[0] := by
      rw [List.head?_eq_getElem?, List.getElem?_eq_getElem (by omega)]
      rfl
    have ne : ¬ d.data.toList = [] := fun e => by rw [e] at dl; simp at dl; omega
    have s48 : (s.toList == [48]) = decide (s.data.toList = [48]) := by
      rw [ByteArray.toList_eq]
      by_cases g : s.data.toList = [48]
      · rw [g]; rfl
      · rw [decide_eq_false g]; exact beq_eq_false_iff_ne.mpr g
    by_cases q : (d[0].toNat : Int) = 48
    · have q' : d[0] = 48 := UInt8.toNat_inj.mp (by show d[0].toNat = 48; omega)
      by_cases g : s.data.toList = [48]
      · rw [if_neg (fun h => h.elim ne (fun h => h.2 g))]
        have nm : ¬ s.data.toList.head? = some 45 := by rw [g]; simp
        rw [if_neg nm, g] at al
        have r : rdL d.data.toList 0 = some 0 := by rw [al]; rfl
        rw [r]
        have m : minB s = false := by rw [mh, decide_eq_false nm]
        rw [m] at C
        have := readNumber_rd s d false 0 w C dz h0 (Or.inr (by rw [s48, decide_eq_true g])) r (fun h => by cases h)
        simp only [Option.map_some, if_neg nm]
        simpa [sgn, rnX] using this
      · rw [if_pos (Or.inr ⟨by rw [hd, q'], g⟩)]
        exact readNumber_nought s d _ w C dz h0 q (by rw [s48, decide_eq_false g])
    · have q' : ¬ d[0] = 48 := fun e => q (by rw [e]; rfl)
      rw [if_neg (fun h => h.elim ne (fun h => q' (Option.some.inj (hd.symm.trans h.1))))]
      cases r : rdL d.data.toList 0 with
      | none => exact readNumber_none s d _ w C dz h0 q r
      | some u =>
        have u1 : 1 ≤ u := by
          obtain ⟨a, t, e⟩ : ∃ a t, d.data.toList = a :: t := by
            cases x : d.data.toList with
            | nil => exact absurd x ne
            | cons a t => exact ⟨a, t, rfl⟩
          rw [e] at r hd
          have : a = d[0] := by simpa using hd
          exact (rdL_first a t u (by rw [this]; exact q') r).1
        have := readNumber_rd s d _ u w C dz h0 (Or.inl q) r (fun _ => u1)
        rw [mh] at this
        by_cases g : s.data.toList.head? = some 45
        · rw [decide_eq_true g] at this
          simp only [Option.map_some, if_pos g]
          simpa [sgn, rnX] using this
        · rw [decide_eq_false g] at this
          simp only [Option.map_some, if_neg g]
          simpa [sgn, rnX] using this
end Go.Proofs.YtpaibmganlaaeaaGreatDoor
