/- What hasForm and field of times answer, and what the document's fixed and at do; no statement of the seat is proved here. -/
import Derived.Test.YtpdnlojennhmpaaDoorPqS
import Derived.Test.YtpdnlojennhmpaaDoorSubG
namespace Go.Proofs.YtpdnlojennhmpaaDoor
set_option linter.unusedVariables false
open Go.RowKit
/-- Does a byte stand for a form's? -/
def fmB (c f : UInt8) : Bool := if f = 48 then digT (c.toNat : Int) else decide (c = f)
def fmL : List UInt8 → List UInt8 → Bool
  | [], [] => true
  | c :: l, f :: m => fmB c f && fmL l m
  | _, _ => false
theorem fmL_len : ∀ (l m : List UInt8), fmL l m = true → l.length = m.length
  | [], [], _ => rfl
  | c :: l, f :: m, h => by
    simp only [fmL, Bool.and_eq_true] at h
    have := fmL_len l m h.2
    simp [this]
  | [], _ :: _, h => by cases h
  | _ :: _, [], h => by cases h
theorem fmL_drop (s f : ByteArray) (k : Nat) (h1 : k < s.size) (h2 : k < f.size) : fmL (s.data.toList.drop k) (f.data.toList.drop k) = (fmB s[k] f[k] && fmL (s.data.toList.drop (k + 1)) (f.data.toList.drop (k + 1))) := by
  have e1 : s.data.toList.drop k = s[k] :: s.data.toList.drop (k + 1) := by
    rw [List.drop_eq_getElem_cons (by simpa using h1)]; rfl
  have e2 : f.data.toList.drop k = f[k] :: f.data.toList.drop (k + 1) := by
    rw [List.drop_eq_getElem_cons (by simpa using h2)]; rfl
  rw [e1, e2]
  rfl
set_option maxHeartbeats 1000000 in
theorem hasForm_exact (s f : ByteArray) (w : World) (hs : s.size ≤ maxLen) : Calls Tryd.prog 20 #[.string s, .string f] w fun e w' => e = .returned (.bool (fmL s.data.toList f.data.toList)) ∧ Below w.heap.size w w' := by
  have hm : s.size ≤ 9223372036854775807 := hs
  generalize hR : fmL s.data.toList f.data.toList = R
  have HR : Hid (fmL s.data.toList f.data.toList = R) := hR
  clear hR
  go_enter Tryd.func20, Tryd.ntmps20
  by_cases e : s.size = f.size
  · have e' : (s.size : Int) = f.size := by omega
    have E : Hid (s.size = f.size) := e
    clear e
    go_wp2_with fail
    go_loopw [13] (fun v wr => (∃ k : Nat, k ≤ s.size ∧ v = .int .i64 k ∧ Hid (fmL (s.data.toList.drop k) (f.data.toList.drop k) = R)) ∧ Below w.heap.size w wr) (fun v _ => s.size - (intOf v).toNat)
    case atStart => exact ⟨⟨0, Nat.zero_le _, rfl, by show _ = _; rw [List.drop_zero, List.drop_zero]; exact HR.out⟩, Below.refl _ _⟩
    case round =>
      obtain ⟨⟨k, hk, rfl, HK⟩, hB⟩ := hrel
      have B : Hid (Below w.heap.size w wr) := hB
      clear hB
      by_cases hlt : k < s.size
      · have hlf : k < f.size := by have := E.out; omega
        have i1 : (k : Int) < s.size := by omega
        have i2 : (k : Int) < f.size := by omega
        have ST : Hid _ := fmL_drop s f k hlt hlf
        by_cases c0 : (f[k].toNat : Int) = 48
        · have f48 : f[k] = 48 := UInt8.toNat_inj.mp (by show f[k].toNat = 48; omega)
          have c0' : ((f[k].toNat : Int) == 48) = true := by simpa using c0
          have c0'' : ((f[k].toNat : Int) != 48) = false := by simpa using c0
          have c0d : decide ((f[k].toNat : Int) = 48) = true := by simpa using c0
          cases d : digT (s[k].toNat : Int)
          · have D : Hid (∀ w, Calls Tryd.prog 25 #[.int .u8 (s[k].toNat : Int)] w fun e w' => e = .returned (.bool false) ∧ w' = w) := fun w => by
              have := isDigitT_of (s[k].toNat : Int) w
              rwa [d] at this
            have ER : Hid (R = false) := by
              show _ = _
              rw [← HK.out, ST.out, fmB, if_pos f48, d]
              rfl
            clear d HK ST f48
            go_wp2_with fail
            refine wp_region_sub2 (by kernel_rfl) (by kernel_rfl) ?_
            intro cx
            repeat (first | go_big_quiet_skip | (go_big_quiet_want; go_big_quiet_op; first | go_big_quiet_on | (refine ⟨_, fun _ => rfl, ?_⟩; go_big_quiet_on) | go_big_quiet_call (first | (go_at_call 25; exact calls_sub_same (D.out _)))))
            refine wpQuiet_nil ?_
            rintro _ ⟨x, rfl⟩
            clear cx
            go_wp2
            go_returns
            exact ⟨by rw [ER.out]; rfl, B.out.trans (x.h.mono B.out.size)⟩
          · have D : Hid (∀ w, Calls Tryd.prog 25 #[.int .u8 (s[k].toNat : Int)] w fun e w' => e = .returned (.bool true) ∧ w' = w) := fun w => by
              have := isDigitT_of (s[k].toNat : Int) w
              rwa [d] at this
            have NX : Hid (fmL (s.data.toList.drop (k + 1)) (f.data.toList.drop (k + 1)) = R) := by
              show _ = _
              rw [← HK.out, ST.out, fmB, if_pos f48, d]
              rfl
            clear d HK ST f48
            go_wp2_with fail
            refine wp_region_sub2 (by kernel_rfl) (by kernel_rfl) ?_
            intro cx
            repeat (first | go_big_quiet_skip | (go_big_quiet_want; go_big_quiet_op; first | go_big_quiet_on | (refine ⟨_, fun _ => rfl, ?_⟩; go_big_quiet_on) | go_big_quiet_call (first | (go_at_call 25; exact calls_sub_same (D.out _)))))
            refine wpQuiet_nil ?_
            rintro _ ⟨x, rfl⟩
            clear cx
            go_wp2
            go_roundw
            case rel => exact ⟨⟨k + 1, by omega, by go_num, NX⟩, B.out.trans (x.h.mono B.out.size)⟩
            case measure => simp [intOf]; omega
        · have f48 : ¬ f[k] = 48 := fun q => c0 (by rw [q]; rfl)
          have c0' : ((f[k].toNat : Int) == 48) = false := by simpa using c0
          have c0'' : ((f[k].toNat : Int) != 48) = true := by simpa using c0
          have c0d : decide ((f[k].toNat : Int) = 48) = false := by simpa using c0
          by_cases c1 : (s[k].toNat : Int) = f[k].toNat
          · have NX : Hid (fmL (s.data.toList.drop (k + 1)) (f.data.toList.drop (k + 1)) = R) := by
              show _ = _
              have : s[k] = f[k] := UInt8.toNat_inj.mp (by omega)
              rw [← HK.out, ST.out, fmB, if_neg f48, decide_eq_true this]
              rfl
            clear HK ST f48
            go_wp2_with fail
            refine wp_region_sub2 (by kernel_rfl) (by kernel_rfl) ?_
            intro cx
            repeat (first | go_big_quiet_skip | (go_big_quiet_want; go_big_quiet_op; first | go_big_quiet_on | (refine ⟨_, fun _ => rfl, ?_⟩; go_big_quiet_on) | go_big_quiet_call (first | fail)))
            refine wpQuiet_nil ?_
            rintro _ ⟨x, rfl⟩
            clear cx
            go_wp2
            go_roundw
            case rel => exact ⟨⟨k + 1, by omega, by go_num, NX⟩, B.out.trans (x.h.mono B.out.size)⟩
            case measure => simp [intOf]; omega
          · have c1' : ((s[k].toNat : Int) == f[k].toNat) = false := by simpa using c1
            have c1'' : ((s[k].toNat : Int) != f[k].toNat) = true := by simpa using c1
            have ER : Hid (R = false) := by
              show _ = _
              have : ¬ s[k] = f[k] := fun q => c1 (by rw [q])
              rw [← HK.out, ST.out, fmB, if_neg f48, decide_eq_false this]
              rfl
            clear HK ST f48
            go_wp2_with fail
            refine wp_region_sub2 (by kernel_rfl) (by kernel_rfl) ?_
            intro cx
            repeat (first | go_big_quiet_skip | (go_big_quiet_want; go_big_quiet_op; first | go_big_quiet_on | (refine ⟨_, fun _ => rfl, ?_⟩; go_big_quiet_on) | go_big_quiet_call (first | fail)))
            refine wpQuiet_nil ?_
            rintro _ ⟨x, rfl⟩
            clear cx
            go_wp2
            go_returns
            exact ⟨by rw [ER.out]; rfl, B.out.trans (x.h.mono B.out.size)⟩
      · have ER : Hid (R = true) := by
          show _ = _
          rw [← HK.out, List.drop_eq_nil_of_le (by simp; omega), List.drop_eq_nil_of_le (by simp; have := E.out; omega)]
          rfl
        clear HK
        go_wp2
        go_returns
        exact ⟨by rw [ER.out]; rfl, B.out⟩
  · have e' : ((s.size : Int) == f.size) = false := by simp; omega
    have ER : Hid (R = false) := by
      show _ = _
      rw [← HR.out]
      cases q : fmL s.data.toList f.data.toList with
      | false => rfl
      | true => exact absurd (by have := fmL_len _ _ q; simpa using this) e
    clear HR
    go_wp2
    go_returns
    exact ⟨by rw [ER.out]; rfl, Below.refl _ _⟩
/-- The number of digits at a place, if there are so many. -/
def fxP (l : List UInt8) (p n : Nat) : Bool := decide (p + n ≤ l.length) && decide (n ≤ runT digT (l.drop p))
def fxN (l : List UInt8) (p n : Nat) : Int := rnN ((l.take (p + n)).drop p)
set_option maxHeartbeats 1000000 in
theorem fixedR_of (s : ByteArray) (p n : Nat) (hs : s.size ≤ 140737488355328) (hp : p ≤ 100) (hn : n ≤ 100) : ∃ z : Int, (fxP s.data.toList p n = true → z = fxN s.data.toList p n) ∧ (0 ≤ z ∧ z ≤ 9223372036854775807) ∧ ∀ w, Calls Tryd.prog 36 #[.string s, .int .i64 p, .int .i64 n] w fun e w' => e = .returned (.tuple #[.int .i64 z, .bool (fxP s.data.toList p n)]) ∧ w' = w := by
  have hml : s.size ≤ maxLen := by unfold maxLen; omega
  have SL : s.data.toList.length = s.size := by simp
  by_cases a : p + n ≤ s.size
  · have RUN : Hid _ := fun w => runR_of s p hml (by omega) w
    by_cases b : n ≤ runT digT (s.data.toList.drop p)
    · have f : fxP s.data.toList p n = true := by unfold fxP; rw [SL, decide_eq_true a, decide_eq_true b]; rfl
      rw [f]
      refine ⟨fxN s.data.toList p n, (fun _ => rfl), rnN_bd _, fun w => ?_⟩
      have NUM : Hid (∀ w, Calls Tryd.prog 31 #[.string (s.extract p (p + n))] w fun e w' => e = .returned (.tuple #[.int .i64 (fxN s.data.toList p n), .bool (rnP ((s.data.toList.take (p + n)).drop p))]) ∧ w' = w) := fun w => by
        have := numberR_of (s.extract p (p + n)) w (Nat.le_trans (ext_le _ _ _) hml)
        rwa [q_eq (s.extract p (p + n)) _ (q_ext s p (p + n)), rnV_q, ← q_eq (s.extract p (p + n)) _ (q_ext s p (p + n))] at this
      generalize fxN s.data.toList p n = z at *
      generalize rnP ((s.data.toList.take (p + n)).drop p) = q at *
      generalize runT digT (s.data.toList.drop p) = r at *
      clear f SL
      go_enter Tryd.func36, Tryd.ntmps36
      go_wp2_with (first
        | (go_at_call 30; refine (RUN.out _).mono ?_; rintro e w1 ⟨rfl, rfl⟩)
        | (go_at_call 31; refine (NUM.out _).mono ?_; rintro e w1 ⟨rfl, rfl⟩))
      go_returns
      exact ⟨rfl, rfl⟩
    · have f : fxP s.data.toList p n = false := by unfold fxP; rw [decide_eq_false b, Bool.and_false]
      rw [f]
      refine ⟨0, (fun h => by cases h), by omega, fun w => ?_⟩
      generalize runT digT (s.data.toList.drop p) = r at *
      clear f SL
      go_enter Tryd.func36, Tryd.ntmps36
      go_wp2_with (go_at_call 30; refine (RUN.out _).mono ?_; rintro e w1 ⟨rfl, rfl⟩)
      go_returns
      exact ⟨rfl, rfl⟩
  · have f : fxP s.data.toList p n = false := by unfold fxP; rw [SL, decide_eq_false a, Bool.false_and]
    rw [f]
    refine ⟨0, (fun h => by cases h), by omega, fun w => ?_⟩
    clear f SL
    go_enter Tryd.func36, Tryd.ntmps36
    go_wp2
    go_returns
    exact ⟨rfl, rfl⟩
def atB (l : List UInt8) (p : Nat) (c : UInt8) : Bool := l[p]? == some c
theorem atR_of (s : ByteArray) (p : Nat) (c : UInt8) (hp : p ≤ 100) (w : World) : Calls Tryd.prog 37 #[.string s, .int .i64 p, .int .u8 (c.toNat : Int)] w fun e w' => e = .returned (.bool (atB s.data.toList p c)) ∧ w' = w := by
  by_cases a : p < s.size
  · have i1 : (p : Int) < s.size := by omega
    have e : atB s.data.toList p c = decide ((s[p].toNat : Int) = c.toNat) := by
      unfold atB
      rw [List.getElem?_eq_getElem (by simpa using a)]
      show (some s[p] == some c) = _
      by_cases g : s[p] = c
      · rw [g]; simp
      · have : ¬ (s[p].toNat : Int) = c.toNat := fun h => g (UInt8.toNat_inj.mp (by omega))
        rw [decide_eq_false this]
        simpa using g
    rw [e]
    clear e
    go_enter Tryd.func37, Tryd.ntmps37
    go_wp2
    go_ret
    refine ⟨ret_bool ?_, rfl⟩
    rw [Bool.eq_iff_iff]
    simp
  · have e : atB s.data.toList p c = false := by
      unfold atB
      rw [List.getElem?_eq_none (by simp; omega)]
      rfl
    rw [e]
    clear e
    go_enter Tryd.func37, Tryd.ntmps37
    go_wp2
    go_ret
    exact ⟨rfl, rfl⟩
/-- A run is so long just if so many bytes are such. -/
theorem run_ge (p : Int → Bool) : ∀ (l : List UInt8) (n : Nat), n ≤ runT p l ↔ n ≤ l.length ∧ ∀ c ∈ l.take n, p c.toNat = true
  | [], n => by simp [runT]
  | b :: l, 0 => by simp
  | b :: l, n + 1 => by
    have ih := run_ge p l n
    simp only [runT, List.length_cons, List.take_succ_cons, List.mem_cons, forall_eq_or_imp]
    by_cases h : p b.toNat = true
    · rw [if_pos h]
      constructor
      · intro g
        have := ih.mp (by omega)
        exact ⟨by omega, h, this.2⟩
      · intro g
        have := ih.mpr ⟨by omega, g.2.2⟩
        omega
    · rw [if_neg h]
      constructor
      · intro g; omega
      · intro g; exact absurd g.2.1 h
theorem fxP_iff (l : List UInt8) (p n : Nat) : fxP l p n = true ↔ p + n ≤ l.length ∧ ∀ c ∈ (l.drop p).take n, digT c.toNat = true := by
  unfold fxP
  rw [Bool.and_eq_true, decide_eq_true_eq, decide_eq_true_eq, run_ge]
  constructor
  · rintro ⟨a, b, c⟩; exact ⟨a, c⟩
  · rintro ⟨a, b⟩; exact ⟨a, by rw [List.length_drop]; omega, b⟩
/-- Few digits are a number. -/
theorem rn_few2 (l : List UInt8) (h : ∀ c ∈ l, digT c.toNat = true) (hl : l.length ≤ 9) : rnF l 0 = some (rnN l) ∧ 0 ≤ rnN l := by
  have a := dig_AllD l h
  have v := valR_lt l.reverse (fun c hc => a c (List.mem_reverse.mp hc))
  rw [List.length_reverse] at v
  have p : 10 ^ l.length ≤ 10 ^ 9 := Nat.pow_le_pow_right (by omega) hl
  have r := rn_val l 0 a (by omega)
  rw [show ((0 : Nat) : Int) = 0 from rfl] at r
  unfold rnN
  rw [r]
  exact ⟨rfl, by simp only [Option.getD_some]; omega⟩
/-- A date's form and a clock's. -/
def dtF : List UInt8 := [48, 48, 48, 48, 45, 48, 48, 45, 48, 48]
def ckF : List UInt8 := [48, 48, 58, 48, 48, 58, 48, 48]
theorem dt_form (l : List UInt8) : fmL l dtF = (decide (l.length = 10) && (fxP l 0 4 && (fxP l 5 2 && (fxP l 8 2 && (atB l 4 45 && atB l 7 45))))) := by
  by_cases h : l.length = 10
  · obtain ⟨a0, a1, a2, a3, a4, a5, a6, a7, a8, a9, rfl⟩ : ∃ a0 a1 a2 a3 a4 a5 a6 a7 a8 a9, l = [a0, a1, a2, a3, a4, a5, a6, a7, a8, a9] := by
      match l, h with
      | [a0, a1, a2, a3, a4, a5, a6, a7, a8, a9], _ => exact ⟨_, _, _, _, _, _, _, _, _, _, rfl⟩
    rw [Bool.eq_iff_iff]
    simp only [Bool.and_eq_true, fxP_iff, dtF, fmL, fmB, atB, decide_eq_true_eq, beq_iff_eq]
    simp
    constructor
    · rintro ⟨h0, h1, h2, h3, h4, h5, h6, h7, h8, h9⟩
      exact ⟨⟨h0, h1, h2, h3⟩, ⟨h5, h6⟩, ⟨h8, h9⟩, h4, h7⟩
    · rintro ⟨⟨h0, h1, h2, h3⟩, ⟨h5, h6⟩, ⟨h8, h9⟩, h4, h7⟩
      exact ⟨h0, h1, h2, h3, h4, h5, h6, h7, h8, h9⟩
  · rw [decide_eq_false h, Bool.false_and]
    cases q : fmL l dtF with
    | false => rfl
    | true => exact absurd (fmL_len _ _ q) h
end Go.Proofs.YtpdnlojennhmpaaDoor
