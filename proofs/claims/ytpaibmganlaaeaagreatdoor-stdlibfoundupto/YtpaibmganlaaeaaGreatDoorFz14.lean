/- value.Convert, exactly, from a number to another kind of number, to a text and back; no statement of the seat is proved here. -/
import Derived.Test.YtpaibmganlaaeaaGreatDoorFz09
import Derived.Test.YtpaibmganlaaeaaGreatDoorFz13
import Derived.Test.YtpaibmganlaaeaaGreatDoorFz12
namespace Go.Proofs.YtpaibmganlaaeaaGreatDoor
set_option linter.unusedVariables false
open Go.RowKit
abbrev ZR (u : TypeId) : Obj := .cells #[.int .u8 0, .int .u64 0, .string ⟨#[]⟩] u
theorem step_box3R {w w1 : World} {k b : Int} {s : ByteArray} {t u v : TypeId}
    (hb : Below (((w.alloc (.cells #[.int .u8 k, .int .u64 b, .string s] t)).alloc (ZR u)).alloc (ZR v)).heap.size (((w.alloc (.cells #[.int .u8 k, .int .u64 b, .string s] t)).alloc (ZR u)).alloc (ZR v)) w1) :
    w.heap.size < w1.heap.size ∧ w.heap.size + 1 < w1.heap.size ∧ w1.cell? ⟨w.heap.size, 0, none⟩ = some (.int .u8 k) ∧ w1.cell? ⟨w.heap.size, 1, none⟩ = some (.int .u64 b) ∧ w1.cell? ⟨w.heap.size, 2, none⟩ = some (.string s) ∧
    w1.cell? ⟨w.heap.size + 1, 0, none⟩ = some (.int .u8 0) ∧ w1.cell? ⟨w.heap.size + 1, 1, none⟩ = some (.int .u64 0) ∧ w1.cell? ⟨w.heap.size + 1, 2, none⟩ = some (.string ⟨#[]⟩) ∧
    (∀ o, w1.frozen? ⟨w.heap.size + 1, o, none⟩ = false) ∧ Below w.heap.size w w1 ∧ w.heap.size + 1 + 1 < w1.heap.size ∧
    w1.cell? ⟨w.heap.size + 1 + 1, 0, none⟩ = some (.int .u8 0) ∧ w1.cell? ⟨w.heap.size + 1 + 1, 1, none⟩ = some (.int .u64 0) ∧ w1.cell? ⟨w.heap.size + 1 + 1, 2, none⟩ = some (.string ⟨#[]⟩) ∧ (∀ o, w1.frozen? ⟨w.heap.size, o, none⟩ = false) := by
  have hs := hb.size
  simp only [World.size_alloc] at hs
  refine ⟨by omega, by omega, ?_, ?_, ?_, ?_, ?_, ?_, ?_, ((((Below.refl _ _).alloc (Nat.le_refl _) _).alloc (by simp) _).alloc (by simp; omega) _).trans (hb.mono (by simp; omega)), by omega, ?_, ?_, ?_, ?_⟩
  · rw [hb.cell (p := ⟨w.heap.size, 0, none⟩) (by simp; omega)]; simp [ZR, go_sem]
  · rw [hb.cell (p := ⟨w.heap.size, 1, none⟩) (by simp; omega)]; simp [ZR, go_sem]
  · rw [hb.cell (p := ⟨w.heap.size, 2, none⟩) (by simp; omega)]; simp [ZR, go_sem]
  · rw [hb.cell (p := ⟨w.heap.size + 1, 0, none⟩) (by simp)]; simp [ZR, go_sem]
  · rw [hb.cell (p := ⟨w.heap.size + 1, 1, none⟩) (by simp)]; simp [ZR, go_sem]
  · rw [hb.cell (p := ⟨w.heap.size + 1, 2, none⟩) (by simp)]; simp [ZR, go_sem]
  · intro o
    rw [hb.frozen (p := ⟨w.heap.size + 1, o, none⟩) (by simp)]; simp [ZR, go_sem]
  · rw [hb.cell (p := ⟨w.heap.size + 1 + 1, 0, none⟩) (by simp)]; simp [ZR, go_sem]
  · rw [hb.cell (p := ⟨w.heap.size + 1 + 1, 1, none⟩) (by simp)]; simp [ZR, go_sem]
  · rw [hb.cell (p := ⟨w.heap.size + 1 + 1, 2, none⟩) (by simp)]; simp [ZR, go_sem]
  · intro o
    rw [hb.frozen (p := ⟨w.heap.size, o, none⟩) (by simp; omega)]; simp [ZR, go_sem]
set_option maxRecDepth 100000 in
set_option maxHeartbeats 2000000 in
theorem sizedR_0 (k : Int) (w : World) (hl : 2 ≤ k ∧ k ≤ 13) :
    Calls Tryz.prog 172 #[.int .u8 k, .int .u64 0, .bool true] w fun e w' => e = .returned (szV k 0) ∧ Below w.heap.size w w' := by
  have hk : 0 ≤ k ∧ k < 256 := by omega
  have MD0 : Hid _ := fun w => made_of k 0 7 w (by omega) (by omega) hk
  obtain ⟨k', b', g, eq, hg⟩ := rv_form (mayW k 0) k 0
  rw [eq] at MD0
  have MD : Hid (∀ w, Calls Tryz.prog 174 #[.int .u8 k, .int .u64 0, .int .i64 7] w fun e w' => e = .returned (.tuple #[V k' b' E0, .int .i64 g]) ∧ Below w.heap.size w w') := MD0.out
  have e0 : szV k 0 = .tuple #[V k' b' E0, .int .i64 g] := by
    rw [← eq]
    have := szV_made k 0 (fit_is k 0 hl (by by_cases c : 2 ≤ k ∧ k ≤ 5 ∨ k = 14; rw [num_s c]; (unfold wrap64; omega); rw [num_u c]; rfl))
    simpa using this
  rw [e0]
  clear MD0 hg eq e0
  by_cases sg : k ≤ 5
  · go_enter Tryz.func172, Tryz.ntmps172
    go_wp2_with (first
      | (go_at_call 17; refine (SignedR_is k _ true hk (by symm; simp; omega)).mono ?_; rintro e w2 ⟨rfl, rfl⟩)
      | (go_at_call 174; refine (MD.out _).mono ?_; rintro e w4 ⟨rfl, hb4⟩; obtain ⟨y0, p0, p1, p2, p6, PB⟩ := boxD hb4; clear hb4))
    exact bodyPost_ret (v := .tuple #[V k' b' E0, .int .i64 g]) (by simp [results, Tryz.results172, go_sem, p0, p1, p2]) rfl ⟨rfl, ((PB.setCell (by simp) _).setCell (by simp) _).setCell (by simp) _⟩
  · go_enter Tryz.func172, Tryz.ntmps172
    go_wp2_with (first
      | (go_at_call 17; refine (SignedR_is k _ false hk (by symm; simp; omega)).mono ?_; rintro e w2 ⟨rfl, rfl⟩)
      | (go_at_call 174; refine (MD.out _).mono ?_; rintro e w4 ⟨rfl, hb4⟩; obtain ⟨y0, p0, p1, p2, p6, PB⟩ := boxD hb4; clear hb4))
    exact bodyPost_ret (v := .tuple #[V k' b' E0, .int .i64 g]) (by simp [results, Tryz.results172, go_sem, p0, p1, p2]) rfl ⟨rfl, ((PB.setCell (by simp) _).setCell (by simp) _).setCell (by simp) _⟩
theorem sizedR_x (k : Int) (n : Nat) (p : Bool) (d : 2 ≤ k ∧ k ≤ 13) (hn : n < 18446744073709551616) (w : World) :
    Calls Tryz.prog 172 #[.int .u8 k, .int .u64 n, .bool p] w fun e w' => e = .returned (szV k (if p = true then -(n : Int) else n)) ∧ Below w.heap.size w w' := by
  cases p
  · exact sizedR_pos k w n d (by omega) (by omega)
  · by_cases z : n = 0
    · subst z
      exact sizedR_0 k w d
    · exact sizedR_neg k w n d (by omega) (by omega)
section
variable (k b : Int) (s : ByteArray) (w : World)
set_option maxRecDepth 100000 in
set_option maxHeartbeats 1000000 in
theorem frR_n (x : Nat) (hx : x < 18446744073709551616) (d : 2 ≤ k ∧ k ≤ 13) : Calls Tryz.prog 152 #[.int .u8 k, V 18 x s] w fun e w' => e = .returned (if finB x = true ∧ whN x < 18446744073709551616 then szV k (flN x) else .tuple #[V 0 0 E0, .int .i64 7]) ∧ Below w.heap.size w w' := by
  have k1 : (k == 1) = false := by simp; omega
  have WR : Hid (∀ w, Calls Tryz.prog 16 #[.int .u8 k] w fun e w' => e = .returned (.int .i64 (widN k)) ∧ w' = w) := fun w => WidthR_is k w (by omega)
  have wd : (widN k == 0) = false := by
    unfold widN
    rcases (by omega : k = 2 ∨ k = 3 ∨ k = 4 ∨ k = 5 ∨ k = 6 ∨ k = 7 ∨ k = 8 ∨ k = 9 ∨ k = 10 ∨ k = 11 ∨ k = 12 ∨ k = 13) with rfl | rfl | rfl | rfl | rfl | rfl | rfl | rfl | rfl | rfl | rfl | rfl <;> decide
  generalize widN k = wl at *
  have aI := andI x hx
  by_cases f : finB x = true
  · have ff := (fin_iff x).1 f
    have nI : (((x / 4503599627370496 % 2048 * 4503599627370496 : Nat) : Int) == 9218868437227405312) = false := by simp; omega
    have Wy := wholeR_yes x hx
    by_cases g : whN x < 18446744073709551616
    · rw [if_pos ⟨f, g⟩]
      have Wh : Hid (∀ w, Calls Tryz.prog 171 #[.int .u64 x] w fun e w' => e = .returned (.tuple #[.int .u64 (whN x : Int), .bool (x / 9223372036854775808 == 1), .bool true]) ∧ Below w.heap.size w w') := Wy g
      have S0 : Hid _ := fun w => sizedR_x k (whN x) (x / 9223372036854775808 == 1) d g w
      have en : (if (x / 9223372036854775808 == 1) = true then -(whN x : Int) else whN x) = flN x := by
        unfold flN
        by_cases c : x / 9223372036854775808 = 1
        · rw [if_pos (by simpa using c), if_pos (by omega)]
        · rw [if_neg (by simpa using c), if_neg (by omega)]
      rw [en] at S0
      obtain ⟨k', b', f', ef⟩ := sz_form k (flN x)
      rw [ef] at S0 ⊢
      have SZ : Hid (∀ w, Calls Tryz.prog 172 #[.int .u8 k, .int .u64 (whN x : Int), .bool (x / 9223372036854775808 == 1)] w fun e w' => e = .returned (.tuple #[V k' b' E0, .int .i64 f']) ∧ Below w.heap.size w w') := S0.out
      clear Wy en ef S0 f ff g
      generalize x / 4503599627370496 % 2048 * 4503599627370496 = I at *
      generalize (x / 9223372036854775808 == 1) = p at *
      generalize whN x = n at *
      go_enter Tryz.func152, Tryz.ntmps152
      go_wp2_with (first
        | (go_at_call 16; refine (WR.out _).mono ?_; rintro e w2 ⟨rfl, rfl⟩)
        | (go_at_call 171; refine (Wh.out _).mono ?_; rintro e w3 ⟨rfl, hb⟩; obtain ⟨z0, z1, q0, q1, q2, q3, q4, q5, q6, HB, z2, q7, q8, q9, q10⟩ := step_box3R hb; clear hb)
        | (go_at_call 172; refine (SZ.out _).mono ?_; rintro e w4 ⟨rfl, hb4⟩; obtain ⟨u0, l1, l2⟩ := step1C hb4 z1))
      exact bodyPost_ret (v := .tuple #[V k' b' E0, .int .i64 f']) (by simp [results, Tryz.results152, go_sem, l1, q3, q4, q5]) rfl ⟨rfl, (((HB.trans (hb4.mono (Nat.le_of_lt z0))).setCell (by simp) _).setCell (by simp) _).setCell (by simp) _⟩
    · rw [if_neg (fun q => g q.2)]
      have Wn : Hid (∀ w, Calls Tryz.prog 171 #[.int .u64 x] w fun e w' => (∃ n : Int, e = .returned (.tuple #[.int .u64 n, .bool (x / 9223372036854775808 == 1), .bool false])) ∧ Below w.heap.size w w') := wholeR_no x hx f (by omega)
      clear Wy f ff g
      generalize x / 4503599627370496 % 2048 * 4503599627370496 = I at *
      generalize (x / 9223372036854775808 == 1) = p at *
      go_enter Tryz.func152, Tryz.ntmps152
      go_wp2_with (first
        | (go_at_call 16; refine (WR.out _).mono ?_; rintro e w2 ⟨rfl, rfl⟩)
        | (go_at_call 171; refine (Wn.out _).mono ?_; rintro e w3 ⟨⟨n, rfl⟩, hb⟩; obtain ⟨z0, z1, q0, q1, q2, q3, q4, q5, q6, HB, z2, q7, q8, q9, q10⟩ := step_box3R hb; clear hb))
      exact bodyPost_ret (v := .tuple #[V 0 0 E0, .int .i64 7]) (by simp [results, Tryz.results152, go_sem, q3, q4, q5]) rfl ⟨rfl, ((HB.setCell (by simp) _).setCell (by simp) _).setCell (by simp) _⟩
  · rw [if_neg (fun q => f q.1)]
    have ff := (fin_not x).1 (by simpa using f)
    rw [ff] at aI
    clear f ff
    go_enter Tryz.func152, Tryz.ntmps152
    go_wp2_with (first
      | (go_at_call 16; refine (WR.out _).mono ?_; rintro e w2 ⟨rfl, rfl⟩))
    exact bodyPost_ret (v := .tuple #[V 0 0 E0, .int .i64 7]) (by simp [results, Tryz.results152, go_sem]) rfl ⟨rfl, by go_grown⟩
set_option maxRecDepth 100000 in
set_option maxHeartbeats 1000000 in
theorem frR_8 (hk : 14 ≤ k ∧ k < 256) : Calls Tryz.prog 152 #[.int .u8 k, V 18 b s] w fun e w' => e = .returned (.tuple #[V 0 0 E0, .int .i64 8]) ∧ Below w.heap.size w w' := by
  have k1 : (k == 1) = false := by simp; omega
  have W0 : widN k = 0 := by
    unfold widN
    rw [if_neg (by omega), if_neg (by omega), if_neg (by omega), if_neg (by omega)]
  have WR : Hid (∀ w, Calls Tryz.prog 16 #[.int .u8 k] w fun e w' => e = .returned (.int .i64 0) ∧ w' = w) := fun w => by rw [← W0]; exact WidthR_is k w (by omega)
  clear W0
  go_enter Tryz.func152, Tryz.ntmps152
  go_wp2_with (first
    | (go_at_call 16; refine (WR.out _).mono ?_; rintro e w2 ⟨rfl, rfl⟩))
  exact bodyPost_ret (v := .tuple #[V 0 0 E0, .int .i64 8]) (by simp [results, Tryz.results152, go_sem]) rfl ⟨rfl, by go_grown⟩
set_option maxRecDepth 100000 in
set_option maxHeartbeats 1000000 in
theorem frR_1 (x : Nat) (hx : x < 18446744073709551616) (m : (x : Int) = 9221120237041090561 ∨ fnan x = false) : Calls Tryz.prog 152 #[.int .u8 1, V 18 x s] w fun e w' => e = .returned (frX 1 x) ∧ Below w.heap.size w w' := by
  unfold frX
  rw [if_pos rfl]
  cases n : fnan x
  · rw [if_neg (by decide)]
    have e0 : ((x : Int) == 9221120237041090561) = false := by
      rw [beq_eq_false_iff_ne]
      intro q
      have : x = 9221120237041090561 := by omega
      subst this
      have : fnan 9221120237041090561 = true := by decide
      rw [this] at n
      cases n
    have e1 : (IntKind.u64.wrap ((x : Int) * 2) != 0) = !(x % 9223372036854775808 == 0) := by
      rw [IntKind.wrap_u64, Bool.eq_iff_iff]
      simp
      omega
    clear m n
    generalize (!(x % 9223372036854775808 == 0)) = p at *
    go_enter Tryz.func152, Tryz.ntmps152
    go_wp2_with (first
      | (go_at_call 170; refine (BoolR_of _ _).mono ?_; rintro e w3 ⟨rfl, hb⟩; obtain ⟨z0, z1, q0, q1, q2, q3, q4, q5, q6, HB, z2, q7, q8, q9, q10⟩ := step_box3R hb; clear hb))
    exact bodyPost_ret (v := .tuple #[V 1 (tb p) E0, .int .i64 0]) (by simp [results, Tryz.results152, go_sem, q3, q4, q5]) rfl ⟨rfl, ((HB.setCell (by simp) _).setCell (by simp) _).setCell (by simp) _⟩
  · rw [if_pos rfl]
    have e0 : (x : Int) = 9221120237041090561 := by
      rcases m with m | m
      · exact m
      · rw [n] at m; cases m
    have e1 : ((x : Int) == 9221120237041090561) = true := by simpa using e0
    clear m n e0
    go_enter Tryz.func152, Tryz.ntmps152
    go_wp2
    exact bodyPost_ret (v := .tuple #[V 0 0 E0, .int .i64 7]) (by simp [results, Tryz.results152, go_sem]) rfl ⟨rfl, by go_grown⟩
end
end Go.Proofs.YtpaibmganlaaeaaGreatDoor
namespace Go.Proofs.YtpaibmganlaaeaaGreatDoor
set_option linter.unusedVariables false
open Go.RowKit
theorem ba_ext {a b : ByteArray} (h : a.data.toList = b.data.toList) : a = b := by
  cases a with | mk x => cases b with | mk y => cases x; cases y; simp at h; rw [h]
theorem first_of (x : ByteArray) (c : UInt8) (l : List UInt8) (h : 0 < x.size) (hx : x.data.toList = c :: l) : x[0] = c := by
  have : x.data.toList[0]? = some c := by rw [hx]; rfl
  rw [Array.getElem?_toList, Array.getElem?_eq_getElem h] at this
  exact Option.some.inj this
theorem numS_size (n : Int) (h0 : -18446744073709551616 < n) (h1 : n < 18446744073709551616) : (numS n).size ≤ 21 := by
  have := decS_size n.natAbs (by omega)
  unfold numS
  split
  · rw [ByteArray.size_append]
    have e : (⟨#[45]⟩ : ByteArray).size = 1 := rfl
    omega
  · omega
theorem decS_list (u : Nat) : (decS u).data.toList = Lib.decDigits u := by
  unfold decS
  simp
theorem numS_neg (n : Int) (h : n < 0) : minB (numS n) = true ∧ aftS (numS n) = decS n.natAbs := by
  have e : (numS n).data.toList = 45 :: (decS n.natAbs).data.toList := by
    unfold numS
    rw [if_pos h]
    simp [ByteArray.data_append]
  have sz : (numS n).size = (decS n.natAbs).size + 1 := by
    have := congrArg List.length e
    simpa using this
  have m : minB (numS n) = true := by
    unfold minB
    rw [decide_eq_true (by omega : 1 ≤ (numS n).size), ByteArray.toList_eq, ByteArray.data_extract]
    simp [e]
  refine ⟨m, ?_⟩
  unfold aftS
  rw [m]
  apply ba_ext
  simp only [if_true]
  rw [ByteArray.data_extract]
  simp [e, sz]
  exact List.take_of_length_le (by simp)
theorem numS_pos (n : Int) (h : 0 ≤ n) (h1 : n < 18446744073709551616) : minB (numS n) = false ∧ aftS (numS n) = decS n.natAbs := by
  have e : numS n = decS n.natAbs := by
    unfold numS
    rw [if_neg (by omega)]
  obtain ⟨c, l, q, c0, c1⟩ := dec_head n.natAbs (by omega)
  have m : minB (numS n) = false := by
    rw [e]
    unfold minB
    rw [ByteArray.toList_eq, ByteArray.data_extract]
    simp [decS_list, q]
    intro _ hc
    rw [hc] at c0
    simp at c0
  refine ⟨m, ?_⟩
  unfold aftS
  rw [m, e]
  rfl
theorem readNumber_num (n : Int) (w : World) (h0 : -18446744073709551616 < n) (h1 : n < 18446744073709551616) : Calls Tryz.prog 163 #[.string (numS n)] w fun e w' => e = .returned (.tuple #[NB n, .bool true]) ∧ Below w.heap.size w w' := by
  have hu : n.natAbs < 18446744073709551616 := by omega
  have sz := numS_size n h0 h1
  have hs : (numS n).size ≤ maxLen := by unfold maxLen; omega
  have ds := decS_size n.natAbs hu
  obtain ⟨c, l, q, c0, c1⟩ := dec_head n.natAbs hu
  have hl : (decS n.natAbs).data.toList = c :: l := by rw [decS_list, q]
  have d0 : 0 < (decS n.natAbs).size := by
    have := congrArg List.length hl
    simp at this
    have e : (decS n.natAbs).data.size = (decS n.natAbs).size := rfl
    omega
  have hc : (decS n.natAbs)[0] = c := first_of _ c l d0 hl
  have R : rdL (decS n.natAbs).data.toList 0 = some (n.natAbs : Int) := by rw [decS_list]; exact rdL_dec _ hu
  by_cases hn : n < 0
  · obtain ⟨m, a⟩ := numS_neg n hn
    have C := fun w => CutPrefix_of (numS n) w hs
    rw [m, a] at C
    obtain ⟨c', l', q', n48⟩ := dec_first n.natAbs hu (by omega)
    have := readNumber_rd (numS n) (decS n.natAbs) true n.natAbs w C (by unfold maxLen; omega) d0 (Or.inl (by rw [hc]; rw [q] at q'; injection q' with e1 _; subst e1; omega)) R (fun _ => by omega)
    rwa [show sgn true (n.natAbs : Int) = n by unfold sgn; simp; omega] at this
  · obtain ⟨m, a⟩ := numS_pos n (by omega) h1
    have C := fun w => CutPrefix_of (numS n) w hs
    rw [m, a] at C
    have hq : ((decS n.natAbs)[0].toNat : Int) ≠ 48 ∨ ((numS n).toList == [48]) = true := by
      by_cases z : n = 0
      · right
        subst z
        have : Lib.decDigits 0 = [48] := by rw [Lib.decDigits_one (by omega)]; rfl
        rw [ByteArray.toList_eq]
        unfold numS
        rw [if_neg (by omega), decS_list]
        simp [this]
      · left
        obtain ⟨c', l', q', n48⟩ := dec_first n.natAbs hu (by omega)
        rw [hc]
        rw [q] at q'
        injection q' with e1 _
        subst e1
        omega
    have := readNumber_rd (numS n) (decS n.natAbs) false n.natAbs w C (by unfold maxLen; omega) d0 hq R (fun h => by cases h)
    rwa [show sgn false (n.natAbs : Int) = n by unfold sgn; simp; omega] at this
set_option maxHeartbeats 1000000 in
theorem printNumber_is (n : Int) (w : World) (hP : Pow w) (h0 : -18446744073709551616 < n) (h1 : n < 18446744073709551616) :
    Calls Tryz.prog 185 #[NB n] w fun e w' => e = .returned (.string (numS n)) ∧ Below w.heap.size w w' := by
  have hu : n.natAbs < 18446744073709551616 := by omega
  have F : Hid (∀ o, Calls Tryz.prog 187 #[.int .u64 (n.natAbs : Nat), .int .i64 10] (w.alloc o) fun e w' => e = .returned (.string (decS n.natAbs)) ∧ Below (w.alloc o).heap.size (w.alloc o) w') :=
    fun o => FormatUint_of n.natAbs hu _ (pow_below hP ((Below.refl _ _).alloc (Nat.le_refl _) o))
  have S := decS_size n.natAbs hu
  clear hP
  unfold numS
  by_cases hn : n < 0
  · rw [NB_raw_neg hn, if_pos hn]
    generalize decS n.natAbs = t at *
    go_enter Tryz.func185, Tryz.ntmps185
    go_wp2_with (go_at_call 187; refine (F.out _).mono ?_; rintro e w' ⟨rfl, hb⟩)
    go_ret
    exact ⟨rfl, ((Below.refl _ _).alloc (Nat.le_refl _) _).trans (hb.mono (by simp))⟩
  · rw [if_neg hn, NB_raw_pos (by omega)]
    have e : (n : Int) = (n.natAbs : Int) := by omega
    generalize hg : n.natAbs = u at *
    rw [e]
    generalize decS u = t at *
    go_enter Tryz.func185, Tryz.ntmps185
    go_wp2_with (go_at_call 187; refine (F.out _).mono ?_; rintro e w' ⟨rfl, hb⟩)
    go_ret
    exact ⟨rfl, ((Below.refl _ _).alloc (Nat.le_refl _) _).trans (hb.mono (by simp))⟩
end Go.Proofs.YtpaibmganlaaeaaGreatDoor
namespace Go.Proofs.YtpaibmganlaaeaaGreatDoor
set_option linter.unusedVariables false
open Go.RowKit
section
variable (k kv b : Int) (s : ByteArray) (w : World)
set_option maxRecDepth 100000 in
set_option maxHeartbeats 2000000 in
theorem Print_is (hP : Pow w) (h0 : 0 ≤ b) (h1 : b < 18446744073709551616) (hk : 2 ≤ k ∧ k ≤ 9) (hs : s.size ≤ maxLen) (m : may3 k b s = true) :
    Calls Tryz.prog 164 #[V k b s] w fun e w' => e = .returned (.string (numS (num k b))) ∧ Below w.heap.size w w' := by
  have M : Hid (∀ w, Calls Tryz.prog 15 #[V k b s] w fun e w' => e = .returned (.bool true) ∧ Below w.heap.size w w') := fun w => by
    have := May_of k b s w h0 h1 (by omega) hs
    rwa [m] at this
  clear m
  have f1 : (k == 1) = false := by simp; omega
  have f19 : (k == 19) = false := by simp; omega
  have f18 : (k == 18) = false := by simp; omega
  have HP : Hid (Pow w) := hP
  have N1 : Hid (-18446744073709551616 < num k b ∧ num k b < 18446744073709551616) := by
    show _ ∧ _
    have := num_bd k b h0 h1
    omega
  clear hP
  go_enter Tryz.func164, Tryz.ntmps164
  go_wp2_with fail
  refine (M.out _).mono ?_
  rintro e w1 ⟨rfl, hb⟩
  have B : Hid (Below w.heap.size w w1) := ((Below.refl _ _).alloc (Nat.le_refl _) _).trans (hb.mono (by simp))
  have A0 : Hid _ := (Lies.new w k b s _).next hb
  obtain ⟨l0, c00, c01, c02⟩ := A0.out
  clear hb
  go_wp2_with fail
  refine (isRow_is k _ false (by omega) (by symm; simp; omega)).mono ?_
  rintro e w2 ⟨rfl, rfl⟩
  go_wp2_with fail
  refine (numberOf_of k b s _ h0 h1).mono ?_
  rintro e w3 ⟨rfl, hb⟩
  have B3 : Hid (Below w.heap.size w w3) := B.out.trans (hb.mono B.out.size)
  have P3 : Hid (Pow w3) := pow_below HP.out B3.out
  clear hb
  go_wp2_with fail
  refine (printNumber_is (num k b) _ P3.out N1.out.1 N1.out.2).mono ?_
  rintro e w4 ⟨rfl, hb⟩
  go_wp2
  go_ret
  exact ⟨rfl, B3.out.trans (hb.mono B3.out.size)⟩
set_option maxRecDepth 100000 in
set_option maxHeartbeats 1000000 in
theorem fp_text_is (h0 : 0 ≤ b) (h1 : b < 18446744073709551616) (hs : s.size ≤ maxLen) (d : 2 ≤ kv ∧ kv ≤ 9) (m : may3 kv b s = true) (hP : Pow w) : Calls Tryz.prog 144 #[.int .u8 19, V kv b s] w fun e w' => e = .returned (.tuple #[V 19 0 (numS (num kv b)), .int .i64 0]) ∧ Below w.heap.size w w' := by
  have P : Hid (∀ w, Pow w → Calls Tryz.prog 164 #[V kv b s] w fun e w' => e = .returned (.string (numS (num kv b))) ∧ Below w.heap.size w w') := fun w h => Print_is kv b s w h h0 h1 d hs m
  have ht : (numS (num kv b)).size ≤ 21 := numS_size _ (by have := num_bd kv b h0 h1; omega) (by have := num_bd kv b h0 h1; omega)
  have HP : Hid _ := pow_below hP (((Below.refl w.heap.size w).alloc (Nat.le_refl _) (.cells #[.int .u8 kv, .int .u64 b, .string s] 27)).alloc (by simp) (.cells #[.int .u8 0, .int .u64 0, .string ⟨#[]⟩] 27))
  clear m hP
  generalize numS (num kv b) = t at *
  go_enter Tryz.func144, Tryz.ntmps144
  go_wp2_with (first
    | (go_at_call 133; refine (isInteger_is 19 _ false (by omega) (by simp)).mono ?_; rintro e w1 ⟨rfl, rfl⟩)
    | (go_at_call 157; refine (isRow_is 19 _ false (by omega) (by simp)).mono ?_; rintro e w1 ⟨rfl, rfl⟩)
    | (go_at_call 157; refine (isRow_is kv _ false (by omega) (by symm; simp; omega)).mono ?_; rintro e w1 ⟨rfl, rfl⟩)
    | (go_at_call 142; refine (isTime_is 19 _ false (by omega) (by simp)).mono ?_; rintro e w1 ⟨rfl, rfl⟩)
    | (go_at_call 164; refine (P.out _ HP.out).mono ?_; rintro e w2 ⟨rfl, hb⟩; obtain ⟨z0, z1, q0, q1, q2, q3, q4, q5, q6, HB⟩ := step_box hb; clear hb)
    | (go_at_call 109; refine (Text_of _ _ (by unfold maxLen; omega)).mono ?_; rw [textR, if_pos (by omega)]; rintro e w4 ⟨rfl, hb4⟩; obtain ⟨u0, u1, l0, l1, l2⟩ := step2 hb4 z0 z1))
  exact bodyPost_ret (v := .tuple #[V 19 0 t, .int .i64 0]) (by simp [results, Tryz.results144, go_sem, l1, q3, q4, q5]) rfl ⟨rfl, (((HB.trans (hb4.mono (Nat.le_of_lt z0))).setCell (by simp) _).setCell (by simp) _).setCell (by simp) _⟩
set_option maxRecDepth 100000 in
set_option maxHeartbeats 1000000 in
theorem Convert_plain (h0 : 0 ≤ b) (h1 : b < 18446744073709551616) (hk : 1 ≤ k ∧ k ≤ 19) (hv : 1 ≤ kv ∧ kv ≤ 13) (hs : s.size ≤ maxLen) (m : may3 kv b s = true) (ne : ¬ kv = k) (hP : Pow w) (k' b' f : Int) (s' : ByteArray)
    (F : Hid (∀ w, Pow w → Calls Tryz.prog 144 #[.int .u8 k, V kv b s] w fun e w' => e = .returned (.tuple #[V k' b' s', .int .i64 f]) ∧ Below w.heap.size w w')) : Calls Tryz.prog 114 #[.int .u8 k, V kv b s] w fun e w' => e = .returned (.tuple #[V k' b' s', .int .i64 f]) ∧ Below w.heap.size w w' := by
  have M : Hid (∀ w, Calls Tryz.prog 15 #[V kv b s] w fun e w' => e = .returned (.bool true) ∧ Below w.heap.size w w') := fun w => by
    have := May_of kv b s w h0 h1 (by omega) hs
    rwa [m] at this
  have g : (kv == k) = false := by simpa using ne
  have f18 : (kv == 18) = false := by simp; omega
  have f19 : (kv == 19) = false := by simp; omega
  have HP : Hid (Pow w) := hP
  clear m hP
  go_enter Tryz.func114, Tryz.ntmps114
  go_wp2_with (first
    | (go_at_call 15; refine (M.out _).mono ?_; rintro e w1 ⟨rfl, hb⟩; obtain ⟨z0, z1, q0, q1, q2, q3, q4, q5, q6, HB⟩ := step_box hb; clear hb)
    | (go_at_call 118; refine (isKind_is k _ true (by omega) (by symm; simpa using hk)).mono ?_; rintro e w2 ⟨rfl, rfl⟩)
    | (go_at_call 142; refine (isTime_is kv _ false (by omega) (by symm; simp; omega)).mono ?_; rintro e w2 ⟨rfl, rfl⟩)
    | (go_at_call 144; refine (F.out _ (pow_below HP.out HB)).mono ?_; rintro e w4 ⟨rfl, hb4⟩; obtain ⟨u0, u1, l0, l1, l2⟩ := step2 hb4 z0 z1))
  exact bodyPost_ret (v := .tuple #[V k' b' s', .int .i64 f]) (by simp [results, Tryz.results114, go_sem, l1, q3, q4, q5]) rfl ⟨rfl, (((HB.trans (hb4.mono (Nat.le_of_lt z0))).setCell (by simp) _).setCell (by simp) _).setCell (by simp) _⟩
set_option maxRecDepth 100000 in
set_option maxHeartbeats 1000000 in
theorem Convert_same (h0 : 0 ≤ b) (h1 : b < 18446744073709551616) (hk : 1 ≤ k ∧ k ≤ 19) (hs : s.size ≤ maxLen) (m : may3 k b s = true) : Calls Tryz.prog 114 #[.int .u8 k, V k b s] w fun e w' => e = .returned (.tuple #[V k b s, .int .i64 0]) ∧ Below w.heap.size w w' := by
  have M : Hid (∀ w, Calls Tryz.prog 15 #[V k b s] w fun e w' => e = .returned (.bool true) ∧ Below w.heap.size w w') := fun w => by
    have := May_of k b s w h0 h1 (by omega) hs
    rwa [m] at this
  clear m
  go_enter Tryz.func114, Tryz.ntmps114
  go_wp2_with (first
    | (go_at_call 15; refine (M.out _).mono ?_; rintro e w1 ⟨rfl, hb⟩; obtain ⟨z0, z1, q0, q1, q2, q3, q4, q5, q6, HB⟩ := step_box hb; clear hb)
    | (go_at_call 118; refine (isKind_is k _ true (by omega) (by symm; simpa using hk)).mono ?_; rintro e w2 ⟨rfl, rfl⟩))
  exact bodyPost_ret (v := .tuple #[V k b s, .int .i64 0]) (by simp [results, Tryz.results114, go_sem, q3, q4, q5]) rfl ⟨rfl, ((HB.setCell (by simp) _).setCell (by simp) _).setCell (by simp) _⟩
set_option maxRecDepth 100000 in
set_option maxHeartbeats 1000000 in
theorem fromText_num (n : Int) (hk : 2 ≤ k ∧ k ≤ 9) (g0 : -18446744073709551616 < n) (g1 : n < 18446744073709551616) (fit : fitOk k n = true) : Calls Tryz.prog 141 #[.int .u8 k, .string (numS n)] w fun e w' => e = .returned (.tuple #[V k (n % 18446744073709551616) E0, .int .i64 0]) ∧ Below w.heap.size w w' := by
  have k1 : (k == 1) = false := by simp; omega
  have hk2 : 0 ≤ k ∧ k < 256 := by omega
  have R : Hid (∀ w, Calls Tryz.prog 163 #[.string (numS n)] w fun e w' => e = .returned (.tuple #[NB n, .bool true]) ∧ Below w.heap.size w w') := fun w => readNumber_num n w g0 g1
  have F : Hid (fitOk k n = true) := fit
  clear fit
  generalize numS n = t at *
  go_enter Tryz.func141, Tryz.ntmps141
  go_wp2_with (first
    | (go_at_call 133; refine (isInteger_is k _ true hk2 (by symm; simp; omega)).mono ?_; rintro e w1 ⟨rfl, rfl⟩)
    | (go_at_call 163; refine (R.out _).mono ?_; rintro e w2 ⟨rfl, hb⟩; obtain ⟨z0, q0, q1, q2, q6, HB⟩ := step_zeroC hb; clear hb)
    | (go_at_call 130; refine (fitted_yes k n _ _ hk2 ⟨g0, g1⟩ F.out).mono ?_; rintro e w4 ⟨rfl, hb4⟩; obtain ⟨y0, p0, p1, p2, p6, PB⟩ := boxC z0 q0 q1 q2 q6 HB hb4; clear hb4))
  exact bodyPost_ret (v := .tuple #[V k (n % 18446744073709551616) E0, .int .i64 0]) (by simp [results, Tryz.results141, go_sem, p0, p1, p2]) rfl ⟨rfl, ((PB.setCell (by simp) _).setCell (by simp) _).setCell (by simp) _⟩
set_option maxRecDepth 100000 in
set_option maxHeartbeats 1000000 in
theorem Convert_text (n : Int) (hk : 2 ≤ k ∧ k ≤ 9) (g0 : -18446744073709551616 < n) (g1 : n < 18446744073709551616) (fit : fitOk k n = true) : Calls Tryz.prog 114 #[.int .u8 k, V 19 0 (numS n)] w fun e w' => e = .returned (.tuple #[V k (n % 18446744073709551616) E0, .int .i64 0]) ∧ Below w.heap.size w w' := by
  have sz := numS_size n g0 g1
  have M : Hid (∀ w, Calls Tryz.prog 15 #[V 19 0 (numS n)] w fun e w' => e = .returned (.bool true) ∧ Below w.heap.size w w') := fun w => by
    have := May_of 19 0 (numS n) w (by omega) (by omega) (by omega) (by unfold maxLen; omega)
    rwa [show may3 19 0 (numS n) = true by simp [may3]; omega] at this
  have g : ((19 : Int) == k) = false := by simp; omega
  have F : Hid (∀ w, Calls Tryz.prog 141 #[.int .u8 k, .string (numS n)] w fun e w' => e = .returned (.tuple #[V k (n % 18446744073709551616) E0, .int .i64 0]) ∧ Below w.heap.size w w') := fun w => fromText_num k w n hk g0 g1 fit
  clear fit
  generalize numS n = t at *
  generalize n % 18446744073709551616 = b at *
  go_enter Tryz.func114, Tryz.ntmps114
  go_wp2_with (first
    | (go_at_call 15; refine (M.out _).mono ?_; rintro e w1 ⟨rfl, hb⟩; obtain ⟨z0, z1, q0, q1, q2, q3, q4, q5, q6, HB⟩ := step_box hb; clear hb)
    | (go_at_call 118; refine (isKind_is k _ true (by omega) (by symm; simp; omega)).mono ?_; rintro e w2 ⟨rfl, rfl⟩)
    | (go_at_call 141; refine (F.out _).mono ?_; rintro e w4 ⟨rfl, hb4⟩; obtain ⟨u0, u1, l0, l1, l2⟩ := step2 hb4 z0 z1))
  exact bodyPost_ret (v := .tuple #[V k b E0, .int .i64 0]) (by simp [results, Tryz.results114, go_sem, l1, q3, q4, q5]) rfl ⟨rfl, (((HB.trans (hb4.mono (Nat.le_of_lt z0))).setCell (by simp) _).setCell (by simp) _).setCell (by simp) _⟩
end
end Go.Proofs.YtpaibmganlaaeaaGreatDoor
