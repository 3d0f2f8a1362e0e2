/- What the document's unitAt answers; no statement of the seat is proved here. -/
import Derived.Test.YtpdnlojennhmpaaDoorPqT
namespace Go.Proofs.YtpdnlojennhmpaaDoor
set_option linter.unusedVariables false
open Go.RowKit
def lowU (c : UInt8) : UInt8 := if 65 ≤ c.toNat ∧ c.toNat ≤ 90 then c + 32 else c
def lowL (l : List UInt8) : List UInt8 := l.map lowU
theorem lowU_nat (c : UInt8) : ((lowU c).toNat : Int) = lowN (c.toNat : Int) := by
  unfold lowU lowN
  have := c.toNat_lt
  split
  · next h =>
    rw [if_pos (by omega), UInt8.toNat_add]
    simp
    omega
  · next h => rw [if_neg (by omega)]
theorem up_low_fin : ∀ n : Fin 256, Lib.upperB (lowU (UInt8.ofNat n.val)) = Lib.upperB (UInt8.ofNat n.val) ∧ lowU (Lib.upperB (UInt8.ofNat n.val)) = lowU (UInt8.ofNat n.val) := by decide +kernel
theorem up_low (c : UInt8) : Lib.upperB (lowU c) = Lib.upperB c ∧ lowU (Lib.upperB c) = lowU c := by
  have := up_low_fin ⟨c.toNat, c.toNat_lt⟩
  simpa using this
theorem up_lowL (l : List UInt8) : Lib.toUpperA (lowL l) = Lib.toUpperA l := by
  unfold Lib.toUpperA lowL
  rw [List.map_map]
  exact List.map_congr_left (fun c _ => (up_low c).1)
theorem low_upL (l : List UInt8) : lowL (Lib.toUpperA l) = lowL l := by
  unfold Lib.toUpperA lowL
  rw [List.map_map]
  exact List.map_congr_left (fun c _ => (up_low c).2)
theorem lo_q (k : Nat) (h : k < 7) : lowL (qN k) = loN k ∧ Lib.toUpperA (loN k) = qN k := by
  rcases (by omega : k = 0 ∨ k = 1 ∨ k = 2 ∨ k = 3 ∨ k = 4 ∨ k = 5 ∨ k = 6) with rfl | rfl | rfl | rfl | rfl | rfl | rfl <;> decide
theorem lo_up (w : List UInt8) (k : Nat) (h : k < 7) : loN k = lowL w ↔ qN k = Lib.toUpperA w := by
  obtain ⟨a, b⟩ := lo_q k h
  constructor
  · intro e; rw [← b, e, up_lowL]
  · intro e; rw [← a, e, low_upL]
theorem let_low (c : Int) (h0 : 0 ≤ c) : letT c = decide (97 ≤ lowN c ∧ lowN c ≤ 122) := by
  unfold letT lowN
  rw [Bool.eq_iff_iff]
  simp only [decide_eq_true_eq]
  split <;> omega
theorem conv1q (x : Int) (c : UInt8) (hx : x = (c.toNat : Int)) (wr : World) :
    (convert 67 9 (.slice (some ⟨wr.heap.size, 0, none⟩) 1 1)).run Tryd.prog (wr.alloc (.cells #[.int .u8 x] 5)) = .ok (.string ⟨#[c]⟩) (wr.alloc (.cells #[.int .u8 x] 5)) := by
  have q := run_convert_bytes_back (P := Tryd.prog) (wr.alloc (.cells #[.int .u8 x] 5)) 67 9 5 ⟨wr.heap.size, 0, none⟩ 1 [c] Tryd.underlying67 Tryd.underlying5 Tryd.underlying9 (fun j hj => by
    have : j = 0 := by simpa using hj
    subst this
    simp [Addr.add, hx])
  simpa using q
theorem bl_snoc (l : List UInt8) (c : UInt8) : bl l ++ (⟨#[c]⟩ : ByteArray) = bl (l ++ [c]) := by
  apply ByteArray.ext
  rw [ByteArray.data_append]
  simp
theorem runT_le2 (p : Int → Bool) (l : List UInt8) (k : Nat) (h : k ≤ l.length) : runT p (l.drop k) ≤ l.length - k := by
  have := runT_le p (l.drop k)
  rwa [List.length_drop] at this
/-- What unitAt answers of a place where letters stand. -/
def uaV (l : List UInt8) (p : Nat) : Value := match fuO (Lib.toUpperA ((l.drop p).take (runT letT (l.drop p)))) 0 with
  | none => .tuple #[.int .i64 (-1), .int .i64 (p : Int)]
  | some i => .tuple #[.int .i64 (i : Int), .int .i64 ((p + runT letT (l.drop p) : Nat) : Int)]
set_option maxRecDepth 100000 in
set_option maxHeartbeats 2000000 in
theorem unitAtR_of (s : ByteArray) (p : Nat) (hs : s.size ≤ 140737488355328) (hp : p ≤ s.size) (w : World) : Calls Tryd.prog 32 #[.string s, .int .i64 p] w fun e w' => e = .returned (uaV s.data.toList p) ∧ Below w.heap.size w w' := by
  have SL : Hid (s.data.toList.length = s.size) := by show _ = _; simp
  generalize hR : uaV s.data.toList p = R
  have HR : Hid (uaV s.data.toList p = R) := hR
  clear hR
  go_enter Tryd.func32, Tryd.ntmps32
  go_wp2_with fail
  go_loopw [6, 7] (fun vq vw wr => ∃ (n : Nat) (l : List UInt8), p + n ≤ s.size ∧ l.length = n ∧ vq = .int .i64 ((p + n : Nat) : Int) ∧ vw = .string (bl l) ∧ Hid (runT letT (s.data.toList.drop p) = n + runT letT (s.data.toList.drop (p + n)) ∧ l = lowL ((s.data.toList.drop p).take n)) ∧ Below w.heap.size w wr) (fun vq _ _ => s.size - (intOf vq).toNat)
  case atStart => exact ⟨0, [], by omega, rfl, rfl, rfl, ⟨by simp, rfl⟩, Below.refl _ _⟩
  case round =>
    obtain ⟨n, l, hn, ln, rfl, rfl, H, hB⟩ := hrel
    have B : Hid (Below w.heap.size w wr) := hB
    have bs := bl_size l
    clear hB
    by_cases hlt : p + n < s.size
    · have i1 : ((p + n : Nat) : Int) < s.size := by omega
      have HD : Hid _ := runT_drop letT s (p + n) hlt
      have gj : Hid (s.data.toList[p + n]? = some s[p + n]) := by
        show _ = _
        rw [List.getElem?_eq_getElem (by rw [SL.out]; exact hlt)]
        rfl
      have LW : Hid (∀ w, Calls Tryd.prog 58 #[.int .u8 (s[p + n].toNat : Int)] w fun e w' => e = .returned (.int .u8 (lowN (s[p + n].toNat : Int))) ∧ w' = w) := fun w => lowerR_of _ (by omega) (by have := s[p + n].toNat_lt; omega) w
      have LL : Hid _ := let_low (s[p + n].toNat : Int) (by omega)
      have LU : Hid _ := lowU_nat s[p + n]
      cases c : letT (s[p + n].toNat : Int)
      · have fin : runT letT (s.data.toList.drop p) = n := by
          have a := H.out.1
          have b := HD.out
          rw [c] at b
          simp only [Bool.false_eq_true, if_false] at b
          omega
        have LC : lowN (s[p + n].toNat : Int) < 97 ∨ 122 < lowN (s[p + n].toNat : Int) := by
          have a := LL.out
          rw [c] at a
          have := of_decide_eq_false a.symm
          omega
        clear c LL LU HD gj
        generalize lowN (s[p + n].toNat : Int) = z at *
        rcases LC with lc | lc
        all_goals
          have HF : Hid (runT letT (s.data.toList.drop p) = n ∧ l = lowL ((s.data.toList.drop p).take (runT letT (s.data.toList.drop p)))) := ⟨fin, by rw [fin]; exact H.out.2⟩
          have RR : Hid (R = match fuO (Lib.toUpperA ((s.data.toList.drop p).take (runT letT (s.data.toList.drop p)))) 0 with | none => .tuple #[.int .i64 (-1), .int .i64 (p : Int)] | some i => .tuple #[.int .i64 (i : Int), .int .i64 ((p + n : Nat) : Int)]) := by
            show _ = _
            rw [← HR.out, uaV, fin]
          have LK : Hid (∀ k, k < 7 → (((bl (loN k)).toList == (bl l).toList) = decide (qN k = Lib.toUpperA ((s.data.toList.drop p).take (runT letT (s.data.toList.drop p)))))) := fun k hk => by
            rw [q_same, bl_list, bl_list]
            have := lo_up ((s.data.toList.drop p).take (runT letT (s.data.toList.drop p))) k hk
            rw [← HF.out.2] at this
            by_cases g : loN k = l
            · rw [decide_eq_true g, decide_eq_true (this.mp g)]
            · rw [decide_eq_false g, decide_eq_false (fun h => g (this.mpr h))]
          generalize Lib.toUpperA ((s.data.toList.drop p).take (runT letT (s.data.toList.drop p))) = W at *
          clear H HF HR fin
          go_wp2_with (go_at_call 58; refine (LW.out _).mono ?_; rintro e w1 ⟨rfl, rfl⟩)
          go_loop [8] (fun v => ∃ k : Nat, k ≤ 7 ∧ v = .int .i64 k ∧ Hid (fuO W 0 = fuO W k)) (fun v => 7 - (intOf v).toNat)
          case atStart => exact ⟨0, by omega, rfl, rfl⟩
          case round =>
            obtain ⟨k, hk, rfl, HK⟩ := hrel
            by_cases k7 : k < 7
            · have k7' : (k : Int) < 7 := by omega
              have UN : Hid _ := fun w => unitR_of k k7 w
              have lk := LK.out k k7
              have ST : Hid _ := fuO_at W k k7
              generalize bl (loN k) = un at *
              generalize (qL k : Int) = ql at *
              generalize (pM k : Int) = pm at *
              by_cases g : qN k = W
              · have eq : (un.toList == (bl l).toList) = true := by rw [lk, decide_eq_true g]
                have E : Hid (R = .tuple #[.int .i64 (k : Int), .int .i64 ((p + n : Nat) : Int)]) := by
                  show _ = _
                  rw [RR.out, HK.out, ST.out, if_pos g]
                clear lk ST RR LK HK
                generalize bl l = bw at *
                go_wp2_with (go_at_call 33; refine (UN.out _).mono ?_; rintro e w5 ⟨rfl, rfl⟩)
                go_returns
                exact ⟨by rw [E.out]; rfl, B.out⟩
              · have eq : (un.toList == (bl l).toList) = false := by rw [lk, decide_eq_false g]
                have NX : Hid (fuO W 0 = fuO W (k + 1)) := by
                  show _ = _
                  rw [HK.out, ST.out, if_neg g]
                clear lk ST RR LK HK
                generalize bl l = bw at *
                go_wp2_with (go_at_call 33; refine (UN.out _).mono ?_; rintro e w5 ⟨rfl, rfl⟩)
                go_round
                case rel => exact ⟨k + 1, by omega, by go_num, NX⟩
                case measure => simp [intOf]; omega
            · have k7e : k = 7 := by omega
              have E : Hid (R = .tuple #[.int .i64 (-1), .int .i64 (p : Int)]) := by
                show _ = _
                rw [RR.out, HK.out, k7e]
                rfl
              clear RR LK HK
              go_wp2
              go_returns
              exact ⟨by rw [E.out]; rfl, B.out⟩
      · have LC : 97 ≤ lowN (s[p + n].toNat : Int) ∧ lowN (s[p + n].toNat : Int) ≤ 122 := by
          have a := LL.out
          rw [c] at a
          exact of_decide_eq_true a.symm
        obtain ⟨lc1, lc2⟩ := LC
        have NX : Hid (runT letT (s.data.toList.drop p) = (n + 1) + runT letT (s.data.toList.drop (p + (n + 1))) ∧ l ++ [lowU s[p + n]] = lowL ((s.data.toList.drop p).take (n + 1))) := by
          refine ⟨?_, ?_⟩
          · have a := H.out.1
            have b := HD.out
            rw [c] at b
            simp only [if_true] at b
            rw [← Nat.add_assoc p n 1]
            omega
          · rw [H.out.2, List.take_add_one, List.getElem?_drop, gj.out]
            simp [lowL]
        have CV := conv1q (lowN (s[p + n].toNat : Int)) (lowU s[p + n]) LU.out.symm
        have SN : Hid _ := bl_snoc l (lowU s[p + n])
        clear c LL LU HD gj H
        generalize lowN (s[p + n].toNat : Int) = z at *
        generalize lowU s[p + n] = cu at *
        go_wp2_with (go_at_call 58; refine (LW.out _).mono ?_; rintro e w1 ⟨rfl, rfl⟩)
        refine ⟨⟨n + 1, l ++ [cu], by omega, by simp [ln], congrArg (Value.int .i64) (by omega), congrArg Value.string SN.out, NX.out, B.out.alloc B.out.size _⟩, ?_⟩
        simp [intOf]
        omega
    · have hge : ¬ p + n < s.size := hlt
      have fin : runT letT (s.data.toList.drop p) = n := by
        have a := H.out.1
        rw [show s.data.toList.drop (p + n) = [] from List.drop_eq_nil_of_le (by rw [SL.out]; omega)] at a
        simp only [runT] at a
        omega
      have HF : Hid (runT letT (s.data.toList.drop p) = n ∧ l = lowL ((s.data.toList.drop p).take (runT letT (s.data.toList.drop p)))) := ⟨fin, by rw [fin]; exact H.out.2⟩
      have RR : Hid (R = match fuO (Lib.toUpperA ((s.data.toList.drop p).take (runT letT (s.data.toList.drop p)))) 0 with | none => .tuple #[.int .i64 (-1), .int .i64 (p : Int)] | some i => .tuple #[.int .i64 (i : Int), .int .i64 ((p + n : Nat) : Int)]) := by
        show _ = _
        rw [← HR.out, uaV, fin]
      have LK : Hid (∀ k, k < 7 → (((bl (loN k)).toList == (bl l).toList) = decide (qN k = Lib.toUpperA ((s.data.toList.drop p).take (runT letT (s.data.toList.drop p)))))) := fun k hk => by
        rw [q_same, bl_list, bl_list]
        have := lo_up ((s.data.toList.drop p).take (runT letT (s.data.toList.drop p))) k hk
        rw [← HF.out.2] at this
        by_cases g : loN k = l
        · rw [decide_eq_true g, decide_eq_true (this.mp g)]
        · rw [decide_eq_false g, decide_eq_false (fun h => g (this.mpr h))]
      generalize Lib.toUpperA ((s.data.toList.drop p).take (runT letT (s.data.toList.drop p))) = W at *
      clear H HF HR fin
      go_wp2_with fail
      go_loop [8] (fun v => ∃ k : Nat, k ≤ 7 ∧ v = .int .i64 k ∧ Hid (fuO W 0 = fuO W k)) (fun v => 7 - (intOf v).toNat)
      case atStart => exact ⟨0, by omega, rfl, rfl⟩
      case round =>
        obtain ⟨k, hk, rfl, HK⟩ := hrel
        by_cases k7 : k < 7
        · have k7' : (k : Int) < 7 := by omega
          have UN : Hid _ := fun w => unitR_of k k7 w
          have lk := LK.out k k7
          have ST : Hid _ := fuO_at W k k7
          generalize bl (loN k) = un at *
          generalize (qL k : Int) = ql at *
          generalize (pM k : Int) = pm at *
          by_cases g : qN k = W
          · have eq : (un.toList == (bl l).toList) = true := by rw [lk, decide_eq_true g]
            have E : Hid (R = .tuple #[.int .i64 (k : Int), .int .i64 ((p + n : Nat) : Int)]) := by
              show _ = _
              rw [RR.out, HK.out, ST.out, if_pos g]
            clear lk ST RR LK HK
            generalize bl l = bw at *
            go_wp2_with (go_at_call 33; refine (UN.out _).mono ?_; rintro e w5 ⟨rfl, rfl⟩)
            go_returns
            exact ⟨by rw [E.out]; rfl, B.out⟩
          · have eq : (un.toList == (bl l).toList) = false := by rw [lk, decide_eq_false g]
            have NX : Hid (fuO W 0 = fuO W (k + 1)) := by
              show _ = _
              rw [HK.out, ST.out, if_neg g]
            clear lk ST RR LK HK
            generalize bl l = bw at *
            go_wp2_with (go_at_call 33; refine (UN.out _).mono ?_; rintro e w5 ⟨rfl, rfl⟩)
            go_round
            case rel => exact ⟨k + 1, by omega, by go_num, NX⟩
            case measure => simp [intOf]; omega
        · have k7e : k = 7 := by omega
          have E : Hid (R = .tuple #[.int .i64 (-1), .int .i64 (p : Int)]) := by
            show _ = _
            rw [RR.out, HK.out, k7e]
            rfl
          clear RR LK HK
          go_wp2
          go_returns
          exact ⟨by rw [E.out]; rfl, B.out⟩
end Go.Proofs.YtpdnlojennhmpaaDoor
