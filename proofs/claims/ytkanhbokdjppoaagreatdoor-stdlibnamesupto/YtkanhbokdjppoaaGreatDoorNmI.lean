/- The document's rows of argument names; no statement of the seat is proved here. -/
import Derived.Test.YtkanhbokdjppoaaGreatDoorNmG
import Derived.Laws.IdiomStrings
namespace Go.Proofs.YtkanhbokdjppoaaGreatDoor
set_option linter.unusedVariables false
open Go.RowKit
theorem rba_cons (c : UInt8) (l : List UInt8) : (⟨#[c]⟩ : ByteArray) ++ ⟨l.toArray⟩ = ⟨(c :: l).toArray⟩ := by
  apply ByteArray.ext
  rw [ByteArray.data_append]
  simp
theorem rconv1 (x : Int) (c : UInt8) (hx : x = (c.toNat : Int)) (wr : World) :
    (convert 80 9 (.slice (some ⟨wr.heap.size, 0, none⟩) 1 1)).run Tryz.prog (wr.alloc (.cells #[.int .u8 x] 5)) = .ok (.string ⟨#[c]⟩) (wr.alloc (.cells #[.int .u8 x] 5)) := by
  have q := run_convert_bytes_back (P := Tryz.prog) (wr.alloc (.cells #[.int .u8 x] 5)) 80 9 5 ⟨wr.heap.size, 0, none⟩ 1 [c] Tryz.underlying80 Tryz.underlying5 Tryz.underlying9 (fun j hj => by
    have : j = 0 := by simpa using hj
    subst this
    simp [Addr.add, hx])
  simpa using q
theorem in_lo (K : Nat) (h : K < 10) : (⟨#[73, 78]⟩ : ByteArray) ++ ⟨#[UInt8.ofNat (48 + K % 10)]⟩ = inN K := by
  unfold inN
  rw [Lib.decDigits, dif_pos h, Nat.mod_eq_of_lt h]
theorem in_hi (K : Nat) (h : 10 ≤ K) (h2 : K < 100) : (⟨#[73, 78]⟩ : ByteArray) ++ ⟨#[UInt8.ofNat (48 + K / 10), UInt8.ofNat (48 + K % 10)]⟩ = inN K := by
  unfold inN
  rw [Lib.decDigits, dif_neg (by omega), Lib.decDigits, dif_pos (by omega)]
  rfl
/-- Where the digits of a small number stand. -/
def Stg (K : Nat) (vk vt : Value) : Prop :=
  (vk = .int .i64 K ∧ vt = .string ⟨#[]⟩) ∨ (vk = .int .i64 (K / 10 : Nat) ∧ vt = .string ⟨#[UInt8.ofNat (48 + K % 10)]⟩) ∨
  (10 ≤ K ∧ vk = .int .i64 0 ∧ vt = .string ⟨#[UInt8.ofNat (48 + K / 10), UInt8.ofNat (48 + K % 10)]⟩)
def tsz : Value → Nat
  | .string b => b.size
  | _ => 0
set_option maxRecDepth 20000 in
set_option maxHeartbeats 4000000 in
theorem rowR_of (f n : Nat) (w : World) (hf : f ≤ 1) (hn : n ≤ 16) :
    Calls Tryz.prog 29 #[.string ⟨#[73, 78]⟩, .int .i64 f, .int .i64 n] w fun e w' => ∃ v, e = .returned v ∧ w'.ownsRow w.heap.size 9 1 v n (stL n (fun i => inN (i + f))) ∧ Below w.heap.size w w' := by
  have I : Hid (∃ i, Tryz.prog.info? 9 = some i ∧ i.zero = some (.string ⟨#[]⟩) ∧ i.size = 1 ∧ i.bytes = 16) := by
    obtain ⟨i, hi, hz⟩ := Option.map_eq_some_iff.1 (show (Tryz.prog.info? 9).map (fun i => (i.zero, i.size, i.bytes)) = some (some (.string ⟨#[]⟩), 1, 16) by kernel_rfl)
    simp only [Prod.mk.injEq] at hz
    exact ⟨i, hi, hz.1, hz.2.1, hz.2.2⟩
  go_enter Tryz.func29, Tryz.ntmps29
  go_wp2_with fail
  go_loopw [7, 12] (fun x i wr => ∃ k : Nat, k ≤ n ∧ i = .int .i64 k ∧ wr.ownsRow w.heap.size 9 1 x k (stL k (fun i => inN (i + f))) ∧ Below w.heap.size w wr) (fun _ i _ => n - (intOf i).toNat)
  case atStart => exact ⟨0, Nat.zero_le _, rfl, ⟨rfl, .inl ⟨rfl, rfl⟩⟩, Below.refl _ _⟩
  case round =>
    obtain ⟨k, hk, rfl, hown, hb⟩ := hrel
    have HB : Hid (Below w.heap.size w wr) := hb
    have HO : Hid (wr.ownsRow w.heap.size 9 1 _ k (stL k (fun i => inN (i + f)))) := hown
    obtain ⟨y, cp, rfl⟩ : ∃ y cp, u7 = .slice y k cp := by
      rcases hown.2 with ⟨hv, h0⟩ | ⟨g, cap, cur, hv, _⟩
      · exact ⟨none, 0, by rw [hv, h0]⟩
      · exact ⟨_, _, hv⟩
    clear hb hown
    by_cases hlt : k < n
    · have kl : (k : Int) < n := by omega
      have k16 : (k : Int) + f ≤ 17 := by omega
      obtain ⟨K, hK⟩ : ∃ K, k + f = K := ⟨_, rfl⟩
      have hK' : (k : Int) + f = K := by omega
      have kz : K ≤ 17 := by omega
      have kz' : (K : Int) ≤ 17 := by omega
      go_wp2_with fail
      have PN : Hid (inN (k + f) = inN K) := by show inN (k + f) = inN K; rw [hK]
      obtain ⟨WO, e0⟩ : ∃ W, W = wr := ⟨_, rfl⟩
      subst e0
      go_loopw [9, 10] (fun vk vt wi => Stg K vk vt ∧ Below WO.heap.size WO wi) (fun _ vt _ => 2 - tsz vt)
      case atStart => exact ⟨.inl ⟨by first | rfl | rw [hK'], rfl⟩, Below.refl _ _⟩
      case round =>
        obtain ⟨hs, hbi⟩ := hrel
        have HI : Hid (Below WO.heap.size WO wr) := hbi
        have zz : w.heap.size ≤ wr.heap.size := Nat.le_trans HB.out.size hbi.size
        clear hbi
        rcases hs with ⟨rfl, rfl⟩ | ⟨rfl, rfl⟩ | ⟨h10, rfl, rfl⟩
        · by_cases k0 : K = 0
          · have CV := rconv1 48 48 (by decide)
            subst k0
            go_wp2
            go_roundw
            case rel => exact ⟨.inr (.inl ⟨rfl, rfl⟩), HI.out.alloc HI.out.size _⟩
            case measure => exact (by decide : 2 - 1 < 2 - 0)
          · have k1 : (0 : Int) < K := by omega
            obtain ⟨c, hc⟩ : ∃ c, UInt8.ofNat (48 + K % 10) = c := ⟨_, rfl⟩
            have CV := rconv1 (48 + (K : Int) % 10) c (by rw [← hc]; simp; omega)
            have HC : Hid _ := hc
            clear hc
            go_wp2
            refine ⟨⟨.inr (.inl ⟨by push_cast; rfl, by rw [HC.out]; rfl⟩), HI.out.alloc HI.out.size _⟩, ?_⟩
            exact (by decide : 2 - 1 < 2 - 0)
        · by_cases k0 : K < 10
          · have z : K / 10 = 0 := by omega
            have cc : ∀ w, (Op.stringOp .add ⟨#[73, 78]⟩ ⟨#[UInt8.ofNat (48 + K % 10)]⟩).run Tryz.prog w = .ok (.string (inN K)) w := fun w => by
              rw [← in_lo K k0]; exact run_string_add_sum w _ _ (by simp [ByteArray.size])
            rw [z]
            have nz : (⟨#[UInt8.ofNat (48 + K % 10)]⟩ : ByteArray).toList.isEmpty = false := by rw [ByteArray.toList_eq]; rfl
            generalize (⟨#[UInt8.ofNat (48 + K % 10)]⟩ : ByteArray) = tx at *
            clear z
            go_wp2_with (at_builtin; obtain ⟨i', hi, hz, hs, hy⟩ := I.out; refine wpList_append_own _ rfl _ _ 30 rfl w.heap.size 9 i' _ 1 16 Tryz.underlying30 hi hz hs hy rfl (by decide) _ k _ rfl (ownsRow_below (ownsRow_below HO.out HI.out) ((Below.refl _ _).alloc (Nat.le_refl _) _)) ⟨wr.heap.size, 0, none⟩ 1 1 [.string (inN K)] rfl rfl (last_src wr _ _) (by intro u hu; simp at hu; subst hu; rfl) (by simp [maxLen]; omega) (by omega) (by simp; omega) ?_; intro v' w' k1 k2 k3; have H1 : Hid (w'.ownsRow w.heap.size 9 1 v' (k + 1) (stL (k + 1) (fun i => inN (i + f)))) := (by rw [stL_succ, PN.out]; exact k1); have H2 : Hid _ := k2; clear k1 k2 k3 hi hz hs hy)
            go_roundw
            case rel => exact ⟨k + 1, by omega, by go_num, H1.out, ((HB.out.trans (HI.out.mono HB.out.size)).alloc zz _).grown H2.out (by simp; omega) (fun g e => ownB HO.out e)⟩
            case measure => simp [intOf]; omega
          · obtain ⟨c, hc⟩ : ∃ c, UInt8.ofNat (48 + K / 10) = c := ⟨_, rfl⟩
            obtain ⟨d, hd⟩ : ∃ d, UInt8.ofNat (48 + K % 10) = d := ⟨_, rfl⟩
            have z : K / 10 = 1 := by omega
            obtain rfl : c = 49 := by rw [← hc, z]; rfl
            have CV := rconv1 49 49 (by decide)
            have C : (⟨#[49]⟩ : ByteArray) ++ ⟨#[d]⟩ = ⟨#[49, d]⟩ := rba_cons 49 [d]
            have Z : Hid (Stg K (.int .i64 0) (.string ⟨#[49, d]⟩)) := .inr (.inr ⟨by omega, rfl, by rw [hc, hd]⟩)
            rw [hd, z]
            clear hc hd z
            go_wp2
            refine ⟨⟨?_, HI.out.alloc HI.out.size _⟩, ?_⟩
            · first | exact Z.out | (rw [C]; exact Z.out)
            · exact (by decide : 2 - 2 < 2 - 1)
        · have cc : ∀ w, (Op.stringOp .add ⟨#[73, 78]⟩ ⟨#[UInt8.ofNat (48 + K / 10), UInt8.ofNat (48 + K % 10)]⟩).run Tryz.prog w = .ok (.string (inN K)) w := fun w => by
            rw [← in_hi K h10 (by omega)]; exact run_string_add_sum w _ _ (by simp [ByteArray.size])
          have nz : (⟨#[UInt8.ofNat (48 + K / 10), UInt8.ofNat (48 + K % 10)]⟩ : ByteArray).toList.isEmpty = false := by rw [ByteArray.toList_eq]; rfl
          generalize (⟨#[UInt8.ofNat (48 + K / 10), UInt8.ofNat (48 + K % 10)]⟩ : ByteArray) = tx at *
          go_wp2_with (at_builtin; obtain ⟨i', hi, hz, hs, hy⟩ := I.out; refine wpList_append_own _ rfl _ _ 30 rfl w.heap.size 9 i' _ 1 16 Tryz.underlying30 hi hz hs hy rfl (by decide) _ k _ rfl (ownsRow_below (ownsRow_below HO.out HI.out) ((Below.refl _ _).alloc (Nat.le_refl _) _)) ⟨wr.heap.size, 0, none⟩ 1 1 [.string (inN K)] rfl rfl (last_src wr _ _) (by intro u hu; simp at hu; subst hu; rfl) (by simp [maxLen]; omega) (by omega) (by simp; omega) ?_; intro v' w' k1 k2 k3; have H1 : Hid (w'.ownsRow w.heap.size 9 1 v' (k + 1) (stL (k + 1) (fun i => inN (i + f)))) := (by rw [stL_succ, PN.out]; exact k1); have H2 : Hid _ := k2; clear k1 k2 k3 hi hz hs hy)
          go_roundw
          case rel => exact ⟨k + 1, by omega, by go_num, H1.out, ((HB.out.trans (HI.out.mono HB.out.size)).alloc zz _).grown H2.out (by simp; omega) (fun g e => ownB HO.out e)⟩
          case measure => simp [intOf]; omega
    · obtain rfl : k = n := by omega
      have kl : ¬ (k : Int) < k := by omega
      go_wp2
      go_ret
      exact ⟨_, rfl, HO.out, HB.out⟩
end Go.Proofs.YtkanhbokdjppoaaGreatDoor
