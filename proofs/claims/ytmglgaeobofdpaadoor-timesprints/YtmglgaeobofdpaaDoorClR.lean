/- What the document's clockText answers; no statement of the seat is proved here. -/
import Derived.Test.YtmglgaeobofdpaaDoorClV
namespace Go.Proofs.YtmglgaeobofdpaaDoor
set_option linter.unusedVariables false
open Go.RowKit
theorem dec_zero : ∀ (i n : Nat), n < 10 ^ i → (∀ b ∈ decLow i n, b = 48) → n = 0
  | 0, n, h, _ => by simpa using h
  | i + 1, n, h, ha => by
    rw [decLow_snoc] at ha
    have z := dec_zero i (n / 10) (by rw [Nat.pow_succ] at h; omega) (fun b hb => ha b (by simp [hb]))
    have l := ha (UInt8.ofNat (48 + n % 10)) (by simp)
    have : n % 10 = 0 := by
      have e := congrArg UInt8.toNat l
      simp at e
      omega
    omega
theorem dec_noughts (i : Nat) : ∀ b ∈ decLow i 0, b = 48 := by
  have := decLow_pad 0 0 (by simp) i
  rw [Nat.zero_add] at this
  rw [this]
  intro b hb
  simp [decLow] at hb
  exact hb.2
def TB (l : List UInt8) (e : Nat) : Prop := ∀ (j : Nat) b, e ≤ j → l[j]? = some b → b = 48
set_option maxRecDepth 100000 in
set_option maxHeartbeats 2000000 in
theorem clockText_of (N : Nat) (h : N < 86400000000000) (w : World) :
    Calls Tryd.prog 24 #[.int .i64 N] w fun e w' => e = .returned (.string (clS N)) ∧ Below w.heap.size w w' := by
  have PH : Hid (∀ w, Calls Tryd.prog 56 #[.int .u64 ((N : Int) / 1000000000 / 3600), .int .i64 2] w fun e w' => e = .returned (.string (dcS (N / 3600000000000) 2)) ∧ Below w.heap.size w w') := fun w => by
    have := digitsR_of (N / 3600000000000) 2 (by omega) (by omega) (by omega) w
    rwa [show ((N / 3600000000000 : Nat) : Int) = (N : Int) / 1000000000 / 3600 by omega] at this
  have PM : Hid (∀ w, Calls Tryd.prog 56 #[.int .u64 ((N : Int) / 1000000000 / 60 % 60), .int .i64 2] w fun e w' => e = .returned (.string (dcS (N % 3600000000000 / 60000000000) 2)) ∧ Below w.heap.size w w') := fun w => by
    have := digitsR_of (N % 3600000000000 / 60000000000) 2 (by omega) (by omega) (by omega) w
    rwa [show ((N % 3600000000000 / 60000000000 : Nat) : Int) = (N : Int) / 1000000000 / 60 % 60 by omega] at this
  have PS : Hid (∀ w, Calls Tryd.prog 56 #[.int .u64 ((N : Int) / 1000000000 % 60), .int .i64 2] w fun e w' => e = .returned (.string (dcS (N % 60000000000 / 1000000000) 2)) ∧ Below w.heap.size w w') := fun w => by
    have := digitsR_of (N % 60000000000 / 1000000000) 2 (by omega) (by omega) (by omega) w
    rwa [show ((N % 60000000000 / 1000000000 : Nat) : Int) = (N : Int) / 1000000000 % 60 by omega] at this
  have PF : Hid (∀ w, Calls Tryd.prog 56 #[.int .u64 ((N : Int) % 1000000000), .int .i64 9] w fun e w' => e = .returned (.string ⟨(decLow 9 (N % 1000000000)).toArray⟩) ∧ Below w.heap.size w w') := fun w => by
    have := digitsR_of (N % 1000000000) 9 (by omega) (by omega) (by omega) w
    rwa [dcS_nine _ (by omega)] at this
  have s1 := dcS_20 (N / 3600000000000) 2 (by omega) (by omega)
  have s2 := dcS_20 (N % 3600000000000 / 60000000000) 2 (by omega) (by omega)
  have s3 := dcS_20 (N % 60000000000 / 1000000000) 2 (by omega) (by omega)
  have s5 : (⟨(decLow 9 (N % 1000000000)).toArray⟩ : ByteArray).size = 9 := by show (decLow 9 (N % 1000000000)).toArray.size = 9; simp [decLow_len]
  have R : Hid (clS N = if N % 1000000000 = 0 then dcS (N / 3600000000000) 2 ++ ⟨#[58]⟩ ++ dcS (N % 3600000000000 / 60000000000) 2 ++ ⟨#[58]⟩ ++ dcS (N % 60000000000 / 1000000000) 2 else dcS (N / 3600000000000) 2 ++ ⟨#[58]⟩ ++ dcS (N % 3600000000000 / 60000000000) 2 ++ ⟨#[58]⟩ ++ dcS (N % 60000000000 / 1000000000) 2 ++ ⟨#[46]⟩ ++ clF N) := rfl
  generalize dcS (N / 3600000000000) 2 = t1 at *
  generalize dcS (N % 3600000000000 / 60000000000) 2 = t2 at *
  generalize dcS (N % 60000000000 / 1000000000) 2 = t3 at *
  generalize hf : (⟨(decLow 9 (N % 1000000000)).toArray⟩ : ByteArray) = f at *
  have HF : Hid _ := hf
  clear hf
  go_enter Tryd.func24, Tryd.ntmps24
  go_wp2_with fail
  refine (PH.out _).mono ?_
  rintro e w2 ⟨rfl, hb⟩
  have B2 : Hid (Below w.heap.size w w2) := hb
  clear hb
  go_wp2_with fail
  refine (PM.out _).mono ?_
  rintro e w3 ⟨rfl, hb⟩
  have B3 : Hid (Below w.heap.size w w3) := B2.out.trans (hb.mono B2.out.size)
  clear hb
  go_wp2_with fail
  refine (PS.out _).mono ?_
  rintro e w4 ⟨rfl, hb⟩
  have B4 : Hid (Below w.heap.size w w4) := B3.out.trans (hb.mono B3.out.size)
  clear hb
  go_wp2_with fail
  refine (PF.out _).mono ?_
  rintro e w5 ⟨rfl, hb⟩
  have B5 : Hid (Below w.heap.size w w5) := B4.out.trans (hb.mono B4.out.size)
  clear hb
  go_wp2
  have HX : Hid (∀ m : Nat, m < 9 → ∃ b : UInt8, (decLow 9 (N % 1000000000))[m]? = some b ∧ ∀ w, (Instr.index 9 (.string f) (.int .i64 (m : Int))).run Tryd.prog w = .ok (.int .u8 (b.toNat : Int)) w) := fun m hm => by
    have hl : m < (decLow 9 (N % 1000000000)).length := by rw [decLow_len]; exact hm
    refine ⟨(decLow 9 (N % 1000000000))[m], List.getElem?_eq_getElem hl, fun w => ?_⟩
    rw [run_index_string w 9 f .i64 _ Tryd.underlying9, dif_pos ⟨by omega, by omega⟩]
    have e : ((m : Int)).toNat = m := by omega
    simp only [e]
    have := HF.out
    subst this
    rfl
  go_loop [6] (fun v => ∃ e : Nat, e ≤ 9 ∧ v = .int .i64 (e : Int) ∧ Hid (TB (decLow 9 (N % 1000000000)) e)) (fun v => (intOf v).toNat)
  case atStart => exact ⟨9, by omega, rfl, fun j b hj hb => by
    have := (List.getElem?_eq_some_iff.1 hb).1
    rw [decLow_len] at this
    omega⟩
  case round =>
    obtain ⟨e, he, rfl, HT⟩ := hrel
    by_cases e0 : e = 0
    · subst e0
      have z : N % 1000000000 = 0 := dec_zero 9 _ (by omega) (fun b hb => by
        obtain ⟨j, hj, hj'⟩ := List.getElem_of_mem hb
        exact HT.out j b (by omega) (by rw [List.getElem?_eq_getElem hj, hj']))
      rw [if_pos z] at R
      clear z
      go_wp2
      go_ret
      exact ⟨congrArg (fun y => Ending.returned (Value.string y)) R.out.symm, B5.out⟩
    · obtain ⟨m, rfl⟩ : ∃ m, e = m + 1 := ⟨e - 1, by omega⟩
      obtain ⟨b, hb, hX⟩ := HX.out m (by omega)
      have HB : Hid _ := hb
      clear hb
      have e1 : (0 : Int) < ((m + 1 : Nat) : Int) := by omega
      by_cases c : b = 48
      · have cc : ((b.toNat : Int) == 48) = true := by subst c; rfl
        have HN : Hid (TB (decLow 9 (N % 1000000000)) m) := fun j x hj hx => by
          by_cases g : j = m
          · subst g
            rw [HB.out] at hx
            rw [← Option.some.inj hx]; exact c
          · exact HT.out j x (by omega) hx
        generalize (b.toNat : Int) = y at *
        go_wp2
        refine ⟨⟨m, by omega, rfl, HN.out⟩, ?_⟩
        simp [intOf]
      · have cc : ((b.toNat : Int) == 48) = false := by
          simp
          intro q
          apply c
          exact UInt8.toNat_inj.mp (by simpa using (by omega : b.toNat = 48))
        have nz : ¬ N % 1000000000 = 0 := fun z => by
          apply c
          have hb := HB.out
          rw [z] at hb
          exact dec_noughts 9 b (List.mem_of_getElem? hb)
        rw [if_neg nz] at R
        have fin : Hid (clF N = f.extract 0 (m + 1)) := by
          show _ = _
          unfold clF
          have hl := decLow_len 9 (N % 1000000000)
          rw [Lib.trimRightB_take _ 48 (m + 1) (by omega) (fun j x hj hx => HT.out j x hj hx) (fun x _ hx => by
            rw [Nat.add_sub_cancel, HB.out] at hx
            rw [← Option.some.inj hx]; exact c)]
          apply ByteArray.ext
          rw [← HF.out]
          simp [ByteArray.data_extract]
        rw [fin.out] at R
        have fs : (f.extract 0 (m + 1)).size = m + 1 := by simp [ByteArray.size_extract]; omega
        generalize (b.toNat : Int) = y at *
        clear nz
        go_wp2
        go_ret
        exact ⟨congrArg (fun y => Ending.returned (Value.string y)) R.out.symm, B5.out⟩
end Go.Proofs.YtmglgaeobofdpaaDoor
