/- What the document's hex answers; no statement of the seat is proved here. -/
import Derived.Test.YtopkdenefoifjaaDoorHexV
namespace Go.Proofs.YtopkdenefoifjaaDoor
set_option linter.unusedVariables false
open Go.RowKit
def slen : Value → Nat
  | .string b => b.size
  | _ => 0
theorem hexD_ext (d : Nat) (h : d < 16) : (⟨#[48, 49, 50, 51, 52, 53, 54, 55, 56, 57, 65, 66, 67, 68, 69, 70]⟩ : ByteArray).extract d (d + 1) = ⟨#[hxD d]⟩ := by
  have : ∀ d : Fin 16, (⟨#[48, 49, 50, 51, 52, 53, 54, 55, 56, 57, 65, 66, 67, 68, 69, 70]⟩ : ByteArray).extract d.val (d.val + 1) = ⟨#[hxD d.val]⟩ := by decide +kernel
  exact this ⟨d, h⟩
theorem ba_cons (c : UInt8) (l : List UInt8) : (⟨#[c]⟩ : ByteArray) ++ ⟨l.toArray⟩ = ⟨(c :: l).toArray⟩ := by
  apply ByteArray.ext
  rw [ByteArray.data_append]
  simp
set_option maxHeartbeats 1000000 in
theorem hexR_of (u least : Nat) (h : u < 18446744073709551616) (hl : 1 ≤ least) (hm : least ≤ 16) (w : World) :
    Calls Tryd.prog 19 #[.int .u64 u, .int .i64 least] w fun e w' => e = .returned (.string (hexS u least)) ∧ Below w.heap.size w w' := by
  go_enter Tryd.func19, Tryd.ntmps19
  go_wp2
  go_loop [0, 5] (fun vn vs => ∃ (i : Nat), i ≤ 17 ∧ vn = .int .u64 ((u / 16 ^ i : Nat) : Int) ∧ vs = .string ⟨(hexLow i u).toArray⟩ ∧ Hid (∀ j, j < i → u / 16 ^ j ≠ 0 ∨ j < least)) (fun vn vs => (RowKit.intOf vn).toNat + (least - slen vs))
  case atStart => exact ⟨0, by omega, by simp, rfl, fun j hj => by omega⟩
  case round =>
    obtain ⟨i, hi, rfl, rfl, HI⟩ := hrel
    have hv64 : u / 16 ^ i < 18446744073709551616 := by have := Nat.div_le_self u (16 ^ i); omega
    have hsz : (⟨(hexLow i u).toArray⟩ : ByteArray).size = i := by show (hexLow i u).toArray.size = i; simp [hexLow_len]
    have e1 : Hid (u / 16 ^ (i + 1) = u / 16 ^ i / 16) := by show _ = _; rw [Nat.div_div_eq_div_mul, Nat.pow_succ]
    have e2 : Hid (hexLow (i + 1) u = hxD (u / 16 ^ i % 16) :: hexLow i u) := rfl
    by_cases hc : u / 16 ^ i ≠ 0 ∨ i < least
    · have hi17 : i < 17 := by
        by_cases g : i < 17
        · exact g
        · exfalso
          have : i = 17 := by omega
          subst this
          rcases hc with q | q
          · exact q (Nat.div_eq_of_lt (Nat.lt_of_lt_of_le h (by decide)))
          · omega
      have HN : Hid (∀ j, j < i + 1 → u / 16 ^ j ≠ 0 ∨ j < least) := fun j hj => by
        by_cases g : j < i
        · exact HI.out j g
        · have : j = i := by omega
          subst this; exact hc
      generalize hv : u / 16 ^ i = v at *
      generalize hexLow i u = l at *
      have a15 := and15 v hv64
      have E := hexD_ext (v % 16) (by omega)
      have C : Hid _ := ba_cons (hxD (v % 16)) l
      have fin : Hid ((⟨(hxD (v % 16) :: l).toArray⟩ : ByteArray) = ⟨(hexLow (i + 1) u).toArray⟩) := by show _ = _; rw [e2.out]
      by_cases v0 : v = 0
      · have i1 : (i : Int) < least := by rcases hc with q | q <;> omega
        subst v0
        clear E a15
        have E : Hid _ := hexD_ext (0 % 16) (by omega)
        have G : Hid ((⟨#[48, 49, 50, 51, 52, 53, 54, 55, 56, 57, 65, 66, 67, 68, 69, 70]⟩ : ByteArray).extract (0 % 16) (0 % 16 + 1) ++ (⟨l.toArray⟩ : ByteArray) = ⟨(hexLow (i + 1) u).toArray⟩) := by
          show _ = _
          rw [E.out, C.out, fin.out]
        have hsn : (⟨(hexLow (i + 1) u).toArray⟩ : ByteArray).size = i + 1 := by show (hexLow (i + 1) u).toArray.size = i + 1; simp [hexLow_len]
        clear fin C E
        go_wp2
        refine ⟨⟨i + 1, by omega, by rw [e1.out]; simp, congrArg Value.string G.out, HN.out⟩, ?_⟩
        refine Nat.lt_of_le_of_lt (m := 0 + (least - (i + 1))) ?_ ?_
        · exact Nat.le_of_eq (by
            show 0 + (least - ByteArray.size ((⟨#[48, 49, 50, 51, 52, 53, 54, 55, 56, 57, 65, 66, 67, 68, 69, 70]⟩ : ByteArray).extract (0 % 16) (0 % 16 + 1) ++ (⟨l.toArray⟩ : ByteArray))) = _
            rw [G.out, hsn])
        · show _ < 0 + (least - (⟨l.toArray⟩ : ByteArray).size)
          rw [hsz]
          omega
      · have v1 : (0 : Int) < v := by omega
        go_wp2
        refine ⟨⟨i + 1, by omega, by rw [e1.out]; push_cast; rfl, ?_, HN.out⟩, ?_⟩
        · rw [C.out, fin.out]
        · rw [C.out]
          show (((v : Int) / 16).toNat) + (least - (hxD (v % 16) :: l).toArray.size) < (v : Int).toNat + (least - (⟨l.toArray⟩ : ByteArray).size)
          rw [hsz]
          have : l.length = i := by have := hsz; simp [ByteArray.size] at this; exact this
          simp [this]
          omega
    · have z : u / 16 ^ i = 0 := by omega
      have zl : least ≤ i := by omega
      have fin : Hid ((⟨(hexLow i u).toArray⟩ : ByteArray) = hexS u least) := hexLow_end u i least hl zl z HI.out
      have zl' : ¬ (i : Int) < least := by omega
      rw [z]
      generalize (⟨(hexLow i u).toArray⟩ : ByteArray) = t at *
      clear z
      go_wp2
      go_ret
      exact ⟨congrArg (fun x => Ending.returned (Value.string x)) fin.out, Below.refl _ _⟩
end Go.Proofs.YtopkdenefoifjaaDoor
