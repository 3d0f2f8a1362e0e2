/- What the document's digits answers; no statement of the seat is proved here. -/
import Derived.Test.YtmglgaeobofdpaaDoorDecP
import Derived.Test.YtmglgaeobofdpaaDoorRows
import Derived.WalkKit
import Derived.WalkSpells
import Derived.WalkLawsBesides
import Derived.Handy
import Derived.Deep.Light
import Derived.Laws.IdiomStrings
namespace Go.Proofs.YtmglgaeobofdpaaDoor
set_option linter.unusedVariables false
open Go.RowKit
def dslen : Value → Nat
  | .string b => b.size
  | _ => 0
theorem dba_cons (c : UInt8) (l : List UInt8) : (⟨#[c]⟩ : ByteArray) ++ ⟨l.toArray⟩ = ⟨(c :: l).toArray⟩ := by
  apply ByteArray.ext
  rw [ByteArray.data_append]
  simp
theorem conv1 (x : Int) (c : UInt8) (hx : x = (c.toNat : Int)) (wr : World) :
    (convert 78 9 (.slice (some ⟨wr.heap.size, 0, none⟩) 1 1)).run Tryd.prog (wr.alloc (.cells #[.int .u8 x] 5)) = .ok (.string ⟨#[c]⟩) (wr.alloc (.cells #[.int .u8 x] 5)) := by
  have q := run_convert_bytes_back (P := Tryd.prog) (wr.alloc (.cells #[.int .u8 x] 5)) 78 9 5 ⟨wr.heap.size, 0, none⟩ 1 [c] Tryd.underlying78 Tryd.underlying5 Tryd.underlying9 (fun j hj => by
    have : j = 0 := by simpa using hj
    subst this
    simp [Addr.add, hx])
  simpa using q
set_option maxHeartbeats 1000000 in
set_option maxRecDepth 100000 in
theorem digitsR_of (u least : Nat) (h : u < 18446744073709551616) (hl : 1 ≤ least) (hm : least ≤ 20) (w : World) :
    Calls Tryd.prog 56 #[.int .u64 u, .int .i64 least] w fun e w' => e = .returned (.string (dcS u least)) ∧ Below w.heap.size w w' := by
  go_enter Tryd.func56, Tryd.ntmps56
  go_wp2
  go_loopw [0, 5] (fun vn vs wr => ∃ (i : Nat), i ≤ 20 ∧ vn = .int .u64 ((u / 10 ^ i : Nat) : Int) ∧ vs = .string ⟨(decLow i u).toArray⟩ ∧ Hid (∀ j, j < i → u / 10 ^ j ≠ 0 ∨ j < least) ∧ Below w.heap.size w wr) (fun vn vs _ => (RowKit.intOf vn).toNat + (least - dslen vs))
  case atStart => exact ⟨0, by omega, by simp, rfl, fun j hj => by omega, Below.refl _ _⟩
  case round =>
    obtain ⟨i, hi, rfl, rfl, HI, B0⟩ := hrel
    have B : Hid _ := B0
    clear B0
    have hv64 : u / 10 ^ i < 18446744073709551616 := by have := Nat.div_le_self u (10 ^ i); omega
    have hsz : (⟨(decLow i u).toArray⟩ : ByteArray).size = i := by show (decLow i u).toArray.size = i; simp [decLow_len]
    have e1 : Hid (u / 10 ^ (i + 1) = u / 10 ^ i / 10) := by show _ = _; rw [Nat.div_div_eq_div_mul, Nat.pow_succ]
    have e2 : Hid (decLow (i + 1) u = UInt8.ofNat (48 + u / 10 ^ i % 10) :: decLow i u) := rfl
    by_cases hc : u / 10 ^ i ≠ 0 ∨ i < least
    · have hi17 : i < 20 := by
        by_cases g : i < 20
        · exact g
        · exfalso
          have : i = 20 := by omega
          subst this
          rcases hc with q | q
          · exact q (Nat.div_eq_of_lt (Nat.lt_of_lt_of_le h (by decide)))
          · omega
      have HN : Hid (∀ j, j < i + 1 → u / 10 ^ j ≠ 0 ∨ j < least) := fun j hj => by
        by_cases g : j < i
        · exact HI.out j g
        · have : j = i := by omega
          subst this; exact hc
      generalize hv : u / 10 ^ i = v at *
      generalize decLow i u = l at *
      have CV := conv1 (48 + (v : Int) % 10) (UInt8.ofNat (48 + v % 10)) (by simp; omega)
      have C : Hid _ := dba_cons (UInt8.ofNat (48 + v % 10)) l
      have fin : Hid ((⟨(UInt8.ofNat (48 + v % 10) :: l).toArray⟩ : ByteArray) = ⟨(decLow (i + 1) u).toArray⟩) := by show _ = _; rw [e2.out]
      have hcb : Hid (v = 0 → UInt8.ofNat (48 + v % 10) = 48) := fun z => by subst z; rfl
      generalize UInt8.ofNat (48 + v % 10) = cb at *
      have hll : l.length = i := by have := hsz; simp [ByteArray.size] at this; exact this
      by_cases v0 : v = 0
      · have i1 : (i : Int) < least := by rcases hc with q | q <;> omega
        have c48 := hcb.out v0
        subst c48
        subst v0
        have CV := conv1 48 48 (by decide)
        have G : Hid ((⟨#[48]⟩ : ByteArray) ++ (⟨l.toArray⟩ : ByteArray) = ⟨(decLow (i + 1) u).toArray⟩) := by
          show _ = _
          rw [← fin.out]
          exact C.out
        have hsn : (⟨(decLow (i + 1) u).toArray⟩ : ByteArray).size = i + 1 := by show (decLow (i + 1) u).toArray.size = i + 1; simp [decLow_len]
        clear fin C
        go_wp2
        refine ⟨⟨i + 1, by omega, by rw [e1.out]; simp, congrArg Value.string G.out, HN.out, B.out.alloc B.out.size _⟩, ?_⟩
        refine Nat.lt_of_le_of_lt (m := 0 + (least - (i + 1))) ?_ ?_
        · exact Nat.le_of_eq (by
            show 0 + (least - ByteArray.size ((⟨#[48]⟩ : ByteArray) ++ (⟨l.toArray⟩ : ByteArray))) = _
            rw [G.out, hsn])
        · show _ < 0 + (least - (⟨l.toArray⟩ : ByteArray).size)
          rw [hsz]
          omega
      · have v1 : (0 : Int) < v := by omega
        go_wp2
        refine ⟨⟨i + 1, by omega, by rw [e1.out]; push_cast; rfl, ?_, HN.out, B.out.alloc B.out.size _⟩, ?_⟩
        · rw [C.out, fin.out]
        · rw [C.out]
          show (((v : Int) / 10).toNat) + (least - (cb :: l).toArray.size) < (v : Int).toNat + (least - (⟨l.toArray⟩ : ByteArray).size)
          rw [hsz]
          simp [hll]
          omega
    · have z : u / 10 ^ i = 0 := by omega
      have zl : least ≤ i := by omega
      have fin : Hid ((⟨(decLow i u).toArray⟩ : ByteArray) = dcS u least) := decLow_end u i least hl zl z HI.out
      have zl' : ¬ (i : Int) < least := by omega
      rw [z]
      generalize (⟨(decLow i u).toArray⟩ : ByteArray) = t at *
      clear z
      go_wp2
      go_ret
      exact ⟨congrArg (fun x => Ending.returned (Value.string x)) fin.out, B.out⟩
end Go.Proofs.YtmglgaeobofdpaaDoor
