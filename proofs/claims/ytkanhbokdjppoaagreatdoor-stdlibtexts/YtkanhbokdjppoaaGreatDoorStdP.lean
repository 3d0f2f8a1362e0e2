/- What CONCAT gives; no statement of the seat is proved here. -/
import Derived.Test.YtkanhbokdjppoaaGreatDoorStdJ
import Derived.Test.YtkanhbokdjppoaaGreatDoorBldA
import Derived.Test.YtkanhbokdjppoaaGreatDoorBs
namespace Go.Proofs.YtkanhbokdjppoaaGreatDoor
set_option linter.unusedVariables false
open Go.RowKit
/-- The first texts, one behind the other. -/
def ctL (v : Nat → Vl) : Nat → List UInt8
  | 0 => []
  | n + 1 => ctL v n ++ (v n).s.data.toList
theorem byte_app (l : List UInt8) (s : ByteArray) : Lib.byteCells l ++ Lib.strCells s = Lib.byteCells (l ++ s.data.toList) := by
  simp [Lib.byteCells, Lib.strCells]
theorem bld_alloc {T e : TypeId} {B b : Nat} {bs : List Value} {w : World} {o : Obj} (h : Lib.IsBuilder T e B b bs w) : Lib.IsBuilder T e B b bs (w.alloc o) := by
  have f : ∀ p, Lib.BuilderAt T e B b p bs w → Lib.BuilderAt T e B b p bs (w.alloc o) := by
    rintro p ⟨h1, x, h2, h3, h4⟩
    have hb : Below w.heap.size w (w.alloc o) := (Below.refl _ _).alloc (Nat.le_refl _) _
    exact ⟨h1, x, (hb.block b (lt_of_block h2)).trans h2, ownsRow_below h3 hb, h4⟩
  exact h.elim (fun x => .inl (f _ x)) (fun x => .inr (f _ x))
theorem ct_len (v : Nat → Vl) (k : Nat) (h : (ctL v k).length ≤ k * 254) (z : (v k).s.size ≤ 254) : (ctL v (k + 1)).length ≤ (k + 1) * 254 := by
  have e : (v k).s.data.toList.length = (v k).s.size := by rw [Array.length_toList]; rfl
  show (ctL v k ++ (v k).s.data.toList).length ≤ _
  rw [List.length_append, e]
  omega
section
variable (a : Addr) (cap : Nat) (hw : Int) (n : Nat) (v : Nat → Vl) (w : World)
set_option maxHeartbeats 4000000 in
theorem concat_of (hv : VsAt w a n v) (hn : n < 1000000) (hz : ∀ i, i < n → (v i).s.size ≤ 254) (rk rb fa : Int) (rs : ByteArray)
    (hT : ∀ W, Calls Tryz.prog 123 #[.string ⟨(ctL v n).toArray⟩] W fun e w' => e = .returned (.tuple #[V rk rb rs, .int .i64 fa]) ∧ Below W.heap.size W w') :
    Calls Tryz.prog 80 #[.int .i64 hw, (.slice (some a) n cap)] w fun e w' => e = .returned (.tuple #[V rk rb rs, .int .i64 fa]) ∧ Below w.heap.size w w' := by
  have HV : Hid (VsAt w a n v) := hv
  have HZ : Hid _ := hz
  have HT : Hid _ := hT
  clear hv hz hT
  go_enter Tryz.func80, Tryz.ntmps80
  go_wp2
  have gr : Hid (Below w.heap.size w (w.alloc (.cells #[.int .u8 0, .int .u64 0, .string ⟨#[]⟩] 38))) := (Below.refl _ _).alloc (Nat.le_refl _) _
  have rbx : Hid (VB (w.alloc (.cells #[.int .u8 0, .int .u64 0, .string ⟨#[]⟩] 38)) w.heap.size 0 0 E0) := ⟨by simp, by simp, by simp, by simp, by simp, by simp⟩
  have zb : w.heap.size + 1 = (w.alloc (.cells #[.int .u8 0, .int .u64 0, .string ⟨#[]⟩] 38)).heap.size := by simp
  rw [zb]
  generalize (w.alloc (.cells #[.int .u8 0, .int .u64 0, .string ⟨#[]⟩] 38)) = W at *
  have Z : Hid (w.heap.size + 1 = W.heap.size) := zb
  clear zb
  have zw : w.heap.size < W.heap.size := by have := Z.out; omega
  go_loopw [11] (fun i wr => ∃ k : Nat, k ≤ n ∧ i = .int .i64 k ∧ Lib.IsBuilder 108 5 W.heap.size W.heap.size (Lib.byteCells (ctL v k)) wr ∧ Below W.heap.size W wr ∧ (ctL v k).length ≤ k * 254) (fun i _ => n - (intOf i).toNat)
  case atStart => exact ⟨0, Nat.zero_le _, rfl, .inl ⟨Nat.le_refl _, .slice none 0 0, heap_alloc_last W _, ⟨rfl, .inl ⟨rfl, rfl⟩⟩, by simp [Value.ownBlock]⟩, (Below.refl _ _).alloc (Nat.le_refl _) _, by simp [ctL]⟩
  case round =>
    obtain ⟨k, hk, rfl, hbd, hb, hlen⟩ := hrel
    have HB : Hid (Below W.heap.size W wr) := hb
    have Bw : Hid (Below w.heap.size w wr) := gr.out.trans (hb.mono gr.out.size)
    have HD : Hid (Lib.IsBuilder 108 5 W.heap.size W.heap.size (Lib.byteCells (ctL v k)) wr) := hbd
    have HL : Hid ((ctL v k).length ≤ k * 254) := hlen
    clear hbd hlen
    by_cases hlt : k < n
    · obtain ⟨d0, d1, d2⟩ := HV.out.below Bw.out k hlt
      have z : Hid ((v k).s.size ≤ 254) := HZ.out k hlt
      clear hb
      go_wp2_with (first | (go_at_call 125; refine (WriteString_of W.heap.size W.heap.size (Lib.byteCells (ctL v k)) (v k).s _ (bld_alloc HD.out) (by rw [Lib.byteCells_length]; have := HL.out; have := z.out; omega) (by have := HB.out.size; simp; omega)).mono ?_; rintro e w5 ⟨rfl, hb5, hl5⟩; have H5 : Hid (Lib.IsBuilder 108 5 W.heap.size W.heap.size (Lib.byteCells (ctL v (k + 1))) w5) := .inr (by rw [byte_app] at hb5; exact hb5); have L5 : Hid (Below W.heap.size W w5) := (HB.out.alloc HB.out.size _).trans hl5; clear hb5 hl5))
      exact ⟨⟨k + 1, by omega, by go_num, H5.out, L5.out, ct_len v k HL.out z.out⟩, by simp [intOf]; omega⟩
    · obtain rfl : k = n := by omega
      clear hb
      go_wp2_with (first | (go_at_call 126; refine (Tryz.Builder_String_any W.heap.size W.heap.size (ctL v k) _ HD.out HB.out.size).mono ?_; rintro e w5 ⟨rfl, hb5⟩; have L5 : Hid (Below W.heap.size W w5) := HB.out.trans hb5; clear hb5) | (go_at_call 123; refine (HT.out _).mono ?_; rintro e w6 ⟨rfl, hb6⟩; have L6 : Hid (Below W.heap.size W w6) := L5.out.trans (hb6.mono L5.out.size); obtain ⟨r0, r1, r2, r3, r4, r5⟩ := rbx.out.below L6.out; clear hb6))
      have B6 : Hid (Below w.heap.size w w6) := gr.out.trans (L6.out.mono gr.out.size)
      exact bodyPost_ret (v := .tuple #[V rk rb rs, .int .i64 fa]) (by simp [results, Tryz.results80, go_sem, r0, r1, r2]) rfl ⟨rfl, ((B6.out.setCell (by simp) _).setCell (by simp) _).setCell (by simp) _⟩
end
end Go.Proofs.YtkanhbokdjppoaaGreatDoor
