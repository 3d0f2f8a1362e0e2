/- internal/strconv.formatBits at base 16; no statement of the seat is proved here. -/
import Derived.Test.YtopkdenefoifjaaDoorFmtI
namespace Go.Proofs.YtopkdenefoifjaaDoor
set_option linter.unusedVariables false
open Go.RowKit Go.Sort Go.Lib
abbrev eB : UInt8 → Value := fun (b : UInt8) => Value.int .u8 (b.toNat : Int)
theorem zeros65_at (i : Nat) (h : i < 65) : Tryd.zeroCells93[i]? = some (.int .u8 0) := by
  have e : Tryd.zeroCells93 = Array.replicate 65 (.int .u8 0) := rfl
  rw [e]; simp [h]
theorem holds_zero65 (w : World) : Holds eB (w.alloc (.cells Tryd.zeroCells93 93)) w.heap.size 0 (Array.replicate 65 (0 : UInt8)) := fun j hj => by
  have hj' : j < 65 := by simpa using hj
  refine ⟨?_, World.frozen?_alloc_new _ _ _ _⟩
  rw [World.cell?_alloc_new, zeros65_at _ (by omega), getElem!_pos _ j hj]
  simp
theorem below_put (w : World) (o : Obj) (dk : Array UInt8) (k : Nat) : Below w.heap.size w ((putRow eB (w.alloc o) w.heap.size 0 dk).drewN k) := by
  rw [alloc_eq_grow]
  obtain ⟨os', _, e⟩ := putRow_grow_new eB w #[o] w.heap.size 0 dk (Nat.le_refl _)
  rw [e]
  exact ⟨rfl, rfl, rfl, by show w.heap.size ≤ (grow w os').heap.size; simp, fun j hj => heap_grow_old w os' hj⟩
theorem HexInv.start (u : Nat) : HexInv u 65 u (Array.replicate 65 0) := ⟨by simp, by omega, by simp, fun t h1 h2 => by omega⟩
theorem and15 (v : Nat) (h : v < 18446744073709551616) : bits BinOp.and IntKind.u64 (v : Int) 15 = (v : Int) % 16 := by
  have e := bits_and_u64_nat v 15 h (by omega)
  have : v &&& 15 = v % 16 := Nat.and_two_pow_sub_one_eq_mod v 4
  rw [this] at e
  simpa using e
theorem tz4_below {w w' : World} (h : Tz4 w) (hb : Below w.heap.size w w') : Tz4 w' := by
  obtain ⟨c, e, fr, hc, hx⟩ := cells_of_cell? h
  have hlt : 8 < w.heap.size := by
    by_cases g : 8 < w.heap.size
    · exact g
    · have : w.heap[8]? = none := Array.getElem?_eq_none (by omega)
      rw [this] at hc; cases hc
  unfold Tz4 at *
  rw [hb.cell (p := ⟨8, 15, none⟩) hlt]
  exact h
set_option maxHeartbeats 3200000 in
set_option maxRecDepth 100000 in
theorem formatBits_16 (u : Nat) (h : u < 18446744073709551616) (w : World) (hz : Tz4 w) :
    Calls Tryd.prog 54 #[.slice none 0 0, .int .u64 u, .int .i64 16, .bool false, .bool false] w fun e w' => e = .returned (.tuple #[.slice none 0 0, .string ⟨(hexDig u).toArray⟩]) ∧ Below w.heap.size w w' := by
  have Z : Hid (∀ o, Tz4 (w.alloc o)) := fun o => tz4_below hz ((Below.refl _ _).alloc (Nat.le_refl _) o)
  have AH : Hid _ := holds_zero65 w
  have hal : Tryd.prog.arrayLen 93 = 65 := by simp [Program.arrayLen, Tryd.underlying93]
  clear hz
  go_enter Tryd.func54, Tryd.ntmps54
  go_name_bytes SM hSM
  clear hSM
  go_name_bytes DG hDG
  have eDG : DG = dgS := by rw [← hDG]; decide +kernel
  have hX : Hid (∀ (z : Int) (i : Nat), z = (i : Int) → i < 16 → ∀ w, (Instr.index 9 (.string DG) (.int .u64 z)).run Tryd.prog w = .ok (.int .u8 ((hxd i).toNat : Int)) w) := by
    rw [eDG]
    exact fun z i hz hi w => idx_dgS 9 Tryd.underlying9 .u64 z i hz hi w
  clear hDG eDG
  go_wp2_with (first
    | (go_at_call 66; refine (isPow_16 _).mono ?_; rintro e w1 ⟨rfl, rfl⟩)
    | (go_at_call 67; refine (TrailingZeros_16 _ (Z.out _)).mono ?_; rintro e w1 ⟨rfl, rfl⟩))
  go_loopw [1, 13] (fun vu vn wr => ∃ (nd v n : Nat) (dk : Array UInt8), vu = .int .u64 v ∧ vn = .int .i64 nd ∧ wr = (putRow eB (w.alloc (.cells Tryd.zeroCells93 93)) w.heap.size 0 dk).drewN n ∧ Hid (HexInv u nd v dk) ∧ Hid (nd = 65 ∨ v ≠ 0)) (fun _ vn _ => (RowKit.intOf vn).toNat)
  case atStart => exact ⟨65, u, 0, _, rfl, rfl, (putRow_self _ _ _ _ _ AH.out).symm, HexInv.start u, .inl rfl⟩
  case round =>
    obtain ⟨nd, v, n, dk0, rfl, rfl, hw0, HI0, HP0⟩ := hrel
    rename World => W0
    have hv64 : v < 18446744073709551616 := by have := HI0.out.rest; have := Nat.div_le_self u (16 ^ (65 - nd)); omega
    have hs0 := HI0.out.size
    have hH0 : Holds eB W0 w.heap.size 0 dk0 := by rw [hw0]; exact holds_putRow _ _ _ 0 _ dk0 AH.out (by simpa using hs0)
    have hnd : 1 ≤ nd := by
      have r := HI0.out.rest
      rcases HP0.out with q | q
      · omega
      · by_cases g : 1 ≤ nd
        · exact g
        · exfalso
          have e0 : nd = 0 := by omega
          subst e0
          apply q
          rw [r]
          exact Nat.div_eq_of_lt (Nat.lt_of_lt_of_le h (by decide))
    obtain ⟨m, rfl⟩ : ∃ m, nd = m + 1 := ⟨nd - 1, by omega⟩
    have hm : m < 65 := by have := HI0.out.le; omega
    have hc0 : W0.cell? ⟨w.heap.size, m, none⟩ = some (.int .u8 (dk0[m]!.toNat : Int)) := by have := (hH0 m (by omega)).1; simpa using this
    have hf0 : W0.frozen? ⟨w.heap.size, m, none⟩ = false := by have := (hH0 m (by omega)).2; simpa using this
    generalize (dk0[m]!.toNat : Int) = G0 at hc0
    have AW0 := Lib.hid hw0
    clear hw0 hH0
    have a15 := and15 v hv64
    have hst : ∀ x : UInt8, W0.setCell ⟨w.heap.size, m, none⟩ (.int .u8 (x.toNat : Int)) = (putRow eB (w.alloc (.cells Tryd.zeroCells93 93)) w.heap.size 0 (dk0.setIfInBounds m x)).drewN n := fun x => by
      have := store1_world (w.alloc (.cells Tryd.zeroCells93 93)) w.heap.size 0 dk0 n m x (by omega)
      rw [Nat.zero_add] at this
      rw [AW0.out]
      exact this
    have HST := Lib.hid hst
    clear hst
    have HI1 := Lib.hid HI0.out.step
    by_cases hv : 16 ≤ v
    · have hXa := hX.out ((v : Int) % 16) (v % 16) (by omega) (by omega)
      have hv' : (16 : Int) ≤ v := by omega
      go_wp2
      refine ⟨⟨m, v / 16, n, _, by push_cast; rfl, rfl, HST.out _, HI1.out, .inr (by omega)⟩, ?_⟩
      simp [RowKit.intOf]
    · have hXa := hX.out (v : Int) v rfl (by omega)
      have hv' : ¬ (16 : Int) ≤ v := by omega
      have hlen : 65 - m = (hexDig u).length := by
        have := hex_len_of u (64 - m) (by
          have r := HI0.out.rest
          rw [show 65 - (m + 1) = 64 - m by omega] at r
          rw [Nat.pow_succ, ← Nat.div_div_eq_div_mul, ← r]
          omega) (by
          have r := HI0.out.rest
          rw [show 65 - (m + 1) = 64 - m by omega] at r
          rcases HP0.out with q | q
          · left; omega
          · right; rw [← r]; exact q)
        omega
      have hsl : ∀ W, (Instr.sliceAt 93 (.pointer (some ⟨w.heap.size, 0, none⟩)) (some (.int .i64 (m : Int))) none none).run Tryd.prog W = .ok (.slice (some ⟨w.heap.size, m, none⟩) (65 - m) (65 - m)) W := fun W => by
        rw [run_sliceAt_array_l W 93 ⟨w.heap.size, 0, none⟩ (by simp [Program.arrayLen, Program.elem, Tryd.underlying93]) .i64 (m : Int) (by omega) (by rw [hal]; omega), hal]
        simp [Program.elem, Tryd.underlying93, go_sem, slicedAt, Tryd.sizeOf5]
        omega
      have hcv : (convert 50 9 (.slice (some ⟨w.heap.size, m, none⟩) (65 - m) (65 - m))).run Tryd.prog (W0.setCell ⟨w.heap.size, m, none⟩ (.int .u8 ((hxd v).toNat : Int))) = .ok (.string ⟨(hexDig u).toArray⟩) (W0.setCell ⟨w.heap.size, m, none⟩ (.int .u8 ((hxd v).toNat : Int))) := by
        rw [HST.out]
        have e16 : v % 16 = v := by omega
        have I := HI1.out
        rw [e16] at I
        have hH := holds_putRow eB _ _ 0 _ (dk0.setIfInBounds m (hxd v)) AH.out (by simpa using hs0)
        have q := run_convert_bytes_back (P := Tryd.prog) ((putRow eB (w.alloc (.cells Tryd.zeroCells93 93)) w.heap.size 0 (dk0.setIfInBounds m (hxd v))).drewN n) 50 9 5 ⟨w.heap.size, m, none⟩ (65 - m) (hexDig u) Tryd.underlying50 Tryd.underlying5 Tryd.underlying9 (fun j hj => by
          have f := I.fin hlen j hj
          rw [List.getElem?_eq_getElem hj] at f
          have c := (hH (m + j) (by simp; omega)).1
          rw [World.cell?_drewN]
          rw [show (⟨w.heap.size, m, none⟩ : Addr).add j = ⟨w.heap.size, 0 + (m + j), none⟩ by simp [Addr.add]]
          rw [c, ← Option.some.inj f])
        rw [← hlen] at q
        exact q
      have hB : Hid (Below w.heap.size w (W0.setCell ⟨w.heap.size, m, none⟩ (.int .u8 ((hxd v).toNat : Int)))) := by
        show Below _ _ _
        rw [HST.out]
        exact below_put w _ _ n
      clear hlen
      go_wp2
      exact bodyPost_ret (v := .tuple #[.slice none 0 0, .string ⟨(hexDig u).toArray⟩]) (by simp [results, Tryd.results54, go_sem]) rfl ⟨rfl, hB.out⟩
set_option maxHeartbeats 1000000 in
theorem iFormatUint_16 (u : Nat) (h : u < 18446744073709551616) (w : World) (hz : Tz4 w) :
    Calls Tryd.prog 35 #[.int .u64 u, .int .i64 16] w fun e w' => e = .returned (.string ⟨(hexDig u).toArray⟩) ∧ Below w.heap.size w w' := by
  have F : Hid _ := formatBits_16 u h w hz
  clear hz
  go_enter Tryd.func35, Tryd.ntmps35
  go_wp2_with (go_at_call 54; refine Calls.mono F.out ?_; rintro e w' ⟨rfl, hb⟩)
  go_ret
  exact ⟨rfl, hb⟩
theorem FormatUint_16 (u : Nat) (h : u < 18446744073709551616) (w : World) (hz : Tz4 w) :
    Calls Tryd.prog 22 #[.int .u64 u, .int .i64 16] w fun e w' => e = .returned (.string ⟨(hexDig u).toArray⟩) ∧ Below w.heap.size w w' := by
  go_enter Tryd.func22, Tryd.ntmps22
  go_wp2_with (go_at_call 35; refine (iFormatUint_16 u h _ hz).mono ?_; rintro e w' ⟨rfl, hb⟩)
  go_ret
  exact ⟨rfl, hb⟩
end Go.Proofs.YtopkdenefoifjaaDoor
