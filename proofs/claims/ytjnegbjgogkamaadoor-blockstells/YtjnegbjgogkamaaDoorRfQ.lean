/- Lists of values compared and copied; both Steps answer the same; no statement of the seat is proved here. -/
import Derived.Test.YtjnegbjgogkamaaDoorRfO
import Derived.Deep.QuietTactic
namespace Go.Proofs.YtjnegbjgogkamaaDoor
set_option linter.unusedVariables false
open Go.RowKit
theorem neqV (k x : Int) (s : ByteArray) (w : World) : (binOp .neq 34 (V k x s) (V k x s)).run Tryd.prog w = .ok (.bool false) w := by simp [go_sem]
set_option maxHeartbeats 1000000 in
theorem Equal_none (x y : Option Addr) (c d : Nat) (w : World) : Calls Tryd.prog 15 #[.slice x 0 c, .slice y 0 d] w fun e w' => e = .returned (.bool true) ∧ Below w.heap.size w w' := by
  go_enter Tryd.func15, Tryd.ntmps15
  go_wp2_with fail
  go_loopw [13] (fun i wr => i = .int .i64 0 ∧ wr = w) (fun _ _ => 0)
  case atStart => exact ⟨rfl, rfl⟩
  case round =>
    obtain ⟨rfl, rfl⟩ := hrel
    go_wp2
    go_ret
    exact ⟨rfl, Below.refl _ _⟩
set_option maxHeartbeats 2000000 in
theorem Equal_rows (a b : Addr) (n c d : Nat) (v : Nat → Vl) (w : World) (ha : VsAt w a n v) (hb : VsAt w b n v) (hn : n * 32 ≤ 140737488355328) : Calls Tryd.prog 15 #[.slice (some a) n c, .slice (some b) n d] w fun e w' => e = .returned (.bool true) ∧ Below w.heap.size w w' := by
  have HA : Hid (VsAt w a n v) := ha
  have HB : Hid (VsAt w b n v) := hb
  clear ha hb
  go_enter Tryd.func15, Tryd.ntmps15
  go_wp2_with fail
  go_loopw [13] (fun i wr => ∃ k : Nat, k ≤ n ∧ i = .int .i64 k ∧ Below w.heap.size w wr) (fun i _ => n - (intOf i).toNat)
  case atStart => exact ⟨0, Nat.zero_le _, rfl, Below.refl _ _⟩
  case round =>
    obtain ⟨k, hk, rfl, hbw⟩ := hrel
    have HW : Hid (Below w.heap.size w wr) := hbw
    by_cases hlt : k < n
    · obtain ⟨d0, d1, d2⟩ := HA.out.below hbw k hlt
      obtain ⟨e0, e1, e2⟩ := HB.out.below hbw k hlt
      have hlt' : (k : Int) < n := by omega
      have nv := neqV
      generalize v k = vk at *
      obtain ⟨vk, vb, vs⟩ := vk
      have za := block_lt_of_cell d0
      have zb := block_lt_of_cell e0
      clear hbw
      go_wp2_with fail
      have cy : ∀ x : Sub wr, x.w.cell? (a.add (k * 3)) = some (.int .u8 vk) := fun x => (x.h.cell za).trans d0
      have cz : ∀ x : Sub wr, x.w.cell? (b.add (k * 3)) = some (.int .u8 vk) := fun x => (x.h.cell zb).trans e0
      refine wp_region_sub2 (by kernel_rfl) (by kernel_rfl) ?_
      intro cx
      repeat (first | go_big_quiet_skip | (go_big_quiet_want; go_big_quiet_op; first | go_big_quiet_on | (refine ⟨_, fun _ => rfl, ?_⟩; go_big_quiet_on)))
      refine wpQuiet_nil ?_
      rintro _ ⟨y, rfl⟩
      have Y : Hid (Below wr.heap.size wr y.w) := y.h
      clear cx cy cz
      go_wp2
      exact ⟨⟨k + 1, by omega, by go_num, HW.out.trans (Y.out.mono HW.out.size)⟩, by simp [intOf]; omega⟩
    · have ek : k = n := by omega
      clear hbw
      go_wp2
      go_ret
      exact ⟨rfl, HW.out⟩
theorem sl_nilT (w : World) : (binOp .eql 30 (.slice none 0 0) (.slice none 0 0)).run Tryd.prog w = .ok (.bool true) w := by kernel_rfl
theorem own_zero {w : World} {base : Nat} {e : TypeId} {size : Nat} {x : Value} {xs : List Value} (h : w.ownsRow base e size x 0 xs) : ∃ y c, x = .slice y 0 c := by
  obtain ⟨_, h2⟩ := h
  rcases h2 with ⟨e, _⟩ | ⟨g, cap, cur, e, _⟩
  · exact ⟨_, _, e⟩
  · exact ⟨_, _, e⟩
set_option maxHeartbeats 1000000 in
theorem Clone_zero (ad : Option Addr) (cap : Nat) (w : World) (h0 : ad = none → cap = 0) :
    Calls Tryd.prog 35 #[.slice ad 0 cap] w fun e w' => ∃ y c, e = .returned (.slice y 0 c) ∧ Below w.heap.size w w' := by
  cases ad with
  | none =>
    obtain rfl := h0 rfl
    have sn := sl_nilT
    go_enter Tryd.func35, Tryd.ntmps35
    go_wp2
    go_ret
    exact ⟨⟨_, _, rfl⟩, Below.refl _ _⟩
  | some a =>
    have sn := sl_nil a 0 cap
    have I : Hid (∃ i, Tryd.prog.info? 34 = some i ∧ i.zero = some (.agg #[.int .u8 0, .int .u64 0, .string ⟨#[]⟩]) ∧ i.size = 3 ∧ i.bytes = 32) := by
      obtain ⟨i, hi, hz⟩ := Option.map_eq_some_iff.1 (show (Tryd.prog.info? 34).map (fun i => (i.zero, i.size, i.bytes)) = some (some (.agg #[.int .u8 0, .int .u64 0, .string ⟨#[]⟩]), 3, 32) by kernel_rfl)
      simp only [Prod.mk.injEq] at hz
      exact ⟨i, hi, hz.1, hz.2.1, hz.2.2⟩
    go_enter Tryd.func35, Tryd.ntmps35
    go_wp2_with (at_builtin; obtain ⟨i, hi, hz, hs, hy⟩ := I.out; refine wpList_append_own _ rfl _ _ 30 rfl w.heap.size 34 i _ 3 32 Tryd.underlying30 hi hz hs hy rfl (by decide) _ 0 [] rfl (own_none w) a 0 cap [] rfl rfl (fun j u hu => by simp at hu) (fun u hu => by simp at hu) (by simp) (by omega) (by simp) ?_; intro v' w' h1 h2 h3; obtain ⟨y, c, rfl⟩ := own_zero h1; have H2 : Hid _ := h2; clear h1 h2 h3 hi hz hs hy)
    go_ret
    exact ⟨y, c, rfl, ((Below.refl _ _).alloc (Nat.le_refl _) _).grown H2.out (by simp) (fun k e => by cases e; exact Nat.le_refl _)⟩
/-- What a Step answers: the cells behind it, or the fault. -/
def Ans (w w' : World) (n : Nat) (o : Option (Nat → Vl)) (e : Ending) : Prop :=
  Below w.heap.size w w' ∧ match o with
  | none => e = .returned (.tuple #[.slice none 0 0, .int .i64 8])
  | some u => ∃ g c, e = .returned (.tuple #[.slice (some ⟨g, 0, none⟩) n c, .int .i64 0]) ∧ w.heap.size ≤ g ∧ Row3 w' g n u
end Go.Proofs.YtjnegbjgogkamaaDoor
