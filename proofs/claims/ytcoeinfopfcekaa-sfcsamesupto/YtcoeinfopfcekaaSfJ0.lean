/- Links copied; no statement of the seat is proved here. -/
import Derived.Test.YtcoeinfopfcekaaSfA
namespace Go.Proofs.Ytcoeinfopfcekaa
set_option linter.unusedVariables false
open Go.RowKit
theorem infoLki : ∃ i z, Try.prog.info? 34 = some i ∧ i.zero = some z ∧ i.size = 4 ∧ i.bytes = 48 ∧ z.cells.size = 4 := by
  obtain ⟨i, hi, hz⟩ := Option.map_eq_some_iff.1 (show (Try.prog.info? 34).map (fun i => (i.zero.map (·.cells.size), i.size, i.bytes)) = some (some 4, 4, 48) by kernel_rfl)
  simp only [Prod.mk.injEq] at hz
  obtain ⟨z, h1, h2⟩ := Option.map_eq_some_iff.1 hz.1
  exact ⟨i, z, hi, h1, hz.2.1, hz.2.2, h2⟩
theorem slLk_nil (a : Addr) (n cap : Nat) (w : World) : (binOp .eql 29 (.slice (some a) n cap) (.slice none 0 0)).run Try.prog w = .ok (.bool false) w := by kernel_rfl
theorem slLk_nilT (n cap : Nat) (w : World) : (binOp .eql 29 (.slice none n cap) (.slice none 0 0)).run Try.prog w = .ok (.bool true) w := by kernel_rfl
theorem owLk_none (w : World) : (w.alloc (.cells #[] 34)).ownsRow w.heap.size 34 4 (.slice (some ⟨w.heap.size, 0, none⟩) 0 0) 0 [] :=
  ⟨rfl, .inr ⟨w.heap.size, 0, #[], rfl, Nat.le_refl _, heap_alloc_last w _, Nat.le_refl _, Nat.zero_le _, rfl, rfl⟩⟩
set_option maxHeartbeats 1000000 in
theorem CloneLk (x : Option Addr) (l : List LkR) (cap : Nat) (w : World) {S : Nat → Prop} (hS : ∀ b, S b → b < w.heap.size) (hv : RwF 4 (Is lkC) S w x l) :
    Calls Try.prog 8 #[.slice x l.length cap] w fun e w' => (∃ y c, e = .returned (.slice y l.length c) ∧ RwF 4 (Is lkC) (Fresh w.heap.size w'.heap.size) w' y l) ∧ Below w.heap.size w w' := by
  have HV : Hid (RwF 4 (Is lkC) S w x l) := hv
  have HS : Hid _ := hS
  clear hv hS
  have hb := HV.out.1
  cases x with
  | none =>
    have e : l = [] := HV.out.2.1 rfl
    subst e
    have sn := slLk_nilT 0 cap
    go_enter Try.func8, Try.ntmps8
    go_wp2
    go_ret
    exact ⟨⟨none, 0, rfl, RwF.nil _ _ _ _⟩, Below.refl _ _⟩
  | some a =>
    have sn := slLk_nil a l.length cap
    have I : Hid _ := infoLki
    have LN : Hid ((l.map lkC).flatten.length = l.length * 4) := (flat_len (n := 4) _ (by intro v hv; obtain ⟨e, _, rfl⟩ := List.mem_map.1 hv; rfl)).trans (by rw [List.length_map])
    have ON : Hid (∀ u ∈ (l.map lkC).flatten, u.oneCell' = true) := fun u hu => by
      obtain ⟨vs, h1, h2⟩ := List.mem_flatten.1 hu
      obtain ⟨e, _, rfl⟩ := List.mem_map.1 h1
      simp at h2
      rcases h2 with h | h | h | h <;> subst h <;> rfl
    have SR : Hid (∀ W, Below w.heap.size w W → ∀ j u, (l.map lkC).flatten[j]? = some u → W.cell? (a.add j) = some u) := fun W hb j u hu => (HV.out.fr (fun q hq => hb.cell (HS.out _ hq)))|> fun q => RwF.flat (cs := lkC) (fun _ => rfl) q j u hu
    go_enter Try.func8, Try.ntmps8
    go_wp2_with (at_builtin; obtain ⟨i, z, hi, hz, hs, hy, hzc⟩ := I.out; refine wpList_append_own _ rfl _ _ 29 rfl w.heap.size 34 i z 4 48 Try.underlying29 hi hz hs hy hzc (by decide) _ 0 [] rfl (owLk_none w) a l.length cap (l.map lkC).flatten rfl LN.out (SR.out _ ((Below.refl _ _).alloc (Nat.le_refl _) _)) ON.out (by simp [maxLen]; omega) (by omega) (by simp) ?_; intro v' w' h1 h2 h3; rw [Nat.zero_add, List.nil_append] at h1; have H1 : Hid (w'.ownsRow w.heap.size 34 4 v' l.length (l.map lkC).flatten) := h1; have H2 : Hid _ := h2; clear h1 h2 h3 hi hz hs hy hzc)
    obtain ⟨y, c, rfl, hy⟩ := own_rw (cs := lkC) (fun _ => rfl) H1.out HV.out.1
    go_ret
    exact ⟨⟨y, c, rfl, hy⟩, ((Below.refl _ _).alloc (Nat.le_refl _) _).grown H2.out (by simp) (fun k e => by cases e; exact Nat.le_refl _)⟩
end Go.Proofs.Ytcoeinfopfcekaa
