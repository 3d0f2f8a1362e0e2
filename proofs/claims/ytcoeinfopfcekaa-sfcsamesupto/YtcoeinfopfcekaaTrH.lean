/- Texts in a row, copied; no statement of the seat is proved here. -/
import Derived.Test.YtcoeinfopfcekaaTrC
import Derived.OwnWalk
import Derived.Laws.CopyOwn
import Derived.Deep.WholeRow
namespace Go.Proofs.Ytcoeinfopfcekaa
set_option linter.unusedVariables false
open Go.RowKit
def tcL (l : List ByteArray) : List Value := l.map Value.string
theorem infoT : ∃ i, Try.prog.info? 9 = some i ∧ i.zero = some (.string ⟨#[]⟩) ∧ i.size = 1 ∧ i.bytes = 16 := by
  obtain ⟨i, hi, hz⟩ := Option.map_eq_some_iff.1 (show (Try.prog.info? 9).map (fun i => (i.zero, i.size, i.bytes)) = some (some (.string ⟨#[]⟩), 1, 16) by kernel_rfl)
  simp only [Prod.mk.injEq] at hz
  exact ⟨i, hi, hz.1, hz.2.1, hz.2.2⟩
theorem slt_nil (a : Addr) (n cap : Nat) (w : World) : (binOp .eql 35 (.slice (some a) n cap) (.slice none 0 0)).run Try.prog w = .ok (.bool false) w := by kernel_rfl
theorem slt_nilT (n cap : Nat) (w : World) : (binOp .eql 35 (.slice none n cap) (.slice none 0 0)).run Try.prog w = .ok (.bool true) w := by kernel_rfl
theorem ownt_none (w : World) : (w.alloc (.cells #[] 9)).ownsRow w.heap.size 9 1 (.slice (some ⟨w.heap.size, 0, none⟩) 0 0) 0 [] :=
  ⟨rfl, .inr ⟨w.heap.size, 0, #[], rfl, Nat.le_refl _, heap_alloc_last w _, Nat.le_refl _, Nat.zero_le _, rfl, rfl⟩⟩
theorem ownB' {w : World} {base : Nat} {e : TypeId} {size : Nat} {x : Value} {n : Nat} {xs : List Value} (h : w.ownsRow base e size x n xs) {g : Nat} (hg : x.ownBlock = some g) : base ≤ g := by
  obtain ⟨_, h2⟩ := h
  rcases h2 with ⟨rfl, _⟩ | ⟨g2, cap, cur, rfl, hb, _⟩
  · simp [Value.ownBlock] at hg
  · simp [Value.ownBlock] at hg; omega
theorem own_nm {w : World} {base : Nat} {x : Value} {l : List ByteArray} (h : w.ownsRow base 9 1 x l.length (tcL l)) : ∃ y c, x = .slice y l.length c ∧ NmAt w y l := by
  obtain ⟨h1, h2⟩ := h
  rcases h2 with ⟨e, e'⟩ | ⟨g, cap, cur, e, hb, hg, hc, hm, hs, ht⟩
  · have : l = [] := List.length_eq_zero_iff.1 e'
    subst this
    exact ⟨none, 0, e, fun _ => rfl, fun a q => by cases q⟩
  · refine ⟨_, _, e, fun q => (by cases q), fun a q i s hs' => ?_⟩
    cases q
    have il : i < l.length := (List.getElem?_eq_some_iff.1 hs').1
    have a : (tcL l)[i]? = some (.string s) := by unfold tcL; rw [List.getElem?_map, hs']; rfl
    rw [← ht, List.getElem?_take_of_lt (by omega)] at a
    have e : (⟨g, 0, none⟩ : Addr).add i = ⟨g, i, none⟩ := by unfold Addr.add; split <;> simp_all
    rw [e]
    simp only [World.cell?, hg]
    simpa using a
set_option maxHeartbeats 1000000 in
theorem CloneT (x : Option Addr) (l : List ByteArray) (cap : Nat) (w : World) (hv : NmAt w x l) (hb : few l.length) :
    Calls Try.prog 9 #[.slice x l.length cap] w fun e w' => (∃ y c, e = .returned (.slice y l.length c) ∧ NmAt w' y l) ∧ Below w.heap.size w w' := by
  have HV : Hid (NmAt w x l) := hv
  clear hv
  cases x with
  | none =>
    have e : l = [] := HV.out.1 rfl
    subst e
    have sn := slt_nilT 0 cap
    go_enter Try.func9, Try.ntmps9
    go_wp2
    go_ret
    exact ⟨⟨none, 0, rfl, fun _ => rfl, fun a q => by cases q⟩, Below.refl _ _⟩
  | some a =>
    have sn := slt_nil a l.length cap
    have I : Hid _ := infoT
    have SR : Hid (∀ W, Below w.heap.size w W → ∀ j u, (tcL l)[j]? = some u → W.cell? (a.add j) = some u) := fun W hb j u hu => by
      unfold tcL at hu
      rw [List.getElem?_map] at hu
      obtain ⟨s, hs, rfl⟩ := Option.map_eq_some_iff.1 hu
      exact (HV.out.below hb).2 a rfl j s hs
    go_enter Try.func9, Try.ntmps9
    go_wp2_with (at_builtin; obtain ⟨i, hi, hz, hs, hy⟩ := I.out; refine wpList_append_own _ rfl _ _ 35 rfl w.heap.size 9 i _ 1 16 Try.underlying35 hi hz hs hy rfl (by decide) _ 0 [] rfl (ownt_none w) a l.length cap (tcL l) rfl (by unfold tcL; simp) (SR.out _ ((Below.refl _ _).alloc (Nat.le_refl _) _)) (by intro u hu; unfold tcL at hu; simp at hu; obtain ⟨s, _, rfl⟩ := hu; rfl) (by simp [maxLen]; omega) (by omega) (by simp) ?_; intro v' w' h1 h2 h3; rw [Nat.zero_add, List.nil_append] at h1; have H1 : Hid (w'.ownsRow w.heap.size 9 1 v' l.length (tcL l)) := h1; have H2 : Hid _ := h2; clear h1 h2 h3 hi hz hs hy)
    obtain ⟨y, c, rfl, hy⟩ := own_nm H1.out
    go_ret
    exact ⟨⟨y, c, rfl, hy⟩, ((Below.refl _ _).alloc (Nat.le_refl _) _).grown H2.out (by simp) (fun k e => by cases e; exact Nat.le_refl _)⟩
end Go.Proofs.Ytcoeinfopfcekaa
