/- Rows of ranges in memory, copied; no statement of the seat is proved here. -/
import Derived.Test.YtcoeinfopfcekaaTrI
import Derived.Test.YtcoeinfopfcekaaTrL
namespace Go.Proofs.Ytcoeinfopfcekaa
set_option linter.unusedVariables false
open Go.RowKit
/-- The cells of ranges. -/
def rgL (l : List (Int × Int)) : List Value := l.flatMap fun r => [.int .i64 r.1, .int .i64 r.2]
theorem rgL_len : ∀ l : List (Int × Int), (rgL l).length = l.length * 2
  | [] => rfl
  | r :: l => by
    have := rgL_len l
    unfold rgL at this ⊢
    rw [List.flatMap_cons, List.length_append, this]
    simp
    omega
theorem rgL_at : ∀ (l : List (Int × Int)) (i : Nat) (r : Int × Int), l[i]? = some r → (rgL l)[i * 2]? = some (.int .i64 r.1) ∧ (rgL l)[i * 2 + 1]? = some (.int .i64 r.2)
  | [], i, r, h => by simp at h
  | a :: l, 0, r, h => by
    simp at h
    subst h
    exact ⟨rfl, rfl⟩
  | a :: l, i + 1, r, h => by
    have := rgL_at l i r (by simpa using h)
    unfold rgL at this ⊢
    rw [show (i + 1) * 2 = i * 2 + 2 by omega]
    simpa using this
/-- Ranges in a row. -/
def RgAt (w : World) (x : Option Addr) (l : List (Int × Int)) : Prop := (x = none → l = []) ∧ ∀ a, x = some a → ∀ j u, (rgL l)[j]? = some u → w.cell? (a.add j) = some u
theorem RgAt.below {w w' : World} {x : Option Addr} {l : List (Int × Int)} (h : RgAt w x l) (hb : Below w.heap.size w w') : RgAt w' x l := ⟨h.1, fun a e j u hu => by have c := h.2 a e j u hu; exact (hb.cell (block_lt_of_cell c)).trans c⟩
theorem RgAt.cell {w : World} {a : Addr} {l : List (Int × Int)} (h : RgAt w (some a) l) (k : Nat) (hk : k < l.length) : ∃ r : Int × Int, l[k]? = some r ∧ w.cell? (a.add (k * 2)) = some (.int .i64 r.1) ∧ w.cell? ⟨(a.add (k * 2)).block, (a.add (k * 2)).off + 1, none⟩ = some (.int .i64 r.2) := by
  have e := List.getElem?_eq_getElem hk
  obtain ⟨q1, q2⟩ := rgL_at l k _ e
  have c1 := h.2 a rfl _ _ q1
  have c2 := h.2 a rfl _ _ q2
  refine ⟨_, e, c1, ?_⟩
  have : a.add (k * 2 + 1) = ⟨(a.add (k * 2)).block, (a.add (k * 2)).off + 1, none⟩ := by
    have o : (a.add (k * 2)).off = a.off + k * 2 := by unfold Addr.add; split <;> simp_all
    rw [add_block, o]
    unfold Addr.add
    rw [if_neg (by omega)]
    simp
  rwa [this] at c2
/-- Ranges in a row, their cells in S. -/
def RgF (S : Nat → Prop) (w : World) (y : Option Addr) (l : List (Int × Int)) : Prop := RgAt w y l ∧ ∀ a, y = some a → ∀ (j : Nat) u, (rgL l)[j]? = some u → S a.block
theorem RgF.fr {S : Nat → Prop} {w w' : World} {y : Option Addr} {l : List (Int × Int)} (h : RgF S w y l) (f : FrS S w w') : RgF S w' y l :=
  ⟨⟨h.1.1, fun a e j u hu => (f _ (by rw [add_block]; exact h.2 a e j u hu)).trans (h.1.2 a e j u hu)⟩, h.2⟩
theorem RgF.sub {S T : Nat → Prop} (hST : ∀ b, S b → T b) {w : World} {y : Option Addr} {l : List (Int × Int)} (h : RgF S w y l) : RgF T w y l := ⟨h.1, fun a e j u hu => hST _ (h.2 a e j u hu)⟩
theorem infoG : ∃ i z, Try.prog.info? 68 = some i ∧ i.zero = some z ∧ i.size = 2 ∧ i.bytes = 16 ∧ z.cells.size = 2 := by
  obtain ⟨i, hi, hz⟩ := Option.map_eq_some_iff.1 (show (Try.prog.info? 68).map (fun i => (i.zero.map (·.cells.size), i.size, i.bytes)) = some (some 2, 2, 16) by kernel_rfl)
  simp only [Prod.mk.injEq] at hz
  obtain ⟨z, h1, h2⟩ := Option.map_eq_some_iff.1 hz.1
  exact ⟨i, z, hi, h1, hz.2.1, hz.2.2, h2⟩
theorem slg_nil (a : Addr) (n cap : Nat) (w : World) : (binOp .eql 63 (.slice (some a) n cap) (.slice none 0 0)).run Try.prog w = .ok (.bool false) w := by kernel_rfl
theorem slg_nilT (n cap : Nat) (w : World) : (binOp .eql 63 (.slice none n cap) (.slice none 0 0)).run Try.prog w = .ok (.bool true) w := by kernel_rfl
theorem owng_none (w : World) : (w.alloc (.cells #[] 68)).ownsRow w.heap.size 68 2 (.slice (some ⟨w.heap.size, 0, none⟩) 0 0) 0 [] :=
  ⟨rfl, .inr ⟨w.heap.size, 0, #[], rfl, Nat.le_refl _, heap_alloc_last w _, Nat.le_refl _, Nat.zero_le _, rfl, rfl⟩⟩
theorem own_rgF {w : World} {base : Nat} {x : Value} {l : List (Int × Int)} (h : w.ownsRow base 68 2 x l.length (rgL l)) : ∃ y c, x = .slice y l.length c ∧ RgF (Fresh base w.heap.size) w y l := by
  have hc := fun g (hg : x.ownBlock = some g) => h.cells hg
  have hl := h.lt
  obtain ⟨_, h2⟩ := h
  rcases h2 with ⟨e, e'⟩ | ⟨g, cap, cur, e, _⟩
  · have : l = [] := List.length_eq_zero_iff.1 e'
    subst this
    exact ⟨none, 0, e, ⟨fun _ => rfl, fun a q => by cases q⟩, fun a q => by cases q⟩
  · subst e
    refine ⟨_, _, rfl, ⟨fun q => (by cases q), fun a q j u hu => ?_⟩, fun a q j u hu => ?_⟩
    · cases q
      exact hc g rfl j u hu
    · cases q
      exact hl g rfl
set_option maxHeartbeats 1000000 in
theorem CloneG (x : Option Addr) (l : List (Int × Int)) (cap : Nat) (w : World) (hv : RgAt w x l) (hb : few l.length) :
    Calls Try.prog 27 #[.slice x l.length cap] w fun e w' => (∃ y c, e = .returned (.slice y l.length c) ∧ RgF (Fresh w.heap.size w'.heap.size) w' y l) ∧ Below w.heap.size w w' := by
  have HV : Hid (RgAt w x l) := hv
  clear hv
  cases x with
  | none =>
    have e : l = [] := HV.out.1 rfl
    subst e
    have sn := slg_nilT 0 cap
    go_enter Try.func27, Try.ntmps27
    go_wp2
    go_ret
    exact ⟨⟨none, 0, rfl, ⟨fun _ => rfl, fun a q => by cases q⟩, fun a q => by cases q⟩, Below.refl _ _⟩
  | some a =>
    have sn := slg_nil a l.length cap
    have I : Hid _ := infoG
    have LN : Hid _ := rgL_len l
    have ON : Hid (∀ u ∈ rgL l, u.oneCell' = true) := fun u hu => by
      unfold rgL at hu
      simp only [List.mem_flatMap] at hu
      obtain ⟨r, _, hr⟩ := hu
      simp at hr
      rcases hr with h | h <;> subst h <;> rfl
    have SR : Hid (∀ W, Below w.heap.size w W → ∀ j u, (rgL l)[j]? = some u → W.cell? (a.add j) = some u) := fun W hb j u hu => (HV.out.below hb).2 a rfl j u hu
    go_enter Try.func27, Try.ntmps27
    go_wp2_with (at_builtin; obtain ⟨i, z, hi, hz, hs, hy, hzc⟩ := I.out; refine wpList_append_own _ rfl _ _ 63 rfl w.heap.size 68 i z 2 16 Try.underlying63 hi hz hs hy hzc (by decide) _ 0 [] rfl (owng_none w) a l.length cap (rgL l) rfl LN.out (SR.out _ ((Below.refl _ _).alloc (Nat.le_refl _) _)) ON.out (by simp [maxLen]; omega) (by omega) (by simp) ?_; intro v' w' h1 h2 h3; rw [Nat.zero_add, List.nil_append] at h1; have H1 : Hid (w'.ownsRow w.heap.size 68 2 v' l.length (rgL l)) := h1; have H2 : Hid _ := h2; clear h1 h2 h3 hi hz hs hy hzc)
    obtain ⟨y, c, rfl, hy⟩ := own_rgF H1.out
    go_ret
    exact ⟨⟨y, c, rfl, hy⟩, ((Below.refl _ _).alloc (Nat.le_refl _) _).grown H2.out (by simp) (fun k e => by cases e; exact Nat.le_refl _)⟩
end Go.Proofs.Ytcoeinfopfcekaa
