/- Rows of records copied; no statement of the seat is proved here. -/
import Derived.Test.YtemoebhjcjfmjaaImA
namespace Go.Proofs.Ytemoebhjcjfmjaa
set_option linter.unusedVariables false
open Go.RowKit
theorem infoCi : ∃ i z, Try.prog.info? 35 = some i ∧ i.zero = some z ∧ i.size = 11 ∧ i.bytes = 96 ∧ z.cells.size = 11 := by
  obtain ⟨i, hi, hz⟩ := Option.map_eq_some_iff.1 (show (Try.prog.info? 35).map (fun i => (i.zero.map (·.cells.size), i.size, i.bytes)) = some (some 11, 11, 96) by kernel_rfl)
  simp only [Prod.mk.injEq] at hz
  obtain ⟨z, h1, h2⟩ := Option.map_eq_some_iff.1 hz.1
  exact ⟨i, z, hi, h1, hz.2.1, hz.2.2, h2⟩
theorem slC_nil (a : Addr) (n cap : Nat) (w : World) : (binOp .eql 22 (.slice (some a) n cap) (.slice none 0 0)).run Try.prog w = .ok (.bool false) w := by kernel_rfl
theorem slC_nilT (n cap : Nat) (w : World) : (binOp .eql 22 (.slice none n cap) (.slice none 0 0)).run Try.prog w = .ok (.bool true) w := by kernel_rfl
theorem owC_none (w : World) : (w.alloc (.cells #[] 35)).ownsRow w.heap.size 35 11 (.slice (some ⟨w.heap.size, 0, none⟩) 0 0) 0 [] :=
  ⟨rfl, .inr ⟨w.heap.size, 0, #[], rfl, Nat.le_refl _, heap_alloc_last w _, Nat.le_refl _, Nat.zero_le _, rfl, rfl⟩⟩
set_option maxHeartbeats 1000000 in
theorem CloneC (x : Option Addr) (l : List CeR) (cap : Nat) (w : World) {S : Nat → Prop} (hS : ∀ b, S b → b < w.heap.size) (hv : RwF 11 (Is ceC) S w x l) :
    Calls Try.prog 7 #[.slice x l.length cap] w fun e w' => (∃ y c, e = .returned (.slice y l.length c) ∧ RwF 11 (Is ceC) (Fresh w.heap.size w'.heap.size) w' y l) ∧ Below w.heap.size w w' := by
  have HV : Hid (RwF 11 (Is ceC) S w x l) := hv
  have HS : Hid _ := hS
  clear hv hS
  have hb := HV.out.1
  cases x with
  | none =>
    have e : l = [] := HV.out.2.1 rfl
    subst e
    have sn := slC_nilT 0 cap
    go_enter Try.func7, Try.ntmps7
    go_wp2
    go_ret
    exact ⟨⟨none, 0, rfl, RwF.nil _ _ _ _⟩, Below.refl _ _⟩
  | some a =>
    have sn := slC_nil a l.length cap
    have I : Hid _ := infoCi
    have LN : Hid ((l.map ceC).flatten.length = l.length * 11) := (flat_len (n := 11) _ (by intro v hv; obtain ⟨e, _, rfl⟩ := List.mem_map.1 hv; rfl)).trans (by rw [List.length_map])
    have ON : Hid (∀ u ∈ (l.map ceC).flatten, u.oneCell' = true) := fun u hu => by
      obtain ⟨vs, h1, h2⟩ := List.mem_flatten.1 hu
      obtain ⟨e, _, rfl⟩ := List.mem_map.1 h1
      simp at h2
      rcases h2 with h | h | h | h | h | h | h | h | h | h | h <;> subst h <;> rfl
    have SR : Hid (∀ W, Below w.heap.size w W → ∀ j u, (l.map ceC).flatten[j]? = some u → W.cell? (a.add j) = some u) := fun W hb j u hu => (HV.out.fr (fun q hq => hb.cell (HS.out _ hq)))|> fun q => RwF.flat (cs := ceC) (fun _ => rfl) q j u hu
    go_enter Try.func7, Try.ntmps7
    go_wp2_with (at_builtin; obtain ⟨i, z, hi, hz, hs, hy, hzc⟩ := I.out; refine wpList_append_own _ rfl _ _ 22 rfl w.heap.size 35 i z 11 96 Try.underlying22 hi hz hs hy hzc (by decide) _ 0 [] rfl (owC_none w) a l.length cap (l.map ceC).flatten rfl LN.out (SR.out _ ((Below.refl _ _).alloc (Nat.le_refl _) _)) ON.out (by simp [maxLen]; omega) (by omega) (by simp) ?_; intro v' w' h1 h2 h3; rw [Nat.zero_add, List.nil_append] at h1; have H1 : Hid (w'.ownsRow w.heap.size 35 11 v' l.length (l.map ceC).flatten) := h1; have H2 : Hid _ := h2; clear h1 h2 h3 hi hz hs hy hzc)
    obtain ⟨y, c, rfl, hy⟩ := own_rw (cs := ceC) (fun _ => rfl) H1.out HV.out.1
    go_ret
    exact ⟨⟨y, c, rfl, hy⟩, ((Below.refl _ _).alloc (Nat.le_refl _) _).grown H2.out (by simp) (fun k e => by cases e; exact Nat.le_refl _)⟩
theorem infoOi : ∃ i z, Try.prog.info? 54 = some i ∧ i.zero = some z ∧ i.size = 10 ∧ i.bytes = 88 ∧ z.cells.size = 10 := by
  obtain ⟨i, hi, hz⟩ := Option.map_eq_some_iff.1 (show (Try.prog.info? 54).map (fun i => (i.zero.map (·.cells.size), i.size, i.bytes)) = some (some 10, 10, 88) by kernel_rfl)
  simp only [Prod.mk.injEq] at hz
  obtain ⟨z, h1, h2⟩ := Option.map_eq_some_iff.1 hz.1
  exact ⟨i, z, hi, h1, hz.2.1, hz.2.2, h2⟩
theorem slO_nil (a : Addr) (n cap : Nat) (w : World) : (binOp .eql 43 (.slice (some a) n cap) (.slice none 0 0)).run Try.prog w = .ok (.bool false) w := by kernel_rfl
theorem slO_nilT (n cap : Nat) (w : World) : (binOp .eql 43 (.slice none n cap) (.slice none 0 0)).run Try.prog w = .ok (.bool true) w := by kernel_rfl
theorem owO_none (w : World) : (w.alloc (.cells #[] 54)).ownsRow w.heap.size 54 10 (.slice (some ⟨w.heap.size, 0, none⟩) 0 0) 0 [] :=
  ⟨rfl, .inr ⟨w.heap.size, 0, #[], rfl, Nat.le_refl _, heap_alloc_last w _, Nat.le_refl _, Nat.zero_le _, rfl, rfl⟩⟩
set_option maxHeartbeats 1000000 in
theorem CloneO (x : Option Addr) (l : List OpR) (cap : Nat) (w : World) {S : Nat → Prop} (hS : ∀ b, S b → b < w.heap.size) (hv : RwF 10 (Is opC) S w x l) :
    Calls Try.prog 22 #[.slice x l.length cap] w fun e w' => (∃ y c, e = .returned (.slice y l.length c) ∧ RwF 10 (Is opC) (Fresh w.heap.size w'.heap.size) w' y l) ∧ Below w.heap.size w w' := by
  have HV : Hid (RwF 10 (Is opC) S w x l) := hv
  have HS : Hid _ := hS
  clear hv hS
  have hb := HV.out.1
  cases x with
  | none =>
    have e : l = [] := HV.out.2.1 rfl
    subst e
    have sn := slO_nilT 0 cap
    go_enter Try.func22, Try.ntmps22
    go_wp2
    go_ret
    exact ⟨⟨none, 0, rfl, RwF.nil _ _ _ _⟩, Below.refl _ _⟩
  | some a =>
    have sn := slO_nil a l.length cap
    have I : Hid _ := infoOi
    have LN : Hid ((l.map opC).flatten.length = l.length * 10) := (flat_len (n := 10) _ (by intro v hv; obtain ⟨e, _, rfl⟩ := List.mem_map.1 hv; rfl)).trans (by rw [List.length_map])
    have ON : Hid (∀ u ∈ (l.map opC).flatten, u.oneCell' = true) := fun u hu => by
      obtain ⟨vs, h1, h2⟩ := List.mem_flatten.1 hu
      obtain ⟨e, _, rfl⟩ := List.mem_map.1 h1
      simp at h2
      rcases h2 with h | h | h | h | h | h | h | h | h | h <;> subst h <;> rfl
    have SR : Hid (∀ W, Below w.heap.size w W → ∀ j u, (l.map opC).flatten[j]? = some u → W.cell? (a.add j) = some u) := fun W hb j u hu => (HV.out.fr (fun q hq => hb.cell (HS.out _ hq)))|> fun q => RwF.flat (cs := opC) (fun _ => rfl) q j u hu
    go_enter Try.func22, Try.ntmps22
    go_wp2_with (at_builtin; obtain ⟨i, z, hi, hz, hs, hy, hzc⟩ := I.out; refine wpList_append_own _ rfl _ _ 43 rfl w.heap.size 54 i z 10 88 Try.underlying43 hi hz hs hy hzc (by decide) _ 0 [] rfl (owO_none w) a l.length cap (l.map opC).flatten rfl LN.out (SR.out _ ((Below.refl _ _).alloc (Nat.le_refl _) _)) ON.out (by simp [maxLen]; omega) (by omega) (by simp) ?_; intro v' w' h1 h2 h3; rw [Nat.zero_add, List.nil_append] at h1; have H1 : Hid (w'.ownsRow w.heap.size 54 10 v' l.length (l.map opC).flatten) := h1; have H2 : Hid _ := h2; clear h1 h2 h3 hi hz hs hy hzc)
    obtain ⟨y, c, rfl, hy⟩ := own_rw (cs := opC) (fun _ => rfl) H1.out HV.out.1
    go_ret
    exact ⟨⟨y, c, rfl, hy⟩, ((Below.refl _ _).alloc (Nat.le_refl _) _).grown H2.out (by simp) (fun k e => by cases e; exact Nat.le_refl _)⟩
theorem infoLi : ∃ i z, Try.prog.info? 57 = some i ∧ i.zero = some z ∧ i.size = 3 ∧ i.bytes = 24 ∧ z.cells.size = 3 := by
  obtain ⟨i, hi, hz⟩ := Option.map_eq_some_iff.1 (show (Try.prog.info? 57).map (fun i => (i.zero.map (·.cells.size), i.size, i.bytes)) = some (some 3, 3, 24) by kernel_rfl)
  simp only [Prod.mk.injEq] at hz
  obtain ⟨z, h1, h2⟩ := Option.map_eq_some_iff.1 hz.1
  exact ⟨i, z, hi, h1, hz.2.1, hz.2.2, h2⟩
theorem slL_nil (a : Addr) (n cap : Nat) (w : World) : (binOp .eql 44 (.slice (some a) n cap) (.slice none 0 0)).run Try.prog w = .ok (.bool false) w := by kernel_rfl
theorem slL_nilT (n cap : Nat) (w : World) : (binOp .eql 44 (.slice none n cap) (.slice none 0 0)).run Try.prog w = .ok (.bool true) w := by kernel_rfl
theorem owL_none (w : World) : (w.alloc (.cells #[] 57)).ownsRow w.heap.size 57 3 (.slice (some ⟨w.heap.size, 0, none⟩) 0 0) 0 [] :=
  ⟨rfl, .inr ⟨w.heap.size, 0, #[], rfl, Nat.le_refl _, heap_alloc_last w _, Nat.le_refl _, Nat.zero_le _, rfl, rfl⟩⟩
set_option maxHeartbeats 1000000 in
theorem CloneL (x : Option Addr) (l : List LpR) (cap : Nat) (w : World) {S : Nat → Prop} (hS : ∀ b, S b → b < w.heap.size) (hv : RwF 3 (Is lpC) S w x l) :
    Calls Try.prog 23 #[.slice x l.length cap] w fun e w' => (∃ y c, e = .returned (.slice y l.length c) ∧ RwF 3 (Is lpC) (Fresh w.heap.size w'.heap.size) w' y l) ∧ Below w.heap.size w w' := by
  have HV : Hid (RwF 3 (Is lpC) S w x l) := hv
  have HS : Hid _ := hS
  clear hv hS
  have hb := HV.out.1
  cases x with
  | none =>
    have e : l = [] := HV.out.2.1 rfl
    subst e
    have sn := slL_nilT 0 cap
    go_enter Try.func23, Try.ntmps23
    go_wp2
    go_ret
    exact ⟨⟨none, 0, rfl, RwF.nil _ _ _ _⟩, Below.refl _ _⟩
  | some a =>
    have sn := slL_nil a l.length cap
    have I : Hid _ := infoLi
    have LN : Hid ((l.map lpC).flatten.length = l.length * 3) := (flat_len (n := 3) _ (by intro v hv; obtain ⟨e, _, rfl⟩ := List.mem_map.1 hv; rfl)).trans (by rw [List.length_map])
    have ON : Hid (∀ u ∈ (l.map lpC).flatten, u.oneCell' = true) := fun u hu => by
      obtain ⟨vs, h1, h2⟩ := List.mem_flatten.1 hu
      obtain ⟨e, _, rfl⟩ := List.mem_map.1 h1
      simp at h2
      rcases h2 with h | h | h <;> subst h <;> rfl
    have SR : Hid (∀ W, Below w.heap.size w W → ∀ j u, (l.map lpC).flatten[j]? = some u → W.cell? (a.add j) = some u) := fun W hb j u hu => (HV.out.fr (fun q hq => hb.cell (HS.out _ hq)))|> fun q => RwF.flat (cs := lpC) (fun _ => rfl) q j u hu
    go_enter Try.func23, Try.ntmps23
    go_wp2_with (at_builtin; obtain ⟨i, z, hi, hz, hs, hy, hzc⟩ := I.out; refine wpList_append_own _ rfl _ _ 44 rfl w.heap.size 57 i z 3 24 Try.underlying44 hi hz hs hy hzc (by decide) _ 0 [] rfl (owL_none w) a l.length cap (l.map lpC).flatten rfl LN.out (SR.out _ ((Below.refl _ _).alloc (Nat.le_refl _) _)) ON.out (by simp [maxLen]; omega) (by omega) (by simp) ?_; intro v' w' h1 h2 h3; rw [Nat.zero_add, List.nil_append] at h1; have H1 : Hid (w'.ownsRow w.heap.size 57 3 v' l.length (l.map lpC).flatten) := h1; have H2 : Hid _ := h2; clear h1 h2 h3 hi hz hs hy hzc)
    obtain ⟨y, c, rfl, hy⟩ := own_rw (cs := lpC) (fun _ => rfl) H1.out HV.out.1
    go_ret
    exact ⟨⟨y, c, rfl, hy⟩, ((Below.refl _ _).alloc (Nat.le_refl _) _).grown H2.out (by simp) (fun k e => by cases e; exact Nat.le_refl _)⟩
theorem infoNi : ∃ i z, Try.prog.info? 3 = some i ∧ i.zero = some z ∧ i.size = 1 ∧ i.bytes = 8 ∧ z.cells.size = 1 := by
  obtain ⟨i, hi, hz⟩ := Option.map_eq_some_iff.1 (show (Try.prog.info? 3).map (fun i => (i.zero.map (·.cells.size), i.size, i.bytes)) = some (some 1, 1, 8) by kernel_rfl)
  simp only [Prod.mk.injEq] at hz
  obtain ⟨z, h1, h2⟩ := Option.map_eq_some_iff.1 hz.1
  exact ⟨i, z, hi, h1, hz.2.1, hz.2.2, h2⟩
theorem slN_nil (a : Addr) (n cap : Nat) (w : World) : (binOp .eql 37 (.slice (some a) n cap) (.slice none 0 0)).run Try.prog w = .ok (.bool false) w := by kernel_rfl
theorem slN_nilT (n cap : Nat) (w : World) : (binOp .eql 37 (.slice none n cap) (.slice none 0 0)).run Try.prog w = .ok (.bool true) w := by kernel_rfl
theorem owN_none (w : World) : (w.alloc (.cells #[] 3)).ownsRow w.heap.size 3 1 (.slice (some ⟨w.heap.size, 0, none⟩) 0 0) 0 [] :=
  ⟨rfl, .inr ⟨w.heap.size, 0, #[], rfl, Nat.le_refl _, heap_alloc_last w _, Nat.le_refl _, Nat.zero_le _, rfl, rfl⟩⟩
set_option maxHeartbeats 1000000 in
theorem CloneN (x : Option Addr) (l : List Int) (cap : Nat) (w : World) {S : Nat → Prop} (hS : ∀ b, S b → b < w.heap.size) (hv : RwF 1 (Is inC) S w x l) :
    Calls Try.prog 9 #[.slice x l.length cap] w fun e w' => (∃ y c, e = .returned (.slice y l.length c) ∧ RwF 1 (Is inC) (Fresh w.heap.size w'.heap.size) w' y l) ∧ Below w.heap.size w w' := by
  have HV : Hid (RwF 1 (Is inC) S w x l) := hv
  have HS : Hid _ := hS
  clear hv hS
  have hb := HV.out.1
  cases x with
  | none =>
    have e : l = [] := HV.out.2.1 rfl
    subst e
    have sn := slN_nilT 0 cap
    go_enter Try.func9, Try.ntmps9
    go_wp2
    go_ret
    exact ⟨⟨none, 0, rfl, RwF.nil _ _ _ _⟩, Below.refl _ _⟩
  | some a =>
    have sn := slN_nil a l.length cap
    have I : Hid _ := infoNi
    have LN : Hid ((l.map inC).flatten.length = l.length * 1) := (flat_len (n := 1) _ (by intro v hv; obtain ⟨e, _, rfl⟩ := List.mem_map.1 hv; rfl)).trans (by rw [List.length_map])
    have ON : Hid (∀ u ∈ (l.map inC).flatten, u.oneCell' = true) := fun u hu => by
      obtain ⟨vs, h1, h2⟩ := List.mem_flatten.1 hu
      obtain ⟨e, _, rfl⟩ := List.mem_map.1 h1
      simp at h2
      rw [h2]; rfl
    have SR : Hid (∀ W, Below w.heap.size w W → ∀ j u, (l.map inC).flatten[j]? = some u → W.cell? (a.add j) = some u) := fun W hb j u hu => (HV.out.fr (fun q hq => hb.cell (HS.out _ hq)))|> fun q => RwF.flat (cs := inC) (fun _ => rfl) q j u hu
    go_enter Try.func9, Try.ntmps9
    go_wp2_with (at_builtin; obtain ⟨i, z, hi, hz, hs, hy, hzc⟩ := I.out; refine wpList_append_own _ rfl _ _ 37 rfl w.heap.size 3 i z 1 8 Try.underlying37 hi hz hs hy hzc (by decide) _ 0 [] rfl (owN_none w) a l.length cap (l.map inC).flatten rfl LN.out (SR.out _ ((Below.refl _ _).alloc (Nat.le_refl _) _)) ON.out (by simp [maxLen]; omega) (by omega) (by simp) ?_; intro v' w' h1 h2 h3; rw [Nat.zero_add, List.nil_append] at h1; have H1 : Hid (w'.ownsRow w.heap.size 3 1 v' l.length (l.map inC).flatten) := h1; have H2 : Hid _ := h2; clear h1 h2 h3 hi hz hs hy hzc)
    obtain ⟨y, c, rfl, hy⟩ := own_rw (cs := inC) (fun _ => rfl) H1.out HV.out.1
    go_ret
    exact ⟨⟨y, c, rfl, hy⟩, ((Below.refl _ _).alloc (Nat.le_refl _) _).grown H2.out (by simp) (fun k e => by cases e; exact Nat.le_refl _)⟩
end Go.Proofs.Ytemoebhjcjfmjaa
