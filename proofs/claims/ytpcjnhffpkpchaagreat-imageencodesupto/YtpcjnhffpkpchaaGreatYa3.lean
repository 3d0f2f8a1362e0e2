/- Codes in a row copied; no statement of the seat is proved here. -/
import Derived.Test.YtpcjnhffpkpchaaGreatYa1
import Derived.Test.YtpcjnhffpkpchaaGreatSubG
import Derived.Deep.RegionHeld3
import Derived.Deep.DeepCutAuto
namespace Go.Proofs.YtpcjnhffpkpchaaGreat
set_option linter.unusedVariables false
open Go.RowKit
theorem infoCi : ∃ i z, Tryz.prog.info? 42 = some i ∧ i.zero = some z ∧ i.size = 11 ∧ i.bytes = 96 ∧ z.cells.size = 11 := by
  obtain ⟨i, hi, hz⟩ := Option.map_eq_some_iff.1 (show (Tryz.prog.info? 42).map (fun i => (i.zero.map (·.cells.size), i.size, i.bytes)) = some (some 11, 11, 96) by kernel_rfl)
  simp only [Prod.mk.injEq] at hz
  obtain ⟨z, h1, h2⟩ := Option.map_eq_some_iff.1 hz.1
  exact ⟨i, z, hi, h1, hz.2.1, hz.2.2, h2⟩
theorem slC_nil (a : Addr) (n cap : Nat) (w : World) : (binOp .eql 22 (.slice (some a) n cap) (.slice none 0 0)).run Tryz.prog w = .ok (.bool false) w := by kernel_rfl
theorem slC_nilT (n cap : Nat) (w : World) : (binOp .eql 22 (.slice none n cap) (.slice none 0 0)).run Tryz.prog w = .ok (.bool true) w := by kernel_rfl
theorem owC_none (w : World) : (w.alloc (.cells #[] 42)).ownsRow w.heap.size 42 11 (.slice (some ⟨w.heap.size, 0, none⟩) 0 0) 0 [] :=
  ⟨rfl, .inr ⟨w.heap.size, 0, #[], rfl, Nat.le_refl _, heap_alloc_last w _, Nat.le_refl _, Nat.zero_le _, rfl, rfl⟩⟩
set_option maxHeartbeats 1000000 in
theorem CloneC (x : Option Addr) (l : List CeR) (cap : Nat) (w : World) {S : Nat → Prop} (hS : ∀ b, S b → b < w.heap.size) (hv : RwF 11 (Is ceC) S w x l) :
    Calls Tryz.prog 10 #[.slice x l.length cap] w fun e w' => (∃ y c, e = .returned (.slice y l.length c) ∧ RwF 11 (Is ceC) (Fresh w.heap.size w'.heap.size) w' y l) ∧ Below w.heap.size w w' := by
  have HV : Hid (RwF 11 (Is ceC) S w x l) := hv
  have HS : Hid _ := hS
  clear hv hS
  have hb := HV.out.1
  cases x with
  | none =>
    have e : l = [] := HV.out.2.1 rfl
    subst e
    have sn := slC_nilT 0 cap
    go_enter Tryz.func10, Tryz.ntmps10
    go_wp2
    go_ret
    exact ⟨⟨none, 0, rfl, RwF.nil _ _ _ _⟩, Below.refl _ _⟩
  | some a =>
    have sn := slC_nil a l.length cap
    have I : Hid _ := infoCi
    have LN : Hid ((l.map ceC).flatten.length = l.length * 11) := (flat_len (n := 11) _ (by intro v hv; obtain ⟨e, _, rfl⟩ := List.mem_map.1 hv; rfl)).trans (by rw [List.length_map])
    have ON : Hid (∀ u ∈ (l.map ceC).flatten, u.oneCell' = true) := fun u hu => by
      obtain ⟨vs, h1, h2⟩ := List.mem_flatten.1 hu
      obtain ⟨e, _, rfl⟩ := List.mem_map.1 h1
      simp at h2
      rcases h2 with h | h | h | h | h | h | h | h | h | h | h <;> subst h <;> rfl
    have SR : Hid (∀ W, Below w.heap.size w W → ∀ j u, (l.map ceC).flatten[j]? = some u → W.cell? (a.add j) = some u) := fun W hb j u hu => (HV.out.fr (fun q hq => hb.cell (HS.out _ hq)))|> fun q => RwF.flat (cs := ceC) (fun _ => rfl) q j u hu
    go_enter Tryz.func10, Tryz.ntmps10
    go_wp2_with (at_builtin; obtain ⟨i, z, hi, hz, hs, hy, hzc⟩ := I.out; refine wpList_append_own _ rfl _ _ 22 rfl w.heap.size 42 i z 11 96 Tryz.underlying22 hi hz hs hy hzc (by decide) _ 0 [] rfl (owC_none w) a l.length cap (l.map ceC).flatten rfl LN.out (SR.out _ ((Below.refl _ _).alloc (Nat.le_refl _) _)) ON.out (by simp [maxLen]; omega) (by omega) (by simp) ?_; intro v' w' h1 h2 h3; rw [Nat.zero_add, List.nil_append] at h1; have H1 : Hid (w'.ownsRow w.heap.size 42 11 v' l.length (l.map ceC).flatten) := h1; have H2 : Hid _ := h2; clear h1 h2 h3 hi hz hs hy hzc)
    obtain ⟨y, c, rfl, hy⟩ := own_rw (cs := ceC) (fun _ => rfl) H1.out HV.out.1
    go_ret
    exact ⟨⟨y, c, rfl, hy⟩, ((Below.refl _ _).alloc (Nat.le_refl _) _).grown H2.out (by simp) (fun k e => by cases e; exact Nat.le_refl _)⟩
theorem infoOi : ∃ i z, Tryz.prog.info? 86 = some i ∧ i.zero = some z ∧ i.size = 10 ∧ i.bytes = 88 ∧ z.cells.size = 10 := by
  obtain ⟨i, hi, hz⟩ := Option.map_eq_some_iff.1 (show (Tryz.prog.info? 86).map (fun i => (i.zero.map (·.cells.size), i.size, i.bytes)) = some (some 10, 10, 88) by kernel_rfl)
  simp only [Prod.mk.injEq] at hz
  obtain ⟨z, h1, h2⟩ := Option.map_eq_some_iff.1 hz.1
  exact ⟨i, z, hi, h1, hz.2.1, hz.2.2, h2⟩
theorem slO_nil (a : Addr) (n cap : Nat) (w : World) : (binOp .eql 61 (.slice (some a) n cap) (.slice none 0 0)).run Tryz.prog w = .ok (.bool false) w := by kernel_rfl
theorem slO_nilT (n cap : Nat) (w : World) : (binOp .eql 61 (.slice none n cap) (.slice none 0 0)).run Tryz.prog w = .ok (.bool true) w := by kernel_rfl
theorem owO_none (w : World) : (w.alloc (.cells #[] 86)).ownsRow w.heap.size 86 10 (.slice (some ⟨w.heap.size, 0, none⟩) 0 0) 0 [] :=
  ⟨rfl, .inr ⟨w.heap.size, 0, #[], rfl, Nat.le_refl _, heap_alloc_last w _, Nat.le_refl _, Nat.zero_le _, rfl, rfl⟩⟩
set_option maxHeartbeats 1000000 in
theorem CloneO (x : Option Addr) (l : List OpR) (cap : Nat) (w : World) {S : Nat → Prop} (hS : ∀ b, S b → b < w.heap.size) (hv : RwF 10 (Is opC) S w x l) :
    Calls Tryz.prog 49 #[.slice x l.length cap] w fun e w' => (∃ y c, e = .returned (.slice y l.length c) ∧ RwF 10 (Is opC) (Fresh w.heap.size w'.heap.size) w' y l) ∧ Below w.heap.size w w' := by
  have HV : Hid (RwF 10 (Is opC) S w x l) := hv
  have HS : Hid _ := hS
  clear hv hS
  have hb := HV.out.1
  cases x with
  | none =>
    have e : l = [] := HV.out.2.1 rfl
    subst e
    have sn := slO_nilT 0 cap
    go_enter Tryz.func49, Tryz.ntmps49
    go_wp2
    go_ret
    exact ⟨⟨none, 0, rfl, RwF.nil _ _ _ _⟩, Below.refl _ _⟩
  | some a =>
    have sn := slO_nil a l.length cap
    have I : Hid _ := infoOi
    have LN : Hid ((l.map opC).flatten.length = l.length * 10) := (flat_len (n := 10) _ (by intro v hv; obtain ⟨e, _, rfl⟩ := List.mem_map.1 hv; rfl)).trans (by rw [List.length_map])
    have ON : Hid (∀ u ∈ (l.map opC).flatten, u.oneCell' = true) := fun u hu => by
      obtain ⟨vs, h1, h2⟩ := List.mem_flatten.1 hu
      obtain ⟨e, _, rfl⟩ := List.mem_map.1 h1
      simp at h2
      rcases h2 with h | h | h | h | h | h | h | h | h | h <;> subst h <;> rfl
    have SR : Hid (∀ W, Below w.heap.size w W → ∀ j u, (l.map opC).flatten[j]? = some u → W.cell? (a.add j) = some u) := fun W hb j u hu => (HV.out.fr (fun q hq => hb.cell (HS.out _ hq)))|> fun q => RwF.flat (cs := opC) (fun _ => rfl) q j u hu
    go_enter Tryz.func49, Tryz.ntmps49
    go_wp2_with (at_builtin; obtain ⟨i, z, hi, hz, hs, hy, hzc⟩ := I.out; refine wpList_append_own _ rfl _ _ 61 rfl w.heap.size 86 i z 10 88 Tryz.underlying61 hi hz hs hy hzc (by decide) _ 0 [] rfl (owO_none w) a l.length cap (l.map opC).flatten rfl LN.out (SR.out _ ((Below.refl _ _).alloc (Nat.le_refl _) _)) ON.out (by simp [maxLen]; omega) (by omega) (by simp) ?_; intro v' w' h1 h2 h3; rw [Nat.zero_add, List.nil_append] at h1; have H1 : Hid (w'.ownsRow w.heap.size 86 10 v' l.length (l.map opC).flatten) := h1; have H2 : Hid _ := h2; clear h1 h2 h3 hi hz hs hy hzc)
    obtain ⟨y, c, rfl, hy⟩ := own_rw (cs := opC) (fun _ => rfl) H1.out HV.out.1
    go_ret
    exact ⟨⟨y, c, rfl, hy⟩, ((Below.refl _ _).alloc (Nat.le_refl _) _).grown H2.out (by simp) (fun k e => by cases e; exact Nat.le_refl _)⟩
theorem infoLi : ∃ i z, Tryz.prog.info? 99 = some i ∧ i.zero = some z ∧ i.size = 3 ∧ i.bytes = 24 ∧ z.cells.size = 3 := by
  obtain ⟨i, hi, hz⟩ := Option.map_eq_some_iff.1 (show (Tryz.prog.info? 99).map (fun i => (i.zero.map (·.cells.size), i.size, i.bytes)) = some (some 3, 3, 24) by kernel_rfl)
  simp only [Prod.mk.injEq] at hz
  obtain ⟨z, h1, h2⟩ := Option.map_eq_some_iff.1 hz.1
  exact ⟨i, z, hi, h1, hz.2.1, hz.2.2, h2⟩
theorem slL_nil (a : Addr) (n cap : Nat) (w : World) : (binOp .eql 62 (.slice (some a) n cap) (.slice none 0 0)).run Tryz.prog w = .ok (.bool false) w := by kernel_rfl
theorem slL_nilT (n cap : Nat) (w : World) : (binOp .eql 62 (.slice none n cap) (.slice none 0 0)).run Tryz.prog w = .ok (.bool true) w := by kernel_rfl
theorem owL_none (w : World) : (w.alloc (.cells #[] 99)).ownsRow w.heap.size 99 3 (.slice (some ⟨w.heap.size, 0, none⟩) 0 0) 0 [] :=
  ⟨rfl, .inr ⟨w.heap.size, 0, #[], rfl, Nat.le_refl _, heap_alloc_last w _, Nat.le_refl _, Nat.zero_le _, rfl, rfl⟩⟩
set_option maxHeartbeats 1000000 in
theorem CloneL (x : Option Addr) (l : List LpR) (cap : Nat) (w : World) {S : Nat → Prop} (hS : ∀ b, S b → b < w.heap.size) (hv : RwF 3 (Is lpC) S w x l) :
    Calls Tryz.prog 50 #[.slice x l.length cap] w fun e w' => (∃ y c, e = .returned (.slice y l.length c) ∧ RwF 3 (Is lpC) (Fresh w.heap.size w'.heap.size) w' y l) ∧ Below w.heap.size w w' := by
  have HV : Hid (RwF 3 (Is lpC) S w x l) := hv
  have HS : Hid _ := hS
  clear hv hS
  have hb := HV.out.1
  cases x with
  | none =>
    have e : l = [] := HV.out.2.1 rfl
    subst e
    have sn := slL_nilT 0 cap
    go_enter Tryz.func50, Tryz.ntmps50
    go_wp2
    go_ret
    exact ⟨⟨none, 0, rfl, RwF.nil _ _ _ _⟩, Below.refl _ _⟩
  | some a =>
    have sn := slL_nil a l.length cap
    have I : Hid _ := infoLi
    have LN : Hid ((l.map lpC).flatten.length = l.length * 3) := (flat_len (n := 3) _ (by intro v hv; obtain ⟨e, _, rfl⟩ := List.mem_map.1 hv; rfl)).trans (by rw [List.length_map])
    have ON : Hid (∀ u ∈ (l.map lpC).flatten, u.oneCell' = true) := fun u hu => by
      obtain ⟨vs, h1, h2⟩ := List.mem_flatten.1 hu
      obtain ⟨e, _, rfl⟩ := List.mem_map.1 h1
      simp at h2
      rcases h2 with h | h | h <;> subst h <;> rfl
    have SR : Hid (∀ W, Below w.heap.size w W → ∀ j u, (l.map lpC).flatten[j]? = some u → W.cell? (a.add j) = some u) := fun W hb j u hu => (HV.out.fr (fun q hq => hb.cell (HS.out _ hq)))|> fun q => RwF.flat (cs := lpC) (fun _ => rfl) q j u hu
    go_enter Tryz.func50, Tryz.ntmps50
    go_wp2_with (at_builtin; obtain ⟨i, z, hi, hz, hs, hy, hzc⟩ := I.out; refine wpList_append_own _ rfl _ _ 62 rfl w.heap.size 99 i z 3 24 Tryz.underlying62 hi hz hs hy hzc (by decide) _ 0 [] rfl (owL_none w) a l.length cap (l.map lpC).flatten rfl LN.out (SR.out _ ((Below.refl _ _).alloc (Nat.le_refl _) _)) ON.out (by simp [maxLen]; omega) (by omega) (by simp) ?_; intro v' w' h1 h2 h3; rw [Nat.zero_add, List.nil_append] at h1; have H1 : Hid (w'.ownsRow w.heap.size 99 3 v' l.length (l.map lpC).flatten) := h1; have H2 : Hid _ := h2; clear h1 h2 h3 hi hz hs hy hzc)
    obtain ⟨y, c, rfl, hy⟩ := own_rw (cs := lpC) (fun _ => rfl) H1.out HV.out.1
    go_ret
    exact ⟨⟨y, c, rfl, hy⟩, ((Below.refl _ _).alloc (Nat.le_refl _) _).grown H2.out (by simp) (fun k e => by cases e; exact Nat.le_refl _)⟩
theorem infoNi : ∃ i z, Tryz.prog.info? 3 = some i ∧ i.zero = some z ∧ i.size = 1 ∧ i.bytes = 8 ∧ z.cells.size = 1 := by
  obtain ⟨i, hi, hz⟩ := Option.map_eq_some_iff.1 (show (Tryz.prog.info? 3).map (fun i => (i.zero.map (·.cells.size), i.size, i.bytes)) = some (some 1, 1, 8) by kernel_rfl)
  simp only [Prod.mk.injEq] at hz
  obtain ⟨z, h1, h2⟩ := Option.map_eq_some_iff.1 hz.1
  exact ⟨i, z, hi, h1, hz.2.1, hz.2.2, h2⟩
theorem slN_nil (a : Addr) (n cap : Nat) (w : World) : (binOp .eql 44 (.slice (some a) n cap) (.slice none 0 0)).run Tryz.prog w = .ok (.bool false) w := by kernel_rfl
theorem slN_nilT (n cap : Nat) (w : World) : (binOp .eql 44 (.slice none n cap) (.slice none 0 0)).run Tryz.prog w = .ok (.bool true) w := by kernel_rfl
theorem owN_none (w : World) : (w.alloc (.cells #[] 3)).ownsRow w.heap.size 3 1 (.slice (some ⟨w.heap.size, 0, none⟩) 0 0) 0 [] :=
  ⟨rfl, .inr ⟨w.heap.size, 0, #[], rfl, Nat.le_refl _, heap_alloc_last w _, Nat.le_refl _, Nat.zero_le _, rfl, rfl⟩⟩
set_option maxHeartbeats 1000000 in
theorem CloneN (x : Option Addr) (l : List Int) (cap : Nat) (w : World) {S : Nat → Prop} (hS : ∀ b, S b → b < w.heap.size) (hv : RwF 1 (Is inC) S w x l) :
    Calls Tryz.prog 12 #[.slice x l.length cap] w fun e w' => (∃ y c, e = .returned (.slice y l.length c) ∧ RwF 1 (Is inC) (Fresh w.heap.size w'.heap.size) w' y l) ∧ Below w.heap.size w w' := by
  have HV : Hid (RwF 1 (Is inC) S w x l) := hv
  have HS : Hid _ := hS
  clear hv hS
  have hb := HV.out.1
  cases x with
  | none =>
    have e : l = [] := HV.out.2.1 rfl
    subst e
    have sn := slN_nilT 0 cap
    go_enter Tryz.func12, Tryz.ntmps12
    go_wp2
    go_ret
    exact ⟨⟨none, 0, rfl, RwF.nil _ _ _ _⟩, Below.refl _ _⟩
  | some a =>
    have sn := slN_nil a l.length cap
    have I : Hid _ := infoNi
    have LN : Hid ((l.map inC).flatten.length = l.length * 1) := (flat_len (n := 1) _ (by intro v hv; obtain ⟨e, _, rfl⟩ := List.mem_map.1 hv; rfl)).trans (by rw [List.length_map])
    have ON : Hid (∀ u ∈ (l.map inC).flatten, u.oneCell' = true) := fun u hu => by
      obtain ⟨vs, h1, h2⟩ := List.mem_flatten.1 hu
      obtain ⟨e, _, rfl⟩ := List.mem_map.1 h1
      simp at h2
      rw [h2]; rfl
    have SR : Hid (∀ W, Below w.heap.size w W → ∀ j u, (l.map inC).flatten[j]? = some u → W.cell? (a.add j) = some u) := fun W hb j u hu => (HV.out.fr (fun q hq => hb.cell (HS.out _ hq)))|> fun q => RwF.flat (cs := inC) (fun _ => rfl) q j u hu
    go_enter Tryz.func12, Tryz.ntmps12
    go_wp2_with (at_builtin; obtain ⟨i, z, hi, hz, hs, hy, hzc⟩ := I.out; refine wpList_append_own _ rfl _ _ 44 rfl w.heap.size 3 i z 1 8 Tryz.underlying44 hi hz hs hy hzc (by decide) _ 0 [] rfl (owN_none w) a l.length cap (l.map inC).flatten rfl LN.out (SR.out _ ((Below.refl _ _).alloc (Nat.le_refl _) _)) ON.out (by simp [maxLen]; omega) (by omega) (by simp) ?_; intro v' w' h1 h2 h3; rw [Nat.zero_add, List.nil_append] at h1; have H1 : Hid (w'.ownsRow w.heap.size 3 1 v' l.length (l.map inC).flatten) := h1; have H2 : Hid _ := h2; clear h1 h2 h3 hi hz hs hy hzc)
    obtain ⟨y, c, rfl, hy⟩ := own_rw (cs := inC) (fun _ => rfl) H1.out HV.out.1
    go_ret
    exact ⟨⟨y, c, rfl, hy⟩, ((Below.refl _ _).alloc (Nat.le_refl _) _).grown H2.out (by simp) (fun k e => by cases e; exact Nat.le_refl _)⟩
end Go.Proofs.YtpcjnhffpkpchaaGreat
namespace Go.Proofs.YtpcjnhffpkpchaaGreat
set_option linter.unusedVariables false
open Go.RowKit
section
variable {P : Program} {ops : Array Oper} {Q : Exit → Act → World → Prop} {md : Region.Mode} {S : World → Prop} {j : Nat}
/-- Whatever order is picked from here on, and S holds behind every operation as long as number j has not come up. -/
def wpAnyJ (P : Program) (md : Region.Mode) (ops : Array Oper) (Q : Exit → Act → World → Prop) (S : World → Prop) (j : Nat) : Nat → Array Bool → Act → World → Prop
  | 0, listed, a, w => Region.ready md ops listed = [] ∧ Q .normal a w
  | fuel + 1, listed, a, w =>
    (Region.ready md ops listed = [] → Q .normal a w) ∧
    ∀ i ∈ Region.ready md ops listed, wpOp P ops Q i (fun a' w' => ((listed.setIfInBounds i true).getD j true = false → S w') ∧ wpAnyJ P md ops Q S j fuel (listed.setIfInBounds i true) a' w') a w
theorem wpAny_of_J : ∀ (fuel : Nat) (listed : Array Bool) (a : Act) (w : World), wpAnyJ P md ops Q S j fuel listed a w → wpAny P md ops Q fuel listed a w
  | 0, _, _, _, h => h
  | fuel + 1, _, _, _, h => ⟨h.1, fun i hi => wpOp_mono (fun a' w' h' => wpAny_of_J fuel _ a' w' h'.2) (h.2 i hi)⟩
theorem wpAnyJ_first {i : Nat} {oi : Oper} {v : Value} (hi : ops[i]? = some oi) (hsel : ∀ (j : Nat) (o : Oper) cs b, ops[j]? = some o → o.op ≠ .select cs b)
    (hQ : ∀ c a w, Q (.panic c) (a.put oi.dst v) w → Q (.panic c) a w) (hij : j ≠ i) (hj : ∀ oj, ops[j]? = some oj → ∃ e ∈ oj.after, Region.binds md e = true ∧ e.on = i) :
    ∀ (fuel : Nat) (listed : Array Bool) (a : Act) (w : World),
      (∀ k ok, ops[k]? = some ok → k ≠ i → listed.getD k true = false → (∀ e ∈ ok.after, Region.binds md e = true → e.on ≠ i) → oi.apart ops ok = true) →
      i ∈ Region.ready md ops listed → YieldsIf P ops S oi v a → listed.getD j true = false → S w →
      wpAnyJ P md ops Q S j fuel (listed.setIfInBounds i true) (a.put oi.dst v) w → wpAnyJ P md ops Q S j (fuel + 1) listed a w := by
  intro fuel
  induction fuel with
  | zero =>
    intro listed a w _ hr hy hu hS H
    refine ⟨fun h => (by rw [h] at hr; cases hr), fun k hk => ?_⟩
    by_cases hki : k = i
    · subst hki; exact hy.wpOp hi hS ⟨fun _ => hS, H⟩
    · have := ready_mono hk hki
      rw [H.1] at this
      cases this
  | succ fuel ih =>
    intro listed a w hfree hr hy hu hS H
    refine ⟨fun h => (by rw [h] at hr; cases hr), fun k hk => ?_⟩
    by_cases hki : k = i
    · subst hki; exact hy.wpOp hi hS ⟨fun _ => hS, H⟩
    · have h1 := H.2 k (ready_mono hk hki)
      obtain ⟨hjun, ok, hok, hall⟩ := mem_ready.1 hk
      have notI : ∀ e ∈ ok.after, Region.binds md e = true → e.on ≠ i := fun e he hb heq => by
        have h1 := hall e he hb
        have h0 := (mem_ready.1 hr).1
        rw [heq] at h1
        rcases Nat.lt_or_ge i listed.size with h' | h'
        · simp [h'] at h0 h1; rw [h0] at h1; cases h1
        · simp [Array.getElem?_eq_none h'] at h1
      have hkj : k ≠ j := fun e => by
        subst e
        obtain ⟨e, he, hb, ho⟩ := hj ok hok
        exact notI e he hb ho
      have h2 := wpOp_putIf hok (hfree k ok hok hki hjun notI) (fun cs b => hsel i oi cs b hi) (fun cs b => hsel k ok cs b hok) hQ hy h1
      have hu' : (listed.setIfInBounds k true).getD j true = false := by rw [getD_set_ne true hkj]; exact hu
      have hfree' : ∀ k' ok', ops[k']? = some ok' → k' ≠ i → (listed.setIfInBounds k true).getD k' true = false →
          (∀ e ∈ ok'.after, Region.binds md e = true → e.on ≠ i) → oi.apart ops ok' = true := fun k' ok' hk' hki' hun hno => by
        refine hfree k' ok' hk' hki' ?_ hno
        by_cases hjk : k = k'
        · subst hjk; exact hjun
        · rw [getD_set_ne true hjk] at hun; exact hun
      refine wpOp_mono (fun a' w' h3 => ?_) h2
      have hS' : S w' := h3.2.1 (by rw [getD_set_ne true hkj, getD_set_ne true (Ne.symm hij)]; exact hu)
      refine ⟨fun _ => hS', ih (listed.setIfInBounds k true) a' w' hfree' (ready_mono hr (Ne.symm hki)) h3.1 hu' hS' ?_⟩
      rw [Array.setIfInBounds_comm _ _ hki]
      exact h3.2.2
/-- Does number j wait for number i? -/
def waitsB (md : Region.Mode) (ops : Array Oper) (j i : Nat) : Bool := match ops[j]? with
  | some oj => oj.after.any fun e => Region.binds md e && e.on == i
  | none => true
theorem waitsB_spec {i : Nat} (h : waitsB md ops j i = true) : ∀ oj, ops[j]? = some oj → ∃ e ∈ oj.after, Region.binds md e = true ∧ e.on = i := by
  intro oj ho
  unfold waitsB at h
  rw [ho] at h
  simp only [Array.any_eq_true', Bool.and_eq_true, beq_iff_eq] at h
  obtain ⟨e, he, hb, hn⟩ := h
  exact ⟨e, he, hb, hn⟩
theorem wpAnyJ_take {i : Nat} {oi : Oper} {v : Value} {fuel : Nat} {listed : Array Bool} {a : Act} {w : World} (hi : ops[i]? = some oi)
    (hs : Region.noSelect ops = true) (hf : Region.free md ops listed i = true) (hr : (Region.ready md ops listed).contains i = true)
    (hij : (j != i && waitsB md ops j i && !(listed.getD j true)) = true)
    (hQ : ∀ c a w, Q (.panic c) (a.put oi.dst v) w → Q (.panic c) a w) (hy : YieldsIf P ops S oi v a) (hS : S w)
    (h : wpAnyJ P md ops Q S j fuel (listed.setIfInBounds i true) (a.put oi.dst v) w) : wpAnyJ P md ops Q S j (fuel + 1) listed a w := by
  simp only [Bool.and_eq_true, bne_iff_ne, ne_eq, Bool.not_eq_true'] at hij
  exact wpAnyJ_first hi (Region.noSelect_spec hs) hQ hij.1.1 (waitsB_spec hij.1.2) fuel listed a w (Region.free_spec hi hf) (by simpa using hr) hy hij.2 hS h
/-- Just one may come up. -/
theorem wpAnyJ_one {i : Nat} {o : Oper} {fuel : Nat} {listed : Array Bool} {a : Act} {w : World} (hr : Region.ready md ops listed = [i]) (ho : ops[i]? = some o)
    (h : ∀ K' : Act → World → Prop, Shut (∀ a w, ((listed.setIfInBounds i true).getD j true = false → S w) → wpAnyJ P md ops Q S j fuel (listed.setIfInBounds i true) a w → K' a w) → if Region.wanted o (yielded ops a.tmps) = true then Oper.wp P o a w K' Q else K' (a.put o.dst undef) w) :
    wpAnyJ P md ops Q S j (fuel + 1) listed a w :=
  ⟨fun h0 => absurd (hr ▸ h0) (by simp), fun k hk => by
    rw [hr] at hk
    obtain rfl := List.mem_singleton.1 hk
    exact wpOp_step ho (fun K' hK => h K' (fun a w hS hW => hK a w ⟨hS, hW⟩))⟩
theorem wpAnyJ_done {listed : Array Bool} {a : Act} {w : World} (hr : Region.ready md ops listed = []) (h : Q .normal a w) : ∀ fuel, wpAnyJ P md ops Q S j fuel listed a w
  | 0 => ⟨hr, h⟩
  | _ + 1 => ⟨fun _ => h, by rw [hr]; simp⟩
theorem wp_region_J (j : Nat) (S : World → Prop) {id : Nat} {a : Act} {w : World} (hm : P.follows .mixedOrders = true) (hS : S w.drew)
    (h : S w.drew → wpAnyJ P .any ops Q S j ops.size (Array.replicate ops.size false) a w.drew) : (Code.region id ops true).wp P Q a w :=
  wp_region_any hm (wpAny_of_J _ _ _ _ (h hS))
end
end Go.Proofs.YtpcjnhffpkpchaaGreat
namespace Go.Proofs.YtpcjnhffpkpchaaGreat
set_option linter.unusedVariables false
open Go.RowKit
theorem up_fr {a b G : Nat} {w v : World} (h : ∀ k, G + 1 ≤ k → k < b → v.heap[k]? = w.heap[k]?) (ha : G + 1 ≤ a) : FrS (Fresh a b) w v := fun q hq => World.cell?_of_block (h _ (Nat.le_trans ha hq.1) hq.2)
theorem up_sub {a b a' b' : Nat} (h1 : a' ≤ a) (h2 : b ≤ b') : ∀ g, Fresh a b g → Fresh a' b' g := fun _ q => ⟨Nat.le_trans h1 q.1, Nat.lt_of_lt_of_le q.2 h2⟩
theorem own_bel {w w' : World} {base : Nat} {e : TypeId} {size : Nat} {v : Value} {n : Nat} {xs : List Value} (h : w.ownsRow base e size v n xs) (hb : Below w.heap.size w w') : w'.ownsRow base e size v n xs :=
  h.kept (row := none) ⟨hb.os, hb.tape, hb.output, hb.size, fun k hk _ => hb.block k hk⟩ (by cases v.ownBlock <;> simp)
theorem mk_cells (w : World) (L : List Value) (t : TypeId) (j : Nat) (u : Value) (h : L[j]? = some u) : (w.alloc (.cells L.toArray t)).cell? ((⟨w.heap.size, 0, none⟩ : Addr).add j) = some u := by
  have e : (⟨w.heap.size, 0, none⟩ : Addr).add j = ⟨w.heap.size, j, none⟩ := by unfold Addr.add; split <;> simp_all
  rw [e]
  have q := heap_alloc_last w (.cells L.toArray t)
  unfold World.cell?
  simp only [q]
  simpa using h
theorem fl_info : (Tryz.prog.info? 64).map (·.size) = some 8 := by kernel_rfl
theorem two_al (w2 : World) (X Y : Obj) : ((w2.alloc X).alloc Y).heap[w2.heap.size]? = some X ∧ ((w2.alloc X).alloc Y).heap[w2.heap.size + 1]? = some Y := by
  have q := heap_alloc_last (w2.alloc X) Y
  rw [show (w2.alloc X).heap.size = w2.heap.size + 1 by simp] at q
  exact ⟨(Below.heap_alloc _ _ _ (by simp)).trans (heap_alloc_last _ _), q⟩
set_option maxRecDepth 20000 in
set_option maxHeartbeats 8000000 in
theorem Flat_of (f : FlR) (x1 x2 : Option Addr) (p1 p2 : Nat) (w : World) {S : Nat → Prop} (hS : ∀ b, S b → b < w.heap.size) (ha : FlQ S w f x1 x2) :
    Calls Tryz.prog 22 #[.agg #[.string f.nm, .int .i64 f.wh, .int .i64 f.ce, .int .i64 f.ba, .int .i64 f.rg, .int .i64 f.sl, .slice x1 f.os.length p1, .slice x2 f.ls.length p2]] w fun e w' => (∃ y0 c0 y2 c2, e = .returned (.agg #[.string f.nm, .int .i64 f.wh, .int .i64 f.ce, .int .i64 f.ba, .int .i64 f.rg, .int .i64 f.sl, .slice y0 f.os.length c0, .slice y2 f.ls.length c2]) ∧ FlQ (Fresh w.heap.size w'.heap.size) w' f y0 y2) ∧ Below w.heap.size w w' := by
  have Q0 : Hid (∀ W, Below w.heap.size w W → Calls Tryz.prog 49 #[.slice x1 f.os.length p1] W fun e w' => (∃ y c, e = .returned (.slice y f.os.length c) ∧ RwF 10 (Is opC) (Fresh W.heap.size w'.heap.size) w' y f.os) ∧ Below W.heap.size W w') := fun W hb => CloneO x1 f.os p1 W (fun b h => Nat.lt_of_lt_of_le (hS b h) hb.size) (ha.1.fr (fun q hq => hb.cell (hS _ hq)))
  have Q2 : Hid (∀ W, Below w.heap.size w W → Calls Tryz.prog 50 #[.slice x2 f.ls.length p2] W fun e w' => (∃ y c, e = .returned (.slice y f.ls.length c) ∧ RwF 3 (Is lpC) (Fresh W.heap.size w'.heap.size) w' y f.ls) ∧ Below W.heap.size W w') := fun W hb => CloneL x2 f.ls p2 W (fun b h => Nat.lt_of_lt_of_le (hS b h) hb.size) (ha.2.fr (fun q hq => hb.cell (hS _ hq)))
  clear ha hS
  go_enter Tryz.func22, Tryz.ntmps22
  go_upto_region 1 with fail
  obtain ⟨AW, eW⟩ : ∃ AW, AW = (w.alloc (.cells #[.string f.nm, .int .i64 f.wh, .int .i64 f.ce, .int .i64 f.ba, .int .i64 f.rg, .int .i64 f.sl, .slice x1 f.os.length p1, .slice x2 f.ls.length p2] 64 (0, 0))).alloc (.cells #[.string ⟨#[]⟩, .int .i64 0, .int .i64 0, .int .i64 0, .int .i64 0, .int .i64 0, .slice none 0 0, .slice none 0 0] 64 (0, 0)) := ⟨_, rfl⟩
  have AX : Hid (AW.heap[w.heap.size]? = some (.cells #[.string f.nm, .int .i64 f.wh, .int .i64 f.ce, .int .i64 f.ba, .int .i64 f.rg, .int .i64 f.sl, .slice x1 f.os.length p1, .slice x2 f.ls.length p2] 64 (0, 0))) := by rw [eW]; exact (two_al w _ _).1
  have AY : Hid (AW.heap[w.heap.size + 1]? = some (.cells #[.string ⟨#[]⟩, .int .i64 0, .int .i64 0, .int .i64 0, .int .i64 0, .int .i64 0, .slice none 0 0, .slice none 0 0] 64 (0, 0))) := by rw [eW]; exact (two_al w _ _).2
  have AB : Hid (Below w.heap.size w AW) := by rw [eW]; exact ((Below.refl _ _).alloc (Nat.le_refl _) _).alloc (by simp) _
  have AS : AW.heap.size = w.heap.size + 2 := by rw [eW]; simp
  rw [← eW]
  clear eW
  generalize hG : w.heap.size = G at AX AY AB AS Q0 Q2 ⊢
  have HG : Hid (w.heap.size = G) := hG
  clear hG
  go_cut [] (fun wx => ∃ y0 c0 y2 c2, wx.heap[G]? = some (.cells #[.string f.nm, .int .i64 f.wh, .int .i64 f.ce, .int .i64 f.ba, .int .i64 f.rg, .int .i64 f.sl, (.slice y0 f.os.length c0), (.slice y2 f.ls.length c2)] 64 (0, 0)) ∧ RwF 10 (Is opC) (Fresh (G + 2) wx.heap.size) wx y0 f.os ∧ RwF 3 (Is lpC) (Fresh (G + 2) wx.heap.size) wx y2 f.ls ∧ Below G w wx ∧ G + 2 ≤ wx.heap.size ∧ wx.heap[G + 1]? = some (.cells #[.string ⟨#[]⟩, .int .i64 0, .int .i64 0, .int .i64 0, .int .i64 0, .int .i64 0, .slice none 0 0, .slice none 0 0] 64 (0, 0)))
  case first =>
    refine wp_region_J 7 (fun W => W.heap[G]? = some (.cells #[.string f.nm, .int .i64 f.wh, .int .i64 f.ce, .int .i64 f.ba, .int .i64 f.rg, .int .i64 f.sl, .slice x1 f.os.length p1, .slice x2 f.ls.length p2] 64 (0, 0))) (by kernel_rfl) AX.out (fun hHeld => ?_)
    refine wpAnyJ_take (i := 0) (v := .pointer (some ⟨G, 6, none⟩)) rfl (by kernel_rfl) (by kernel_rfl) (by kernel_rfl) (by kernel_rfl) (fun _ _ _ h => h) (Or.inl ⟨by rfl, fun W hW => ?_⟩) hHeld ?_
    · go_simp
    simp only [Act.put, List.setIfInBounds_toArray]
    refine wpAnyJ_take (i := 1) (v := .slice x1 f.os.length p1) rfl (by kernel_rfl) (by kernel_rfl) (by kernel_rfl) (by kernel_rfl) (fun _ _ _ h => h) (Or.inl ⟨by rfl, fun W hW => ?_⟩) hHeld ?_
    · have cc : W.cell? ⟨G, 6, none⟩ = some (.slice x1 f.os.length p1) := by simp [World.cell?, show W.heap[G]? = _ from hW]
      go_simp
    simp only [Act.put]
    refine wpAnyJ_take (i := 3) (v := .pointer (some ⟨G, 7, none⟩)) rfl (by kernel_rfl) (by kernel_rfl) (by kernel_rfl) (by kernel_rfl) (fun _ _ _ h => h) (Or.inl ⟨by rfl, fun W hW => ?_⟩) hHeld ?_
    · go_simp
    simp only [Act.put]
    refine wpAnyJ_take (i := 4) (v := .slice x2 f.ls.length p2) rfl (by kernel_rfl) (by kernel_rfl) (by kernel_rfl) (by kernel_rfl) (fun _ _ _ h => h) (Or.inl ⟨by rfl, fun W hW => ?_⟩) hHeld ?_
    · have cc : W.cell? ⟨G, 7, none⟩ = some (.slice x2 f.ls.length p2) := by simp [World.cell?, show W.heap[G]? = _ from hW]
      go_simp
    simp only [Act.put]
    refine wpAnyJ_one (i := 2) (by kernel_rfl) rfl (fun K hK => ?_)
    go_simp
    refine (Q0.out _ AB.out.drew).mono ?_
    rintro r w0 ⟨⟨y0, c0, rfl, hk0⟩, hb0⟩
    have X0 : w0.heap[G]? = some (.cells #[.string f.nm, .int .i64 f.wh, .int .i64 f.ce, .int .i64 f.ba, .int .i64 f.rg, .int .i64 f.sl, .slice x1 f.os.length p1, .slice x2 f.ls.length p2] 64 (0, 0)) := (hb0.block _ (by show G < AW.heap.size; omega)).trans AX.out
    have B0 : Below G w w0 := (AB.out.drew).trans (hb0.mono (by show G ≤ AW.heap.size; omega))
    have s0 := hb0.size
    change AW.heap.size ≤ _ at s0
    refine hK.out _ _ (fun _ => X0) ?_
    clear hK K
    refine wpAnyJ_take (i := 6) (v := .pointer (some ⟨G, 6, none⟩)) rfl (by kernel_rfl) (by kernel_rfl) (by kernel_rfl) (by kernel_rfl) (fun _ _ _ h => h) (Or.inl ⟨by rfl, fun W hW => ?_⟩) X0 ?_
    · go_simp
    simp only [Act.put]
    refine wpAnyJ_one (i := 5) (by kernel_rfl) rfl (fun K hK => ?_)
    go_simp
    refine (Q2.out _ B0).mono ?_
    rintro r w2 ⟨⟨y2, c2, rfl, hk2⟩, hb2⟩
    have X2 : w2.heap[G]? = some (.cells #[.string f.nm, .int .i64 f.wh, .int .i64 f.ce, .int .i64 f.ba, .int .i64 f.rg, .int .i64 f.sl, .slice x1 f.os.length p1, .slice x2 f.ls.length p2] 64 (0, 0)) := (hb2.block _ (by omega)).trans X0
    have B2 : Below G w w2 := (B0).trans (hb2.mono (by omega))
    have s2 := hb2.size
    refine hK.out _ _ (fun _ => X2) ?_
    clear hK K
    have k0 : w2.cell? ⟨G, 6, none⟩ = some (.slice x1 f.os.length p1) := by simp [World.cell?, X2]
    have f0 : w2.frozen? ⟨G, 6, none⟩ = false := by simp [World.frozen?, X2]
    refine wpAnyJ_one (i := 7) (by kernel_rfl) rfl (fun K hK => ?_)
    go_simp
    refine hK.out _ _ (fun h => nomatch (show true = false from h)) ?_
    clear hK K
    have Z0 : (w2.setCell ⟨G, 6, none⟩ (.slice y0 f.os.length c0)).heap[G]? = some (.cells #[.string f.nm, .int .i64 f.wh, .int .i64 f.ce, .int .i64 f.ba, .int .i64 f.rg, .int .i64 f.sl, (.slice y0 f.os.length c0), .slice x2 f.ls.length p2] 64 (0, 0)) := by simp [World.setCell, Array.getElem?_modify, X2]
    obtain ⟨v0, ev0⟩ : ∃ v, v = w2.setCell ⟨G, 6, none⟩ (.slice y0 f.os.length c0) := ⟨_, rfl⟩
    rw [← ev0] at Z0 ⊢
    have D0 : Below G w v0 := by rw [ev0]; exact B2.setCell (Nat.le_refl _) _
    have T0 : v0.heap.size = w2.heap.size := by rw [ev0]; simp
    have U0 : ∀ k, G + 1 ≤ k → v0.heap[k]? = w2.heap[k]? := fun k hk => by rw [ev0]; exact Below.heap_setCell _ _ _ _ (by show k ≠ G; omega)
    clear ev0
    have k2 : v0.cell? ⟨G, 7, none⟩ = some (.slice x2 f.ls.length p2) := by simp [World.cell?, Z0]
    have f2 : v0.frozen? ⟨G, 7, none⟩ = false := by simp [World.frozen?, Z0]
    refine wpAnyJ_one (i := 8) (by kernel_rfl) rfl (fun K hK => ?_)
    go_simp
    refine hK.out _ _ (fun h => nomatch (show true = false from h)) ?_
    clear hK K
    refine wpAnyJ_one (i := 9) (by kernel_rfl) rfl (fun K hK => ?_)
    go_simp
    refine hK.out _ _ (fun h => nomatch (show true = false from h)) ?_
    clear hK K
    have Z2 : (v0.setCell ⟨G, 7, none⟩ (.slice y2 f.ls.length c2)).heap[G]? = some (.cells #[.string f.nm, .int .i64 f.wh, .int .i64 f.ce, .int .i64 f.ba, .int .i64 f.rg, .int .i64 f.sl, (.slice y0 f.os.length c0), (.slice y2 f.ls.length c2)] 64 (0, 0)) := by simp [World.setCell, Array.getElem?_modify, Z0]
    obtain ⟨v2, ev2⟩ : ∃ v, v = v0.setCell ⟨G, 7, none⟩ (.slice y2 f.ls.length c2) := ⟨_, rfl⟩
    rw [← ev2] at Z2 ⊢
    have D2 : Below G w v2 := by rw [ev2]; exact D0.setCell (Nat.le_refl _) _
    have T2 : v2.heap.size = v0.heap.size := by rw [ev2]; simp
    have U2 : ∀ k, G + 1 ≤ k → v2.heap[k]? = v0.heap[k]? := fun k hk => by rw [ev2]; exact Below.heap_setCell _ _ _ _ (by show k ≠ G; omega)
    clear ev2
    refine wpAnyJ_done (by kernel_rfl) ?_ _
    refine Met.intro ?_
    go_step
    go_meet
    case rel =>
      have EE0 : ∀ k, G + 1 ≤ k → k < w0.heap.size → v2.heap[k]? = w0.heap[k]? := fun k p q => ((U2 k p).trans (U0 k p)).trans (hb2.block k (by omega))
      have EE2 : ∀ k, G + 1 ≤ k → k < w2.heap.size → v2.heap[k]? = w2.heap[k]? := fun k p q => (U2 k p).trans (U0 k p)
      exact ⟨y0, c0, y2, c2, Z2, (hk0.fr (up_fr EE0 (by show G + 1 ≤ AW.heap.size; omega))).sub (up_sub (by show G + 2 ≤ AW.heap.size; omega) (by omega)), (hk2.fr (up_fr EE2 (by omega))).sub (up_sub (by omega) (by omega)), D2, by omega, (U2 (G + 1) (by omega)).trans ((U0 (G + 1) (by omega)).trans ((hb2.block (G + 1) (by omega)).trans ((hb0.block (G + 1) (by show G + 1 < AW.heap.size; omega)).trans AY.out)))⟩
  case rest =>
    obtain ⟨y0, c0, y2, c2, bx, k0, k2, hb, hs, by1⟩ := hcut
    clear AX AY AB AS Q0 Q2
    have K0 : Hid (RwF 10 (Is opC) (Fresh (G + 2) wc.heap.size) wc y0 f.os) := k0
    have K2 : Hid (RwF 3 (Is lpC) (Fresh (G + 2) wc.heap.size) wc y2 f.ls) := k2
    have BB : Hid (Below G w wc) := hb
    have b0 : wc.cell? ⟨G, 0, none⟩ = some (.string f.nm) := by simp [World.cell?, bx]
    have b1 : wc.cell? ⟨G, 1, none⟩ = some (.int .i64 f.wh) := by simp [World.cell?, bx]
    have b2 : wc.cell? ⟨G, 2, none⟩ = some (.int .i64 f.ce) := by simp [World.cell?, bx]
    have b3 : wc.cell? ⟨G, 3, none⟩ = some (.int .i64 f.ba) := by simp [World.cell?, bx]
    have b4 : wc.cell? ⟨G, 4, none⟩ = some (.int .i64 f.rg) := by simp [World.cell?, bx]
    have b5 : wc.cell? ⟨G, 5, none⟩ = some (.int .i64 f.sl) := by simp [World.cell?, bx]
    have b6 : wc.cell? ⟨G, 6, none⟩ = some (.slice y0 f.os.length c0) := by simp [World.cell?, bx]
    have b7 : wc.cell? ⟨G, 7, none⟩ = some (.slice y2 f.ls.length c2) := by simp [World.cell?, bx]
    have BY : Hid (wc.heap[G + 1]? = some (.cells #[.string ⟨#[]⟩, .int .i64 0, .int .i64 0, .int .i64 0, .int .i64 0, .int .i64 0, .slice none 0 0, .slice none 0 0] 64 (0, 0))) := by1
    clear bx hb k0 k2 by1
    go_wp2_with (refine wpList_store_row rfl 64 _ _ rfl (G + 1) _ rfl rfl _ _ BY.out fl_info rfl (by kernel_rfl) ?_)
    obtain ⟨W3, e3⟩ : ∃ W3, W3 = wc.setRow (G + 1) #[.string f.nm, .int .i64 f.wh, .int .i64 f.ce, .int .i64 f.ba, .int .i64 f.rg, .int .i64 f.sl, .slice y0 f.os.length c0, .slice y2 f.ls.length c2] := ⟨_, rfl⟩
    rw [← e3]
    have hz : W3.heap[G + 1]? = some (.cells #[.string f.nm, .int .i64 f.wh, .int .i64 f.ce, .int .i64 f.ba, .int .i64 f.rg, .int .i64 f.sl, .slice y0 f.os.length c0, .slice y2 f.ls.length c2] 64 (0, 0)) := by rw [e3]; exact setRow_heap _ _ _ _ _ _ BY.out
    have sz : W3.heap.size = wc.heap.size := by rw [e3]; simp [World.setRow]
    have hw : ∀ k, G + 2 ≤ k → W3.heap[k]? = wc.heap[k]? := fun k hk => by rw [e3]; exact setRow_other _ _ _ _ (by omega)
    have hl : Below G w W3 := BB.out.trans ⟨by rw [e3]; rfl, by rw [e3]; rfl, by rw [e3]; rfl, by omega, fun k hk => by rw [e3]; exact setRow_other _ _ _ _ (by omega)⟩
    have fr : FrS (Fresh (G + 2) wc.heap.size) wc W3 := fun q hq => World.cell?_of_block (hw _ hq.1)
    refine bodyPost_ret (v := .agg #[.string f.nm, .int .i64 f.wh, .int .i64 f.ce, .int .i64 f.ba, .int .i64 f.rg, .int .i64 f.sl, .slice y0 f.os.length c0, .slice y2 f.ls.length c2]) (results_cell_row Tryz.results22 _ _ (G + 1) _ _ (0, 0) _ (by simp [Act.put]) hz Tryz.underlying64 rfl fl_info) rfl ?_
    have eg : w.heap.size = G := HG.out
    exact ⟨⟨y0, c0, y2, c2, rfl, (K0.out.fr fr).sub (up_sub (by omega) (by omega)), (K2.out.fr fr).sub (up_sub (by omega) (by omega))⟩, by rw [eg]; exact hl⟩
end Go.Proofs.YtpcjnhffpkpchaaGreat
namespace Go.Proofs.YtpcjnhffpkpchaaGreat
set_option linter.unusedVariables false
open Go.RowKit
theorem infoFi : ∃ i z, Tryz.prog.info? 64 = some i ∧ i.zero = some z ∧ i.size = 8 ∧ i.bytes = 104 ∧ z.cells.size = 8 := by
  obtain ⟨i, hi, hz⟩ := Option.map_eq_some_iff.1 (show (Tryz.prog.info? 64).map (fun i => (i.zero.map (·.cells.size), i.size, i.bytes)) = some (some 8, 8, 104) by kernel_rfl)
  simp only [Prod.mk.injEq] at hz
  obtain ⟨z, h1, h2⟩ := Option.map_eq_some_iff.1 hz.1
  exact ⟨i, z, hi, h1, hz.2.1, hz.2.2, h2⟩
set_option maxRecDepth 20000 in
set_option maxHeartbeats 8000000 in
theorem Flats_of (x : Option Addr) (l : List FlR) (c : Nat) (w : World) {S : Nat → Prop} (hS : ∀ b, S b → b < w.heap.size) (ha : RwF 8 (FlP S w) S w x l) :
    Calls Tryz.prog 11 #[.slice x l.length c] w fun e w' => (∃ y c', e = .returned (.slice y l.length c') ∧ RwF 8 (FlP (Fresh w.heap.size w'.heap.size) w') (Fresh w.heap.size w'.heap.size) w' y l) ∧ Below w.heap.size w w' := by
  have HA : Hid (RwF 8 (FlP S w) S w x l) := ha
  have HS : Hid (∀ b, S b → b < w.heap.size) := hS
  clear ha hS
  go_enter Tryz.func11, Tryz.ntmps11
  go_wp2_with fail
  go_loopw [3, 8] (fun out i wr => ∃ k : Nat, k ≤ l.length ∧ i = .int .i64 k ∧ Below w.heap.size w wr ∧ MkI 64 8 FlP w.heap.size l k out wr) (fun _ i _ => l.length - (intOf i).toNat)
  case atStart => exact ⟨0, Nat.zero_le _, rfl, Below.refl _ _, MkI.zero _ _ _ _ _ _⟩
  case round =>
    obtain ⟨k, hk, rfl, hbw, hcp⟩ := hrel
    have HW : Hid (Below w.heap.size w wr) := hbw
    by_cases hlt : k < l.length
    · obtain ⟨vss, ehs, hvn, how, hev⟩ := hcp
      have EHS : Hid _ := ehs
      have HVN : Hid _ := hvn
      have OW : Hid (wr.ownsRow w.heap.size 64 8 u3 k vss.flatten) := how
      have EV' : Hid _ := hev
      clear ehs how hev hvn
      obtain ⟨a, rfl⟩ := HA.out.some (by omega)
      obtain ⟨s, sv, se, _, ⟨sx, sc, sy, sd, rfl, sq⟩, sk⟩ := (HA.out.frK keptF (w' := wr) (fun q hq => hbw.cell (HS.out _ hq))).el k hlt
      have e0 := sk.c0
      have e1 := sk.cp 0 _ rfl
      have e2 := sk.cp 1 _ rfl
      have e3 := sk.cp 2 _ rfl
      have e4 := sk.cp 3 _ rfl
      have e5 := sk.cp 4 _ rfl
      have e6 := sk.cp 5 _ rfl
      have e7 := sk.cp 6 _ rfl
      have ES : Hid (l[k]? = some s) := se
      have QS : Hid (FlQ S wr s sx sy) := sq
      have LT : Hid _ := hlt
      have kl : (k : Int) < l.length := by omega
      clear hbw se hlt sk sq
      have za := block_lt_of_cell e0
      have GA : Hid (∀ X : Obj, Below wr.heap.size wr (wr.alloc X)) := fun X => (Below.refl _ _).alloc (Nat.le_refl _) _
      go_wp2_with fail
      refine (Flat_of s sx sy sc sd _ (fun b h => Nat.lt_of_lt_of_le (Nat.lt_of_lt_of_le (HS.out b h) HW.out.size) (GA.out _).size) (QS.out.fr (fun q hq => (GA.out _).cell (Nat.lt_of_lt_of_le (HS.out _ hq) HW.out.size)))).mono ?_
      rintro r w5 ⟨⟨y0, c0, y2, c2, rfl, fq⟩, hb5⟩
      have B5 : Hid (Below wr.heap.size wr w5) := (GA.out _).trans (hb5.mono (GA.out _).size)
      have F5 : Hid (FlQ (Fresh wr.heap.size w5.heap.size) w5 s y0 y2) := fq.sub (up_sub (GA.out _).size (Nat.le_refl _))
      clear hb5 fq e0 e1 e2 e3 e4 e5 e6 e7 za GA
      have ew : wrap64 ((k : Int) + 1) = (k : Int) + 1 := by have := HA.out.1; have := LT.out; unfold wrap64; omega
      have OW5 : Hid (∀ X : Obj, (w5.alloc X).ownsRow w.heap.size 64 8 u3 k vss.flatten) := fun X => (own_bel OW.out B5.out).alloc X
      have NW : Hid (∀ j u, (flC s (.slice y0 s.os.length c0) (.slice y2 s.ls.length c2))[j]? = some u → (w5.alloc (.cells (flC s (.slice y0 s.os.length c0) (.slice y2 s.ls.length c2)).toArray 64)).cell? ((⟨w5.heap.size, 0, none⟩ : Addr).add j) = some u) := fun j u h => mk_cells w5 _ _ j u h
      have BZ : Hid (∀ X : Obj, w.heap.size ≤ (w5.alloc X).heap.size) := fun X => by have := HW.out.size; have := B5.out.size; simp; omega
      have LE : Hid (k + 1 ≤ 549755813888) := by have := HA.out.1; have := LT.out; show k + 1 ≤ _; omega
      have I : Hid _ := infoFi
      go_wp2_with (at_builtin; obtain ⟨i, z, hi, hz, hs', hy, hzc⟩ := I.out; refine wpList_append_own_at _ rfl _ _ 23 rfl w.heap.size 64 i z 8 104 Tryz.underlying23 hi hz hs' hy hzc (by decide) u3 k vss.flatten rfl (OW5.out _) ⟨w5.heap.size, 0, none⟩ 1 1 (flC s (.slice y0 s.os.length c0) (.slice y2 s.ls.length c2)) rfl rfl NW.out (by intro u hu; simp at hu; rcases hu with h | h | h | h | h | h | h | h <;> subst h <;> rfl) (by have := LE.out; simp [maxLen]; omega) (by have := LE.out; omega) (BZ.out _) ?_; intro v' w7 q1 q2 q3 q4; have Q1 : Hid _ := q1; have Q2 : Hid _ := q2; have Q4 : Hid _ := q4; clear q1 q2 q3 q4 hi hz hs' hy hzc)
      rw [ew]
      have b6x : ∀ X : Obj, Below w5.heap.size w5 (w5.alloc X) := fun X => (Below.refl _ _).alloc (Nat.le_refl _) _
      have s0 := HW.out.size
      refine ⟨⟨k + 1, Nat.succ_le_of_lt LT.out, rfl, ?_, MkI.step keptF EHS.out HVN.out EV'.out OW.out.lt _ _ ES.out rfl s0 (B5.out.trans ((b6x _).mono B5.out.size)) ⟨y0, c0, y2, c2, rfl, (F5.out.fr (fun q hq => (b6x _).cell hq.2)).sub (up_sub (Nat.le_refl _) (b6x _).size)⟩ Q2.out Q1.out Q4.out⟩, msr LT.out⟩
      exact (HW.out.trans ((B5.out.trans ((b6x _).mono B5.out.size)).mono s0)).grown Q2.out (Nat.le_trans s0 (Nat.le_trans B5.out.size (b6x _).size)) (fun g e => (OW.out.lt g e).1)
    · have kl : ¬ (k : Int) < l.length := by omega
      have ek : k = l.length := by omega
      subst ek
      obtain ⟨y, c2, rfl, hy⟩ := hcp.done keptF HA.out.1
      have HY : Hid _ := hy
      clear hy hcp hbw hlt
      go_wp2
      go_ret
      exact ⟨⟨y, ⟨c2, rfl⟩, HY.out⟩, HW.out⟩
end Go.Proofs.YtpcjnhffpkpchaaGreat
