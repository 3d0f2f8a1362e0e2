/- image: the numbers and texts that a reader reads are of their kinds; no statement of the seat is proved here. -/
import Derived.Test.YtkickdmomompjaaGreatKoB5
namespace Go.Proofs.YtkickdmomompjaaGreat
set_option linter.unusedVariables false
open Go.RowKit
/-- Without a fault a reading goes on, and not beyond the end. -/
def Md (n : Nat) (f : RS → RS) : Prop := ∀ s, (f s).y = 0 → s.p ≤ (f s).p ∧ (s.p ≤ n → (f s).p ≤ n)
theorem Md.comp {n : Nat} {f g : RS → RS} (hf : Md n f) (hg : Md n g) (kg : Kd g) : Md n (fun s => g (f s)) := fun s h => by
  have q := (kg _ h).1
  obtain ⟨h1, h2⟩ := hg _ h
  obtain ⟨h3, h4⟩ := hf _ q
  exact ⟨Nat.le_trans h3 h1, fun z => h2 (h4 z)⟩
theorem Md.id (n : Nat) : Md n (fun s => s) := fun s h => ⟨Nat.le_refl _, fun z => z⟩
/-- It takes eight bytes at least. -/
def Ad (n : Nat) (f : RS → RS) : Prop := ∀ s, (f s).y = 0 → s.p + 8 ≤ (f s).p ∧ (s.p ≤ n → (f s).p ≤ n)
theorem Ad.md {n : Nat} {f : RS → RS} (h : Ad n f) : Md n f := fun s q => ⟨Nat.le_trans (Nat.le_add_right _ 8) (h s q).1, (h s q).2⟩
theorem Ad.comp {n : Nat} {f g : RS → RS} (hf : Md n f) (hg : Ad n g) (kg : Kd g) : Ad n (fun s => g (f s)) := fun s h => by
  have q := (kg _ h).1
  obtain ⟨h1, h2⟩ := hg _ h
  obtain ⟨h3, h4⟩ := hf _ q
  exact ⟨show s.p + 8 ≤ (g (f s)).p by omega, fun z => h2 (h4 z)⟩
theorem Ad.comp' {n : Nat} {f g : RS → RS} (hf : Ad n f) (hg : Md n g) (kg : Kd g) : Ad n (fun s => g (f s)) := fun s h => by
  have q := (kg _ h).1
  obtain ⟨h1, h2⟩ := hg _ h
  obtain ⟨h3, h4⟩ := hf _ q
  exact ⟨show s.p + 8 ≤ (g (f s)).p by omega, fun z => h2 (h4 z)⟩
section
variable (bs : List Nat)
theorem mdB : Md bs.length (fun s => (rdB bs s).2) := fun s h => by
  change (rdB bs s).2.y = 0 at h
  show s.p ≤ (rdB bs s).2.p ∧ (s.p ≤ bs.length → (rdB bs s).2.p ≤ bs.length)
  unfold rdB at *
  by_cases q : s.y = 0 ∧ s.p < bs.length
  · rw [if_pos q] at *; exact ⟨Nat.le_succ _, fun _ => q.2⟩
  · rw [if_neg q] at h; exact absurd h (RS.no_y _ _)
theorem adN : Ad bs.length (fun s => (rdN bs s).2) := fun s h => by
  change (rdN bs s).2.y = 0 at h
  show s.p + 8 ≤ (rdN bs s).2.p ∧ (s.p ≤ bs.length → (rdN bs s).2.p ≤ bs.length)
  unfold rdN at *
  by_cases q : s.y = 0 ∧ s.p + 8 ≤ bs.length
  · rw [if_pos q] at *; exact ⟨Nat.le_refl _, fun _ => q.2⟩
  · rw [if_neg q] at h; exact absurd h (RS.no_y _ _)
theorem mdF : Md bs.length (fun s => (rdF bs s).2) := fun s h => by
  change (rdF bs s).2.y = 0 at h
  show s.p ≤ (rdF bs s).2.p ∧ (s.p ≤ bs.length → (rdF bs s).2.p ≤ bs.length)
  unfold rdF at *
  dsimp only at *
  by_cases q : 1 < (rdB bs s).1
  · rw [if_pos q] at h; exact absurd h (show ¬ (203 : Int) = 0 by decide)
  · rw [if_neg q] at *; exact mdB bs s h
theorem rdC_at {s : RS} (h : (rdC bs s).2.y = 0) : (rdC bs s).2 = (rdN bs s).2 := by
  unfold rdC at *
  dsimp only at *
  by_cases q0 : (rdN bs s).2.y = 0
  · rw [if_pos q0] at *
    by_cases q1 : (rdN bs s).1 < 0
    · rw [if_pos q1] at h; exact absurd h (show ¬ (4 : Int) = 0 by decide)
    · rw [if_neg q1] at *
      by_cases q2 : (bs.length : Int) - (s.p + 8) < (rdN bs s).1
      · rw [if_pos q2] at h; exact absurd h (show ¬ (2 : Int) = 0 by decide)
      · rw [if_neg q2]
  · rw [if_neg q0] at *
theorem adC : Ad bs.length (fun s => (rdC bs s).2) := fun s h => by
  change (rdC bs s).2.y = 0 at h
  show s.p + 8 ≤ (rdC bs s).2.p ∧ (s.p ≤ bs.length → (rdC bs s).2.p ≤ bs.length)
  rw [rdC_at bs h] at *
  exact adN bs s h
theorem adT : Ad bs.length (fun s => (rdT bs s).2) := fun s h => by
  change (rdT bs s).2.y = 0 at h
  show s.p + 8 ≤ (rdT bs s).2.p ∧ (s.p ≤ bs.length → (rdT bs s).2.p ≤ bs.length)
  unfold rdT at *
  by_cases q : (rdC bs s).2.y = 0
  · rw [if_pos q] at *
    obtain ⟨k0, k1⟩ := rdC_ok q
    have := (adC bs s q).1
    exact ⟨Nat.le_trans this (Nat.le_add_right _ _), fun _ => k1⟩
  · rw [if_neg q] at h; exact absurd h q
theorem adV : Ad bs.length (fun s => (rdV bs s).2) := Ad.comp ((mdB bs).comp (adN bs).md (kdN bs)) (adT bs) (kdT bs)
theorem mdNs : ∀ k, Md bs.length (rdNs bs k)
  | 0 => Md.id _
  | k + 1 => (mdNs k).comp (adN bs).md (kdN bs)
theorem adLp : Ad bs.length (fun s => (rdLp bs s).2) := Ad.comp ((adN bs).md.comp (adN bs).md (kdN bs)) (adN bs) (kdN bs)
theorem adOp : Ad bs.length (fun s => (rdOp bs s).2) := Ad.comp (mdNs bs 7) (adV bs) (kdV bs)
theorem mdKS {α : Type} {rd : RS → α × RS} (h : Md bs.length (fun s => (rd s).2)) (kd : Kd (fun s => (rd s).2)) : ∀ k, Md bs.length (rdKS rd k)
  | 0 => Md.id _
  | k + 1 => fun s hs => by
    change (if s.y = 0 then rdKS rd k (rd s).2 else s).y = 0 at hs
    show s.p ≤ (if s.y = 0 then rdKS rd k (rd s).2 else s).p ∧ (s.p ≤ bs.length → (if s.y = 0 then rdKS rd k (rd s).2 else s).p ≤ bs.length)
    by_cases q : s.y = 0
    · rw [if_pos q] at hs ⊢
      exact (h.comp (mdKS h kd k) (kdKS kd k)) s hs
    · rw [if_neg q] at hs; exact absurd hs q
theorem adL {α : Type} {rd : RS → α × RS} (h : Md bs.length (fun s => (rd s).2)) (kd : Kd (fun s => (rd s).2)) : Ad bs.length (fun s => (rdL rd bs s).2) := fun s hs => by
  have q := (kdKS kd (rdC bs s).1.toNat (rdC bs s).2 hs).1
  obtain ⟨h1, h2⟩ := mdKS bs h kd (rdC bs s).1.toNat (rdC bs s).2 hs
  obtain ⟨h3, h4⟩ := adC bs s q
  exact ⟨Nat.le_trans h3 h1, fun z => h2 (h4 z)⟩
theorem adCe : Ad bs.length (fun s => (rdCe bs s).2) := Ad.comp ((((((mdB bs).comp (mdF bs) (kdF bs)).comp (mdNs bs 3) (kdNs bs 3)).comp (adV bs).md (kdV bs)).comp (mdF bs) (kdF bs)).comp (mdB bs) (kdB bs)) (adT bs) (kdT bs)
theorem adFl : Ad bs.length (fun s => (rdFl bs s).2) := Ad.comp (((adT bs).md.comp (mdNs bs 5) (kdNs bs 5)).comp (adL bs (adOp bs).md (kdOp bs)).md (kdL bs (kdOp bs))) (adL bs (adLp bs).md (kdLp bs)) (kdL bs (kdLp bs))
theorem adJb : Ad bs.length (fun s => (rdJb bs s).2) := Ad.comp ((((adT bs).md.comp (mdNs bs 3) (kdNs bs 3)).comp (adL bs (adN bs).md (kdN bs)).md (kdL bs (kdN bs))).comp (adL bs (adN bs).md (kdN bs)).md (kdL bs (kdN bs))) (adN bs) (kdN bs)
theorem rdKL_cnt {α : Type} {rd : RS → α × RS} (h : Ad bs.length (fun s => (rd s).2)) : ∀ (k : Nat) (s : RS), s.p ≤ bs.length → 8 * (rdKL rd k s).length ≤ (bs.length - s.p) + 8
  | 0, _, _ => Nat.zero_le _
  | k + 1, s, hp => by
    show 8 * (if s.y = 0 then (rd s).1 :: rdKL rd k (rd s).2 else []).length ≤ _
    by_cases q : s.y = 0
    · rw [if_pos q, List.length_cons]
      by_cases z : (rd s).2.y = 0
      · obtain ⟨h1, h2⟩ := h s z
        change s.p + 8 ≤ (rd s).2.p at h1
        have h3 := rdKL_cnt h k (rd s).2 (h2 hp)
        have h4 : (rd s).2.p ≤ bs.length := h2 hp
        omega
      · rw [rdKL_bad rd k z, List.length_nil]; omega
    · rw [if_neg q, List.length_nil]; omega
theorem rdL_few {α : Type} {rd : RS → α × RS} (h : Ad bs.length (fun s => (rd s).2)) (s : RS) (hn : bs.length ≤ 4194304) (hp : s.p ≤ bs.length) : (rdL rd bs s).1.length ≤ 1048576 := by
  have q := rdKL_cnt bs h (rdC bs s).1.toNat (rdC bs s).2 (rdC_le hp)
  show (rdKL rd (rdC bs s).1.toNat (rdC bs s).2).length ≤ _
  omega
end
end Go.Proofs.YtkickdmomompjaaGreat
namespace Go.Proofs.YtkickdmomompjaaGreat
set_option linter.unusedVariables false
open Go.RowKit
theorem wfW (z : Int) : wfI .i64 (wrap64 z) := by
  show (decide ((-9223372036854775808 : Int) ≤ wrap64 z) && decide (wrap64 z ≤ (9223372036854775807 : Int))) = true
  simp only [Bool.and_eq_true, decide_eq_true_eq]
  unfold wrap64
  omega
theorem u64_mod' (z : Int) : IntKind.u64.wrap z = z % 18446744073709551616 := rfl
theorem wfU (z : Int) : wfI .u64 (IntKind.u64.wrap z) := by
  rw [u64_mod']
  show (decide ((0 : Int) ≤ z % 18446744073709551616) && decide (z % 18446744073709551616 ≤ (18446744073709551615 : Int))) = true
  simp only [Bool.and_eq_true, decide_eq_true_eq]
  omega
section
variable (bs : List Nat)
theorem okN (s : RS) : wfI .i64 (rdN bs s).1 := by
  unfold rdN
  split
  · exact wfW _
  · exact (show wrap64 0 = (0 : Int) by unfold wrap64; omega) ▸ wfW 0
theorem okB (h8 : ∀ v ∈ bs, v < 256) (s : RS) : wfI .u8 ((rdB bs s).1 : Int) := wf8 _ (by omega) (by have := rdB_lt s h8; omega)
theorem okB' (h8 : ∀ v ∈ bs, v < 256) (s : RS) : wfI .i64 ((rdB bs s).1 : Int) := by
  have := rdB_lt s h8
  have e : wrap64 ((rdB bs s).1 : Int) = ((rdB bs s).1 : Int) := by unfold wrap64; omega
  exact e ▸ wfW _
theorem okT (s : RS) : (rdT bs s).1.size ≤ bs.length := by
  unfold rdT
  split
  · show (strOfNums _).size ≤ _
    rw [strOfNums_size, List.length_map, List.length_take, List.length_drop]
    omega
  · exact Nat.zero_le _
theorem rdKL_mem {α : Type} {rd : RS → α × RS} {x : α} : ∀ (k : Nat) (s : RS), x ∈ rdKL rd k s → ∃ t, x = (rd t).1
  | 0, _, h => by cases h
  | k + 1, s, h => by
    change x ∈ (if s.y = 0 then (rd s).1 :: rdKL rd k (rd s).2 else []) at h
    by_cases q : s.y = 0
    · rw [if_pos q] at h
      rcases List.mem_cons.1 h with z | z
      · exact ⟨s, z⟩
      · exact rdKL_mem k _ z
    · rw [if_neg q] at h; cases h
theorem rdL_mem {α : Type} {rd : RS → α × RS} {x : α} {s : RS} (h : x ∈ (rdL rd bs s).1) : ∃ t, x = (rd t).1 := rdKL_mem _ _ h
theorem rdKL_memP {α : Type} {rd : RS → α × RS} (hd : Md bs.length (fun s => (rd s).2)) {x : α} : ∀ (k : Nat) (s : RS), s.p ≤ bs.length → x ∈ rdKL rd k s → ∃ t, t.p ≤ bs.length ∧ x = (rd t).1
  | 0, _, _, h => by cases h
  | k + 1, s, hp, h => by
    change x ∈ (if s.y = 0 then (rd s).1 :: rdKL rd k (rd s).2 else []) at h
    by_cases q : s.y = 0
    · rw [if_pos q] at h
      rcases List.mem_cons.1 h with z | z
      · exact ⟨s, hp, z⟩
      · by_cases y : (rd s).2.y = 0
        · exact rdKL_memP hd k _ ((hd s y).2 hp) z
        · rw [rdKL_bad rd k y] at z; cases z
    · rw [if_neg q] at h; cases h
theorem rdL_memP {α : Type} {rd : RS → α × RS} (hd : Md bs.length (fun s => (rd s).2)) {x : α} {s : RS} (hp : s.p ≤ bs.length) (h : x ∈ (rdL rd bs s).1) : ∃ t, t.p ≤ bs.length ∧ x = (rd t).1 := rdKL_memP bs hd _ _ (rdC_le hp) h
theorem rdL_few' {α : Type} {rd : RS → α × RS} (h : Ad bs.length (fun s => (rd s).2)) (s : RS) (hn : bs.length ≤ 4194304) (hp : s.y = 0 → s.p ≤ bs.length) : (rdL rd bs s).1.length ≤ 1048576 := by
  by_cases q : (rdC bs s).2.y = 0
  · exact rdL_few bs h s hn (hp (kdC bs s q).1)
  · show (rdKL rd (rdC bs s).1.toNat (rdC bs s).2).length ≤ _
    rw [rdKL_bad rd _ q]; exact Nat.zero_le _
theorem okLp (s : RS) : LpOk (rdLp bs s).1 := ⟨okN bs _, okN bs _, okN bs _⟩
theorem okOp (h8 : ∀ v ∈ bs, v < 256) (hT : ∀ s, shT (rdT bs s).1) (s : RS) : OpOk (rdOp bs s).1 := ⟨okN bs _, okN bs _, okN bs _, okN bs _, okN bs _, okN bs _, okN bs _, okB bs h8 _, wfU _, hT _⟩
theorem okCe (h8 : ∀ v ∈ bs, v < 256) (hT : ∀ s, shT (rdT bs s).1) (s : RS) : CeOk (rdCe bs s).1 := ⟨okB bs h8 _, okN bs _, okN bs _, okN bs _, okB bs h8 _, wfU _, hT _, okB' bs h8 _, hT _⟩
/-- Where a list stands: only its bounds are asked here. -/
theorem okFl (h8 : ∀ v ∈ bs, v < 256) (hT : ∀ s, shT (rdT bs s).1) (s : RS) (h1 : (rdFl bs s).1.os.length ≤ 1048576) (h2 : (rdFl bs s).1.ls.length ≤ 1048576) : FlOk (rdFl bs s).1 :=
  ⟨hT _, okN bs _, okN bs _, okN bs _, okN bs _, okN bs _, fun o ho => by obtain ⟨t, rfl⟩ := rdL_mem bs ho; exact okOp bs h8 hT t, fun o ho => by obtain ⟨t, rfl⟩ := rdL_mem bs ho; exact okLp bs t, h1, h2⟩
theorem okJb (hT : ∀ s, shT (rdT bs s).1) (s : RS) (h1 : (rdJb bs s).1.cs.length ≤ 1048576) (h2 : (rdJb bs s).1.bs.length ≤ 1048576) : JbOk (rdJb bs s).1 :=
  ⟨hT _, okN bs _, okN bs _, okN bs _, okN bs _, fun o ho => by obtain ⟨t, rfl⟩ := rdL_mem bs ho; exact okN bs t, fun o ho => by obtain ⟨t, rfl⟩ := rdL_mem bs ho; exact okN bs t, h1, h2⟩
theorem okFl' (hn : bs.length ≤ 4194304) (h8 : ∀ v ∈ bs, v < 256) (hT : ∀ s, shT (rdT bs s).1) (s : RS) (hp : s.p ≤ bs.length) : FlOk (rdFl bs s).1 := by
  have m1 : Md bs.length (kflB bs) := (adT bs).md.comp (mdNs bs 5) (kdNs bs 5)
  have m2 : Md bs.length (kflD bs) := m1.comp (adL bs (adOp bs).md (kdOp bs)).md (kdL bs (kdOp bs))
  exact okFl bs h8 hT s (rdL_few' bs (adOp bs) _ hn (fun q => (m1 s q).2 hp)) (rdL_few' bs (adLp bs) _ hn (fun q => (m2 s q).2 hp))
theorem okJb' (hn : bs.length ≤ 4194304) (hT : ∀ s, shT (rdT bs s).1) (s : RS) (hp : s.p ≤ bs.length) : JbOk (rdJb bs s).1 := by
  have m1 : Md bs.length (kjbB bs) := (adT bs).md.comp (mdNs bs 3) (kdNs bs 3)
  have m2 : Md bs.length (kjbD bs) := m1.comp (adL bs (adN bs).md (kdN bs)).md (kdL bs (kdN bs))
  exact okJb bs hT s (rdL_few' bs (adN bs) _ hn (fun q => (m1 s q).2 hp)) (rdL_few' bs (adN bs) _ hn (fun q => (m2 s q).2 hp))
/-- What is read may be checked, wherever its texts are short enough. -/
theorem okIm (hn : bs.length ≤ 4194304) (h8 : ∀ v ∈ bs, v < 256) (hT : ∀ s, shT (rdT bs s).1) (s : RS) (hp : s.p ≤ bs.length) (hy : (rdIm bs s).2.y = 0) : ImOk (rdIm bs s).1 := by
  have m1 : Md bs.length (kimA bs) := (adT bs).md
  have m2 : Md bs.length (kimB bs) := m1.comp (adL bs (adCe bs).md (kdCe bs)).md (kdL bs (kdCe bs))
  have m3 : Md bs.length (kimD bs) := m2.comp (adL bs (adFl bs).md (kdFl bs)).md (kdL bs (kdFl bs))
  have y3 : (kimD bs s).y = 0 := (kdL bs (kdJb bs) _ hy).1
  have y2 : (kimB bs s).y = 0 := (kdL bs (kdFl bs) _ y3).1
  have y1 : (kimA bs s).y = 0 := (kdL bs (kdCe bs) _ y2).1
  have p1 := (m1 s y1).2 hp
  have p2 := (m2 s y2).2 hp
  have p3 := (m3 s y3).2 hp
  refine ⟨hT _, fun c hc => ?_, fun f hf => ?_, fun j hj => ?_, rdL_few' bs (adCe bs) _ hn (fun _ => p1), rdL_few' bs (adFl bs) _ hn (fun _ => p2), rdL_few' bs (adJb bs) _ hn (fun _ => p3)⟩
  · obtain ⟨t, rfl⟩ := rdL_mem bs hc; exact okCe bs h8 hT t
  · obtain ⟨t, tp, rfl⟩ := rdL_memP bs (adFl bs).md p2 hf; exact okFl' bs hn h8 hT t tp
  · obtain ⟨t, tp, rfl⟩ := rdL_memP bs (adJb bs).md p3 hj; exact okJb' bs hn hT t tp
end
end Go.Proofs.YtkickdmomompjaaGreat
