/- Two images compared by the statements' own sameness; no statement of the seat is proved here. -/
import Derived.Test.YtdcjngakmkgbmaaGreatKoA7
import Derived.Deep.RegionHeld3
import Derived.Test.YtdcjngakmkgbmaaGreatKoA3
import Derived.Test.YtdcjngakmkgbmaaGreatImCK
namespace Go.Proofs.YtdcjngakmkgbmaaGreat
set_option linter.unusedVariables false
set_option linter.unusedSimpArgs false
open Go.RowKit
/-- Behind an image's end there must be nothing. -/
def rdEnd (bs : List Nat) (s : RS) : RS := if s.p < bs.length then (if s.y = 0 then ⟨s.p, s.p, 3⟩ else s) else s
theorem RdAt.mk' {g : Nat} {x : Option Addr} {n c p : Nat} {a y : Int} {V : World} (h : V.heap[g]? = some (.cells #[.slice x n c, .int .i64 p, .int .i64 a, .int .i64 y] 88 (0, 0))) : RdAt g x n c p a y V := h
theorem results_cell_row_2 {P : Program} {fn : Func} {p u v : Tmp} {ty : TypeId} (h : fn.results = #[.cell p ty, .tmp u, .tmp v]) (tmps : Array Value) (w : World) (g : Nat) (t : TypeId) (cs : Array Value) (fr : Nat × Nat) (d : TypeDesc)
    (hp : tmps.getD p undef = .pointer (some ⟨g, 0, none⟩)) (hg : w.heap[g]? = some (.cells cs t fr))
    (hu : P.underlying ty = some d) (hd : (match d with | .struct _ | .array _ _ => true | _ => false) = true) (hi : (P.info? ty).map (·.size) = some cs.size) :
    (results fn tmps).run P w = .ok (.tuple #[.agg cs, tmps.getD u undef, tmps.getD v undef]) w := by
  have hp' : tmps[p]?.getD undef = .pointer (some ⟨g, 0, none⟩) := by simpa using hp
  simp [results, h, hp', asAddr, run_loadVar_row w g t ty cs fr d hg hu hd hi, Sem.run_bind, Result.andThen]
theorem row_below_d {w V : World} {G : Nat} (h : Below w.heap.size w V) (hG : w.heap.size ≤ G) (vs : Array Value) : Below w.heap.size w (V.setRow G vs) :=
  h.trans ⟨rfl, rfl, rfl, by simp [World.setRow], fun k hk => setRow_other _ _ _ _ (by omega)⟩
theorem gb_below {w V V' : World} {g : Nat} (h : w.heap.size ≤ g) (hb : Below w.heap.size w V) (hg : V.grownBy V' (some g)) : Below w.heap.size w V' :=
  hb.trans ⟨hg.os, hg.tape, hg.output, hg.size, fun k hk => hg.block k (Nat.lt_of_lt_of_le hk hb.size) (fun e => by cases e; omega)⟩
end Go.Proofs.YtdcjngakmkgbmaaGreat
namespace Go.Proofs.YtdcjngakmkgbmaaGreat
set_option linter.unusedVariables false
open Go.RowKit
/-- Without a fault nothing of a fault is told. -/
def Kd (f : RS → RS) : Prop := ∀ s, (f s).y = 0 → s.y = 0 ∧ (f s).a = s.a
theorem Kd.comp {f g : RS → RS} (hf : Kd f) (hg : Kd g) : Kd (fun s => g (f s)) := fun s h => by
  obtain ⟨h1, h2⟩ := hg _ h
  obtain ⟨h3, h4⟩ := hf _ h1
  exact ⟨h3, h2.trans h4⟩
theorem Kd.id : Kd (fun s => s) := fun s h => ⟨h, rfl⟩
section
variable (bs : List Nat)
theorem kdB : Kd (fun s => (rdB bs s).2) := fun s h => by
  change (rdB bs s).2.y = 0 at h
  show s.y = 0 ∧ (rdB bs s).2.a = s.a
  unfold rdB at *
  by_cases q : s.y = 0 ∧ s.p < bs.length
  · rw [if_pos q] at *; exact ⟨q.1, rfl⟩
  · rw [if_neg q] at h; exact absurd h (RS.no_y _ _)
theorem kdN : Kd (fun s => (rdN bs s).2) := fun s h => by
  change (rdN bs s).2.y = 0 at h
  show s.y = 0 ∧ (rdN bs s).2.a = s.a
  unfold rdN at *
  by_cases q : s.y = 0 ∧ s.p + 8 ≤ bs.length
  · rw [if_pos q] at *; exact ⟨q.1, rfl⟩
  · rw [if_neg q] at h; exact absurd h (RS.no_y _ _)
theorem kdF : Kd (fun s => (rdF bs s).2) := fun s h => by
  change (rdF bs s).2.y = 0 at h
  show s.y = 0 ∧ (rdF bs s).2.a = s.a
  unfold rdF at *
  dsimp only at *
  by_cases q : 1 < (rdB bs s).1
  · rw [if_pos q] at h; exact absurd h (show ¬ (203 : Int) = 0 by decide)
  · rw [if_neg q] at *; exact kdB bs s h
theorem kdC : Kd (fun s => (rdC bs s).2) := fun s h => by
  change (rdC bs s).2.y = 0 at h
  show s.y = 0 ∧ (rdC bs s).2.a = s.a
  unfold rdC at *
  dsimp only at *
  by_cases q0 : (rdN bs s).2.y = 0
  · rw [if_pos q0] at *
    by_cases q1 : (rdN bs s).1 < 0
    · rw [if_pos q1] at h; exact absurd h (show ¬ (4 : Int) = 0 by decide)
    · rw [if_neg q1] at *
      by_cases q2 : (bs.length : Int) - (s.p + 8) < (rdN bs s).1
      · rw [if_pos q2] at h; exact absurd h (show ¬ (2 : Int) = 0 by decide)
      · rw [if_neg q2] at *; exact kdN bs s h
  · rw [if_neg q0] at *; exact kdN bs s h
theorem kdT : Kd (fun s => (rdT bs s).2) := fun s h => by
  change (rdT bs s).2.y = 0 at h
  show s.y = 0 ∧ (rdT bs s).2.a = s.a
  unfold rdT at *
  by_cases q : (rdC bs s).2.y = 0
  · rw [if_pos q] at *; exact kdC bs s q
  · rw [if_neg q] at *; exact kdC bs s h
theorem kdV : Kd (fun s => (rdV bs s).2) := ((kdB bs).comp (kdN bs)).comp (kdT bs)
theorem kdNs : ∀ k, Kd (rdNs bs k)
  | 0 => Kd.id
  | k + 1 => (kdNs k).comp (kdN bs)
theorem kdLp : Kd (fun s => (rdLp bs s).2) := ((kdN bs).comp (kdN bs)).comp (kdN bs)
theorem kdOp : Kd (fun s => (rdOp bs s).2) := (kdNs bs 7).comp (kdV bs)
theorem kdKS {α : Type} {rd : RS → α × RS} (h : Kd (fun s => (rd s).2)) : ∀ k, Kd (rdKS rd k)
  | 0 => Kd.id
  | k + 1 => fun s hs => by
    change (if s.y = 0 then rdKS rd k (rd s).2 else s).y = 0 at hs
    show s.y = 0 ∧ (if s.y = 0 then rdKS rd k (rd s).2 else s).a = s.a
    by_cases q : s.y = 0
    · rw [if_pos q] at hs ⊢
      exact (h.comp (kdKS h k)) s hs
    · rw [if_neg q] at hs; exact absurd hs q
theorem kdL {α : Type} {rd : RS → α × RS} (h : Kd (fun s => (rd s).2)) : Kd (fun s => (rdL rd bs s).2) := fun s hs => by
  obtain ⟨h1, h2⟩ := kdKS h (rdC bs s).1.toNat (rdC bs s).2 hs
  obtain ⟨h3, h4⟩ := kdC bs s h1
  exact ⟨h3, h2.trans h4⟩
theorem kdCe : Kd (fun s => (rdCe bs s).2) := ((((((kdB bs).comp (kdF bs)).comp (kdNs bs 3)).comp (kdV bs)).comp (kdF bs)).comp (kdB bs)).comp (kdT bs)
theorem kdFl : Kd (fun s => (rdFl bs s).2) := (((kdT bs).comp (kdNs bs 5)).comp (kdL bs (kdOp bs))).comp (kdL bs (kdLp bs))
theorem kdJb : Kd (fun s => (rdJb bs s).2) := ((((kdT bs).comp (kdNs bs 3)).comp (kdL bs (kdN bs))).comp (kdL bs (kdN bs))).comp (kdN bs)
theorem kdIm : Kd (fun s => (rdIm bs s).2) := (((kdT bs).comp (kdL bs (kdCe bs))).comp (kdL bs (kdFl bs))).comp (kdL bs (kdJb bs))
theorem kdEnd : Kd (rdEnd bs) := fun s h => by
  unfold rdEnd at *
  by_cases q : s.p < bs.length
  · rw [if_pos q] at *
    by_cases z : s.y = 0
    · rw [if_pos z] at h; exact absurd h (show ¬ (3 : Int) = 0 by decide)
    · rw [if_neg z] at h; exact absurd h z
  · rw [if_neg q] at *; exact ⟨h, rfl⟩
end
end Go.Proofs.YtdcjngakmkgbmaaGreat
namespace Go.Proofs.YtdcjngakmkgbmaaGreat
set_option linter.unusedVariables false
open Go.RowKit
/-- Without a fault a reading goes on, and not beyond the end. -/
def Md (n : Nat) (f : RS → RS) : Prop := ∀ s, (f s).y = 0 → s.p ≤ (f s).p ∧ (s.p ≤ n → (f s).p ≤ n)
theorem Md.comp {n : Nat} {f g : RS → RS} (hf : Md n f) (hg : Md n g) (kg : Kd g) : Md n (fun s => g (f s)) := fun s h => by
  have q := (kg _ h).1
  obtain ⟨h1, h2⟩ := hg _ h
  obtain ⟨h3, h4⟩ := hf _ q
  exact ⟨Nat.le_trans h3 h1, fun z => h2 (h4 z)⟩
theorem Md.id (n : Nat) : Md n (fun s => s) := fun s h => ⟨Nat.le_refl _, fun z => z⟩
/-- It takes eight bytes at least. -/
def Ad (n : Nat) (f : RS → RS) : Prop := ∀ s, (f s).y = 0 → s.p + 8 ≤ (f s).p ∧ (s.p ≤ n → (f s).p ≤ n)
theorem Ad.md {n : Nat} {f : RS → RS} (h : Ad n f) : Md n f := fun s q => ⟨Nat.le_trans (Nat.le_add_right _ 8) (h s q).1, (h s q).2⟩
theorem Ad.comp {n : Nat} {f g : RS → RS} (hf : Md n f) (hg : Ad n g) (kg : Kd g) : Ad n (fun s => g (f s)) := fun s h => by
  have q := (kg _ h).1
  obtain ⟨h1, h2⟩ := hg _ h
  obtain ⟨h3, h4⟩ := hf _ q
  exact ⟨show s.p + 8 ≤ (g (f s)).p by omega, fun z => h2 (h4 z)⟩
section
variable (bs : List Nat)
theorem mdB : Md bs.length (fun s => (rdB bs s).2) := fun s h => by
  change (rdB bs s).2.y = 0 at h
  show s.p ≤ (rdB bs s).2.p ∧ (s.p ≤ bs.length → (rdB bs s).2.p ≤ bs.length)
  unfold rdB at *
  by_cases q : s.y = 0 ∧ s.p < bs.length
  · rw [if_pos q] at *; exact ⟨Nat.le_succ _, fun _ => q.2⟩
  · rw [if_neg q] at h; exact absurd h (RS.no_y _ _)
theorem adN : Ad bs.length (fun s => (rdN bs s).2) := fun s h => by
  change (rdN bs s).2.y = 0 at h
  show s.p + 8 ≤ (rdN bs s).2.p ∧ (s.p ≤ bs.length → (rdN bs s).2.p ≤ bs.length)
  unfold rdN at *
  by_cases q : s.y = 0 ∧ s.p + 8 ≤ bs.length
  · rw [if_pos q] at *; exact ⟨Nat.le_refl _, fun _ => q.2⟩
  · rw [if_neg q] at h; exact absurd h (RS.no_y _ _)
theorem mdF : Md bs.length (fun s => (rdF bs s).2) := fun s h => by
  change (rdF bs s).2.y = 0 at h
  show s.p ≤ (rdF bs s).2.p ∧ (s.p ≤ bs.length → (rdF bs s).2.p ≤ bs.length)
  unfold rdF at *
  dsimp only at *
  by_cases q : 1 < (rdB bs s).1
  · rw [if_pos q] at h; exact absurd h (show ¬ (203 : Int) = 0 by decide)
  · rw [if_neg q] at *; exact mdB bs s h
theorem rdC_at {s : RS} (h : (rdC bs s).2.y = 0) : (rdC bs s).2 = (rdN bs s).2 := by
  unfold rdC at *
  dsimp only at *
  by_cases q0 : (rdN bs s).2.y = 0
  · rw [if_pos q0] at *
    by_cases q1 : (rdN bs s).1 < 0
    · rw [if_pos q1] at h; exact absurd h (show ¬ (4 : Int) = 0 by decide)
    · rw [if_neg q1] at *
      by_cases q2 : (bs.length : Int) - (s.p + 8) < (rdN bs s).1
      · rw [if_pos q2] at h; exact absurd h (show ¬ (2 : Int) = 0 by decide)
      · rw [if_neg q2]
  · rw [if_neg q0] at *
theorem adC : Ad bs.length (fun s => (rdC bs s).2) := fun s h => by
  change (rdC bs s).2.y = 0 at h
  show s.p + 8 ≤ (rdC bs s).2.p ∧ (s.p ≤ bs.length → (rdC bs s).2.p ≤ bs.length)
  rw [rdC_at bs h] at *
  exact adN bs s h
theorem adT : Ad bs.length (fun s => (rdT bs s).2) := fun s h => by
  change (rdT bs s).2.y = 0 at h
  show s.p + 8 ≤ (rdT bs s).2.p ∧ (s.p ≤ bs.length → (rdT bs s).2.p ≤ bs.length)
  unfold rdT at *
  by_cases q : (rdC bs s).2.y = 0
  · rw [if_pos q] at *
    obtain ⟨k0, k1⟩ := rdC_ok q
    have := (adC bs s q).1
    exact ⟨Nat.le_trans this (Nat.le_add_right _ _), fun _ => k1⟩
  · rw [if_neg q] at h; exact absurd h q
theorem adV : Ad bs.length (fun s => (rdV bs s).2) := Ad.comp ((mdB bs).comp (adN bs).md (kdN bs)) (adT bs) (kdT bs)
theorem mdNs : ∀ k, Md bs.length (rdNs bs k)
  | 0 => Md.id _
  | k + 1 => (mdNs k).comp (adN bs).md (kdN bs)
theorem adLp : Ad bs.length (fun s => (rdLp bs s).2) := Ad.comp ((adN bs).md.comp (adN bs).md (kdN bs)) (adN bs) (kdN bs)
theorem adOp : Ad bs.length (fun s => (rdOp bs s).2) := Ad.comp (mdNs bs 7) (adV bs) (kdV bs)
theorem mdKS {α : Type} {rd : RS → α × RS} (h : Md bs.length (fun s => (rd s).2)) (kd : Kd (fun s => (rd s).2)) : ∀ k, Md bs.length (rdKS rd k)
  | 0 => Md.id _
  | k + 1 => fun s hs => by
    change (if s.y = 0 then rdKS rd k (rd s).2 else s).y = 0 at hs
    show s.p ≤ (if s.y = 0 then rdKS rd k (rd s).2 else s).p ∧ (s.p ≤ bs.length → (if s.y = 0 then rdKS rd k (rd s).2 else s).p ≤ bs.length)
    by_cases q : s.y = 0
    · rw [if_pos q] at hs ⊢
      exact (h.comp (mdKS h kd k) (kdKS kd k)) s hs
    · rw [if_neg q] at hs; exact absurd hs q
theorem adL {α : Type} {rd : RS → α × RS} (h : Md bs.length (fun s => (rd s).2)) (kd : Kd (fun s => (rd s).2)) : Ad bs.length (fun s => (rdL rd bs s).2) := fun s hs => by
  have q := (kdKS kd (rdC bs s).1.toNat (rdC bs s).2 hs).1
  obtain ⟨h1, h2⟩ := mdKS bs h kd (rdC bs s).1.toNat (rdC bs s).2 hs
  obtain ⟨h3, h4⟩ := adC bs s q
  exact ⟨Nat.le_trans h3 h1, fun z => h2 (h4 z)⟩
theorem adCe : Ad bs.length (fun s => (rdCe bs s).2) := Ad.comp ((((((mdB bs).comp (mdF bs) (kdF bs)).comp (mdNs bs 3) (kdNs bs 3)).comp (adV bs).md (kdV bs)).comp (mdF bs) (kdF bs)).comp (mdB bs) (kdB bs)) (adT bs) (kdT bs)
theorem adFl : Ad bs.length (fun s => (rdFl bs s).2) := Ad.comp (((adT bs).md.comp (mdNs bs 5) (kdNs bs 5)).comp (adL bs (adOp bs).md (kdOp bs)).md (kdL bs (kdOp bs))) (adL bs (adLp bs).md (kdLp bs)) (kdL bs (kdLp bs))
theorem adJb : Ad bs.length (fun s => (rdJb bs s).2) := Ad.comp ((((adT bs).md.comp (mdNs bs 3) (kdNs bs 3)).comp (adL bs (adN bs).md (kdN bs)).md (kdL bs (kdN bs))).comp (adL bs (adN bs).md (kdN bs)).md (kdL bs (kdN bs))) (adN bs) (kdN bs)
theorem rdKL_cnt {α : Type} {rd : RS → α × RS} (h : Ad bs.length (fun s => (rd s).2)) : ∀ (k : Nat) (s : RS), s.p ≤ bs.length → 8 * (rdKL rd k s).length ≤ (bs.length - s.p) + 8
  | 0, _, _ => Nat.zero_le _
  | k + 1, s, hp => by
    show 8 * (if s.y = 0 then (rd s).1 :: rdKL rd k (rd s).2 else []).length ≤ _
    by_cases q : s.y = 0
    · rw [if_pos q, List.length_cons]
      by_cases z : (rd s).2.y = 0
      · obtain ⟨h1, h2⟩ := h s z
        change s.p + 8 ≤ (rd s).2.p at h1
        have h3 := rdKL_cnt h k (rd s).2 (h2 hp)
        have h4 : (rd s).2.p ≤ bs.length := h2 hp
        omega
      · rw [rdKL_bad rd k z, List.length_nil]; omega
    · rw [if_neg q, List.length_nil]; omega
theorem rdL_few {α : Type} {rd : RS → α × RS} (h : Ad bs.length (fun s => (rd s).2)) (s : RS) (hn : bs.length ≤ 4194304) (hp : s.p ≤ bs.length) : (rdL rd bs s).1.length ≤ 1048576 := by
  have q := rdKL_cnt bs h (rdC bs s).1.toNat (rdC bs s).2 (rdC_le hp)
  show (rdKL rd (rdC bs s).1.toNat (rdC bs s).2).length ≤ _
  omega
end
end Go.Proofs.YtdcjngakmkgbmaaGreat
namespace Go.Proofs.YtdcjngakmkgbmaaGreat
set_option linter.unusedVariables false
open Go.RowKit
theorem wfW (z : Int) : wfI .i64 (wrap64 z) := by
  show (decide ((-9223372036854775808 : Int) ≤ wrap64 z) && decide (wrap64 z ≤ (9223372036854775807 : Int))) = true
  simp only [Bool.and_eq_true, decide_eq_true_eq]
  unfold wrap64
  omega
theorem u64_mod' (z : Int) : IntKind.u64.wrap z = z % 18446744073709551616 := rfl
theorem wfU (z : Int) : wfI .u64 (IntKind.u64.wrap z) := by
  rw [u64_mod']
  show (decide ((0 : Int) ≤ z % 18446744073709551616) && decide (z % 18446744073709551616 ≤ (18446744073709551615 : Int))) = true
  simp only [Bool.and_eq_true, decide_eq_true_eq]
  omega
section
variable (bs : List Nat)
theorem okN (s : RS) : wfI .i64 (rdN bs s).1 := by
  unfold rdN
  split
  · exact wfW _
  · exact (show wrap64 0 = (0 : Int) by unfold wrap64; omega) ▸ wfW 0
theorem okB (h8 : ∀ v ∈ bs, v < 256) (s : RS) : wfI .u8 ((rdB bs s).1 : Int) := wf8 _ (by omega) (by have := rdB_lt s h8; omega)
theorem okB' (h8 : ∀ v ∈ bs, v < 256) (s : RS) : wfI .i64 ((rdB bs s).1 : Int) := by
  have := rdB_lt s h8
  have e : wrap64 ((rdB bs s).1 : Int) = ((rdB bs s).1 : Int) := by unfold wrap64; omega
  exact e ▸ wfW _
theorem okT (s : RS) : (rdT bs s).1.size ≤ bs.length := by
  unfold rdT
  split
  · show (strOfNums _).size ≤ _
    rw [strOfNums_size, List.length_map, List.length_take, List.length_drop]
    omega
  · exact Nat.zero_le _
theorem rdKL_mem {α : Type} {rd : RS → α × RS} {x : α} : ∀ (k : Nat) (s : RS), x ∈ rdKL rd k s → ∃ t, x = (rd t).1
  | 0, _, h => by cases h
  | k + 1, s, h => by
    change x ∈ (if s.y = 0 then (rd s).1 :: rdKL rd k (rd s).2 else []) at h
    by_cases q : s.y = 0
    · rw [if_pos q] at h
      rcases List.mem_cons.1 h with z | z
      · exact ⟨s, z⟩
      · exact rdKL_mem k _ z
    · rw [if_neg q] at h; cases h
theorem rdL_mem {α : Type} {rd : RS → α × RS} {x : α} {s : RS} (h : x ∈ (rdL rd bs s).1) : ∃ t, x = (rd t).1 := rdKL_mem _ _ h
theorem rdKL_memP {α : Type} {rd : RS → α × RS} (hd : Md bs.length (fun s => (rd s).2)) {x : α} : ∀ (k : Nat) (s : RS), s.p ≤ bs.length → x ∈ rdKL rd k s → ∃ t, t.p ≤ bs.length ∧ x = (rd t).1
  | 0, _, _, h => by cases h
  | k + 1, s, hp, h => by
    change x ∈ (if s.y = 0 then (rd s).1 :: rdKL rd k (rd s).2 else []) at h
    by_cases q : s.y = 0
    · rw [if_pos q] at h
      rcases List.mem_cons.1 h with z | z
      · exact ⟨s, hp, z⟩
      · by_cases y : (rd s).2.y = 0
        · exact rdKL_memP hd k _ ((hd s y).2 hp) z
        · rw [rdKL_bad rd k y] at z; cases z
    · rw [if_neg q] at h; cases h
theorem rdL_memP {α : Type} {rd : RS → α × RS} (hd : Md bs.length (fun s => (rd s).2)) {x : α} {s : RS} (hp : s.p ≤ bs.length) (h : x ∈ (rdL rd bs s).1) : ∃ t, t.p ≤ bs.length ∧ x = (rd t).1 := rdKL_memP bs hd _ _ (rdC_le hp) h
theorem rdL_few' {α : Type} {rd : RS → α × RS} (h : Ad bs.length (fun s => (rd s).2)) (s : RS) (hn : bs.length ≤ 4194304) (hp : s.y = 0 → s.p ≤ bs.length) : (rdL rd bs s).1.length ≤ 1048576 := by
  by_cases q : (rdC bs s).2.y = 0
  · exact rdL_few bs h s hn (hp (kdC bs s q).1)
  · show (rdKL rd (rdC bs s).1.toNat (rdC bs s).2).length ≤ _
    rw [rdKL_bad rd _ q]; exact Nat.zero_le _
theorem okLp (s : RS) : LpOk (rdLp bs s).1 := ⟨okN bs _, okN bs _, okN bs _⟩
theorem okOp (h8 : ∀ v ∈ bs, v < 256) (hT : ∀ s, shT (rdT bs s).1) (s : RS) : OpOk (rdOp bs s).1 := ⟨okN bs _, okN bs _, okN bs _, okN bs _, okN bs _, okN bs _, okN bs _, okB bs h8 _, wfU _, hT _⟩
theorem okCe (h8 : ∀ v ∈ bs, v < 256) (hT : ∀ s, shT (rdT bs s).1) (s : RS) : CeOk (rdCe bs s).1 := ⟨okB bs h8 _, okN bs _, okN bs _, okN bs _, okB bs h8 _, wfU _, hT _, okB' bs h8 _, hT _⟩
/-- Where a list stands: only its bounds are asked here. -/
theorem okFl (h8 : ∀ v ∈ bs, v < 256) (hT : ∀ s, shT (rdT bs s).1) (s : RS) (h1 : (rdFl bs s).1.os.length ≤ 1048576) (h2 : (rdFl bs s).1.ls.length ≤ 1048576) : FlOk (rdFl bs s).1 :=
  ⟨hT _, okN bs _, okN bs _, okN bs _, okN bs _, okN bs _, fun o ho => by obtain ⟨t, rfl⟩ := rdL_mem bs ho; exact okOp bs h8 hT t, fun o ho => by obtain ⟨t, rfl⟩ := rdL_mem bs ho; exact okLp bs t, h1, h2⟩
theorem okJb (hT : ∀ s, shT (rdT bs s).1) (s : RS) (h1 : (rdJb bs s).1.cs.length ≤ 1048576) (h2 : (rdJb bs s).1.bs.length ≤ 1048576) : JbOk (rdJb bs s).1 :=
  ⟨hT _, okN bs _, okN bs _, okN bs _, okN bs _, fun o ho => by obtain ⟨t, rfl⟩ := rdL_mem bs ho; exact okN bs t, fun o ho => by obtain ⟨t, rfl⟩ := rdL_mem bs ho; exact okN bs t, h1, h2⟩
theorem okFl' (hn : bs.length ≤ 4194304) (h8 : ∀ v ∈ bs, v < 256) (hT : ∀ s, shT (rdT bs s).1) (s : RS) (hp : s.p ≤ bs.length) : FlOk (rdFl bs s).1 := by
  have m1 : Md bs.length (kflB bs) := (adT bs).md.comp (mdNs bs 5) (kdNs bs 5)
  have m2 : Md bs.length (kflD bs) := m1.comp (adL bs (adOp bs).md (kdOp bs)).md (kdL bs (kdOp bs))
  exact okFl bs h8 hT s (rdL_few' bs (adOp bs) _ hn (fun q => (m1 s q).2 hp)) (rdL_few' bs (adLp bs) _ hn (fun q => (m2 s q).2 hp))
theorem okJb' (hn : bs.length ≤ 4194304) (hT : ∀ s, shT (rdT bs s).1) (s : RS) (hp : s.p ≤ bs.length) : JbOk (rdJb bs s).1 := by
  have m1 : Md bs.length (kjbB bs) := (adT bs).md.comp (mdNs bs 3) (kdNs bs 3)
  have m2 : Md bs.length (kjbD bs) := m1.comp (adL bs (adN bs).md (kdN bs)).md (kdL bs (kdN bs))
  exact okJb bs hT s (rdL_few' bs (adN bs) _ hn (fun q => (m1 s q).2 hp)) (rdL_few' bs (adN bs) _ hn (fun q => (m2 s q).2 hp))
/-- What is read may be checked, wherever its texts are short enough. -/
theorem okIm (hn : bs.length ≤ 4194304) (h8 : ∀ v ∈ bs, v < 256) (hT : ∀ s, shT (rdT bs s).1) (s : RS) (hp : s.p ≤ bs.length) (hy : (rdIm bs s).2.y = 0) : ImOk (rdIm bs s).1 := by
  have m1 : Md bs.length (kimA bs) := (adT bs).md
  have m2 : Md bs.length (kimB bs) := m1.comp (adL bs (adCe bs).md (kdCe bs)).md (kdL bs (kdCe bs))
  have m3 : Md bs.length (kimD bs) := m2.comp (adL bs (adFl bs).md (kdFl bs)).md (kdL bs (kdFl bs))
  have y3 : (kimD bs s).y = 0 := (kdL bs (kdJb bs) _ hy).1
  have y2 : (kimB bs s).y = 0 := (kdL bs (kdFl bs) _ y3).1
  have y1 : (kimA bs s).y = 0 := (kdL bs (kdCe bs) _ y2).1
  have p1 := (m1 s y1).2 hp
  have p2 := (m2 s y2).2 hp
  have p3 := (m3 s y3).2 hp
  refine ⟨hT _, fun c hc => ?_, fun f hf => ?_, fun j hj => ?_, rdL_few' bs (adCe bs) _ hn (fun _ => p1), rdL_few' bs (adFl bs) _ hn (fun _ => p2), rdL_few' bs (adJb bs) _ hn (fun _ => p3)⟩
  · obtain ⟨t, rfl⟩ := rdL_mem bs hc; exact okCe bs h8 hT t
  · obtain ⟨t, tp, rfl⟩ := rdL_memP bs (adFl bs).md p2 hf; exact okFl' bs hn h8 hT t tp
  · obtain ⟨t, tp, rfl⟩ := rdL_memP bs (adJb bs).md p3 hj; exact okJb' bs hn hT t tp
end
end Go.Proofs.YtdcjngakmkgbmaaGreat
namespace Go.Proofs.YtdcjngakmkgbmaaGreat
set_option linter.unusedVariables false
open Go.RowKit
theorem two_at (w2 : World) (X Y : Obj) : ((w2.alloc X).alloc Y).heap[w2.heap.size]? = some X ∧ ((w2.alloc X).alloc Y).heap[w2.heap.size + 1]? = some Y := by
  have q := heap_alloc_last (w2.alloc X) Y
  rw [show (w2.alloc X).heap.size = w2.heap.size + 1 by simp] at q
  exact ⟨(Below.heap_alloc _ _ _ (by simp)).trans (heap_alloc_last _ _), q⟩
set_option maxHeartbeats 4000000 in
theorem SameFlat_of (f f' : FlR) (x1 x2 y1 y2 : Option Addr) (c1 c2 d1 d2 : Nat) (w : World) {S : Nat → Prop} (hS : ∀ b, S b → b < w.heap.size) (ha : FlQ S w f x1 x2) (hb : FlQ S w f' y1 y2) :
    Calls Tryz.prog 35 #[.agg #[.string f.nm, .int .i64 f.wh, .int .i64 f.ce, .int .i64 f.ba, .int .i64 f.rg, .int .i64 f.sl, .slice x1 f.os.length c1, .slice x2 f.ls.length c2], .agg #[.string f'.nm, .int .i64 f'.wh, .int .i64 f'.ce, .int .i64 f'.ba, .int .i64 f'.rg, .int .i64 f'.sl, .slice y1 f'.os.length d1, .slice y2 f'.ls.length d2]] w fun e w' => e = .returned (.bool (decide (f = f'))) ∧ Below w.heap.size w w' := by
  have Q1 : Hid (∀ W, Below w.heap.size w W → Calls Tryz.prog 75 #[.slice x1 f.os.length c1, .slice y1 f'.os.length d1] W fun e w' => e = .returned (.bool (decide (f.os = f'.os))) ∧ Below W.heap.size W w') := fun W hb' => EqualO _ _ _ _ _ _ _ (fun b h => Nat.lt_of_lt_of_le (hS b h) hb'.size) (ha.1.fr (fun q hq => hb'.cell (hS _ hq))) (hb.1.fr (fun q hq => hb'.cell (hS _ hq)))
  have Q2 : Hid (∀ W, Below w.heap.size w W → Calls Tryz.prog 76 #[.slice x2 f.ls.length c2, .slice y2 f'.ls.length d2] W fun e w' => e = .returned (.bool (decide (f.ls = f'.ls))) ∧ Below W.heap.size W w') := fun W hb' => EqualL _ _ _ _ _ _ _ (fun b h => Nat.lt_of_lt_of_le (hS b h) hb'.size) (ha.2.fr (fun q hq => hb'.cell (hS _ hq))) (hb.2.fr (fun q hq => hb'.cell (hS _ hq)))
  clear ha hb hS
  have GR : Hid (∀ X Y : Obj, Below w.heap.size w ((w.alloc X).alloc Y)) := fun X Y => ((Below.refl _ _).alloc (Nat.le_refl _) _).alloc (by simp) _
  obtain ⟨nm, wh, ce, ba, rg, sl, os, ls⟩ := f
  obtain ⟨nm', wh', ce', ba', rg', sl', os', ls'⟩ := f'
  simp only at Q1 Q2 ⊢
  by_cases E0 : nm = nm'
  case neg =>
    have q1 : (nm.toList == nm'.toList) = false := by apply Bool.eq_false_iff.2; intro q; exact E0 (ba_ext (by simpa using q))
    have q2 : (nm.toList != nm'.toList) = true := by simp [bne, q1]
    have ed : decide (((⟨nm, wh, ce, ba, rg, sl, os, ls⟩ : FlR)) = ⟨nm', wh', ce', ba', rg', sl', os', ls'⟩) = false := decide_eq_false fun e => E0 (by injection e)
    clear E0
    rw [ed]
    clear ed
    go_enter Tryz.func35, Tryz.ntmps35
    go_wp2
    go_ret
    exact ⟨rfl, GR.out _ _⟩
  subst E0
  by_cases E1 : wh = wh'
  case neg =>
    have q1 : (wh == wh') = false := by simp [E1]
    have q2 : (wh != wh') = true := by simp [bne, q1]
    have ed : decide (((⟨nm, wh, ce, ba, rg, sl, os, ls⟩ : FlR)) = ⟨nm, wh', ce', ba', rg', sl', os', ls'⟩) = false := decide_eq_false fun e => E1 (by injection e)
    clear E1
    rw [ed]
    clear ed
    go_enter Tryz.func35, Tryz.ntmps35
    go_wp2
    go_ret
    exact ⟨rfl, GR.out _ _⟩
  subst E1
  by_cases E2 : ce = ce'
  case neg =>
    have q1 : (ce == ce') = false := by simp [E2]
    have q2 : (ce != ce') = true := by simp [bne, q1]
    have ed : decide (((⟨nm, wh, ce, ba, rg, sl, os, ls⟩ : FlR)) = ⟨nm, wh, ce', ba', rg', sl', os', ls'⟩) = false := decide_eq_false fun e => E2 (by injection e)
    clear E2
    rw [ed]
    clear ed
    go_enter Tryz.func35, Tryz.ntmps35
    go_wp2
    go_ret
    exact ⟨rfl, GR.out _ _⟩
  subst E2
  by_cases E3 : ba = ba'
  case neg =>
    have q1 : (ba == ba') = false := by simp [E3]
    have q2 : (ba != ba') = true := by simp [bne, q1]
    have ed : decide (((⟨nm, wh, ce, ba, rg, sl, os, ls⟩ : FlR)) = ⟨nm, wh, ce, ba', rg', sl', os', ls'⟩) = false := decide_eq_false fun e => E3 (by injection e)
    clear E3
    rw [ed]
    clear ed
    go_enter Tryz.func35, Tryz.ntmps35
    go_wp2
    go_ret
    exact ⟨rfl, GR.out _ _⟩
  subst E3
  by_cases E4 : rg = rg'
  case neg =>
    have q1 : (rg == rg') = false := by simp [E4]
    have q2 : (rg != rg') = true := by simp [bne, q1]
    have ed : decide (((⟨nm, wh, ce, ba, rg, sl, os, ls⟩ : FlR)) = ⟨nm, wh, ce, ba, rg', sl', os', ls'⟩) = false := decide_eq_false fun e => E4 (by injection e)
    clear E4
    rw [ed]
    clear ed
    go_enter Tryz.func35, Tryz.ntmps35
    go_wp2
    go_ret
    exact ⟨rfl, GR.out _ _⟩
  subst E4
  by_cases E5 : sl = sl'
  case neg =>
    have q1 : (sl == sl') = false := by simp [E5]
    have q2 : (sl != sl') = true := by simp [bne, q1]
    have ed : decide (((⟨nm, wh, ce, ba, rg, sl, os, ls⟩ : FlR)) = ⟨nm, wh, ce, ba, rg, sl', os', ls'⟩) = false := decide_eq_false fun e => E5 (by injection e)
    clear E5
    rw [ed]
    clear ed
    go_enter Tryz.func35, Tryz.ntmps35
    go_wp2
    go_ret
    exact ⟨rfl, GR.out _ _⟩
  subst E5
  have ed : decide ((⟨nm, wh, ce, ba, rg, sl, os, ls⟩ : FlR) = ⟨nm, wh, ce, ba, rg, sl, os', ls'⟩) = (decide (os = os') && decide (ls = ls')) := by
    rw [← Bool.decide_and]
    apply decide_eq_decide.2
    constructor
    · intro e; injection e; exact ⟨by assumption, by assumption⟩
    · rintro ⟨h1, h2⟩
      rw [h1, h2]
  rw [ed]
  clear ed
  generalize decide (os = os') = r1 at *
  generalize decide (ls = ls') = r2 at *
  go_enter Tryz.func35, Tryz.ntmps35
  go_wp2_with fail
  refine (Q1.out _ (GR.out _ _)).mono ?_
  rintro e w1 ⟨rfl, hb⟩
  have X1 := (hb.block w.heap.size (by simp; omega)).trans (two_at w _ _).1
  have Y1 := (hb.block (w.heap.size + 1) (by simp)).trans (two_at w _ _).2
  have k1 : w1.cell? ⟨w.heap.size, 7, none⟩ = some (.slice x2 ls.length c2) := by simp [World.cell?, X1]
  have k2 : w1.cell? ⟨w.heap.size + 1, 7, none⟩ = some (.slice y2 ls'.length d2) := by simp [World.cell?, Y1]
  have B1 : Hid (Below w.heap.size w w1) := (GR.out _ _).trans (hb.mono (GR.out _ _).size)
  clear hb X1 Y1
  cases r1
  · go_wp2
    go_ret
    exact ⟨rfl, B1.out⟩
  · go_wp2_with fail
    refine (Q2.out _ B1.out).mono ?_
    rintro e w2 ⟨rfl, hb⟩
    have B2 : Hid (Below w.heap.size w w2) := B1.out.trans (hb.mono B1.out.size)
    clear hb
    cases r2
    all_goals
      go_wp2
      go_ret
      exact ⟨rfl, B2.out⟩
set_option maxHeartbeats 4000000 in
theorem SameJob_of (f f' : JbR) (x1 x2 y1 y2 : Option Addr) (c1 c2 d1 d2 : Nat) (w : World) {S : Nat → Prop} (hS : ∀ b, S b → b < w.heap.size) (ha : JbQ S w f x1 x2) (hb : JbQ S w f' y1 y2) :
    Calls Tryz.prog 17 #[.agg #[.string f.nm, .int .i64 f.iv, .int .i64 f.sg, .int .i64 f.pr, .slice x1 f.cs.length c1, .slice x2 f.bs.length c2, .int .i64 f.bd], .agg #[.string f'.nm, .int .i64 f'.iv, .int .i64 f'.sg, .int .i64 f'.pr, .slice y1 f'.cs.length d1, .slice y2 f'.bs.length d2, .int .i64 f'.bd]] w fun e w' => e = .returned (.bool (decide (f = f'))) ∧ Below w.heap.size w w' := by
  have Q1 : Hid (∀ W, Below w.heap.size w W → Calls Tryz.prog 36 #[.slice x1 f.cs.length c1, .slice y1 f'.cs.length d1] W fun e w' => e = .returned (.bool (decide (f.cs = f'.cs))) ∧ Below W.heap.size W w') := fun W hb' => EqualN _ _ _ _ _ _ _ (fun b h => Nat.lt_of_lt_of_le (hS b h) hb'.size) (ha.1.fr (fun q hq => hb'.cell (hS _ hq))) (hb.1.fr (fun q hq => hb'.cell (hS _ hq)))
  have Q2 : Hid (∀ W, Below w.heap.size w W → Calls Tryz.prog 36 #[.slice x2 f.bs.length c2, .slice y2 f'.bs.length d2] W fun e w' => e = .returned (.bool (decide (f.bs = f'.bs))) ∧ Below W.heap.size W w') := fun W hb' => EqualN _ _ _ _ _ _ _ (fun b h => Nat.lt_of_lt_of_le (hS b h) hb'.size) (ha.2.fr (fun q hq => hb'.cell (hS _ hq))) (hb.2.fr (fun q hq => hb'.cell (hS _ hq)))
  clear ha hb hS
  have GR : Hid (∀ X Y : Obj, Below w.heap.size w ((w.alloc X).alloc Y)) := fun X Y => ((Below.refl _ _).alloc (Nat.le_refl _) _).alloc (by simp) _
  obtain ⟨nm, iv, sg, pr, cs, bs, bd⟩ := f
  obtain ⟨nm', iv', sg', pr', cs', bs', bd'⟩ := f'
  simp only at Q1 Q2 ⊢
  by_cases E0 : nm = nm'
  case neg =>
    have q1 : (nm.toList == nm'.toList) = false := by apply Bool.eq_false_iff.2; intro q; exact E0 (ba_ext (by simpa using q))
    have q2 : (nm.toList != nm'.toList) = true := by simp [bne, q1]
    have ed : decide (((⟨nm, iv, sg, pr, cs, bs, bd⟩ : JbR)) = ⟨nm', iv', sg', pr', cs', bs', bd'⟩) = false := decide_eq_false fun e => E0 (by injection e)
    clear E0
    rw [ed]
    clear ed
    go_enter Tryz.func17, Tryz.ntmps17
    go_wp2
    go_ret
    exact ⟨rfl, GR.out _ _⟩
  subst E0
  by_cases E1 : iv = iv'
  case neg =>
    have q1 : (iv == iv') = false := by simp [E1]
    have q2 : (iv != iv') = true := by simp [bne, q1]
    have ed : decide (((⟨nm, iv, sg, pr, cs, bs, bd⟩ : JbR)) = ⟨nm, iv', sg', pr', cs', bs', bd'⟩) = false := decide_eq_false fun e => E1 (by injection e)
    clear E1
    rw [ed]
    clear ed
    go_enter Tryz.func17, Tryz.ntmps17
    go_wp2
    go_ret
    exact ⟨rfl, GR.out _ _⟩
  subst E1
  by_cases E2 : sg = sg'
  case neg =>
    have q1 : (sg == sg') = false := by simp [E2]
    have q2 : (sg != sg') = true := by simp [bne, q1]
    have ed : decide (((⟨nm, iv, sg, pr, cs, bs, bd⟩ : JbR)) = ⟨nm, iv, sg', pr', cs', bs', bd'⟩) = false := decide_eq_false fun e => E2 (by injection e)
    clear E2
    rw [ed]
    clear ed
    go_enter Tryz.func17, Tryz.ntmps17
    go_wp2
    go_ret
    exact ⟨rfl, GR.out _ _⟩
  subst E2
  by_cases E3 : pr = pr'
  case neg =>
    have q1 : (pr == pr') = false := by simp [E3]
    have q2 : (pr != pr') = true := by simp [bne, q1]
    have ed : decide (((⟨nm, iv, sg, pr, cs, bs, bd⟩ : JbR)) = ⟨nm, iv, sg, pr', cs', bs', bd'⟩) = false := decide_eq_false fun e => E3 (by injection e)
    clear E3
    rw [ed]
    clear ed
    go_enter Tryz.func17, Tryz.ntmps17
    go_wp2
    go_ret
    exact ⟨rfl, GR.out _ _⟩
  subst E3
  by_cases E4 : bd = bd'
  case neg =>
    have q1 : (bd == bd') = false := by simp [E4]
    have q2 : (bd != bd') = true := by simp [bne, q1]
    have ed : decide (((⟨nm, iv, sg, pr, cs, bs, bd⟩ : JbR)) = ⟨nm, iv, sg, pr, cs', bs', bd'⟩) = false := decide_eq_false fun e => E4 (by injection e)
    clear E4
    rw [ed]
    clear ed
    go_enter Tryz.func17, Tryz.ntmps17
    go_wp2
    go_ret
    exact ⟨rfl, GR.out _ _⟩
  subst E4
  have ed : decide ((⟨nm, iv, sg, pr, cs, bs, bd⟩ : JbR) = ⟨nm, iv, sg, pr, cs', bs', bd⟩) = (decide (cs = cs') && decide (bs = bs')) := by
    rw [← Bool.decide_and]
    apply decide_eq_decide.2
    constructor
    · intro e; injection e; exact ⟨by assumption, by assumption⟩
    · rintro ⟨h1, h2⟩
      rw [h1, h2]
  rw [ed]
  clear ed
  generalize decide (cs = cs') = r1 at *
  generalize decide (bs = bs') = r2 at *
  go_enter Tryz.func17, Tryz.ntmps17
  go_wp2_with fail
  refine (Q1.out _ (GR.out _ _)).mono ?_
  rintro e w1 ⟨rfl, hb⟩
  have X1 := (hb.block w.heap.size (by simp; omega)).trans (two_at w _ _).1
  have Y1 := (hb.block (w.heap.size + 1) (by simp)).trans (two_at w _ _).2
  have k1 : w1.cell? ⟨w.heap.size, 5, none⟩ = some (.slice x2 bs.length c2) := by simp [World.cell?, X1]
  have k2 : w1.cell? ⟨w.heap.size + 1, 5, none⟩ = some (.slice y2 bs'.length d2) := by simp [World.cell?, Y1]
  have B1 : Hid (Below w.heap.size w w1) := (GR.out _ _).trans (hb.mono (GR.out _ _).size)
  clear hb X1 Y1
  cases r1
  · go_wp2
    go_ret
    exact ⟨rfl, B1.out⟩
  · go_wp2_with fail
    refine (Q2.out _ B1.out).mono ?_
    rintro e w2 ⟨rfl, hb⟩
    have B2 : Hid (Below w.heap.size w w2) := B1.out.trans (hb.mono B1.out.size)
    clear hb
    cases r2
    all_goals
      go_wp2
      go_ret
      exact ⟨rfl, B2.out⟩
end Go.Proofs.YtdcjngakmkgbmaaGreat
namespace Go.Proofs.YtdcjngakmkgbmaaGreat
set_option linter.unusedVariables false
open Go.RowKit
theorem GR (w : World) (X Y : Obj) : Below w.heap.size w ((w.alloc X).alloc Y) := ((Below.refl _ _).alloc (Nat.le_refl _) _).alloc (by simp) _
set_option maxRecDepth 20000 in
set_option maxHeartbeats 4000000 in
theorem SameFlats_of (x y : Option Addr) (l l' : List FlR) (c d : Nat) (w : World) {S : Nat → Prop} (hS : ∀ b, S b → b < w.heap.size) (ha : RwF 8 (FlP S w) S w x l) (hb : RwF 8 (FlP S w) S w y l') :
    Calls Tryz.prog 16 #[.slice x l.length c, .slice y l'.length d] w fun e w' => e = .returned (.bool (decide (l = l'))) ∧ Below w.heap.size w w' := by
  have HA : Hid (RwF 8 (FlP S w) S w x l) := ha
  have HB : Hid (RwF 8 (FlP S w) S w y l') := hb
  have HS : Hid (∀ b, S b → b < w.heap.size) := hS
  have HX : Hid (∀ W f f' x1 x2 y1 y2 c1 c2 d1 d2, Below w.heap.size w W → FlQ S W f x1 x2 → FlQ S W f' y1 y2 → Calls Tryz.prog 35 #[.agg #[.string f.nm, .int .i64 f.wh, .int .i64 f.ce, .int .i64 f.ba, .int .i64 f.rg, .int .i64 f.sl, .slice x1 f.os.length c1, .slice x2 f.ls.length c2], .agg #[.string f'.nm, .int .i64 f'.wh, .int .i64 f'.ce, .int .i64 f'.ba, .int .i64 f'.rg, .int .i64 f'.sl, .slice y1 f'.os.length d1, .slice y2 f'.ls.length d2]] W fun e w' => e = .returned (.bool (decide (f = f'))) ∧ Below W.heap.size W w') := fun W f f' x1 x2 y1 y2 c1 c2 d1 d2 hb h1 h2 => SameFlat_of f f' x1 x2 y1 y2 c1 c2 d1 d2 W (fun b h => Nat.lt_of_lt_of_le (HS.out b h) hb.size) h1 h2
  clear ha hb hS
  by_cases el : l.length = l'.length
  · generalize hn : l'.length = n at *
    have HN : Hid _ := hn
    clear hn
    subst el
    go_enter Tryz.func16, Tryz.ntmps16
    go_wp2_with fail
    go_loopw [13] (fun i wr => ∃ k : Nat, k ≤ l.length ∧ i = .int .i64 k ∧ Below w.heap.size w wr ∧ ∀ j, j < k → l[j]? = l'[j]?) (fun i _ => l.length - (intOf i).toNat)
    case atStart => exact ⟨0, Nat.zero_le _, rfl, Below.refl _ _, fun j hj => absurd hj (Nat.not_lt_zero _)⟩
    case round =>
      obtain ⟨k, hk, rfl, hbw, hall⟩ := hrel
      have HW : Hid (Below w.heap.size w wr) := hbw
      have AL : Hid _ := hall
      clear hall
      by_cases hlt : k < l.length
      · obtain ⟨a, rfl⟩ := HA.out.some (by omega)
        obtain ⟨b, rfl⟩ := HB.out.some (by have := HN.out; omega)
        obtain ⟨s, sv, se, _, ⟨sx, sc, sy, sd, rfl, sq⟩, sk⟩ := (HA.out.frK keptF (w' := wr) (fun q hq => hbw.cell (HS.out _ hq))).el k hlt
        have e0 := sk.c0
        have e1 := sk.cp 0 _ rfl
        have e2 := sk.cp 1 _ rfl
        have e3 := sk.cp 2 _ rfl
        have e4 := sk.cp 3 _ rfl
        have e5 := sk.cp 4 _ rfl
        have e6 := sk.cp 5 _ rfl
        have e7 := sk.cp 6 _ rfl
        obtain ⟨t, tv, te, _, ⟨tx, tc, ty, td, rfl, tq⟩, tk⟩ := (HB.out.frK keptF (w' := wr) (fun q hq => hbw.cell (HS.out _ hq))).el k (by have := HN.out; omega)
        have d0 := tk.c0
        have d1 := tk.cp 0 _ rfl
        have d2 := tk.cp 1 _ rfl
        have d3 := tk.cp 2 _ rfl
        have d4 := tk.cp 3 _ rfl
        have d5 := tk.cp 4 _ rfl
        have d6 := tk.cp 5 _ rfl
        have d7 := tk.cp 6 _ rfl
        have ES : Hid (l[k]? = some s) := se
        have ET : Hid (l'[k]? = some t) := te
        have QS : Hid (FlQ S wr s sx sy) := sq
        have QT : Hid (FlQ S wr t tx ty) := tq
        have LT : Hid _ := hlt
        have kl : (k : Int) < l.length := by omega
        clear hbw se te hlt sk tk sq tq
        have za := block_lt_of_cell e0
        have zb := block_lt_of_cell d0
        go_wp2_with fail
        have ca0 : ∀ x : Sub wr, x.w.cell? (a.add (k * 8)) = some (.string s.nm) := fun x => (x.h.cell za).trans e0
        have ca1 : ∀ x : Sub wr, x.w.cell? ⟨(a.add (k * 8)).block, (a.add (k * 8)).off + 1, none⟩ = some (.int .i64 s.wh) := fun x => (x.h.cell (p := ⟨(a.add (k * 8)).block, (a.add (k * 8)).off + 1, none⟩) za).trans e1
        have ca2 : ∀ x : Sub wr, x.w.cell? ⟨(a.add (k * 8)).block, (a.add (k * 8)).off + 2, none⟩ = some (.int .i64 s.ce) := fun x => (x.h.cell (p := ⟨(a.add (k * 8)).block, (a.add (k * 8)).off + 2, none⟩) za).trans e2
        have ca3 : ∀ x : Sub wr, x.w.cell? ⟨(a.add (k * 8)).block, (a.add (k * 8)).off + 3, none⟩ = some (.int .i64 s.ba) := fun x => (x.h.cell (p := ⟨(a.add (k * 8)).block, (a.add (k * 8)).off + 3, none⟩) za).trans e3
        have ca4 : ∀ x : Sub wr, x.w.cell? ⟨(a.add (k * 8)).block, (a.add (k * 8)).off + 4, none⟩ = some (.int .i64 s.rg) := fun x => (x.h.cell (p := ⟨(a.add (k * 8)).block, (a.add (k * 8)).off + 4, none⟩) za).trans e4
        have ca5 : ∀ x : Sub wr, x.w.cell? ⟨(a.add (k * 8)).block, (a.add (k * 8)).off + 5, none⟩ = some (.int .i64 s.sl) := fun x => (x.h.cell (p := ⟨(a.add (k * 8)).block, (a.add (k * 8)).off + 5, none⟩) za).trans e5
        have ca6 : ∀ x : Sub wr, x.w.cell? ⟨(a.add (k * 8)).block, (a.add (k * 8)).off + 6, none⟩ = some (.slice sx s.os.length sc) := fun x => (x.h.cell (p := ⟨(a.add (k * 8)).block, (a.add (k * 8)).off + 6, none⟩) za).trans e6
        have ca7 : ∀ x : Sub wr, x.w.cell? ⟨(a.add (k * 8)).block, (a.add (k * 8)).off + 7, none⟩ = some (.slice sy s.ls.length sd) := fun x => (x.h.cell (p := ⟨(a.add (k * 8)).block, (a.add (k * 8)).off + 7, none⟩) za).trans e7
        have cb0 : ∀ x : Sub wr, x.w.cell? (b.add (k * 8)) = some (.string t.nm) := fun x => (x.h.cell zb).trans d0
        have cb1 : ∀ x : Sub wr, x.w.cell? ⟨(b.add (k * 8)).block, (b.add (k * 8)).off + 1, none⟩ = some (.int .i64 t.wh) := fun x => (x.h.cell (p := ⟨(b.add (k * 8)).block, (b.add (k * 8)).off + 1, none⟩) zb).trans d1
        have cb2 : ∀ x : Sub wr, x.w.cell? ⟨(b.add (k * 8)).block, (b.add (k * 8)).off + 2, none⟩ = some (.int .i64 t.ce) := fun x => (x.h.cell (p := ⟨(b.add (k * 8)).block, (b.add (k * 8)).off + 2, none⟩) zb).trans d2
        have cb3 : ∀ x : Sub wr, x.w.cell? ⟨(b.add (k * 8)).block, (b.add (k * 8)).off + 3, none⟩ = some (.int .i64 t.ba) := fun x => (x.h.cell (p := ⟨(b.add (k * 8)).block, (b.add (k * 8)).off + 3, none⟩) zb).trans d3
        have cb4 : ∀ x : Sub wr, x.w.cell? ⟨(b.add (k * 8)).block, (b.add (k * 8)).off + 4, none⟩ = some (.int .i64 t.rg) := fun x => (x.h.cell (p := ⟨(b.add (k * 8)).block, (b.add (k * 8)).off + 4, none⟩) zb).trans d4
        have cb5 : ∀ x : Sub wr, x.w.cell? ⟨(b.add (k * 8)).block, (b.add (k * 8)).off + 5, none⟩ = some (.int .i64 t.sl) := fun x => (x.h.cell (p := ⟨(b.add (k * 8)).block, (b.add (k * 8)).off + 5, none⟩) zb).trans d5
        have cb6 : ∀ x : Sub wr, x.w.cell? ⟨(b.add (k * 8)).block, (b.add (k * 8)).off + 6, none⟩ = some (.slice tx t.os.length tc) := fun x => (x.h.cell (p := ⟨(b.add (k * 8)).block, (b.add (k * 8)).off + 6, none⟩) zb).trans d6
        have cb7 : ∀ x : Sub wr, x.w.cell? ⟨(b.add (k * 8)).block, (b.add (k * 8)).off + 7, none⟩ = some (.slice ty t.ls.length td) := fun x => (x.h.cell (p := ⟨(b.add (k * 8)).block, (b.add (k * 8)).off + 7, none⟩) zb).trans d7
        have E1 : Hid (∀ y : Sub wr, Calls Tryz.prog 35 #[.agg #[.string s.nm, .int .i64 s.wh, .int .i64 s.ce, .int .i64 s.ba, .int .i64 s.rg, .int .i64 s.sl, .slice sx s.os.length sc, .slice sy s.ls.length sd], .agg #[.string t.nm, .int .i64 t.wh, .int .i64 t.ce, .int .i64 t.ba, .int .i64 t.rg, .int .i64 t.sl, .slice tx t.os.length tc, .slice ty t.ls.length td]] y.w fun e w' => e = .returned (.bool (decide (s = t))) ∧ Below y.w.heap.size y.w w') := fun y => HX.out _ _ _ _ _ _ _ _ _ _ _ (HW.out.trans (y.h.mono HW.out.size)) (QS.out.fr (fun q hq => y.h.cell (Nat.lt_of_lt_of_le (HS.out _ hq) HW.out.size))) (QT.out.fr (fun q hq => y.h.cell (Nat.lt_of_lt_of_le (HS.out _ hq) HW.out.size)))
        generalize hq : decide (s = t) = bq at *
        refine wp_region_sub2 (by kernel_rfl) (by kernel_rfl) ?_
        intro cx
        repeat (first | go_big_quiet_skip | (go_big_quiet_want; go_big_quiet_op; first | go_big_quiet_on | (refine ⟨_, fun _ => rfl, ?_⟩; go_big_quiet_on) | go_big_quiet_call (first | (go_at_call 35; exact calls_sub (E1.out _)))))
        refine wpQuiet_nil ?_
        rintro _ ⟨y, rfl⟩
        have B5 : Hid (Below w.heap.size w y.w) := HW.out.trans (y.h.mono HW.out.size)
        clear cx E1 e0 d0 e1 d1 e2 d2 e3 d3 e4 d4 e5 d5 e6 d6 e7 d7 za zb ca0 ca1 ca2 ca3 ca4 ca5 ca6 ca7 cb0 cb1 cb2 cb3 cb4 cb5 cb6 cb7
        subst hq
        by_cases q : s = t
        · have qq : decide (s = t) = true := decide_eq_true q
          have Q : Hid _ := q
          clear q
          rw [qq]
          have ew : wrap64 ((k : Int) + 1) = (k : Int) + 1 := by have := HA.out.1; have := LT.out; unfold wrap64; omega
          go_wp2
          rw [ew]
          exact ⟨⟨k + 1, Nat.succ_le_of_lt LT.out, rfl, B5.out, fun j hj => by rcases Nat.lt_succ_iff_lt_or_eq.1 hj with h | rfl; exact AL.out j h; rw [ES.out, ET.out, Q.out]⟩, msr LT.out⟩
        · have qq : decide (s = t) = false := decide_eq_false q
          have Q : Hid _ := q
          clear q
          rw [qq]
          have ed : decide (l = l') = false := decide_eq_false fun e => Q.out (by have a := ES.out; rw [e, ET.out] at a; exact (Option.some.inj a).symm)
          clear qq
          go_wp2
          go_ret
          exact ⟨by first | rfl | (rw [ed]; rfl) | rw [ed], B5.out⟩
      · have kl : ¬ (k : Int) < l.length := by omega
        have ed : decide (l = l') = true := decide_eq_true (List.ext_getElem? fun j => by
          by_cases hj : j < k
          · exact AL.out j hj
          · have := HN.out
            rw [List.getElem?_eq_none (by omega), List.getElem?_eq_none (by omega)])
        clear hbw hlt
        go_wp2
        go_ret
        exact ⟨by first | rfl | (rw [ed]; rfl) | rw [ed], HW.out⟩
  · have el' : ((l.length : Int) == (l'.length : Int)) = false := by rw [beq_eq_false_iff_ne]; omega
    have el2 : ((l.length : Int) != (l'.length : Int)) = true := by simp [bne, el']
    have ed : decide (l = l') = false := decide_eq_false fun e => el (by rw [e])
    clear el
    go_enter Tryz.func16, Tryz.ntmps16
    go_wp2
    go_ret
    exact ⟨by first | rfl | (rw [ed]; rfl) | rw [ed], Below.refl _ _⟩
end Go.Proofs.YtdcjngakmkgbmaaGreat
namespace Go.Proofs.YtdcjngakmkgbmaaGreat
set_option linter.unusedVariables false
open Go.RowKit
theorem img_dec (m m' : ImR) : decide (m = m') = (decide (m.nm = m'.nm) && decide (m.cs = m'.cs) && decide (m.fs = m'.fs) && decide (m.js = m'.js)) := by
  rw [← Bool.decide_and, ← Bool.decide_and, ← Bool.decide_and]
  apply decide_eq_decide.2
  constructor
  · intro e; rw [e]; exact ⟨⟨⟨rfl, rfl⟩, rfl⟩, rfl⟩
  · rintro ⟨⟨⟨h1, h2⟩, h3⟩, h4⟩
    cases m
    cases m'
    simp_all
end Go.Proofs.YtdcjngakmkgbmaaGreat
namespace Go.Proofs.YtdcjngakmkgbmaaGreat
set_option linter.unusedVariables false
open Go.RowKit
set_option maxRecDepth 20000 in
set_option maxHeartbeats 8000000 in
theorem SameImage_of (m m' : ImR) (x1 x2 x3 y1 y2 y3 : Option Addr) (c1 c2 c3 d1 d2 d3 : Nat) (w : World) {S : Nat → Prop} (hS : ∀ b, S b → b < w.heap.size) (ha : ImQ S w m x1 x2 x3) (hb : ImQ S w m' y1 y2 y3) :
    Calls Tryz.prog 7 #[.agg #[.string m.nm, .slice x1 m.cs.length c1, .slice x2 m.fs.length c2, .slice x3 m.js.length c3], .agg #[.string m'.nm, .slice y1 m'.cs.length d1, .slice y2 m'.fs.length d2, .slice y3 m'.js.length d3]] w fun e w' => e = .returned (.bool (decide (m = m'))) ∧ Below w.heap.size w w' := by
  have FR : ∀ W, Below w.heap.size w W → FrS S w W := fun W hb q hq => hb.cell (hS _ hq)
  have SS : Hid (∀ W, Below w.heap.size w W → ∀ b, S b → b < W.heap.size) := fun W hb b h => Nat.lt_of_lt_of_le (hS b h) hb.size
  have Q1 : Hid (∀ W, Below w.heap.size w W → Calls Tryz.prog 15 #[.slice x1 m.cs.length c1, .slice y1 m'.cs.length d1] W fun e w' => e = .returned (.bool (decide (m.cs = m'.cs))) ∧ Below W.heap.size W w') := fun W h => EqualC _ _ _ _ _ _ _ (SS.out W h) (ha.fr (FR W h)).1 (hb.fr (FR W h)).1
  have Q2 : Hid (∀ W, Below w.heap.size w W → Calls Tryz.prog 16 #[.slice x2 m.fs.length c2, .slice y2 m'.fs.length d2] W fun e w' => e = .returned (.bool (decide (m.fs = m'.fs))) ∧ Below W.heap.size W w') := fun W h => SameFlats_of _ _ _ _ _ _ _ (SS.out W h) (ha.fr (FR W h)).2.1 (hb.fr (FR W h)).2.1
  have HA : Hid (∀ W, Below w.heap.size w W → RwF 7 (JbP S W) S W x3 m.js) := fun W h => (ha.fr (FR W h)).2.2
  have HB : Hid (∀ W, Below w.heap.size w W → RwF 7 (JbP S W) S W y3 m'.js) := fun W h => (hb.fr (FR W h)).2.2
  have HX : Hid (∀ W f f' x1 x2 y1 y2 c1 c2 d1 d2, Below w.heap.size w W → JbQ S W f x1 x2 → JbQ S W f' y1 y2 → Calls Tryz.prog 17 #[.agg #[.string f.nm, .int .i64 f.iv, .int .i64 f.sg, .int .i64 f.pr, .slice x1 f.cs.length c1, .slice x2 f.bs.length c2, .int .i64 f.bd], .agg #[.string f'.nm, .int .i64 f'.iv, .int .i64 f'.sg, .int .i64 f'.pr, .slice y1 f'.cs.length d1, .slice y2 f'.bs.length d2, .int .i64 f'.bd]] W fun e w' => e = .returned (.bool (decide (f = f'))) ∧ Below W.heap.size W w') := fun W f f' x1 x2 y1 y2 c1 c2 d1 d2 hb h1 h2 => SameJob_of f f' x1 x2 y1 y2 c1 c2 d1 d2 W (SS.out W hb) h1 h2
  have FRH : Hid (∀ W, Below w.heap.size w W → FrS S w W) := FR
  have HS : Hid (∀ b, S b → b < w.heap.size) := hS
  clear ha hb hS FR
  have GQ : Hid (∀ X Y : Obj, Below w.heap.size w ((w.alloc X).alloc Y)) := fun X Y => GR w X Y
  rw [img_dec]
  generalize decide (m.cs = m'.cs) = r1 at *
  generalize decide (m.fs = m'.fs) = r2 at *
  generalize hr3 : decide (m.js = m'.js) = r3 at *
  obtain ⟨nm, cs, fs, js⟩ := m
  obtain ⟨nm', cs', fs', js'⟩ := m'
  simp only at Q1 Q2 HA HB hr3 ⊢
  have R3 : Hid (decide (js = js') = r3) := hr3
  clear hr3
  by_cases E0 : nm = nm'
  case neg =>
    have q1 : (nm.toList == nm'.toList) = false := by apply Bool.eq_false_iff.2; intro q; exact E0 (ba_ext (by simpa using q))
    have q2 : (nm.toList != nm'.toList) = true := by simp [bne, q1]
    have ed : decide (nm = nm') = false := decide_eq_false E0
    clear E0
    rw [ed]
    clear ed
    go_enter Tryz.func7, Tryz.ntmps7
    go_wp2
    go_ret
    exact ⟨by simp, GQ.out _ _⟩
  subst E0
  rw [decide_eq_true rfl]
  go_enter Tryz.func7, Tryz.ntmps7
  go_wp2_with fail
  refine (Q1.out _ (GQ.out _ _)).mono ?_
  rintro e w1 ⟨rfl, hb⟩
  have X1 := (hb.block w.heap.size (by simp; omega)).trans (two_at w _ _).1
  have Y1 := (hb.block (w.heap.size + 1) (by simp)).trans (two_at w _ _).2
  have k1 : w1.cell? ⟨w.heap.size, 2, none⟩ = some (.slice x2 fs.length c2) := by simp [World.cell?, X1]
  have k2 : w1.cell? ⟨w.heap.size + 1, 2, none⟩ = some (.slice y2 fs'.length d2) := by simp [World.cell?, Y1]
  have XX : Hid _ := X1
  have YY : Hid _ := Y1
  have s1 : w.heap.size + 2 ≤ w1.heap.size := by have := hb.size; simp at this; omega
  have B1 : Hid (Below w.heap.size w w1) := (GQ.out _ _).trans (hb.mono (GQ.out _ _).size)
  clear hb X1 Y1
  cases r1
  · go_wp2
    go_ret
    exact ⟨by simp, B1.out⟩
  · go_wp2_with fail
    refine (Q2.out _ B1.out).mono ?_
    rintro e w2 ⟨rfl, hb⟩
    have B2 : Hid (Below w.heap.size w w2) := B1.out.trans (hb.mono B1.out.size)
    have X2 := (hb.block w.heap.size (by omega)).trans XX.out
    have Y2 := (hb.block (w.heap.size + 1) (by omega)).trans YY.out
    have k3 : w2.cell? ⟨w.heap.size, 3, none⟩ = some (.slice x3 js.length c3) := by simp [World.cell?, X2]
    have k4 : w2.cell? ⟨w.heap.size + 1, 3, none⟩ = some (.slice y3 js'.length d3) := by simp [World.cell?, Y2]
    have s2 : w.heap.size + 2 ≤ w2.heap.size := by have := hb.size; omega
    clear hb X2 Y2 XX YY k1 k2 s1
    cases r2
    · go_wp2
      go_ret
      exact ⟨by simp, B2.out⟩
    · by_cases el : js.length = js'.length
      case neg =>
        have el' : ((js.length : Int) == (js'.length : Int)) = false := by rw [beq_eq_false_iff_ne]; omega
        have el2 : ((js.length : Int) != (js'.length : Int)) = true := by simp [bne, el']
        have ed : r3 = false := R3.out.symm.trans (decide_eq_false fun e => el (by rw [e]))
        subst ed
        clear el
        go_wp2
        go_ret
        exact ⟨by simp, B2.out⟩
      have EL : Hid _ := el
      have el' : ((js.length : Int) == (js'.length : Int)) = true := by rw [beq_iff_eq]; omega
      have el2 : ((js.length : Int) != (js'.length : Int)) = false := by simp [bne, el']
      clear el
      have FLH : Hid _ := (HA.out _ (Below.refl _ _)).1
      go_wp2_with fail
      go_loopw [39] (fun i wr => ∃ k : Nat, k ≤ js.length ∧ i = .int .i64 k ∧ Below w2.heap.size w2 wr ∧ ∀ j, j < k → js[j]? = js'[j]?) (fun i _ => js.length - (intOf i).toNat)
      case atStart => exact ⟨0, Nat.zero_le _, rfl, Below.refl _ _, fun j hj => absurd hj (Nat.not_lt_zero _)⟩
      case round =>
        obtain ⟨k, hk, rfl, hbw, hall⟩ := hrel
        have HV : Hid (Below w2.heap.size w2 wr) := hbw
        have HW : Hid (Below w.heap.size w wr) := B2.out.trans (hbw.mono B2.out.size)
        have AL : Hid _ := hall
        clear hall
        by_cases hlt : k < js.length
        · obtain ⟨a, rfl⟩ := (HA.out _ (Below.refl _ _)).some (by omega)
          obtain ⟨b, rfl⟩ := (HB.out _ (Below.refl _ _)).some (by have := EL.out; omega)
          obtain ⟨s, sv, se, _, ⟨sx, sc, sy, sd, rfl, sq⟩, sk⟩ := (HA.out _ HW.out).el k hlt
          obtain ⟨t, tv, te, _, ⟨tx, tc, ty, td, rfl, tq⟩, tk⟩ := (HB.out _ HW.out).el k (by have := EL.out; omega)
          have e0 := sk.c0
          have e1 := sk.cp 0 _ rfl
          have e2 := sk.cp 1 _ rfl
          have e3 := sk.cp 2 _ rfl
          have e4 := sk.cp 3 _ rfl
          have e5 := sk.cp 4 _ rfl
          have e6 := sk.cp 5 _ rfl
          have g0 := tk.c0
          have g1 := tk.cp 0 _ rfl
          have g2 := tk.cp 1 _ rfl
          have g3 := tk.cp 2 _ rfl
          have g4 := tk.cp 3 _ rfl
          have g5 := tk.cp 4 _ rfl
          have g6 := tk.cp 5 _ rfl
          have ES : Hid (js[k]? = some s) := se
          have ET : Hid (js'[k]? = some t) := te
          have QS : Hid (JbQ S wr s sx sy) := sq
          have QT : Hid (JbQ S wr t tx ty) := tq
          have LT : Hid _ := hlt
          have kl : (k : Int) < js.length := by omega
          have kl2 : (k : Int) < js'.length := by have := EL.out; omega
          have j3 : ∀ x : Sub wr, x.w.cell? ⟨w.heap.size, 3, none⟩ = some (.slice (some a) js.length c3) := fun x => (x.h.cell (p := ⟨w.heap.size, 3, none⟩) (by have := HV.out.size; show w.heap.size < _; omega)).trans ((HV.out.cell (p := ⟨w.heap.size, 3, none⟩) (by show w.heap.size < _; omega)).trans k3)
          have j4 : ∀ x : Sub wr, x.w.cell? ⟨w.heap.size + 1, 3, none⟩ = some (.slice (some b) js'.length d3) := fun x => (x.h.cell (p := ⟨w.heap.size + 1, 3, none⟩) (by have := HV.out.size; show w.heap.size + 1 < _; omega)).trans ((HV.out.cell (p := ⟨w.heap.size + 1, 3, none⟩) (by show w.heap.size + 1 < _; omega)).trans k4)
          clear hbw se te hlt sk tk sq tq
          have za := block_lt_of_cell e0
          have zb := block_lt_of_cell g0
          go_wp2_with fail
          have ca0 : ∀ x : Sub wr, x.w.cell? (a.add (k * 7)) = some (.string s.nm) := fun x => (x.h.cell za).trans e0
          have ca1 : ∀ x : Sub wr, x.w.cell? ⟨(a.add (k * 7)).block, (a.add (k * 7)).off + 1, none⟩ = some (.int .i64 s.iv) := fun x => (x.h.cell (p := ⟨(a.add (k * 7)).block, (a.add (k * 7)).off + 1, none⟩) za).trans e1
          have ca2 : ∀ x : Sub wr, x.w.cell? ⟨(a.add (k * 7)).block, (a.add (k * 7)).off + 2, none⟩ = some (.int .i64 s.sg) := fun x => (x.h.cell (p := ⟨(a.add (k * 7)).block, (a.add (k * 7)).off + 2, none⟩) za).trans e2
          have ca3 : ∀ x : Sub wr, x.w.cell? ⟨(a.add (k * 7)).block, (a.add (k * 7)).off + 3, none⟩ = some (.int .i64 s.pr) := fun x => (x.h.cell (p := ⟨(a.add (k * 7)).block, (a.add (k * 7)).off + 3, none⟩) za).trans e3
          have ca4 : ∀ x : Sub wr, x.w.cell? ⟨(a.add (k * 7)).block, (a.add (k * 7)).off + 4, none⟩ = some (.slice sx s.cs.length sc) := fun x => (x.h.cell (p := ⟨(a.add (k * 7)).block, (a.add (k * 7)).off + 4, none⟩) za).trans e4
          have ca5 : ∀ x : Sub wr, x.w.cell? ⟨(a.add (k * 7)).block, (a.add (k * 7)).off + 5, none⟩ = some (.slice sy s.bs.length sd) := fun x => (x.h.cell (p := ⟨(a.add (k * 7)).block, (a.add (k * 7)).off + 5, none⟩) za).trans e5
          have ca6 : ∀ x : Sub wr, x.w.cell? ⟨(a.add (k * 7)).block, (a.add (k * 7)).off + 6, none⟩ = some (.int .i64 s.bd) := fun x => (x.h.cell (p := ⟨(a.add (k * 7)).block, (a.add (k * 7)).off + 6, none⟩) za).trans e6
          have cb0 : ∀ x : Sub wr, x.w.cell? (b.add (k * 7)) = some (.string t.nm) := fun x => (x.h.cell zb).trans g0
          have cb1 : ∀ x : Sub wr, x.w.cell? ⟨(b.add (k * 7)).block, (b.add (k * 7)).off + 1, none⟩ = some (.int .i64 t.iv) := fun x => (x.h.cell (p := ⟨(b.add (k * 7)).block, (b.add (k * 7)).off + 1, none⟩) zb).trans g1
          have cb2 : ∀ x : Sub wr, x.w.cell? ⟨(b.add (k * 7)).block, (b.add (k * 7)).off + 2, none⟩ = some (.int .i64 t.sg) := fun x => (x.h.cell (p := ⟨(b.add (k * 7)).block, (b.add (k * 7)).off + 2, none⟩) zb).trans g2
          have cb3 : ∀ x : Sub wr, x.w.cell? ⟨(b.add (k * 7)).block, (b.add (k * 7)).off + 3, none⟩ = some (.int .i64 t.pr) := fun x => (x.h.cell (p := ⟨(b.add (k * 7)).block, (b.add (k * 7)).off + 3, none⟩) zb).trans g3
          have cb4 : ∀ x : Sub wr, x.w.cell? ⟨(b.add (k * 7)).block, (b.add (k * 7)).off + 4, none⟩ = some (.slice tx t.cs.length tc) := fun x => (x.h.cell (p := ⟨(b.add (k * 7)).block, (b.add (k * 7)).off + 4, none⟩) zb).trans g4
          have cb5 : ∀ x : Sub wr, x.w.cell? ⟨(b.add (k * 7)).block, (b.add (k * 7)).off + 5, none⟩ = some (.slice ty t.bs.length td) := fun x => (x.h.cell (p := ⟨(b.add (k * 7)).block, (b.add (k * 7)).off + 5, none⟩) zb).trans g5
          have cb6 : ∀ x : Sub wr, x.w.cell? ⟨(b.add (k * 7)).block, (b.add (k * 7)).off + 6, none⟩ = some (.int .i64 t.bd) := fun x => (x.h.cell (p := ⟨(b.add (k * 7)).block, (b.add (k * 7)).off + 6, none⟩) zb).trans g6
          have E1 : Hid (∀ y : Sub wr, Calls Tryz.prog 17 #[.agg #[.string s.nm, .int .i64 s.iv, .int .i64 s.sg, .int .i64 s.pr, .slice sx s.cs.length sc, .slice sy s.bs.length sd, .int .i64 s.bd], .agg #[.string t.nm, .int .i64 t.iv, .int .i64 t.sg, .int .i64 t.pr, .slice tx t.cs.length tc, .slice ty t.bs.length td, .int .i64 t.bd]] y.w fun e w' => e = .returned (.bool (decide (s = t))) ∧ Below y.w.heap.size y.w w') := fun y => HX.out _ _ _ _ _ _ _ _ _ _ _ (HW.out.trans (y.h.mono HW.out.size)) (QS.out.fr (fun q hq => y.h.cell (Nat.lt_of_lt_of_le (HS.out _ hq) HW.out.size))) (QT.out.fr (fun q hq => y.h.cell (Nat.lt_of_lt_of_le (HS.out _ hq) HW.out.size)))
          generalize hq : decide (s = t) = bq at *
          have HQ : Hid (decide (s = t) = bq) := hq
          clear hq
          refine wp_region_sub2 (by kernel_rfl) (by kernel_rfl) ?_
          intro cx
          repeat (first | go_big_quiet_skip | (go_big_quiet_want; go_big_quiet_op; first | go_big_quiet_on | (refine ⟨_, fun _ => rfl, ?_⟩; go_big_quiet_on) | go_big_quiet_call (first | (go_at_call 17; exact calls_sub (E1.out _)))))
          refine wpQuiet_nil ?_
          rintro _ ⟨y, rfl⟩
          have B5 : Hid (Below w2.heap.size w2 y.w) := HV.out.trans (y.h.mono HV.out.size)
          clear cx E1 e0 e1 e2 e3 e4 e5 e6 g0 g1 g2 g3 g4 g5 g6 za zb ca0 ca1 ca2 ca3 ca4 ca5 ca6 cb0 cb1 cb2 cb3 cb4 cb5 cb6 j3 j4
          cases bq
          · have ed : r3 = false := R3.out.symm.trans (decide_eq_false fun e => of_decide_eq_false HQ.out (by have a := ES.out; rw [e, ET.out] at a; exact (Option.some.inj a).symm))
            subst ed
            go_wp2
            go_ret
            exact ⟨by simp, B2.out.trans (B5.out.mono B2.out.size)⟩
          · have ew : wrap64 ((k : Int) + 1) = (k : Int) + 1 := by have := FLH.out; have := LT.out; unfold wrap64; omega
            go_wp2
            rw [ew]
            exact ⟨⟨k + 1, Nat.succ_le_of_lt LT.out, rfl, B5.out, fun j hj => by rcases Nat.lt_succ_iff_lt_or_eq.1 hj with h | rfl; exact AL.out j h; rw [ES.out, ET.out, of_decide_eq_true HQ.out]⟩, msr LT.out⟩
        · have kl : ¬ (k : Int) < js.length := by omega
          have ed : r3 = true := R3.out.symm.trans (decide_eq_true (List.ext_getElem? fun j => by
            by_cases hj : j < k
            · exact AL.out j hj
            · have := EL.out
              rw [List.getElem?_eq_none (by omega), List.getElem?_eq_none (by omega)]))
          subst ed
          clear hbw hlt
          go_wp2
          go_ret
          exact ⟨by simp, HW.out⟩
end Go.Proofs.YtdcjngakmkgbmaaGreat
