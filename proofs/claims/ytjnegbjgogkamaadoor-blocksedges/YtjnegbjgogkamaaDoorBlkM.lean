/- A step of the statements, told by the numbers of a block's variables; no statement of the seat is proved here. -/
import Derived.Test.YtjnegbjgogkamaaDoorBlkZ
namespace Go.Proofs.YtjnegbjgogkamaaDoor
set_option linter.unusedVariables false
open Go.RowKit
theorem okN_may {k x : Int} (hk : K3 k) (h : okN k x) : may3 k (x % 18446744073709551616) ⟨#[]⟩ = true := by
  have f := okN_fit hk h
  unfold fitOk at f
  rw [Bool.and_eq_true] at f
  exact f.1
theorem okN_nm {k x : Int} (hk : K3 k) (h : okN k x) : nmV k (x % 18446744073709551616) = x := by
  rcases hk with rfl | rfl | rfl
  · unfold nmV; rw [if_pos rfl]
    rcases h.1 rfl with rfl | rfl <;> rfl
  · have := h.2.1 rfl
    unfold nmV; rw [if_neg (by decide)]; unfold wrap64; omega
  · have := h.2.2 rfl
    unfold nmV; rw [if_neg (by decide)]; unfold wrap64; omega
theorem vlL_ok (ks : ByteArray) (L : List Int) (i : Nat) : VlOk (vlL ks L i) := by
  have := K3_r (kAt_cases ks i)
  exact ⟨this.1, this.2, by unfold vlL; show 0 ≤ _ % _; omega, by unfold vlL; show _ % _ < _; omega, by show (⟨#[]⟩ : ByteArray).size ≤ maxLen; decide⟩
theorem vlL_nm {ks : ByteArray} {L : List Int} {i : Nat} (h : okN (kAt ks i) (L.getD i 0)) : nmV (vlL ks L i).k (vlL ks L i).b = L.getD i 0 := okN_nm (kAt_cases ks i) h
/-- Inputs laid over the first numbers. -/
def inL (m : Nat) (In L : List Int) : List Int := In ++ L.drop m
theorem inL_at {m : Nat} {In L : List Int} (h : In.length = m) (i : Nat) (hL : m ≤ L.length) : (inL m In L).getD i 0 = if i < m then In.getD i 0 else L.getD i 0 := by
  unfold inL
  simp only [List.getD_eq_getElem?_getD]
  by_cases c : i < m
  · rw [if_pos c, List.getElem?_append_left (by omega)]
  · rw [if_neg c, List.getElem?_append_right (by omega), List.getElem?_drop, h, show m + (i - m) = i by omega]
theorem inL_ok {ks : ByteArray} {m : Nat} {In L : List Int} (h : In.length = m) (hI : ∀ i, i < m → okN (kAt ks i) (In.getD i 0)) (hL : okL ks L) (hm : m ≤ ks.size) : okL ks (inL m In L) := by
  refine ⟨?_, fun i hi => ?_⟩
  · unfold inL; rw [List.length_append, List.length_drop, h, hL.1]; omega
  · rw [inL_at h i (by rw [hL.1]; exact hm)]
    by_cases c : i < m
    · rw [if_pos c]; exact hI i c
    · rw [if_neg c]; exact hL.2 i hi
theorem ovr_vl {ks : ByteArray} {m : Nat} {In L : List Int} (h : In.length = m) (hL : m ≤ L.length) (i : Nat) : ovr m (vlL ks In) (vlL ks L) i = vlL ks (inL m In L) i := by
  unfold ovr
  by_cases c : i < m
  · rw [if_pos c]; unfold vlL; rw [inL_at h i hL, if_pos c]
  · rw [if_neg c]; unfold vlL; rw [inL_at h i hL, if_neg c]
theorem nmL_vl {ks : ByteArray} {L : List Int} {v : Nat → Vl} (hL : okL ks L) (e : ∀ i, i < ks.size → v i = vlL ks L i) : nmL ks.size v = L := by
  unfold nmL
  apply List.ext_getElem?
  intro i
  by_cases hi : i < ks.size
  · simp only [List.getElem?_map, List.getElem?_range hi, Option.map_some]
    rw [e i hi, vlL_nm (hL.2 i hi), List.getD_eq_getElem?_getD, List.getElem?_eq_getElem (by rw [hL.1]; exact hi)]
    rfl
  · rw [List.getElem?_eq_none (by simp; omega), List.getElem?_eq_none (by rw [hL.1]; omega)]
theorem tk_vl {ks : ByteArray} {L : List Int} {v : Nat → Vl} (hL : okL ks L) (e : ∀ i, i < ks.size → v i = vlL ks L i) : tkB ks v ks.size = true := by
  refine (tkB_t (fun i hi => ?_)).symm
  rw [e i hi]
  exact ⟨rfl, okN_may (kAt_cases ks i) (hL.2 i hi)⟩
theorem stepL (K : Int) (m : Nat) (ks : ByteArray) (now : Int) (a b : Addr) (cap capm : Nat) (L In : List Int) (w : World) (hS : StOk K ks.size ks now) (hv : VsAt w a ks.size (vlL ks L)) (hu : VsAt w b m (vlL ks In))
    (hL : okL ks L) (hl : In.length = m) (hI : ∀ i, i < m → okN (kAt ks i) (In.getD i 0)) (hm : m ≤ ks.size) (h0 : 0 < ks.size) (h1 : ks.size ≤ 100) :
    Calls Tryd.prog 22 #[.int .i64 K, .slice (some a) ks.size cap, .int .i64 now, .slice (some b) m capm] w fun e w' => ∃ g, e = .returned (NS g ks.size) ∧ w.heap.size ≤ g ∧ Row3 w' g ks.size (vlL ks (nxt K (clN now) (inL m In L))) ∧ Below w.heap.size w w' := by
  have e := fun i (_ : i < ks.size) => ovr_vl (ks := ks) hl (by rw [hL.1]; exact hm) i
  have O := inL_ok hl hI hL hm
  refine (step_of K ks.size m ks now a b cap capm _ _ w hS hv hu h0 h1 hm (fun i hi => by rw [e i hi]; exact vlL_ok _ _ _) (tk_vl O e)).mono ?_
  rintro x w' ⟨g, rfl, hg, hr, hb⟩
  rw [nmL_vl O e] at hr
  exact ⟨g, rfl, hg, hr, hb⟩
theorem tN_mod (p : Bool) : tN p % 18446744073709551616 = tN p := by cases p <;> rfl
theorem below_alloc' (w : World) (o : Obj) : Below w.heap.size w (w.alloc o) := (Below.refl _ _).alloc (Nat.le_refl _) o
/-- The values with which cells begin are those of zeros. -/
theorem str_vl {w : World} {g : Nat} {ks : ByteArray} {n : Nat} (h : Row3 w g n (fun i => ⟨kAt ks i, 0, ⟨#[]⟩⟩)) : Row3 w g n (vlL ks (List.replicate n 0)) := by
  refine h.congr (fun i hi => ?_)
  unfold vlL
  simp [List.getD_eq_getElem?_getD, hi]
/-- Two and three inputs in a block that was made last. -/
theorem inp2 (w : World) (ks : ByteArray) (x0 x1 k0 k1 b0 b1 : Int) (h0 : kAt ks 0 = k0) (h1 : kAt ks 1 = k1) (e0 : x0 % 18446744073709551616 = b0) (e1 : x1 % 18446744073709551616 = b1) :
    VsAt (w.alloc (.cells #[.int .u8 k0, .int .u64 b0, .string ⟨#[]⟩, .int .u8 k1, .int .u64 b1, .string ⟨#[]⟩] 34)) ⟨w.heap.size, 0, none⟩ 2 (vlL ks [x0, x1]) := by
  subst h0 h1 e0 e1
  have : Row3 (w.alloc (.cells #[.int .u8 (kAt ks 0), .int .u64 (x0 % 18446744073709551616), .string ⟨#[]⟩, .int .u8 (kAt ks 1), .int .u64 (x1 % 18446744073709551616), .string ⟨#[]⟩] 34)) w.heap.size 2 (vlL ks [x0, x1]) := by
    refine ⟨_, heap_alloc_last w _, by simp, fun i hi => ?_⟩
    match i, hi with
    | 0, _ => exact ⟨rfl, rfl, rfl⟩
    | 1, _ => exact ⟨rfl, rfl, rfl⟩
  exact this.at
theorem inp3 (w : World) (ks : ByteArray) (x0 x1 x2 k0 k1 k2 b0 b1 b2 : Int) (h0 : kAt ks 0 = k0) (h1 : kAt ks 1 = k1) (h2 : kAt ks 2 = k2) (e0 : x0 % 18446744073709551616 = b0) (e1 : x1 % 18446744073709551616 = b1) (e2 : x2 % 18446744073709551616 = b2) :
    VsAt (w.alloc (.cells #[.int .u8 k0, .int .u64 b0, .string ⟨#[]⟩, .int .u8 k1, .int .u64 b1, .string ⟨#[]⟩, .int .u8 k2, .int .u64 b2, .string ⟨#[]⟩] 34)) ⟨w.heap.size, 0, none⟩ 3 (vlL ks [x0, x1, x2]) := by
  subst h0 h1 h2 e0 e1 e2
  have : Row3 (w.alloc (.cells #[.int .u8 (kAt ks 0), .int .u64 (x0 % 18446744073709551616), .string ⟨#[]⟩, .int .u8 (kAt ks 1), .int .u64 (x1 % 18446744073709551616), .string ⟨#[]⟩, .int .u8 (kAt ks 2), .int .u64 (x2 % 18446744073709551616), .string ⟨#[]⟩] 34)) w.heap.size 3 (vlL ks [x0, x1, x2]) := by
    refine ⟨_, heap_alloc_last w _, by simp, fun i hi => ?_⟩
    match i, hi with
    | 0, _ => exact ⟨rfl, rfl, rfl⟩
    | 1, _ => exact ⟨rfl, rfl, rfl⟩
    | 2, _ => exact ⟨rfl, rfl, rfl⟩
  exact this.at
end Go.Proofs.YtjnegbjgogkamaaDoor
