/- A step of the statements: cells copied, inputs laid over the first ones, Step; no statement of the seat is proved here. -/
import Derived.Test.YtjnegbjgogkamaaDoorBlkX
import Derived.Test.YtjnegbjgogkamaaDoorBlkY
namespace Go.Proofs.YtjnegbjgogkamaaDoor
set_option linter.unusedVariables false
open Go.RowKit
/-- Inputs laid over the first cells. -/
def ovr (m : Nat) (u v : Nat → Vl) (i : Nat) : Vl := if i < m then u i else v i
/-- What Step does with cells that a block takes. -/
def StOk (K : Int) (n : Nat) (ks : ByteArray) (now : Int) : Prop := ∀ (a : Addr) (cap : Nat) (v : Nat → Vl) (w : World), VsAt w a n v → (∀ i, i < n → VlOk (v i)) → tkB ks v n = true →
  Calls Tryd.prog 18 #[.int .i64 K, .slice (some a) n cap, .int .i64 now] w fun e w' => ∃ g, e = .returned (.tuple #[NS g n, .int .i64 0]) ∧ w.heap.size ≤ g ∧ Row3 w' g n (vlL ks (nxt K (clN now) (nmL n v))) ∧ Below w.heap.size w w'
set_option maxHeartbeats 2000000 in
theorem step_of (K : Int) (n m : Nat) (ks : ByteArray) (now : Int) (a b : Addr) (cap capm : Nat) (v u : Nat → Vl) (w : World) (hS : StOk K n ks now) (hv : VsAt w a n v) (hu : VsAt w b m u) (hn : 0 < n) (hn2 : n ≤ 100) (hm : m ≤ n)
    (hm0 : ∀ i, i < n → VlOk (ovr m u v i)) (ht : tkB ks (ovr m u v) n = true) :
    Calls Tryd.prog 22 #[.int .i64 K, .slice (some a) n cap, .int .i64 now, .slice (some b) m capm] w fun e w' => ∃ g, e = .returned (NS g n) ∧ w.heap.size ≤ g ∧ Row3 w' g n (vlL ks (nxt K (clN now) (nmL n (ovr m u v)))) ∧ Below w.heap.size w w' := by
  have HS : Hid (StOk K n ks now) := hS
  have HV : Hid (VsAt w a n v) := hv
  have HU : Hid (VsAt w b m u) := hu
  have HM : Hid (∀ i, i < n → VlOk (ovr m u v i)) := hm0
  clear hS hv hu hm0
  go_enter Tryd.func22, Tryd.ntmps22
  go_wp2_with (first | (go_at_call 35; refine (Clone_of _ _ _ v _ HV.out hn (by omega)).mono ?_; rintro e w1 ⟨g, c, rfl, hg, hr, hb⟩; obtain ⟨cur, r1, r2, r3⟩ := hr; have R1 : Hid _ := r1; have R2 : Hid (n * 3 ≤ cur.size) := r2; have R3 : Hid _ := r3; have HB : Hid _ := hb; have U1 : Hid (VsAt w1 b m u) := HU.out.below hb; clear r1 r2 r3 hb) | (refine wpList_copy_sz rfl _ _ 30 30 rfl 34 3 Tryd.underlying30 (by kernel_rfl) g n c b m capm rfl rfl cur _ R1.out (flV m u) hm (flV_len m u) (flV_src U1.out) (by rw [flV_len]; have := R2.out; omega) (flV_one m u) ?_; have RO : Hid (Row3 (w1.setRow g (flV m u ++ cur.toList.drop (flV m u).length).toArray) g n (ovr m u v)) := Row3.over R1.out R2.out R3.out hm; have BO : Hid (Below w.heap.size w (w1.setRow g (flV m u ++ cur.toList.drop (flV m u).length).toArray)) := below_setRow HB.out hg _; generalize hw2 : w1.setRow g (flV m u ++ cur.toList.drop (flV m u).length).toArray = w2 at *; clear hw2) | (go_at_call 18; refine (HS.out _ _ (ovr m u v) _ RO.out.at HM.out ht).mono ?_; rintro e w3 ⟨g3, rfl, hg3, hr3, hb3⟩; have R4 : Hid _ := hr3; have HB3 : Hid _ := hb3; clear hr3 hb3))
  go_ret
  exact ⟨g3, rfl, Nat.le_trans BO.out.size hg3, R4.out, BO.out.trans (HB3.out.mono BO.out.size)⟩
theorem VlOk_bit (p : Bool) : VlOk (bitV p) := by cases p <;> exact ⟨by decide, by decide, by decide, by decide, by decide⟩
theorem may_bit (p : Bool) : may3 1 (tN p) ⟨#[]⟩ = true := by cases p <;> simp [may3, mayW, tN]
/-- Three BOOLs. -/
def bits3 (x y z : Bool) (i : Nat) : Vl := if i = 0 then bitV x else if i = 1 then bitV y else bitV z
theorem bits3_ok (x y z : Bool) (i : Nat) : VlOk (bits3 x y z i) := by
  unfold bits3; split
  · exact VlOk_bit _
  split
  · exact VlOk_bit _
  · exact VlOk_bit _
theorem tk_bits {v : Nat → Vl} {n : Nat} {ks : ByteArray} (h : ∀ i, i < n → ∃ p, v i = bitV p ∧ kAt ks i = 1) : tkB ks v n = true := by
  refine (tkB_t (fun i hi => ?_)).symm
  obtain ⟨p, e, k⟩ := h i hi
  rw [e, k]; exact ⟨rfl, may_bit p⟩
end Go.Proofs.YtjnegbjgogkamaaDoor
