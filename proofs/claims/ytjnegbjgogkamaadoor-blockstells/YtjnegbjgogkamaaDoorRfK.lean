/- The document's variables of a class and a kind, put behind others; no statement of the seat is proved here. -/
import Derived.Test.YtjnegbjgogkamaaDoorBlkI0
namespace Go.Proofs.YtjnegbjgogkamaaDoor
set_option linter.unusedVariables false
open Go.RowKit
/-- The cells of no variable. -/
def zR : Array Value := #[.string ⟨#[]⟩, .int .i64 0, .int .i64 0, .int .u8 0, .bool false, .int .i64 0, .int .i64 0, .int .i64 0, .bool false, .int .i64 0, .int .i64 0, .string ⟨#[]⟩, .slice none 0 0, .bool false, .bool false, .string ⟨#[]⟩]
theorem own_type {w : World} {base : Nat} {e t : TypeId} {size : Nat} {x : Value} {n : Nat} {xs : List Value} {g : Nat} {A : Array Value} {f : Nat × Nat} (h : w.ownsRow base e size x n xs) (hg : w.heap[g]? = some (.cells A t f)) (ne : e ≠ t) : x.ownBlock ≠ some g := by
  obtain ⟨_, h2⟩ := h
  rcases h2 with ⟨rfl, _⟩ | ⟨g', cap, cur, rfl, hb, hh, _⟩
  · simp [Value.ownBlock]
  · intro e'
    simp [Value.ownBlock] at e'
    subst e'
    rw [hh] at hg
    simp at hg
    exact ne hg.2.1
theorem own_blk {w : World} {base : Nat} {e : TypeId} {size : Nat} {x : Value} {n : Nat} {xs : List Value} (h : w.ownsRow base e size x n xs) {g : Nat} (hg : x.ownBlock = some g) : base ≤ g := by
  obtain ⟨_, h2⟩ := h
  rcases h2 with ⟨rfl, _⟩ | ⟨g', cap, cur, rfl, hb, _⟩
  · simp [Value.ownBlock] at hg
  · simp [Value.ownBlock] at hg; omega
set_option maxHeartbeats 2000000 in
theorem oneR_of (base : Nat) (x : Value) (n m : Nat) (vf : VrF) (cl kd : Int) (g capm : Nat) (A : Array Value) (w : World) (hown : w.ownsRow base 59 16 x n (vrL n vf)) (hbase : base ≤ w.heap.size) (hbg : base ≤ g)
    (hg : w.heap[g]? = some (.cells A 9 (0, 0))) (hA : ∀ i, i < m → A[i]? = some (.string (vf.nm (n + i)))) (hm : n + m ≤ 100) (hv : ∀ i, i < m → vf.cl (n + i) = cl ∧ vf.kd (n + i) = kd ∧ vf.ini (n + i) = .slice none 0 0) :
    Calls Tryd.prog 30 #[x, .int .i64 cl, .int .u8 kd, .slice (some ⟨g, 0, none⟩) m capm] w fun e w' => ∃ x', e = .returned x' ∧ w'.ownsRow base 59 16 x' (n + m) (vrL (n + m) vf) ∧ Below base w w' := by
  have HO : Hid _ := hown
  have HG : Hid _ := hg
  have HA : Hid _ := hA
  have HV : Hid _ := hv
  clear hown hg hA hv
  have I : Hid (∃ i, Tryd.prog.info? 59 = some i ∧ i.zero = some (.agg zR) ∧ i.size = 16 ∧ i.bytes = 152) := by
    obtain ⟨i, hi, hz⟩ := Option.map_eq_some_iff.1 (show (Tryd.prog.info? 59).map (fun i => (i.zero, i.size, i.bytes)) = some (some (.agg zR), 16, 152) by kernel_rfl)
    simp only [Prod.mk.injEq] at hz
    exact ⟨i, hi, hz.1, hz.2.1, hz.2.2⟩
  go_enter Tryd.func30, Tryd.ntmps30
  go_wp2_with fail
  go_loopw [0, 9] (fun v i wr => ∃ k : Nat, k ≤ m ∧ i = .int .i64 k ∧ wr.ownsRow base 59 16 v (n + k) (vrL (n + k) vf) ∧ wr.heap[g]? = some (.cells A 9 (0, 0)) ∧ Below base w wr) (fun _ i _ => m - (intOf i).toNat)
  case atStart => exact ⟨0, Nat.zero_le _, rfl, HO.out, HG.out, Below.refl _ _⟩
  case round =>
    obtain ⟨k, hk, rfl, hown, hgr, hb⟩ := hrel
    have HB : Hid (Below base w wr) := hb
    have HOk : Hid (wr.ownsRow base 59 16 _ (n + k) (vrL (n + k) vf)) := hown
    have HGk : Hid (wr.heap[g]? = some (.cells A 9 (0, 0))) := hgr
    by_cases hlt : k < m
    · have d : wr.cell? ⟨g, k, none⟩ = some (.string (vf.nm (n + k))) := by
        simp only [World.cell?, hgr]; simpa using HA.out k hlt
      have zg : g < wr.heap.size := lt_of_block hgr
      have SZ : Hid (base ≤ wr.heap.size) := by show base ≤ wr.heap.size; have := hb.size; omega
      obtain ⟨v1, v2, v3⟩ := HV.out k hlt
      have hlt' : (k : Int) < m := by omega
      have VC : Hid (vrC (vf.nm (n + k)) cl kd (.slice none 0 0) = vrC (vf.nm (n + k)) (vf.cl (n + k)) (vf.kd (n + k)) (vf.ini (n + k))) := by show _ = _; rw [v1, v2, v3]
      clear hown hgr hb v1 v2 v3
      go_wp2_with (at_builtin; obtain ⟨i, hi, hz, hs, hy⟩ := I.out; refine wpList_append_own _ rfl _ _ 27 rfl base 59 i _ 16 152 Tryd.underlying27 hi hz hs hy rfl (by decide) _ (n + k) _ rfl (ownsRow_below HOk.out ((Below.refl _ _).alloc (Nat.le_refl _) _)) ⟨wr.heap.size, 0, none⟩ 1 1 (vrC (vf.nm (n + k)) cl kd (.slice none 0 0)) rfl rfl (last_src wr _ _) (vrC_one _ _ _ _ rfl) (by simp [maxLen]; omega) (by omega) (by have := SZ.out; simp; omega) ?_; intro v' w' k1 k2 k3; rw [VC.out, ← vrL_succ (n + k) vf] at k1; have H1 : Hid (w'.ownsRow base 59 16 v' (n + (k + 1)) (vrL (n + (k + 1)) vf)) := k1; have H2 : Hid _ := k2; clear k1 k2 k3 hi hz hs hy)
      have NE := own_type HOk.out HGk.out (by decide)
      refine ⟨⟨k + 1, by omega, by go_num, H1.out, ?_, (HB.out.alloc SZ.out _).grown H2.out (by have := SZ.out; simp; omega) (fun g e => own_blk HOk.out e)⟩, by simp [intOf]; omega⟩
      exact (H2.out.block g (by simp; omega) (fun e => NE e.symm)).trans ((((Below.refl _ _).alloc (Nat.le_refl _) _).block g zg).trans HGk.out)
    · have ek : k = m := by omega
      subst ek
      clear hown hgr hb
      go_wp2
      go_ret
      exact ⟨_, rfl, HOk.out, HB.out⟩
end Go.Proofs.YtjnegbjgogkamaaDoor
