/- What the statements' own call answers: a function of a name is looked up and called; no statement of the seat is proved here. -/
import Derived.Test.YtkanhbokdjppoaaGreatDoorStdE
import Derived.Test.YtkanhbokdjppoaaGreatDoorStdD
namespace Go.Proofs.YtkanhbokdjppoaaGreatDoor
set_option linter.unusedVariables false
open Go.RowKit
section
variable (nm : ByteArray) (a : Addr) (n cap : Nat) (v : Nat → Vl) (w : World)
theorem VB.set {W : World} {h : Nat} {k b rk rb : Int} {s rs : ByteArray} (a : VB W h k b s) : VB (((W.setCell ⟨h, 0, none⟩ (.int .u8 rk)).setCell ⟨h, 1, none⟩ (.int .u64 rb)).setCell ⟨h, 2, none⟩ (.string rs)) h rk rb rs := by
  obtain ⟨a0, a1, a2, a3, a4, a5⟩ := a
  exact ⟨by simp [go_sem, *], by simp [go_sem, *], by simp [go_sem, *], by simp [*], by simp [*], by simp [*]⟩
theorem last_srcB (w : World) (X : Obj) (l : List Value) (t : TypeId) : ∀ j u, l[j]? = some u → ((w.alloc X).alloc (.cells l.toArray t)).cell? ((⟨w.heap.size + 1, 0, none⟩ : Addr).add j) = some u := by
  have := last_src (w.alloc X) l t
  rwa [World.size_alloc] at this
set_option maxHeartbeats 4000000 in
theorem call_no (hv : VsAt w a n v) (hn : n < 1000000) (h0 : 0 < n)
    (hF : ∀ W g c, Below w.heap.size w W → KsAt W ⟨g, 0, none⟩ n (fun i => (v i).k) → n ≤ c → Calls Tryz.prog 8 #[.string nm, .slice (some ⟨g, 0, none⟩) n c] W fun e w' => e = .returned (.tuple #[.int .i64 0, .int .u8 0, .int .i64 91]) ∧ Below W.heap.size W w') :
    Calls Tryz.prog 19 #[.string nm, .slice (some a) n cap] w fun e w' => e = .returned (.tuple #[V 0 0 E0, .bool false]) ∧ Below w.heap.size w w' := by
  have HV : Hid (VsAt w a n v) := hv
  have HF : Hid _ := hF
  clear hv hF
  have I : Hid (∃ i, Tryz.prog.info? 24 = some i ∧ i.zero = some (.int .u8 0) ∧ i.size = 1 ∧ i.bytes = 1) := by
    obtain ⟨i, hi, hz⟩ := Option.map_eq_some_iff.1 (show (Tryz.prog.info? 24).map (fun i => (i.zero, i.size, i.bytes)) = some (some (.int .u8 0), 1, 1) by kernel_rfl)
    simp only [Prod.mk.injEq] at hz
    exact ⟨i, hi, hz.1, hz.2.1, hz.2.2⟩
  go_enter Tryz.func19, Tryz.ntmps19
  go_wp2
  have B2 : Hid (Below w.heap.size w (w.alloc (.cells #[.int .u8 0, .int .u64 0, .string ⟨#[]⟩] 38))) := (Below.refl _ _).alloc (Nat.le_refl _) _
  have RB : Hid (VB (w.alloc (.cells #[.int .u8 0, .int .u64 0, .string ⟨#[]⟩] 38)) w.heap.size 0 0 E0) := ⟨by simp, by simp, by simp, by simp, by simp, by simp⟩
  generalize (w.alloc (.cells #[.int .u8 0, .int .u64 0, .string ⟨#[]⟩] 38)) = w2 at *
  have z2 : w.heap.size < w2.heap.size := block_lt_of_cell RB.out.c0
  go_loopw [6, 16] (fun x i wr => ∃ k : Nat, k ≤ n ∧ i = .int .i64 k ∧ wr.ownsRow w2.heap.size 24 1 x k (ksL k fun i => (v i).k) ∧ Below w2.heap.size w2 wr) (fun _ i _ => n - (intOf i).toNat)
  case atStart => exact ⟨0, Nat.zero_le _, rfl, ⟨rfl, .inl ⟨rfl, rfl⟩⟩, Below.refl _ _⟩
  case round =>
    obtain ⟨k, hk, rfl, hown, hb⟩ := hrel
    have HB : Hid (Below w2.heap.size w2 wr) := hb
    have HR : Hid (wr.ownsRow w2.heap.size 24 1 _ k (ksL k fun i => (v i).k)) := hown
    have Bw : Hid (Below w.heap.size w wr) := B2.out.trans (hb.mono B2.out.size)
    have zr := hb.size
    by_cases hlt : k < n
    · obtain ⟨d0, d1, d2⟩ := HV.out.below Bw.out k hlt
      clear hown hb
      go_wp2_with (at_builtin; obtain ⟨i, hi, hz, hs, hy⟩ := I.out; refine wpList_append_own _ rfl _ _ 22 rfl w2.heap.size 24 i _ 1 1 Tryz.underlying22 hi hz hs hy rfl (by decide) _ k _ rfl (ownsRow_below (ownsRow_below HR.out ((Below.refl _ _).alloc (Nat.le_refl _) _)) ((Below.refl _ _).alloc (Nat.le_refl _) _)) ⟨wr.heap.size + 1, 0, none⟩ 1 1 [.int .u8 (v k).k] rfl rfl (last_srcB wr _ _ _) (by intro u hu; simp at hu; subst hu; rfl) (by simp [maxLen]; omega) (by omega) (by simp; omega) ?_; intro v' w' k1 k2 k3; have H1 : Hid (w'.ownsRow w2.heap.size 24 1 v' (k + 1) (ksL (k + 1) fun i => (v i).k)) := (by rw [ksL_succ]; exact k1); have H2 : Hid _ := k2; clear k1 k2 k3 hi hz hs hy)
      exact ⟨⟨k + 1, by omega, by go_num, H1.out, ((HB.out.alloc zr _).alloc (by simp; omega) _).grown H2.out (by simp; omega) (fun g e => ownB HR.out e)⟩, by simp [intOf]; omega⟩
    · obtain rfl : k = n := by omega
      obtain ⟨g, c, rfl, hg, hks, hcap⟩ := own_kinds HR.out h0
      have HCP : Hid (k ≤ c) := hcap
      clear hcap
      have KS : Hid (KsAt wr ⟨g, 0, none⟩ k fun i => (v i).k) := hks
      clear hown hb hks hg
      go_wp2_with (first | (go_at_call 8; refine (HF.out _ g c Bw.out KS.out HCP.out).mono ?_; rintro e w6 ⟨rfl, hb6⟩; have HB6 : Hid (Below wr.heap.size wr w6) := hb6; obtain ⟨r0, r1, r2, r3, r4, r5⟩ := (RB.out.below HB.out).below HB6.out; clear hb6))
      have BB : Hid (Below w.heap.size w w6) := Bw.out.trans (HB6.out.mono Bw.out.size)
      exact bodyPost_ret (v := .tuple #[V 0 0 E0, .bool false]) (by simp [results, Tryz.results19, go_sem, r0, r1, r2]) rfl ⟨rfl, ((BB.out.setCell (by simp) _).setCell (by simp) _).setCell (by simp) _⟩
set_option maxHeartbeats 4000000 in
theorem call_yes (hv : VsAt w a n v) (hn : n < 1000000) (h0 : 0 < n) (K R rk rb fa : Int) (rs : ByteArray)
    (hF : ∀ W g c, Below w.heap.size w W → KsAt W ⟨g, 0, none⟩ n (fun i => (v i).k) → n ≤ c → Calls Tryz.prog 8 #[.string nm, .slice (some ⟨g, 0, none⟩) n c] W fun e w' => e = .returned (.tuple #[.int .i64 K, .int .u8 R, .int .i64 0]) ∧ Below W.heap.size W w')
    (hG : ∀ W, Below w.heap.size w W → Calls Tryz.prog 35 #[.int .i64 K, .slice (some a) n cap] W fun e w' => e = .returned (.tuple #[V rk rb rs, .int .i64 fa]) ∧ Below W.heap.size W w') :
    Calls Tryz.prog 19 #[.string nm, .slice (some a) n cap] w fun e w' => e = .returned (.tuple #[V rk rb rs, .bool (fa == 0)]) ∧ Below w.heap.size w w' := by
  have HV : Hid (VsAt w a n v) := hv
  have HF : Hid _ := hF
  have HG : Hid _ := hG
  clear hv hF hG
  have I : Hid (∃ i, Tryz.prog.info? 24 = some i ∧ i.zero = some (.int .u8 0) ∧ i.size = 1 ∧ i.bytes = 1) := by
    obtain ⟨i, hi, hz⟩ := Option.map_eq_some_iff.1 (show (Tryz.prog.info? 24).map (fun i => (i.zero, i.size, i.bytes)) = some (some (.int .u8 0), 1, 1) by kernel_rfl)
    simp only [Prod.mk.injEq] at hz
    exact ⟨i, hi, hz.1, hz.2.1, hz.2.2⟩
  go_enter Tryz.func19, Tryz.ntmps19
  go_wp2
  have B2 : Hid (Below w.heap.size w (w.alloc (.cells #[.int .u8 0, .int .u64 0, .string ⟨#[]⟩] 38))) := (Below.refl _ _).alloc (Nat.le_refl _) _
  have RB : Hid (VB (w.alloc (.cells #[.int .u8 0, .int .u64 0, .string ⟨#[]⟩] 38)) w.heap.size 0 0 E0) := ⟨by simp, by simp, by simp, by simp, by simp, by simp⟩
  generalize (w.alloc (.cells #[.int .u8 0, .int .u64 0, .string ⟨#[]⟩] 38)) = w2 at *
  have z2 : w.heap.size < w2.heap.size := block_lt_of_cell RB.out.c0
  go_loopw [6, 16] (fun x i wr => ∃ k : Nat, k ≤ n ∧ i = .int .i64 k ∧ wr.ownsRow w2.heap.size 24 1 x k (ksL k fun i => (v i).k) ∧ Below w2.heap.size w2 wr) (fun _ i _ => n - (intOf i).toNat)
  case atStart => exact ⟨0, Nat.zero_le _, rfl, ⟨rfl, .inl ⟨rfl, rfl⟩⟩, Below.refl _ _⟩
  case round =>
    obtain ⟨k, hk, rfl, hown, hb⟩ := hrel
    have HB : Hid (Below w2.heap.size w2 wr) := hb
    have HR : Hid (wr.ownsRow w2.heap.size 24 1 _ k (ksL k fun i => (v i).k)) := hown
    have Bw : Hid (Below w.heap.size w wr) := B2.out.trans (hb.mono B2.out.size)
    have zr := hb.size
    by_cases hlt : k < n
    · obtain ⟨d0, d1, d2⟩ := HV.out.below Bw.out k hlt
      clear hown hb
      go_wp2_with (at_builtin; obtain ⟨i, hi, hz, hs, hy⟩ := I.out; refine wpList_append_own _ rfl _ _ 22 rfl w2.heap.size 24 i _ 1 1 Tryz.underlying22 hi hz hs hy rfl (by decide) _ k _ rfl (ownsRow_below (ownsRow_below HR.out ((Below.refl _ _).alloc (Nat.le_refl _) _)) ((Below.refl _ _).alloc (Nat.le_refl _) _)) ⟨wr.heap.size + 1, 0, none⟩ 1 1 [.int .u8 (v k).k] rfl rfl (last_srcB wr _ _ _) (by intro u hu; simp at hu; subst hu; rfl) (by simp [maxLen]; omega) (by omega) (by simp; omega) ?_; intro v' w' k1 k2 k3; have H1 : Hid (w'.ownsRow w2.heap.size 24 1 v' (k + 1) (ksL (k + 1) fun i => (v i).k)) := (by rw [ksL_succ]; exact k1); have H2 : Hid _ := k2; clear k1 k2 k3 hi hz hs hy)
      exact ⟨⟨k + 1, by omega, by go_num, H1.out, ((HB.out.alloc zr _).alloc (by simp; omega) _).grown H2.out (by simp; omega) (fun g e => ownB HR.out e)⟩, by simp [intOf]; omega⟩
    · obtain rfl : k = n := by omega
      obtain ⟨g, c, rfl, hg, hks, hcap⟩ := own_kinds HR.out h0
      have HCP : Hid (k ≤ c) := hcap
      clear hcap
      have KS : Hid (KsAt wr ⟨g, 0, none⟩ k fun i => (v i).k) := hks
      clear hown hb hks hg
      go_wp2_with (first | (go_at_call 8; refine (HF.out _ g c Bw.out KS.out HCP.out).mono ?_; rintro e w6 ⟨rfl, hb6⟩; have HB6 : Hid (Below wr.heap.size wr w6) := hb6; have BB : Hid (Below w.heap.size w w6) := Bw.out.trans (HB6.out.mono Bw.out.size); clear hb6) | (go_at_call 35; refine (HG.out _ BB.out).mono ?_; rintro e w7 ⟨rfl, hb7⟩; have HB7 : Hid (Below w6.heap.size w6 w7) := hb7; obtain ⟨r0, r1, r2, r3, r4, r5⟩ := ((RB.out.below HB.out).below HB6.out).below HB7.out; have l7 : w.heap.size < w7.heap.size := block_lt_of_cell r0; have l8 : ¬ w.heap.size = w7.heap.size := (by omega); clear hb7))
      have B7 : Hid (Below w.heap.size w w7) := BB.out.trans (HB7.out.mono BB.out.size)
      obtain ⟨m0, m1, m2, _, _, _⟩ := (VB.set (rk := rk) (rb := rb) (rs := rs) (((RB.out.below HB.out).below HB6.out).below HB7.out)).below (w' := World.alloc _ (.cells #[.int .u8 rk, .int .u64 rb, .string rs] 38)) ((Below.refl _ _).alloc (Nat.le_refl _) _)
      exact bodyPost_ret (v := .tuple #[V rk rb rs, .bool (fa == 0)]) (by simp [results, Tryz.results19, go_sem, m0, m1, m2]) rfl ⟨rfl, (((B7.out.setCell (by simp) _).setCell (by simp) _).setCell (by simp) _).alloc (by simp; omega) _⟩
end
end Go.Proofs.YtkanhbokdjppoaaGreatDoor
