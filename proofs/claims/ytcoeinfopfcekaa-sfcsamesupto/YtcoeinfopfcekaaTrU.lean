/- st's sameness of statements, of any depth; no statement of the seat is proved here. -/
import Derived.Test.YtcoeinfopfcekaaTrR
import Derived.Test.YtcoeinfopfcekaaTrS
import Derived.Test.YtcoeinfopfcekaaTrT
import Derived.Test.YtcoeinfopfcekaaTrU0
namespace Go.Proofs.Ytcoeinfopfcekaa
set_option linter.unusedVariables false
open Go.RowKit
section
variable (h h' : SH) (x1 x1' x2 x2' x3 x3' x4 x4' x5 x5' x6 x6' x7 x7' : Option Addr) (n1 n1' c1 c1' n2 n2' c2 c2' n3 n3' c3 c3' n4 n4' c4 c4' n5 n5' c5 c5' n6 n6' c6 c6' n7 n7' c7 c7' : Nat) (N : Int) (w : World)
theorem sameS (r1 r2 r3 r4 r5 r6 r7 : Bool) (hN : N ≤ 131072) 
    (P1 : ∀ W, Below w.heap.size w W → Calls Try.prog 23 #[.slice x2 n2 c2, .slice x2' n2' c2'] W fun e w' => e = .returned (.bool r1) ∧ Below W.heap.size W w')
    (P2 : ∀ W, Below w.heap.size w W → Calls Try.prog 23 #[.slice x4 n4 c4, .slice x4' n4' c4'] W fun e w' => e = .returned (.bool r2) ∧ Below W.heap.size W w')
    (P3 : ∀ W, Below w.heap.size w W → Calls Try.prog 36 #[.slice x5 n5 c5, .slice x5' n5' c5'] W fun e w' => e = .returned (.bool r3) ∧ Below W.heap.size W w')
    (P4 : ∀ W, Below w.heap.size w W → Calls Try.prog 42 #[.slice x1 n1 c1, .slice x1' n1' c1', .int .i64 N] W fun e w' => e = .returned (.bool r4) ∧ Below W.heap.size W w')
    (P5 : ∀ W, Below w.heap.size w W → Calls Try.prog 42 #[.slice x3 n3 c3, .slice x3' n3' c3', .int .i64 N] W fun e w' => e = .returned (.bool r5) ∧ Below W.heap.size W w')
    (P6 : ∀ W, Below w.heap.size w W → Calls Try.prog 37 #[.slice x6 n6 c6, .slice x6' n6' c6', .int .i64 N] W fun e w' => e = .returned (.bool r6) ∧ Below W.heap.size W w')
    (P7 : ∀ W, Below w.heap.size w W → Calls Try.prog 37 #[.slice x7 n7 c7, .slice x7' n7' c7', .int .i64 N] W fun e w' => e = .returned (.bool r7) ∧ Below W.heap.size W w') :
    Calls Try.prog 41 #[SV h (.slice x1 n1 c1) (.slice x2 n2 c2) (.slice x3 n3 c3) (.slice x4 n4 c4) (.slice x5 n5 c5) (.slice x6 n6 c6) (.slice x7 n7 c7), SV h' (.slice x1' n1' c1') (.slice x2' n2' c2') (.slice x3' n3' c3') (.slice x4' n4' c4') (.slice x5' n5' c5') (.slice x6' n6' c6') (.slice x7' n7' c7'), .int .i64 N] w fun e w' => e = .returned (.bool (hdT h h' && (r1 && r2 && r3 && r4 && r5 && r6 && r7))) ∧ Below w.heap.size w w' := by
  unfold hdT
  cases f1 : (h.op == h'.op)
  · cases f3 : (h.nu == h'.nu)
    · cases f4 : (h.op == 5)
      · exact diffS_ox h h' x1 x1' x2 x2' x3 x3' x4 x4' x5 x5' x6 x6' x7 x7' n1 n1' c1 c1' n2 n2' c2 c2' n3 n3' c3 c3' n4 n4' c4 c4' n5 n5' c5 c5' n6 n6' c6 c6' n7 n7' c7 c7' N w hN f1 f3 f4
      · exact diffS_of h h' x1 x1' x2 x2' x3 x3' x4 x4' x5 x5' x6 x6' x7 x7' n1 n1' c1 c1' n2 n2' c2 c2' n3 n3' c3 c3' n4 n4' c4 c4' n5 n5' c5 c5' n6 n6' c6 c6' n7 n7' c7 c7' N w hN f1 f3 f4
    · exact diffS_on h h' x1 x1' x2 x2' x3 x3' x4 x4' x5 x5' x6 x6' x7 x7' n1 n1' c1 c1' n2 n2' c2 c2' n3 n3' c3 c3' n4 n4' c4 c4' n5 n5' c5 c5' n6 n6' c6 c6' n7 n7' c7 c7' N w hN f1 f3
  · cases f2 : (h.nm.toList == h'.nm.toList)
    · cases f3 : (h.nu == h'.nu)
      · cases f4 : (h.op == 5)
        · exact diffS_mx h h' x1 x1' x2 x2' x3 x3' x4 x4' x5 x5' x6 x6' x7 x7' n1 n1' c1 c1' n2 n2' c2 c2' n3 n3' c3 c3' n4 n4' c4 c4' n5 n5' c5 c5' n6 n6' c6 c6' n7 n7' c7 c7' N w hN f1 f2 f3 f4
        · exact diffS_mf h h' x1 x1' x2 x2' x3 x3' x4 x4' x5 x5' x6 x6' x7 x7' n1 n1' c1 c1' n2 n2' c2 c2' n3 n3' c3 c3' n4 n4' c4 c4' n5 n5' c5 c5' n6 n6' c6 c6' n7 n7' c7 c7' N w hN f1 f2 f3 f4
      · exact diffS_mn h h' x1 x1' x2 x2' x3 x3' x4 x4' x5 x5' x6 x6' x7 x7' n1 n1' c1 c1' n2 n2' c2 c2' n3 n3' c3 c3' n4 n4' c4 c4' n5 n5' c5 c5' n6 n6' c6 c6' n7 n7' c7 c7' N w hN f1 f2 f3
    · cases f3 : (h.nu == h'.nu)
      · cases f4 : (h.op == 5)
        · exact diffS_x h h' x1 x1' x2 x2' x3 x3' x4 x4' x5 x5' x6 x6' x7 x7' n1 n1' c1 c1' n2 n2' c2 c2' n3 n3' c3 c3' n4 n4' c4 c4' n5 n5' c5 c5' n6 n6' c6 c6' n7 n7' c7 c7' N w hN f1 f2 f3 f4
        · exact sameS_f h h' x1 x1' x2 x2' x3 x3' x4 x4' x5 x5' x6 x6' x7 x7' n1 n1' c1 c1' n2 n2' c2 c2' n3 n3' c3 c3' n4 n4' c4 c4' n5 n5' c5 c5' n6 n6' c6 c6' n7 n7' c7 c7' N w r1 r2 r3 r4 r5 r6 r7 hN f1 f2 f3 f4 P1 P2 P3 P4 P5 P6 P7
      · exact sameS_n h h' x1 x1' x2 x2' x3 x3' x4 x4' x5 x5' x6 x6' x7 x7' n1 n1' c1 c1' n2 n2' c2 c2' n3 n3' c3 c3' n4 n4' c4 c4' n5 n5' c5 c5' n6 n6' c6 c6' n7 n7' c7 c7' N w r1 r2 r3 r4 r5 r6 r7 hN f1 f2 f3 P1 P2 P3 P4 P5 P6 P7
set_option maxRecDepth 20000 in
set_option maxHeartbeats 4000000 in
theorem sameS1 (p : Nat) (r : Bool) (v v' : Value) (hv : v = SV h (.slice x1 n1 c1) (.slice x2 n2 c2) (.slice x3 n3 c3) (.slice x4 n4 c4) (.slice x5 n5 c5) (.slice x6 n6 c6) (.slice x7 n7 c7)) (hv' : v' = SV h' (.slice x1' n1' c1') (.slice x2' n2' c2') (.slice x3' n3' c3') (.slice x4' n4' c4') (.slice x5' n5' c5') (.slice x6' n6' c6') (.slice x7' n7' c7')) (hp : w.cell? ⟨p, 0, none⟩ = some (.int .i64 N)) (hN : 0 ≤ N) (hM : N ≤ 1000000)
    (S : ∀ W, Below w.heap.size w W → Calls Try.prog 41 #[v, v', .int .i64 (N + 1)] W fun e w' => e = .returned (.bool r) ∧ Below W.heap.size W w') :
    Calls Try.prog 40 #[v, v', .pointer (some ⟨p, 0, none⟩)] w fun e w' => e = .returned (.bool r) ∧ Below w.heap.size w w' := by
  subst hv hv'
  have HS : Hid _ := S
  have zp := block_lt_of_cell hp
  have ew : wrap64 (N + 1) = N + 1 := by unfold wrap64; omega
  clear S
  go_enter Try.func40, Try.ntmps40
  go_wp2_with (first | (go_at_call 41; refine (HS.out _ (((Below.refl _ _).alloc (Nat.le_refl _) _).alloc (by simp) _)).mono ?_; rintro e w1 ⟨rfl, hb⟩; have HB : Hid (Below w.heap.size w w1) := (((Below.refl _ _).alloc (Nat.le_refl _) _).alloc (by simp) _).trans (hb.mono (by simp; omega)); clear hb))
  go_ret
  exact ⟨rfl, HB.out⟩
end
section
variable (x x' : Option Addr) (n n' c c' : Nat) (N : Int) (w : World)
set_option maxRecDepth 20000 in
set_option maxHeartbeats 4000000 in
theorem sameS0 (r : Bool) (E : ∀ W p, Below w.heap.size w W → W.cell? ⟨p, 0, none⟩ = some (.int .i64 N) → Calls Try.prog 39 #[.slice x n c, .slice x' n' c', .func (.func 40) #[] #[.pointer (some ⟨p, 0, none⟩)]] W fun e w' => e = .returned (.bool r) ∧ Below W.heap.size W w') :
    Calls Try.prog 37 #[.slice x n c, .slice x' n' c', .int .i64 N] w fun e w' => e = .returned (.bool r) ∧ Below w.heap.size w w' := by
  have HE : Hid _ := E
  clear E
  go_enter Try.func37, Try.ntmps37
  go_wp2_with fail
  refine (HE.out _ _ ((Below.refl _ _).alloc (Nat.le_refl _) _) (by simp)).mono ?_
  rintro e w1 ⟨rfl, hb⟩
  have HB : Hid (Below w.heap.size w w1) := ((Below.refl _ _).alloc (Nat.le_refl _) _).trans (hb.mono (by simp))
  clear hb
  go_wp2
  go_ret
  exact ⟨rfl, HB.out⟩
end
theorem enter_s1 (args : Array Value) (w : World) : (callFunc 40 args).run Try.prog w = .ok (.enter 40 args) w := by kernel_rfl
/-- What sameStmts answers. -/
def SsL (d : Nat) : Prop := ∀ (w : World) (x x' : Option Addr) (l l' : List St) (c c' : Nat) (N : Int), StL (fun b => b < w.heap.size) d w x l → StL (fun b => b < w.heap.size) d w x' l' → 0 ≤ N → N + d ≤ 131072 →
  Calls Try.prog 37 #[.slice x l.length c, .slice x' l'.length c', .int .i64 N] w fun e w' => e = .returned (.bool (smL (smS d) l l')) ∧ Below w.heap.size w w'
/-- What sameStmt answers. -/
def SsX (d : Nat) : Prop := ∀ (w : World) (v v' : Value) (e e' : St) (N : Int), SvF (fun b => b < w.heap.size) d w v e → SvF (fun b => b < w.heap.size) d w v' e' → 0 ≤ N → N + d ≤ 131072 →
  Calls Try.prog 41 #[v, v', .int .i64 N] w fun r w' => r = .returned (.bool (smS (d + 1) e e')) ∧ Below w.heap.size w w'
theorem ssX_of (d : Nat) (L : SsL d) : SsX d := by
  intro w v v' s s' N hv hv' h0 h1
  cases s with
  | mk h es ns os on rs b e =>
    cases s' with
    | mk h' es' ns' os' on' rs' b' e' =>
      obtain ⟨x1, c1, x2, c2, x3, c3, x4, c4, x5, c5, x6, c6, x7, c7, rfl, k1, m1, f1, k2, m2, f2, g1, f3, l1, l2⟩ := hv
      obtain ⟨y1, d1, y2, d2, y3, d3, y4, d4, y5, d5, y6, d6, y7, d7, rfl, k1', m1', f1', k2', m2', f2', g1', f3', l1', l2'⟩ := hv'
      exact sameS h h' x1 y1 x2 y2 x3 y3 x4 y4 x5 y5 x6 y6 x7 y7 _ _ c1 d1 _ _ c2 d2 _ _ c3 d3 _ _ c4 d4 _ _ c5 d5 _ _ c6 d6 _ _ c7 d7 N w _ _ _ _ _ _ _ (by omega)
        (fun W hb => EqualT _ _ ns ns' _ _ W (m1.on hb).1 (m1'.on hb).1 (Nat.lt_trans f1 (by decide)))
        (fun W hb => EqualT _ _ on on' _ _ W (m2.on hb).1 (m2'.on hb).1 (Nat.lt_trans f2 (by decide)))
        (fun W hb => EqualG _ _ rs rs' _ _ W (g1.on hb).1 (g1'.on hb).1 (Nat.lt_trans f3 (by decide)))
        (fun W hb => smL_of d W _ _ es es' _ _ N (k1.on hb).at (k1'.on hb).at h0 h1)
        (fun W hb => smL_of d W _ _ os os' _ _ N (k2.on hb).at (k2'.on hb).at h0 h1)
        (fun W hb => L W _ _ b b' _ _ N (l1.on hb) (l1'.on hb) h0 h1)
        (fun W hb => L W _ _ e e' _ _ N (l2.on hb) (l2'.on hb) h0 h1)
theorem ssL_of : ∀ d, SsL d
  | 0 => by
    intro w x x' l l' c c' N hk hk' h0 h1
    obtain rfl := hk.none0
    obtain rfl := hk'.none0
    exact sameS0 x x' 0 0 c c' N w _ fun W p hb hp => EqualFS 40 p 0 (smS 0) x x' [] [] c c' W ((hk.on hb).any) ((hk'.on hb).any) enter_s1 fun W v v' e e' _ hm => by simp at hm
  | d + 1 => by
    intro w x x' l l' c c' N hk hk' h0 h1
    refine sameS0 x x' l.length l'.length c c' N w _ fun W p hb hp => EqualFS 40 p d (smS (d + 1)) x x' l l' c c' W (hk.on hb) (hk'.on hb) enter_s1 fun W' v v' s s' hb' _ hv hv' => ?_
    have hp' := (hb'.cell (p := ⟨p, 0, none⟩) (block_lt_of_cell hp)).trans hp
    have X := ssX_of d (ssL_of d)
    have hw : SvF (fun b => b < W'.heap.size) d W' v s := hv.sub fun b q => Nat.lt_of_lt_of_le q hb'.size
    have hw' : SvF (fun b => b < W'.heap.size) d W' v' s' := hv'.sub fun b q => Nat.lt_of_lt_of_le q hb'.size
    cases s with
    | mk h es ns os on rs b e =>
      cases s' with
      | mk h' es' ns' os' on' rs' b' e' =>
        obtain ⟨x1, c1, x2, c2, x3, c3, x4, c4, x5, c5, x6, c6, x7, c7, e1, _⟩ := hv
        obtain ⟨y1, d1, y2, d2, y3, d3, y4, d4, y5, d5, y6, d6, y7, d7, e2, _⟩ := hv'
        exact sameS1 h h' x1 y1 x2 y2 x3 y3 x4 y4 x5 y5 x6 y6 x7 y7 _ _ c1 d1 _ _ c2 d2 _ _ c3 d3 _ _ c4 d4 _ _ c5 d5 _ _ c6 d6 _ _ c7 d7 N W' p _ v v' e1 e2 hp' h0 (by omega) fun W2 hb2 => X W2 v v' _ _ (N + 1) (hw.on hb2) (hw'.on hb2) (by omega) (by omega)
theorem ssX_any (d : Nat) : SsX d := ssX_of d (ssL_of d)
end Go.Proofs.Ytcoeinfopfcekaa
