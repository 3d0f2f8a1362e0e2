/- il's sameness of lists of instructions; no statement of the seat is proved here. -/
import Derived.Test.YteffdmjleihhdaaIlF
namespace Go.Proofs.Yteffdmjleihhdaa
set_option linter.unusedVariables false
open Go.RowKit
set_option maxHeartbeats 1000000 in
theorem SameS_of (d : Nat) (hd : d ≤ 131072) (w : World) (x x' : Option Addr) (l l' : List St) (c c' : Nat) (h : StL (fun b => b < w.heap.size) d w x l) (h' : StL (fun b => b < w.heap.size) d w x' l') :
    Calls Try.prog 17 #[.slice x l.length c, .slice x' l'.length c'] w fun e w' => e = .returned (.bool (smL (smS d) l l')) ∧ Below w.heap.size w w' := by
  have C : Hid (∀ W, W = w → Calls Try.prog 24 #[.slice x l.length c, .slice x' l'.length c', .int .i64 0] W fun e w' => e = .returned (.bool (smL (smS d) l l')) ∧ Below W.heap.size W w') := fun W e => by subst e; exact ssL_of d W x x' l l' c c' 0 h h' (by omega) (by omega)
  clear h h'
  generalize smL (smS d) l l' = r at *
  go_enter Try.func17, Try.ntmps17
  go_wp2_with (go_at_call 24; refine (C.out _ rfl).mono ?_; rintro e w1 ⟨rfl, hb⟩; have HB : Hid (Below w.heap.size w w1) := hb; clear hb)
  go_ret
  exact ⟨rfl, HB.out⟩
/-- A call in a row of its own. -/
theorem one_row {S : Nat → Prop} {w : World} {g d : Nat} {h : IH} {ag os : List Ex} {ns on : List ByteArray} {x1 x2 x3 x4 : Option Addr} {c1 c2 c3 c4 : Nat} (hg : S g)
    (b : w.heap[g]? = some (.cells #[.int .i64 10, .int .i64 0, .string h.nm, .int .i64 0, .slice x1 ag.length c1, .slice x2 ns.length c2, .slice x3 os.length c3, .slice x4 on.length c4, .slice none 0 0, .slice none 0 0, .slice none 0 0, .int .u8 0, .int .i64 0, .int .i64 0] 38))
    (k1 : KdF S d w x1 ag) (k2 : NmF S w x2 ns) (f2 : few ns.length) (k3 : KdF S d w x3 os) (k4 : NmF S w x4 on) (f4 : few on.length) : StL S (d + 1) w (some ⟨g, 0, none⟩) [.mk ⟨10, 0, h.nm, 0, 0, 0, 0⟩ ag ns os on [] [] []] := by
  refine ⟨by show 1 < 549755813888; decide, fun e => (by cases e), fun q e i s hs => ?_⟩
  cases e
  have hi : i = 0 := by
    have := (List.getElem?_eq_some_iff.1 hs).1
    simp at this
    exact this
  subst hi
  simp at hs
  subst hs
  have ad : (⟨g, 0, none⟩ : Addr).add (0 * 14) = ⟨g, 0, none⟩ := by unfold Addr.add; simp
  rw [ad]
  refine ⟨hg, x1, c1, x2, c2, x3, c3, x4, c4, none, 0, none, 0, none, 0, ?_, k1, k2, f2, k3, k4, f4, ⟨⟨fun _ => rfl, fun a e => by cases e⟩, fun a e => by cases e⟩, by decide, by decide, fun _ => rfl, fun q e => (by cases e), by decide, fun _ => rfl, fun q e => (by cases e)⟩
  refine ⟨?_, ?_, ?_, ?_, ?_, ?_, ?_, ?_, ?_, ?_, ?_, ?_, ?_, ?_⟩ <;> simp [World.cell?, b]
theorem ilX (d : Nat) (hd : d + 1 ≤ 131072) (w : World) (v v' : Value) (t t' : Il) (hv : IvF (fun b => b < w.heap.size) d w v t) (hv' : IvF (fun b => b < w.heap.size) d w v' t') :
    Calls Try.prog 11 #[v, v'] w fun e w' => e = .returned (.bool (smI d t t')) ∧ Below w.heap.size w w' := by
  obtain ⟨x1, c1, x2, c2, x3, c3, x4, c4, rfl, hp⟩ := hv
  obtain ⟨y1, e1, y2, e2, y3, e3, y4, e4, rfl, hq⟩ := hv'
  unfold smI hdI
  cases f1 : (t.h.lb.toList == t'.h.lb.toList)
  · exact diffI_0 t.h t'.h x1 x2 x3 x4 y1 y2 y3 y4 _ _ _ _ c1 c2 c3 c4 _ _ _ _ e1 e2 e3 e4 w f1
  · cases f2 : (t.h.op.toList == t'.h.op.toList)
    · exact diffI_1 t.h t'.h x1 x2 x3 x4 y1 y2 y3 y4 _ _ _ _ c1 c2 c3 c4 _ _ _ _ e1 e2 e3 e4 w f1 f2
    · cases f3 : (t.h.nt == t'.h.nt)
      · exact diffI_2 t.h t'.h x1 x2 x3 x4 y1 y2 y3 y4 _ _ _ _ c1 c2 c3 c4 _ _ _ _ e1 e2 e3 e4 w f1 f2 f3
      · cases f4 : (t.h.cd == t'.h.cd)
        · exact diffI_3 t.h t'.h x1 x2 x3 x4 y1 y2 y3 y4 _ _ _ _ c1 c2 c3 c4 _ _ _ _ e1 e2 e3 e4 w f1 f2 f3 f4
        · cases f5 : (t.h.ob == t'.h.ob)
          · exact diffI_4 t.h t'.h x1 x2 x3 x4 y1 y2 y3 y4 _ _ _ _ c1 c2 c3 c4 _ _ _ _ e1 e2 e3 e4 w f1 f2 f3 f4 f5
          · refine sameI t.h t'.h x1 x2 x3 x4 y1 y2 y3 y4 _ _ _ _ c1 c2 c3 c4 _ _ _ _ e1 e2 e3 e4 w _ f1 f2 f3 f4 f5 fun W g1 g2 hb b1 b2 => ?_
            have p := hp.on hb
            have q := hq.on hb
            exact SameS_of (d + 1) hd W _ _ [ilS t] [ilS t'] 1 1 (one_row (lt_of_block b1) b1 p.1 p.2.1.1 p.2.1.2 p.2.2.1 p.2.2.2.1 p.2.2.2.2) (one_row (lt_of_block b2) b2 q.1 q.2.1.1 q.2.1.2 q.2.2.1 q.2.2.2.1 q.2.2.2.2)
theorem enter_il (args : Array Value) (w : World) : (callFunc 11 args).run Try.prog w = .ok (.enter 11 args) w := by kernel_rfl
set_option maxHeartbeats 1000000 in
theorem SameI_of (d : Nat) (hd : d + 1 ≤ 131072) (w : World) (x x' : Option Addr) (l l' : List Il) (c c' : Nat) (h : IlL (fun b => b < w.heap.size) d w x l) (h' : IlL (fun b => b < w.heap.size) d w x' l') :
    Calls Try.prog 5 #[.slice x l.length c, .slice x' l'.length c'] w fun e w' => e = .returned (.bool (smL (smI d) l l')) ∧ Below w.heap.size w w' := by
  have C : Hid (∀ W, W = w → Calls Try.prog 10 #[.slice x l.length c, .slice x' l'.length c', .func (.func 11) #[] #[]] W fun e w' => e = .returned (.bool (smL (smI d) l l')) ∧ Below W.heap.size W w') := fun W e => by
    subst e
    exact EqualFI 11 d (smI d) x x' l l' c c' W h h' enter_il fun W' v v' t t' hb _ hv hv' => ilX d hd W' v v' t t' (hv.sub fun b q => Nat.lt_of_lt_of_le q hb.size) (hv'.sub fun b q => Nat.lt_of_lt_of_le q hb.size)
  clear h h'
  generalize smL (smI d) l l' = r at *
  go_enter Try.func5, Try.ntmps5
  go_wp2_with (go_at_call 10; refine (C.out _ rfl).mono ?_; rintro e w1 ⟨rfl, hb⟩; have HB : Hid (Below w.heap.size w w1) := hb; clear hb)
  go_ret
  exact ⟨rfl, HB.out⟩
end Go.Proofs.Yteffdmjleihhdaa
