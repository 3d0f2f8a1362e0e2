/- sfc's sameness of links, steps and actions; a condition as a statement; no statement of the seat is proved here. -/
import Derived.Test.YtcoeinfopfcekaaSfB
import Derived.Test.YtcoeinfopfcekaaTrU
namespace Go.Proofs.Ytcoeinfopfcekaa
set_option linter.unusedVariables false
open Go.RowKit
theorem SameS_c (d : Nat) (hd : d ≤ 131072) (w : World) (x x' : Option Addr) (l l' : List St) (c c' : Nat) (h : StL (fun b => b < w.heap.size) d w x l) (h' : StL (fun b => b < w.heap.size) d w x' l') :
    Calls Try.prog 30 #[.slice x l.length c, .slice x' l'.length c'] w fun e w' => e = .returned (.bool (smL (smS d) l l')) ∧ Below w.heap.size w w' := by
  have C : Hid (∀ W, W = w → Calls Try.prog 37 #[.slice x l.length c, .slice x' l'.length c', .int .i64 0] W fun e w' => e = .returned (.bool (smL (smS d) l l')) ∧ Below W.heap.size W w') := fun W e => by subst e; exact ssL_of d W x x' l l' c c' 0 h h' (by omega) (by omega)
  clear h h'
  generalize smL (smS d) l l' = r at *
  go_enter Try.func30, Try.ntmps30
  go_wp2_with (go_at_call 37; refine (C.out _ rfl).mono ?_; rintro e w1 ⟨rfl, hb⟩; have HB : Hid (Below w.heap.size w w1) := hb; clear hb)
  go_ret
  exact ⟨rfl, HB.out⟩
theorem two_b (w : World) (X Y : Obj) : Below w.heap.size w ((w.alloc X).alloc Y) := ((Below.refl _ _).alloc (Nat.le_refl _) _).alloc (by simp) _
set_option maxHeartbeats 4000000 in
theorem sameLk_of (e e' : LkR) (w : World) :
    Calls Try.prog 29 #[.agg (lkC e).toArray, .agg (lkC e').toArray] w fun r w' => r = .returned (.bool (smLk e e')) ∧ Below w.heap.size w w' := by
  unfold smLk
  have GR : Hid (∀ X Y : Obj, Below w.heap.size w ((w.alloc X).alloc Y)) := two_b w
  show Calls _ _ #[.agg #[.int .i64 e.pl, .string e.ql, .int .i64 e.tm, .string e.nm], .agg #[.int .i64 e'.pl, .string e'.ql, .int .i64 e'.tm, .string e'.nm]] _ _
  cases f1 : (e.ql.toList == e'.ql.toList) <;> cases f2 : (e.tm == e'.tm) <;> cases f3 : (e.nm.toList == e'.nm.toList)
  all_goals
    go_enter Try.func29, Try.ntmps29
    go_wp2
    go_ret
    exact ⟨by first | rfl | simp, GR.out _ _⟩
theorem enter_lk (args : Array Value) (w : World) : (callFunc 29 args).run Try.prog w = .ok (.enter 29 args) w := by kernel_rfl
set_option maxHeartbeats 4000000 in
theorem sameSp_of (s s' : SpR) (x y : Option Addr) (c c' : Nat) (w : World) (h : RwF 4 (Is lkC) (fun b => b < w.heap.size) w x s.ls) (h' : RwF 4 (Is lkC) (fun b => b < w.heap.size) w y s'.ls) :
    Calls Try.prog 13 #[.agg (spC s (.slice x s.ls.length c)).toArray, .agg (spC s' (.slice y s'.ls.length c')).toArray] w fun r w' => r = .returned (.bool (smSp s s')) ∧ Below w.heap.size w w' := by
  unfold smSp
  have GR : Hid (∀ X Y : Obj, Below w.heap.size w ((w.alloc X).alloc Y)) := two_b w
  have EQ : Hid (∀ W, Below w.heap.size w W → Calls Try.prog 28 #[.slice x s.ls.length c, .slice y s'.ls.length c', .func (.func 29) #[] #[]] W fun e w' => e = .returned (.bool (smL smLk s.ls s'.ls)) ∧ Below W.heap.size W w') := fun W hb =>
    EqualFLk 29 smLk x y s.ls s'.ls c c' W (h.old hb) (h'.old hb) enter_lk fun W' vs vs' e e' _ _ q q' => by
      have q1 : vs = lkC e := q
      have q2 : vs' = lkC e' := q'
      subst q1 q2
      exact sameLk_of e e' W'
  clear h h'
  generalize smL smLk s.ls s'.ls = r at *
  show Calls _ _ #[.agg #[.int .i64 s.pl, .string s.nm, .bool s.ini, .slice x s.ls.length c], .agg #[.int .i64 s'.pl, .string s'.nm, .bool s'.ini, .slice y s'.ls.length c']] _ _
  cases f1 : (s.nm.toList == s'.nm.toList)
  · go_enter Try.func13, Try.ntmps13
    go_wp2
    go_ret
    exact ⟨by first | rfl | simp, GR.out _ _⟩
  · cases f2 : (s.ini == s'.ini)
    · go_enter Try.func13, Try.ntmps13
      go_wp2
      go_ret
      exact ⟨by first | rfl | simp, GR.out _ _⟩
    · go_enter Try.func13, Try.ntmps13
      go_wp2_with (go_at_call 28; refine (EQ.out _ (GR.out _ _)).mono ?_; rintro e w1 ⟨rfl, hb⟩; have B1 : Hid (Below w.heap.size w w1) := (GR.out _ _).trans (hb.mono (by simp; omega)); clear hb)
      go_ret
      exact ⟨by first | rfl | simp, B1.out⟩
set_option maxHeartbeats 4000000 in
theorem sameAc_of (d : Nat) (hd : d ≤ 131072) (s s' : AcR) (x y : Option Addr) (c c' : Nat) (w : World) (h : StL (fun b => b < w.heap.size) d w x s.bd) (h' : StL (fun b => b < w.heap.size) d w y s'.bd) :
    Calls Try.prog 17 #[.agg (acC s (.slice x s.bd.length c)).toArray, .agg (acC s' (.slice y s'.bd.length c')).toArray] w fun r w' => r = .returned (.bool (smAc d s s')) ∧ Below w.heap.size w w' := by
  unfold smAc
  have GR : Hid (∀ X Y : Obj, Below w.heap.size w ((w.alloc X).alloc Y)) := two_b w
  have EQ : Hid (∀ W, Below w.heap.size w W → Calls Try.prog 30 #[.slice x s.bd.length c, .slice y s'.bd.length c'] W fun e w' => e = .returned (.bool (smL (smS d) s.bd s'.bd)) ∧ Below W.heap.size W w') := fun W hb => SameS_c d hd W x y s.bd s'.bd c c' (h.on hb) (h'.on hb)
  clear h h'
  generalize smL (smS d) s.bd s'.bd = r at *
  show Calls _ _ #[.agg #[.int .i64 s.pl, .string s.nm, .slice x s.bd.length c], .agg #[.int .i64 s'.pl, .string s'.nm, .slice y s'.bd.length c']] _ _
  cases f1 : (s.nm.toList == s'.nm.toList)
  · go_enter Try.func17, Try.ntmps17
    go_wp2
    go_ret
    exact ⟨by first | rfl | simp, GR.out _ _⟩
  · go_enter Try.func17, Try.ntmps17
    go_wp2_with (go_at_call 30; refine (EQ.out _ (GR.out _ _)).mono ?_; rintro e w1 ⟨rfl, hb⟩; have B1 : Hid (Below w.heap.size w w1) := (GR.out _ _).trans (hb.mono (by simp; omega)); clear hb)
    go_ret
    exact ⟨by first | rfl | simp, B1.out⟩
/-- A condition in rows of its own. -/
theorem cnd_rows {S : Nat → Prop} {w : World} {g1 g2 d : Nat} {o : Int} {t : TnR} {x3 x4 : Option Addr} {c3 c4 : Nat} (h1 : S g1) (h2 : S g2)
    (b1 : w.heap[g1]? = some (.cells #[.int .i64 t.eh.op, .int .i64 t.eh.pl, .string t.eh.nm, .string t.eh.fd, .int .u8 t.eh.vk, .int .u64 t.eh.vb, .string t.eh.vs, .slice x3 t.ek.length c3, .slice x4 t.en.length c4, .int .u8 t.eh.kd, .int .i64 t.eh.ar, .int .i64 t.eh.rf, .int .i64 t.eh.fr, .int .i64 t.eh.up] 42))
    (b2 : w.heap[g2]? = some (.cells #[.int .i64 o, .int .i64 0, .string ⟨#[]⟩, .int .i64 0, .slice (some ⟨g1, 0, none⟩) 1 1, .slice none 0 0, .slice none 0 0, .slice none 0 0, .slice none 0 0, .slice none 0 0, .slice none 0 0, .int .u8 0, .int .i64 0, .int .i64 0] 65))
    (k1 : KdF S d w x3 t.ek) (k2 : NmF S w x4 t.en) (f2 : few t.en.length) : StL S (d + 2) w (some ⟨g2, 0, none⟩) [cnd o t] := by
  have ad : ∀ g : Nat, (⟨g, 0, none⟩ : Addr).add (0 * 14) = ⟨g, 0, none⟩ := fun g => by unfold Addr.add; simp
  have z0 : ∀ {α : Type} {x s : α} {i : Nat}, [x][i]? = some s → i = 0 ∧ s = x := fun {α x s i} h => by
    have hi := (List.getElem?_eq_some_iff.1 h).1
    simp at hi
    subst hi
    simp at h
    exact ⟨rfl, h.symm⟩
  refine ⟨by show 1 < 549755813888; decide, fun e => (by cases e), fun q e i s hs => ?_⟩
  cases e
  obtain ⟨rfl, rfl⟩ := z0 hs
  rw [ad]
  refine ⟨h2, some ⟨g1, 0, none⟩, 1, none, 0, none, 0, none, 0, none, 0, none, 0, none, 0, ?_, ⟨by show 1 < 549755813888; decide, fun e => (by cases e), fun q e i s hs => ?_⟩, ⟨⟨fun _ => rfl, fun a e => by cases e⟩, fun a e => by cases e⟩, by decide, ⟨by decide, fun _ => rfl, fun q e => by cases e⟩, ⟨⟨fun _ => rfl, fun a e => by cases e⟩, fun a e => by cases e⟩, by decide, ⟨⟨fun _ => rfl, fun a e => by cases e⟩, fun a e => by cases e⟩, by decide, by decide, fun _ => rfl, fun q e => (by cases e), by decide, fun _ => rfl, fun q e => (by cases e)⟩
  · refine ⟨?_, ?_, ?_, ?_, ?_, ?_, ?_, ?_, ?_, ?_, ?_, ?_, ?_, ?_⟩ <;> simp [World.cell?, b2]
  · cases e
    obtain ⟨rfl, rfl⟩ := z0 hs
    rw [ad]
    refine ⟨h1, x3, c3, x4, c4, ?_, k2, f2, k1.1, k1.2.1, k1.2.2⟩
    refine ⟨?_, ?_, ?_, ?_, ?_, ?_, ?_, ?_, ?_, ?_, ?_, ?_, ?_, ?_⟩ <;> simp [World.cell?, b1]
end Go.Proofs.Ytcoeinfopfcekaa
