/- Trees of expressions whose cells lie in given blocks; texts copied into blocks of their own; no statement of the seat is proved here. -/
import Derived.Test.YtcoeinfopfcekaaTrH
namespace Go.Proofs.Ytcoeinfopfcekaa
set_option linter.unusedVariables false
open Go.RowKit
/-- The blocks that S names hold what they held. -/
def FrS (S : Nat → Prop) (w w' : World) : Prop := ∀ q : Addr, S q.block → w'.cell? q = w.cell? q
/-- Texts in a row whose cells lie in S. -/
def NmF (S : Nat → Prop) (w : World) (y : Option Addr) (ns : List ByteArray) : Prop := NmAt w y ns ∧ ∀ a, y = some a → ∀ (i : Nat) s, ns[i]? = some s → S a.block
/-- An expression at an address, all its cells in S. -/
def ExF (S : Nat → Prop) : Nat → World → Addr → Ex → Prop
  | 0, _, _, _ => False
  | d + 1, w, p, .mk h ns l => S p.block ∧ ∃ x c y c', EcAt w p h (.slice x l.length c) (.slice y ns.length c') ∧ NmF S w y ns ∧ few ns.length ∧ few l.length ∧ (x = none → l = []) ∧ ∀ b, x = some b → ∀ i e, l[i]? = some e → ExF S d w (b.add (i * 14)) e
def KdF (S : Nat → Prop) (d : Nat) (w : World) (x : Option Addr) (l : List Ex) : Prop := few l.length ∧ (x = none → l = []) ∧ ∀ b, x = some b → ∀ i e, l[i]? = some e → ExF S d w (b.add (i * 14)) e
def EvF (S : Nat → Prop) (d : Nat) (w : World) (v : Value) : Ex → Prop
  | .mk h ns l => ∃ x c y c', v = EV h (.slice x l.length c) (.slice y ns.length c') ∧ NmF S w y ns ∧ few ns.length ∧ KdF S d w x l
theorem add_block (a : Addr) (i : Nat) : (a.add i).block = a.block := by unfold Addr.add; split <;> rfl
theorem NmF.fr {S : Nat → Prop} {w w' : World} {y : Option Addr} {ns : List ByteArray} (h : NmF S w y ns) (f : FrS S w w') : NmF S w' y ns :=
  ⟨⟨h.1.1, fun a e i s hs => (f _ (by rw [add_block]; exact h.2 a e i s hs)).trans (h.1.2 a e i s hs)⟩, h.2⟩
theorem EcAt.fr {S : Nat → Prop} {w w' : World} {p : Addr} {h : EH} {k n : Value} (a : EcAt w p h k n) (f : FrS S w w') (hp : S p.block) : EcAt w' p h k n :=
  ⟨(f _ hp).trans a.c0, (f ⟨p.block, p.off + 1, none⟩ hp).trans a.c1, (f ⟨p.block, p.off + 2, none⟩ hp).trans a.c2, (f ⟨p.block, p.off + 3, none⟩ hp).trans a.c3, (f ⟨p.block, p.off + 4, none⟩ hp).trans a.c4, (f ⟨p.block, p.off + 5, none⟩ hp).trans a.c5, (f ⟨p.block, p.off + 6, none⟩ hp).trans a.c6, (f ⟨p.block, p.off + 7, none⟩ hp).trans a.c7, (f ⟨p.block, p.off + 8, none⟩ hp).trans a.c8, (f ⟨p.block, p.off + 9, none⟩ hp).trans a.c9, (f ⟨p.block, p.off + 10, none⟩ hp).trans a.c10, (f ⟨p.block, p.off + 11, none⟩ hp).trans a.c11, (f ⟨p.block, p.off + 12, none⟩ hp).trans a.c12, (f ⟨p.block, p.off + 13, none⟩ hp).trans a.c13⟩
theorem ExF.fr {S : Nat → Prop} : ∀ (d : Nat) {w w' : World} {p : Addr} {e : Ex}, ExF S d w p e → FrS S w w' → ExF S d w' p e
  | 0, _, _, _, _, h, _ => h.elim
  | d + 1, w, w', p, .mk h ns l, ⟨hp, x, c, y, c', hc, hn, f1, f2, h0, hk⟩, f => ⟨hp, x, c, y, c', hc.fr f hp, hn.fr f, f1, f2, h0, fun b e i q hq => ExF.fr d (hk b e i q hq) f⟩
theorem ExF.sub {S T : Nat → Prop} (hST : ∀ b, S b → T b) : ∀ (d : Nat) {w : World} {p : Addr} {e : Ex}, ExF S d w p e → ExF T d w p e
  | 0, _, _, _, h => h.elim
  | d + 1, w, p, .mk h ns l, ⟨hp, x, c, y, c', hc, hn, f1, f2, h0, hk⟩ => ⟨hST _ hp, x, c, y, c', hc, ⟨hn.1, fun a e i s q => hST _ (hn.2 a e i s q)⟩, f1, f2, h0, fun b e i q hq => ExF.sub hST d (hk b e i q hq)⟩
theorem ExF.at {S : Nat → Prop} : ∀ (d : Nat) {w : World} {p : Addr} {e : Ex}, ExF S d w p e → ExAt d w p e
  | 0, _, _, _, h => h.elim
  | d + 1, w, p, .mk h ns l, ⟨hp, x, c, y, c', hc, hn, f1, f2, h0, hk⟩ => ⟨x, c, y, c', hc, hn.1, f1, f2, h0, fun b e i q hq => ExF.at d (hk b e i q hq)⟩
theorem KdF.fr {S : Nat → Prop} {d : Nat} {w w' : World} {x : Option Addr} {l : List Ex} (h : KdF S d w x l) (f : FrS S w w') : KdF S d w' x l := ⟨h.1, h.2.1, fun b e i q hq => ExF.fr d (h.2.2 b e i q hq) f⟩
theorem KdF.sub {S T : Nat → Prop} (hST : ∀ b, S b → T b) {d : Nat} {w : World} {x : Option Addr} {l : List Ex} (h : KdF S d w x l) : KdF T d w x l := ⟨h.1, h.2.1, fun b e i q hq => ExF.sub hST d (h.2.2 b e i q hq)⟩
theorem KdF.at {S : Nat → Prop} {d : Nat} {w : World} {x : Option Addr} {l : List Ex} (h : KdF S d w x l) : KdAt d w x l := ⟨h.1, h.2.1, fun b e i q hq => ExF.at d (h.2.2 b e i q hq)⟩
theorem EvF.fr {S : Nat → Prop} {d : Nat} {w w' : World} {v : Value} {e : Ex} (h : EvF S d w v e) (f : FrS S w w') : EvF S d w' v e := by
  cases e with
  | mk hd ns l =>
    obtain ⟨x, c, y, c', e, hn, q, hk⟩ := h
    exact ⟨x, c, y, c', e, hn.fr f, q, hk.fr f⟩
theorem EvF.sub {S T : Nat → Prop} (hST : ∀ b, S b → T b) {d : Nat} {w : World} {v : Value} {e : Ex} (h : EvF S d w v e) : EvF T d w v e := by
  cases e with
  | mk hd ns l =>
    obtain ⟨x, c, y, c', e, hn, q, hk⟩ := h
    exact ⟨x, c, y, c', e, ⟨hn.1, fun a e i s q => hST _ (hn.2 a e i s q)⟩, q, hk.sub hST⟩
theorem EvF.at {S : Nat → Prop} {d : Nat} {w : World} {v : Value} {e : Ex} (h : EvF S d w v e) : EvOk d w v e := by
  cases e with
  | mk hd ns l =>
    obtain ⟨x, c, y, c', e, hn, q, hk⟩ := h
    exact ⟨x, c, y, c', e, hn.1, q, hk.at⟩
/-- The blocks made between two worlds. -/
def Fresh (a b : Nat) : Nat → Prop := fun g => a ≤ g ∧ g < b
theorem fresh_fr {a b : Nat} {w w' : World} (hb : Below w.heap.size w w') (h : b ≤ w.heap.size) : FrS (Fresh a b) w w' := fun q hq => hb.cell (Nat.lt_of_lt_of_le hq.2 h)
theorem own_nmF {w : World} {base : Nat} {x : Value} {l : List ByteArray} (h : w.ownsRow base 9 1 x l.length (tcL l)) : ∃ y c, x = .slice y l.length c ∧ NmF (Fresh base w.heap.size) w y l := by
  obtain ⟨y, c, hx, hn⟩ := own_nm h
  refine ⟨y, c, hx, hn, fun a e i s hs => ⟨?_, ?_⟩⟩
  · subst e hx
    obtain ⟨_, h2⟩ := h
    rcases h2 with ⟨h3, _⟩ | ⟨g, cap, cur, h3, hb, _⟩
    · cases h3
    · cases h3; exact hb
  · have z := block_lt_of_cell (hn.2 a e i s hs)
    rwa [add_block] at z
set_option maxHeartbeats 1000000 in
theorem CloneF (x : Option Addr) (l : List ByteArray) (cap : Nat) (w : World) (hv : NmAt w x l) (hb : few l.length) :
    Calls Try.prog 9 #[.slice x l.length cap] w fun e w' => (∃ y c, e = .returned (.slice y l.length c) ∧ NmF (Fresh w.heap.size w'.heap.size) w' y l) ∧ Below w.heap.size w w' := by
  have HV : Hid (NmAt w x l) := hv
  clear hv
  cases x with
  | none =>
    have e : l = [] := HV.out.1 rfl
    subst e
    have sn := slt_nilT 0 cap
    go_enter Try.func9, Try.ntmps9
    go_wp2
    go_ret
    exact ⟨⟨none, 0, rfl, ⟨fun _ => rfl, fun a q => by cases q⟩, fun a q => by cases q⟩, Below.refl _ _⟩
  | some a =>
    have sn := slt_nil a l.length cap
    have I : Hid _ := infoT
    have SR : Hid (∀ W, Below w.heap.size w W → ∀ j u, (tcL l)[j]? = some u → W.cell? (a.add j) = some u) := fun W hb j u hu => by
      unfold tcL at hu
      rw [List.getElem?_map] at hu
      obtain ⟨s, hs, rfl⟩ := Option.map_eq_some_iff.1 hu
      exact (HV.out.below hb).2 a rfl j s hs
    go_enter Try.func9, Try.ntmps9
    go_wp2_with (at_builtin; obtain ⟨i, hi, hz, hs, hy⟩ := I.out; refine wpList_append_own _ rfl _ _ 35 rfl w.heap.size 9 i _ 1 16 Try.underlying35 hi hz hs hy rfl (by decide) _ 0 [] rfl (ownt_none w) a l.length cap (tcL l) rfl (by unfold tcL; simp) (SR.out _ ((Below.refl _ _).alloc (Nat.le_refl _) _)) (by intro u hu; unfold tcL at hu; simp at hu; obtain ⟨s, _, rfl⟩ := hu; rfl) (by simp [maxLen]; omega) (by omega) (by simp) ?_; intro v' w' h1 h2 h3; rw [Nat.zero_add, List.nil_append] at h1; have H1 : Hid (w'.ownsRow w.heap.size 9 1 v' l.length (tcL l)) := h1; have H2 : Hid _ := h2; clear h1 h2 h3 hi hz hs hy)
    obtain ⟨y, c, rfl, hy⟩ := own_nmF H1.out
    go_ret
    exact ⟨⟨y, c, rfl, hy⟩, ((Below.refl _ _).alloc (Nat.le_refl _) _).grown H2.out (by simp) (fun k e => by cases e; exact Nat.le_refl _)⟩
end Go.Proofs.Ytcoeinfopfcekaa
