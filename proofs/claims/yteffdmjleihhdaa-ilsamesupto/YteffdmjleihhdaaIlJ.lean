/- The document's names of an instruction's arguments; no statement of the seat is proved here. -/
import Derived.Test.YteffdmjleihhdaaIlA
import Derived.Test.YteffdmjleihhdaaTrM
import Derived.Test.YteffdmjleihhdaaIlF
import Derived.Maps.AppendAt
import Derived.Deep.DeepCutAuto
namespace Go.Proofs.Yteffdmjleihhdaa
set_option linter.unusedVariables false
open Go.RowKit
/-- Names, as many as there are arguments. -/
def pad (n : Nat) (ns : List ByteArray) : List ByteArray := ns ++ List.replicate (n - ns.length) ⟨#[]⟩
/-- So many names are there. -/
def NmI (w : World) (base : Nat) (ns : List ByteArray) (k : Nat) (out : Value) (wr : World) : Prop := ns.length ≤ k ∧ wr.ownsRow base 9 1 out k (tcL (ns ++ List.replicate (k - ns.length) ⟨#[]⟩)) ∧ Below base w wr
/-- A slice's length. -/
def slen : Value → Nat
  | .slice _ n _ => n
  | _ => 0
theorem own_sl {w : World} {base : Nat} {e : TypeId} {size : Nat} {x : Value} {n : Nat} {xs : List Value} (h : w.ownsRow base e size x n xs) : ∃ y c, x = .slice y n c := by
  obtain ⟨_, h2⟩ := h
  rcases h2 with ⟨rfl, rfl⟩ | ⟨g, cap, cur, rfl, _⟩
  · exact ⟨none, 0, rfl⟩
  · exact ⟨_, _, rfl⟩
section
variable (h : IH) (x1 x2 x3 x4 : Option Addr) (n1 n3 n4 c1 c2 c3 c4 : Nat) (ns : List ByteArray) (w : World)
set_option maxRecDepth 20000 in
set_option maxHeartbeats 4000000 in
theorem names_of (hn : NmAt w x2 ns) (f1 : few ns.length) (f2 : few n1) :
    Calls Try.prog 22 #[IV h (.slice x1 n1 c1) (.slice x2 ns.length c2) (.slice x3 n3 c3) (.slice x4 n4 c4)] w fun e w' => (∃ y c, e = .returned (.slice y (pad n1 ns).length c) ∧ NmF (Fresh w.heap.size w'.heap.size) w' y (pad n1 ns)) ∧ Below w.heap.size w w' := by
  obtain ⟨W, eW⟩ : ∃ W, W = w.alloc (.cells #[.int .i64 h.pl, .string h.lb, .string h.op, .bool h.nt, .bool h.cd, .bool h.ob, .string h.nm, .slice x1 n1 c1, .slice x2 ns.length c2, .slice x3 n3 c3, .slice x4 n4 c4] 28) := ⟨_, rfl⟩
  have BW : Hid (Below w.heap.size w W) := by rw [eW]; exact (Below.refl _ _).alloc (Nat.le_refl _) _
  have OX : Hid (W.heap[w.heap.size]? = some (.cells #[.int .i64 h.pl, .string h.lb, .string h.op, .bool h.nt, .bool h.cd, .bool h.ob, .string h.nm, .slice x1 n1 c1, .slice x2 ns.length c2, .slice x3 n3 c3, .slice x4 n4 c4] 28 (0, 0))) := by rw [eW]; exact heap_alloc_last _ _
  obtain ⟨a0, a1, a2, a3, a4, a5, a6, a7, a8, a9, a10⟩ := cells11 OX.out
  have HN : Hid (NmAt W x2 ns) := hn.below BW.out
  have zW : Hid (w.heap.size < W.heap.size) := lt_of_block OX.out
  have F1 : Hid (few ns.length) := f1
  have F2 : Hid (few n1) := f2
  clear hn f1 f2
  go_enter Try.func22, Try.ntmps22
  go_upto_region 1 with fail
  rw [← eW]
  clear eW
  have I : Hid _ := infoT
  go_cut [3] (fun s3 wx => NmI W W.heap.size ns ns.length s3 wx)
  case first =>
    cases x2 with
    | none =>
      have e := HN.out.1 rfl
      subst e
      go_wp2_with fail
      go_meet
      case rel => exact ⟨Nat.le_refl _, World.ownsRow_nil _ _ _ _, Below.refl _ _⟩
    | some a =>
      have SR : Hid (∀ j u, (tcL ns)[j]? = some u → W.cell? (a.add j) = some u) := fun j u hu => by
        unfold tcL at hu
        rw [List.getElem?_map] at hu
        obtain ⟨s, hs, rfl⟩ := Option.map_eq_some_iff.1 hu
        exact HN.out.2 a rfl j s hs
      go_wp2_with (at_builtin; obtain ⟨i, hi, hz, hs, hy⟩ := I.out; refine wpList_append_own_at _ rfl _ _ 26 rfl W.heap.size 9 i _ 1 16 Try.underlying26 hi hz hs hy rfl (by decide) _ 0 [] rfl (World.ownsRow_nil _ _ _ _) a ns.length c2 (tcL ns) rfl (by unfold tcL; simp) SR.out (by intro u hu; unfold tcL at hu; simp at hu; obtain ⟨s, _, rfl⟩ := hu; rfl) (by have := F1.out; simp [maxLen]; omega) (by have := F1.out; omega) (Nat.le_refl _) ?_; intro v' w' g1 g2 g3 g4; rw [Nat.zero_add, List.nil_append] at g1; have G1 : Hid (w'.ownsRow W.heap.size 9 1 v' ns.length (tcL ns)) := g1; have G2 : Hid _ := g2; clear g1 g2 g3 g4 hi hz hs hy)
      go_meet
      case rel => exact ⟨Nat.le_refl _, by simpa using G1.out, (Below.refl _ _).grown G2.out (Nat.le_refl _) (fun k e => by cases e)⟩
  case rest =>
    have H0 : Hid (NmI W W.heap.size ns ns.length u3 wc) := hcut
    clear hcut
    go_wp2_with fail
    go_loopw [3] (fun out wr => ∃ k : Nat, NmI W W.heap.size ns k out wr ∧ (k ≤ n1 ∨ k = ns.length)) (fun out _ => n1 - slen out)
    case atStart => exact ⟨_, H0.out, .inr rfl⟩
    case round =>
      obtain ⟨k, hnm, hk⟩ := hrel
      obtain ⟨y, co, rfl⟩ := own_sl hnm.2.1
      have HM : Hid (NmI W W.heap.size ns k (.slice y k co) wr) := hnm
      have HK : Hid (k ≤ n1 ∨ k = ns.length) := hk
      have a7' : wr.cell? ⟨w.heap.size, 7, none⟩ = some (.slice x1 n1 c1) := (hnm.2.2.cell (p := ⟨w.heap.size, 7, none⟩) zW.out).trans a7
      clear hnm hk a0 a1 a2 a3 a4 a5 a6 a7 a8 a9 a10
      by_cases hlt : k < n1
      · have kl : (k : Int) < n1 := by omega
        have OW : Hid (∀ X : Obj, (wr.alloc X).ownsRow W.heap.size 9 1 (.slice y k co) k (tcL (ns ++ List.replicate (k - ns.length) ⟨#[]⟩))) := fun X => HM.out.2.1.alloc X
        have NW : Hid (∀ j u, ([.string ⟨#[]⟩] : List Value)[j]? = some u → (wr.alloc (.cells ([.string ⟨#[]⟩] : List Value).toArray 9)).cell? ((⟨wr.heap.size, 0, none⟩ : Addr).add j) = some u) := fun j u h => made_cells wr _ _ j u h
        have LE : Hid (k + 1 ≤ 549755813888) := by have := F2.out; show k + 1 ≤ _; omega
        have BZ : Hid (∀ X : Obj, W.heap.size ≤ (wr.alloc X).heap.size) := fun X => by have := HM.out.2.2.size; simp; omega
        have LT : Hid (k < n1) := hlt
        clear hlt
        go_wp2_with (at_builtin; obtain ⟨i, hi, hz, hs, hy⟩ := I.out; refine wpList_append_own_at _ rfl _ _ 26 rfl W.heap.size 9 i _ 1 16 Try.underlying26 hi hz hs hy rfl (by decide) _ k _ rfl (OW.out _) ⟨wr.heap.size, 0, none⟩ 1 1 [.string ⟨#[]⟩] rfl rfl NW.out (by intro u hu; simp at hu; subst hu; rfl) (by have := LE.out; simp [maxLen]; omega) (by have := LE.out; omega) (BZ.out _) ?_; intro v' w7 q1 q2 q3 q4; have Q1 : Hid _ := q1; have Q2 : Hid _ := q2; clear q1 q2 q3 q4 hi hz hs hy)
        obtain ⟨y', co', rfl⟩ := own_sl Q1.out
        refine ⟨⟨k + 1, ⟨by have := HM.out.1; omega, ?_, ?_⟩, .inl LT.out⟩, by have := LT.out; simp [slen]; omega⟩
        · have e : tcL (ns ++ List.replicate (k - ns.length) ⟨#[]⟩) ++ [.string ⟨#[]⟩] = tcL (ns ++ List.replicate (k + 1 - ns.length) ⟨#[]⟩) := by
            have := HM.out.1
            rw [show k + 1 - ns.length = k - ns.length + 1 by omega, List.replicate_succ']
            unfold tcL
            simp
          rw [← e]
          exact Q1.out
        · exact (HM.out.2.2.alloc HM.out.2.2.size _).grown Q2.out (BZ.out _) (fun g e => ownB' HM.out.2.1 e)
      · have kl : ¬ (k : Int) < n1 := by omega
        have el : ns ++ List.replicate (k - ns.length) (⟨#[]⟩ : ByteArray) = pad n1 ns := by
          have := HM.out.1
          unfold pad
          rcases HK.out with q | q
          · rw [show k = n1 by omega]
          · rw [q, Nat.sub_self, show n1 - ns.length = 0 by omega]
        have ek : k = (pad n1 ns).length := by
          have := HM.out.1
          rw [← el]
          simp
          omega
        have RW : Hid (wr.ownsRow W.heap.size 9 1 (.slice y k co) (pad n1 ns).length (tcL (pad n1 ns))) := by
          have := HM.out.2.1
          rw [el] at this
          show World.ownsRow _ _ _ _ _ _ _
          rw [← ek]
          exact this
        clear hlt el
        go_wp2
        go_ret
        obtain ⟨y2, c5, e5, hf⟩ := own_nmF RW.out
        simp only [Value.slice.injEq] at e5
        obtain ⟨rfl, _, rfl⟩ := e5
        exact ⟨⟨y, ⟨co, rfl⟩, hf.sub fun b q => ⟨Nat.le_trans (Nat.le_of_lt zW.out) q.1, q.2⟩⟩, BW.out.trans (HM.out.2.2.mono (Nat.le_of_lt zW.out))⟩
end
end Go.Proofs.Yteffdmjleihhdaa
