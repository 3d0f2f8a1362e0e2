/- image: what Encode answers, in three ways; a row of bytes copied into one's own; no statement of the seat is proved here. -/
import Derived.Test.YtkickdmomompjaaGreatKoB8
import Derived.Test.YtkickdmomompjaaGreatRbEK
namespace Go.Proofs.YtkickdmomompjaaGreat
set_option linter.unusedVariables false
set_option linter.unusedSimpArgs false
open Go.RowKit
theorem alB (w : World) (o : Obj) : Below w.heap.size w (w.alloc o) := (Below.refl _ _).alloc (Nat.le_refl _) _
/-- What Encode answers of an image that may be, and is small enough. -/
theorem EncodeY (m : ImR) (x1 x2 x3 : Option Addr) (p1 p2 p3 : Nat) (w : World) {S : Nat → Prop} (hS : ∀ b, S b → b < w.heap.size) (hq : ImQ S w m x1 x2 x3) (ho : ImOk m) (hc : (chk m).2.2 = 0) (hg : (imbN m).length + 4 ≤ 4194304) :
    Calls Tryz.prog 4 #[.agg #[.string m.nm, .slice x1 m.cs.length p1, .slice x2 m.fs.length p2, .slice x3 m.js.length p3]] w fun e w' => (∃ y d, e = .returned (.tuple #[.slice y (fileN m).length d, .int .i64 0]) ∧ Sb w.heap.size (fileN m) (.slice y (fileN m).length d) w') ∧ Below w.heap.size w w' := by
  refine (EncodeX_2 m x1 x2 x3 p1 p2 p3 w hS hq ho hc (by omega)).mono ?_
  rintro e w' ⟨⟨v, he, hv⟩, hb⟩
  have hs : Sb w.heap.size (fileN m) v w' := hv
  obtain ⟨y, n, d, rfl⟩ := hs.form
  have en := hs.len
  subst en
  exact ⟨⟨y, d, he, hs⟩, hb⟩
/-- What Encode answers: no bytes and an error, or an image's file. -/
theorem EncodeW (m : ImR) (x1 x2 x3 : Option Addr) (p1 p2 p3 : Nat) (w : World) {S : Nat → Prop} (hS : ∀ b, S b → b < w.heap.size) (hq : ImQ S w m x1 x2 x3) (ho : ImOk m) :
    Calls Tryz.prog 4 #[.agg #[.string m.nm, .slice x1 m.cs.length p1, .slice x2 m.fs.length p2, .slice x3 m.js.length p3]] w fun e w' => ((∃ er : Int, er ≠ 0 ∧ e = .returned (.tuple #[.slice none 0 0, .int .i64 er])) ∨ (∃ y d, ((chk m).2.2 = 0 ∧ (imbN m).length + 4 ≤ 4194304) ∧ e = .returned (.tuple #[.slice y (fileN m).length d, .int .i64 0]) ∧ Sb w.heap.size (fileN m) (.slice y (fileN m).length d) w')) ∧ Below w.heap.size w w' := by
  by_cases hc : (chk m).2.2 = 0
  · by_cases hg : 4194304 < (imbN m).length + 4
    · exact (EncodeX_1 m x1 x2 x3 p1 p2 p3 w hS hq ho hc hg).mono fun e w' ⟨he, hb⟩ => ⟨.inl ⟨4, by decide, he⟩, hb⟩
    · exact (EncodeY m x1 x2 x3 p1 p2 p3 w hS hq ho hc (by omega)).mono fun e w' ⟨⟨y, d, he, hs⟩, hb⟩ => ⟨.inr ⟨y, d, ⟨hc, by omega⟩, he, hs⟩, hb⟩
  · exact (EncodeX_0 m x1 x2 x3 p1 p2 p3 w hS hq ho hc).mono fun e w' ⟨he, hb⟩ => ⟨.inl ⟨_, hc, he⟩, hb⟩
/-- A row of bytes of one's own, as a block. -/
theorem Sb.row {B : Nat} {l : List Nat} {x : Option Addr} {n c : Nat} {V : World} (h : Sb B l (.slice x n c) V) (h0 : 0 < l.length) : ∃ g cur, x = some ⟨g, 0, none⟩ ∧ B ≤ g ∧ V.heap[g]? = some (.cells cur 5 (0, 0)) := by
  have hn := h.len
  rcases h.2 with ⟨hv, h1⟩ | ⟨g, cap, cur, hv, hb, hg, hc, hm, hs, ht⟩
  · omega
  · cases hv; exact ⟨g, cur, rfl, hb, hg⟩
/-- One byte of it set. -/
theorem byte_set {B : Nat} {l : List Nat} {g n c : Nat} {V : World} {cur : Array Value} (h : Sb B l (.slice (some ⟨g, 0, none⟩) n c) V) (hg : V.heap[g]? = some (.cells cur 5 (0, 0))) (k x : Nat) (hk : k < l.length) :
    BySl (some ⟨g, 0, none⟩) (l.set k x) (V.setCell ⟨g, k, none⟩ (.int .u8 (x : Int))) := fun j b hj => by
  have hgl : g < V.heap.size := blk_in' hg
  refine ⟨g, 0, rfl, by simpa [World.setCell] using hgl, ?_⟩
  rw [Nat.zero_add]
  by_cases e : j = k
  · subst e
    rw [List.getElem?_set_self hk] at hj
    cases hj
    obtain ⟨y, hy⟩ : ∃ y, l[j]? = some y := ⟨_, List.getElem?_eq_getElem hk⟩
    obtain ⟨a, ha, _, hc⟩ := h.cell j y hy
    cases ha
    rw [Addr.add_mid, Nat.zero_add] at hc
    exact World.cell?_setCell_same _ _ _ hc
  · rw [List.getElem?_set_ne (fun q => e q.symm)] at hj
    obtain ⟨a, ha, _, hc⟩ := h.cell j b hj
    cases ha
    rw [Addr.add_mid, Nat.zero_add] at hc
    rw [World.cell?_setCell_other _ _ _ _ (by intro q; cases q; exact e rfl)]
    exact hc
end Go.Proofs.YtkickdmomompjaaGreat
