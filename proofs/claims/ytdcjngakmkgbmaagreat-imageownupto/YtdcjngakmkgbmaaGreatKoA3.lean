/- A row of four bytes as an array; no statement of the seat is proved here. -/
import Derived.Test.YtdcjngakmkgbmaaGreatKoA2
import Derived.Test.YtdcjngakmkgbmaaGreatKoA1
import Derived.ProofKit
import Derived.OpenShut
import Derived.Test.YtdcjngakmkgbmaaGreatRows
import Derived.WalkKit
import Derived.WalkSpells
import Derived.WalkLawsBesides
import Derived.Deep.RegionHeld3
import Derived.DeepKeys
namespace Go.Proofs.YtdcjngakmkgbmaaGreat.Ty
set_option linter.unusedVariables false
set_option linter.unusedSimpArgs false
open Go.RowKit
def BySo (lo : Nat) (x : Option Addr) (l : List Nat) (w : World) : Prop := ∀ (k : Nat) b, l[k]? = some b → ∃ kb o, x = some ⟨kb, o, none⟩ ∧ lo ≤ kb ∧ kb < w.heap.size ∧ w.cell? ⟨kb, o + k, none⟩ = some (.int .u8 b)
theorem BySo.up {lo : Nat} {x : Option Addr} {l : List Nat} {w w' : World} (h : BySo lo x l w) (k : ∀ g, g < w.heap.size → w'.heap[g]? = w.heap[g]?) (hs : w.heap.size ≤ w'.heap.size) : BySo lo x l w' := fun j b hb => by
  obtain ⟨kb, o, e, h0, h1, h2⟩ := h j b hb
  exact ⟨kb, o, e, h0, Nat.lt_of_lt_of_le h1 hs, (World.cell?_of_block (k kb h1)).trans h2⟩
theorem BySo.low {lo : Nat} {x : Option Addr} {l : List Nat} {w : World} (h : BySo lo x l w) : BySo 0 x l w := fun j b hb => by
  obtain ⟨kb, o, e, h0, h1, h2⟩ := h j b hb
  exact ⟨kb, o, e, Nat.zero_le _, h1, h2⟩
/-- A row of bytes of one's own. -/
def Sbo (B : Nat) (l : List Nat) (v : Value) (V : World) : Prop := V.ownsRow B 5 1 v l.length (l.map fun b : Nat => Value.int .u8 (b : Int))
theorem al_b (w : World) (o : Obj) : Below w.heap.size w (w.alloc o) := (Below.refl _ _).alloc (Nat.le_refl _) _
theorem cells4 {V : World} {g : Nat} {a b c d : Value} {T : TypeId} {f : Nat × Nat} (h : V.heap[g]? = some (.cells #[a, b, c, d] T f)) : V.cell? ⟨g, 0, none⟩ = some a ∧ V.cell? ⟨g, 1, none⟩ = some b ∧ V.cell? ⟨g, 2, none⟩ = some c ∧ V.cell? ⟨g, 3, none⟩ = some d :=
  ⟨by simp [World.cell?, h], by simp [World.cell?, h], by simp [World.cell?, h], by simp [World.cell?, h]⟩
set_option maxRecDepth 20000 in
set_option maxHeartbeats 8000000 in
theorem own_walk (m : ImR) (x1 x2 x3 : Option Addr) (p1 p2 p3 : Nat) (L : List Nat) (w : World) (ha : ImQ (fun b => b < w.heap.size) w m x1 x2 x3) (hL : L.length ≤ 4194304) (h8 : ∀ b ∈ L, b < 256)
    (hEN : ∀ V, ImQ (fun b => b < V.heap.size) V m x1 x2 x3 → Calls Tryz.prog 4 #[.agg #[.string m.nm, .slice x1 m.cs.length p1, .slice x2 m.fs.length p2, .slice x3 m.js.length p3]] V fun e w' => (∃ y d, e = .returned (.tuple #[.slice y L.length d, .int .i64 0]) ∧ Sbo V.heap.size L (.slice y L.length d) w' ∧ BySo V.heap.size y L w' ∧ L.length ≤ d) ∧ Below V.heap.size V w')
    (hER : ∀ V, ImQ (fun b => b < V.heap.size) V m x1 x2 x3 → Calls Tryz.prog 8 #[.agg #[.string m.nm, .slice x1 m.cs.length p1, .slice x2 m.fs.length p2, .slice x3 m.js.length p3]] V fun e w' => (∃ y d er, e = .returned (.tuple #[.slice y L.length d, .int .i64 er]) ∧ BySo 0 y L w') ∧ Below V.heap.size V w')
    (hDE : ∀ y d V, BySo 0 y L V → L.length ≤ d → Calls Tryz.prog 6 #[.slice y L.length d] V fun e w' => (∃ y1 c1 y2 c2 y3 c3, e = .returned (.tuple #[.agg #[.string m.nm, .slice y1 m.cs.length c1, .slice y2 m.fs.length c2, .slice y3 m.js.length c3], .int .i64 0, .int .i64 0]) ∧ ImT (Fresh V.heap.size w'.heap.size) w' m y1 c1 y2 c2 y3 c3) ∧ Below V.heap.size V w')
    (hSM : ∀ V y1 y2 y3 c1 c2 c3, ImQ (fun b => b < V.heap.size) V m x1 x2 x3 → ImQ (fun b => b < V.heap.size) V m y1 y2 y3 → Calls Tryz.prog 7 #[.agg #[.string m.nm, .slice y1 m.cs.length c1, .slice y2 m.fs.length c2, .slice y3 m.js.length c3], .agg #[.string m.nm, .slice x1 m.cs.length p1, .slice x2 m.fs.length p2, .slice x3 m.js.length p3]] V fun e w' => e = .returned (.bool true) ∧ Below V.heap.size V w')
    (hEQ : ∀ y c z d V, BySo 0 y L V → BySo 0 z L V → Calls Tryz.prog 9 #[.slice y L.length c, .slice z L.length d] V fun e w' => e = .returned (.bool true) ∧ Below V.heap.size V w')
    (hAW : ∀ V, Calls Tryz.prog 5 #[] V fun e w' => e = .returned (.bool true) ∧ Below V.heap.size V w') :
    Calls Tryz.prog 3 #[.agg #[.string m.nm, .slice x1 m.cs.length p1, .slice x2 m.fs.length p2, .slice x3 m.js.length p3]] w fun e w' => e = .returned (.bool true) ∧ Below w.heap.size w w' := by
  obtain ⟨AW, eW⟩ : ∃ AW, AW = w.alloc (.cells #[.string m.nm, .slice x1 m.cs.length p1, .slice x2 m.fs.length p2, .slice x3 m.js.length p3] 26 (0, 0)) := ⟨_, rfl⟩
  have AB : Hid (Below w.heap.size w AW) := by rw [eW]; exact al_b _ _
  have AX : Hid (AW.heap[w.heap.size]? = some (.cells #[.string m.nm, .slice x1 m.cs.length p1, .slice x2 m.fs.length p2, .slice x3 m.js.length p3] 26 (0, 0))) := by rw [eW]; exact heap_alloc_last _ _
  have XA : Hid (∀ V, Below AW.heap.size AW V → V.heap[w.heap.size]? = some (.cells #[.string m.nm, .slice x1 m.cs.length p1, .slice x2 m.fs.length p2, .slice x3 m.js.length p3] 26 (0, 0))) := fun V h => (h.block _ (blk_in' AX.out)).trans AX.out
  have QA : Hid (∀ V, Below AW.heap.size AW V → ImQ (fun b => b < V.heap.size) V m x1 x2 x3) := fun V h => ha.old (AB.out.trans (h.mono AB.out.size))
  have BA : Hid (∀ V, Below AW.heap.size AW V → Below w.heap.size w V) := fun V h => AB.out.trans (h.mono AB.out.size)
  have EN : Hid _ := hEN
  have ER : Hid _ := hER
  have DE : Hid _ := hDE
  have SM : Hid _ := hSM
  have AK : Hid _ := hAW
  have EQ : Hid _ := hEQ
  have LL : Hid (L.length ≤ 4194304) := hL
  have L8 : Hid (∀ b ∈ L, b < 256) := h8
  clear ha hEN hER hDE hSM hAW hEQ hL h8
  obtain ⟨i0, i1, i2, i3⟩ := cells4 AX.out
  go_enter Tryz.func3, Tryz.ntmps3
  go_upto_region 1 with fail
  rw [← eW]
  clear eW AX
  go_wp2_with fail
  refine (EN.out AW (QA.out AW (Below.refl _ _))).mono ?_
  rintro e w1 ⟨⟨y, d, rfl, hs, hy, hd⟩, hb1⟩
  have B1 : Hid (Below AW.heap.size AW w1) := hb1
  have S1 : Hid (Sbo AW.heap.size L (.slice y L.length d) w1) := hs
  have Y1 : Hid (BySo AW.heap.size y L w1) := hy
  have D1 : Hid (L.length ≤ d) := hd
  clear hb1 hs hy hd i0 i1 i2 i3
  go_upto_region 4 with fail
  obtain ⟨i0, i1, i2, i3⟩ := cells4 (XA.out w1 B1.out)
  go_wp2_with fail
  refine (EN.out w1 (QA.out w1 B1.out)).mono ?_
  rintro e w2 ⟨⟨z, c, rfl, hs, hy, hd⟩, hb2⟩
  have B2 : Hid (Below AW.heap.size AW w2) := B1.out.trans (hb2.mono B1.out.size)
  have D2 : Hid (Below w1.heap.size w1 w2) := hb2
  have S2 : Hid (Sbo w1.heap.size L (.slice z L.length c) w2) := hs
  have Z2 : Hid (BySo w1.heap.size z L w2) := hy
  clear hb2 hs hy hd i0 i1 i2 i3
  go_upto_region 5 with fail
  go_wp2_with fail
  refine (DE.out y d w2 (Y1.out.low.up D2.out.block D2.out.size) D1.out).mono ?_
  rintro e w3 ⟨⟨y1, c1, y2, c2, y3, c3, rfl, ht⟩, hb3⟩
  have B3 : Hid (Below AW.heap.size AW w3) := B2.out.trans (hb3.mono B2.out.size)
  have D3 : Hid (Below w2.heap.size w2 w3) := hb3
  have T3 : Hid (ImT (Fresh w2.heap.size w3.heap.size) w3 m y1 c1 y2 c2 y3 c3) := ht
  clear hb3 ht
  go_upto_region 6 with fail
  obtain ⟨V3, eV⟩ : ∃ V, V = w3.alloc (.cells #[.string m.nm, .slice y1 m.cs.length c1, .slice y2 m.fs.length c2, .slice y3 m.js.length c3] 26 (0, 0)) := ⟨_, rfl⟩
  obtain ⟨h3, eh⟩ : ∃ g, g = w3.heap.size := ⟨_, rfl⟩
  rw [← eV]
  try rw [← eh]
  have A3 : Hid (Below w3.heap.size w3 V3) := by rw [eV]; exact al_b _ _
  have X3 : Hid (V3.heap[h3]? = some (.cells #[.string m.nm, .slice y1 m.cs.length c1, .slice y2 m.fs.length c2, .slice y3 m.js.length c3] 26 (0, 0))) := by rw [eV, eh]; exact heap_alloc_last _ _
  have E3 : Hid (h3 = w3.heap.size) := eh
  clear eV eh
  go_wp2_with fail
  refine (DE.out y d V3 ((Y1.out.low.up D2.out.block D2.out.size).up (D3.out.trans (A3.out.mono D3.out.size)).block (D3.out.trans (A3.out.mono D3.out.size)).size) D1.out).mono ?_
  rintro e w4 ⟨⟨u1, e1, u2, e2, u3, e3, rfl, ht⟩, hb4⟩
  have D4 : Hid (Below V3.heap.size V3 w4) := hb4
  have T4 : Hid (ImT (Fresh V3.heap.size w4.heap.size) w4 m u1 e1 u2 e2 u3 e3) := ht
  clear hb4 ht
  go_upto_region 7 with fail
  obtain ⟨V4, eV⟩ : ∃ V, V = w4.alloc (.cells #[.string m.nm, .slice u1 m.cs.length e1, .slice u2 m.fs.length e2, .slice u3 m.js.length e3] 26 (0, 0)) := ⟨_, rfl⟩
  obtain ⟨h4, eh⟩ : ∃ g, g = w4.heap.size := ⟨_, rfl⟩
  rw [← eV]
  try rw [← eh]
  have A4 : Hid (Below w4.heap.size w4 V4) := by rw [eV]; exact al_b _ _
  have X4 : Hid (V4.heap[h4]? = some (.cells #[.string m.nm, .slice u1 m.cs.length e1, .slice u2 m.fs.length e2, .slice u3 m.js.length e3] 26 (0, 0))) := by rw [eV, eh]; exact heap_alloc_last _ _
  have E4 : Hid (h4 = w4.heap.size) := eh
  clear eV eh
  have O3 : Hid (Below w3.heap.size w3 V4) := A3.out.trans ((D4.out.trans (A4.out.mono D4.out.size)).mono A3.out.size)
  have O2 : Hid (Below w2.heap.size w2 V4) := D3.out.trans (O3.out.mono D3.out.size)
  have O1 : Hid (Below w1.heap.size w1 V4) := D2.out.trans (O2.out.mono D2.out.size)
  have OA : Hid (Below AW.heap.size AW V4) := B1.out.trans (O1.out.mono B1.out.size)
  have N1 : Hid (AW.heap.size ≤ w1.heap.size ∧ w1.heap.size ≤ w2.heap.size ∧ w2.heap.size ≤ h3 ∧ h3 < V3.heap.size ∧ V3.heap.size ≤ h4 ∧ h4 < V4.heap.size) := by
    have a1 := B1.out.size
    have a2 := D2.out.size
    have a3 := D3.out.size
    have a4 := blk_in' X3.out
    have a5 := D4.out.size
    have a6 := blk_in' X4.out
    have a7 := E3.out
    have a8 := E4.out
    show _ ∧ _
    omega
  have XX : Hid (V4.heap[h3]? = some (.cells #[.string m.nm, .slice y1 m.cs.length c1, .slice y2 m.fs.length c2, .slice y3 m.js.length c3] 26 (0, 0))) := by
    have a4 := blk_in' X3.out
    exact (A4.out.block h3 (Nat.lt_of_lt_of_le a4 D4.out.size)).trans ((D4.out.block h3 a4).trans X3.out)
  have TX : Hid (ImT (Fresh w2.heap.size h3) V4 m y1 c1 y2 c2 y3 c3) := by
    have q : ImT (Fresh w2.heap.size w3.heap.size) V4 m y1 c1 y2 c2 y3 c3 := T3.out.fr fun g hg => O3.out.block g hg.2
    rw [← E3.out] at q
    exact q
  have TY : Hid (ImQ (Fresh V3.heap.size h4) V4 m u1 u2 u3) := by
    have q : ImT (Fresh V3.heap.size w4.heap.size) V4 m u1 e1 u2 e2 u3 e3 := T4.out.fr fun g hg => A4.out.block g hg.2
    rw [← E4.out] at q
    exact q.q
  have ZZ : Hid (BySo w1.heap.size z L V4) := Z2.out.up O2.out.block O2.out.size
  have ZL : Hid (∀ (k : Nat) b, L[k]? = some b → ∃ kb o, z = some ⟨kb, o, none⟩ ∧ w1.heap.size ≤ kb ∧ kb < w2.heap.size ∧ V4.cell? ⟨kb, o + k, none⟩ = some (.int .u8 b)) := fun k b hb => by
    obtain ⟨kb, o, e, h0, h1, h2⟩ := Z2.out k b hb
    exact ⟨kb, o, e, h0, h1, (O2.out.cell h1).trans h2⟩
  have SB : Hid (L.length = 0 ∨ ∃ gb cur, y = some ⟨gb, 0, none⟩ ∧ AW.heap.size ≤ gb ∧ gb < w1.heap.size ∧ V4.heap[gb]? = some (.cells cur 5 (0, 0)) ∧ L.length ≤ cur.size ∧ ∀ j b, L[j]? = some b → V4.cell? ⟨gb, j, none⟩ = some (.int .u8 (b : Nat))) := by
    have q := S1.out
    rcases q.2 with ⟨q1, q2⟩ | ⟨g, cap, cur, q1, q2, q3, q4, q5, q6, q7⟩
    · exact .inl q2
    · obtain ⟨a1, a2, a3⟩ := Value.slice.inj q1
      refine .inr ⟨g, cur, a1, q2, blk_in' q3, (O1.out.block g (blk_in' q3)).trans q3, by omega, fun j b hb => ?_⟩
      obtain ⟨kb, o, e, h0, h1, h2⟩ := (Y1.out.up O1.out.block O1.out.size) j b hb
      rw [a1] at e
      cases e
      rw [Nat.zero_add] at h2
      exact h2
  clear T3 T4 X3 A3 A4 D4 D3 D2 B1 B2 B3 E3 E4 O1 O2 O3 Y1 Z2 S1 S2 ZZ
  generalize w1.heap.size = h1 at *
  generalize w2.heap.size = h2 at *
  generalize V3.heap.size = h5 at *
  clear w1 w2 w3 w4 V3 EN DE
  go_upto_region 8 with fail
  go_loopw [47] (fun i wr => ∃ k : Nat, k ≤ L.length ∧ i = .int .i64 k ∧ Iv V4 AW.heap.size h1 0 wr ∧ ∀ gb, y = some ⟨gb, 0, none⟩ → ∀ j, k ≤ j → wr.cell? ⟨gb, j, none⟩ = V4.cell? ⟨gb, j, none⟩) (fun i _ => L.length - (intOf i).toNat)
  case atStart => exact ⟨0, Nat.zero_le _, rfl, Iv.refl _ _ _ _, fun _ _ _ _ => rfl⟩
  case round =>
    obtain ⟨k, hk, rfl, hI, hc⟩ := hrel
    have IW : Hid (Iv V4 AW.heap.size h1 0 wr) := hI
    have CW : Hid (∀ gb, y = some ⟨gb, 0, none⟩ → ∀ j, k ≤ j → wr.cell? ⟨gb, j, none⟩ = V4.cell? ⟨gb, j, none⟩) := hc
    clear hI hc
    by_cases hlt : k < L.length
    · rcases SB.out with q | ⟨gb, cur, rfl, q1, q2, q3, q4, q5⟩
      · omega
      obtain ⟨b, hb⟩ : ∃ b, L[k]? = some b := ⟨_, List.getElem?_eq_getElem hlt⟩
      have c0 : wr.cell? ⟨gb, k, none⟩ = some (.int .u8 (b : Nat)) := (CW.out gb rfl k (Nat.le_refl _)).trans (q5 k b hb)
      have fz : wr.frozen? ⟨gb, k, none⟩ = false := (IW.out.there q1 q2 q3 k (by omega)).2
      have kl : (k : Int) < L.length := by omega
      have ew : wrap64 ((k : Int) + 1) = (k : Int) + 1 := by have := LL.out; unfold wrap64; omega
      have LT : Hid (k < L.length) := hlt
      have NX : Hid (∀ v, Iv V4 AW.heap.size h1 0 (wr.setCell ⟨gb, k, none⟩ v)) := fun v => IW.out.set q1 q2 q3 (by decide) (by decide) k v
      have NC : Hid (∀ v, ∀ gc, some (⟨gb, 0, none⟩ : Addr) = some ⟨gc, 0, none⟩ → ∀ j, k + 1 ≤ j → (wr.setCell ⟨gb, k, none⟩ v).cell? ⟨gc, j, none⟩ = V4.cell? ⟨gc, j, none⟩) := fun v gc e j hj => by
        cases e
        rw [World.cell?_setCell_other _ _ _ _ (by intro q; cases q; omega)]
        exact CW.out gb rfl j (by omega)
      clear hlt hk q1 q2 q3 q4 q5 hb
      go_upto_region 10 with fail
      go_wp2
      try rw [ew]
      exact ⟨⟨k + 1, Nat.succ_le_of_lt LT.out, rfl, NX.out _, NC.out _⟩, msr LT.out⟩
    · have kl : ¬ (k : Int) < L.length := by omega
      clear hlt hk CW SB
      have n1 := N1.out
      have FX : ∀ k, h1 ≤ k → k < V4.heap.size → wr.heap[k]? = V4.heap[k]? := fun k h h' => IW.out.out k h' (.inr h)
      have OU : Hid (Below AW.heap.size AW wr) := OA.out.trans (IW.out.old (by omega))
      have XU : Hid (wr.heap[h3]? = some (.cells #[.string m.nm, .slice y1 m.cs.length c1, .slice y2 m.fs.length c2, .slice y3 m.js.length c3] 26 (0, 0))) := (FX h3 (by omega) (by omega)).trans XX.out
      have YU : Hid (wr.heap[h4]? = some (.cells #[.string m.nm, .slice u1 m.cs.length e1, .slice u2 m.fs.length e2, .slice u3 m.js.length e3] 26 (0, 0))) := (FX h4 (by omega) (by omega)).trans X4.out
      have TU : Hid (ImT (Fresh h2 h3) wr m y1 c1 y2 c2 y3 c3) := TX.out.fr fun g hg => FX g (by have := hg.1; omega) (by have := hg.2; omega)
      have RU : Hid (ImQ (Fresh h5 h4) wr m u1 u2 u3) := TY.out.fr fun q hq => World.cell?_of_block (FX _ (by have := hq.1; omega) (by have := hq.2; omega))
      have ZU : Hid (∀ (k : Nat) b, L[k]? = some b → ∃ kb o, z = some ⟨kb, o, none⟩ ∧ h1 ≤ kb ∧ kb < h2 ∧ wr.cell? ⟨kb, o + k, none⟩ = some (.int .u8 b)) := fun k b hb => by
        obtain ⟨kb, o, e, q1, q2, q3⟩ := ZL.out k b hb
        exact ⟨kb, o, e, q1, q2, (World.cell?_of_block (FX kb q1 (by omega))).trans q3⟩
      have N2 : Hid (AW.heap.size ≤ h2 ∧ h2 ≤ h3 ∧ h3 < h5 ∧ h5 ≤ h4 ∧ h4 < wr.heap.size) := by
        have := IW.out.size
        show _ ∧ _
        omega
      clear FX OA XX X4 TX TY ZL N1 n1
      obtain ⟨i0, i1, i2, i3⟩ := cells4 (XA.out wr OU.out)
      obtain ⟨j0, j1, j2, j3⟩ := cells4 XU.out
      go_upto_region 12 with fail
      clear IW
      go_wp2_with fail
      refine (SM.out wr y1 y2 y3 c1 c2 c3 (QA.out wr OU.out) (TU.out.q.sub fun b hb => by have := hb.2; have := N2.out; omega)).mono ?_
      rintro e V ⟨rfl, hb⟩
      have OV : Hid (Below AW.heap.size AW V) := OU.out.trans (hb.mono OU.out.size)
      have XV : Hid (V.heap[h3]? = some (.cells #[.string m.nm, .slice y1 m.cs.length c1, .slice y2 m.fs.length c2, .slice y3 m.js.length c3] 26 (0, 0))) := (hb.block _ (blk_in' XU.out)).trans XU.out
      have YV : Hid (V.heap[h4]? = some (.cells #[.string m.nm, .slice u1 m.cs.length e1, .slice u2 m.fs.length e2, .slice u3 m.js.length e3] 26 (0, 0))) := (hb.block _ (blk_in' YU.out)).trans YU.out
      have n2 := N2.out
      have TV : Hid (ImT (Fresh h2 h3) V m y1 c1 y2 c2 y3 c3) := TU.out.fr fun g hg => hb.block g (by have := hg.2; omega)
      have RV : Hid (ImQ (Fresh h5 h4) V m u1 u2 u3) := RU.out.fr fun q hq => World.cell?_of_block (hb.block _ (by have := hq.2; omega))
      have ZV : Hid (∀ (k : Nat) b, L[k]? = some b → ∃ kb o, z = some ⟨kb, o, none⟩ ∧ h1 ≤ kb ∧ kb < h2 ∧ V.cell? ⟨kb, o + k, none⟩ = some (.int .u8 b)) := fun k b hb' => by
        obtain ⟨kb, o, e, q1, q2, q3⟩ := ZU.out k b hb'
        exact ⟨kb, o, e, q1, q2, (World.cell?_of_block (hb.block kb (by omega))).trans q3⟩
      have N3 : Hid (AW.heap.size ≤ h2 ∧ h2 ≤ h3 ∧ h3 < h5 ∧ h5 ≤ h4 ∧ h4 < V.heap.size) := by
        have := hb.size
        show _ ∧ _
        omega
      have FW : Hid (few m.cs.length ∧ few m.fs.length ∧ few m.js.length) := ⟨TV.out.1.1.1, TV.out.2.1.1.1, TV.out.2.2.1.1⟩
      clear OU XU YU TU RU ZU N2 n2 hb i0 i1 i2 i3 j0 j1 j2 j3
      go_upto_region 14 with fail
      try clear IW
      try clear V4
      try clear wr
      obtain ⟨j0, j1, j2, j3⟩ := cells4 XV.out
      go_upto_region 15 with fail
      clear j0 j1 j2 j3
      have XW : Hid (∀ i wr, Iv V h2 h3 i wr → wr.heap[h3]? = some (.cells #[.string m.nm, .slice y1 m.cs.length c1, .slice y2 m.fs.length c2, .slice y3 m.js.length c3] 26 (0, 0))) := fun i wr h => (h.out h3 (by have := N3.out; omega) (.inr (Nat.le_refl _))).trans XV.out
      go_loopw [72] (fun i wr => ∃ k : Nat, k ≤ m.cs.length ∧ i = .int .i64 k ∧ Iv V h2 h3 0 wr) (fun i _ => m.cs.length - (intOf i).toNat)
      case atStart => exact ⟨0, Nat.zero_le _, rfl, Iv.refl _ _ _ _⟩
      case round =>
        obtain ⟨k, hk, rfl, hI⟩ := hrel
        have IW : Hid (Iv V h2 h3 0 wr) := hI
        clear hI
        by_cases hlt : k < m.cs.length
        · obtain ⟨g, cur, rfl, q1, q2, q3⟩ := own_row TV.out.1 k hlt
          obtain ⟨⟨v, c0⟩, fz⟩ := IW.out.there q1.1 q1.2 q2 (k * 11 + 10) (by omega)
          have kl : (k : Int) < m.cs.length := by omega
          have ew : wrap64 ((k : Int) + 1) = (k : Int) + 1 := by have := FW.out.1; unfold few at this; unfold wrap64; omega
          have LT : Hid (k < m.cs.length) := hlt
          have NX : Hid (∀ v, Iv V h2 h3 0 (wr.setCell ⟨g, k * 11 + 10, none⟩ v)) := fun v => IW.out.set q1.1 q1.2 q2 (by decide) (by decide) _ v
          obtain ⟨j0, j1, j2, j3⟩ := cells4 (XW.out 0 wr IW.out)
          clear hlt hk q1 q2 q3
          go_upto_region 17 with fail
          go_wp2
          try rw [ew]
          exact ⟨⟨k + 1, Nat.succ_le_of_lt LT.out, rfl, NX.out _⟩, msr LT.out⟩
        · have kl : ¬ (k : Int) < m.cs.length := by omega
          have IA : Hid (Iv V h2 h3 0 wr) := IW.out
          clear hlt hk
          obtain ⟨j0, j1, j2, j3⟩ := cells4 (XW.out 0 wr IA.out)
          go_upto_region 19 with fail
          clear IW
          go_upto_region 20 with fail
          clear j0 j1 j2 j3
          go_loopw [84] (fun i wr => ∃ k : Nat, k ≤ m.fs.length ∧ i = .int .i64 k ∧ Iv V h2 h3 k wr) (fun i _ => m.fs.length - (intOf i).toNat)
          case atStart => exact ⟨0, Nat.zero_le _, rfl, IA.out⟩
          case round =>
            clear IA
            try clear wr
            obtain ⟨k, hk, rfl, hI⟩ := hrel
            rename World => wr
            have IW : Hid (Iv V h2 h3 k wr) := hI
            clear hI
            by_cases hlt : k < m.fs.length
            · obtain ⟨g, cur, f, xo, co, xl, cl, rfl, q1, q2, q3, c6, c7, hq⟩ := flat_row TV.out.2.1 k hlt
              have C6 : Hid (∀ W, Iv V h2 h3 k W → W.cell? ⟨g, k * 8 + 6, none⟩ = some (.slice xo f.os.length co)) := fun W h => (h.cellF q1.1 q1.2 q2 _ (by omega)).trans c6
              have C7 : Hid (∀ W, Iv V h2 h3 k W → W.cell? ⟨g, k * 8 + 7, none⟩ = some (.slice xl f.ls.length cl)) := fun W h => (h.cellF q1.1 q1.2 q2 _ (by omega)).trans c7
              have FZ : Hid (∀ W, Iv V h2 h3 k W → W.frozen? ⟨g, k * 8 + 7, none⟩ = false) := fun W h => (h.there q1.1 q1.2 q2 _ (by omega)).2
              have NF : Hid (∀ W v, Iv V h2 h3 k W → Iv V h2 h3 (k + 1) (W.setCell ⟨g, k * 8 + 7, none⟩ v)) := fun W v h => h.setF q1.1 q1.2 q2 (by omega) v
              have HQ : Hid (FlT (Fresh h2 h3) V f xo co xl cl) := hq
              have FO : Hid (few f.os.length ∧ few f.ls.length) := ⟨hq.1.1.1, hq.2.1.1⟩
              have kl : (k : Int) < m.fs.length := by omega
              have ew : wrap64 ((k : Int) + 1) = (k : Int) + 1 := by have := FW.out.2.1; unfold few at this; unfold wrap64; omega
              have LT : Hid (k < m.fs.length) := hlt
              clear hlt hk q1 q2 q3 c6 c7 hq
              obtain ⟨j0, j1, j2, j3⟩ := cells4 (XW.out k wr IW.out)
              have b6 := C6.out wr IW.out
              go_upto_region 22 with fail
              go_upto_region 23 with fail
              clear j0 j1 j2 j3 b6
              go_loopw [94] (fun i wr => ∃ k2 : Nat, k2 ≤ f.os.length ∧ i = .int .i64 k2 ∧ Iv V h2 h3 k wr) (fun i _ => f.os.length - (intOf i).toNat)
              case atStart => exact ⟨0, Nat.zero_le _, rfl, IW.out⟩
              case round =>
                clear IW
                try clear wr
                obtain ⟨k2, hk, rfl, hI⟩ := hrel
                rename World => wr
                have IW : Hid (Iv V h2 h3 k wr) := hI
                clear hI
                obtain ⟨j0, j1, j2, j3⟩ := cells4 (XW.out k wr IW.out)
                have b6 := C6.out wr IW.out
                by_cases hlt : k2 < f.os.length
                · obtain ⟨g2, cur, rfl, q1, q2, q3⟩ := own_row HQ.out.1 k2 hlt
                  obtain ⟨⟨v, c0⟩, fz⟩ := IW.out.there q1.1 q1.2 q2 (k2 * 10) (by omega)
                  have kl2 : (k2 : Int) < f.os.length := by omega
                  have ew2 : wrap64 ((k2 : Int) + 1) = (k2 : Int) + 1 := by have := FO.out.1; unfold few at this; unfold wrap64; omega
                  have LT2 : Hid (k2 < f.os.length) := hlt
                  have NX : Hid (∀ v, Iv V h2 h3 k (wr.setCell ⟨g2, k2 * 10, none⟩ v)) := fun v => IW.out.set q1.1 q1.2 q2 (by decide) (by decide) _ v
                  clear hlt hk q1 q2 q3
                  go_upto_region 25 with fail
                  go_wp2
                  try rw [ew2]
                  exact ⟨⟨k2 + 1, Nat.succ_le_of_lt LT2.out, rfl, NX.out _⟩, msr LT2.out⟩
                · have kl2 : ¬ (k2 : Int) < f.os.length := by omega
                  clear hlt hk
                  go_upto_region 27 with fail
                  clear j0 j1 j2 j3 b6
                  have DW : Iv V h2 h3 k wr.drew := IW.out.grown ⟨rfl, rfl, rfl, Nat.le_refl _, fun _ _ _ => rfl⟩
                  refine wp_region_J 14 (fun W => Iv V h2 h3 k W) (by kernel_rfl) DW (fun hHeld => ?_)
                  refine wpAnyJ_take (i := 0) (v := .pointer (some ⟨h3, 2, none⟩)) rfl (by kernel_rfl) (by kernel_rfl) (by kernel_rfl) (by kernel_rfl) (fun _ _ _ h => h) (Or.inl ⟨by rfl, fun W hW => ?_⟩) hHeld ?_
                  · go_simp
                  simp only [Act.put, List.setIfInBounds_toArray, List.getElem_toArray, List.getElem_cons_zero, List.getElem_cons_succ, List.set_cons_zero, List.set_cons_succ]
                  refine wpAnyJ_take (i := 1) (v := .slice (some ⟨g, 0, none⟩) m.fs.length c2) rfl (by kernel_rfl) (by kernel_rfl) (by kernel_rfl) (by kernel_rfl) (fun _ _ _ h => h) (Or.inl ⟨by rfl, fun W hW => ?_⟩) hHeld ?_
                  · obtain ⟨j0, j1, j2, j3⟩ := cells4 (XW.out k W hW)
                    have b6 := C6.out W hW
                    have b7 := C7.out W hW
                    go_simp
                  simp only [Act.put, List.setIfInBounds_toArray, List.getElem_toArray, List.getElem_cons_zero, List.getElem_cons_succ, List.set_cons_zero, List.set_cons_succ]
                  refine wpAnyJ_take (i := 2) (v := .int .i64 k) rfl (by kernel_rfl) (by kernel_rfl) (by kernel_rfl) (by kernel_rfl) (fun _ _ _ h => h) (Or.inl ⟨by rfl, fun W hW => ?_⟩) hHeld ?_
                  · go_simp
                  simp only [Act.put, List.setIfInBounds_toArray, List.getElem_toArray, List.getElem_cons_zero, List.getElem_cons_succ, List.set_cons_zero, List.set_cons_succ]
                  refine wpAnyJ_take (i := 3) (v := .pointer (some ⟨h3, 2, none⟩)) rfl (by kernel_rfl) (by kernel_rfl) (by kernel_rfl) (by kernel_rfl) (fun _ _ _ h => h) (Or.inl ⟨by rfl, fun W hW => ?_⟩) hHeld ?_
                  · go_simp
                  simp only [Act.put, List.setIfInBounds_toArray, List.getElem_toArray, List.getElem_cons_zero, List.getElem_cons_succ, List.set_cons_zero, List.set_cons_succ]
                  refine wpAnyJ_take (i := 4) (v := .slice (some ⟨g, 0, none⟩) m.fs.length c2) rfl (by kernel_rfl) (by kernel_rfl) (by kernel_rfl) (by kernel_rfl) (fun _ _ _ h => h) (Or.inl ⟨by rfl, fun W hW => ?_⟩) hHeld ?_
                  · obtain ⟨j0, j1, j2, j3⟩ := cells4 (XW.out k W hW)
                    have b6 := C6.out W hW
                    have b7 := C7.out W hW
                    go_simp
                  simp only [Act.put, List.setIfInBounds_toArray, List.getElem_toArray, List.getElem_cons_zero, List.getElem_cons_succ, List.set_cons_zero, List.set_cons_succ]
                  refine wpAnyJ_take (i := 5) (v := .int .i64 k) rfl (by kernel_rfl) (by kernel_rfl) (by kernel_rfl) (by kernel_rfl) (fun _ _ _ h => h) (Or.inl ⟨by rfl, fun W hW => ?_⟩) hHeld ?_
                  · go_simp
                  simp only [Act.put, List.setIfInBounds_toArray, List.getElem_toArray, List.getElem_cons_zero, List.getElem_cons_succ, List.set_cons_zero, List.set_cons_succ]
                  refine wpAnyJ_take (i := 6) (v := .pointer (some ⟨g, k * 8, none⟩)) rfl (by kernel_rfl) (by kernel_rfl) (by kernel_rfl) (by kernel_rfl) (fun _ _ _ h => h) (Or.inl ⟨by rfl, fun W hW => ?_⟩) hHeld ?_
                  · go_simp
                  simp only [Act.put, List.setIfInBounds_toArray, List.getElem_toArray, List.getElem_cons_zero, List.getElem_cons_succ, List.set_cons_zero, List.set_cons_succ]
                  refine wpAnyJ_take (i := 7) (v := .pointer (some ⟨g, k * 8 + 7, none⟩)) rfl (by kernel_rfl) (by kernel_rfl) (by kernel_rfl) (by kernel_rfl) (fun _ _ _ h => h) (Or.inl ⟨by rfl, fun W hW => ?_⟩) hHeld ?_
                  · go_simp
                  simp only [Act.put, List.setIfInBounds_toArray, List.getElem_toArray, List.getElem_cons_zero, List.getElem_cons_succ, List.set_cons_zero, List.set_cons_succ]
                  refine wpAnyJ_take (i := 8) (v := .slice xl f.ls.length cl) rfl (by kernel_rfl) (by kernel_rfl) (by kernel_rfl) (by kernel_rfl) (fun _ _ _ h => h) (Or.inl ⟨by rfl, fun W hW => ?_⟩) hHeld ?_
                  · obtain ⟨j0, j1, j2, j3⟩ := cells4 (XW.out k W hW)
                    have b6 := C6.out W hW
                    have b7 := C7.out W hW
                    go_simp
                  simp only [Act.put, List.setIfInBounds_toArray, List.getElem_toArray, List.getElem_cons_zero, List.getElem_cons_succ, List.set_cons_zero, List.set_cons_succ]
                  refine wpAnyJ_take (i := 9) (v := .agg #[.int .i64 99, .int .i64 0, .int .i64 0]) rfl (by kernel_rfl) (by kernel_rfl) (by kernel_rfl) (by kernel_rfl) (fun _ _ _ h => h) (Or.inl ⟨by rfl, fun W hW => ?_⟩) hHeld ?_
                  · go_simp
                  simp only [Act.put, List.setIfInBounds_toArray, List.getElem_toArray, List.getElem_cons_zero, List.getElem_cons_succ, List.set_cons_zero, List.set_cons_succ]
                  refine wpAnyJ_one (i := 10) (by kernel_rfl) rfl (fun K hK => ?_)
                  rw [if_pos (by rfl)]
                  unfold Oper.wp execOp
                  go_simp
                  obtain ⟨W1, eW⟩ : ∃ W, W = (wr.alloc (.cells #[.int .i64 99, .int .i64 0, .int .i64 0] 48 (0, 0))).drew := ⟨_, rfl⟩
                  obtain ⟨g9, eg⟩ : ∃ n, n = wr.heap.size := ⟨_, rfl⟩
                  try rw [← eW]
                  try rw [← eg]
                  have I1 : Hid (Iv V h2 h3 k W1) := by rw [eW]; exact (IW.out.grown (gb_alloc _ _ none)).grown ⟨rfl, rfl, rfl, Nat.le_refl _, fun _ _ _ => rfl⟩
                  have N9 : Hid (∀ j u, ([.int .i64 99, .int .i64 0, .int .i64 0] : List Value)[j]? = some u → W1.cell? ((⟨g9, 0, none⟩ : Addr).add j) = some u) := by
                    rw [eW, eg]
                    exact fun j u h => mk_cells wr _ _ j u h
                  clear DW IW
                  refine hK.out _ _ (fun _ => I1.out) ?_
                  clear hK K eW eg
                  refine wpAnyJ_one (i := 11) (by kernel_rfl) rfl (fun K hK => ?_)
                  rw [if_pos (by rfl)]
                  obtain ⟨i9, z9, hi9, hz9, hs9, hy9, hc9⟩ := infRlL
                  refine wp_append_ow (.tmp 115) (.tmp 117) 42 rfl 48 i9 z9 3 24 Tryz.underlying42 hi9 hz9 hs9 hy9 hc9 (by decide) xl f.ls.length cl rfl ?own ⟨g9, 0, none⟩ 1 [.int .i64 99, .int .i64 0, .int .i64 0] rfl rfl N9.out (by intro u hu; simp at hu; rcases hu with rfl | rfl <;> rfl) (by have := FO.out.2; unfold few at this; simp [maxLen]; omega) (by have := FO.out.2; unfold few at this; omega) ?_
                  case own =>
                    rcases HQ.out.2.2 with h | ⟨b, cu, e, hb, h0, h4', h5', h6⟩
                    · exact .inl h
                    · obtain ⟨cu', e', r1, _⟩ := I1.out.inn b cu _ hb.1 hb.2 h0
                      exact .inr ⟨b, cu', e, e', h4', by rw [r1, h6]⟩
                  rintro y' n' c' W2 hw
                  have I2 : Hid (Iv V h2 h3 k W2) := by
                    rcases hw with h | ⟨b, off, e, rfl⟩
                    · exact I1.out.grown h
                    · rcases HQ.out.2.2 with h | ⟨b', cu, e', hb, h0, _⟩
                      · rw [h.1] at e; cases e
                      · rw [e] at e'
                        cases e'
                        exact Iv.sets hb.1 hb.2 h0 (by decide) (by decide) _ _ _ I1.out
                  clear hw hi9 hz9 hs9 hy9 hc9 I1 N9
                  refine hK.out _ _ (fun _ => I2.out) ?_
                  clear hK K
                  refine wpAnyJ_one (i := 12) (by kernel_rfl) rfl (fun K hK => ?_)
                  rw [if_pos (by rfl)]
                  unfold Oper.wp execOp
                  go_simp
                  refine hK.out _ _ (fun _ => I2.out) ?_
                  clear hK K
                  refine wpAnyJ_one (i := 13) (by kernel_rfl) rfl (fun K hK => ?_)
                  rw [if_pos (by rfl)]
                  unfold Oper.wp execOp
                  go_simp
                  refine hK.out _ _ (fun _ => I2.out) ?_
                  clear hK K
                  have b7 := C7.out W2 I2.out
                  have fz := FZ.out W2 I2.out
                  refine wpAnyJ_one (i := 14) (by kernel_rfl) rfl (fun K hK => ?_)
                  rw [if_pos (by rfl)]
                  unfold Oper.wp execOp
                  go_simp
                  obtain ⟨W3, e3⟩ : ∃ W, W = W2.setCell ⟨g, k * 8 + 7, none⟩ (.slice y' n' c') := ⟨_, rfl⟩
                  rw [← e3]
                  have I3 : Hid (Iv V h2 h3 (k + 1) W3) := by rw [e3]; exact NF.out W2 _ I2.out
                  clear e3 b7 fz I2
                  refine hK.out _ _ (fun h => nomatch (show true = false from h)) ?_
                  clear hK K
                  refine wpAnyJ_done (by kernel_rfl) ?_ _
                  go_step
                  go_wp2
                  try rw [ew]
                  exact ⟨⟨k + 1, Nat.succ_le_of_lt LT.out, rfl, I3.out⟩, msr LT.out⟩
            · have kl : ¬ (k : Int) < m.fs.length := by omega
              have IA : Hid (Iv V h2 h3 k wr) := IW.out
              clear hlt hk
              obtain ⟨j0, j1, j2, j3⟩ := cells4 (XW.out k wr IA.out)
              go_upto_region 29 with fail
              clear IW
              go_upto_region 30 with fail
              clear j0 j1 j2 j3
              go_loopw [125] (fun i wr => ∃ k3 : Nat, k3 ≤ m.js.length ∧ i = .int .i64 k3 ∧ Iv V h2 h3 k wr) (fun i _ => m.js.length - (intOf i).toNat)
              case atStart => exact ⟨0, Nat.zero_le _, rfl, IA.out⟩
              case round =>
                clear IA
                try clear wr
                obtain ⟨k3, hk, rfl, hI⟩ := hrel
                rename World => wr
                have IW : Hid (Iv V h2 h3 k wr) := hI
                clear hI
                by_cases hlt : k3 < m.js.length
                · obtain ⟨g, cur, f, xo, co, xl, cl, rfl, q1, q2, c6, hq⟩ := job_row TV.out.2.2 k3 hlt
                  have C6 : Hid (∀ W, Iv V h2 h3 k W → W.cell? ⟨g, k3 * 7 + 4, none⟩ = some (.slice xo f.cs.length co)) := fun W h => (h.cellJ q1.1 q1.2 q2 _).trans c6
                  have HQ : Hid (JbT (Fresh h2 h3) V f xo co xl cl) := hq
                  have FO : Hid (few f.cs.length) := hq.1.1.1
                  have kl3 : (k3 : Int) < m.js.length := by omega
                  have ew : wrap64 ((k3 : Int) + 1) = (k3 : Int) + 1 := by have := FW.out.2.2; unfold few at this; unfold wrap64; omega
                  have LT : Hid (k3 < m.js.length) := hlt
                  clear hlt hk q1 q2 c6 hq
                  obtain ⟨j0, j1, j2, j3⟩ := cells4 (XW.out k wr IW.out)
                  have b6 := C6.out wr IW.out
                  go_upto_region 32 with fail
                  go_upto_region 33 with fail
                  clear j0 j1 j2 j3 b6
                  go_loopw [135] (fun i wr => ∃ k2 : Nat, k2 ≤ f.cs.length ∧ i = .int .i64 k2 ∧ Iv V h2 h3 k wr) (fun i _ => f.cs.length - (intOf i).toNat)
                  case atStart => exact ⟨0, Nat.zero_le _, rfl, IW.out⟩
                  case round =>
                    clear IW
                    try clear wr
                    obtain ⟨k2, hk, rfl, hI⟩ := hrel
                    rename World => wr
                    have IW : Hid (Iv V h2 h3 k wr) := hI
                    clear hI
                    by_cases hlt : k2 < f.cs.length
                    · obtain ⟨j0, j1, j2, j3⟩ := cells4 (XW.out k wr IW.out)
                      have b6 := C6.out wr IW.out
                      obtain ⟨g2, cur, rfl, q1, q2, q3⟩ := own_row HQ.out.1 k2 hlt
                      obtain ⟨⟨v, c0⟩, fz⟩ := IW.out.there q1.1 q1.2 q2 k2 (by omega)
                      have kl2 : (k2 : Int) < f.cs.length := by omega
                      have ew2 : wrap64 ((k2 : Int) + 1) = (k2 : Int) + 1 := by have := FO.out; unfold few at this; unfold wrap64; omega
                      have LT2 : Hid (k2 < f.cs.length) := hlt
                      have NX : Hid (∀ v, Iv V h2 h3 k (wr.setCell ⟨g2, k2, none⟩ v)) := fun v => IW.out.set q1.1 q1.2 q2 (by decide) (by decide) _ v
                      clear hlt hk q1 q2 q3
                      go_upto_region 35 with fail
                      go_wp2
                      try rw [ew2]
                      exact ⟨⟨k2 + 1, Nat.succ_le_of_lt LT2.out, rfl, NX.out _⟩, msr LT2.out⟩
                    · have kl2 : ¬ (k2 : Int) < f.cs.length := by omega
                      clear hlt hk
                      go_wp2
                      try rw [ew]
                      exact ⟨⟨k3 + 1, Nat.succ_le_of_lt LT.out, rfl, IW.out⟩, msr LT.out⟩
                · have kl3 : ¬ (k3 : Int) < m.js.length := by omega
                  clear hlt hk
                  have n3 := N3.out
                  have OW : Hid (Below AW.heap.size AW wr) := OV.out.trans ((IW.out.old (by omega)).mono (by omega))
                  have YW : Hid (wr.heap[h4]? = some (.cells #[.string m.nm, .slice u1 m.cs.length e1, .slice u2 m.fs.length e2, .slice u3 m.js.length e3] 26 (0, 0))) := (IW.out.out h4 (by omega) (.inr (by omega))).trans YV.out
                  have RW : Hid (ImQ (Fresh h5 h4) wr m u1 u2 u3) := RV.out.fr fun q hq => World.cell?_of_block (IW.out.out _ (by have := hq.2; omega) (.inr (by have := hq.1; omega)))
                  have ZW : Hid (BySo 0 z L wr) := fun j b hb => by
                    obtain ⟨kb, o, e, q1, q2, q3⟩ := ZV.out j b hb
                    exact ⟨kb, o, e, Nat.zero_le _, by have := IW.out.size; omega, (World.cell?_of_block (IW.out.out kb (by omega) (.inl q2))).trans q3⟩
                  have SW := IW.out.size
                  have HW : Hid (h4 < wr.heap.size) := by show _ < _; omega
                  clear SW n3
                  obtain ⟨j0, j1, j2, j3⟩ := cells4 (XA.out wr OW.out)
                  go_upto_region 38 with fail
                  clear IW
                  go_wp2_with fail
                  refine (ER.out wr (QA.out wr OW.out)).mono ?_
                  rintro e W5 ⟨⟨zz, dd, er, rfl, hz⟩, hb⟩
                  have O5 : Hid (Below AW.heap.size AW W5) := OW.out.trans (hb.mono OW.out.size)
                  have Y5 : Hid (W5.heap[h4]? = some (.cells #[.string m.nm, .slice u1 m.cs.length e1, .slice u2 m.fs.length e2, .slice u3 m.js.length e3] 26 (0, 0))) := (hb.block _ HW.out).trans YW.out
                  have R5 : Hid (ImQ (fun b => b < W5.heap.size) W5 m u1 u2 u3) := (RW.out.fr fun q hq => hb.cell (Nat.lt_trans hq.2 HW.out)).sub fun b hb' => Nat.lt_of_lt_of_le (Nat.lt_trans hb'.2 HW.out) hb.size
                  have Z5 : Hid (BySo 0 z L W5) := ZW.out.up hb.block hb.size
                  have V5 : Hid (BySo 0 zz L W5) := hz
                  clear hz hb j0 j1 j2 j3 OW YW RW ZW HW
                  obtain ⟨i0, i1, i2, i3⟩ := cells4 (XA.out W5 O5.out)
                  obtain ⟨j0, j1, j2, j3⟩ := cells4 Y5.out
                  go_upto_region 39 with fail
                  go_wp2_with fail
                  refine (SM.out W5 u1 u2 u3 e1 e2 e3 (QA.out W5 O5.out) R5.out).mono ?_
                  rintro e W6 ⟨rfl, hb⟩
                  have O6 : Hid (Below AW.heap.size AW W6) := O5.out.trans (hb.mono O5.out.size)
                  have Z6 : Hid (BySo 0 z L W6) := Z5.out.up hb.block hb.size
                  have V6 : Hid (BySo 0 zz L W6) := V5.out.up hb.block hb.size
                  clear hb i0 i1 i2 i3 j0 j1 j2 j3 O5 Y5 R5 Z5 V5
                  go_wp2_with fail
                  refine (EQ.out z c zz dd W6 Z6.out V6.out).mono ?_
                  rintro e W7 ⟨rfl, hb⟩
                  have O7 : Hid (Below AW.heap.size AW W7) := O6.out.trans (hb.mono O6.out.size)
                  clear hb Z6 V6 O6
                  go_wp2_with fail
                  refine (AK.out W7).mono ?_
                  rintro e W8 ⟨rfl, hb⟩
                  have O8 : Hid (Below AW.heap.size AW W8) := O7.out.trans (hb.mono O7.out.size)
                  clear hb
                  go_wp2
                  go_ret
                  exact ⟨by first | rfl | simp, BA.out _ O8.out⟩
end Go.Proofs.YtdcjngakmkgbmaaGreat.Ty
namespace Go.Proofs.YtdcjngakmkgbmaaGreat
set_option linter.unusedVariables false
open Go.RowKit Go.ChangeShapes Go.WideShapes Go.ChangeAt
theorem add_off (a : Addr) (i j : Nat) : (a.add i).add j = a.add (i + j) := by
  unfold Addr.add
  by_cases hi : i = 0 <;> by_cases hj : j = 0 <;> simp [hi, hj, Nat.add_assoc]
theorem pick_lt {α : Type} (p : Nat → α → Prop) : ∀ n, (∀ i, i < n → ∃ t, p i t) → ∃ l : List α, l.length = n ∧ ∀ i t, l[i]? = some t → p i t
  | 0, _ => ⟨[], rfl, fun i t h => by simp at h⟩
  | n + 1, h => by
    obtain ⟨l, hl, hp⟩ := pick_lt p n fun i hi => h i (by omega)
    obtain ⟨t, ht⟩ := h n (by omega)
    refine ⟨l ++ [t], by simp [hl], fun i u hu => ?_⟩
    by_cases hi : i < n
    · rw [List.getElem?_append_left (by omega)] at hu; exact hp i u hu
    · have e : i = n := by
        have := (List.getElem?_eq_some_iff.1 hu).1
        simp at this
        omega
      subst e
      rw [List.getElem?_append_right (by omega), hl] at hu
      simp at hu
      subst hu
      exact ht
theorem one_le {H : Type} (d : DataW H) : 1 ≤ Rows.uptoBulk d := by
  cases d with
  | lit l => cases l <;> simp [Rows.uptoBulk]
  | nil => simp [Rows.uptoBulk]
  | ptr d => simp [Rows.uptoBulk]
  | slice elems spare => simp [Rows.uptoBulk]
  | agg parts => simp [Rows.uptoBulk]
  | iface t d => simp [Rows.uptoBulk]
  | map entries => simp [Rows.uptoBulk]
  | held h => simp [Rows.uptoBulk]
theorem elem_le {H : Type} : ∀ {l : List (DataW H × List MemPlace)} {i : Nat} {y : DataW H × List MemPlace}, l[i]? = some y → Rows.uptoBulk y.1 ≤ Rows.uptoBulkAll (l.map (·.1))
  | [], i, y, h => by simp at h
  | a :: l, 0, y, h => by
    simp at h
    subst h
    simp only [List.map_cons, Rows.uptoBulkAll]
    omega
  | a :: l, i + 1, y, h => by
    have := elem_le (l := l) (i := i) (y := y) (by simpa using h)
    simp only [List.map_cons, Rows.uptoBulkAll]
    omega
theorem len_le {H : Type} : ∀ l : List (DataW H × List MemPlace), l.length ≤ Rows.uptoBulkAll (l.map (·.1))
  | [] => by simp [Rows.uptoBulkAll]
  | a :: l => by
    have := len_le l
    have := one_le a.1
    simp only [List.map_cons, Rows.uptoBulkAll, List.length_cons]
    omega
section
variable {H : Type} {enc : TypeId × Value → H} {w : World} {base : Nat} {spare : Nat → Bool} {held : Bool}
/-- A slice, as it is read. -/
theorem rd_slice {fuel : Nat} {t e : TypeId} {v : Value} {x : DataW H × List MemPlace} (ht : Tryz.prog.underlying t = some (.slice e)) (k : Nat) (hk : Tryz.prog.cellsOf e = k) (h : DataW.trod enc Tryz.prog w base spare held fuel t [v] = some x) :
    v = .slice none 0 0 ∨ ∃ a len cap m, fuel = m + 1 ∧ v = .slice (some a) len cap ∧ len + 1 ≤ Rows.uptoBulk x.1 ∧ ∀ i, i < len → ∃ cs y, (∀ j, j < k → w.cell? (a.add (i * k + j)) = cs[j]?) ∧ cs.length = k ∧ DataW.trod enc Tryz.prog w base spare held m e cs = some y ∧ Rows.uptoBulk y.1 + 1 ≤ Rows.uptoBulk x.1 := by
  rcases DataW.trod_slice ht h with ⟨e1, _⟩ | ⟨a, len, cap, elems, rest, n, rfl, hc, hx, hb, hl, hm, hel, he, _⟩
  · simp at e1
    exact .inl e1
  · simp at hc
    refine .inr ⟨a, len, cap, n, rfl, hc, ?_, fun i hi => ?_⟩
    · have := len_le elems
      rw [hx]
      simp only [Rows.uptoBulk]
      omega
    · have q := he i hi
      have e2 : elems[i]? = some (elems[i]'(by omega)) := List.getElem?_eq_getElem _
      rw [e2, hk] at q
      obtain ⟨cs, h1, h2⟩ := Option.bind_eq_some_iff.1 q
      obtain ⟨_, hlen, g⟩ := World.cells?_some h1
      refine ⟨cs, _, fun j hj => by have := g j hj; rwa [add_off] at this, hlen, h2, ?_⟩
      have := elem_le e2
      rw [hx]
      simp only [Rows.uptoBulk]
      omega
/-- A struct, as it is read, field by field. -/
theorem rd_struct {fuel : Nat} {t : TypeId} {cs : List Value} {x : DataW H × List MemPlace} {L : List (TypeId × Nat)} (ht : Tryz.prog.underlying t = some (.struct (Tryz.prog.fieldsOf t))) (hL : ((Tryz.prog.fieldsOf t).map (fun f => (f.type, f.offset))).toList = L)
    (h : DataW.trod enc Tryz.prog w base spare held fuel t cs = some x) : ∃ (xs : List (DataW H × List MemPlace)) (m : Nat), fuel = m + 1 ∧ x.1 = .agg (xs.map (·.1)) ∧ cs.length = Tryz.prog.cellsOf t ∧ xs.length = L.length ∧ ∀ (i : Nat) (u : TypeId) (o : Nat), L[i]? = some (u, o) → DataW.trod enc Tryz.prog w base spare held m u ((cs.drop o).take (Tryz.prog.cellsOf u)) = xs[i]? := by
  obtain ⟨xs, n, e, hx, hl, hlen, hf⟩ := DataW.trod_struct ht h
  refine ⟨xs, n, e, by rw [hx], hl, by rw [hlen, ← hL]; simp, fun i u o hi => ?_⟩
  rw [← hL] at hi
  simp only [Array.toList_map, List.getElem?_map, Option.map_eq_some_iff, Array.getElem?_toList, Prod.mk.injEq] at hi
  obtain ⟨f, h1, rfl, rfl⟩ := hi
  exact hf i f h1
theorem fieldsV : ((Tryz.prog.fieldsOf 38).map (fun f => (f.type, f.offset))).toList = [(35, 0), (36, 1), (9, 2)] := by kernel_rfl
end
end Go.Proofs.YtdcjngakmkgbmaaGreat
namespace Go.Proofs.YtdcjngakmkgbmaaGreat
set_option linter.unusedVariables false
open Go.RowKit Go.ChangeShapes Go.WideShapes Go.ChangeAt
/-- A number that its kind has. -/
def wfI (k : IntKind) (n : Int) : Prop := (Lit.int k n).wf = true
/-- A text that is not too long. -/
def shT (s : ByteArray) : Prop := s.size ≤ 4194304
/-- Its numbers are of their kinds. -/
def CeOk (x : CeR) : Prop := wfI .u8 x.kd ∧ wfI .i64 x.lo ∧ wfI .i64 x.hi ∧ wfI .i64 x.mx ∧ wfI .u8 x.ik ∧ wfI .u64 x.ib ∧ shT x.is ∧ wfI .i64 x.dr ∧ shT x.ad
/-- Its numbers are of their kinds. -/
def OpOk (x : OpR) : Prop := wfI .i64 x.cd ∧ wfI .i64 x.a ∧ wfI .i64 x.b ∧ wfI .i64 x.c ∧ wfI .i64 x.d ∧ wfI .i64 x.lo ∧ wfI .i64 x.hi ∧ wfI .u8 x.vk ∧ wfI .u64 x.vb ∧ shT x.vs
/-- Its numbers are of their kinds. -/
def LpOk (x : LpR) : Prop := wfI .i64 x.hd ∧ wfI .i64 x.en ∧ wfI .i64 x.tm
def FlOk (f : FlR) : Prop := shT f.nm ∧ wfI .i64 f.wh ∧ wfI .i64 f.ce ∧ wfI .i64 f.ba ∧ wfI .i64 f.rg ∧ wfI .i64 f.sl ∧ (∀ o ∈ f.os, OpOk o) ∧ (∀ o ∈ f.ls, LpOk o) ∧ f.os.length ≤ 1048576 ∧ f.ls.length ≤ 1048576
def JbOk (j : JbR) : Prop := shT j.nm ∧ wfI .i64 j.iv ∧ wfI .i64 j.sg ∧ wfI .i64 j.pr ∧ wfI .i64 j.bd ∧ (∀ o ∈ j.cs, wfI .i64 o) ∧ (∀ o ∈ j.bs, wfI .i64 o) ∧ j.cs.length ≤ 1048576 ∧ j.bs.length ≤ 1048576
def ImOk (m : ImR) : Prop := shT m.nm ∧ (∀ c ∈ m.cs, CeOk c) ∧ (∀ f ∈ m.fs, FlOk f) ∧ (∀ j ∈ m.js, JbOk j) ∧ m.cs.length ≤ 1048576 ∧ m.fs.length ≤ 1048576 ∧ m.js.length ≤ 1048576
theorem RwF.each {α : Type} {n : Nat} {P : α → List Value → Prop} {S : Nat → Prop} {w : World} {x : Option Addr} {l : List α} (h : RwF n P S w x l) : ∀ e ∈ l, ∃ vs, P e vs := by
  intro e he
  cases x with
  | none => rw [h.2.1 rfl] at he; cases he
  | some a =>
    obtain ⟨i, hi⟩ := List.mem_iff_getElem?.1 he
    obtain ⟨_, vs, hp, _⟩ := h.2.2 a rfl i e hi
    exact ⟨vs, hp⟩
section
variable {H : Type} {enc : TypeId × Value → H} {w : World} {base : Nat} {spare : Nat → Bool} {held : Bool}
theorem rd_rows {α : Type} {P : α → List Value → Prop} {fuel : Nat} {t e : TypeId} {v : Value} {x : DataW H × List MemPlace} (ht : Tryz.prog.underlying t = some (.slice e)) (k : Nat) (k0 : 0 < k) (hk : Tryz.prog.cellsOf e = k)
    (hR : ∀ (m : Nat) cs (y : DataW H × List MemPlace), DataW.trod enc Tryz.prog w base spare held m e cs = some y → cs.length = k → Rows.uptoBulk y.1 ≤ 1048576 → ∃ r, P r cs)
    (h : DataW.trod enc Tryz.prog w base spare held fuel t [v] = some x) (hb : Rows.uptoBulk x.1 ≤ 1048576) : ∃ a l c, v = .slice a (List.length l) c ∧ RwF k P (fun b => b < w.heap.size) w a l ∧ l.length ≤ 1048576 := by
  rcases rd_slice ht k hk h with rfl | ⟨a, len, cap, m, hm, rfl, hl, hi⟩
  · exact ⟨none, [], 0, rfl, RwF.nil _ _ _ _, Nat.zero_le _⟩
  · obtain ⟨l, hn, hp⟩ := pick_lt (fun i (r : α) => a.block < w.heap.size ∧ ∃ vs, P r vs ∧ CsAt w (a.add (i * k)) vs) len fun i hlt => by
      obtain ⟨cs, y, g, hc, ht, hy⟩ := hi i hlt
      obtain ⟨r, hr⟩ := hR m cs y ht hc (by omega)
      have cc : CsAt w (a.add (i * k)) cs := fun j u hu => by
        have lj : j < k := by have := (List.getElem?_eq_some_iff.1 hu).1; omega
        rw [ad_off, g j lj, hu]
      refine ⟨r, ?_, cs, hr, cc⟩
      have c0 := cc 0 (cs[0]'(by omega)) (List.getElem?_eq_getElem _)
      have := block_lt_of_cell c0
      rwa [add_block, add_block] at this
    refine ⟨some a, l, cap, by rw [hn], ⟨by show l.length < _; omega, fun e => (by cases e), fun b e i s hs => ?_⟩, by omega⟩
    cases e
    exact hp i s hs
theorem rd_int {fuel : Nat} {cs : List Value} {y : DataW H × List MemPlace} (h : DataW.trod enc Tryz.prog w base spare held fuel 3 cs = some y) : ∃ z, cs = [.int .i64 z] ∧ wfI .i64 z := by
  obtain ⟨z, e, _, q⟩ := DataW.trod_int Tryz.underlying3 h
  exact ⟨z, e, q⟩
theorem rd_u64 {fuel : Nat} {cs : List Value} {y : DataW H × List MemPlace} (h : DataW.trod enc Tryz.prog w base spare held fuel 36 cs = some y) : ∃ z, cs = [.int .u64 z] ∧ wfI .u64 z := by
  obtain ⟨z, e, _, q⟩ := DataW.trod_int Tryz.underlying36 h
  exact ⟨z, e, q⟩
theorem rd_kind {fuel : Nat} {cs : List Value} {y : DataW H × List MemPlace} (h : DataW.trod enc Tryz.prog w base spare held fuel 35 cs = some y) : ∃ z, cs = [.int .u8 z] ∧ wfI .u8 z := by
  obtain ⟨z, e, _, q⟩ := DataW.trod_int Tryz.underlying35 h
  exact ⟨z, e, q⟩
theorem rd_str {fuel : Nat} {cs : List Value} {y : DataW H × List MemPlace} (h : DataW.trod enc Tryz.prog w base spare held fuel 9 cs = some y) (hb : Rows.uptoBulk y.1 ≤ 1048576) : ∃ z, cs = [.string z] ∧ shT z := by
  obtain ⟨z, e, rfl, _⟩ := DataW.trod_string Tryz.underlying9 h
  refine ⟨z, e, ?_⟩
  simp only [Rows.uptoBulk] at hb
  have : z.data.toList.length = z.size := Array.length_toList
  unfold shT
  omega
theorem rd_bool {fuel : Nat} {cs : List Value} {y : DataW H × List MemPlace} (h : DataW.trod enc Tryz.prog w base spare held fuel 4 cs = some y) : ∃ z, cs = [.bool z] := by
  obtain ⟨z, e, _⟩ := DataW.trod_bool Tryz.underlying4 h
  exact ⟨z, e⟩
set_option maxRecDepth 20000 in
theorem rd_val {fuel : Nat} {c0 c1 c2 : Value} {y : DataW H × List MemPlace} (h : DataW.trod enc Tryz.prog w base spare held fuel 38 [c0, c1, c2] = some y) (hb : Rows.uptoBulk y.1 ≤ 1048576) : ∃ k b s, c0 = .int .u8 k ∧ c1 = .int .u64 b ∧ c2 = .string s ∧ wfI .u8 k ∧ wfI .u64 b ∧ shT s := by
  obtain ⟨xs, m, _, hx, _, hl, hf⟩ := rd_struct (by kernel_rfl) fieldsV h
  match xs, hl with
  | [u0, u1, u2], _ =>
    have j0 : DataW.trod enc Tryz.prog w base spare held m 35 [c0] = some u0 := hf 0 _ _ rfl
    have j1 : DataW.trod enc Tryz.prog w base spare held m 36 [c1] = some u1 := hf 1 _ _ rfl
    have j2 : DataW.trod enc Tryz.prog w base spare held m 9 [c2] = some u2 := hf 2 _ _ rfl
    simp only [hx, List.map_cons, List.map_nil, Rows.uptoBulk, Rows.uptoBulkAll] at hb
    obtain ⟨z0, e0, q0⟩ := rd_kind j0
    obtain ⟨z1, e1, q1⟩ := rd_u64 j1
    obtain ⟨z2, e2, q2⟩ := rd_str j2 (by omega)
    simp only [List.cons.injEq, and_true] at e0 e1 e2
    exact ⟨z0, z1, z2, e0, e1, e2, q0, q1, q2⟩
theorem fieldsCei : ((Tryz.prog.fieldsOf 40).map (fun f => (f.type, f.offset))).toList = [(35, 0), (4, 1), (3, 2), (3, 3), (3, 4), (38, 5), (4, 8), (3, 9), (9, 10)] := by kernel_rfl
set_option maxRecDepth 100000 in
theorem rd_Cei {fuel : Nat} {cs : List Value} {y : DataW H × List MemPlace} (h : DataW.trod enc Tryz.prog w base spare held fuel 40 cs = some y) (hn : cs.length = 11) (hb : Rows.uptoBulk y.1 ≤ 1048576) : ∃ r, cs = ceC r ∧ CeOk r := by
  obtain ⟨xs, m2, hm2, hx, _, hxl, hf⟩ := rd_struct (by kernel_rfl) fieldsCei h
  match cs, hn with
  | [c0, c1, c2, c3, c4, c5, c6, c7, c8, c9, c10], _ =>
    match xs, hxl with
    | [y0, y1, y2, y3, y4, y5, y6, y7, y8], _ =>
      have k0 : DataW.trod enc Tryz.prog w base spare held m2 35 [c0] = some y0 := hf 0 _ _ rfl
      have k1 : DataW.trod enc Tryz.prog w base spare held m2 4 [c1] = some y1 := hf 1 _ _ rfl
      have k2 : DataW.trod enc Tryz.prog w base spare held m2 3 [c2] = some y2 := hf 2 _ _ rfl
      have k3 : DataW.trod enc Tryz.prog w base spare held m2 3 [c3] = some y3 := hf 3 _ _ rfl
      have k4 : DataW.trod enc Tryz.prog w base spare held m2 3 [c4] = some y4 := hf 4 _ _ rfl
      have k5 : DataW.trod enc Tryz.prog w base spare held m2 38 [c5, c6, c7] = some y5 := hf 5 _ _ rfl
      have k6 : DataW.trod enc Tryz.prog w base spare held m2 4 [c8] = some y6 := hf 6 _ _ rfl
      have k7 : DataW.trod enc Tryz.prog w base spare held m2 3 [c9] = some y7 := hf 7 _ _ rfl
      have k8 : DataW.trod enc Tryz.prog w base spare held m2 9 [c10] = some y8 := hf 8 _ _ rfl
      simp only [hx, List.map_cons, List.map_nil, Rows.uptoBulk, Rows.uptoBulkAll] at hb
      obtain ⟨zkd, e0, qkd⟩ := rd_kind k0
      obtain ⟨zsb, e1⟩ := rd_bool k1
      obtain ⟨zlo, e2, qlo⟩ := rd_int k2
      obtain ⟨zhi, e3, qhi⟩ := rd_int k3
      obtain ⟨zmx, e4, qmx⟩ := rd_int k4
      obtain ⟨zik, zib, zis, rfl, rfl, rfl, qik, qib, qis⟩ := rd_val k5 (by omega)
      obtain ⟨zkp, e6⟩ := rd_bool k6
      obtain ⟨zdr, e7, qdr⟩ := rd_int k7
      obtain ⟨zad, e8, qad⟩ := rd_str k8 (by omega)
      simp only [List.cons.injEq, and_true] at e0 e1 e2 e3 e4 e6 e7 e8
      subst e0 e1 e2 e3 e4 e6 e7 e8
      exact ⟨⟨zkd, zsb, zlo, zhi, zmx, zik, zib, zis, zkp, zdr, zad⟩, rfl, qkd, qlo, qhi, qmx, qik, qib, qis, qdr, qad⟩
theorem rd_CeL {fuel : Nat} {v : Value} {x : DataW H × List MemPlace} (h : DataW.trod enc Tryz.prog w base spare held fuel 22 [v] = some x) (hb : Rows.uptoBulk x.1 ≤ 1048576) : ∃ a l c, v = .slice a (List.length l) c ∧ (RwF 11 (Is ceC) (fun b => b < w.heap.size) w a l ∧ ∀ e ∈ l, CeOk e) ∧ l.length ≤ 1048576 := by
  obtain ⟨a, l, c, e, hr, hl⟩ := rd_rows (P := fun e vs => vs = ceC e ∧ CeOk e) Tryz.underlying22 11 (by decide) (by kernel_rfl) (fun m cs y h1 h2 h3 => rd_Cei h1 h2 h3) h hb
  exact ⟨a, l, c, e, ⟨hr.imp fun e vs _ q => q.1, fun e he => by obtain ⟨vs, q⟩ := hr.each e he; exact q.2⟩, hl⟩
theorem fieldsOpi : ((Tryz.prog.fieldsOf 46).map (fun f => (f.type, f.offset))).toList = [(3, 0), (3, 1), (3, 2), (3, 3), (3, 4), (3, 5), (3, 6), (38, 7)] := by kernel_rfl
set_option maxRecDepth 100000 in
theorem rd_Opi {fuel : Nat} {cs : List Value} {y : DataW H × List MemPlace} (h : DataW.trod enc Tryz.prog w base spare held fuel 46 cs = some y) (hn : cs.length = 10) (hb : Rows.uptoBulk y.1 ≤ 1048576) : ∃ r, cs = opC r ∧ OpOk r := by
  obtain ⟨xs, m2, hm2, hx, _, hxl, hf⟩ := rd_struct (by kernel_rfl) fieldsOpi h
  match cs, hn with
  | [c0, c1, c2, c3, c4, c5, c6, c7, c8, c9], _ =>
    match xs, hxl with
    | [y0, y1, y2, y3, y4, y5, y6, y7], _ =>
      have k0 : DataW.trod enc Tryz.prog w base spare held m2 3 [c0] = some y0 := hf 0 _ _ rfl
      have k1 : DataW.trod enc Tryz.prog w base spare held m2 3 [c1] = some y1 := hf 1 _ _ rfl
      have k2 : DataW.trod enc Tryz.prog w base spare held m2 3 [c2] = some y2 := hf 2 _ _ rfl
      have k3 : DataW.trod enc Tryz.prog w base spare held m2 3 [c3] = some y3 := hf 3 _ _ rfl
      have k4 : DataW.trod enc Tryz.prog w base spare held m2 3 [c4] = some y4 := hf 4 _ _ rfl
      have k5 : DataW.trod enc Tryz.prog w base spare held m2 3 [c5] = some y5 := hf 5 _ _ rfl
      have k6 : DataW.trod enc Tryz.prog w base spare held m2 3 [c6] = some y6 := hf 6 _ _ rfl
      have k7 : DataW.trod enc Tryz.prog w base spare held m2 38 [c7, c8, c9] = some y7 := hf 7 _ _ rfl
      simp only [hx, List.map_cons, List.map_nil, Rows.uptoBulk, Rows.uptoBulkAll] at hb
      obtain ⟨zcd, e0, qcd⟩ := rd_int k0
      obtain ⟨za, e1, qa⟩ := rd_int k1
      obtain ⟨zb, e2, qb⟩ := rd_int k2
      obtain ⟨zc, e3, qc⟩ := rd_int k3
      obtain ⟨zd, e4, qd⟩ := rd_int k4
      obtain ⟨zlo, e5, qlo⟩ := rd_int k5
      obtain ⟨zhi, e6, qhi⟩ := rd_int k6
      obtain ⟨zvk, zvb, zvs, rfl, rfl, rfl, qvk, qvb, qvs⟩ := rd_val k7 (by omega)
      simp only [List.cons.injEq, and_true] at e0 e1 e2 e3 e4 e5 e6
      subst e0 e1 e2 e3 e4 e5 e6
      exact ⟨⟨zcd, za, zb, zc, zd, zlo, zhi, zvk, zvb, zvs⟩, rfl, qcd, qa, qb, qc, qd, qlo, qhi, qvk, qvb, qvs⟩
theorem rd_OpL {fuel : Nat} {v : Value} {x : DataW H × List MemPlace} (h : DataW.trod enc Tryz.prog w base spare held fuel 41 [v] = some x) (hb : Rows.uptoBulk x.1 ≤ 1048576) : ∃ a l c, v = .slice a (List.length l) c ∧ (RwF 10 (Is opC) (fun b => b < w.heap.size) w a l ∧ ∀ e ∈ l, OpOk e) ∧ l.length ≤ 1048576 := by
  obtain ⟨a, l, c, e, hr, hl⟩ := rd_rows (P := fun e vs => vs = opC e ∧ OpOk e) Tryz.underlying41 10 (by decide) (by kernel_rfl) (fun m cs y h1 h2 h3 => rd_Opi h1 h2 h3) h hb
  exact ⟨a, l, c, e, ⟨hr.imp fun e vs _ q => q.1, fun e he => by obtain ⟨vs, q⟩ := hr.each e he; exact q.2⟩, hl⟩
theorem fieldsLpi : ((Tryz.prog.fieldsOf 48).map (fun f => (f.type, f.offset))).toList = [(3, 0), (3, 1), (3, 2)] := by kernel_rfl
set_option maxRecDepth 100000 in
theorem rd_Lpi {fuel : Nat} {cs : List Value} {y : DataW H × List MemPlace} (h : DataW.trod enc Tryz.prog w base spare held fuel 48 cs = some y) (hn : cs.length = 3) (hb : Rows.uptoBulk y.1 ≤ 1048576) : ∃ r, cs = lpC r ∧ LpOk r := by
  obtain ⟨xs, m2, hm2, hx, _, hxl, hf⟩ := rd_struct (by kernel_rfl) fieldsLpi h
  match cs, hn with
  | [c0, c1, c2], _ =>
    match xs, hxl with
    | [y0, y1, y2], _ =>
      have k0 : DataW.trod enc Tryz.prog w base spare held m2 3 [c0] = some y0 := hf 0 _ _ rfl
      have k1 : DataW.trod enc Tryz.prog w base spare held m2 3 [c1] = some y1 := hf 1 _ _ rfl
      have k2 : DataW.trod enc Tryz.prog w base spare held m2 3 [c2] = some y2 := hf 2 _ _ rfl
      simp only [hx, List.map_cons, List.map_nil, Rows.uptoBulk, Rows.uptoBulkAll] at hb
      obtain ⟨zhd, e0, qhd⟩ := rd_int k0
      obtain ⟨zen, e1, qen⟩ := rd_int k1
      obtain ⟨ztm, e2, qtm⟩ := rd_int k2
      simp only [List.cons.injEq, and_true] at e0 e1 e2
      subst e0 e1 e2
      exact ⟨⟨zhd, zen, ztm⟩, rfl, qhd, qen, qtm⟩
theorem rd_LpL {fuel : Nat} {v : Value} {x : DataW H × List MemPlace} (h : DataW.trod enc Tryz.prog w base spare held fuel 42 [v] = some x) (hb : Rows.uptoBulk x.1 ≤ 1048576) : ∃ a l c, v = .slice a (List.length l) c ∧ (RwF 3 (Is lpC) (fun b => b < w.heap.size) w a l ∧ ∀ e ∈ l, LpOk e) ∧ l.length ≤ 1048576 := by
  obtain ⟨a, l, c, e, hr, hl⟩ := rd_rows (P := fun e vs => vs = lpC e ∧ LpOk e) Tryz.underlying42 3 (by decide) (by kernel_rfl) (fun m cs y h1 h2 h3 => rd_Lpi h1 h2 h3) h hb
  exact ⟨a, l, c, e, ⟨hr.imp fun e vs _ q => q.1, fun e he => by obtain ⟨vs, q⟩ := hr.each e he; exact q.2⟩, hl⟩
theorem rd_InL {fuel : Nat} {v : Value} {x : DataW H × List MemPlace} (h : DataW.trod enc Tryz.prog w base spare held fuel 49 [v] = some x) (hb : Rows.uptoBulk x.1 ≤ 1048576) : ∃ a l c, v = .slice a (List.length l) c ∧ (RwF 1 (Is inC) (fun b => b < w.heap.size) w a l ∧ ∀ e ∈ l, wfI .i64 e) ∧ l.length ≤ 1048576 := by
  obtain ⟨a, l, c, e, hr, hl⟩ := rd_rows (P := fun e vs => vs = inC e ∧ wfI .i64 e) Tryz.underlying49 1 (by decide) (by kernel_rfl) (fun m cs y h1 h2 h3 => by obtain ⟨z, e, q⟩ := rd_int h1; exact ⟨z, e, q⟩) h hb
  exact ⟨a, l, c, e, ⟨hr.imp fun e vs _ q => q.1, fun e he => by obtain ⟨vs, q⟩ := hr.each e he; exact q.2⟩, hl⟩
theorem fieldsFli : ((Tryz.prog.fieldsOf 44).map (fun f => (f.type, f.offset))).toList = [(9, 0), (3, 1), (3, 2), (3, 3), (3, 4), (3, 5), (41, 6), (42, 7)] := by kernel_rfl
set_option maxRecDepth 100000 in
theorem rd_Fli {fuel : Nat} {cs : List Value} {y : DataW H × List MemPlace} (h : DataW.trod enc Tryz.prog w base spare held fuel 44 cs = some y) (hn : cs.length = 8) (hb : Rows.uptoBulk y.1 ≤ 1048576) : ∃ r, FlP (fun b => b < w.heap.size) w r cs ∧ FlOk r := by
  obtain ⟨xs, m2, hm2, hx, _, hxl, hf⟩ := rd_struct (by kernel_rfl) fieldsFli h
  match cs, hn with
  | [c0, c1, c2, c3, c4, c5, c6, c7], _ =>
    match xs, hxl with
    | [y0, y1, y2, y3, y4, y5, y6, y7], _ =>
      have k0 : DataW.trod enc Tryz.prog w base spare held m2 9 [c0] = some y0 := hf 0 _ _ rfl
      have k1 : DataW.trod enc Tryz.prog w base spare held m2 3 [c1] = some y1 := hf 1 _ _ rfl
      have k2 : DataW.trod enc Tryz.prog w base spare held m2 3 [c2] = some y2 := hf 2 _ _ rfl
      have k3 : DataW.trod enc Tryz.prog w base spare held m2 3 [c3] = some y3 := hf 3 _ _ rfl
      have k4 : DataW.trod enc Tryz.prog w base spare held m2 3 [c4] = some y4 := hf 4 _ _ rfl
      have k5 : DataW.trod enc Tryz.prog w base spare held m2 3 [c5] = some y5 := hf 5 _ _ rfl
      have k6 : DataW.trod enc Tryz.prog w base spare held m2 41 [c6] = some y6 := hf 6 _ _ rfl
      have k7 : DataW.trod enc Tryz.prog w base spare held m2 42 [c7] = some y7 := hf 7 _ _ rfl
      simp only [hx, List.map_cons, List.map_nil, Rows.uptoBulk, Rows.uptoBulkAll] at hb
      obtain ⟨znm, e0, qnm⟩ := rd_str k0 (by omega)
      obtain ⟨zwh, e1, qwh⟩ := rd_int k1
      obtain ⟨zce, e2, qce⟩ := rd_int k2
      obtain ⟨zba, e3, qba⟩ := rd_int k3
      obtain ⟨zrg, e4, qrg⟩ := rd_int k4
      obtain ⟨zsl, e5, qsl⟩ := rd_int k5
      obtain ⟨xos, zos, pos, rfl, qos, los⟩ := rd_OpL k6 (by omega)
      obtain ⟨xls, zls, pls, rfl, qls, lls⟩ := rd_LpL k7 (by omega)
      simp only [List.cons.injEq, and_true] at e0 e1 e2 e3 e4 e5
      subst e0 e1 e2 e3 e4 e5
      exact ⟨⟨znm, zwh, zce, zba, zrg, zsl, zos, zls⟩, ⟨xos, pos, xls, pls, rfl, qos.1, qls.1⟩, qnm, qwh, qce, qba, qrg, qsl, qos.2, qls.2, los, lls⟩
theorem fieldsJbi : ((Tryz.prog.fieldsOf 51).map (fun f => (f.type, f.offset))).toList = [(9, 0), (3, 1), (3, 2), (3, 3), (49, 4), (49, 5), (3, 6)] := by kernel_rfl
set_option maxRecDepth 100000 in
theorem rd_Jbi {fuel : Nat} {cs : List Value} {y : DataW H × List MemPlace} (h : DataW.trod enc Tryz.prog w base spare held fuel 51 cs = some y) (hn : cs.length = 7) (hb : Rows.uptoBulk y.1 ≤ 1048576) : ∃ r, JbP (fun b => b < w.heap.size) w r cs ∧ JbOk r := by
  obtain ⟨xs, m2, hm2, hx, _, hxl, hf⟩ := rd_struct (by kernel_rfl) fieldsJbi h
  match cs, hn with
  | [c0, c1, c2, c3, c4, c5, c6], _ =>
    match xs, hxl with
    | [y0, y1, y2, y3, y4, y5, y6], _ =>
      have k0 : DataW.trod enc Tryz.prog w base spare held m2 9 [c0] = some y0 := hf 0 _ _ rfl
      have k1 : DataW.trod enc Tryz.prog w base spare held m2 3 [c1] = some y1 := hf 1 _ _ rfl
      have k2 : DataW.trod enc Tryz.prog w base spare held m2 3 [c2] = some y2 := hf 2 _ _ rfl
      have k3 : DataW.trod enc Tryz.prog w base spare held m2 3 [c3] = some y3 := hf 3 _ _ rfl
      have k4 : DataW.trod enc Tryz.prog w base spare held m2 49 [c4] = some y4 := hf 4 _ _ rfl
      have k5 : DataW.trod enc Tryz.prog w base spare held m2 49 [c5] = some y5 := hf 5 _ _ rfl
      have k6 : DataW.trod enc Tryz.prog w base spare held m2 3 [c6] = some y6 := hf 6 _ _ rfl
      simp only [hx, List.map_cons, List.map_nil, Rows.uptoBulk, Rows.uptoBulkAll] at hb
      obtain ⟨znm, e0, qnm⟩ := rd_str k0 (by omega)
      obtain ⟨ziv, e1, qiv⟩ := rd_int k1
      obtain ⟨zsg, e2, qsg⟩ := rd_int k2
      obtain ⟨zpr, e3, qpr⟩ := rd_int k3
      obtain ⟨xcs, zcs, pcs, rfl, qcs, lcs⟩ := rd_InL k4 (by omega)
      obtain ⟨xbs, zbs, pbs, rfl, qbs, lbs⟩ := rd_InL k5 (by omega)
      obtain ⟨zbd, e6, qbd⟩ := rd_int k6
      simp only [List.cons.injEq, and_true] at e0 e1 e2 e3 e6
      subst e0 e1 e2 e3 e6
      exact ⟨⟨znm, ziv, zsg, zpr, zcs, zbs, zbd⟩, ⟨xcs, pcs, xbs, pbs, rfl, qcs.1, qbs.1⟩, qnm, qiv, qsg, qpr, qbd, qcs.2, qbs.2, lcs, lbs⟩
theorem rd_FlL {fuel : Nat} {v : Value} {x : DataW H × List MemPlace} (h : DataW.trod enc Tryz.prog w base spare held fuel 23 [v] = some x) (hb : Rows.uptoBulk x.1 ≤ 1048576) : ∃ a l c, v = .slice a (List.length l) c ∧ (RwF 8 (FlP (fun b => b < w.heap.size) w) (fun b => b < w.heap.size) w a l ∧ ∀ e ∈ l, FlOk e) ∧ l.length ≤ 1048576 := by
  obtain ⟨a, l, c, e, hr, hl⟩ := rd_rows (P := fun e vs => FlP (fun b => b < w.heap.size) w e vs ∧ FlOk e) Tryz.underlying23 8 (by decide) (by kernel_rfl) (fun m cs y h1 h2 h3 => rd_Fli h1 h2 h3) h hb
  exact ⟨a, l, c, e, ⟨hr.imp fun e vs _ q => q.1, fun e he => by obtain ⟨vs, q⟩ := hr.each e he; exact q.2⟩, hl⟩
theorem rd_JbL {fuel : Nat} {v : Value} {x : DataW H × List MemPlace} (h : DataW.trod enc Tryz.prog w base spare held fuel 24 [v] = some x) (hb : Rows.uptoBulk x.1 ≤ 1048576) : ∃ a l c, v = .slice a (List.length l) c ∧ (RwF 7 (JbP (fun b => b < w.heap.size) w) (fun b => b < w.heap.size) w a l ∧ ∀ e ∈ l, JbOk e) ∧ l.length ≤ 1048576 := by
  obtain ⟨a, l, c, e, hr, hl⟩ := rd_rows (P := fun e vs => JbP (fun b => b < w.heap.size) w e vs ∧ JbOk e) Tryz.underlying24 7 (by decide) (by kernel_rfl) (fun m cs y h1 h2 h3 => rd_Jbi h1 h2 h3) h hb
  exact ⟨a, l, c, e, ⟨hr.imp fun e vs _ q => q.1, fun e he => by obtain ⟨vs, q⟩ := hr.each e he; exact q.2⟩, hl⟩
theorem fieldsImi : ((Tryz.prog.fieldsOf 26).map (fun f => (f.type, f.offset))).toList = [(9, 0), (22, 1), (23, 2), (24, 3)] := by kernel_rfl
set_option maxRecDepth 100000 in
theorem rd_Imi {fuel : Nat} {cs : List Value} {y : DataW H × List MemPlace} (h : DataW.trod enc Tryz.prog w base spare held fuel 26 cs = some y) (hn : cs.length = 4) (hb : Rows.uptoBulk y.1 ≤ 1048576) : ∃ (m : ImR) (x1 x2 x3 : Option Addr) (c1 c2 c3 : Nat), cs = imC m (.slice x1 m.cs.length c1) (.slice x2 m.fs.length c2) (.slice x3 m.js.length c3) ∧ ImQ (fun b => b < w.heap.size) w m x1 x2 x3 ∧ ImOk m := by
  obtain ⟨xs, m2, hm2, hx, _, hxl, hf⟩ := rd_struct (by kernel_rfl) fieldsImi h
  match cs, hn with
  | [c0, c1, c2, c3], _ =>
    match xs, hxl with
    | [y0, y1, y2, y3], _ =>
      have k0 : DataW.trod enc Tryz.prog w base spare held m2 9 [c0] = some y0 := hf 0 _ _ rfl
      have k1 : DataW.trod enc Tryz.prog w base spare held m2 22 [c1] = some y1 := hf 1 _ _ rfl
      have k2 : DataW.trod enc Tryz.prog w base spare held m2 23 [c2] = some y2 := hf 2 _ _ rfl
      have k3 : DataW.trod enc Tryz.prog w base spare held m2 24 [c3] = some y3 := hf 3 _ _ rfl
      simp only [hx, List.map_cons, List.map_nil, Rows.uptoBulk, Rows.uptoBulkAll] at hb
      obtain ⟨znm, e0, qnm⟩ := rd_str k0 (by omega)
      obtain ⟨xcs, zcs, pcs, rfl, qcs, lcs⟩ := rd_CeL k1 (by omega)
      obtain ⟨xfs, zfs, pfs, rfl, qfs, lfs⟩ := rd_FlL k2 (by omega)
      obtain ⟨xjs, zjs, pjs, rfl, qjs, ljs⟩ := rd_JbL k3 (by omega)
      simp only [List.cons.injEq, and_true] at e0
      subst e0
      exact ⟨⟨znm, zcs, zfs, zjs⟩, xcs, xfs, xjs, pcs, pfs, pjs, rfl, ⟨qcs.1, qfs.1, qjs.1⟩, qnm, qcs.2, qfs.2, qjs.2, lcs, lfs, ljs⟩
end
end Go.Proofs.YtdcjngakmkgbmaaGreat
namespace Go.Proofs.YtdcjngakmkgbmaaGreat
set_option linter.unusedVariables false
open Go.RowKit
theorem ret_bool {a b : Bool} (h : a = b) : Ending.returned (.bool a) = .returned (.bool b) := by rw [h]
theorem ret_int {k : IntKind} {a b : Int} (h : a = b) : Ending.returned (.int k a) = .returned (.int k b) := by rw [h]
/-- Are these bits of a float64 no number? -/
def fnan (n : Nat) : Bool := decide (9218868437227405312 < n % 9223372036854775808)
/-- What the bits of a float64 are, by their rung. -/
theorem read_cases (n : Nat) : (∃ m p, FloatKind.f64.format.read n = .number (n / 9223372036854775808 % 2 == 1) m p ∧ n % 9223372036854775808 < 9218868437227405312) ∨
    (FloatKind.f64.format.read n = .infinity (n / 9223372036854775808 % 2 == 1) ∧ n % 9223372036854775808 = 9218868437227405312) ∨
    (∃ f, FloatKind.f64.format.read n = .nan (n / 9223372036854775808 % 2 == 1) f ∧ 9218868437227405312 < n % 9223372036854775808) := by
  have e : FloatKind.f64.format.read n = (if n % 9223372036854775808 < 4503599627370496 then
        Ieee.Datum.number (n / 9223372036854775808 % 2 == 1) (n % 9223372036854775808) (Ieee.Format.leastPlace Ieee.double)
      else if n % 9223372036854775808 < 9218868437227405312 then
          Ieee.Datum.number (n / 9223372036854775808 % 2 == 1) (4503599627370496 + n % 9223372036854775808 % 4503599627370496)
            (Ieee.Format.leastPlace Ieee.double + ↑(n % 9223372036854775808 / 4503599627370496 - 1))
        else
          if n % 9223372036854775808 = 9218868437227405312 then Ieee.Datum.infinity (n / 9223372036854775808 % 2 == 1)
          else Ieee.Datum.nan (n / 9223372036854775808 % 2 == 1) (n % 9223372036854775808 - 9218868437227405312)) := rfl
  rw [e]
  by_cases h1 : n % 9223372036854775808 < 4503599627370496
  · rw [if_pos h1]; exact .inl ⟨_, _, rfl, by omega⟩
  rw [if_neg h1]
  by_cases h2 : n % 9223372036854775808 < 9218868437227405312
  · rw [if_pos h2]; exact .inl ⟨_, _, rfl, h2⟩
  rw [if_neg h2]
  by_cases h3 : n % 9223372036854775808 = 9218868437227405312
  · rw [if_pos h3]; exact .inr (.inl ⟨rfl, h3⟩)
  rw [if_neg h3]
  exact .inr (.inr ⟨_, rfl, by omega⟩)
theorem order_self (n : Nat) : (FloatKind.f64.format.order n n == some .eq) = !fnan n := by
  unfold Ieee.Format.order fnan
  rcases read_cases n with ⟨m, p, h, g⟩ | ⟨h, g⟩ | ⟨f, h, g⟩
  · rw [h]; simp [Ieee.Datum.order]; omega
  · rw [h]; simp [Ieee.Datum.order]; omega
  · rw [h]; simp [Ieee.Datum.order]; omega
theorem order_self_ne (n : Nat) : (FloatKind.f64.format.order n n != some .eq) = fnan n := by
  rw [bne, order_self]; simp
/-- A signed kind's bits of that half width may be. -/
def sg (h b : Int) : Bool := decide (b < h ∨ 18446744073709551616 - h ≤ b)
/-- May a kind without a text have such bits? -/
def mayW (k b : Int) : Bool :=
  if k = 1 then decide (b ≤ 1) else if k = 2 then sg 128 b else if k = 3 then sg 32768 b else if k = 4 then sg 2147483648 b
  else if k = 5 ∨ k = 9 ∨ k = 13 ∨ k = 14 then true
  else if k = 6 ∨ k = 10 then decide (b < 256) else if k = 7 ∨ k = 11 then decide (b < 65536) else if k = 8 ∨ k = 12 then decide (b < 4294967296)
  else if k = 15 then decide (b < 7258118400000000000 ∧ b % 86400000000000 = 0) else if k = 16 then decide (b < 86400000000000)
  else if k = 17 then decide (b < 7258118400000000000) else if k = 18 then decide (b = 9221120237041090561 ∨ fnan b.toNat = false) else false
/-- The kinds, one by one. -/
theorem kinds (k : Int) (hk : 0 ≤ k ∧ k < 256) : k = 1 ∨ k = 2 ∨ k = 3 ∨ k = 4 ∨ k = 5 ∨ k = 6 ∨ k = 7 ∨ k = 8 ∨ k = 9 ∨ k = 10 ∨ k = 11 ∨ k = 12 ∨ k = 13 ∨ k = 14 ∨ k = 15 ∨ k = 16 ∨ k = 17 ∨ k = 18 ∨ k = 19 ∨ k = 0 ∨ 19 < k := by omega
theorem fw_sg (h b : Int) (h0 : 0 ≤ b) (h1 : b < 18446744073709551616) (g0 : 0 < h) (g1 : h ≤ 9223372036854775808) : (wrap64 b / h == 0 || wrap64 b / h == -1) = sg h b := by
  rw [Bool.eq_iff_iff]
  have e1 : wrap64 b / h = 0 ↔ 0 ≤ wrap64 b ∧ wrap64 b < h := by
    constructor
    · intro e
      have := Int.emod_nonneg (wrap64 b) (b := h) (by omega)
      have := Int.emod_lt_of_pos (wrap64 b) g0
      have := Int.emod_add_mul_ediv (wrap64 b) h
      rw [e] at this; omega
    · rintro ⟨a, c⟩; exact Int.ediv_eq_zero_of_lt a c
  have e2 : wrap64 b / h = -1 ↔ -h ≤ wrap64 b ∧ wrap64 b < 0 := by
    constructor
    · intro e
      have := Int.emod_nonneg (wrap64 b) (b := h) (by omega)
      have := Int.emod_lt_of_pos (wrap64 b) g0
      have := Int.emod_add_mul_ediv (wrap64 b) h
      rw [e] at this; omega
    · rintro ⟨a, c⟩
      have := Int.add_mul_ediv_right (wrap64 b) 1 (c := h) (by omega)
      have : (wrap64 b + 1 * h) / h = 0 := Int.ediv_eq_zero_of_lt (by omega) (by omega)
      omega
  simp only [Bool.or_eq_true, beq_iff_eq, e1, e2, sg, decide_eq_true_eq]
  unfold wrap64
  omega
theorem and_high (n : Nat) : n &&& 9218868437227405312 = n / 4503599627370496 % 2048 * 4503599627370496 := by
  have e : (9218868437227405312 : Nat) = 2047 <<< 52 := by decide
  have h : n &&& (2047 <<< 52) = ((n >>> 52) &&& 2047) <<< 52 := by
    apply Nat.eq_of_testBit_eq
    intro i
    simp only [Nat.testBit_and, Nat.testBit_shiftLeft, Nat.testBit_shiftRight]
    by_cases c : 52 ≤ i
    · simp [c]
    · simp [c]
  rw [e, h, Nat.shiftLeft_eq, Nat.shiftRight_eq_div_pow, show (2047 : Nat) = 2 ^ 11 - 1 from rfl, Nat.and_two_pow_sub_one_eq_mod]
theorem and_low (n : Nat) : n &&& 4503599627370495 = n % 4503599627370496 := Nat.and_two_pow_sub_one_eq_mod n 52
theorem bits_high (b : Int) (h0 : 0 ≤ b) (h1 : b < 18446744073709551616) : bits .and .u64 b 9218868437227405312 = ((b.toNat / 4503599627370496 % 2048 * 4503599627370496 : Nat) : Int) := by
  rw [u64_and b _ h0 h1 (by omega) (by omega)]
  exact congrArg _ (and_high b.toNat)
theorem bits_low (b : Int) (h0 : 0 ≤ b) (h1 : b < 18446744073709551616) : bits .and .u64 b 4503599627370495 = ((b.toNat % 4503599627370496 : Nat) : Int) := by
  rw [u64_and b _ h0 h1 (by omega) (by omega)]
  exact congrArg _ (and_low b.toNat)
theorem fnan_hi (b : Int) (h0 : 0 ≤ b) (h1 : b < 18446744073709551616) (c : bits .and .u64 b 9218868437227405312 = 9218868437227405312) : fnan b.toNat = (bits .and .u64 b 4503599627370495 != 0) := by
  rw [bits_high b h0 h1] at c
  rw [bits_low b h0 h1, Bool.eq_iff_iff]
  simp only [fnan, decide_eq_true_eq, bne_iff_ne, ne_eq]
  generalize b.toNat = n at *
  omega
theorem fnan_lo (b : Int) (h0 : 0 ≤ b) (h1 : b < 18446744073709551616) (c : ¬ bits .and .u64 b 9218868437227405312 = 9218868437227405312) : fnan b.toNat = false := by
  rw [bits_high b h0 h1] at c
  simp only [fnan, decide_eq_false_iff_not]
  generalize b.toNat = n at *
  omega
end Go.Proofs.YtdcjngakmkgbmaaGreat
namespace Go.Proofs.YtdcjngakmkgbmaaGreat
set_option linter.unusedVariables false
open Go.RowKit
theorem call_frombits (n : Int) (w : World) : (callFunc 144 #[.int .u64 n]).run Tryz.prog w = .ok (.value (.float .f64 n.toNat)) w :=
  (run_callFunc_extern (e := Extern.MathFloatBits.float64frombits) Tryz.func144 (by kernel_rfl) (by kernel_rfl) (by kernel_rfl) (by kernel_rfl) _ w).trans rfl
theorem sg_t (h b : Int) (h0 : 0 ≤ b) (h1 : b < 18446744073709551616) (g0 : 0 < h) (g1 : h ≤ 9223372036854775808) (c : wrap64 b / h = 0) : true = sg h b := by
  rw [← fw_sg h b h0 h1 g0 g1, c]; rfl
theorem sg_all (b : Int) : sg 9223372036854775808 b = true := by simp [sg]; omega
theorem us_t (h b : Int) (h0 : 0 ≤ b) (g : 0 < h) : (b / h == 0) = decide (b < h) := by
  rw [Bool.eq_iff_iff]; simp only [beq_iff_eq, decide_eq_true_eq]
  constructor
  · intro e
    have := Int.emod_nonneg b (b := h) (by omega)
    have := Int.emod_lt_of_pos b g
    have := Int.emod_add_mul_ediv b h
    rw [e] at this; omega
  · intro e; exact Int.ediv_eq_zero_of_lt h0 e
theorem mw1 (b : Int) : mayW 1 b = decide (b < 2) := by simp [mayW]; omega
theorem mw2 (b : Int) : mayW 2 b = sg 128 b := by simp [mayW]
theorem mw3 (b : Int) : mayW 3 b = sg 32768 b := by simp [mayW]
theorem mw4 (b : Int) : mayW 4 b = sg 2147483648 b := by simp [mayW]
theorem mw5 (b : Int) : mayW 5 b = sg 9223372036854775808 b := by rw [sg_all]; simp [mayW]
theorem mw6 (b : Int) : mayW 6 b = decide (b < 256) := by simp [mayW]
theorem mw7 (b : Int) : mayW 7 b = decide (b < 65536) := by simp [mayW]
theorem mw8 (b : Int) : mayW 8 b = decide (b < 4294967296) := by simp [mayW]
theorem mw9 (b : Int) (h1 : b < 18446744073709551616) : mayW 9 b = decide (b < 18446744073709551616) := by simp [mayW, h1]
theorem mw10 (b : Int) : mayW 10 b = decide (b < 256) := by simp [mayW]
theorem mw11 (b : Int) : mayW 11 b = decide (b < 65536) := by simp [mayW]
theorem mw12 (b : Int) : mayW 12 b = decide (b < 4294967296) := by simp [mayW]
theorem mw13 (b : Int) (h1 : b < 18446744073709551616) : mayW 13 b = decide (b < 18446744073709551616) := by simp [mayW, h1]
theorem mw15t (b : Int) (h : b < 7258118400000000000) : mayW 15 b = (b % 86400000000000 == 0) := by rw [Bool.eq_iff_iff]; simp [mayW, h]
theorem mw15f (b : Int) (h : ¬ b < 7258118400000000000) : mayW 15 b = false := by simp [mayW, h]
theorem mw16 (b : Int) : mayW 16 b = decide (b < 86400000000000) := by simp [mayW]
theorem mw17 (b : Int) : mayW 17 b = decide (b < 7258118400000000000) := by simp [mayW]
theorem mw18 (b : Int) : mayW 18 b = (b == 9221120237041090561 || !fnan b.toNat) := by rw [Bool.eq_iff_iff]; simp [mayW]
theorem mwx (k b : Int) (h : 19 < k) : mayW k b = false := by unfold mayW; repeat (first | rw [if_neg (by omega)])


set_option maxHeartbeats 400000 in
theorem mayBits_of (k b : Int) (w : World) (h0 : 0 ≤ b) (h1 : b < 18446744073709551616) (hk : 0 ≤ k ∧ k < 256) :
    Calls Tryz.prog 136 #[.int .u8 k, .int .u64 b] w fun e w' => e = .returned (.bool (mayW k b)) ∧ w' = w := by
  rcases kinds k hk with rfl | rfl | rfl | rfl | rfl | rfl | rfl | rfl | rfl | rfl | rfl | rfl | rfl | rfl | rfl | rfl | rfl | rfl | rfl | rfl | hk2

  · go_enter Tryz.func136, Tryz.ntmps136
    go_wp2
    all_goals
      go_ret
      refine ⟨ret_bool ?_, rfl⟩
      rw [mw1, us_t _ b h0 (by omega)]
  · go_enter Tryz.func136, Tryz.ntmps136
    go_wp2
    all_goals
      go_ret
      refine ⟨ret_bool ?_, rfl⟩
      rw [mw2]
      first | exact sg_t _ b h0 h1 (by omega) (by omega) ‹_› | exact fw_sg _ b h0 h1 (by omega) (by omega)
  · go_enter Tryz.func136, Tryz.ntmps136
    go_wp2
    all_goals
      go_ret
      refine ⟨ret_bool ?_, rfl⟩
      rw [mw3]
      first | exact sg_t _ b h0 h1 (by omega) (by omega) ‹_› | exact fw_sg _ b h0 h1 (by omega) (by omega)
  · go_enter Tryz.func136, Tryz.ntmps136
    go_wp2
    all_goals
      go_ret
      refine ⟨ret_bool ?_, rfl⟩
      rw [mw4]
      first | exact sg_t _ b h0 h1 (by omega) (by omega) ‹_› | exact fw_sg _ b h0 h1 (by omega) (by omega)
  · go_enter Tryz.func136, Tryz.ntmps136
    go_wp2
    all_goals
      go_ret
      refine ⟨ret_bool ?_, rfl⟩
      rw [mw5]
      first | exact sg_t _ b h0 h1 (by omega) (by omega) ‹_› | exact fw_sg _ b h0 h1 (by omega) (by omega)
  · go_enter Tryz.func136, Tryz.ntmps136
    go_wp2
    all_goals
      go_ret
      refine ⟨ret_bool ?_, rfl⟩
      rw [mw6, us_t _ b h0 (by omega)]
  · go_enter Tryz.func136, Tryz.ntmps136
    go_wp2
    all_goals
      go_ret
      refine ⟨ret_bool ?_, rfl⟩
      rw [mw7, us_t _ b h0 (by omega)]
  · go_enter Tryz.func136, Tryz.ntmps136
    go_wp2
    all_goals
      go_ret
      refine ⟨ret_bool ?_, rfl⟩
      rw [mw8, us_t _ b h0 (by omega)]
  · go_enter Tryz.func136, Tryz.ntmps136
    go_wp2
    all_goals
      go_ret
      refine ⟨ret_bool ?_, rfl⟩
      rw [mw9 b h1, us_t _ b h0 (by omega)]
  · go_enter Tryz.func136, Tryz.ntmps136
    go_wp2
    all_goals
      go_ret
      refine ⟨ret_bool ?_, rfl⟩
      rw [mw10, us_t _ b h0 (by omega)]
  · go_enter Tryz.func136, Tryz.ntmps136
    go_wp2
    all_goals
      go_ret
      refine ⟨ret_bool ?_, rfl⟩
      rw [mw11, us_t _ b h0 (by omega)]
  · go_enter Tryz.func136, Tryz.ntmps136
    go_wp2
    all_goals
      go_ret
      refine ⟨ret_bool ?_, rfl⟩
      rw [mw12, us_t _ b h0 (by omega)]
  · go_enter Tryz.func136, Tryz.ntmps136
    go_wp2
    all_goals
      go_ret
      refine ⟨ret_bool ?_, rfl⟩
      rw [mw13 b h1, us_t _ b h0 (by omega)]
  · go_enter Tryz.func136, Tryz.ntmps136
    go_wp2
    all_goals
      go_ret
      refine ⟨ret_bool ?_, rfl⟩
      rfl
  · go_enter Tryz.func136, Tryz.ntmps136
    go_wp2
    all_goals
      go_ret
      refine ⟨ret_bool ?_, rfl⟩
      first | exact (mw15t b ‹_›).symm | exact (mw15f b (by omega)).symm
  · go_enter Tryz.func136, Tryz.ntmps136
    go_wp2
    all_goals
      go_ret
      refine ⟨ret_bool ?_, rfl⟩
      rw [mw16]
  · go_enter Tryz.func136, Tryz.ntmps136
    go_wp2
    all_goals
      go_ret
      refine ⟨ret_bool ?_, rfl⟩
      rw [mw17]
  · have hx := call_frombits
    go_enter Tryz.func136, Tryz.ntmps136
    go_wp2
    all_goals
      go_ret
      refine ⟨ret_bool ?_, rfl⟩
      first | rw [mw18, order_self_ne] | (rw [mw18]; simp [*]; done)
  · go_enter Tryz.func136, Tryz.ntmps136
    go_wp2
    all_goals
      go_ret
      refine ⟨ret_bool ?_, rfl⟩
      rfl
  · go_enter Tryz.func136, Tryz.ntmps136
    go_wp2
    all_goals
      go_ret
      refine ⟨ret_bool ?_, rfl⟩
      rfl
  · go_enter Tryz.func136, Tryz.ntmps136
    go_wp2
    all_goals
      go_ret
      refine ⟨ret_bool ?_, rfl⟩
      rw [mwx k b hk2]
end Go.Proofs.YtdcjngakmkgbmaaGreat
namespace Go.Proofs.YtdcjngakmkgbmaaGreat
set_option linter.unusedVariables false
open Go.RowKit
/-- An operation that makes memory: its number, the slot of its answer, and what is told of the blocks from lo up to hi, of the answer and of every later world. -/
structure Mkr where
  i : Nat
  d : Nat
  R : Nat → Nat → Value → World → Prop
def setAll (l : Array Bool) (ms : List Mkr) : Array Bool := ms.foldl (fun l m => l.setIfInBounds m.i true) l
def putAll (a : Act) (ms : List Mkr) (val : Nat → Value) : Act := ms.foldl (fun a m => a.put (some m.d) (val m.i)) a
theorem setAll_pick : ∀ (l1 l2 : List Mkr) (m : Mkr) (l : Array Bool), setAll l (l1 ++ m :: l2) = setAll (l.setIfInBounds m.i true) (l1 ++ l2)
  | [], l2, m, l => rfl
  | x :: l1, l2, m, l => by
    show setAll (l.setIfInBounds x.i true) (l1 ++ m :: l2) = setAll ((l.setIfInBounds m.i true).setIfInBounds x.i true) (l1 ++ l2)
    rw [setAll_pick l1 l2 m]
    congr 1
    by_cases h : x.i = m.i
    · rw [h]
    · rw [Array.setIfInBounds_comm _ _ h]
theorem put_comm (a : Act) (d e : Nat) (u v : Value) (h : d ≠ e) : (a.put (some d) u).put (some e) v = (a.put (some e) v).put (some d) u := by
  simp only [Act.put]
  rw [Array.setIfInBounds_comm _ _ h]
theorem putAll_pick (val : Nat → Value) : ∀ (l1 l2 : List Mkr) (m : Mkr) (a : Act), (∀ x ∈ l1, x.d ≠ m.d) → putAll a (l1 ++ m :: l2) val = putAll (a.put (some m.d) (val m.i)) (l1 ++ l2) val
  | [], l2, m, a, _ => rfl
  | x :: l1, l2, m, a, h => by
    show putAll (a.put (some x.d) (val x.i)) (l1 ++ m :: l2) val = putAll ((a.put (some m.d) (val m.i)).put (some x.d) (val x.i)) (l1 ++ l2) val
    rw [putAll_pick val l1 l2 m _ (fun y hy => h y (by simp [hy])), put_comm _ _ _ _ _ (h x (by simp))]
theorem putAll_congr {val val' : Nat → Value} : ∀ (ms : List Mkr) (a : Act), (∀ m ∈ ms, val m.i = val' m.i) → putAll a ms val = putAll a ms val'
  | [], _, _ => rfl
  | x :: ms, a, h => by
    show putAll (a.put (some x.d) (val x.i)) ms val = putAll (a.put (some x.d) (val' x.i)) ms val'
    rw [h x (by simp)]
    exact putAll_congr ms _ fun m hm => h m (by simp [hm])
/-- Whatever order they come up in, only these come up. -/
def rdyB (md : Region.Mode) (ops : Array Oper) : Nat → Array Bool → List Nat → Bool
  | 0, _, is => is.isEmpty
  | n + 1, l, is => is.isEmpty || (!(Region.ready md ops l).isEmpty && (Region.ready md ops l).all (fun i => is.contains i && rdyB md ops n (l.setIfInBounds i true) (is.erase i)))
section
variable {P : Program} {ops : Array Oper} {Q : Exit → Act → World → Prop} {md : Region.Mode} {S : World → Prop}
/-- A quiet operation is taken first; the slot of its answer is named. -/
theorem wpAnyH_takeD {i d : Nat} {oi : Oper} {v : Value} {fuel : Nat} {listed : Array Bool} {a : Act} {w : World} (hi : ops[i]? = some oi) (hd : (ops[i]?).bind (·.dst) = some d)
    (hs : Region.noSelect ops = true) (hf : Region.free md ops listed i = true) (hr : (Region.ready md ops listed).contains i = true)
    (hQ : ∀ c a w, Q (.panic c) (a.put oi.dst v) w → Q (.panic c) a w) (hy : YieldsIf P ops S oi v a) (hS : S w)
    (h : wpAnyH P md ops Q S fuel (listed.setIfInBounds i true) (a.put (some d) v) w) : wpAnyH P md ops Q S (fuel + 1) listed a w := by
  refine wpAnyH_take hi hs hf hr hQ hy hS ?_
  rw [hi] at hd
  have e : oi.dst = some d := hd
  rw [e]
  exact h
/-- What an operation does, wherever it comes up. -/
def Makes (P : Program) (ops : Array Oper) (Q : Exit → Act → World → Prop) (AG : Act → Prop) (W0 : World) (m : Mkr) : Prop :=
  ∀ (a : Act) (w : World) (K : Act → World → Prop), AG a → Below W0.heap.size W0 w → (∀ v w', Below w.heap.size w w' → m.R w.heap.size w'.heap.size v w' → K (a.put (some m.d) v) w') → wpOp P ops Q m.i K a w
theorem wpAnyH_mk (W0 : World) (hS : ∀ w, Below W0.heap.size W0 w → S w) (AG : Act → Prop) (f : Nat) : ∀ (n : Nat) (ms : List Mkr) (listed : Array Bool) (a : Act) (w : World),
    ms.length = n → (ms.map (·.d)).Nodup → (ms.map (·.i)).Nodup → rdyB md ops n listed (ms.map (·.i)) = true → AG a → (∀ a m v, AG a → m ∈ ms → AG (a.put (some m.d) v)) → Below W0.heap.size W0 w →
    (∀ m ∈ ms, Makes P ops Q AG W0 m) → (∀ m ∈ ms, ∀ lo hi v w w', m.R lo hi v w → Below w.heap.size w w' → m.R lo hi v w') →
    (∀ (val : Nat → Value) (lo hi : Nat → Nat) w', Below w.heap.size w w' → (∀ m ∈ ms, w.heap.size ≤ lo m.i ∧ lo m.i ≤ hi m.i ∧ hi m.i ≤ w'.heap.size ∧ m.R (lo m.i) (hi m.i) (val m.i) w') →
      (∀ m ∈ ms, ∀ m' ∈ ms, m.i ≠ m'.i → hi m.i ≤ lo m'.i ∨ hi m'.i ≤ lo m.i) → wpAnyH P md ops Q S f (setAll listed ms) (putAll a ms val) w') →
    wpAnyH P md ops Q S (n + f) listed a w := by
  intro n
  induction n with
  | zero =>
    intro ms listed a w hn _ _ _ _ _ _ _ _ fin
    have e : ms = [] := List.length_eq_zero_iff.1 hn
    subst e
    rw [Nat.zero_add]
    exact fin (fun _ => undef) (fun _ => 0) (fun _ => 0) w (Below.refl _ _) (fun m hm => by cases hm) (fun m hm => by cases hm)
  | succ n ih =>
    intro ms listed a w hn hd hi hr hA hcl hb hmk hmo fin
    rw [Nat.succ_add]
    have ne : ms.map (·.i) ≠ [] := fun e => by rw [List.map_eq_nil_iff] at e; rw [e] at hn; cases hn
    unfold rdyB at hr
    simp only [Bool.or_eq_true, List.isEmpty_iff, Bool.and_eq_true, Bool.not_eq_true', List.all_eq_true] at hr
    rcases hr with hr | ⟨hr0, hr1⟩
    · exact absurd hr ne
    refine ⟨fun e => by rw [e] at hr0; simp at hr0, fun i hir => ?_⟩
    obtain ⟨hc, hrec⟩ := hr1 i hir
    have him : i ∈ ms.map (·.i) := by simpa using hc
    obtain ⟨m, hm, rfl⟩ := List.mem_map.1 him
    obtain ⟨l1, l2, rfl⟩ := List.append_of_mem hm
    have hd1 : ∀ x ∈ l1, x.d ≠ m.d := fun x hx e => by
      rw [List.map_append, List.map_cons, List.nodup_append] at hd
      exact hd.2.2 x.d (List.mem_map_of_mem hx) m.d (by simp) e
    have hi1 : ∀ x ∈ l1, x.i ≠ m.i := fun x hx e => by
      rw [List.map_append, List.map_cons, List.nodup_append] at hi
      exact hi.2.2 x.i (List.mem_map_of_mem hx) m.i (by simp) e
    have hi2 : ∀ x ∈ l2, x.i ≠ m.i := fun x hx e => by
      rw [List.map_append, List.map_cons, List.nodup_append] at hi
      exact (List.nodup_cons.1 hi.2.1).1 (by rw [← e]; exact List.mem_map_of_mem hx)
    have nm : ∀ x ∈ l1 ++ l2, x.i ≠ m.i := fun x hx => by
      rcases List.mem_append.1 hx with h | h
      · exact hi1 x h
      · exact hi2 x h
    have sub : ∀ x ∈ l1 ++ l2, x ∈ l1 ++ m :: l2 := fun x hx => by
      rcases List.mem_append.1 hx with h | h
      · exact List.mem_append_left _ h
      · exact List.mem_append_right _ (List.mem_cons_of_mem _ h)
    have er : ((l1 ++ m :: l2).map (·.i)).erase m.i = (l1 ++ l2).map (·.i) := by
      rw [List.map_append, List.map_cons, List.map_append, List.erase_append_right _ (by
        intro h
        obtain ⟨x, hx, e⟩ := List.mem_map.1 h
        exact hi1 x hx e), List.erase_cons_head]
    refine hmk m hm a w _ hA hb fun v w1 b1 r1 => ?_
    refine ⟨hS _ (hb.trans (b1.mono hb.size)), ?_⟩
    refine ih (l1 ++ l2) _ _ w1 (by simp at hn ⊢; omega) ?_ ?_ (by rw [← er]; exact hrec) (hcl a m v hA hm) (fun a x v hx hxm => hcl a x v hx (sub x hxm)) (hb.trans (b1.mono hb.size)) (fun x hx => hmk x (sub x hx)) (fun x hx => hmo x (sub x hx)) ?_
    · refine hd.sublist ?_
      rw [List.map_append, List.map_append, List.map_cons]
      exact List.Sublist.append_left (List.sublist_cons_self _ _) _
    · refine hi.sublist ?_
      rw [List.map_append, List.map_append, List.map_cons]
      exact List.Sublist.append_left (List.sublist_cons_self _ _) _
    · intro val lo hi' w2 b2 h1 h2
      have q := fin (fun k => if k = m.i then v else val k) (fun k => if k = m.i then w.heap.size else lo k) (fun k => if k = m.i then w1.heap.size else hi' k) w2 (b1.trans (b2.mono b1.size)) ?_ ?_
      · rw [setAll_pick, putAll_pick _ _ _ _ _ hd1, if_pos rfl] at q
        rw [← putAll_congr (val := fun k => if k = m.i then v else val k) (val' := val) (l1 ++ l2) _ (fun x hx => if_neg (nm x hx))]
        exact q
      · intro x hx
        rcases List.mem_append.1 hx with h | h
        · have e := hi1 x h
          simp only [if_neg e]
          obtain ⟨p1, p2, p3, p4⟩ := h1 x (List.mem_append_left _ h)
          exact ⟨Nat.le_trans b1.size p1, p2, p3, p4⟩
        · rcases List.mem_cons.1 h with rfl | h
          · simp only [if_pos]
            exact ⟨Nat.le_refl _, b1.size, b2.size, hmo x hm _ _ _ _ _ r1 b2⟩
          · have e := hi2 x h
            simp only [if_neg e]
            obtain ⟨p1, p2, p3, p4⟩ := h1 x (List.mem_append_right _ h)
            exact ⟨Nat.le_trans b1.size p1, p2, p3, p4⟩
      · have key : ∀ x ∈ l1 ++ l2, w1.heap.size ≤ lo x.i := fun x hx => (h1 x hx).1
        have pos : ∀ x ∈ l1 ++ m :: l2, x.i ≠ m.i → x ∈ l1 ++ l2 := fun x hx e => by
          rcases List.mem_append.1 hx with h | h
          · exact List.mem_append_left _ h
          · rcases List.mem_cons.1 h with rfl | h
            · exact absurd rfl e
            · exact List.mem_append_right _ h
        intro x hx y hy hxy
        by_cases ex : x.i = m.i
        · have ey : y.i ≠ m.i := fun e => hxy (ex.trans e.symm)
          simp only [if_pos ex, if_neg ey]
          exact Or.inl (key y (pos y hy ey))
        · by_cases ey : y.i = m.i
          · simp only [if_neg ex, if_pos ey]
            exact Or.inr (key x (pos x hx ex))
          · simp only [if_neg ex, if_neg ey]
            exact h2 x (pos x hx ex) y (pos y hy ey) hxy
end
end Go.Proofs.YtdcjngakmkgbmaaGreat
namespace Go.Proofs.YtdcjngakmkgbmaaGreat
set_option linter.unusedVariables false
open Go.RowKit
/-- One step of the check sum. -/
def crS (c : BitVec 32) : BitVec 32 := (c >>> 1) ^^^ (if c.getLsbD 0 = true then 3988292384#32 else 0#32)
def crN : Nat → BitVec 32 → BitVec 32
  | 0, c => c
  | n + 1, c => crN n (crS c)
/-- What one byte does. -/
def crB (c : BitVec 32) (x : BitVec 32) : BitVec 32 := crN 8 (c ^^^ x)
theorem crS_xor (a b : BitVec 32) : crS (a ^^^ b) = crS a ^^^ crS b := by
  unfold crS
  apply BitVec.eq_of_getLsbD_eq
  intro i hi
  simp only [BitVec.getLsbD_xor, BitVec.getLsbD_ushiftRight]
  generalize a.getLsbD 0 = p
  generalize b.getLsbD 0 = q
  cases p <;> cases q <;> simp
  all_goals
    cases a.getLsbD (1 + i) <;> cases b.getLsbD (1 + i) <;> simp
theorem crN_xor (n : Nat) (a b : BitVec 32) : crN n (a ^^^ b) = crN n a ^^^ crN n b := by
  induction n generalizing a b with
  | zero => rfl
  | succ n ih => show crN n (crS (a ^^^ b)) = _; rw [crS_xor, ih]; rfl
/-- A step of what has no lowest bits moves it down. -/
theorem crS_low {c : BitVec 32} (h : c.getLsbD 0 = false) : crS c = c >>> 1 := by
  unfold crS
  rw [h]
  simp
theorem crN_low (n : Nat) (c : BitVec 32) (h : ∀ i, i < n → c.getLsbD i = false) : crN n c = c >>> n := by
  induction n generalizing c with
  | zero => show c = _; simp
  | succ n ih =>
    show crN n (crS c) = _
    rw [crS_low (h 0 (by omega)), ih]
    · apply BitVec.eq_of_getLsbD_eq
      intro i hi
      simp only [BitVec.getLsbD_ushiftRight]
      congr 1
      omega
    · intro i hi
      rw [BitVec.getLsbD_ushiftRight]
      exact h _ (by omega)
/-- A byte, by the table of what eight steps do to a byte. -/
theorem crB_tab (c x : BitVec 32) (hx : x < 256#32) : crB c x = (c >>> 8) ^^^ crN 8 ((c ^^^ x) &&& 255#32) := by
  have e : c ^^^ x = ((c ^^^ x) &&& 255#32) ^^^ ((c >>> 8) <<< 8) := by
    apply BitVec.eq_of_getLsbD_eq
    intro i hi
    have hx8 : 8 ≤ i → x.getLsbD i = false := fun h => by
      have hlt : x.toNat < 2 ^ 8 := by simpa [BitVec.lt_def] using hx
      rw [BitVec.getLsbD]
      exact Nat.testBit_lt_two_pow (Nat.lt_of_lt_of_le hlt (Nat.pow_le_pow_right (by decide) h))
    have h255 : (255#32).getLsbD i = decide (i < 8) := by
      rw [BitVec.getLsbD]
      show (255 : Nat).testBit i = _
      rw [show (255 : Nat) = 2 ^ 8 - 1 by decide, Nat.testBit_two_pow_sub_one]
    simp only [BitVec.getLsbD_xor, BitVec.getLsbD_and, BitVec.getLsbD_shiftLeft, BitVec.getLsbD_ushiftRight, h255]
    by_cases h : i < 8
    · simp [h]
    · rw [hx8 (by omega)]
      simp [h, hi, show 8 + (i - 8) = i by omega]
  unfold crB
  rw [e, crN_xor, crN_low 8 ((c >>> 8) <<< 8)]
  · rw [← e]
    rw [BitVec.xor_comm]
    congr 1
    apply BitVec.eq_of_getLsbD_eq
    intro i hi
    simp only [BitVec.getLsbD_ushiftRight, BitVec.getLsbD_shiftLeft]
    by_cases h : 8 + i < 32
    · simp [h]
    · simp [h, BitVec.getLsbD_of_ge c (8 + i) (by omega)]
  · intro i hi
    simp [BitVec.getLsbD_shiftLeft, hi]
/-- The check sum's run over bytes. -/
def crL (c : BitVec 32) : List Nat → BitVec 32
  | [] => c
  | x :: l => crL (crB c (BitVec.ofNat 32 x)) l
def crcF (l : List Nat) : BitVec 32 := crL 4294967295#32 l ^^^ 4294967295#32
theorem crL_snoc (c : BitVec 32) (l : List Nat) (x : Nat) : crL c (l ++ [x]) = crB (crL c l) (BitVec.ofNat 32 x) := by
  induction l generalizing c with
  | nil => rfl
  | cons y l ih => exact ih _
/-- Numbers of 32 bits as the machine has them. -/
def uW (c : BitVec 32) : Int := c.toNat
theorem uW_range (c : BitVec 32) : 0 ≤ uW c ∧ uW c < 4294967296 := by
  have := c.isLt
  unfold uW
  omega
theorem xor_u3 (a b : BitVec 32) : bits .xor .u32 (uW a) (uW b) = uW (a ^^^ b) := by
  have ea : BitVec.ofInt 32 (uW a) = a := by unfold uW; rw [BitVec.ofInt_natCast]; simp
  have eb : BitVec.ofInt 32 (uW b) = b := by unfold uW; rw [BitVec.ofInt_natCast]; simp
  show IntKind.u32.wrap ((BitVec.ofInt 32 (uW a) ^^^ BitVec.ofInt 32 (uW b)).toNat : Int) = _
  rw [ea, eb]
  have := uW_range (a ^^^ b)
  show ((a ^^^ b).toNat : Int) % 4294967296 = uW _
  unfold uW at *
  omega
theorem odd_u3 (a : BitVec 32) : (uW a % 2 = 1) ↔ a.getLsbD 0 = true := by
  unfold uW
  rw [BitVec.getLsbD, Nat.testBit_zero]
  simp
  omega
/-- The index into the table. -/
theorem idx_u3 (c : BitVec 32) (x : Nat) (hx : x < 256) : bits .xor .u8 (uW c % 256) x = uW ((c ^^^ BitVec.ofNat 32 x) &&& 255#32) := by
  have e1 : BitVec.ofInt 8 (uW c % 256) = c.setWidth 8 := by
    apply BitVec.eq_of_toNat_eq
    rw [BitVec.toNat_ofInt, BitVec.toNat_setWidth]
    unfold uW
    have := c.isLt
    omega
  have e2 : BitVec.ofInt 8 (x : Int) = (BitVec.ofNat 32 x).setWidth 8 := by
    apply BitVec.eq_of_toNat_eq
    rw [BitVec.toNat_ofInt, BitVec.toNat_setWidth, BitVec.toNat_ofNat]
    omega
  show IntKind.u8.wrap ((BitVec.ofInt 8 (uW c % 256) ^^^ BitVec.ofInt 8 (x : Int)).toNat : Int) = _
  rw [e1, e2]
  have e3 : (c.setWidth 8 ^^^ (BitVec.ofNat 32 x).setWidth 8).toNat = ((c ^^^ BitVec.ofNat 32 x) &&& 255#32).toNat := by
    rw [← BitVec.setWidth_xor, BitVec.toNat_setWidth, BitVec.toNat_and]
    show _ = (c ^^^ BitVec.ofNat 32 x).toNat &&& 255
    rw [show (255 : Nat) = 2 ^ 8 - 1 by decide, Nat.and_two_pow_sub_one_eq_mod]
  rw [e3]
  have h : ((c ^^^ BitVec.ofNat 32 x) &&& 255#32).toNat < 256 := by rw [← e3]; exact BitVec.isLt _
  show (((c ^^^ BitVec.ofNat 32 x) &&& 255#32).toNat : Int) % 256 = _
  unfold uW
  omega
end Go.Proofs.YtdcjngakmkgbmaaGreat
namespace Go.Proofs.YtdcjngakmkgbmaaGreat
set_option linter.unusedVariables false
open Go.RowKit
set_option maxRecDepth 100000 in
theorem arr4 (kb o c : Nat) (w : World) : (Instr.arrayAt 60 (.slice (some ⟨kb, o, none⟩) 4 c)).run Tryz.prog w = .ok (.pointer (some ⟨kb, o, none⟩)) w := by
  first
    | kernel_rfl
    | kernel_rfl
    | (simp [Instr.arrayAt]; done)
theorem wf8 (n : Int) (h : 0 ≤ n) (k : n < 256) : (Lit.int .u8 n).wf = true := by
  show (decide ((0 : Int) ≤ n) && decide (n ≤ (255 : Int))) = true
  simp
  omega
theorem kl1 (n : Int) (h : (Lit.int .u8 n).wf = true) : Tryz.prog.keyLits 1 5 [.int .u8 n] = some [.int .u8 n] := by
  unfold Program.keyLits
  simp [Tryz.underlying5, h]
theorem cl1 : Tryz.prog.cellsOf 5 = 1 := by kernel_rfl
theorem cl4 : Tryz.prog.cellsOf 60 = 4 := by kernel_rfl
theorem kl4 (a b c d : Int) (ha : (Lit.int .u8 a).wf = true) (hb : (Lit.int .u8 b).wf = true) (hc : (Lit.int .u8 c).wf = true) (hd : (Lit.int .u8 d).wf = true) : Tryz.prog.keyLits 2 60 [.int .u8 a, .int .u8 b, .int .u8 c, .int .u8 d] = some [.int .u8 a, .int .u8 b, .int .u8 c, .int .u8 d] := by
  unfold Program.keyLits
  simp only [Tryz.underlying60, cl4, cl1, List.length_cons, List.length_nil, if_true]
  have e : List.range 4 = [0, 1, 2, 3] := rfl
  rw [e]
  simp [kl1, ha, hb, hc, hd]
set_option maxRecDepth 100000 in
theorem eqA4 (a0 a1 a2 a3 b0 b1 b2 b3 : Int) (w : World) (h0 : (Lit.int .u8 a0).wf = true) (h1 : (Lit.int .u8 a1).wf = true) (h2 : (Lit.int .u8 a2).wf = true) (h3 : (Lit.int .u8 a3).wf = true) (k0 : (Lit.int .u8 b0).wf = true) (k1 : (Lit.int .u8 b1).wf = true) (k2 : (Lit.int .u8 b2).wf = true) (k3 : (Lit.int .u8 b3).wf = true) : (Op.equalIn 10000 60 (.agg #[.int .u8 a0, .int .u8 a1, .int .u8 a2, .int .u8 a3]) (.agg #[.int .u8 b0, .int .u8 b1, .int .u8 b2, .int .u8 b3])).run Tryz.prog w = .ok (decide (a0 = b0 ∧ a1 = b1 ∧ a2 = b2 ∧ a3 = b3)) w := by
  obtain ⟨r, h, hr⟩ := run_equalIn_deep (P := Tryz.prog) 9998 2 60 (by kernel_rfl) w 2 2 (.agg #[.int .u8 a0, .int .u8 a1, .int .u8 a2, .int .u8 a3]) (.agg #[.int .u8 b0, .int .u8 b1, .int .u8 b2, .int .u8 b3]) _ _ (by kernel_rfl) (by kernel_rfl) (kl4 a0 a1 a2 a3 h0 h1 h2 h3) (kl4 b0 b1 b2 b3 k0 k1 k2 k3)
  have e : r = decide (a0 = b0 ∧ a1 = b1 ∧ a2 = b2 ∧ a3 = b3) := by
    cases r <;> simp_all
  rw [← e]
  exact h
end Go.Proofs.YtdcjngakmkgbmaaGreat
