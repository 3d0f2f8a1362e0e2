/- image: Encode, exactly: the walk; no statement of the seat is proved here. -/
import Derived.Test.YtpcjnhffpkpchaaGreatYd1
import Derived.Test.YtpcjnhffpkpchaaGreatYd3
import Derived.Test.YtpcjnhffpkpchaaGreatYc6
import Derived.Deep.RegionLaw
import Derived.Test.YtpcjnhffpkpchaaGreatYb2
namespace Go.Proofs.YtpcjnhffpkpchaaGreat
set_option linter.unusedVariables false
open Go.RowKit
theorem nbN_lt (n : Int) : ∀ b ∈ nbN n, b < 256 := fun b hb => by
  unfold nbN nbK at hb
  obtain ⟨i, _, rfl⟩ := List.mem_map.1 hb
  have h1 := Int.emod_nonneg (n / 2 ^ (8 * i)) (show (256 : Int) ≠ 0 by decide)
  have h2 := Int.emod_lt_of_pos (n / 2 ^ (8 * i)) (show (0 : Int) < 256 by decide)
  omega
def Lt (l : List Nat) : Prop := ∀ b ∈ l, b < 256
theorem Lt.app {a b : List Nat} (h : Lt a) (k : Lt b) : Lt (a ++ b) := fun x hx => (List.mem_append.1 hx).elim (h x) (k x)
theorem Lt.sb (s : ByteArray) : Lt (sbN s) := fun b hb => by
  unfold sbN at hb
  obtain ⟨i, _, rfl⟩ := List.mem_map.1 hb
  exact i.toNat_lt
theorem Lt.tb (s : ByteArray) : Lt (tbN s) := (show Lt (nbN s.size) from nbN_lt _).app (Lt.sb s)
theorem Lt.one {x : Nat} (h : x < 256) : Lt [x] := fun b hb => by rw [List.mem_singleton.1 hb]; exact h
theorem Lt.md (x : Int) : Lt [(x % (256 : Int)).toNat] := Lt.one (by have := Int.emod_nonneg x (show (256 : Int) ≠ 0 by decide); have := Int.emod_lt_of_pos x (show (0 : Int) < 256 by decide); omega)
theorem Lt.bb (b : Bool) : Lt [bbN b] := Lt.one (by cases b <;> decide)
theorem Lt.fm {α : Type} {f : α → List Nat} {l : List α} (h : ∀ e ∈ l, Lt (f e)) : Lt (l.flatMap f) := fun b hb => by
  obtain ⟨e, he, hb⟩ := List.mem_flatMap.1 hb
  exact h e he b hb
theorem Lt.ns (l : List Int) : Lt (nsN l) := Lt.fm (fun e _ => nbN_lt e)
theorem Lt.ls {α : Type} {f : α → List Nat} {l : List α} (h : ∀ e, Lt (f e)) : Lt (lsN f l) := (show Lt (nbN l.length) from nbN_lt _).app (Lt.fm (fun e _ => h e))
theorem Lt.vb (k b : Int) (s : ByteArray) : Lt (vbN k b s) := ((Lt.md k).app (nbN_lt _)).app (Lt.tb s)
theorem Lt.cb (c : CeR) : Lt (cbN c) := ((((((Lt.md _).app (Lt.bb _)).app (Lt.ns _)).app (Lt.vb _ _ _)).app (Lt.bb _)).app (Lt.md _)).app (Lt.tb _)
theorem Lt.ob (o : OpR) : Lt (obN o) := (Lt.ns _).app (Lt.vb _ _ _)
theorem Lt.lb (l : LpR) : Lt (lbN l) := Lt.ns _
theorem Lt.flb (f : FlR) : Lt (flbN f) := (((Lt.tb _).app (Lt.ns _)).app (Lt.ls Lt.ob)).app (Lt.ls Lt.lb)
theorem Lt.jb (j : JbR) : Lt (jbN j) := ((((Lt.tb _).app (Lt.ns _)).app (Lt.ls (fun e => nbN_lt e))).app (Lt.ls (fun e => nbN_lt e))).app (nbN_lt _)
theorem Lt.imb (m : ImR) : Lt (imbN m) := ((((Lt.sb _).app (Lt.tb _)).app (Lt.ls Lt.cb)).app (Lt.ls Lt.flb)).app (Lt.ls Lt.jb)
/-- The check sum's four bytes. -/
def cr4N (c : BitVec 32) : List Nat := [(uW c % (256 : Int)).toNat, (uW c / (256 : Int) % (256 : Int)).toNat, (uW c / (65536 : Int) % (256 : Int)).toNat, (uW c / (16777216 : Int) % (256 : Int)).toNat]
theorem cr4_bv (c : BitVec 32) : bvL (cr4N c) = [.int .u8 (uW c % (256 : Int)), .int .u8 (uW c / (256 : Int) % (256 : Int)), .int .u8 (uW c / (65536 : Int) % (256 : Int)), .int .u8 (uW c / (16777216 : Int) % (256 : Int))] := by
  unfold bvL cr4N
  simp only [List.map_cons, List.map_nil, by_nat]
/-- An image that may be is small enough. -/
theorem chk_small {m : ImR} (h : (chk m).2.2 = 0) (ho : ImOk m) : ImS m := by
  obtain ⟨o1, o2, o3, o4, o5, o6, o7⟩ := ho
  have z0 : (lk3 m 0).2.2 = 0 := Decidable.byContradiction fun q => q (by rw [chk_0 q] at h; exact h)
  obtain ⟨_, a1, a2, a3⟩ := hd_0 z0
  have z1 : (lk3 m 1).2.2 = 0 := Decidable.byContradiction fun q => by rw [chk_1 z0, if_pos q] at h; exact q h
  have z2 : (lk3 m 2).2.2 = 0 := Decidable.byContradiction fun q => by rw [chk_1 z0, if_neg (by simp [z1]), if_pos q] at h; exact q h
  have zf := lk_none2 z2
  refine ⟨o1, o2, fun f hf => ⟨o3 f hf, ?_⟩, o4, by omega, by omega, by omega⟩
  obtain ⟨i, hi⟩ := List.mem_iff_getElem?.1 hf
  have hl := (List.getElem?_eq_some_iff.1 hi).1
  unfold fstN at zf
  rw [List.find?_range_eq_none] at zf
  have z := zf i hl
  simp only [Bool.not_eq_true'] at z
  have tk := (totK_succ hi).1
  unfold flAt at z
  rw [hi] at z
  by_cases b1 : nameB f.nm = false
  · simp [b1] at z
  by_cases b2 : coB f m.cs.length = false
  · simp [b1, b2] at z
  by_cases b3 : 16384 < totN m.fs i ∨ 16384 < f.ls.length
  · simp [b1, b2, b3] at z
  omega
theorem ownsRow_mono {V : World} {B C : Nat} {e : TypeId} {v : Value} {n : Nat} {xs : List Value} (h : V.ownsRow B e 1 v n xs) (hB : C ≤ B) : V.ownsRow C e 1 v n xs := by
  refine ⟨h.1, ?_⟩
  rcases h.2 with q | ⟨g, cap, cur, q1, q2, q3⟩
  · exact Or.inl q
  · exact Or.inr ⟨g, cap, cur, q1, Nat.le_trans hB q2, q3⟩
end Go.Proofs.YtpcjnhffpkpchaaGreat
namespace Go.Proofs.YtpcjnhffpkpchaaGreat
set_option linter.unusedVariables false
open Go.RowKit
/-- What Encode answers: bytes of one's own, and an error. -/
def EnR (B : Nat) (m : ImR) (e : Ending) (V : World) : Prop :=
  ∃ v, (e = .returned (.tuple #[v, .int .i64 (if (chk m).2.2 ≠ 0 then (chk m).2.2 else if 4194304 < (imbN m).length + 4 then 4 else 0)])) ∧ V.ownsRow B 5 1 v (if (chk m).2.2 ≠ 0 then [] else if 4194304 < (imbN m).length + 4 then [] else imbN m ++ cr4N (crcF (imbN m))).length (bvL (if (chk m).2.2 ≠ 0 then [] else if 4194304 < (imbN m).length + 4 then [] else imbN m ++ cr4N (crcF (imbN m))))
set_option maxRecDepth 20000 in
set_option maxHeartbeats 8000000 in
theorem EncodeX_0 (m : ImR) (x1 x2 x3 : Option Addr) (p1 p2 p3 : Nat) (w : World) {S : Nat → Prop} (hS : ∀ b, S b → b < w.heap.size) (hq : ImQ S w m x1 x2 x3) (ho : ImOk m) (hc : (chk m).2.2 ≠ 0) :
    Calls Tryz.prog 5 #[.agg #[.string m.nm, .slice x1 m.cs.length p1, .slice x2 m.fs.length p2, .slice x3 m.js.length p3]] w fun e w' => e = .returned (.tuple #[.slice none 0 0, .int .i64 (chk m).2.2]) ∧ Below w.heap.size w w' := by
  have HC : Hid ((chk m).2.2 ≠ 0) := hc
  clear hc
  have HS : Hid (∀ b, S b → b < w.heap.size) := hS
  have HQ : Hid (ImQ S w m x1 x2 x3) := hq
  have OK : Hid (ImOk m) := ho
  clear hS hq ho
  obtain ⟨AW, eW⟩ : ∃ AW, AW = w.alloc (.cells #[.string m.nm, .slice x1 m.cs.length p1, .slice x2 m.fs.length p2, .slice x3 m.js.length p3] 26 (0, 0)) := ⟨_, rfl⟩
  have AB : Hid (Below w.heap.size w AW) := by rw [eW]; exact (Below.refl _ _).alloc (Nat.le_refl _) _
  have AX : Hid (AW.heap[w.heap.size]? = some (.cells #[.string m.nm, .slice x1 m.cs.length p1, .slice x2 m.fs.length p2, .slice x3 m.js.length p3] 26 (0, 0))) := by rw [eW]; exact heap_alloc_last _ _
  have SV : Hid (∀ V, Below w.heap.size w V → ∀ b, S b → b < V.heap.size) := fun V h b hb => Nat.lt_of_lt_of_le (HS.out b hb) h.size
  have QV : Hid (∀ V, Below w.heap.size w V → ImQ S V m x1 x2 x3) := fun V h => HQ.out.fr (fun q hqq => h.cell (HS.out _ hqq))
  have i0 : AW.cell? ⟨w.heap.size, 0, none⟩ = some (.string m.nm) := by simp [World.cell?, AX.out]
  have i1 : AW.cell? ⟨w.heap.size, 1, none⟩ = some (.slice x1 m.cs.length p1) := by simp [World.cell?, AX.out]
  have i2 : AW.cell? ⟨w.heap.size, 2, none⟩ = some (.slice x2 m.fs.length p2) := by simp [World.cell?, AX.out]
  have i3 : AW.cell? ⟨w.heap.size, 3, none⟩ = some (.slice x3 m.js.length p3) := by simp [World.cell?, AX.out]
  have CK : Hid (Calls Tryz.prog 13 #[.agg #[.string m.nm, .slice x1 m.cs.length p1, .slice x2 m.fs.length p2, .slice x3 m.js.length p3]] AW fun e w' => e = .returned (.tuple #[.int .i64 (chk m).1, .int .i64 (chk m).2.1, .int .i64 (chk m).2.2]) ∧ Below AW.heap.size AW w') := CheckI_of m x1 x2 x3 p1 p2 p3 _ (SV.out _ AB.out) (QV.out _ AB.out) OK.out
  generalize (chk m).1 = c1 at *
  generalize (chk m).2.1 = c2 at *
  generalize (chk m).2.2 = c3 at *
  go_enter Tryz.func5, Tryz.ntmps5
  go_upto_region 1 with fail
  rw [← eW]
  clear eW
  go_wp2_with (go_at_call 13; refine (CK.out).mono ?_)
  first | (rintro e w1 ⟨he, hb1⟩; have he' := he) | (rintro e w1 he hb1)
  subst he
  have B1 : Hid (Below AW.heap.size AW w1) := hb1
  have X1 : Hid (w1.heap[w.heap.size]? = some (.cells #[.string m.nm, .slice x1 m.cs.length p1, .slice x2 m.fs.length p2, .slice x3 m.js.length p3] 26 (0, 0))) := (hb1.block _ (blk_in AX.out)).trans AX.out
  have GB1 : Hid (Below w.heap.size w w1) := AB.out.trans (hb1.mono AB.out.size)
  clear hb1 i0 i1 i2 i3
  go_upto_region 2 with fail
  have n1 : (c3 == 0) = false := by simp [HC.out]
  have n2 : (c3 != 0) = true := by simp [HC.out]
  clear CK HC
  go_wp2
  exact bodyPost_ret (v := .tuple #[.slice none 0 0, .int .i64 c3]) (by simp [results, Tryz.results5, go_sem]) rfl ⟨rfl, GB1.out⟩
set_option maxRecDepth 20000 in
set_option maxHeartbeats 8000000 in
theorem EncodeX_1 (m : ImR) (x1 x2 x3 : Option Addr) (p1 p2 p3 : Nat) (w : World) {S : Nat → Prop} (hS : ∀ b, S b → b < w.heap.size) (hq : ImQ S w m x1 x2 x3) (ho : ImOk m) (hc : (chk m).2.2 = 0) (hg : 4194304 < (imbN m).length + 4) :
    Calls Tryz.prog 5 #[.agg #[.string m.nm, .slice x1 m.cs.length p1, .slice x2 m.fs.length p2, .slice x3 m.js.length p3]] w fun e w' => e = .returned (.tuple #[.slice none 0 0, .int .i64 4]) ∧ Below w.heap.size w w' := by
  have SS : Hid (ImS m) := chk_small hc ho
  have HC : Hid ((chk m).2.2 = 0) := hc
  have HG : Hid (4194304 < (imbN m).length + 4) := hg
  clear hc hg
  have HS : Hid (∀ b, S b → b < w.heap.size) := hS
  have HQ : Hid (ImQ S w m x1 x2 x3) := hq
  have OK : Hid (ImOk m) := ho
  clear hS hq ho
  obtain ⟨AW, eW⟩ : ∃ AW, AW = w.alloc (.cells #[.string m.nm, .slice x1 m.cs.length p1, .slice x2 m.fs.length p2, .slice x3 m.js.length p3] 26 (0, 0)) := ⟨_, rfl⟩
  have AB : Hid (Below w.heap.size w AW) := by rw [eW]; exact (Below.refl _ _).alloc (Nat.le_refl _) _
  have AX : Hid (AW.heap[w.heap.size]? = some (.cells #[.string m.nm, .slice x1 m.cs.length p1, .slice x2 m.fs.length p2, .slice x3 m.js.length p3] 26 (0, 0))) := by rw [eW]; exact heap_alloc_last _ _
  have SV : Hid (∀ V, Below w.heap.size w V → ∀ b, S b → b < V.heap.size) := fun V h b hb => Nat.lt_of_lt_of_le (HS.out b hb) h.size
  have QV : Hid (∀ V, Below w.heap.size w V → ImQ S V m x1 x2 x3) := fun V h => HQ.out.fr (fun q hqq => h.cell (HS.out _ hqq))
  have i0 : AW.cell? ⟨w.heap.size, 0, none⟩ = some (.string m.nm) := by simp [World.cell?, AX.out]
  have i1 : AW.cell? ⟨w.heap.size, 1, none⟩ = some (.slice x1 m.cs.length p1) := by simp [World.cell?, AX.out]
  have i2 : AW.cell? ⟨w.heap.size, 2, none⟩ = some (.slice x2 m.fs.length p2) := by simp [World.cell?, AX.out]
  have i3 : AW.cell? ⟨w.heap.size, 3, none⟩ = some (.slice x3 m.js.length p3) := by simp [World.cell?, AX.out]
  have CK : Hid (Calls Tryz.prog 13 #[.agg #[.string m.nm, .slice x1 m.cs.length p1, .slice x2 m.fs.length p2, .slice x3 m.js.length p3]] AW fun e w' => e = .returned (.tuple #[.int .i64 (chk m).1, .int .i64 (chk m).2.1, .int .i64 (chk m).2.2]) ∧ Below AW.heap.size AW w') := CheckI_of m x1 x2 x3 p1 p2 p3 _ (SV.out _ AB.out) (QV.out _ AB.out) OK.out
  have IMX : Hid (∀ V, Below w.heap.size w V → ∀ g, w.heap.size ≤ g → Wb g g [] V → Calls Tryz.prog 14 #[.pointer (some ⟨g, 0, none⟩), .agg #[.string m.nm, .slice x1 m.cs.length p1, .slice x2 m.fs.length p2, .slice x3 m.js.length p3]] V fun e w' => e = .returned (.tuple #[]) ∧ Wb g g (imbN m) w' ∧ Bq g V w') := fun V hV g hg hW => imageX g g m x1 x2 x3 p1 p2 p3 V hW (fun b hb => Nat.lt_of_lt_of_le (HS.out b hb) hg) (QV.out V hV) SS.out
  have LT4 : Hid (4 ≤ (imbN m).length) := by show _ ≤ _; unfold imbN; rw [List.length_append, List.length_append, List.length_append, List.length_append, sbN_len]; show 4 ≤ 4 + _ + _ + _ + _; omega
  have LE : Hid ((imbN m).length ≤ 17592186044416) := by
    obtain ⟨o1, o2, o3, o4, o5, o6, o7⟩ := SS.out
    have z1 := lsC_le o2
    have z2 := lsF_le o3
    have z3 := lsJ_le o4
    have z0 : m.nm.size ≤ 1048576 := o1
    show _ ≤ _
    unfold imbN
    rw [List.length_append, List.length_append, List.length_append, List.length_append, sbN_len, tbN_len]
    show 4 + _ + _ + _ + _ ≤ _
    omega
  have LTB : Hid (Lt (imbN m)) := Lt.imb m
  generalize imbN m = l at *
  generalize (chk m).1 = c1 at *
  generalize (chk m).2.1 = c2 at *
  generalize (chk m).2.2 = c3 at *
  go_enter Tryz.func5, Tryz.ntmps5
  go_upto_region 1 with fail
  rw [← eW]
  clear eW
  go_wp2_with (go_at_call 13; refine (CK.out).mono ?_)
  first | (rintro e w1 ⟨he, hb1⟩; have he' := he) | (rintro e w1 he hb1)
  subst he
  have B1 : Hid (Below AW.heap.size AW w1) := hb1
  have X1 : Hid (w1.heap[w.heap.size]? = some (.cells #[.string m.nm, .slice x1 m.cs.length p1, .slice x2 m.fs.length p2, .slice x3 m.js.length p3] 26 (0, 0))) := (hb1.block _ (blk_in AX.out)).trans AX.out
  have GB1 : Hid (Below w.heap.size w w1) := AB.out.trans (hb1.mono AB.out.size)
  clear hb1 i0 i1 i2 i3
  go_upto_region 2 with fail
  have e3 : c3 = 0 := HC.out
  subst e3
  clear HC CK
  go_upto_region 4 with fail
  obtain ⟨g, eg⟩ : ∃ g, g = w1.heap.size := ⟨_, rfl⟩
  obtain ⟨w2, e2⟩ : ∃ w2, w2 = w1.alloc (.cells #[.slice none 0 0] 52 (0, 0)) := ⟨_, rfl⟩
  have H2 : Hid (Wb g g [] w2) := by rw [e2, eg]; exact Wq.new _
  have B2 : Hid (Below g w1 w2) := by rw [e2, eg]; exact (Below.refl _ _).alloc (Nat.le_refl _) _
  have X2 : Hid (w2.heap[w.heap.size]? = some (.cells #[.string m.nm, .slice x1 m.cs.length p1, .slice x2 m.fs.length p2, .slice x3 m.js.length p3] 26 (0, 0))) := (B2.out.block _ (by rw [eg]; exact blk_in X1.out)).trans X1.out
  have i0 : w2.cell? ⟨w.heap.size, 0, none⟩ = some (.string m.nm) := by simp [World.cell?, X2.out]
  have i1 : w2.cell? ⟨w.heap.size, 1, none⟩ = some (.slice x1 m.cs.length p1) := by simp [World.cell?, X2.out]
  have i2 : w2.cell? ⟨w.heap.size, 2, none⟩ = some (.slice x2 m.fs.length p2) := by simp [World.cell?, X2.out]
  have i3 : w2.cell? ⟨w.heap.size, 3, none⟩ = some (.slice x3 m.js.length p3) := by simp [World.cell?, X2.out]
  go_upto_region 5 with fail
  rw [← e2, ← eg]
  have GB : Hid (Below w.heap.size w w2) := GB1.out.trans (B2.out.mono (by rw [eg]; exact GB1.out.size))
  have WG : Hid (w.heap.size ≤ g) := by rw [eg]; exact GB1.out.size
  clear e2 eg
  go_wp2_with (go_at_call 14; refine (IMX.out _ GB.out g WG.out H2.out).mono ?_)
  first | (rintro e w3 ⟨he, h3, q3⟩; have he' := he) | (rintro e w3 he h3 q3)
  subst he
  have GB3 : Hid (Below w.heap.size w w3) := GB.out.trans (q3.b.mono WG.out)
  have lt4 := LT4.out
  have hle := LE.out
  obtain ⟨k, c, hg, hown, hk, hcells⟩ := h3.full (by rw [bvL_len]; omega)
  rw [bvL_len] at hg hown
  have G3 : Hid (w3.heap[g]? = some (.cells #[.slice (some ⟨k, 0, none⟩) l.length c] 52 (0, 0))) := hg
  have O3 : Hid (w3.ownsRow g 5 1 (.slice (some ⟨k, 0, none⟩) l.length c) l.length (bvL l)) := hown
  have SC : Hid (∀ (j : Nat) b, l[j]? = some b → ∃ a, (some ⟨k, 0, none⟩ : Option Addr) = some a ∧ a.block < w3.heap.size ∧ w3.cell? (a.add j) = some (.int .u8 b)) := fun j b hj => by
    refine ⟨_, rfl, hk, ?_⟩
    rw [Addr.add_mid, Nat.zero_add]
    exact hcells j _ (by unfold bvL; rw [List.getElem?_map, hj]; rfl)
  have d0 : w3.cell? ⟨g, 0, none⟩ = some (.slice (some ⟨k, 0, none⟩) l.length c) := by simp [World.cell?, G3.out]
  have ew : wrap64 ((l.length : Int) + 4) = (l.length : Int) + 4 := by unfold wrap64; omega
  clear h3 q3 hg hown hcells i0 i1 i2 i3 hle lt4
  have b1 : (4194304 : Int) < (l.length : Int) + 4 := by have := HG.out; omega
  clear HG
  go_wp2
  exact bodyPost_ret (v := .tuple #[.slice none 0 0, .int .i64 4]) (by simp [results, Tryz.results5, go_sem]) rfl ⟨rfl, GB3.out⟩
set_option maxRecDepth 20000 in
set_option maxHeartbeats 8000000 in
theorem EncodeX_2 (m : ImR) (x1 x2 x3 : Option Addr) (p1 p2 p3 : Nat) (w : World) {S : Nat → Prop} (hS : ∀ b, S b → b < w.heap.size) (hq : ImQ S w m x1 x2 x3) (ho : ImOk m) (hc : (chk m).2.2 = 0) (hg : ¬ 4194304 < (imbN m).length + 4) :
    Calls Tryz.prog 5 #[.agg #[.string m.nm, .slice x1 m.cs.length p1, .slice x2 m.fs.length p2, .slice x3 m.js.length p3]] w fun e w' => (∃ v, e = .returned (.tuple #[v, .int .i64 0]) ∧ w'.ownsRow w.heap.size 5 1 v (imbN m ++ cr4N (crcF (imbN m))).length (bvL (imbN m ++ cr4N (crcF (imbN m))))) ∧ Below w.heap.size w w' := by
  have SS : Hid (ImS m) := chk_small hc ho
  have HC : Hid ((chk m).2.2 = 0) := hc
  have HG : Hid (¬ 4194304 < (imbN m).length + 4) := hg
  clear hc hg
  have HS : Hid (∀ b, S b → b < w.heap.size) := hS
  have HQ : Hid (ImQ S w m x1 x2 x3) := hq
  have OK : Hid (ImOk m) := ho
  clear hS hq ho
  obtain ⟨AW, eW⟩ : ∃ AW, AW = w.alloc (.cells #[.string m.nm, .slice x1 m.cs.length p1, .slice x2 m.fs.length p2, .slice x3 m.js.length p3] 26 (0, 0)) := ⟨_, rfl⟩
  have AB : Hid (Below w.heap.size w AW) := by rw [eW]; exact (Below.refl _ _).alloc (Nat.le_refl _) _
  have AX : Hid (AW.heap[w.heap.size]? = some (.cells #[.string m.nm, .slice x1 m.cs.length p1, .slice x2 m.fs.length p2, .slice x3 m.js.length p3] 26 (0, 0))) := by rw [eW]; exact heap_alloc_last _ _
  have SV : Hid (∀ V, Below w.heap.size w V → ∀ b, S b → b < V.heap.size) := fun V h b hb => Nat.lt_of_lt_of_le (HS.out b hb) h.size
  have QV : Hid (∀ V, Below w.heap.size w V → ImQ S V m x1 x2 x3) := fun V h => HQ.out.fr (fun q hqq => h.cell (HS.out _ hqq))
  have i0 : AW.cell? ⟨w.heap.size, 0, none⟩ = some (.string m.nm) := by simp [World.cell?, AX.out]
  have i1 : AW.cell? ⟨w.heap.size, 1, none⟩ = some (.slice x1 m.cs.length p1) := by simp [World.cell?, AX.out]
  have i2 : AW.cell? ⟨w.heap.size, 2, none⟩ = some (.slice x2 m.fs.length p2) := by simp [World.cell?, AX.out]
  have i3 : AW.cell? ⟨w.heap.size, 3, none⟩ = some (.slice x3 m.js.length p3) := by simp [World.cell?, AX.out]
  have CK : Hid (Calls Tryz.prog 13 #[.agg #[.string m.nm, .slice x1 m.cs.length p1, .slice x2 m.fs.length p2, .slice x3 m.js.length p3]] AW fun e w' => e = .returned (.tuple #[.int .i64 (chk m).1, .int .i64 (chk m).2.1, .int .i64 (chk m).2.2]) ∧ Below AW.heap.size AW w') := CheckI_of m x1 x2 x3 p1 p2 p3 _ (SV.out _ AB.out) (QV.out _ AB.out) OK.out
  have IMX : Hid (∀ V, Below w.heap.size w V → ∀ g, w.heap.size ≤ g → Wb g g [] V → Calls Tryz.prog 14 #[.pointer (some ⟨g, 0, none⟩), .agg #[.string m.nm, .slice x1 m.cs.length p1, .slice x2 m.fs.length p2, .slice x3 m.js.length p3]] V fun e w' => e = .returned (.tuple #[]) ∧ Wb g g (imbN m) w' ∧ Bq g V w') := fun V hV g hg hW => imageX g g m x1 x2 x3 p1 p2 p3 V hW (fun b hb => Nat.lt_of_lt_of_le (HS.out b hb) hg) (QV.out V hV) SS.out
  have LT4 : Hid (4 ≤ (imbN m).length) := by show _ ≤ _; unfold imbN; rw [List.length_append, List.length_append, List.length_append, List.length_append, sbN_len]; show 4 ≤ 4 + _ + _ + _ + _; omega
  have LE : Hid ((imbN m).length ≤ 17592186044416) := by
    obtain ⟨o1, o2, o3, o4, o5, o6, o7⟩ := SS.out
    have z1 := lsC_le o2
    have z2 := lsF_le o3
    have z3 := lsJ_le o4
    have z0 : m.nm.size ≤ 1048576 := o1
    show _ ≤ _
    unfold imbN
    rw [List.length_append, List.length_append, List.length_append, List.length_append, sbN_len, tbN_len]
    show 4 + _ + _ + _ + _ ≤ _
    omega
  have LTB : Hid (Lt (imbN m)) := Lt.imb m
  generalize imbN m = l at *
  generalize (chk m).1 = c1 at *
  generalize (chk m).2.1 = c2 at *
  generalize (chk m).2.2 = c3 at *
  go_enter Tryz.func5, Tryz.ntmps5
  go_upto_region 1 with fail
  rw [← eW]
  clear eW
  go_wp2_with (go_at_call 13; refine (CK.out).mono ?_)
  first | (rintro e w1 ⟨he, hb1⟩; have he' := he) | (rintro e w1 he hb1)
  subst he
  have B1 : Hid (Below AW.heap.size AW w1) := hb1
  have X1 : Hid (w1.heap[w.heap.size]? = some (.cells #[.string m.nm, .slice x1 m.cs.length p1, .slice x2 m.fs.length p2, .slice x3 m.js.length p3] 26 (0, 0))) := (hb1.block _ (blk_in AX.out)).trans AX.out
  have GB1 : Hid (Below w.heap.size w w1) := AB.out.trans (hb1.mono AB.out.size)
  clear hb1 i0 i1 i2 i3
  go_upto_region 2 with fail
  have e3 : c3 = 0 := HC.out
  subst e3
  clear HC CK
  go_upto_region 4 with fail
  obtain ⟨g, eg⟩ : ∃ g, g = w1.heap.size := ⟨_, rfl⟩
  obtain ⟨w2, e2⟩ : ∃ w2, w2 = w1.alloc (.cells #[.slice none 0 0] 52 (0, 0)) := ⟨_, rfl⟩
  have H2 : Hid (Wb g g [] w2) := by rw [e2, eg]; exact Wq.new _
  have B2 : Hid (Below g w1 w2) := by rw [e2, eg]; exact (Below.refl _ _).alloc (Nat.le_refl _) _
  have X2 : Hid (w2.heap[w.heap.size]? = some (.cells #[.string m.nm, .slice x1 m.cs.length p1, .slice x2 m.fs.length p2, .slice x3 m.js.length p3] 26 (0, 0))) := (B2.out.block _ (by rw [eg]; exact blk_in X1.out)).trans X1.out
  have i0 : w2.cell? ⟨w.heap.size, 0, none⟩ = some (.string m.nm) := by simp [World.cell?, X2.out]
  have i1 : w2.cell? ⟨w.heap.size, 1, none⟩ = some (.slice x1 m.cs.length p1) := by simp [World.cell?, X2.out]
  have i2 : w2.cell? ⟨w.heap.size, 2, none⟩ = some (.slice x2 m.fs.length p2) := by simp [World.cell?, X2.out]
  have i3 : w2.cell? ⟨w.heap.size, 3, none⟩ = some (.slice x3 m.js.length p3) := by simp [World.cell?, X2.out]
  go_upto_region 5 with fail
  rw [← e2, ← eg]
  have GB : Hid (Below w.heap.size w w2) := GB1.out.trans (B2.out.mono (by rw [eg]; exact GB1.out.size))
  have WG : Hid (w.heap.size ≤ g) := by rw [eg]; exact GB1.out.size
  clear e2 eg
  go_wp2_with (go_at_call 14; refine (IMX.out _ GB.out g WG.out H2.out).mono ?_)
  first | (rintro e w3 ⟨he, h3, q3⟩; have he' := he) | (rintro e w3 he h3 q3)
  subst he
  have GB3 : Hid (Below w.heap.size w w3) := GB.out.trans (q3.b.mono WG.out)
  have lt4 := LT4.out
  have hle := LE.out
  obtain ⟨k, c, hg, hown, hk, hcells⟩ := h3.full (by rw [bvL_len]; omega)
  rw [bvL_len] at hg hown
  obtain ⟨n, hn⟩ : ∃ n, n = l.length := ⟨_, rfl⟩
  have NL : Hid (n = l.length) := hn
  rw [← hn] at hg hown
  clear hn
  have G3 : Hid (w3.heap[g]? = some (.cells #[.slice (some ⟨k, 0, none⟩) n c] 52 (0, 0))) := hg
  have O3 : Hid (w3.ownsRow g 5 1 (.slice (some ⟨k, 0, none⟩) n c) n (bvL l)) := hown
  have SC : Hid (∀ (j : Nat) b, l[j]? = some b → ∃ a, (some ⟨k, 0, none⟩ : Option Addr) = some a ∧ a.block < w3.heap.size ∧ w3.cell? (a.add j) = some (.int .u8 b)) := fun j b hj => by
    refine ⟨_, rfl, hk, ?_⟩
    rw [Addr.add_mid, Nat.zero_add]
    exact hcells j _ (by unfold bvL; rw [List.getElem?_map, hj]; rfl)
  have d0 : w3.cell? ⟨g, 0, none⟩ = some (.slice (some ⟨k, 0, none⟩) n c) := by simp [World.cell?, G3.out]
  have NS : Hid (n ≤ 4194304) := by show _ ≤ _; have := NL.out; have := HG.out; omega
  obtain ⟨N4, ew, b1⟩ : ∃ N4 : Int, wrap64 ((n : Int) + 4) = N4 ∧ ¬ (4194304 : Int) < N4 := ⟨_, rfl, by have := NL.out; have := HG.out; unfold wrap64; omega⟩
  clear h3 q3 hg hown hcells i0 i1 i2 i3 hle lt4
  clear HG
  go_upto_region 8 with fail
  go_wp2_with (go_at_call 15; refine (sumOfX_of _ n c l _ (by have := NS.out; omega) NL.out.symm LTB.out SC.out).mono ?_)
  first | (rintro e w4 ⟨he, hb4⟩; have he' := he) | (rintro e w4 he hb4)
  subst he
  have B4 : Hid (Below w3.heap.size w3 w4) := hb4
  have CR : Hid (bvL (cr4N (crcF l)) = _) := cr4_bv (crcF l)
  unfold cr4
  generalize uW (crcF l) % (256 : Int) = b0 at *
  generalize uW (crcF l) / (256 : Int) % (256 : Int) = b1 at *
  generalize uW (crcF l) / (65536 : Int) % (256 : Int) = b2 at *
  generalize uW (crcF l) / (16777216 : Int) % (256 : Int) = b3 at *
  clear hb4 d0
  obtain ⟨w5, e5⟩ : ∃ w5, w5 = w4.alloc (.cells #[.int .u8 b0, .int .u8 b1, .int .u8 b2, .int .u8 b3] 54 (0, 0)) := ⟨_, rfl⟩
  have X5 : Hid (w5.heap[w4.heap.size]? = some (.cells #[.int .u8 b0, .int .u8 b1, .int .u8 b2, .int .u8 b3] 54 (0, 0))) := by rw [e5]; exact heap_alloc_last _ _
  have B5 : Hid (Below w3.heap.size w3 w5) := by rw [e5]; exact B4.out.trans (((Below.refl _ _).alloc (Nat.le_refl _) _).mono B4.out.size)
  go_upto_region 9 with fail
  rw [← e5]
  clear e5
  have d0 : w5.cell? ⟨g, 0, none⟩ = some (.slice (some ⟨k, 0, none⟩) n c) := (B5.out.cell (p := ⟨g, 0, none⟩) (blk_in G3.out)).trans (by simp [World.cell?, G3.out])
  have O5 : Hid (w5.drew.ownsRow g 5 1 (.slice (some ⟨k, 0, none⟩) n c) n (bvL l)) := O3.out.kept (row := none) ⟨B5.out.os, B5.out.tape, B5.out.output, B5.out.size, fun j hj _ => B5.out.block j hj⟩ (by simp [Value.ownBlock])
  have S5 : Hid (∀ (j : Nat) u, ([.int .u8 b0, .int .u8 b1, .int .u8 b2, .int .u8 b3] : List Value)[j]? = some u → w5.drew.cell? ((⟨w4.heap.size, 0, none⟩ : Addr).add j) = some u) := fun j u hu => by
    rw [Addr.add_mid, Nat.zero_add]
    show w5.cell? _ = _
    rw [World.cell?, X5.out]
    simpa using hu
  have GK : Hid (w.heap.size ≤ g ∧ g ≤ w5.heap.size) := ⟨WG.out, by have := blk_in G3.out; have := B5.out.size; omega⟩
  have GB5 : Hid (Below w.heap.size w w5.drew) := (GB3.out.trans (B5.out.mono GB3.out.size)).drew
  obtain ⟨i, hi, hz, hs, hy⟩ := u8_info
  go_region_law ((rw [if_pos (by rfl)]; refine wp_append_own _ _ _ 28 rfl g 5 i _ 1 1 Tryz.underlying28 hi hz hs hy rfl (by decide) _ n (bvL l) rfl O5.out ⟨w4.heap.size, 0, none⟩ 4 4 [.int .u8 b0, .int .u8 b1, .int .u8 b2, .int .u8 b3] rfl rfl S5.out (by intro u hu; simp at hu; rcases hu with rfl | rfl | rfl | rfl <;> rfl) (by have := NL.out; have := LE.out; unfold maxLen; omega) (by have := NL.out; have := LE.out; omega) GK.out.2 ?_; intro v' w' k1 k2 k3))
  have k2' : w5.drew.grownBy w' (Value.slice (some ⟨k, 0, none⟩) n c).ownBlock := k2
  have B6 : Hid (Below w.heap.size w w') := GB5.out.grown k2' (by have := GK.out; show _ ≤ w5.heap.size; omega) (fun j hj => by have := (O5.out.lt j hj).1; have := GK.out.1; omega)
  have K1 : Hid (w'.ownsRow w.heap.size 5 1 v' (l ++ cr4N (crcF l)).length (bvL (l ++ cr4N (crcF l)))) := by
    show World.ownsRow _ _ _ _ _ _ _
    rw [bvL_app, CR.out, List.length_append, ← NL.out]
    exact ownsRow_mono k1 GK.out.1
  clear k1 k2 k3 k2' hi hz hs hy d0
  go_wp2
  exact bodyPost_ret (v := .tuple #[v', .int .i64 0]) (by simp [results, Tryz.results5, go_sem]) rfl ⟨⟨v', rfl, K1.out⟩, B6.out⟩
theorem EncodeX (m : ImR) (x1 x2 x3 : Option Addr) (p1 p2 p3 : Nat) (w : World) {S : Nat → Prop} (hS : ∀ b, S b → b < w.heap.size) (hq : ImQ S w m x1 x2 x3) (ho : ImOk m) :
    Calls Tryz.prog 5 #[.agg #[.string m.nm, .slice x1 m.cs.length p1, .slice x2 m.fs.length p2, .slice x3 m.js.length p3]] w fun e w' => EnR w.heap.size m e w' ∧ Below w.heap.size w w' := by
  by_cases hc : (chk m).2.2 = 0
  · by_cases hg : 4194304 < (imbN m).length + 4
    · refine (EncodeX_1 m x1 x2 x3 p1 p2 p3 w hS hq ho hc hg).mono ?_
      rintro e w' ⟨he, hb⟩
      refine ⟨⟨.slice none 0 0, ?_, ?_⟩, hb⟩
      · rw [he, if_neg (by simp [hc]), if_pos hg]
      · rw [if_neg (by simp [hc]), if_pos hg]; exact World.ownsRow_nil _ _ _ _
    · refine (EncodeX_2 m x1 x2 x3 p1 p2 p3 w hS hq ho hc hg).mono ?_
      rintro e w' ⟨⟨v, he, hv⟩, hb⟩
      refine ⟨⟨v, ?_, ?_⟩, hb⟩
      · rw [he, if_neg (by simp [hc]), if_neg hg]
      · rw [if_neg (by simp [hc]), if_neg hg]; exact hv
  · refine (EncodeX_0 m x1 x2 x3 p1 p2 p3 w hS hq ho hc).mono ?_
    rintro e w' ⟨he, hb⟩
    refine ⟨⟨.slice none 0 0, ?_, ?_⟩, hb⟩
    · rw [he, if_pos hc]
    · rw [if_pos hc]; exact World.ownsRow_nil _ _ _ _
end Go.Proofs.YtpcjnhffpkpchaaGreat
