/- How a list of kinds reads as an argument; no statement of the seat is proved here. -/
import Derived.Test.YtpaibmganlaaeaaGreatDoorFz38
import Derived.Test.YtpaibmganlaaeaaGreatDoorFz20
import Derived.ProofKit
import Derived.OpenShut
import Derived.LaidMore
import Derived.LaidSub
import Derived.Lay
import Derived.Lib.LaidTab
import Derived.Deep.Fields
import Derived.Test.YtpaibmganlaaeaaGreatDoorFz02
import Derived.SizedLaws
import Derived.Lib.SmallJoins
import Derived.Deep.Slices
namespace Go.Proofs.YtpaibmganlaaeaaGreatDoor
set_option linter.unusedVariables false
open Go.RowKit
theorem ct_0 (x : Int) (c : Nat) : ctB x c ((0 : Nat) : Int) = false := by
  unfold ctB
  rw [Bool.eq_false_iff]
  intro h
  simp at h
  omega
theorem oA_0 (z : Int) (κ : Nat → Int) : oA z 0 κ = 0 := by
  unfold oA ctA
  rw [ct_0]
  rfl
theorem oA_many (z : Int) (n : Nat) (κ : Nat → Int) (h : 16 < n) : oA z n κ = 0 := by
  unfold oA ctA
  have P := pm_A z
  have : ctB (fuA z).nx (pmA z).1.length (n : Int) = false := by
    unfold ctB
    rw [Bool.eq_false_iff]
    intro q
    have := P.le
    simp at q
    omega
  rw [this]
  rfl
theorem tk_out (k n : Nat) (κ : Nat → Int) (h1 : 1 ≤ k) (h2 : k < 37) (hn : 1 ≤ n) (he : ¬ (1 ≤ κ 0 ∧ κ 0 ≤ 19)) : tkT k n κ = 0 := by
  have c0 : comK n κ = 0 := by
    unfold comK zeroK
    rw [if_neg he]
    split <;> rfl
  have i0 : intK (κ 0) = false := by unfold intK; exact decide_eq_false (by omega)
  have r0 : rowK (κ 0) = false := by unfold rowK; exact decide_eq_false (by omega)
  have q19 : (κ 0 == 19) = false := by simp; omega
  have q18 : (κ 0 == 18) = false := by simp; omega
  have q14 : (κ 0 == 14) = false := by simp; omega
  have q1 : (κ 0 == 1) = false := by simp; omega
  have rc : ∀ op : Int, 1 ≤ op ∧ op ≤ 8 → rcN op n κ = 0 := fun op ho => by
    unfold rcN
    rw [resK_out op _ _ ho (Or.inl he)]
    split <;> rfl
  have t0 : tnK (κ 0) = 0 := by unfold tnK; rw [if_neg (by omega)]
  have o0 : oneB n κ = false := by unfold oneB; rw [allT_1, q19]; rfl
  have w0 : twoB n κ = false := by unfold twoB; rw [allT_2, q19]; rfl
  have a0 : allT n κ = false := by
    unfold allT
    exact decide_eq_false (fun h => by have := h 0 (by omega); omega)
  match k, h1, h2 with
  | 1, _, _ => exact rc 1 (by decide)
  | 2, _, _ => exact rc 2 (by decide)
  | 3, _, _ => exact rc 3 (by decide)
  | 4, _, _ => exact rc 4 (by decide)
  | 5, _, _ => exact rc 5 (by decide)
  | 6, _, _ => exact rc 6 (by decide)
  | 7, _, _ => exact rc 7 (by decide)
  | 8, _, _ => exact rc 8 (by decide)
  | 9, _, _ => exact t0
  | 10, _, _ => show gvK 1 (comK n κ != 0) = 0; rw [c0]; rfl
  | 11, _, _ => show gvK 1 (comK n κ != 0) = 0; rw [c0]; rfl
  | 12, _, _ => show gvK 1 (comK n κ != 0) = 0; rw [c0]; rfl
  | 13, _, _ => show gvK 1 (comK n κ != 0) = 0; rw [c0]; rfl
  | 14, _, _ => show gvK 1 (comK n κ != 0) = 0; rw [c0]; rfl
  | 15, _, _ => show gvK 1 (comK n κ != 0) = 0; rw [c0]; rfl
  | 16, _, _ => exact c0
  | 17, _, _ => show gvK (κ 0) (intK (κ 0) || κ 0 == 18 || κ 0 == 14) = 0; rw [i0, q18, q14]; rfl
  | 18, _, _ => exact c0
  | 19, _, _ => exact c0
  | 20, _, _ => exact c0
  | 21, _, _ => show gvK _ (κ 0 == 1) = 0; rw [q1]; rfl
  | 22, _, _ => show gvK _ (intK (κ 0)) = 0; rw [i0]; rfl
  | 23, _, _ => show gvK _ (rowK (κ 0) && intK (κ 1)) = 0; rw [r0]; rfl
  | 24, _, _ => show gvK _ (rowK (κ 0) && intK (κ 1)) = 0; rw [r0]; rfl
  | 25, _, _ => show gvK _ (rowK (κ 0) && intK (κ 1)) = 0; rw [r0]; rfl
  | 26, _, _ => show gvK _ (rowK (κ 0) && intK (κ 1)) = 0; rw [r0]; rfl
  | 27, _, _ => show gvK _ (oneB n κ) = 0; rw [o0]; rfl
  | 28, _, _ => show gvK _ (oneB n κ) = 0; rw [o0]; rfl
  | 29, _, _ => show gvK _ (oneB n κ) = 0; rw [o0]; rfl
  | 30, _, _ => show gvK _ (oneB n κ) = 0; rw [o0]; rfl
  | 31, _, _ => show gvK _ (allT n κ) = 0; rw [a0]; rfl
  | 32, _, _ => show gvK _ (twoB n κ) = 0; rw [w0]; rfl
  | 33, _, _ => show gvK _ (oneB n κ) = 0; rw [o0]; rfl
  | 34, _, _ => show gvK _ (twoB n κ) = 0; rw [w0]; rfl
  | 35, _, _ => show gvK _ (twoB n κ) = 0; rw [w0]; rfl
  | 36, _, _ => show gvK _ (κ 0 == 18) = 0; rw [q18]; rfl
  | k + 37, _, h => omega
theorem oA_elem (z : Int) (hz : 1 ≤ z ∧ z ≤ 36 ∨ 65 ≤ z ∧ z ≤ 83) (n : Nat) (κ : Nat → Int) (hn : 1 ≤ n) (he : ¬ (1 ≤ κ 0 ∧ κ 0 ≤ 19)) : oA z n κ = 0 := by
  unfold oA tkA
  split
  · by_cases h : 1 ≤ z ∧ z ≤ 36
    · rw [if_pos h]
      exact tk_out z.toNat n κ (by omega) (by omega) hn he
    · rw [if_neg h]
      have : cvU (z - 64) (κ 0) = false := by
        unfold cvU
        rw [smK_out (κ 0) he]
        unfold cvX
        rw [if_neg (fun q => by have := q.1; simp [may3, mayW] at this)]
        rfl
      rw [this]
      rfl
  · rfl
/-- The document's gives, whatever the kinds are. -/
theorem givR_any (k : Nat) (hz : 1 ≤ k ∧ k ≤ 36 ∨ 65 ≤ k ∧ k ≤ 83) (ad : Option Addr) (n cap : Nat) (κ : Nat → Int) (w : World) (hP : Pow w) (hk : ∀ a, ad = some a → KsAt w a n κ) (h0 : ad = none → n = 0) (hcap : n ≤ cap) (hr : ∀ i, 0 ≤ κ i ∧ κ i < 256) :
    Calls Tryz.prog 14 #[.int .i64 k, .slice ad n cap] w fun e w' => e = .returned (.int .u8 (oA k n κ)) ∧ Below w.heap.size w w' := by
  by_cases n0 : n = 0
  · subst n0
    rw [oA_0]
    exact givR_0 k ad cap w
  by_cases nm : 16 < n
  · rw [oA_many k n κ nm]
    exact givR_many k ad n cap w nm
  obtain ⟨a, rfl⟩ : ∃ a, ad = some a := by
    cases ad with
    | none => exact absurd (h0 rfl) n0
    | some a => exact ⟨a, rfl⟩
  have hk' := hk a rfl
  by_cases he : 1 ≤ κ 0 ∧ κ 0 ≤ 19
  · exact givR_A k hz a n cap κ w hP hk' (by omega) (by omega) hcap hr he
  · rw [oA_elem k (by omega) n κ (by omega) he]
    have d0 : w.cell? a = some (.int .u8 (κ 0)) := by have := hk' 0 (by omega); rwa [Addr.add_zero'] at this
    exact givR_elem k a n cap (κ 0) w (by omega) (by omega) d0 he
section
variable (nm : ByteArray) (z y : Int) (n cap : Nat) (w : World)
set_option maxHeartbeats 1000000 in
theorem FindR_0 (a : Option Addr) (hN : ∀ w, Calls Tryz.prog 13 #[.string nm] w fun e w' => e = .returned (.tuple #[.int .i64 0, .int .u8 y]) ∧ Below w.heap.size w w') :
    Calls Tryz.prog 6 #[.string nm, .slice a n cap] w fun e w' => e = .returned (.tuple #[.int .i64 0, .int .u8 0, .int .i64 90]) ∧ Below w.heap.size w w' := by
  have HN : Hid _ := hN
  clear hN
  go_enter Tryz.func6, Tryz.ntmps6
  go_wp2_with (first | (go_at_call 13; refine (HN.out _).mono ?_; rintro e w1 ⟨rfl, hb⟩; have HB : Hid _ := hb; clear hb))
  go_ret3
  exact ⟨rfl, HB.out⟩
set_option maxHeartbeats 1000000 in
theorem FindR_no (a : Option Addr) (z0 : (z == 0) = false) (hN : ∀ w, Calls Tryz.prog 13 #[.string nm] w fun e w' => e = .returned (.tuple #[.int .i64 z, .int .u8 y]) ∧ Below w.heap.size w w')
    (hO : ∀ W, Below w.heap.size w W → Calls Tryz.prog 14 #[.int .i64 z, .slice a n cap] W fun e w' => e = .returned (.int .u8 0) ∧ Below W.heap.size W w') :
    Calls Tryz.prog 6 #[.string nm, .slice a n cap] w fun e w' => e = .returned (.tuple #[.int .i64 0, .int .u8 0, .int .i64 91]) ∧ Below w.heap.size w w' := by
  have HN : Hid _ := hN
  have HO : Hid _ := hO
  clear hN hO
  go_enter Tryz.func6, Tryz.ntmps6
  go_wp2_with (first | (go_at_call 13; refine (HN.out _).mono ?_; rintro e w1 ⟨rfl, hb⟩; have HB : Hid _ := hb; clear hb) | (go_at_call 14; refine (HO.out _ HB.out).mono ?_; rintro e w3 ⟨rfl, hb⟩; have HB3 : Hid (Below w.heap.size w w3) := HB.out.trans (hb.mono HB.out.size); clear hb))
  go_ret3
  exact ⟨rfl, HB3.out⟩
set_option maxHeartbeats 1000000 in
theorem FindR_yes (R : Int) (a : Addr) (k0 : Int) (p : Bool) (z0 : (z == 0) = false) (hR : (R == 0) = false) (h0 : 0 < n) (hc : w.cell? a = some (.int .u8 k0)) (hp : (!(y == 0) && !(k0 == y)) = p)
    (hN : ∀ w, Calls Tryz.prog 13 #[.string nm] w fun e w' => e = .returned (.tuple #[.int .i64 z, .int .u8 y]) ∧ Below w.heap.size w w')
    (hO : ∀ W, Below w.heap.size w W → Calls Tryz.prog 14 #[.int .i64 z, .slice (some a) n cap] W fun e w' => e = .returned (.int .u8 R) ∧ Below W.heap.size W w') :
    Calls Tryz.prog 6 #[.string nm, .slice (some a) n cap] w fun e w' => e = .returned (if p = true then .tuple #[.int .i64 0, .int .u8 0, .int .i64 91] else .tuple #[.int .i64 z, .int .u8 R, .int .i64 0]) ∧ Below w.heap.size w w' := by
  have HN : Hid _ := hN
  have HO : Hid _ := hO
  have hg := block_lt_of_cell hc
  have p0 : (0 : Int) < n := by omega
  clear hN hO
  rcases y0 : (y == 0) with _ | _ <;> rcases k0y : (k0 == y) with _ | _
  all_goals
    rw [y0, k0y] at hp
    obtain rfl := hp
    have nk : (k0 != y) = !(k0 == y) := rfl
    have ny : (y != 0) = !(y == 0) := rfl
    rw [k0y] at nk
    rw [y0] at ny
    go_enter Tryz.func6, Tryz.ntmps6
    go_wp2_with (first | (go_at_call 13; refine (HN.out _).mono ?_; rintro e w1 ⟨rfl, hb⟩; have HB : Hid _ := hb; clear hb) | (go_at_call 14; refine (HO.out _ HB.out).mono ?_; rintro e w3 ⟨rfl, hb⟩; have HB3 : Hid (Below w.heap.size w w3) := HB.out.trans (hb.mono HB.out.size); have hc3 := (HB3.out.cell hg).trans hc; clear hb))
    go_ret3
    exact ⟨rfl, HB3.out⟩
theorem fnd_p (κ : Nat → Int) (hz : ¬ z = 0) (hR : ¬ oA z n κ = 0) : (if (!(y == 0) && !(κ 0 == y)) = true then .tuple #[.int .i64 0, .int .u8 0, .int .i64 91] else .tuple #[.int .i64 z, .int .u8 (oA z n κ), .int .i64 0]) = fndV z y n κ := by
  unfold fndV
  rw [if_neg hz]
  by_cases c : ¬ y = 0 ∧ ¬ κ 0 = y
  · rw [if_pos (by simpa using c), if_pos (Or.inr c)]
  · rw [if_neg (by simpa using c), if_neg (fun q => by rcases q with q | q; exact hR q; exact c q)]
theorem fnd_no (κ : Nat → Int) (hz : ¬ z = 0) (hR : oA z n κ = 0) : fndV z y n κ = .tuple #[.int .i64 0, .int .u8 0, .int .i64 91] := by
  unfold fndV
  rw [if_neg hz, if_pos (Or.inl hR)]
end
theorem FindR_any (nm : ByteArray) (z y : Int) (hz : z = 0 ∨ 1 ≤ z ∧ z ≤ 36 ∨ 65 ≤ z ∧ z ≤ 83) (ad : Option Addr) (n cap : Nat) (κ : Nat → Int) (w : World) (hP : Pow w) (hk : ∀ a, ad = some a → KsAt w a n κ) (h0 : ad = none → n = 0) (hcap : n ≤ cap) (hr : ∀ i, 0 ≤ κ i ∧ κ i < 256)
    (hN : ∀ w, Calls Tryz.prog 13 #[.string nm] w fun e w' => e = .returned (.tuple #[.int .i64 z, .int .u8 y]) ∧ Below w.heap.size w w') :
    Calls Tryz.prog 6 #[.string nm, .slice ad n cap] w fun e w' => e = .returned (fndV z y n κ) ∧ Below w.heap.size w w' := by
  by_cases z0 : z = 0
  · subst z0
    have : fndV 0 y n κ = .tuple #[.int .i64 0, .int .u8 0, .int .i64 90] := by unfold fndV; rw [if_pos rfl]
    rw [this]
    exact FindR_0 nm y n cap w ad hN
  have zb : (z == 0) = false := by simpa using z0
  have hz' : 1 ≤ z.toNat ∧ z.toNat ≤ 36 ∨ 65 ≤ z.toNat ∧ z.toNat ≤ 83 := by omega
  have e : ((z.toNat : Nat) : Int) = z := by omega
  have O : ∀ W, Below w.heap.size w W → Calls Tryz.prog 14 #[.int .i64 z, .slice ad n cap] W fun e w' => e = .returned (.int .u8 (oA z n κ)) ∧ Below W.heap.size W w' := fun W hb => by
    have := givR_any z.toNat hz' ad n cap κ W (pow_below hP hb) (fun a q => (hk a q).below hb) h0 hcap hr
    rwa [e] at this
  by_cases r : oA z n κ = 0
  · rw [fnd_no z y n κ z0 r]
    rw [r] at O
    exact FindR_no nm z y n cap w ad zb hN O
  · have n0 : ¬ n = 0 := fun q => by subst q; exact r (oA_0 z κ)
    obtain ⟨a, rfl⟩ : ∃ a, ad = some a := by
      cases ad with
      | none => exact absurd (h0 rfl) n0
      | some a => exact ⟨a, rfl⟩
    have d0 : w.cell? a = some (.int .u8 (κ 0)) := by have := hk a rfl 0 (by omega); rwa [Addr.add_zero'] at this
    rw [← fnd_p z y n κ z0 r]
    exact FindR_yes nm z y n cap w (oA z n κ) a (κ 0) _ zb (by simpa using r) (by omega) d0 rfl hN O
theorem FindP_any (nm : ByteArray) (z y : Int) (hz : z = 0 ∨ 1 ≤ z ∧ z ≤ 36 ∨ 65 ≤ z ∧ z ≤ 83) (ad : Option Addr) (n cap : Nat) (κ : Nat → Int) (w : World) (hP : Pow w) (hw : KW w) (hm : MxL w) (ht : Asc w) (hk : 0 < n → ∃ g, ad = some ⟨g, 0, none⟩ ∧ KsAt w ⟨g, 0, none⟩ n κ) (hcap : n ≤ cap) (hr : ∀ i, 0 ≤ κ i ∧ κ i < 256)
    (hN : ∀ w, KW w → MxL w → Calls Tryz.prog 10 #[.string nm] w fun e w' => e = .returned (.tuple #[.int .i64 z, .int .u8 y]) ∧ Below w.heap.size w w') :
    Calls Tryz.prog 5 #[.string nm, .slice ad n cap] w fun e w' => e = .returned (fndV z y n κ) ∧ Below w.heap.size w w' := by
  by_cases z0 : z = 0
  · subst z0
    have : fndV 0 y n κ = .tuple #[.int .i64 0, .int .u8 0, .int .i64 90] := by unfold fndV; rw [if_pos rfl]
    rw [this]
    exact FindP_0 nm y ad n cap w hN hw hm
  have zb : (z == 0) = false := by simpa using z0
  have hz' : 1 ≤ z ∧ z ≤ 36 ∨ 65 ≤ z ∧ z ≤ 83 := by omega
  by_cases n0 : n = 0
  · subst n0
    rw [fnd_no z y 0 κ z0 (oA_0 z κ)]
    refine FindP_no nm z y ad 0 cap w (fuA z) zb hN hw hm (fun w hk => numbered_any z w hk) (fun W hb => ?_)
    exact outcome_no _ _ _ _ _ _ _ 0 cap _ _ W (pm_A z).fld (ht.below hb) (ct_0 _ _)
  obtain ⟨g, rfl, hk'⟩ := hk (by omega)
  have O : ∀ W, Below w.heap.size w W → Calls Tryz.prog 12 #[FV (fuA z), .slice (some ⟨g, 0, none⟩) n cap] W fun e w' => e = .returned (.int .u8 (oA z n κ)) ∧ Below W.heap.size W w' := fun W hb => outcome_A z hz' g n cap κ W (ht.below hb) (pow_below hP hb) (hk'.below hb) hcap hr
  by_cases r : oA z n κ = 0
  · rw [fnd_no z y n κ z0 r]
    rw [r] at O
    exact FindP_no nm z y _ n cap w (fuA z) zb hN hw hm (fun w hk => numbered_any z w hk) O
  · rw [← fnd_p z y n κ z0 r]
    exact FindP_yes nm z y n cap (oA z n κ) w (fuA z) g (κ 0) _ zb (by simpa using r) (by omega) (hk' 0 (by omega)) rfl hN hw hm (fun w hk => numbered_any z w hk) O
end Go.Proofs.YtpaibmganlaaeaaGreatDoor
namespace Go.Proofs.YtpaibmganlaaeaaGreatDoor
set_option linter.unusedVariables false
open Go.RowKit
theorem fnd_form (z y : Int) (n : Nat) (κ : Nat → Int) : ∃ A B C, fndV z y n κ = .tuple #[.int .i64 A, .int .u8 B, .int .i64 C] := by
  unfold fndV
  repeat' split
  all_goals exact ⟨_, _, _, rfl⟩
section
variable (nm : ByteArray) (n cap : Nat) (w : World)
end
end Go.Proofs.YtpaibmganlaaeaaGreatDoor
namespace Go.Proofs.YtpaibmganlaaeaaGreatDoor
set_option linter.unusedVariables false
open Go.RowKit Go.ChangeShapes Go.WideShapes Go.ChangeAt Go.Deep
theorem gKw : Tryz.prog.globalNamed "relay/value.words" = some 0 := by kernel_rfl
theorem tKw : (Tryz.prog.globals[0]?).map (·.type) = some 65 := by kernel_rfl
theorem cellsS : Tryz.prog.cellsOf 9 = 1 := by kernel_rfl
section
variable {H : Type} {enc : TypeId × Value → H} {w : World} {base : Nat} {sp : Nat → Bool} {held : Bool} {fuel : Nat} {cs : List Value} {x : DataW H × List MemPlace}
theorem cell_str {l : List UInt8} (h : DataW.trod enc Tryz.prog w base sp held fuel 9 cs = some x) (hx : x.1 = .lit (.string l)) : cs = [.string ⟨l.toArray⟩] := by
  obtain ⟨s, rfl, rfl, _⟩ := DataW.trod_string Tryz.underlying9 h
  simp only [DataW.lit.injEq, Lit.string.injEq] at hx
  subst hx
  rfl
end
set_option maxRecDepth 100000 in
theorem kw_of {W : World} (h : laidMet Tryz.prog [("relay/value.words", Rows.laid_relay_value_words)] W) : KW W := by
  obtain ⟨ps, ⟨g', t', cs, fuel, p, q, hg', ht', hvar, hd, _, _⟩, _⟩ := h
  obtain rfl := Option.some.inj (gKw.symm.trans hg')
  obtain rfl := Option.some.inj (tKw.symm.trans ht')
  obtain ⟨xs, m, _, hx, hl, hlen, hf⟩ := DataW.trod_array Tryz.underlying65 hd
  rw [cellsS] at hf
  have hx1 : xs.map (·.1) = kwL.map (fun b => .lit (.string b.data.toList)) := by
    have := congrArg Prod.fst hx
    simp only [Rows.laid_relay_value_words, DataW.agg.injEq] at this
    exact this.symm
  have cl : ∀ i, i < 20 → W.cell? ⟨0, i, none⟩ = some (.string (kw i)) := by
    intro i hi
    have hxi : (xs.map (·.1))[i]? = some (.lit (.string (kw i).data.toList)) := by
      rw [hx1, List.getElem?_map]
      have hli : i < kwL.length := hi
      have : kwL[i]? = some (kw i) := by
        unfold kw
        rw [List.getD_eq_getElem?_getD, List.getElem?_eq_getElem hli]; rfl
      rw [this]; rfl
    simp only [List.getElem?_map, Option.map_eq_some_iff] at hxi
    obtain ⟨y, hy, hy1⟩ := hxi
    have d := cell_str ((hf i hi).trans hy) hy1
    have e := World.var?_cell gKw hvar i
    rw [e]
    have : ((cs.toList.drop (i * 1)).take 1)[0]? = some (.string (kw i)) := by rw [d]; rfl
    rw [List.getElem?_take, if_pos (by omega), List.getElem?_drop] at this
    simpa using this
  exact ⟨block_lt_of_cell (cl 0 (by omega)), cl⟩
end Go.Proofs.YtpaibmganlaaeaaGreatDoor
namespace Go.Proofs.YtpaibmganlaaeaaGreatDoor
set_option linter.unusedVariables false
open Go.RowKit Go.ChangeShapes Go.WideShapes Go.ChangeAt Go.Joins Go.Deep
set_option maxRecDepth 100000 in
theorem open_kinds {H : Type} {enc : TypeId × Value → H} {w : World} {base b0 : Nat} {spare : Nat → Bool} {held : Bool} {r : Reach} {v : Value} {d : DataW H} {p : List MemPlace}
    (hv : Value.okWide Tryz.prog w r b0 23 v) (h : DataW.Trod enc Tryz.prog w base spare held 23 v d p) :
    ∃ ad n cap κ, v = .slice ad n cap ∧ (ad = none → n = 0 ∧ cap = 0) ∧ (∀ a, ad = some a → KsAt w a n κ) ∧ n ≤ cap ∧ (n = 0 ∨ ∃ el sp, d = .slice el sp ∧ el.length = n) ∧ (∀ i, i < n → 0 ≤ κ i ∧ κ i < 256) := by
  obtain ⟨ad, n, cap, rfl⟩ := okWide_slice Tryz.underlying23 hv
  obtain ⟨fuel, hf⟩ := h
  rcases open_slice1 Tryz.underlying23 (show Tryz.prog.cellsOf 24 = 1 by kernel_rfl) hf with ⟨e, _⟩ | ⟨a, len, c, m, k, Vf, D, Pl, e, hb, hl, hm, hmm, hx, hh⟩
  · simp [Value.cells] at e
    obtain ⟨rfl, rfl, rfl⟩ := e
    exact ⟨none, 0, 0, fun _ => 0, rfl, fun _ => ⟨rfl, rfl⟩, fun a e => by simp at e, Nat.le_refl _, .inl rfl, fun i hi => by omega⟩
  · simp [Value.cells] at e
    obtain ⟨rfl, rfl, rfl⟩ := e
    have hlm : n ≤ m := by rw [hmm]; split <;> omega
    obtain ⟨f, hf⟩ := choose_lt (α := Int) (n := n) (p := fun i t => w.cell? (a.add i) = some (.int .u8 t) ∧ (0 ≤ t ∧ t < 256)) (fun i hi => by
      obtain ⟨h1, h2⟩ := hh i (by omega)
      obtain ⟨b, hb, hr⟩ := DataW.trod_int Tryz.underlying24 h2
      simp at hb
      refine ⟨b, by rw [h1, hb], ?_⟩
      have q := bounds_u8 hr.2
      omega)
    refine ⟨some a, n, cap, f, rfl, fun e => (by simp at e), ?_, by omega, .inr ⟨_, _, (Prod.mk.inj hx).1, by simp⟩, fun i hi => (hf i hi).2⟩
    intro a' e i hi
    simp at e
    subst e
    exact (hf i hi).1
end Go.Proofs.YtpaibmganlaaeaaGreatDoor
