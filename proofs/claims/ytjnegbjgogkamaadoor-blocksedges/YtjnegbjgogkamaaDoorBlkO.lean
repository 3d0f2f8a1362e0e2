/- What the timers' numbers are from step to step, held against what a statement keeps of them; no statement of the seat is proved here. -/
import Derived.Test.YtjnegbjgogkamaaDoorBlkX
namespace Go.Proofs.YtjnegbjgogkamaaDoor
set_option linter.unusedVariables false
open Go.RowKit
theorem clN_in {now : Int} (h : 0 ≤ now ∧ now ≤ 4611686018427387904) : clN now = now := by unfold clN; rw [if_neg (by omega), if_neg (by omega)]
theorem spn_in {pt : Int} (h : 0 ≤ pt) : spn pt = pt := by unfold spn; rw [if_neg (by omega)]
theorem sinc_in {now s : Int} (h : 0 ≤ s) (g : s ≤ now) : sinc now s = now - s := by unfold sinc; rw [if_pos ⟨h, g⟩]
/-- When a pulse began, behind a tick. -/
def bgN (bg now pt : Int) (p was : Bool) : Int :=
  if (if 0 ≤ bg ∧ pt ≤ now - bg then -1 else bg) < 0 ∧ p = true ∧ was = false ∧ 0 < pt then now else (if 0 ≤ bg ∧ pt ≤ now - bg then -1 else bg)
theorem md_ex (x m : Int) (h0 : 0 < m) (h1 : m ≤ 1125899906842624) : ∃ q, wrap64 ((IntKind.u64.wrap x).tmod m) = q ∧ 0 ≤ q ∧ q < m := by
  refine ⟨_, rfl, ?_⟩
  have e : (IntKind.u64.wrap x).tmod m = (IntKind.u64.wrap x) % m := by
    rw [IntKind.wrap_u64]; exact Int.tmod_eq_emod_of_nonneg (by omega)
  rw [e]
  have a := Int.emod_nonneg (IntKind.u64.wrap x) (show m ≠ 0 by omega)
  have b := Int.emod_lt_of_pos (IntKind.u64.wrap x) h0
  unfold wrap64; omega
theorem tN0 : tN false = 0 := rfl
theorem tN1 : tN true = 1 := rfl
theorem nxt8 (now a b c d e f : Int) : nxt 8 now [a, b, c, d, e, f] = (if pQ now b c f = 0 ∧ a = 1 ∧ e = 0 then [a, b, tN (decide (0 < b)), 0, a, now]
       else if pQ now b c f = 0 ∧ a = 0 then [a, b, pQ now b c f, 0, a, f] else [a, b, pQ now b c f, pE now b c d f, a, f]) := rfl
theorem dec_t {p : Prop} [Decidable p] (h : p) : decide p = true := by simp [h]
theorem dec_f {p : Prop} [Decidable p] (h : ¬ p) : decide p = false := by simp [h]
/-- Where no pulse goes on. -/
theorem pn0 (now pt c d s b1 : Int) (p was : Bool) (hq : pQ now pt c s = 0) (h1 : b1 < 0) (h2 : -1 ≤ b1) (hn : 0 ≤ now) :
    ∃ d' s', nxt 8 now [tN p, pt, c, d, tN was, s] = [tN p, pt, tN (decide (0 ≤ if b1 < 0 ∧ p = true ∧ was = false ∧ 0 < pt then now else b1)), d', tN p, s'] ∧ (0 ≤ (if b1 < 0 ∧ p = true ∧ was = false ∧ 0 < pt then now else b1) → s' = if b1 < 0 ∧ p = true ∧ was = false ∧ 0 < pt then now else b1) ∧ -1 ≤ (if b1 < 0 ∧ p = true ∧ was = false ∧ 0 < pt then now else b1) ∧ (if b1 < 0 ∧ p = true ∧ was = false ∧ 0 < pt then now else b1) ≤ now := by
  rw [nxt8, hq]
  cases p
  · rw [if_neg (show ¬ ((0 : Int) = 0 ∧ tN false = 1 ∧ tN was = 0) from fun h => absurd h.2.1 (by decide)), if_pos (show (0 : Int) = 0 ∧ tN false = 0 from ⟨rfl, rfl⟩), if_neg (fun h => by cases h.2.1)]
    exact ⟨_, _, by rw [dec_f (by omega)]; rfl, fun h => by omega, by omega, by omega⟩
  · cases was
    · rw [if_pos (show (0 : Int) = 0 ∧ tN true = 1 ∧ tN false = 0 from ⟨rfl, rfl, rfl⟩)]
      by_cases c3 : 0 < pt
      · rw [if_pos ⟨h1, rfl, rfl, c3⟩]
        exact ⟨_, _, by rw [dec_t c3, dec_t hn], fun _ => rfl, by omega, by omega⟩
      · rw [if_neg (fun h => c3 h.2.2.2)]
        exact ⟨_, _, by rw [dec_f c3, dec_f (by omega)], fun h => by omega, by omega, by omega⟩
    · rw [if_neg (show ¬ ((0 : Int) = 0 ∧ tN true = 1 ∧ tN true = 0) from fun h => absurd h.2.2 (by decide)), if_neg (show ¬ ((0 : Int) = 0 ∧ tN true = 0) from fun h => absurd h.2 (by decide)), if_neg (fun h => by cases h.2.2.1)]
      exact ⟨_, _, by rw [dec_f (by omega)]; rfl, fun h => by omega, by omega, by omega⟩
/-- A pulse's numbers, from tick to tick. -/
theorem pulse_next (bg old now pt d s : Int) (p was : Bool) (hpt : 0 ≤ pt) (hb : -1 ≤ bg) (ho : bg ≤ old) (hn : old ≤ now) (hn0 : 0 ≤ now) (hs : 0 ≤ bg → s = bg) :
    ∃ d' s', nxt 8 now [tN p, pt, tN (decide (0 ≤ bg)), d, tN was, s] = [tN p, pt, tN (decide (0 ≤ bgN bg now pt p was)), d', tN p, s'] ∧ (0 ≤ bgN bg now pt p was → s' = bgN bg now pt p was) ∧ -1 ≤ bgN bg now pt p was ∧ bgN bg now pt p was ≤ now := by
  by_cases c1 : 0 ≤ bg
  · have es := hs c1
    by_cases c2 : pt ≤ now - bg
    · have q : pQ now pt (tN (decide (0 ≤ bg))) s = 0 := by
        rw [es, dec_t c1]; unfold pQ; rw [if_pos (show tN true = 1 from rfl), spn_in hpt, sinc_in c1 (by omega), dec_t c2]; rfl
      have i1 : (if 0 ≤ bg ∧ pt ≤ now - bg then (-1 : Int) else bg) = -1 := if_pos ⟨c1, c2⟩
      unfold bgN; rw [i1]
      exact pn0 now pt _ d s (-1) p was q (by omega) (by omega) hn0
    · have q : pQ now pt (tN (decide (0 ≤ bg))) s = 1 := by
        rw [es, dec_t c1]; unfold pQ; rw [if_pos (show tN true = 1 from rfl), spn_in hpt, sinc_in c1 (by omega), dec_f c2]; rfl
      have i1 : (if 0 ≤ bg ∧ pt ≤ now - bg then (-1 : Int) else bg) = bg := if_neg (fun h => c2 h.2)
      unfold bgN; rw [i1, if_neg (fun h => by omega), nxt8, q, if_neg (fun h => by omega), if_neg (fun h => by omega)]
      exact ⟨_, _, by rw [dec_t c1]; rfl, fun _ => es, by omega, by omega⟩
  · have q : pQ now pt (tN (decide (0 ≤ bg))) s = 0 := by rw [dec_f c1]; unfold pQ; rw [if_neg (by decide)]; rfl
    have i1 : (if 0 ≤ bg ∧ pt ≤ now - bg then (-1 : Int) else bg) = bg := if_neg (fun h => c1 h.1)
    unfold bgN; rw [i1]
    exact pn0 now pt _ d s bg p was q (by omega) hb hn0
theorem els_p {now s pt : Int} (h : 0 ≤ now) (hp : 0 ≤ pt) : 0 ≤ els now s pt ∧ els now s pt ≤ pt := by
  have : 0 ≤ sinc now s := by unfold sinc; split <;> omega
  unfold els; rw [spn_in hp]; split <;> omega
/-- A timer's elapsed time is from 0 to its span. -/
theorem el_next (K now x pt c d e s : Int) (hK : K = 8 ∨ K = 9 ∨ K = 10) (hn : 0 ≤ now) (hp : 0 ≤ pt) (hd : 0 ≤ d ∧ d ≤ pt) :
    ∃ c' d' s', nxt K now [x, pt, c, d, e, s] = [x, pt, c', d', x, s'] ∧ 0 ≤ d' ∧ d' ≤ pt := by
  have l := fun t => els_p (now := now) (s := t) (pt := pt) hn hp
  have z : (0 : Int) ≤ 0 ∧ (0 : Int) ≤ pt := by omega
  rcases hK with rfl | rfl | rfl
  · rw [nxt8]
    have pe : 0 ≤ pE now pt c d s ∧ pE now pt c d s ≤ pt := by
      unfold pE; split
      · exact l s
      · exact hd
    split
    · exact ⟨_, _, _, rfl, z⟩
    split
    · exact ⟨_, _, _, rfl, z⟩
    · exact ⟨_, _, _, rfl, pe⟩
  · have e9 : nxt 9 now [x, pt, c, d, e, s] = (if x = 0 then [x, pt, 0, 0, x, s] else if e = 0 then [x, pt, tN (decide (spn pt ≤ sinc now now)), els now now pt, x, now] else [x, pt, tN (decide (spn pt ≤ sinc now s)), els now s pt, x, s]) := rfl
    rw [e9]
    split
    · exact ⟨_, _, _, rfl, z⟩
    split
    · exact ⟨_, _, _, rfl, l now⟩
    · exact ⟨_, _, _, rfl, l s⟩
  · have e10 : nxt 10 now [x, pt, c, d, e, s] = (if x = 1 then [x, pt, 1, 0, x, s]
       else if e = 1 then (if c = 1 then [x, pt, tN (!decide (spn pt ≤ sinc now now)), els now now pt, x, now] else [x, pt, c, d, x, now])
       else (if c = 1 then [x, pt, tN (!decide (spn pt ≤ sinc now s)), els now s pt, x, s] else [x, pt, c, d, x, s])) := rfl
    rw [e10]
    split
    · exact ⟨_, _, _, rfl, z⟩
    split
    · split
      · exact ⟨_, _, _, rfl, l now⟩
      · exact ⟨_, _, _, rfl, hd⟩
    · split
      · exact ⟨_, _, _, rfl, l s⟩
      · exact ⟨_, _, _, rfl, hd⟩
theorem nxt9 (now a b c d e f : Int) : nxt 9 now [a, b, c, d, e, f] = (if a = 0 then [a, b, 0, 0, a, f] else if e = 0 then [a, b, tN (decide (spn b ≤ sinc now now)), els now now b, a, now] else [a, b, tN (decide (spn b ≤ sinc now f)), els now f b, a, f]) := rfl
theorem nxt10 (now a b c d e f : Int) : nxt 10 now [a, b, c, d, e, f] = (if a = 1 then [a, b, 1, 0, a, f]
       else if e = 1 then (if c = 1 then [a, b, tN (!decide (spn b ≤ sinc now now)), els now now b, a, now] else [a, b, c, d, a, now])
       else (if c = 1 then [a, b, tN (!decide (spn b ≤ sinc now f)), els now f b, a, f] else [a, b, c, d, a, f])) := rfl
/-- When an input rose, behind a tick; when it fell. -/
def roN (ro now : Int) (p was : Bool) : Int := if p = true then (if was = true then ro else now) else -1
def feN (fe now : Int) (p was : Bool) : Int := if p = true then -1 else (if was = true then now else fe)
/-- Is the off-delay's output TRUE, behind a tick? -/
def liN (li : Bool) (fe now pt : Int) (p was : Bool) : Bool := if p = true then true else (li && !decide (pt ≤ now - feN fe now p was))
theorem ton_next (now pt q d s ro : Int) (p was : Bool) (hp : 0 ≤ pt) (hn : 0 ≤ now) (hr : was = true → 0 ≤ ro ∧ ro ≤ now ∧ s = ro) :
    ∃ d' s', nxt 9 now [tN p, pt, q, d, tN was, s] = [tN p, pt, tN (p && decide (pt ≤ now - roN ro now p was)), d', tN p, s'] ∧ (p = true → 0 ≤ roN ro now p was ∧ roN ro now p was ≤ now ∧ s' = roN ro now p was) := by
  rw [nxt9]
  cases p
  · rw [if_pos (show tN false = 0 from rfl)]
    exact ⟨_, _, rfl, fun h => by cases h⟩
  · rw [if_neg (show ¬ tN true = 0 by decide)]
    cases was
    · rw [if_pos (show tN false = 0 from rfl), spn_in hp, sinc_in hn (Int.le_refl _)]
      exact ⟨_, _, rfl, fun _ => ⟨hn, Int.le_refl _, rfl⟩⟩
    · obtain ⟨h1, h2, h3⟩ := hr rfl
      rw [if_neg (show ¬ tN true = 0 by decide), h3, spn_in hp, sinc_in h1 h2]
      exact ⟨_, _, rfl, fun _ => ⟨h1, h2, rfl⟩⟩
theorem tof_next (now pt d s fe : Int) (li p was : Bool) (hp : 0 ≤ pt) (hn : 0 ≤ now) (hl : was = true → li = true) (hf : was = false → li = true → 0 ≤ fe ∧ fe ≤ now ∧ s = fe) :
    ∃ d' s', nxt 10 now [tN p, pt, tN li, d, tN was, s] = [tN p, pt, tN (liN li fe now pt p was), d', tN p, s'] ∧ (p = false → liN li fe now pt p was = true → s' = feN fe now p was) := by
  rw [nxt10]
  cases p
  · rw [if_neg (show ¬ tN false = 1 by decide)]
    cases was
    · rw [if_neg (show ¬ tN false = 1 by decide)]
      cases li
      · rw [if_neg (show ¬ tN false = 1 by decide)]
        exact ⟨_, _, rfl, fun _ h => by cases h⟩
      · obtain ⟨h1, h2, h3⟩ := hf rfl rfl
        rw [if_pos (show tN true = 1 from rfl), h3, spn_in hp, sinc_in h1 h2]
        exact ⟨_, _, rfl, fun _ _ => rfl⟩
    · obtain rfl := hl rfl
      rw [if_pos (show tN true = 1 from rfl), if_pos (show tN true = 1 from rfl), spn_in hp, sinc_in hn (Int.le_refl _)]
      exact ⟨_, _, rfl, fun _ _ => rfl⟩
  · rw [if_pos (show tN true = 1 from rfl)]
    exact ⟨_, _, rfl, fun h => by cases h⟩
end Go.Proofs.YtjnegbjgogkamaaDoor
