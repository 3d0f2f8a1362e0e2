/- BlocksLives is proved: for every number and every list of calls the statement's function returns true, and the arguments read as they did; no condition but the table that the card ties. -/
import Derived.Test.YtjnegbjgogkamaaDoorRfL
import Derived.Test.YtjnegbjgogkamaaDoorBlkK
import Derived.Deep.DeepCutAuto
import Derived.Test.YtjnegbjgogkamaaDoorBlkX
import Derived.Test.YtjnegbjgogkamaaDoorBlkY
import Derived.Deep.QuietTactic
import Derived.Test.YtjnegbjgogkamaaDoorRfM1
import Derived.Test.YtjnegbjgogkamaaDoorRfM2
import Derived.Test.YtjnegbjgogkamaaDoorRfM3
import Derived.Test.YtjnegbjgogkamaaDoorRfM4
import Derived.Test.YtjnegbjgogkamaaDoorRfM5
import Derived.Test.YtjnegbjgogkamaaDoorRfM6
import Derived.Test.YtjnegbjgogkamaaDoorRfM7
import Derived.Test.YtjnegbjgogkamaaDoorRfX8
import Derived.Test.YtjnegbjgogkamaaDoorRfX9
import Derived.Test.YtjnegbjgogkamaaDoorRfX10
import Derived.Test.YtjnegbjgogkamaaDoorMayV
import Derived.ProofKit
import Derived.OpenShut
import Derived.Lib.SmallJoins
import Derived.SizedLaws
import Derived.Deep.Slices
import Derived.Test.YtjnegbjgogkamaaDoorBlkKF
import Derived.Test.YtjnegbjgogkamaaDoorBlkJ
import Derived.LaidMore
import Derived.LaidSub
import Derived.Lay
import Derived.Lib.LaidTab
import Derived.MakeChecks
import Derived.Test.YtjnegbjgogkamaaDoorRows
import Derived.Deep.RegionHeld3
import Derived.Deep.Light
import Derived.Test.YtjnegbjgogkamaaDoorTie
import Derived.Test.YtjnegbjgogkamaaDoorCards
import Derived.ChangeOld
import Derived.ChangeMaps5
import Derived.SevenTiedAt
import Derived.Stop.Joined
namespace Go.Proofs.YtjnegbjgogkamaaDoor
set_option linter.unusedVariables false
open Go.RowKit
theorem IrAt.same {w w' : World} {b : Nat} (h : IrAt w b) (e : w'.heap[b]? = w.heap[b]?) : IrAt w' b := by
  have q : ∀ o, w'.cell? ⟨b, o, none⟩ = w.cell? ⟨b, o, none⟩ := fun o => World.cell?_of_block (w := w) (a := ⟨b, o, none⟩) e
  exact ⟨(q 0).trans h.c0, (q 1).trans h.c1, (q 2).trans h.c2⟩
theorem IrAt.lt {w : World} {b : Nat} (h : IrAt w b) : b < w.heap.size := block_lt_of_cell h.c0
theorem IrAt.below {w w' : World} {b : Nat} (h : IrAt w b) (hb : Below w.heap.size w w') : IrAt w' b := h.same (hb.block b h.lt)
/-- How a block's cells begin, by its variables. -/
def IniOk (w : World) (n : Nat) (vf : VrF) (u : Nat → Vl) : Prop := ∀ i, i < n → (vf.ini i = .slice none 0 0 ∧ u i = ⟨vf.kd i, 0, ⟨#[]⟩⟩) ∨ (∃ b, vf.ini i = .slice (some ⟨b, 0, none⟩) 1 1 ∧ IrAt w b ∧ u i = ⟨1, 1, ⟨#[]⟩⟩)
set_option maxRecDepth 20000 in
set_option maxHeartbeats 4000000 in
theorem StartR_gen (K : Int) (n : Nat) (u : Nat → Vl) (w : World) (hn : 0 < n) (hn2 : n ≤ 100) (hV : Calls Tryd.prog 14 #[.int .i64 K] w fun e w' => ∃ g c, e = .returned (.slice (some ⟨g, 0, none⟩) n c) ∧ w.heap.size ≤ g ∧ (∃ vf, VrAt w' g n vf ∧ IniOk w' n vf u) ∧ Below w.heap.size w w') :
    Calls Tryd.prog 17 #[.int .i64 K] w fun e w' => ∃ g c, e = .returned (.slice (some ⟨g, 0, none⟩) n c) ∧ w.heap.size ≤ g ∧ Row3 w' g n u ∧ Below w.heap.size w w' := by
  have I : Hid (∃ i, Tryd.prog.info? 34 = some i ∧ i.zero = some (.agg #[.int .u8 0, .int .u64 0, .string ⟨#[]⟩]) ∧ i.size = 3 ∧ i.bytes = 32) := by
    obtain ⟨i, hi, hz⟩ := Option.map_eq_some_iff.1 (show (Tryd.prog.info? 34).map (fun i => (i.zero, i.size, i.bytes)) = some (some (.agg #[.int .u8 0, .int .u64 0, .string ⟨#[]⟩]), 3, 32) by kernel_rfl)
    simp only [Prod.mk.injEq] at hz
    exact ⟨i, hi, hz.1, hz.2.1, hz.2.2⟩
  go_enter Tryd.func17, Tryd.ntmps17
  go_wp2_with fail
  refine hV.mono ?_
  rintro e w2 ⟨g, c, rfl, hg, ⟨vf, hr, hi⟩, hb⟩
  have HB2 : Hid (Below w.heap.size w w2) := hb
  have HR : Hid (VrAt w2 g n vf) := hr
  have HI : Hid (IniOk w2 n vf u) := hi
  have zg : g < w2.heap.size := block_lt_of_cell (hr.cells 0 hn).1
  clear hb hr hi hV
  go_wp2_with fail
  go_loopw [4, 5] (fun v i wr => ∃ k : Nat, k ≤ n ∧ i = .int .i64 k ∧ wr.ownsRow w2.heap.size 34 3 v k (flV k u) ∧ Below w2.heap.size w2 wr) (fun _ i _ => n - (intOf i).toNat)
  case atStart => exact ⟨0, Nat.zero_le _, rfl, ⟨rfl, .inl ⟨rfl, rfl⟩⟩, Below.refl _ _⟩
  case round =>
    obtain ⟨k, hk, rfl, hown, hb⟩ := hrel
    have HB : Hid (Below w2.heap.size w2 wr) := hb
    have HO : Hid (wr.ownsRow w2.heap.size 34 3 _ k (flV k u)) := hown
    by_cases hlt : k < n
    · obtain ⟨e0, e1, e2, e3, e4, e5, e6, e7, e8, e9, e10, e11, e12, e13, e14, e15⟩ := (HR.out.below hb).cells k hlt
      have zr := hb.size
      have hlt' : (k : Int) < n := by omega
      have zgr : g < wr.heap.size := by omega
      clear e0 e1 e2 e4 e5 e6 e7 e8 e9 e10 e11 e13 e14 e15
      rcases HI.out k hlt with ⟨i1, i2⟩ | ⟨b, i1, i3, i2⟩
      · rw [i1] at e12
        have U : Hid (u k = ⟨vf.kd k, 0, ⟨#[]⟩⟩) := i2
        clear hown hb i1 i2
        go_wp2_with (at_builtin; obtain ⟨i, hi, hz, hs, hy⟩ := I.out; refine wpList_append_own _ rfl _ _ 30 rfl w2.heap.size 34 i _ 3 32 Tryd.underlying30 hi hz hs hy rfl (by decide) _ k _ rfl (ownsRow_below (ownsRow_below HO.out ((Below.refl _ _).alloc (Nat.le_refl _) _)) ((Below.refl _ _).alloc (Nat.le_refl _) _)) ⟨wr.heap.size + 1, 0, none⟩ 1 1 [.int .u8 (vf.kd k), .int .u64 0, .string ⟨#[]⟩] rfl rfl (last_src2 wr _ _ _) (by intro u hu; simp at hu; rcases hu with rfl | rfl | rfl <;> rfl) (by simp [maxLen]; omega) (by omega) (by simp; omega) ?_; intro v' w' k1 k2 k3; have H1 : Hid (w'.ownsRow w2.heap.size 34 3 v' (k + 1) (flV (k + 1) u)) := (by rw [flV_succ, U.out]; exact k1); have H2 : Hid _ := k2; clear k1 k2 k3 hi hz hs hy)
        exact ⟨⟨k + 1, by omega, by go_num, H1.out, ((HB.out.alloc zr _).alloc (by simp; omega) _).grown H2.out (by simp; omega) (fun g e => own_blk HO.out e)⟩, by simp [intOf]; omega⟩
      · rw [i1] at e12
        obtain ⟨j0, j1, j2⟩ := i3.below hb
        have zb : b < wr.heap.size := block_lt_of_cell j0
        have nb1 : ¬ b = wr.heap.size := by omega
        have nb2 : ¬ wr.heap.size = b := by omega
        have U : Hid (u k = ⟨1, 1, ⟨#[]⟩⟩) := i2
        clear hown hb i1 i2 i3
        go_wp2_with (at_builtin; obtain ⟨i, hi, hz, hs, hy⟩ := I.out; refine wpList_append_own _ rfl _ _ 30 rfl w2.heap.size 34 i _ 3 32 Tryd.underlying30 hi hz hs hy rfl (by decide) _ k _ rfl (ownsRow_below (ownsRow_below HO.out ((Below.refl _ _).alloc (Nat.le_refl _) _)) ((Below.refl _ _).alloc (Nat.le_refl _) _)) ⟨wr.heap.size + 1, 0, none⟩ 1 1 [.int .u8 1, .int .u64 1, .string ⟨#[]⟩] rfl rfl (last_src2 wr _ _ _) (by intro u hu; simp at hu; rcases hu with rfl | rfl | rfl <;> rfl) (by simp [maxLen]; omega) (by omega) (by simp; omega) ?_; intro v' w' k1 k2 k3; have H1 : Hid (w'.ownsRow w2.heap.size 34 3 v' (k + 1) (flV (k + 1) u)) := (by rw [flV_succ, U.out]; exact k1); have H2 : Hid _ := k2; clear k1 k2 k3 hi hz hs hy)
        exact ⟨⟨k + 1, by omega, by go_num, H1.out, ((HB.out.alloc zr _).alloc (by simp; omega) _).grown H2.out (by simp; omega) (fun g e => own_blk HO.out e)⟩, by simp [intOf]; omega⟩
    · have ek : k = n := by omega
      subst ek
      clear hown hb
      go_wp2
      obtain ⟨g', c', rfl, hg', hr'⟩ := own_row HO.out hn
      go_ret
      exact ⟨g', c', rfl, Nat.le_trans HB2.out.size hg', hr', HB2.out.trans (HB.out.mono HB2.out.size)⟩
end Go.Proofs.YtjnegbjgogkamaaDoor
namespace Go.Proofs.YtjnegbjgogkamaaDoor
set_option linter.unusedVariables false
open Go.RowKit
/-- How many of the first variables are inputs. -/
def insN (cl : Nat → Int) : Nat → Nat
  | 0 => 0
  | k + 1 => insN cl k + (if cl k = 1 then 1 else 0)
theorem insN_le (cl : Nat → Int) (k : Nat) : insN cl k ≤ k := by
  induction k with
  | zero => exact Nat.le_refl _
  | succ k ih => unfold insN; split <;> omega
theorem var_info : (Tryd.prog.info? 59).map (·.size) = some 16 := by kernel_rfl
set_option maxRecDepth 20000 in
set_option maxHeartbeats 4000000 in
theorem ins_of (K : Int) (n : Nat) (cl : Nat → Int) (w : World) (hn2 : n ≤ 100) (hV : Calls Tryd.prog 14 #[.int .i64 K] w fun e w' => ∃ g c, e = .returned (.slice (some ⟨g, 0, none⟩) n c) ∧ w.heap.size ≤ g ∧ (∃ vf, VrAt w' g n vf ∧ vf.cl = cl ∧ ∀ i, i < n → ∃ x m l, vf.ini i = .slice x m l) ∧ Below w.heap.size w w') :
    Calls Tryd.prog 20 #[.int .i64 K] w fun e w' => e = .returned (.int .i64 (insN cl n)) ∧ Below w.heap.size w w' := by
  go_enter Tryd.func20, Tryd.ntmps20
  go_wp2_with fail
  refine hV.mono ?_
  rintro e w2 ⟨g, c, rfl, hg, ⟨vf, hr, hc, hs⟩, hb⟩
  have HB2 : Hid (Below w.heap.size w w2) := hb
  have HR : Hid (VrAt w2 g n vf) := hr
  have HC : Hid (vf.cl = cl) := hc
  have HS : Hid (∀ i, i < n → ∃ x m l, vf.ini i = .slice x m l) := hs
  clear hb hr hV hc hs
  go_wp2_with fail
  go_loopw [3, 9] (fun v i wr => ∃ k : Nat, k ≤ n ∧ i = .int .i64 k ∧ v = .int .i64 (insN cl k) ∧ Below w2.heap.size w2 wr) (fun _ i _ => n - (intOf i).toNat)
  case atStart => exact ⟨0, Nat.zero_le _, rfl, rfl, Below.refl _ _⟩
  case round =>
    obtain ⟨k, hk, rfl, rfl, hb⟩ := hrel
    have HB : Hid (Below w2.heap.size w2 wr) := hb
    have zr := hb.size
    by_cases hlt : k < n
    · have h1 := (HR.out.below hb).cells k hlt
      obtain ⟨x, m, l, i1⟩ := HS.out k hlt
      rw [i1, HC.out] at h1
      obtain ⟨e0, e1, e2, e3, e4, e5, e6, e7, e8, e9, e10, e11, e12, e13, e14, e15⟩ := h1
      have zg : g < wr.heap.size := block_lt_of_cell e0
      have hlt' : (k : Int) < n := by omega
      have hle := insN_le cl k
      clear hb i1
      by_cases c1 : cl k = 1
      · have N : Hid (insN cl (k + 1) = insN cl k + 1) := by show _ = _; rw [insN, if_pos c1]
        rw [c1] at e2
        go_wp2_with (refine wpList_store_row rfl 59 _ _ rfl wr.heap.size _ rfl rfl _ _ (heap_alloc_last wr _) var_info rfl (by kernel_rfl) ?_; rw [World.setRow_alloc_new])
        exact ⟨⟨k + 1, by omega, by go_num, by rw [N.out]; go_num, HB.out.alloc zr _⟩, by simp [intOf]; omega⟩
      · have N : Hid (insN cl (k + 1) = insN cl k) := by show _ = _; rw [insN, if_neg c1]; rfl
        have c2 : (cl k == 1) = false := by simpa using c1
        go_wp2_with (refine wpList_store_row rfl 59 _ _ rfl wr.heap.size _ rfl rfl _ _ (heap_alloc_last wr _) var_info rfl (by kernel_rfl) ?_; rw [World.setRow_alloc_new])
        exact ⟨⟨k + 1, by omega, by go_num, by rw [N.out], HB.out.alloc zr _⟩, by simp [intOf]; omega⟩
    · have ek : k = n := by omega
      subst ek
      clear hb
      go_wp2
      go_ret
      exact ⟨rfl, HB2.out.trans (HB.out.mono HB2.out.size)⟩
end Go.Proofs.YtjnegbjgogkamaaDoor
namespace Go.Proofs.YtjnegbjgogkamaaDoor
set_option linter.unusedVariables false
open Go.RowKit
/-- Cells behind the first inputs. -/
def putU (m : Nat) (inp u : Nat → Vl) (j i : Nat) : Vl := if i < j ∧ i < m ∧ (inp i).k = (u i).k then inp i else u i
theorem putU_other (m : Nat) (inp u : Nat → Vl) (k i : Nat) (h : ¬ i = k) : putU m inp u (k + 1) i = putU m inp u k i := by
  unfold putU
  by_cases c : i < k ∧ i < m ∧ (inp i).k = (u i).k
  · rw [if_pos c, if_pos ⟨by omega, c.2⟩]
  · rw [if_neg c, if_neg (fun g => c ⟨by omega, g.2⟩)]
theorem putU_at (m : Nat) (inp u : Nat → Vl) (k : Nat) : putU m inp u k k = u k := by
  unfold putU; rw [if_neg (by omega)]
theorem putU_no (m : Nat) (inp u : Nat → Vl) (k : Nat) (h : ¬ (k < m ∧ (inp k).k = (u k).k)) (i : Nat) : putU m inp u k i = putU m inp u (k + 1) i := by
  by_cases e : i = k
  · subst e; rw [putU_at]; unfold putU; rw [if_neg (fun g => h ⟨g.2.1, g.2.2⟩)]
  · rw [putU_other _ _ _ _ _ e]
theorem putU_yes (m : Nat) (inp u : Nat → Vl) (k : Nat) (h : k < m ∧ (inp k).k = (u k).k) (i : Nat) : (if i = k then inp k else putU m inp u k i) = putU m inp u (k + 1) i := by
  by_cases e : i = k
  · subst e; rw [if_pos rfl]; unfold putU; rw [if_pos ⟨by omega, h⟩]
  · rw [if_neg e, putU_other _ _ _ _ _ e]
theorem putU_ok {m n nI : Nat} {inp u : Nat → Vl} (h1 : ∀ i, i < nI → VlOk (inp i)) (h2 : ∀ i, i < n → VlOk (u i)) : ∀ i, i < n → VlOk (putU m inp u nI i) := by
  intro i hi
  unfold putU
  split
  · rename_i c; exact h1 i c.1
  · exact h2 i hi
theorem Row3.cell3 {w : World} {g n : Nat} {v : Nat → Vl} (h : Row3 w g n v) (i : Nat) (hi : i < n) : w.cell? ⟨g, i * 3, none⟩ = some (.int .u8 (v i).k) ∧ w.cell? ⟨g, i * 3 + 1, none⟩ = some (.int .u64 (v i).b) ∧ w.cell? ⟨g, i * 3 + 2, none⟩ = some (.string (v i).s) := by
  obtain ⟨A, h1, h2, h3⟩ := h
  obtain ⟨a, b, c⟩ := h3 i hi
  exact ⟨by simp only [World.cell?, h1]; exact a, by simp only [World.cell?, h1]; exact b, by simp only [World.cell?, h1]; exact c⟩
set_option maxRecDepth 20000 in
set_option maxHeartbeats 8000000 in
theorem put_of' (a : Addr) (n cap : Nat) (u : Nat → Vl) (ad : Option Addr) (nI cI : Nat) (inp : Nat → Vl) (m : Nat) (w : World) (hv : VsAt w a n u) (hn : 0 < n) (hn2 : n ≤ 100) (hm2 : m ≤ 100) (h0 : ad = none → nI = 0 ∧ cI = 0) (hi : ∀ b, ad = some b → VsAt w b nI inp) (hI : nI ≤ maxLen) :
    Calls Tryd.prog 19 #[.slice (some a) n cap, .slice ad nI cI, .int .i64 m] w fun e w' => ∃ g c, e = .returned (.slice (some ⟨g, 0, none⟩) n c) ∧ w.heap.size ≤ g ∧ Row3 w' g n (putU m inp u nI) ∧ Below w.heap.size w w' := by
  have HV : Hid (VsAt w a n u) := hv
  have H0 : Hid (ad = none → nI = 0 ∧ cI = 0) := h0
  have HI : Hid (∀ b, ad = some b → VsAt w b nI inp) := hi
  have hI' : nI ≤ 9223372036854775807 := by simp only [maxLen] at hI; omega
  clear hv h0 hi hI
  go_enter Tryd.func19, Tryd.ntmps19
  go_wp2_with fail
  refine (Clone_of a n cap u _ HV.out hn (by omega)).mono ?_
  rintro e w1 ⟨g, c, rfl, hg, hr, hb1⟩
  have B1 : Hid (Below w.heap.size w w1) := hb1
  have R1 : Hid (Row3 w1 g n u) := hr
  clear hr hb1
  go_wp2_with fail
  go_loopw [14] (fun i wr => ∃ k : Nat, k ≤ nI ∧ i = .int .i64 k ∧ Row3 wr g n (putU m inp u k) ∧ Below w.heap.size w wr) (fun i _ => nI - (intOf i).toNat)
  case atStart => exact ⟨0, Nat.zero_le _, rfl, R1.out.congr (fun i hi => by unfold putU; rw [if_neg (by omega)]), B1.out⟩
  case round =>
    obtain ⟨k, hk, rfl, hr, hb⟩ := hrel
    have HR : Hid (Row3 wr g n (putU m inp u k)) := hr
    have HB : Hid (Below w.heap.size w wr) := hb
    by_cases hlt : k < nI
    · obtain ⟨b, rfl⟩ : ∃ b, ad = some b := by
        cases ad with
        | none => have := (H0.out rfl).1; omega
        | some b => exact ⟨b, rfl⟩
      obtain ⟨d0, d1, d2⟩ := (HI.out b rfl).below hb k hlt
      have hlt' : (k : Int) < nI := by omega
      have zg : g < wr.heap.size := hr.lt
      have zn : ¬ g = wr.heap.size := by omega
      have zn2 : ¬ wr.heap.size = g := by omega
      by_cases hn3 : k < n
      · obtain ⟨c0, c1, c2⟩ := hr.cell3 k hn3
        rw [putU_at] at c0 c1 c2
        have fz := hr.free (k * 3)
        have fz1 := hr.free (k * 3 + 1)
        have fz2 := hr.free (k * 3 + 2)
        have HP : Hid (k < m ∧ (inp k).k = (u k).k → ∀ i, (if i = k then inp k else putU m inp u k i) = putU m inp u (k + 1) i) := putU_yes m inp u k
        have HQ : Hid (¬ (k < m ∧ (inp k).k = (u k).k) → ∀ i, putU m inp u k i = putU m inp u (k + 1) i) := putU_no m inp u k
        clear hr hb
        generalize hvk : inp k = v3 at *
        generalize huk : u k = u3 at *
        obtain ⟨vk, vb, vs⟩ := v3
        obtain ⟨uk, ub, us⟩ := u3
        have hn3' : (k : Int) < n := by omega
        clear hvk huk
        by_cases hm : k < m
        · have hm' : (k : Int) < m := by omega
          by_cases he : vk = uk
          · subst he
            have PP : Hid (∀ i, (if i = k then ⟨vk, vb, vs⟩ else putU m inp u k i) = putU m inp u (k + 1) i) := HP.out ⟨hm, rfl⟩
            clear HP HQ
            go_wp2_with fail
            refine wp_region_sub2 (by kernel_rfl) (by kernel_rfl) ?_
            intro cx
            repeat (first | go_big_quiet_skip | (go_big_quiet_want; go_big_quiet_op; first | go_big_quiet_on | (refine ⟨_, fun _ => rfl, ?_⟩; go_big_quiet_on)))
            refine wpQuiet_nil ?_
            rintro _ ⟨y, rfl⟩
            have Y : Hid (Below wr.heap.size wr y.w) := ((Below.refl _ _).alloc (Nat.le_refl _) _).trans (y.h.mono (by simp))
            have YY : Hid (Below (wr.alloc (.cells #[.int .u8 vk, .int .u64 vb, .string vs] 34)).heap.size (wr.alloc (.cells #[.int .u8 vk, .int .u64 vb, .string vs] 34)) y.w) := y.h
            clear cx
            have yg := (HR.out.below Y.out)
            have y0 := (yg.cell3 k hn3).1
            have y1 := (yg.cell3 k hn3).2.1
            have y2 := (yg.cell3 k hn3).2.2
            have yf0 := yg.free (k * 3)
            have yf1 := yg.free (k * 3 + 1)
            have yf2 := yg.free (k * 3 + 2)
            have x0 : y.w.cell? ⟨wr.heap.size, 0, none⟩ = some (.int .u8 vk) := (YY.out.cell (p := ⟨wr.heap.size, 0, none⟩) (by simp)).trans (by simp)
            have x1 : y.w.cell? ⟨wr.heap.size, 1, none⟩ = some (.int .u64 vb) := (YY.out.cell (p := ⟨wr.heap.size, 1, none⟩) (by simp)).trans (by simp)
            have x2 : y.w.cell? ⟨wr.heap.size, 2, none⟩ = some (.string vs) := (YY.out.cell (p := ⟨wr.heap.size, 2, none⟩) (by simp)).trans (by simp)
            have YG : Hid (Row3 y.w g n (putU m inp u k)) := yg
            clear yg
            go_wp2
            refine ⟨⟨k + 1, by omega, by go_num, (YG.out.set k hn3 ⟨vk, vb, vs⟩).congr (fun i hi => PP.out i), ?_⟩, by simp [intOf]; omega⟩
            have B := HB.out.trans (Y.out.mono HB.out.size)
            exact ((B.setCell hg _).setCell hg _).setCell hg _
          · have he1 : (vk == uk) = false := by simpa using he
            have PS : Hid (∀ i, i < n → putU m inp u k i = putU m inp u (k + 1) i) := fun i _ => HQ.out (fun h => he h.2) i
            clear HP HQ
            go_wp2_with fail
            refine wp_region_sub2 (by kernel_rfl) (by kernel_rfl) ?_
            intro cx
            repeat (first | go_big_quiet_skip | (go_big_quiet_want; go_big_quiet_op; first | go_big_quiet_on | (refine ⟨_, fun _ => rfl, ?_⟩; go_big_quiet_on)))
            refine wpQuiet_nil ?_
            rintro _ ⟨y, rfl⟩
            have Y : Hid (Below wr.heap.size wr y.w) := ((Below.refl _ _).alloc (Nat.le_refl _) _).trans (y.h.mono (by simp))
            have YY : Hid (Below (wr.alloc (.cells #[.int .u8 vk, .int .u64 vb, .string vs] 34)).heap.size (wr.alloc (.cells #[.int .u8 vk, .int .u64 vb, .string vs] 34)) y.w) := y.h
            clear cx
            go_wp2
            exact ⟨⟨k + 1, by omega, by go_num, (HR.out.below Y.out).congr (fun i hi => PS.out i hi), HB.out.trans (Y.out.mono HB.out.size)⟩, by simp [intOf]; omega⟩
        · have hm' : ¬ (k : Int) < m := by omega
          have PS : Hid (∀ i, i < n → putU m inp u k i = putU m inp u (k + 1) i) := fun i _ => HQ.out (fun h => hm h.1) i
          clear HP HQ
          go_wp2_with fail
          refine wp_region_sub2 (by kernel_rfl) (by kernel_rfl) ?_
          intro cx
          repeat (first | go_big_quiet_skip | (go_big_quiet_want; go_big_quiet_op; first | go_big_quiet_on | (refine ⟨_, fun _ => rfl, ?_⟩; go_big_quiet_on)))
          refine wpQuiet_nil ?_
          rintro _ ⟨y, rfl⟩
          have Y : Hid (Below wr.heap.size wr y.w) := ((Below.refl _ _).alloc (Nat.le_refl _) _).trans (y.h.mono (by simp))
          have YY : Hid (Below (wr.alloc (.cells #[.int .u8 vk, .int .u64 vb, .string vs] 34)).heap.size (wr.alloc (.cells #[.int .u8 vk, .int .u64 vb, .string vs] 34)) y.w) := y.h
          clear cx
          go_wp2
          exact ⟨⟨k + 1, by omega, by go_num, (HR.out.below Y.out).congr (fun i hi => PS.out i hi), HB.out.trans (Y.out.mono HB.out.size)⟩, by simp [intOf]; omega⟩
      · have PS : Hid (∀ i, i < n → putU m inp u k i = putU m inp u (k + 1) i) := fun i hi => (putU_other m inp u k i (by omega)).symm
        have hn3' : ¬ (k : Int) < n := by omega
        clear hr hb
        generalize inp k = v3 at *
        obtain ⟨vk, vb, vs⟩ := v3
        by_cases hm : k < m
        · have hm' : (k : Int) < m := by omega
          go_wp2_with fail
          refine wp_region_sub2 (by kernel_rfl) (by kernel_rfl) ?_
          intro cx
          repeat (first | go_big_quiet_skip | (go_big_quiet_want; go_big_quiet_op; first | go_big_quiet_on | (refine ⟨_, fun _ => rfl, ?_⟩; go_big_quiet_on)))
          refine wpQuiet_nil ?_
          rintro _ ⟨y, rfl⟩
          have Y : Hid (Below wr.heap.size wr y.w) := ((Below.refl _ _).alloc (Nat.le_refl _) _).trans (y.h.mono (by simp))
          have YY : Hid (Below (wr.alloc (.cells #[.int .u8 vk, .int .u64 vb, .string vs] 34)).heap.size (wr.alloc (.cells #[.int .u8 vk, .int .u64 vb, .string vs] 34)) y.w) := y.h
          clear cx
          go_wp2
          exact ⟨⟨k + 1, by omega, by go_num, (HR.out.below Y.out).congr (fun i hi => PS.out i hi), HB.out.trans (Y.out.mono HB.out.size)⟩, by simp [intOf]; omega⟩
        · have hm' : ¬ (k : Int) < m := by omega
          go_wp2_with fail
          refine wp_region_sub2 (by kernel_rfl) (by kernel_rfl) ?_
          intro cx
          repeat (first | go_big_quiet_skip | (go_big_quiet_want; go_big_quiet_op; first | go_big_quiet_on | (refine ⟨_, fun _ => rfl, ?_⟩; go_big_quiet_on)))
          refine wpQuiet_nil ?_
          rintro _ ⟨y, rfl⟩
          have Y : Hid (Below wr.heap.size wr y.w) := ((Below.refl _ _).alloc (Nat.le_refl _) _).trans (y.h.mono (by simp))
          have YY : Hid (Below (wr.alloc (.cells #[.int .u8 vk, .int .u64 vb, .string vs] 34)).heap.size (wr.alloc (.cells #[.int .u8 vk, .int .u64 vb, .string vs] 34)) y.w) := y.h
          clear cx
          go_wp2
          exact ⟨⟨k + 1, by omega, by go_num, (HR.out.below Y.out).congr (fun i hi => PS.out i hi), HB.out.trans (Y.out.mono HB.out.size)⟩, by simp [intOf]; omega⟩
    · have ek : k = nI := by omega
      subst ek
      clear hr hb
      go_wp2
      go_ret
      exact ⟨g, c, rfl, hg, HR.out, HB.out⟩
end Go.Proofs.YtjnegbjgogkamaaDoor
namespace Go.Proofs.YtjnegbjgogkamaaDoor
set_option linter.unusedVariables false
open Go.RowKit
theorem fn_nilT (w : World) : (binOp .eql 49 .nilFunc .nilFunc).run Tryd.prog w = .ok (.bool true) w := by kernel_rfl
set_option maxHeartbeats 1000000 in
theorem numbered_bad (K : Int) (w : World) (h : K ≤ 0 ∨ 11 ≤ K) : Calls Tryd.prog 25 #[.int .i64 K] w fun e w' => e = .returned bk0 ∧ Below w.heap.size w w' := by
  by_cases c : K ≤ 0
  · go_enter Tryd.func25, Tryd.ntmps25
    go_wp2_with (refine wpList_store_row rfl 51 _ _ rfl w.heap.size _ rfl rfl _ _ (heap_alloc_last w _) blk_info rfl (by kernel_rfl) ?_)
    exact bodyPost_ret (v := bk0) (results_cell_row Tryd.results25 _ _ w.heap.size _ _ (0, 0) _ (by first | rfl | simp [Act.put]) (setRow_heap _ _ _ _ _ _ (heap_alloc_last w _)) Tryd.underlying51 rfl blk_info) rfl ⟨rfl, below_setRow ((Below.refl _ _).alloc (Nat.le_refl _) _) (Nat.le_refl _) _⟩
  · have d : 11 ≤ K := by omega
    go_enter Tryd.func25, Tryd.ntmps25
    go_wp2_with (refine wpList_store_row rfl 51 _ _ rfl w.heap.size _ rfl rfl _ _ (heap_alloc_last w _) blk_info rfl (by kernel_rfl) ?_)
    exact bodyPost_ret (v := bk0) (results_cell_row Tryd.results25 _ _ w.heap.size _ _ (0, 0) _ (by first | rfl | simp [Act.put]) (setRow_heap _ _ _ _ _ _ (heap_alloc_last w _)) Tryd.underlying51 rfl blk_info) rfl ⟨rfl, below_setRow ((Below.refl _ _).alloc (Nat.le_refl _) _) (Nat.le_refl _) _⟩
set_option maxHeartbeats 1000000 in
theorem Step_bad (K now : Int) (x : Value) (w : World) (h : K ≤ 0 ∨ 11 ≤ K) : Calls Tryd.prog 18 #[.int .i64 K, x, .int .i64 now] w fun e w' => e = .returned (.tuple #[.slice none 0 0, .int .i64 8]) ∧ Below w.heap.size w w' := by
  have fe := fn_nilT
  have HK : Hid (K ≤ 0 ∨ 11 ≤ K) := h
  clear h
  go_enter Tryd.func18, Tryd.ntmps18
  go_wp2_with (first | (go_at_call 25; refine (numbered_bad K _ HK.out).mono ?_; rintro e w1 ⟨rfl, hb⟩; have HB : Hid _ := hb; clear hb) | (refine wpList_store_row rfl 51 _ _ rfl w1.heap.size _ rfl rfl _ _ (heap_alloc_last w1 _) blk_info rfl (by kernel_rfl) ?_; rw [World.setRow_alloc_new]))
  go_ret2
  exact ⟨rfl, HB.out.alloc HB.out.size _⟩
section
variable (K : Int) (nm names ks : ByteArray) (ins outs : Int) (f : Nat) (ad : Option Addr) (n cap : Nat) (now : Int) (w : World)
set_option maxHeartbeats 1000000 in
theorem takes_len (fn : Value) (hn : ¬ n = ks.size) : Calls Tryd.prog 32 #[BV nm names ks ins outs fn, .slice ad n cap] w fun e w' => e = .returned (.bool false) ∧ Below w.heap.size w w' := by
  have h1 : ((n : Int) != ks.size) = true := by simp; omega
  have h2 : ¬ (n : Int) = ks.size := by omega
  go_enter Tryd.func32, Tryd.ntmps32
  go_wp2
  go_ret
  exact ⟨rfl, (Below.refl _ _).alloc (Nat.le_refl _) _⟩
set_option maxHeartbeats 1000000 in
theorem Step_len (hN : ∀ w, Calls Tryd.prog 25 #[.int .i64 K] w fun e w' => e = .returned (BV nm names ks ins outs (FN f)) ∧ Below w.heap.size w w') (hn : ¬ n = ks.size) :
    Calls Tryd.prog 18 #[.int .i64 K, .slice ad n cap, .int .i64 now] w fun e w' => e = .returned (.tuple #[.slice none 0 0, .int .i64 8]) ∧ Below w.heap.size w w' := by
  have HN : Hid _ := hN
  have HE : Hid _ := hn
  clear hN hn
  have fe := fn_nil f
  go_enter Tryd.func18, Tryd.ntmps18
  go_wp2_with (first | (go_at_call 25; refine (HN.out _).mono ?_; rintro e w1 ⟨rfl, hb⟩; have HB : Hid _ := hb; clear hb) | (refine wpList_store_row rfl 51 _ _ rfl w1.heap.size _ rfl rfl _ _ (heap_alloc_last w1 _) blk_info rfl (by kernel_rfl) ?_; rw [World.setRow_alloc_new]) | (go_at_call 32; refine (takes_len _ _ _ _ _ _ _ _ _ _ HE.out).mono ?_; rintro e w2 ⟨rfl, hb2⟩; have HB2 : Hid _ := hb2; clear hb2))
  go_ret2
  exact ⟨rfl, HB.out.trans ((((Below.refl _ _).alloc (Nat.le_refl _) _).trans (HB2.out.mono (by simp))).mono HB.out.size)⟩
end
set_option maxHeartbeats 4000000 in
theorem VarsR_bad (K : Int) (w : World) (h : K ≤ 0 ∨ 11 ≤ K) : Calls Tryd.prog 14 #[.int .i64 K] w fun e w' => e = .returned (.slice none 0 0) ∧ w' = w := by
  have k1 : ¬ K = 1 := by omega
  have k2 : ¬ K = 2 := by omega
  have k3 : ¬ K = 3 := by omega
  have k4 : ¬ K = 4 := by omega
  have k5 : ¬ K = 5 := by omega
  have k6 : ¬ K = 6 := by omega
  have k7 : ¬ K = 7 := by omega
  have k8 : ¬ K = 8 := by omega
  have k9 : ¬ K = 9 := by omega
  have k10 : ¬ K = 10 := by omega
  clear h
  go_enter Tryd.func14, Tryd.ntmps14
  go_wp2
  go_ret
  exact ⟨rfl, rfl⟩
set_option maxHeartbeats 1000000 in
theorem StepR_bad (K now : Int) (x : Value) (w : World) (h : K ≤ 0 ∨ 11 ≤ K) : Calls Tryd.prog 21 #[.int .i64 K, x, .int .i64 now] w fun e w' => e = .returned (.tuple #[.slice none 0 0, .int .i64 8]) ∧ Below w.heap.size w w' := by
  have HK : Hid (K ≤ 0 ∨ 11 ≤ K) := h
  clear h
  go_enter Tryd.func21, Tryd.ntmps21
  go_wp2_with (go_at_call 14; refine (VarsR_bad K _ HK.out).mono ?_; rintro e w1 ⟨rfl, rfl⟩)
  go_ret2
  exact ⟨rfl, Below.refl _ _⟩
set_option maxHeartbeats 1000000 in
theorem StepR_len (K now : Int) (m : Nat) (ad : Option Addr) (n cap : Nat) (w : World) (hV : ∀ w, Calls Tryd.prog 14 #[.int .i64 K] w fun e w' => ∃ g c, e = .returned (.slice (some ⟨g, 0, none⟩) m c) ∧ Below w.heap.size w w') (hm : 0 < m) (hn : ¬ n = m) :
    Calls Tryd.prog 21 #[.int .i64 K, .slice ad n cap, .int .i64 now] w fun e w' => e = .returned (.tuple #[.slice none 0 0, .int .i64 8]) ∧ Below w.heap.size w w' := by
  have HV : Hid _ := hV
  have h1 : ¬ (n : Int) = m := by omega
  have h2 : ¬ (m : Int) = 0 := by omega
  have h3 : ((m : Int) == 0) = false := by simpa using h2
  have h4 : ((n : Int) != m) = true := by simpa using h1
  clear hV
  go_enter Tryd.func21, Tryd.ntmps21
  go_wp2_with (go_at_call 14; refine (HV.out _).mono ?_; rintro e w1 ⟨g, c, rfl, hb⟩; have HB : Hid _ := hb; clear hb)
  go_ret2
  exact ⟨rfl, HB.out⟩
end Go.Proofs.YtjnegbjgogkamaaDoor
namespace Go.Proofs.YtjnegbjgogkamaaDoor
set_option linter.unusedVariables false
open Go.RowKit
theorem neqV (k x : Int) (s : ByteArray) (w : World) : (binOp .neq 34 (V k x s) (V k x s)).run Tryd.prog w = .ok (.bool false) w := by simp [go_sem]
set_option maxHeartbeats 1000000 in
theorem Equal_none (x y : Option Addr) (c d : Nat) (w : World) : Calls Tryd.prog 15 #[.slice x 0 c, .slice y 0 d] w fun e w' => e = .returned (.bool true) ∧ Below w.heap.size w w' := by
  go_enter Tryd.func15, Tryd.ntmps15
  go_wp2_with fail
  go_loopw [13] (fun i wr => i = .int .i64 0 ∧ wr = w) (fun _ _ => 0)
  case atStart => exact ⟨rfl, rfl⟩
  case round =>
    obtain ⟨rfl, rfl⟩ := hrel
    go_wp2
    go_ret
    exact ⟨rfl, Below.refl _ _⟩
set_option maxHeartbeats 2000000 in
theorem Equal_rows (a b : Addr) (n c d : Nat) (v : Nat → Vl) (w : World) (ha : VsAt w a n v) (hb : VsAt w b n v) (hn : n * 32 ≤ 140737488355328) : Calls Tryd.prog 15 #[.slice (some a) n c, .slice (some b) n d] w fun e w' => e = .returned (.bool true) ∧ Below w.heap.size w w' := by
  have HA : Hid (VsAt w a n v) := ha
  have HB : Hid (VsAt w b n v) := hb
  clear ha hb
  go_enter Tryd.func15, Tryd.ntmps15
  go_wp2_with fail
  go_loopw [13] (fun i wr => ∃ k : Nat, k ≤ n ∧ i = .int .i64 k ∧ Below w.heap.size w wr) (fun i _ => n - (intOf i).toNat)
  case atStart => exact ⟨0, Nat.zero_le _, rfl, Below.refl _ _⟩
  case round =>
    obtain ⟨k, hk, rfl, hbw⟩ := hrel
    have HW : Hid (Below w.heap.size w wr) := hbw
    by_cases hlt : k < n
    · obtain ⟨d0, d1, d2⟩ := HA.out.below hbw k hlt
      obtain ⟨e0, e1, e2⟩ := HB.out.below hbw k hlt
      have hlt' : (k : Int) < n := by omega
      have nv := neqV
      generalize v k = vk at *
      obtain ⟨vk, vb, vs⟩ := vk
      have za := block_lt_of_cell d0
      have zb := block_lt_of_cell e0
      clear hbw
      go_wp2_with fail
      have cy : ∀ x : Sub wr, x.w.cell? (a.add (k * 3)) = some (.int .u8 vk) := fun x => (x.h.cell za).trans d0
      have cz : ∀ x : Sub wr, x.w.cell? (b.add (k * 3)) = some (.int .u8 vk) := fun x => (x.h.cell zb).trans e0
      refine wp_region_sub2 (by kernel_rfl) (by kernel_rfl) ?_
      intro cx
      repeat (first | go_big_quiet_skip | (go_big_quiet_want; go_big_quiet_op; first | go_big_quiet_on | (refine ⟨_, fun _ => rfl, ?_⟩; go_big_quiet_on)))
      refine wpQuiet_nil ?_
      rintro _ ⟨y, rfl⟩
      have Y : Hid (Below wr.heap.size wr y.w) := y.h
      clear cx cy cz
      go_wp2
      exact ⟨⟨k + 1, by omega, by go_num, HW.out.trans (Y.out.mono HW.out.size)⟩, by simp [intOf]; omega⟩
    · have ek : k = n := by omega
      clear hbw
      go_wp2
      go_ret
      exact ⟨rfl, HW.out⟩
theorem sl_nilT (w : World) : (binOp .eql 30 (.slice none 0 0) (.slice none 0 0)).run Tryd.prog w = .ok (.bool true) w := by kernel_rfl
theorem own_zero {w : World} {base : Nat} {e : TypeId} {size : Nat} {x : Value} {xs : List Value} (h : w.ownsRow base e size x 0 xs) : ∃ y c, x = .slice y 0 c := by
  obtain ⟨_, h2⟩ := h
  rcases h2 with ⟨e, _⟩ | ⟨g, cap, cur, e, _⟩
  · exact ⟨_, _, e⟩
  · exact ⟨_, _, e⟩
set_option maxHeartbeats 1000000 in
theorem Clone_zero (ad : Option Addr) (cap : Nat) (w : World) (h0 : ad = none → cap = 0) :
    Calls Tryd.prog 35 #[.slice ad 0 cap] w fun e w' => ∃ y c, e = .returned (.slice y 0 c) ∧ Below w.heap.size w w' := by
  cases ad with
  | none =>
    obtain rfl := h0 rfl
    have sn := sl_nilT
    go_enter Tryd.func35, Tryd.ntmps35
    go_wp2
    go_ret
    exact ⟨⟨_, _, rfl⟩, Below.refl _ _⟩
  | some a =>
    have sn := sl_nil a 0 cap
    have I : Hid (∃ i, Tryd.prog.info? 34 = some i ∧ i.zero = some (.agg #[.int .u8 0, .int .u64 0, .string ⟨#[]⟩]) ∧ i.size = 3 ∧ i.bytes = 32) := by
      obtain ⟨i, hi, hz⟩ := Option.map_eq_some_iff.1 (show (Tryd.prog.info? 34).map (fun i => (i.zero, i.size, i.bytes)) = some (some (.agg #[.int .u8 0, .int .u64 0, .string ⟨#[]⟩]), 3, 32) by kernel_rfl)
      simp only [Prod.mk.injEq] at hz
      exact ⟨i, hi, hz.1, hz.2.1, hz.2.2⟩
    go_enter Tryd.func35, Tryd.ntmps35
    go_wp2_with (at_builtin; obtain ⟨i, hi, hz, hs, hy⟩ := I.out; refine wpList_append_own _ rfl _ _ 30 rfl w.heap.size 34 i _ 3 32 Tryd.underlying30 hi hz hs hy rfl (by decide) _ 0 [] rfl (own_none w) a 0 cap [] rfl rfl (fun j u hu => by simp at hu) (fun u hu => by simp at hu) (by simp) (by omega) (by simp) ?_; intro v' w' h1 h2 h3; obtain ⟨y, c, rfl⟩ := own_zero h1; have H2 : Hid _ := h2; clear h1 h2 h3 hi hz hs hy)
    go_ret
    exact ⟨y, c, rfl, ((Below.refl _ _).alloc (Nat.le_refl _) _).grown H2.out (by simp) (fun k e => by cases e; exact Nat.le_refl _)⟩
/-- What a Step answers: the cells behind it, or the fault. -/
def Ans (w w' : World) (n : Nat) (o : Option (Nat → Vl)) (e : Ending) : Prop :=
  Below w.heap.size w w' ∧ match o with
  | none => e = .returned (.tuple #[.slice none 0 0, .int .i64 8])
  | some u => ∃ g c, e = .returned (.tuple #[.slice (some ⟨g, 0, none⟩) n c, .int .i64 0]) ∧ w.heap.size ≤ g ∧ Row3 w' g n u
end Go.Proofs.YtjnegbjgogkamaaDoor
namespace Go.Proofs.YtjnegbjgogkamaaDoor
set_option linter.unusedVariables false
open Go.RowKit
theorem vl_ok2 (ks : ByteArray) (L : List Int) (i : Nat) : VlOk (vlL ks L i) := by
  have := K3_r (kAt_cases ks i)
  exact ⟨this.1, this.2, by unfold vlL; show 0 ≤ _ % _; omega, by unfold vlL; show _ % _ < _; omega, by show (⟨#[]⟩ : ByteArray).size ≤ maxLen; decide⟩
/-- Both Steps answer so, of cells in whatever world. -/
def Both (K : Int) (n : Nat) (v : Nat → Vl) (now : Int) (o : Option (Nat → Vl)) : Prop :=
  (∀ (a : Addr) (cap : Nat) (w : World), VsAt w a n v → Calls Tryd.prog 18 #[.int .i64 K, .slice (some a) n cap, .int .i64 now] w fun e w' => Ans w w' n o e) ∧
  (∀ (a : Addr) (cap : Nat) (w : World), VsAt w a n v → Calls Tryd.prog 21 #[.int .i64 K, .slice (some a) n cap, .int .i64 now] w fun e w' => Ans w w' n o e) ∧ (∀ u, o = some u → ∀ i, VlOk (u i))
theorem both_1 (n : Nat) (v : Nat → Vl) (now : Int) (ho : ∀ i, i < n → VlOk (v i)) : ∃ o, Both 1 n v now o := by
  by_cases hn : n = 3
  · subst hn
    cases ht : tkB ks3 v 3
    · refine ⟨none, fun a cap w hv => ?_, fun a cap w hv => ?_, fun u h => by cases h⟩
      · exact (Step_no 1 ⟨#[83, 82]⟩ ⟨#[83, 49, 32, 82, 32, 81, 49]⟩ ks3 2 1 40 a 3 cap v now w numbered_1 hv ho rfl (by decide) ht).mono fun e w' ⟨h1, h2⟩ => ⟨h2, h1⟩
      · exact (StepR_1 a cap v now w hv ho).mono fun e w' ⟨h1, h2, h3⟩ => ⟨h3, h2 ht⟩
    · refine ⟨some (vlL ks3 (nxt 1 (clN now) (nmL 3 v))), fun a cap w hv => ?_, fun a cap w hv => ?_, fun u h i => by cases h; exact vl_ok2 _ _ _⟩
      · exact (Step_1 a cap v now w hv ho ht).mono fun e w' ⟨g, h1, h2, h3, h4⟩ => ⟨h4, g, 3, h1, h2, h3⟩
      · exact (StepR_1 a cap v now w hv ho).mono fun e w' ⟨h1, h2, h3⟩ => ⟨h3, h1 ht⟩
  · refine ⟨none, fun a cap w hv => ?_, fun a cap w hv => ?_, fun u h => by cases h⟩
    · exact (Step_len 1 ⟨#[83, 82]⟩ ⟨#[83, 49, 32, 82, 32, 81, 49]⟩ ks3 2 1 40 (some a) n cap now w numbered_1 hn).mono fun e w' ⟨h1, h2⟩ => ⟨h2, h1⟩
    · exact (StepR_len 1 now 3 (some a) n cap w (fun w => (VarsR_1 w).mono fun e w' ⟨g, c, h1, _, _, h2⟩ => ⟨g, c, h1, h2⟩) (by decide) hn).mono fun e w' ⟨h1, h2⟩ => ⟨h2, h1⟩
theorem zero_1 (ad : Option Addr) (cap : Nat) (now : Int) (w : World) : (Calls Tryd.prog 18 #[.int .i64 1, .slice ad 0 cap, .int .i64 now] w fun e w' => Ans w w' 0 none e) ∧ (Calls Tryd.prog 21 #[.int .i64 1, .slice ad 0 cap, .int .i64 now] w fun e w' => Ans w w' 0 none e) :=
  ⟨(Step_len 1 ⟨#[83, 82]⟩ ⟨#[83, 49, 32, 82, 32, 81, 49]⟩ ks3 2 1 40 ad 0 cap now w numbered_1 (by decide)).mono fun e w' ⟨h1, h2⟩ => ⟨h2, h1⟩,
   (StepR_len 1 now 3 ad 0 cap w (fun w => (VarsR_1 w).mono fun e w' ⟨g, c, h1, _, _, h2⟩ => ⟨g, c, h1, h2⟩) (by decide) (by decide)).mono fun e w' ⟨h1, h2⟩ => ⟨h2, h1⟩⟩
theorem both_2 (n : Nat) (v : Nat → Vl) (now : Int) (ho : ∀ i, i < n → VlOk (v i)) : ∃ o, Both 2 n v now o := by
  by_cases hn : n = 3
  · subst hn
    cases ht : tkB ks3 v 3
    · refine ⟨none, fun a cap w hv => ?_, fun a cap w hv => ?_, fun u h => by cases h⟩
      · exact (Step_no 2 ⟨#[82, 83]⟩ ⟨#[83, 32, 82, 49, 32, 81, 49]⟩ ks3 2 1 41 a 3 cap v now w numbered_2 hv ho rfl (by decide) ht).mono fun e w' ⟨h1, h2⟩ => ⟨h2, h1⟩
      · exact (StepR_2 a cap v now w hv ho).mono fun e w' ⟨h1, h2, h3⟩ => ⟨h3, h2 ht⟩
    · refine ⟨some (vlL ks3 (nxt 2 (clN now) (nmL 3 v))), fun a cap w hv => ?_, fun a cap w hv => ?_, fun u h i => by cases h; exact vl_ok2 _ _ _⟩
      · exact (Step_2 a cap v now w hv ho ht).mono fun e w' ⟨g, h1, h2, h3, h4⟩ => ⟨h4, g, 3, h1, h2, h3⟩
      · exact (StepR_2 a cap v now w hv ho).mono fun e w' ⟨h1, h2, h3⟩ => ⟨h3, h1 ht⟩
  · refine ⟨none, fun a cap w hv => ?_, fun a cap w hv => ?_, fun u h => by cases h⟩
    · exact (Step_len 2 ⟨#[82, 83]⟩ ⟨#[83, 32, 82, 49, 32, 81, 49]⟩ ks3 2 1 41 (some a) n cap now w numbered_2 hn).mono fun e w' ⟨h1, h2⟩ => ⟨h2, h1⟩
    · exact (StepR_len 2 now 3 (some a) n cap w (fun w => (VarsR_2 w).mono fun e w' ⟨g, c, h1, _, _, h2⟩ => ⟨g, c, h1, h2⟩) (by decide) hn).mono fun e w' ⟨h1, h2⟩ => ⟨h2, h1⟩
theorem zero_2 (ad : Option Addr) (cap : Nat) (now : Int) (w : World) : (Calls Tryd.prog 18 #[.int .i64 2, .slice ad 0 cap, .int .i64 now] w fun e w' => Ans w w' 0 none e) ∧ (Calls Tryd.prog 21 #[.int .i64 2, .slice ad 0 cap, .int .i64 now] w fun e w' => Ans w w' 0 none e) :=
  ⟨(Step_len 2 ⟨#[82, 83]⟩ ⟨#[83, 32, 82, 49, 32, 81, 49]⟩ ks3 2 1 41 ad 0 cap now w numbered_2 (by decide)).mono fun e w' ⟨h1, h2⟩ => ⟨h2, h1⟩,
   (StepR_len 2 now 3 ad 0 cap w (fun w => (VarsR_2 w).mono fun e w' ⟨g, c, h1, _, _, h2⟩ => ⟨g, c, h1, h2⟩) (by decide) (by decide)).mono fun e w' ⟨h1, h2⟩ => ⟨h2, h1⟩⟩
theorem both_3 (n : Nat) (v : Nat → Vl) (now : Int) (ho : ∀ i, i < n → VlOk (v i)) : ∃ o, Both 3 n v now o := by
  by_cases hn : n = 3
  · subst hn
    cases ht : tkB ks3 v 3
    · refine ⟨none, fun a cap w hv => ?_, fun a cap w hv => ?_, fun u h => by cases h⟩
      · exact (Step_no 3 ⟨#[82, 95, 84, 82, 73, 71]⟩ ⟨#[67, 76, 75, 32, 81, 32, 77]⟩ ks3 1 1 42 a 3 cap v now w numbered_3 hv ho rfl (by decide) ht).mono fun e w' ⟨h1, h2⟩ => ⟨h2, h1⟩
      · exact (StepR_3 a cap v now w hv ho).mono fun e w' ⟨h1, h2, h3⟩ => ⟨h3, h2 ht⟩
    · refine ⟨some (vlL ks3 (nxt 3 (clN now) (nmL 3 v))), fun a cap w hv => ?_, fun a cap w hv => ?_, fun u h i => by cases h; exact vl_ok2 _ _ _⟩
      · exact (Step_3 a cap v now w hv ho ht).mono fun e w' ⟨g, h1, h2, h3, h4⟩ => ⟨h4, g, 3, h1, h2, h3⟩
      · exact (StepR_3 a cap v now w hv ho).mono fun e w' ⟨h1, h2, h3⟩ => ⟨h3, h1 ht⟩
  · refine ⟨none, fun a cap w hv => ?_, fun a cap w hv => ?_, fun u h => by cases h⟩
    · exact (Step_len 3 ⟨#[82, 95, 84, 82, 73, 71]⟩ ⟨#[67, 76, 75, 32, 81, 32, 77]⟩ ks3 1 1 42 (some a) n cap now w numbered_3 hn).mono fun e w' ⟨h1, h2⟩ => ⟨h2, h1⟩
    · exact (StepR_len 3 now 3 (some a) n cap w (fun w => (VarsR_3 w).mono fun e w' ⟨g, c, h1, _, _, h2⟩ => ⟨g, c, h1, h2⟩) (by decide) hn).mono fun e w' ⟨h1, h2⟩ => ⟨h2, h1⟩
theorem zero_3 (ad : Option Addr) (cap : Nat) (now : Int) (w : World) : (Calls Tryd.prog 18 #[.int .i64 3, .slice ad 0 cap, .int .i64 now] w fun e w' => Ans w w' 0 none e) ∧ (Calls Tryd.prog 21 #[.int .i64 3, .slice ad 0 cap, .int .i64 now] w fun e w' => Ans w w' 0 none e) :=
  ⟨(Step_len 3 ⟨#[82, 95, 84, 82, 73, 71]⟩ ⟨#[67, 76, 75, 32, 81, 32, 77]⟩ ks3 1 1 42 ad 0 cap now w numbered_3 (by decide)).mono fun e w' ⟨h1, h2⟩ => ⟨h2, h1⟩,
   (StepR_len 3 now 3 ad 0 cap w (fun w => (VarsR_3 w).mono fun e w' ⟨g, c, h1, _, _, h2⟩ => ⟨g, c, h1, h2⟩) (by decide) (by decide)).mono fun e w' ⟨h1, h2⟩ => ⟨h2, h1⟩⟩
theorem both_4 (n : Nat) (v : Nat → Vl) (now : Int) (ho : ∀ i, i < n → VlOk (v i)) : ∃ o, Both 4 n v now o := by
  by_cases hn : n = 3
  · subst hn
    cases ht : tkB ks3 v 3
    · refine ⟨none, fun a cap w hv => ?_, fun a cap w hv => ?_, fun u h => by cases h⟩
      · exact (Step_no 4 ⟨#[70, 95, 84, 82, 73, 71]⟩ ⟨#[67, 76, 75, 32, 81, 32, 77]⟩ ks3 1 1 43 a 3 cap v now w numbered_4 hv ho rfl (by decide) ht).mono fun e w' ⟨h1, h2⟩ => ⟨h2, h1⟩
      · exact (StepR_4 a cap v now w hv ho).mono fun e w' ⟨h1, h2, h3⟩ => ⟨h3, h2 ht⟩
    · refine ⟨some (vlL ks3 (nxt 4 (clN now) (nmL 3 v))), fun a cap w hv => ?_, fun a cap w hv => ?_, fun u h i => by cases h; exact vl_ok2 _ _ _⟩
      · exact (Step_4 a cap v now w hv ho ht).mono fun e w' ⟨g, h1, h2, h3, h4⟩ => ⟨h4, g, 3, h1, h2, h3⟩
      · exact (StepR_4 a cap v now w hv ho).mono fun e w' ⟨h1, h2, h3⟩ => ⟨h3, h1 ht⟩
  · refine ⟨none, fun a cap w hv => ?_, fun a cap w hv => ?_, fun u h => by cases h⟩
    · exact (Step_len 4 ⟨#[70, 95, 84, 82, 73, 71]⟩ ⟨#[67, 76, 75, 32, 81, 32, 77]⟩ ks3 1 1 43 (some a) n cap now w numbered_4 hn).mono fun e w' ⟨h1, h2⟩ => ⟨h2, h1⟩
    · exact (StepR_len 4 now 3 (some a) n cap w (fun w => (VarsR_4 w).mono fun e w' ⟨g, c, h1, _, _, h2⟩ => ⟨g, c, h1, h2⟩) (by decide) hn).mono fun e w' ⟨h1, h2⟩ => ⟨h2, h1⟩
theorem zero_4 (ad : Option Addr) (cap : Nat) (now : Int) (w : World) : (Calls Tryd.prog 18 #[.int .i64 4, .slice ad 0 cap, .int .i64 now] w fun e w' => Ans w w' 0 none e) ∧ (Calls Tryd.prog 21 #[.int .i64 4, .slice ad 0 cap, .int .i64 now] w fun e w' => Ans w w' 0 none e) :=
  ⟨(Step_len 4 ⟨#[70, 95, 84, 82, 73, 71]⟩ ⟨#[67, 76, 75, 32, 81, 32, 77]⟩ ks3 1 1 43 ad 0 cap now w numbered_4 (by decide)).mono fun e w' ⟨h1, h2⟩ => ⟨h2, h1⟩,
   (StepR_len 4 now 3 ad 0 cap w (fun w => (VarsR_4 w).mono fun e w' ⟨g, c, h1, _, _, h2⟩ => ⟨g, c, h1, h2⟩) (by decide) (by decide)).mono fun e w' ⟨h1, h2⟩ => ⟨h2, h1⟩⟩
theorem both_5 (n : Nat) (v : Nat → Vl) (now : Int) (ho : ∀ i, i < n → VlOk (v i)) : ∃ o, Both 5 n v now o := by
  by_cases hn : n = 6
  · subst hn
    cases ht : tkB ksC v 6
    · refine ⟨none, fun a cap w hv => ?_, fun a cap w hv => ?_, fun u h => by cases h⟩
      · exact (Step_no 5 ⟨#[67, 84, 85]⟩ ⟨#[67, 85, 32, 82, 32, 80, 86, 32, 81, 32, 67, 86, 32, 77]⟩ ksC 3 2 44 a 6 cap v now w numbered_5 hv ho rfl (by decide) ht).mono fun e w' ⟨h1, h2⟩ => ⟨h2, h1⟩
      · exact (StepR_5 a cap v now w hv ho).mono fun e w' ⟨h1, h2, h3⟩ => ⟨h3, h2 ht⟩
    · refine ⟨some (vlL ksC (nxt 5 (clN now) (nmL 6 v))), fun a cap w hv => ?_, fun a cap w hv => ?_, fun u h i => by cases h; exact vl_ok2 _ _ _⟩
      · exact (Step_5 a cap v now w hv ho ht).mono fun e w' ⟨g, h1, h2, h3, h4⟩ => ⟨h4, g, 6, h1, h2, h3⟩
      · exact (StepR_5 a cap v now w hv ho).mono fun e w' ⟨h1, h2, h3⟩ => ⟨h3, h1 ht⟩
  · refine ⟨none, fun a cap w hv => ?_, fun a cap w hv => ?_, fun u h => by cases h⟩
    · exact (Step_len 5 ⟨#[67, 84, 85]⟩ ⟨#[67, 85, 32, 82, 32, 80, 86, 32, 81, 32, 67, 86, 32, 77]⟩ ksC 3 2 44 (some a) n cap now w numbered_5 hn).mono fun e w' ⟨h1, h2⟩ => ⟨h2, h1⟩
    · exact (StepR_len 5 now 6 (some a) n cap w (fun w => (VarsR_5 w).mono fun e w' ⟨g, c, h1, _, _, h2⟩ => ⟨g, c, h1, h2⟩) (by decide) hn).mono fun e w' ⟨h1, h2⟩ => ⟨h2, h1⟩
theorem zero_5 (ad : Option Addr) (cap : Nat) (now : Int) (w : World) : (Calls Tryd.prog 18 #[.int .i64 5, .slice ad 0 cap, .int .i64 now] w fun e w' => Ans w w' 0 none e) ∧ (Calls Tryd.prog 21 #[.int .i64 5, .slice ad 0 cap, .int .i64 now] w fun e w' => Ans w w' 0 none e) :=
  ⟨(Step_len 5 ⟨#[67, 84, 85]⟩ ⟨#[67, 85, 32, 82, 32, 80, 86, 32, 81, 32, 67, 86, 32, 77]⟩ ksC 3 2 44 ad 0 cap now w numbered_5 (by decide)).mono fun e w' ⟨h1, h2⟩ => ⟨h2, h1⟩,
   (StepR_len 5 now 6 ad 0 cap w (fun w => (VarsR_5 w).mono fun e w' ⟨g, c, h1, _, _, h2⟩ => ⟨g, c, h1, h2⟩) (by decide) (by decide)).mono fun e w' ⟨h1, h2⟩ => ⟨h2, h1⟩⟩
theorem both_6 (n : Nat) (v : Nat → Vl) (now : Int) (ho : ∀ i, i < n → VlOk (v i)) : ∃ o, Both 6 n v now o := by
  by_cases hn : n = 6
  · subst hn
    cases ht : tkB ksC v 6
    · refine ⟨none, fun a cap w hv => ?_, fun a cap w hv => ?_, fun u h => by cases h⟩
      · exact (Step_no 6 ⟨#[67, 84, 68]⟩ ⟨#[67, 68, 32, 76, 68, 32, 80, 86, 32, 81, 32, 67, 86, 32, 77]⟩ ksC 3 2 45 a 6 cap v now w numbered_6 hv ho rfl (by decide) ht).mono fun e w' ⟨h1, h2⟩ => ⟨h2, h1⟩
      · exact (StepR_6 a cap v now w hv ho).mono fun e w' ⟨h1, h2, h3⟩ => ⟨h3, h2 ht⟩
    · refine ⟨some (vlL ksC (nxt 6 (clN now) (nmL 6 v))), fun a cap w hv => ?_, fun a cap w hv => ?_, fun u h i => by cases h; exact vl_ok2 _ _ _⟩
      · exact (Step_6 a cap v now w hv ho ht).mono fun e w' ⟨g, h1, h2, h3, h4⟩ => ⟨h4, g, 6, h1, h2, h3⟩
      · exact (StepR_6 a cap v now w hv ho).mono fun e w' ⟨h1, h2, h3⟩ => ⟨h3, h1 ht⟩
  · refine ⟨none, fun a cap w hv => ?_, fun a cap w hv => ?_, fun u h => by cases h⟩
    · exact (Step_len 6 ⟨#[67, 84, 68]⟩ ⟨#[67, 68, 32, 76, 68, 32, 80, 86, 32, 81, 32, 67, 86, 32, 77]⟩ ksC 3 2 45 (some a) n cap now w numbered_6 hn).mono fun e w' ⟨h1, h2⟩ => ⟨h2, h1⟩
    · exact (StepR_len 6 now 6 (some a) n cap w (fun w => (VarsR_6 w).mono fun e w' ⟨g, c, h1, _, _, h2⟩ => ⟨g, c, h1, h2⟩) (by decide) hn).mono fun e w' ⟨h1, h2⟩ => ⟨h2, h1⟩
theorem zero_6 (ad : Option Addr) (cap : Nat) (now : Int) (w : World) : (Calls Tryd.prog 18 #[.int .i64 6, .slice ad 0 cap, .int .i64 now] w fun e w' => Ans w w' 0 none e) ∧ (Calls Tryd.prog 21 #[.int .i64 6, .slice ad 0 cap, .int .i64 now] w fun e w' => Ans w w' 0 none e) :=
  ⟨(Step_len 6 ⟨#[67, 84, 68]⟩ ⟨#[67, 68, 32, 76, 68, 32, 80, 86, 32, 81, 32, 67, 86, 32, 77]⟩ ksC 3 2 45 ad 0 cap now w numbered_6 (by decide)).mono fun e w' ⟨h1, h2⟩ => ⟨h2, h1⟩,
   (StepR_len 6 now 6 ad 0 cap w (fun w => (VarsR_6 w).mono fun e w' ⟨g, c, h1, _, _, h2⟩ => ⟨g, c, h1, h2⟩) (by decide) (by decide)).mono fun e w' ⟨h1, h2⟩ => ⟨h2, h1⟩⟩
theorem both_7 (n : Nat) (v : Nat → Vl) (now : Int) (ho : ∀ i, i < n → VlOk (v i)) : ∃ o, Both 7 n v now o := by
  by_cases hn : n = 10
  · subst hn
    cases ht : tkB ksB v 10
    · refine ⟨none, fun a cap w hv => ?_, fun a cap w hv => ?_, fun u h => by cases h⟩
      · exact (Step_no 7 ⟨#[67, 84, 85, 68]⟩ ⟨#[67, 85, 32, 67, 68, 32, 82, 32, 76, 68, 32, 80, 86, 32, 81, 85, 32, 81, 68, 32, 67, 86, 32, 77, 32, 78]⟩ ksB 5 3 46 a 10 cap v now w numbered_7 hv ho rfl (by decide) ht).mono fun e w' ⟨h1, h2⟩ => ⟨h2, h1⟩
      · exact (StepR_7 a cap v now w hv ho).mono fun e w' ⟨h1, h2, h3⟩ => ⟨h3, h2 ht⟩
    · refine ⟨some (vlL ksB (nxt 7 (clN now) (nmL 10 v))), fun a cap w hv => ?_, fun a cap w hv => ?_, fun u h i => by cases h; exact vl_ok2 _ _ _⟩
      · exact (Step_7 a cap v now w hv ho ht).mono fun e w' ⟨g, h1, h2, h3, h4⟩ => ⟨h4, g, 10, h1, h2, h3⟩
      · exact (StepR_7 a cap v now w hv ho).mono fun e w' ⟨h1, h2, h3⟩ => ⟨h3, h1 ht⟩
  · refine ⟨none, fun a cap w hv => ?_, fun a cap w hv => ?_, fun u h => by cases h⟩
    · exact (Step_len 7 ⟨#[67, 84, 85, 68]⟩ ⟨#[67, 85, 32, 67, 68, 32, 82, 32, 76, 68, 32, 80, 86, 32, 81, 85, 32, 81, 68, 32, 67, 86, 32, 77, 32, 78]⟩ ksB 5 3 46 (some a) n cap now w numbered_7 hn).mono fun e w' ⟨h1, h2⟩ => ⟨h2, h1⟩
    · exact (StepR_len 7 now 10 (some a) n cap w (fun w => (VarsR_7 w).mono fun e w' ⟨g, c, h1, _, _, h2⟩ => ⟨g, c, h1, h2⟩) (by decide) hn).mono fun e w' ⟨h1, h2⟩ => ⟨h2, h1⟩
theorem zero_7 (ad : Option Addr) (cap : Nat) (now : Int) (w : World) : (Calls Tryd.prog 18 #[.int .i64 7, .slice ad 0 cap, .int .i64 now] w fun e w' => Ans w w' 0 none e) ∧ (Calls Tryd.prog 21 #[.int .i64 7, .slice ad 0 cap, .int .i64 now] w fun e w' => Ans w w' 0 none e) :=
  ⟨(Step_len 7 ⟨#[67, 84, 85, 68]⟩ ⟨#[67, 85, 32, 67, 68, 32, 82, 32, 76, 68, 32, 80, 86, 32, 81, 85, 32, 81, 68, 32, 67, 86, 32, 77, 32, 78]⟩ ksB 5 3 46 ad 0 cap now w numbered_7 (by decide)).mono fun e w' ⟨h1, h2⟩ => ⟨h2, h1⟩,
   (StepR_len 7 now 10 ad 0 cap w (fun w => (VarsR_7 w).mono fun e w' ⟨g, c, h1, _, _, h2⟩ => ⟨g, c, h1, h2⟩) (by decide) (by decide)).mono fun e w' ⟨h1, h2⟩ => ⟨h2, h1⟩⟩
theorem both_8 (n : Nat) (v : Nat → Vl) (now : Int) (ho : ∀ i, i < n → VlOk (v i)) : ∃ o, Both 8 n v now o := by
  by_cases hn : n = 6
  · subst hn
    cases ht : tkB ksT v 6
    · refine ⟨none, fun a cap w hv => ?_, fun a cap w hv => ?_, fun u h => by cases h⟩
      · exact (Step_no 8 ⟨#[84, 80]⟩ ⟨#[73, 78, 32, 80, 84, 32, 81, 32, 69, 84, 32, 77, 32, 83]⟩ ksT 2 2 47 a 6 cap v now w numbered_8 hv ho rfl (by decide) ht).mono fun e w' ⟨h1, h2⟩ => ⟨h2, h1⟩
      · exact (StepR_8 a cap v now w hv ho).mono fun e w' ⟨h1, h2, h3⟩ => ⟨h3, h2 ht⟩
    · refine ⟨some (vlL ksT (nxt 8 (clN now) (nmL 6 v))), fun a cap w hv => ?_, fun a cap w hv => ?_, fun u h i => by cases h; exact vl_ok2 _ _ _⟩
      · exact (Step_8 a cap v now w hv ho ht).mono fun e w' ⟨g, h1, h2, h3, h4⟩ => ⟨h4, g, 6, h1, h2, h3⟩
      · exact (StepR_8 a cap v now w hv ho).mono fun e w' ⟨h1, h2, h3⟩ => ⟨h3, h1 ht⟩
  · refine ⟨none, fun a cap w hv => ?_, fun a cap w hv => ?_, fun u h => by cases h⟩
    · exact (Step_len 8 ⟨#[84, 80]⟩ ⟨#[73, 78, 32, 80, 84, 32, 81, 32, 69, 84, 32, 77, 32, 83]⟩ ksT 2 2 47 (some a) n cap now w numbered_8 hn).mono fun e w' ⟨h1, h2⟩ => ⟨h2, h1⟩
    · exact (StepR_len 8 now 6 (some a) n cap w (fun w => (VarsR_8 w).mono fun e w' ⟨g, c, h1, _, _, h2⟩ => ⟨g, c, h1, h2⟩) (by decide) hn).mono fun e w' ⟨h1, h2⟩ => ⟨h2, h1⟩
theorem zero_8 (ad : Option Addr) (cap : Nat) (now : Int) (w : World) : (Calls Tryd.prog 18 #[.int .i64 8, .slice ad 0 cap, .int .i64 now] w fun e w' => Ans w w' 0 none e) ∧ (Calls Tryd.prog 21 #[.int .i64 8, .slice ad 0 cap, .int .i64 now] w fun e w' => Ans w w' 0 none e) :=
  ⟨(Step_len 8 ⟨#[84, 80]⟩ ⟨#[73, 78, 32, 80, 84, 32, 81, 32, 69, 84, 32, 77, 32, 83]⟩ ksT 2 2 47 ad 0 cap now w numbered_8 (by decide)).mono fun e w' ⟨h1, h2⟩ => ⟨h2, h1⟩,
   (StepR_len 8 now 6 ad 0 cap w (fun w => (VarsR_8 w).mono fun e w' ⟨g, c, h1, _, _, h2⟩ => ⟨g, c, h1, h2⟩) (by decide) (by decide)).mono fun e w' ⟨h1, h2⟩ => ⟨h2, h1⟩⟩
theorem both_9 (n : Nat) (v : Nat → Vl) (now : Int) (ho : ∀ i, i < n → VlOk (v i)) : ∃ o, Both 9 n v now o := by
  by_cases hn : n = 6
  · subst hn
    cases ht : tkB ksT v 6
    · refine ⟨none, fun a cap w hv => ?_, fun a cap w hv => ?_, fun u h => by cases h⟩
      · exact (Step_no 9 ⟨#[84, 79, 78]⟩ ⟨#[73, 78, 32, 80, 84, 32, 81, 32, 69, 84, 32, 77, 32, 83]⟩ ksT 2 2 48 a 6 cap v now w numbered_9 hv ho rfl (by decide) ht).mono fun e w' ⟨h1, h2⟩ => ⟨h2, h1⟩
      · exact (StepR_9 a cap v now w hv ho).mono fun e w' ⟨h1, h2, h3⟩ => ⟨h3, h2 ht⟩
    · refine ⟨some (vlL ksT (nxt 9 (clN now) (nmL 6 v))), fun a cap w hv => ?_, fun a cap w hv => ?_, fun u h i => by cases h; exact vl_ok2 _ _ _⟩
      · exact (Step_9 a cap v now w hv ho ht).mono fun e w' ⟨g, h1, h2, h3, h4⟩ => ⟨h4, g, 6, h1, h2, h3⟩
      · exact (StepR_9 a cap v now w hv ho).mono fun e w' ⟨h1, h2, h3⟩ => ⟨h3, h1 ht⟩
  · refine ⟨none, fun a cap w hv => ?_, fun a cap w hv => ?_, fun u h => by cases h⟩
    · exact (Step_len 9 ⟨#[84, 79, 78]⟩ ⟨#[73, 78, 32, 80, 84, 32, 81, 32, 69, 84, 32, 77, 32, 83]⟩ ksT 2 2 48 (some a) n cap now w numbered_9 hn).mono fun e w' ⟨h1, h2⟩ => ⟨h2, h1⟩
    · exact (StepR_len 9 now 6 (some a) n cap w (fun w => (VarsR_9 w).mono fun e w' ⟨g, c, h1, _, _, h2⟩ => ⟨g, c, h1, h2⟩) (by decide) hn).mono fun e w' ⟨h1, h2⟩ => ⟨h2, h1⟩
theorem zero_9 (ad : Option Addr) (cap : Nat) (now : Int) (w : World) : (Calls Tryd.prog 18 #[.int .i64 9, .slice ad 0 cap, .int .i64 now] w fun e w' => Ans w w' 0 none e) ∧ (Calls Tryd.prog 21 #[.int .i64 9, .slice ad 0 cap, .int .i64 now] w fun e w' => Ans w w' 0 none e) :=
  ⟨(Step_len 9 ⟨#[84, 79, 78]⟩ ⟨#[73, 78, 32, 80, 84, 32, 81, 32, 69, 84, 32, 77, 32, 83]⟩ ksT 2 2 48 ad 0 cap now w numbered_9 (by decide)).mono fun e w' ⟨h1, h2⟩ => ⟨h2, h1⟩,
   (StepR_len 9 now 6 ad 0 cap w (fun w => (VarsR_9 w).mono fun e w' ⟨g, c, h1, _, _, h2⟩ => ⟨g, c, h1, h2⟩) (by decide) (by decide)).mono fun e w' ⟨h1, h2⟩ => ⟨h2, h1⟩⟩
theorem both_10 (n : Nat) (v : Nat → Vl) (now : Int) (ho : ∀ i, i < n → VlOk (v i)) : ∃ o, Both 10 n v now o := by
  by_cases hn : n = 6
  · subst hn
    cases ht : tkB ksT v 6
    · refine ⟨none, fun a cap w hv => ?_, fun a cap w hv => ?_, fun u h => by cases h⟩
      · exact (Step_no 10 ⟨#[84, 79, 70]⟩ ⟨#[73, 78, 32, 80, 84, 32, 81, 32, 69, 84, 32, 77, 32, 83]⟩ ksT 2 2 49 a 6 cap v now w numbered_10 hv ho rfl (by decide) ht).mono fun e w' ⟨h1, h2⟩ => ⟨h2, h1⟩
      · exact (StepR_10 a cap v now w hv ho).mono fun e w' ⟨h1, h2, h3⟩ => ⟨h3, h2 ht⟩
    · refine ⟨some (vlL ksT (nxt 10 (clN now) (nmL 6 v))), fun a cap w hv => ?_, fun a cap w hv => ?_, fun u h i => by cases h; exact vl_ok2 _ _ _⟩
      · exact (Step_10 a cap v now w hv ho ht).mono fun e w' ⟨g, h1, h2, h3, h4⟩ => ⟨h4, g, 6, h1, h2, h3⟩
      · exact (StepR_10 a cap v now w hv ho).mono fun e w' ⟨h1, h2, h3⟩ => ⟨h3, h1 ht⟩
  · refine ⟨none, fun a cap w hv => ?_, fun a cap w hv => ?_, fun u h => by cases h⟩
    · exact (Step_len 10 ⟨#[84, 79, 70]⟩ ⟨#[73, 78, 32, 80, 84, 32, 81, 32, 69, 84, 32, 77, 32, 83]⟩ ksT 2 2 49 (some a) n cap now w numbered_10 hn).mono fun e w' ⟨h1, h2⟩ => ⟨h2, h1⟩
    · exact (StepR_len 10 now 6 (some a) n cap w (fun w => (VarsR_10 w).mono fun e w' ⟨g, c, h1, _, _, h2⟩ => ⟨g, c, h1, h2⟩) (by decide) hn).mono fun e w' ⟨h1, h2⟩ => ⟨h2, h1⟩
theorem zero_10 (ad : Option Addr) (cap : Nat) (now : Int) (w : World) : (Calls Tryd.prog 18 #[.int .i64 10, .slice ad 0 cap, .int .i64 now] w fun e w' => Ans w w' 0 none e) ∧ (Calls Tryd.prog 21 #[.int .i64 10, .slice ad 0 cap, .int .i64 now] w fun e w' => Ans w w' 0 none e) :=
  ⟨(Step_len 10 ⟨#[84, 79, 70]⟩ ⟨#[73, 78, 32, 80, 84, 32, 81, 32, 69, 84, 32, 77, 32, 83]⟩ ksT 2 2 49 ad 0 cap now w numbered_10 (by decide)).mono fun e w' ⟨h1, h2⟩ => ⟨h2, h1⟩,
   (StepR_len 10 now 6 ad 0 cap w (fun w => (VarsR_10 w).mono fun e w' ⟨g, c, h1, _, _, h2⟩ => ⟨g, c, h1, h2⟩) (by decide) (by decide)).mono fun e w' ⟨h1, h2⟩ => ⟨h2, h1⟩⟩
theorem K_cases (K : Int) : (K ≤ 0 ∨ 11 ≤ K) ∨ K = 1 ∨ K = 2 ∨ K = 3 ∨ K = 4 ∨ K = 5 ∨ K = 6 ∨ K = 7 ∨ K = 8 ∨ K = 9 ∨ K = 10 := by omega
theorem step_both (K : Int) (n : Nat) (v : Nat → Vl) (now : Int) (ho : ∀ i, i < n → VlOk (v i)) : ∃ o, Both K n v now o := by
  rcases K_cases K with h | rfl | rfl | rfl | rfl | rfl | rfl | rfl | rfl | rfl | rfl
  · exact ⟨none, fun a cap w hv => (Step_bad K now _ w h).mono fun e w' ⟨h1, h2⟩ => ⟨h2, h1⟩, fun a cap w hv => (StepR_bad K now _ w h).mono fun e w' ⟨h1, h2⟩ => ⟨h2, h1⟩, fun u h => by cases h⟩
  · exact both_1 n v now ho
  · exact both_2 n v now ho
  · exact both_3 n v now ho
  · exact both_4 n v now ho
  · exact both_5 n v now ho
  · exact both_6 n v now ho
  · exact both_7 n v now ho
  · exact both_8 n v now ho
  · exact both_9 n v now ho
  · exact both_10 n v now ho
theorem stepZ (K : Int) (ad : Option Addr) (cap : Nat) (now : Int) : (∀ w, Calls Tryd.prog 18 #[.int .i64 K, .slice ad 0 cap, .int .i64 now] w fun e w' => Ans w w' 0 none e) ∧ (∀ w, Calls Tryd.prog 21 #[.int .i64 K, .slice ad 0 cap, .int .i64 now] w fun e w' => Ans w w' 0 none e) := by
  rcases K_cases K with h | rfl | rfl | rfl | rfl | rfl | rfl | rfl | rfl | rfl | rfl
  · exact ⟨fun w => (Step_bad K now _ w h).mono fun e w' ⟨h1, h2⟩ => ⟨h2, h1⟩, fun w => (StepR_bad K now _ w h).mono fun e w' ⟨h1, h2⟩ => ⟨h2, h1⟩⟩
  · exact ⟨fun w => (zero_1 ad cap now w).1, fun w => (zero_1 ad cap now w).2⟩
  · exact ⟨fun w => (zero_2 ad cap now w).1, fun w => (zero_2 ad cap now w).2⟩
  · exact ⟨fun w => (zero_3 ad cap now w).1, fun w => (zero_3 ad cap now w).2⟩
  · exact ⟨fun w => (zero_4 ad cap now w).1, fun w => (zero_4 ad cap now w).2⟩
  · exact ⟨fun w => (zero_5 ad cap now w).1, fun w => (zero_5 ad cap now w).2⟩
  · exact ⟨fun w => (zero_6 ad cap now w).1, fun w => (zero_6 ad cap now w).2⟩
  · exact ⟨fun w => (zero_7 ad cap now w).1, fun w => (zero_7 ad cap now w).2⟩
  · exact ⟨fun w => (zero_8 ad cap now w).1, fun w => (zero_8 ad cap now w).2⟩
  · exact ⟨fun w => (zero_9 ad cap now w).1, fun w => (zero_9 ad cap now w).2⟩
  · exact ⟨fun w => (zero_10 ad cap now w).1, fun w => (zero_10 ad cap now w).2⟩
end Go.Proofs.YtjnegbjgogkamaaDoor
namespace Go.Proofs.YtjnegbjgogkamaaDoor
set_option linter.unusedVariables false
open Go.RowKit Go.ChangeShapes Go.WideShapes Go.ChangeAt Go.Joins
theorem cellsV : Tryd.prog.cellsOf 34 = 3 := by kernel_rfl
set_option maxRecDepth 100000 in
theorem open_V {H : Type} {enc : TypeId × Value → H} {w : World} {base b0 : Nat} {spare : Nat → Bool} {held : Bool} {r : Reach} {v : Value} {d : DataW H} {p : List MemPlace}
    (hv : Value.okWide Tryd.prog w r b0 34 v) (h : DataW.Trod enc Tryd.prog w base spare held 34 v d p) :
    ∃ k b s, v = V k b s ∧ (0 ≤ k ∧ k < 256) ∧ 0 ≤ b ∧ b < 18446744073709551616 ∧ s.size ≤ maxLen := by
  obtain ⟨c0, c1, c2, y0, y1, y2, m, rfl, rfl, rfl, hy0, hy1, hy2⟩ := open_agg3 Tryd.underlying34 (by kernel_rfl) cellsV hv h
  obtain ⟨k, e0, _, wk⟩ := DataW.trod_int Tryd.underlying31 hy0
  obtain ⟨b, e1, _, wb⟩ := DataW.trod_int Tryd.underlying32 hy1
  obtain ⟨s, e2, _, ws⟩ := DataW.trod_string Tryd.underlying9 hy2
  simp at e0 e1 e2
  subst e0 e1 e2
  have bk := bounds_u8 wk
  have bb := bounds_u64 wb
  exact ⟨k, b, s, rfl, by omega, by omega, by omega, ws⟩
end Go.Proofs.YtjnegbjgogkamaaDoor
namespace Go.Proofs.YtjnegbjgogkamaaDoor
set_option linter.unusedVariables false
open Go.RowKit Go.ChangeShapes Go.WideShapes Go.ChangeAt Go.Joins Go.Deep
section
variable {H : Type} {enc : TypeId × Value → H} {w : World} {base b0 : Nat} {spare : Nat → Bool} {held : Bool} {r : Reach} {v : Value} {d : DataW H} {p : List MemPlace}
set_option maxRecDepth 100000 in
/-- One value, of its three cells. -/
theorem value_cells {n : Nat} {cs : List Value} {x : DataW H × List MemPlace} (h : DataW.trod enc Tryd.prog w base spare held n 34 cs = some x) : ∃ u : Vl, VlOk u ∧ cs = [.int .u8 u.k, .int .u64 u.b, .string u.s] := by
  obtain ⟨y0, y1, y2, m, _, hl, h0, h1, h2⟩ := trod_struct3 Tryd.underlying34 h
  rw [show Tryd.prog.cellsOf 34 = 3 by kernel_rfl] at hl
  match cs, hl with
  | [c0, c1, c2], _ =>
    have e0 : DataW.trod enc Tryd.prog w base spare held m 31 [c0] = some y0 := h0
    have e1 : DataW.trod enc Tryd.prog w base spare held m 32 [c1] = some y1 := h1
    have e2 : DataW.trod enc Tryd.prog w base spare held m 9 [c2] = some y2 := h2
    obtain ⟨k, hk, _, wk⟩ := DataW.trod_int Tryd.underlying31 e0
    obtain ⟨b, hb, _, wb⟩ := DataW.trod_int Tryd.underlying32 e1
    obtain ⟨s, hs, _, ws⟩ := DataW.trod_string Tryd.underlying9 e2
    simp at hk hb hs
    have bk := bounds_u8 wk
    have bb := bounds_u64 wb
    exact ⟨⟨k, b, s⟩, ⟨by show 0 ≤ k; omega, by show k < 256; omega, by show 0 ≤ b; omega, by show b < 18446744073709551616; omega, ws⟩, by rw [hk, hb, hs]⟩
instance : Inhabited Vl := ⟨⟨0, 0, ⟨#[]⟩⟩⟩
set_option maxRecDepth 100000 in
theorem open_vals (hv : Value.okWide Tryd.prog w r b0 30 v) (h : DataW.Trod enc Tryd.prog w base spare held 30 v d p) :
    ∃ ad n cap f, v = .slice ad n cap ∧ (ad = none → n = 0 ∧ cap = 0) ∧ (∀ a, ad = some a → VsAt w a n f) ∧ (∀ i, i < n → VlOk (f i)) ∧ (n = 0 ∨ ∃ el sp, d = .slice el sp ∧ el.length = n) := by
  obtain ⟨ad, n, cap, rfl⟩ := okWide_slice Tryd.underlying30 hv
  obtain ⟨fuel, hf⟩ := h
  rcases open_slice Tryd.underlying30 hf with ⟨e, _⟩ | ⟨a, len, c, m, k, D, Pl, e, hb, hl, hm, hmm, hx, hh⟩
  · simp [Value.cells] at e
    obtain ⟨rfl, rfl, rfl⟩ := e
    exact ⟨none, 0, 0, fun _ => ⟨0, 0, ⟨#[]⟩⟩, rfl, fun _ => ⟨rfl, rfl⟩, fun a e => by simp at e, fun i hi => absurd hi (Nat.not_lt_zero _), .inl rfl⟩
  · simp [Value.cells] at e
    obtain ⟨rfl, rfl, rfl⟩ := e
    rw [show Tryd.prog.cellsOf 34 = 3 by kernel_rfl] at hh
    have hlm : n ≤ m := by rw [hmm]; split <;> omega
    obtain ⟨f, hf⟩ := choose_lt (α := Vl) (n := n) (p := fun i t => VlOk t ∧ w.cell? (a.add (i * 3)) = some (.int .u8 t.k) ∧ w.cell? (a.add (i * 3 + 1)) = some (.int .u64 t.b) ∧ w.cell? (a.add (i * 3 + 2)) = some (.string t.s)) (fun i hi => by
      obtain ⟨cs, h1, h2⟩ := hh i (by omega)
      obtain ⟨u, hu, rfl⟩ := value_cells h2
      obtain ⟨_, _, g⟩ := World.cells?_some h1
      have g0 := g 0 (by omega)
      have g1 := g 1 (by omega)
      have g2 := g 2 (by omega)
      rw [add_off] at g0 g1 g2
      exact ⟨u, hu, by simpa using g0, by simpa using g1, by simpa using g2⟩)
    refine ⟨some a, n, cap, f, rfl, fun e => (by simp at e), ?_, fun i hi => (hf i hi).1, .inr ⟨_, _, (Prod.mk.inj hx).1, by simp⟩⟩
    intro a' e i hi
    simp at e
    subst e
    obtain ⟨_, g0, g1, g2⟩ := hf i hi
    rw [← add_off, add_pos _ 1 (by omega)] at g1
    rw [← add_off, add_pos _ 2 (by omega)] at g2
    exact ⟨g0, g1, g2⟩
end
end Go.Proofs.YtjnegbjgogkamaaDoor
namespace Go.Proofs.YtjnegbjgogkamaaDoor
set_option linter.unusedVariables false
open Go.RowKit Go.ChangeShapes Go.WideShapes Go.ChangeAt Go.Joins Go.Deep
/-- One call: the inputs, and how far time goes on. -/
structure Cl where
  ad : Option Addr
  n : Nat
  cap : Nat
  f : Nat → Vl
  p : Int
/-- A call's inputs lie in memory. -/
structure ClOk (w : World) (c : Cl) : Prop where
  no : c.ad = none → c.n = 0 ∧ c.cap = 0
  at_ : ∀ a, c.ad = some a → VsAt w a c.n c.f
  ok : ∀ i, i < c.n → VlOk (c.f i)
  len : c.n ≤ maxLen
theorem ClOk.below {w w' : World} {c : Cl} (h : ClOk w c) (hb : Below w.heap.size w w') : ClOk w' c := ⟨h.no, fun a e => (h.at_ a e).below hb, h.ok, h.len⟩
section
variable {H : Type} {enc : TypeId × Value → H} {w : World} {base b0 : Nat} {spare : Nat → Bool} {held : Bool} {r : Reach} {v : Value} {d : DataW H} {p : List MemPlace}
instance : Inhabited Cl := ⟨⟨none, 0, 0, fun _ => ⟨0, 0, ⟨#[]⟩⟩, 0⟩⟩
set_option maxRecDepth 100000 in
theorem vals_cell {fuel : Nat} {c0 : Value} {x : DataW H × List MemPlace} (hf : DataW.trod enc Tryd.prog w base spare held fuel 30 [c0] = some x) :
    ∃ ad n cap f, c0 = .slice ad n cap ∧ (ad = none → n = 0 ∧ cap = 0) ∧ (∀ a, ad = some a → VsAt w a n f) ∧ (∀ i, i < n → VlOk (f i)) ∧ n ≤ maxLen := by
  rcases open_slice Tryd.underlying30 hf with ⟨e, _⟩ | ⟨a, n, cap, m, k, D, Pl, e, hb, hl, hm, hmm, hx, hh⟩
  · simp at e
    exact ⟨none, 0, 0, fun _ => ⟨0, 0, ⟨#[]⟩⟩, e, fun _ => ⟨rfl, rfl⟩, fun a e => by simp at e, fun i hi => absurd hi (Nat.not_lt_zero _), Nat.zero_le _⟩
  · simp at e
    rw [show Tryd.prog.cellsOf 34 = 3 by kernel_rfl] at hh
    have hlm : n ≤ m := by rw [hmm]; split <;> omega
    obtain ⟨f, hf⟩ := choose_lt (α := Vl) (n := n) (p := fun i t => VlOk t ∧ w.cell? (a.add (i * 3)) = some (.int .u8 t.k) ∧ w.cell? (a.add (i * 3 + 1)) = some (.int .u64 t.b) ∧ w.cell? (a.add (i * 3 + 2)) = some (.string t.s)) (fun i hi => by
      obtain ⟨cs, h1, h2⟩ := hh i (by omega)
      obtain ⟨u, hu, rfl⟩ := value_cells h2
      obtain ⟨_, _, g⟩ := World.cells?_some h1
      have g0 := g 0 (by omega)
      have g1 := g 1 (by omega)
      have g2 := g 2 (by omega)
      rw [add_off] at g0 g1 g2
      exact ⟨u, hu, by simpa using g0, by simpa using g1, by simpa using g2⟩)
    refine ⟨some a, n, cap, f, e, fun e => (by simp at e), ?_, fun i hi => (hf i hi).1, Nat.le_trans hl hm⟩
    intro a' e i hi
    simp at e
    subst e
    obtain ⟨_, g0, g1, g2⟩ := hf i hi
    rw [← add_off, add_pos _ 1 (by omega)] at g1
    rw [← add_off, add_pos _ 2 (by omega)] at g2
    exact ⟨g0, g1, g2⟩
set_option maxRecDepth 100000 in
theorem call_cells {n : Nat} {cs : List Value} {x : DataW H × List MemPlace} (h : DataW.trod enc Tryd.prog w base spare held n 40 cs = some x) : ∃ c : Cl, ClOk w c ∧ cs = [.slice c.ad c.n c.cap, .int .i64 c.p] := by
  obtain ⟨y0, y1, m, _, hl, h0, h1⟩ := trod_struct2 Tryd.underlying40 h
  rw [show Tryd.prog.cellsOf 40 = 2 by kernel_rfl] at hl
  match cs, hl with
  | [c0, c1], _ =>
    have e0 : DataW.trod enc Tryd.prog w base spare held m 30 [c0] = some y0 := h0
    have e1 : DataW.trod enc Tryd.prog w base spare held m 3 [c1] = some y1 := h1
    obtain ⟨ad, nn, cap, f, hc, k1, k2, k3, k4⟩ := vals_cell e0
    obtain ⟨q, hq, _⟩ := DataW.trod_int Tryd.underlying3 e1
    simp at hq
    exact ⟨⟨ad, nn, cap, f, q⟩, ⟨k1, k2, k3, k4⟩, by rw [hc, hq]⟩
/-- Calls one behind the other in memory. -/
def CsAt (w : World) (ad : Option Addr) (n : Nat) (f : Nat → Cl) : Prop := ∀ a, ad = some a → ∀ i, i < n → ClOk w (f i) ∧ w.cell? (a.add (i * 2)) = some (.slice (f i).ad (f i).n (f i).cap) ∧ w.cell? ⟨(a.add (i * 2)).block, (a.add (i * 2)).off + 1, none⟩ = some (.int .i64 (f i).p)
set_option maxRecDepth 100000 in
theorem open_calls (hv : Value.okWide Tryd.prog w r b0 37 v) (h : DataW.Trod enc Tryd.prog w base spare held 37 v d p) :
    ∃ ad n cap f, v = .slice ad n cap ∧ (ad = none → n = 0 ∧ cap = 0) ∧ CsAt w ad n f ∧ n ≤ maxLen := by
  obtain ⟨ad, n, cap, rfl⟩ := okWide_slice Tryd.underlying37 hv
  obtain ⟨fuel, hf⟩ := h
  rcases open_slice Tryd.underlying37 hf with ⟨e, _⟩ | ⟨a, len, c, m, k, D, Pl, e, hb, hl, hm, hmm, hx, hh⟩
  · simp [Value.cells] at e
    obtain ⟨rfl, rfl, rfl⟩ := e
    exact ⟨none, 0, 0, fun _ => default, rfl, fun _ => ⟨rfl, rfl⟩, fun a e => by simp at e, Nat.zero_le _⟩
  · simp [Value.cells] at e
    obtain ⟨rfl, rfl, rfl⟩ := e
    rw [show Tryd.prog.cellsOf 40 = 2 by kernel_rfl] at hh
    have hlm : n ≤ m := by rw [hmm]; split <;> omega
    obtain ⟨f, hf⟩ := choose_lt (α := Cl) (n := n) (p := fun i t => ClOk w t ∧ w.cell? (a.add (i * 2)) = some (.slice t.ad t.n t.cap) ∧ w.cell? (a.add (i * 2 + 1)) = some (.int .i64 t.p)) (fun i hi => by
      obtain ⟨cs, h1, h2⟩ := hh i (by omega)
      obtain ⟨u, hu, rfl⟩ := call_cells h2
      obtain ⟨_, _, g⟩ := World.cells?_some h1
      have g0 := g 0 (by omega)
      have g1 := g 1 (by omega)
      rw [add_off] at g0 g1
      exact ⟨u, hu, by simpa using g0, by simpa using g1⟩)
    refine ⟨some a, n, cap, f, rfl, fun e => (by simp at e), ?_, Nat.le_trans hl hm⟩
    intro a' e i hi
    simp at e
    subst e
    obtain ⟨q, g0, g1⟩ := hf i hi
    rw [← add_off, add_pos _ 1 (by omega)] at g1
    exact ⟨q, g0, g1⟩
end
end Go.Proofs.YtjnegbjgogkamaaDoor
namespace Go.Proofs.YtjnegbjgogkamaaDoor
set_option linter.unusedVariables false
open Go.RowKit
/-- A list's element as a name. -/
def nmsOf (l : List ByteArray) (i : Nat) : ByteArray := l.getD i ⟨#[]⟩
theorem fld1 : FldOk ⟨#[83, 49, 32, 82, 32, 81, 49]⟩ 3 (nmsOf [⟨#[83, 49]⟩, ⟨#[82]⟩, ⟨#[81, 49]⟩]) where
  small := by decide
  ascii := fun j b h => (show ∀ b ∈ (⟨#[83, 49, 32, 82, 32, 81, 49]⟩ : ByteArray).data.toList, b.toNat < 128 by decide) b (List.mem_of_getElem? h)
  len := by decide
  at_ := fun i hi => by
    match i, hi with
    | 0, _ => rfl
    | 1, _ => rfl
    | 2, _ => rfl
theorem Start_1 (w : World) (ht : Asc w) : Calls Tryd.prog 16 #[.int .i64 1] w fun e w' => ∃ g c, e = .returned (.slice (some ⟨g, 0, none⟩) 3 c) ∧ w.heap.size ≤ g ∧ Row3 w' g 3 (strV ks3) ∧ Below w.heap.size w w' :=
  Start_plain 1 ks3 2 1 3 _ w (Vars_plain 1 ⟨#[83, 82]⟩ ⟨#[83, 49, 32, 82, 32, 81, 49]⟩ ks3 2 1 40 3 _ w numbered_1 rfl rfl (by decide) (by decide) fld1 ht (by decide) (by decide)) (by decide) (by decide)
theorem fld2 : FldOk ⟨#[83, 32, 82, 49, 32, 81, 49]⟩ 3 (nmsOf [⟨#[83]⟩, ⟨#[82, 49]⟩, ⟨#[81, 49]⟩]) where
  small := by decide
  ascii := fun j b h => (show ∀ b ∈ (⟨#[83, 32, 82, 49, 32, 81, 49]⟩ : ByteArray).data.toList, b.toNat < 128 by decide) b (List.mem_of_getElem? h)
  len := by decide
  at_ := fun i hi => by
    match i, hi with
    | 0, _ => rfl
    | 1, _ => rfl
    | 2, _ => rfl
theorem Start_2 (w : World) (ht : Asc w) : Calls Tryd.prog 16 #[.int .i64 2] w fun e w' => ∃ g c, e = .returned (.slice (some ⟨g, 0, none⟩) 3 c) ∧ w.heap.size ≤ g ∧ Row3 w' g 3 (strV ks3) ∧ Below w.heap.size w w' :=
  Start_plain 2 ks3 2 1 3 _ w (Vars_plain 2 ⟨#[82, 83]⟩ ⟨#[83, 32, 82, 49, 32, 81, 49]⟩ ks3 2 1 41 3 _ w numbered_2 rfl rfl (by decide) (by decide) fld2 ht (by decide) (by decide)) (by decide) (by decide)
theorem fld3 : FldOk ⟨#[67, 76, 75, 32, 81, 32, 77]⟩ 3 (nmsOf [⟨#[67, 76, 75]⟩, ⟨#[81]⟩, ⟨#[77]⟩]) where
  small := by decide
  ascii := fun j b h => (show ∀ b ∈ (⟨#[67, 76, 75, 32, 81, 32, 77]⟩ : ByteArray).data.toList, b.toNat < 128 by decide) b (List.mem_of_getElem? h)
  len := by decide
  at_ := fun i hi => by
    match i, hi with
    | 0, _ => rfl
    | 1, _ => rfl
    | 2, _ => rfl
theorem Start_3 (w : World) (ht : Asc w) : Calls Tryd.prog 16 #[.int .i64 3] w fun e w' => ∃ g c, e = .returned (.slice (some ⟨g, 0, none⟩) 3 c) ∧ w.heap.size ≤ g ∧ Row3 w' g 3 (strV ks3) ∧ Below w.heap.size w w' :=
  Start_plain 3 ks3 1 1 3 _ w (Vars_plain 3 ⟨#[82, 95, 84, 82, 73, 71]⟩ ⟨#[67, 76, 75, 32, 81, 32, 77]⟩ ks3 1 1 42 3 _ w numbered_3 rfl rfl (by decide) (by decide) fld3 ht (by decide) (by decide)) (by decide) (by decide)
theorem fld5 : FldOk ⟨#[67, 85, 32, 82, 32, 80, 86, 32, 81, 32, 67, 86, 32, 77]⟩ 6 (nmsOf [⟨#[67, 85]⟩, ⟨#[82]⟩, ⟨#[80, 86]⟩, ⟨#[81]⟩, ⟨#[67, 86]⟩, ⟨#[77]⟩]) where
  small := by decide
  ascii := fun j b h => (show ∀ b ∈ (⟨#[67, 85, 32, 82, 32, 80, 86, 32, 81, 32, 67, 86, 32, 77]⟩ : ByteArray).data.toList, b.toNat < 128 by decide) b (List.mem_of_getElem? h)
  len := by decide
  at_ := fun i hi => by
    match i, hi with
    | 0, _ => rfl
    | 1, _ => rfl
    | 2, _ => rfl
    | 3, _ => rfl
    | 4, _ => rfl
    | 5, _ => rfl
theorem Start_5 (w : World) (ht : Asc w) : Calls Tryd.prog 16 #[.int .i64 5] w fun e w' => ∃ g c, e = .returned (.slice (some ⟨g, 0, none⟩) 6 c) ∧ w.heap.size ≤ g ∧ Row3 w' g 6 (strV ksC) ∧ Below w.heap.size w w' :=
  Start_plain 5 ksC 3 2 6 _ w (Vars_plain 5 ⟨#[67, 84, 85]⟩ ⟨#[67, 85, 32, 82, 32, 80, 86, 32, 81, 32, 67, 86, 32, 77]⟩ ksC 3 2 44 6 _ w numbered_5 rfl rfl (by decide) (by decide) fld5 ht (by decide) (by decide)) (by decide) (by decide)
theorem fld6 : FldOk ⟨#[67, 68, 32, 76, 68, 32, 80, 86, 32, 81, 32, 67, 86, 32, 77]⟩ 6 (nmsOf [⟨#[67, 68]⟩, ⟨#[76, 68]⟩, ⟨#[80, 86]⟩, ⟨#[81]⟩, ⟨#[67, 86]⟩, ⟨#[77]⟩]) where
  small := by decide
  ascii := fun j b h => (show ∀ b ∈ (⟨#[67, 68, 32, 76, 68, 32, 80, 86, 32, 81, 32, 67, 86, 32, 77]⟩ : ByteArray).data.toList, b.toNat < 128 by decide) b (List.mem_of_getElem? h)
  len := by decide
  at_ := fun i hi => by
    match i, hi with
    | 0, _ => rfl
    | 1, _ => rfl
    | 2, _ => rfl
    | 3, _ => rfl
    | 4, _ => rfl
    | 5, _ => rfl
theorem Start_6 (w : World) (ht : Asc w) : Calls Tryd.prog 16 #[.int .i64 6] w fun e w' => ∃ g c, e = .returned (.slice (some ⟨g, 0, none⟩) 6 c) ∧ w.heap.size ≤ g ∧ Row3 w' g 6 (strV ksC) ∧ Below w.heap.size w w' :=
  Start_plain 6 ksC 3 2 6 _ w (Vars_plain 6 ⟨#[67, 84, 68]⟩ ⟨#[67, 68, 32, 76, 68, 32, 80, 86, 32, 81, 32, 67, 86, 32, 77]⟩ ksC 3 2 45 6 _ w numbered_6 rfl rfl (by decide) (by decide) fld6 ht (by decide) (by decide)) (by decide) (by decide)
theorem fld7 : FldOk ⟨#[67, 85, 32, 67, 68, 32, 82, 32, 76, 68, 32, 80, 86, 32, 81, 85, 32, 81, 68, 32, 67, 86, 32, 77, 32, 78]⟩ 10 (nmsOf [⟨#[67, 85]⟩, ⟨#[67, 68]⟩, ⟨#[82]⟩, ⟨#[76, 68]⟩, ⟨#[80, 86]⟩, ⟨#[81, 85]⟩, ⟨#[81, 68]⟩, ⟨#[67, 86]⟩, ⟨#[77]⟩, ⟨#[78]⟩]) where
  small := by decide
  ascii := fun j b h => (show ∀ b ∈ (⟨#[67, 85, 32, 67, 68, 32, 82, 32, 76, 68, 32, 80, 86, 32, 81, 85, 32, 81, 68, 32, 67, 86, 32, 77, 32, 78]⟩ : ByteArray).data.toList, b.toNat < 128 by decide) b (List.mem_of_getElem? h)
  len := by decide
  at_ := fun i hi => by
    match i, hi with
    | 0, _ => rfl
    | 1, _ => rfl
    | 2, _ => rfl
    | 3, _ => rfl
    | 4, _ => rfl
    | 5, _ => rfl
    | 6, _ => rfl
    | 7, _ => rfl
    | 8, _ => rfl
    | 9, _ => rfl
theorem Start_7 (w : World) (ht : Asc w) : Calls Tryd.prog 16 #[.int .i64 7] w fun e w' => ∃ g c, e = .returned (.slice (some ⟨g, 0, none⟩) 10 c) ∧ w.heap.size ≤ g ∧ Row3 w' g 10 (strV ksB) ∧ Below w.heap.size w w' :=
  Start_plain 7 ksB 5 3 10 _ w (Vars_plain 7 ⟨#[67, 84, 85, 68]⟩ ⟨#[67, 85, 32, 67, 68, 32, 82, 32, 76, 68, 32, 80, 86, 32, 81, 85, 32, 81, 68, 32, 67, 86, 32, 77, 32, 78]⟩ ksB 5 3 46 10 _ w numbered_7 rfl rfl (by decide) (by decide) fld7 ht (by decide) (by decide)) (by decide) (by decide)
theorem fld8 : FldOk ⟨#[73, 78, 32, 80, 84, 32, 81, 32, 69, 84, 32, 77, 32, 83]⟩ 6 (nmsOf [⟨#[73, 78]⟩, ⟨#[80, 84]⟩, ⟨#[81]⟩, ⟨#[69, 84]⟩, ⟨#[77]⟩, ⟨#[83]⟩]) where
  small := by decide
  ascii := fun j b h => (show ∀ b ∈ (⟨#[73, 78, 32, 80, 84, 32, 81, 32, 69, 84, 32, 77, 32, 83]⟩ : ByteArray).data.toList, b.toNat < 128 by decide) b (List.mem_of_getElem? h)
  len := by decide
  at_ := fun i hi => by
    match i, hi with
    | 0, _ => rfl
    | 1, _ => rfl
    | 2, _ => rfl
    | 3, _ => rfl
    | 4, _ => rfl
    | 5, _ => rfl
theorem Start_8 (w : World) (ht : Asc w) : Calls Tryd.prog 16 #[.int .i64 8] w fun e w' => ∃ g c, e = .returned (.slice (some ⟨g, 0, none⟩) 6 c) ∧ w.heap.size ≤ g ∧ Row3 w' g 6 (strV ksT) ∧ Below w.heap.size w w' :=
  Start_plain 8 ksT 2 2 6 _ w (Vars_plain 8 ⟨#[84, 80]⟩ ⟨#[73, 78, 32, 80, 84, 32, 81, 32, 69, 84, 32, 77, 32, 83]⟩ ksT 2 2 47 6 _ w numbered_8 rfl rfl (by decide) (by decide) fld8 ht (by decide) (by decide)) (by decide) (by decide)
theorem fld9 : FldOk ⟨#[73, 78, 32, 80, 84, 32, 81, 32, 69, 84, 32, 77, 32, 83]⟩ 6 (nmsOf [⟨#[73, 78]⟩, ⟨#[80, 84]⟩, ⟨#[81]⟩, ⟨#[69, 84]⟩, ⟨#[77]⟩, ⟨#[83]⟩]) where
  small := by decide
  ascii := fun j b h => (show ∀ b ∈ (⟨#[73, 78, 32, 80, 84, 32, 81, 32, 69, 84, 32, 77, 32, 83]⟩ : ByteArray).data.toList, b.toNat < 128 by decide) b (List.mem_of_getElem? h)
  len := by decide
  at_ := fun i hi => by
    match i, hi with
    | 0, _ => rfl
    | 1, _ => rfl
    | 2, _ => rfl
    | 3, _ => rfl
    | 4, _ => rfl
    | 5, _ => rfl
theorem Start_9 (w : World) (ht : Asc w) : Calls Tryd.prog 16 #[.int .i64 9] w fun e w' => ∃ g c, e = .returned (.slice (some ⟨g, 0, none⟩) 6 c) ∧ w.heap.size ≤ g ∧ Row3 w' g 6 (strV ksT) ∧ Below w.heap.size w w' :=
  Start_plain 9 ksT 2 2 6 _ w (Vars_plain 9 ⟨#[84, 79, 78]⟩ ⟨#[73, 78, 32, 80, 84, 32, 81, 32, 69, 84, 32, 77, 32, 83]⟩ ksT 2 2 48 6 _ w numbered_9 rfl rfl (by decide) (by decide) fld9 ht (by decide) (by decide)) (by decide) (by decide)
theorem fld10 : FldOk ⟨#[73, 78, 32, 80, 84, 32, 81, 32, 69, 84, 32, 77, 32, 83]⟩ 6 (nmsOf [⟨#[73, 78]⟩, ⟨#[80, 84]⟩, ⟨#[81]⟩, ⟨#[69, 84]⟩, ⟨#[77]⟩, ⟨#[83]⟩]) where
  small := by decide
  ascii := fun j b h => (show ∀ b ∈ (⟨#[73, 78, 32, 80, 84, 32, 81, 32, 69, 84, 32, 77, 32, 83]⟩ : ByteArray).data.toList, b.toNat < 128 by decide) b (List.mem_of_getElem? h)
  len := by decide
  at_ := fun i hi => by
    match i, hi with
    | 0, _ => rfl
    | 1, _ => rfl
    | 2, _ => rfl
    | 3, _ => rfl
    | 4, _ => rfl
    | 5, _ => rfl
theorem Start_10 (w : World) (ht : Asc w) : Calls Tryd.prog 16 #[.int .i64 10] w fun e w' => ∃ g c, e = .returned (.slice (some ⟨g, 0, none⟩) 6 c) ∧ w.heap.size ≤ g ∧ Row3 w' g 6 (strV ksT) ∧ Below w.heap.size w w' :=
  Start_plain 10 ksT 2 2 6 _ w (Vars_plain 10 ⟨#[84, 79, 70]⟩ ⟨#[73, 78, 32, 80, 84, 32, 81, 32, 69, 84, 32, 77, 32, 83]⟩ ksT 2 2 49 6 _ w numbered_10 rfl rfl (by decide) (by decide) fld10 ht (by decide) (by decide)) (by decide) (by decide)
end Go.Proofs.YtjnegbjgogkamaaDoor
namespace Go.Proofs.YtjnegbjgogkamaaDoor
set_option linter.unusedVariables false
open Go.RowKit
theorem fldF' : FldOk ⟨#[67, 76, 75, 32, 81, 32, 77]⟩ 3 nmF where
  small := by decide
  ascii := fun j b h => (show ∀ b ∈ (⟨#[67, 76, 75, 32, 81, 32, 77]⟩ : ByteArray).data.toList, b.toNat < 128 by decide) b (List.mem_of_getElem? h)
  len := by decide
  at_ := fun i hi => by
    match i, hi with
    | 0, _ => rfl
    | 1, _ => rfl
    | 2, _ => rfl
theorem Start_4' (w : World) (ht : Asc w) : Calls Tryd.prog 16 #[.int .i64 4] w fun e w' => ∃ g c, e = .returned (.slice (some ⟨g, 0, none⟩) 3 c) ∧ w.heap.size ≤ g ∧ Row3 w' g 3 (stF ks3) ∧ Below w.heap.size w w' :=
  Start_fall ks3 1 1 w (Vars_fall ⟨#[70, 95, 84, 82, 73, 71]⟩ ⟨#[67, 76, 75, 32, 81, 32, 77]⟩ ks3 1 1 43 w numbered_4 rfl fldF' ht (by decide) (by decide)) rfl
/-- A block's beginning, and its inputs. -/
structure Bgn (K : Int) (n : Nat) (u : Nat → Vl) (m : Nat) : Prop where
  hn : 0 < n
  hn2 : n ≤ 100
  hm : m ≤ 100
  ok : ∀ i, i < n → VlOk (u i)
  sp : ∀ w, Asc w → Calls Tryd.prog 16 #[.int .i64 K] w fun e w' => ∃ g c, e = .returned (.slice (some ⟨g, 0, none⟩) n c) ∧ w.heap.size ≤ g ∧ Row3 w' g n u ∧ Below w.heap.size w w'
  sr : ∀ w, Calls Tryd.prog 17 #[.int .i64 K] w fun e w' => ∃ g c, e = .returned (.slice (some ⟨g, 0, none⟩) n c) ∧ w.heap.size ≤ g ∧ Row3 w' g n u ∧ Below w.heap.size w w'
  ir : ∀ w, Calls Tryd.prog 20 #[.int .i64 K] w fun e w' => e = .returned (.int .i64 m) ∧ Below w.heap.size w w'
theorem st_ok (ks : ByteArray) (i : Nat) : VlOk (strV ks i) := by
  have := K3_r (kAt_cases ks i)
  exact ⟨this.1, this.2, by show (0 : Int) ≤ 0; omega, by show (0 : Int) < 18446744073709551616; omega, by show (⟨#[]⟩ : ByteArray).size ≤ maxLen; decide⟩
theorem stF_ok (i : Nat) : VlOk (stF ks3 i) := by
  unfold stF
  split
  · exact ⟨by decide, by decide, by decide, by decide, by decide⟩
  · exact st_ok ks3 i
theorem bgn_1 : Bgn 1 3 (strV ks3) (insN (clsN 2 1) 3) where
  hn := by decide
  hn2 := by decide
  hm := Nat.le_trans (insN_le _ _) (by decide)
  ok := fun i _ => st_ok ks3 i
  sp := fun w ht => Start_1 w ht
  sr := fun w => StartR_gen 1 3 _ w (by decide) (by decide) ((VarsR_1 w).mono fun e w' ⟨g, c, h1, h2, h3, h4⟩ => ⟨g, c, h1, h2, ⟨_, h3, fun i hi => .inl ⟨rfl, rfl⟩⟩, h4⟩)
  ir := fun w => ins_of 1 3 _ w (by decide) ((VarsR_1 w).mono fun e w' ⟨g, c, h1, h2, h3, h4⟩ => ⟨g, c, h1, h2, ⟨_, h3, rfl, fun i hi => ⟨_, _, _, rfl⟩⟩, h4⟩)
theorem bgn_2 : Bgn 2 3 (strV ks3) (insN (clsN 2 1) 3) where
  hn := by decide
  hn2 := by decide
  hm := Nat.le_trans (insN_le _ _) (by decide)
  ok := fun i _ => st_ok ks3 i
  sp := fun w ht => Start_2 w ht
  sr := fun w => StartR_gen 2 3 _ w (by decide) (by decide) ((VarsR_2 w).mono fun e w' ⟨g, c, h1, h2, h3, h4⟩ => ⟨g, c, h1, h2, ⟨_, h3, fun i hi => .inl ⟨rfl, rfl⟩⟩, h4⟩)
  ir := fun w => ins_of 2 3 _ w (by decide) ((VarsR_2 w).mono fun e w' ⟨g, c, h1, h2, h3, h4⟩ => ⟨g, c, h1, h2, ⟨_, h3, rfl, fun i hi => ⟨_, _, _, rfl⟩⟩, h4⟩)
theorem bgn_3 : Bgn 3 3 (strV ks3) (insN (clsN 1 1) 3) where
  hn := by decide
  hn2 := by decide
  hm := Nat.le_trans (insN_le _ _) (by decide)
  ok := fun i _ => st_ok ks3 i
  sp := fun w ht => Start_3 w ht
  sr := fun w => StartR_gen 3 3 _ w (by decide) (by decide) ((VarsR_3 w).mono fun e w' ⟨g, c, h1, h2, h3, h4⟩ => ⟨g, c, h1, h2, ⟨_, h3, fun i hi => .inl ⟨rfl, rfl⟩⟩, h4⟩)
  ir := fun w => ins_of 3 3 _ w (by decide) ((VarsR_3 w).mono fun e w' ⟨g, c, h1, h2, h3, h4⟩ => ⟨g, c, h1, h2, ⟨_, h3, rfl, fun i hi => ⟨_, _, _, rfl⟩⟩, h4⟩)
theorem bgn_4 : Bgn 4 3 (stF ks3) (insN (clsN 1 1) 3) where
  hn := by decide
  hn2 := by decide
  hm := Nat.le_trans (insN_le _ _) (by decide)
  ok := fun i _ => stF_ok i
  sp := fun w ht => Start_4' w ht
  sr := fun w => StartR_gen 4 3 _ w (by decide) (by decide) ((VarsR_4 w).mono fun e w' ⟨g, c, h1, h2, ⟨b, h3, h5⟩, h4⟩ => ⟨g, c, h1, h2, ⟨_, h3, fun i hi => by
    by_cases e : i = 2
    · refine .inr ⟨b, ?_, h5, ?_⟩
      · show iniR b i = _; unfold iniR; rw [if_pos e]
      · unfold stF; rw [if_pos e]
    · refine .inl ⟨?_, ?_⟩
      · show iniR b i = _; unfold iniR; rw [if_neg e]
      · unfold stF; rw [if_neg e]⟩, h4⟩)
  ir := fun w => ins_of 4 3 _ w (by decide) ((VarsR_4 w).mono fun e w' ⟨g, c, h1, h2, ⟨b, h3, h5⟩, h4⟩ => ⟨g, c, h1, h2, ⟨_, h3, rfl, fun i hi => by
    by_cases e : i = 2
    · exact ⟨_, _, _, by show iniR b i = _; unfold iniR; rw [if_pos e]⟩
    · exact ⟨_, _, _, by show iniR b i = _; unfold iniR; rw [if_neg e]⟩⟩, h4⟩)
theorem bgn_5 : Bgn 5 6 (strV ksC) (insN (clsN 3 2) 6) where
  hn := by decide
  hn2 := by decide
  hm := Nat.le_trans (insN_le _ _) (by decide)
  ok := fun i _ => st_ok ksC i
  sp := fun w ht => Start_5 w ht
  sr := fun w => StartR_gen 5 6 _ w (by decide) (by decide) ((VarsR_5 w).mono fun e w' ⟨g, c, h1, h2, h3, h4⟩ => ⟨g, c, h1, h2, ⟨_, h3, fun i hi => .inl ⟨rfl, rfl⟩⟩, h4⟩)
  ir := fun w => ins_of 5 6 _ w (by decide) ((VarsR_5 w).mono fun e w' ⟨g, c, h1, h2, h3, h4⟩ => ⟨g, c, h1, h2, ⟨_, h3, rfl, fun i hi => ⟨_, _, _, rfl⟩⟩, h4⟩)
theorem bgn_6 : Bgn 6 6 (strV ksC) (insN (clsN 3 2) 6) where
  hn := by decide
  hn2 := by decide
  hm := Nat.le_trans (insN_le _ _) (by decide)
  ok := fun i _ => st_ok ksC i
  sp := fun w ht => Start_6 w ht
  sr := fun w => StartR_gen 6 6 _ w (by decide) (by decide) ((VarsR_6 w).mono fun e w' ⟨g, c, h1, h2, h3, h4⟩ => ⟨g, c, h1, h2, ⟨_, h3, fun i hi => .inl ⟨rfl, rfl⟩⟩, h4⟩)
  ir := fun w => ins_of 6 6 _ w (by decide) ((VarsR_6 w).mono fun e w' ⟨g, c, h1, h2, h3, h4⟩ => ⟨g, c, h1, h2, ⟨_, h3, rfl, fun i hi => ⟨_, _, _, rfl⟩⟩, h4⟩)
theorem bgn_7 : Bgn 7 10 (strV ksB) (insN (clsN 5 3) 10) where
  hn := by decide
  hn2 := by decide
  hm := Nat.le_trans (insN_le _ _) (by decide)
  ok := fun i _ => st_ok ksB i
  sp := fun w ht => Start_7 w ht
  sr := fun w => StartR_gen 7 10 _ w (by decide) (by decide) ((VarsR_7 w).mono fun e w' ⟨g, c, h1, h2, h3, h4⟩ => ⟨g, c, h1, h2, ⟨_, h3, fun i hi => .inl ⟨rfl, rfl⟩⟩, h4⟩)
  ir := fun w => ins_of 7 10 _ w (by decide) ((VarsR_7 w).mono fun e w' ⟨g, c, h1, h2, h3, h4⟩ => ⟨g, c, h1, h2, ⟨_, h3, rfl, fun i hi => ⟨_, _, _, rfl⟩⟩, h4⟩)
theorem bgn_8 : Bgn 8 6 (strV ksT) (insN (clsN 2 2) 6) where
  hn := by decide
  hn2 := by decide
  hm := Nat.le_trans (insN_le _ _) (by decide)
  ok := fun i _ => st_ok ksT i
  sp := fun w ht => Start_8 w ht
  sr := fun w => StartR_gen 8 6 _ w (by decide) (by decide) ((VarsR_8 w).mono fun e w' ⟨g, c, h1, h2, h3, h4⟩ => ⟨g, c, h1, h2, ⟨_, h3, fun i hi => .inl ⟨rfl, rfl⟩⟩, h4⟩)
  ir := fun w => ins_of 8 6 _ w (by decide) ((VarsR_8 w).mono fun e w' ⟨g, c, h1, h2, h3, h4⟩ => ⟨g, c, h1, h2, ⟨_, h3, rfl, fun i hi => ⟨_, _, _, rfl⟩⟩, h4⟩)
theorem bgn_9 : Bgn 9 6 (strV ksT) (insN (clsN 2 2) 6) where
  hn := by decide
  hn2 := by decide
  hm := Nat.le_trans (insN_le _ _) (by decide)
  ok := fun i _ => st_ok ksT i
  sp := fun w ht => Start_9 w ht
  sr := fun w => StartR_gen 9 6 _ w (by decide) (by decide) ((VarsR_9 w).mono fun e w' ⟨g, c, h1, h2, h3, h4⟩ => ⟨g, c, h1, h2, ⟨_, h3, fun i hi => .inl ⟨rfl, rfl⟩⟩, h4⟩)
  ir := fun w => ins_of 9 6 _ w (by decide) ((VarsR_9 w).mono fun e w' ⟨g, c, h1, h2, h3, h4⟩ => ⟨g, c, h1, h2, ⟨_, h3, rfl, fun i hi => ⟨_, _, _, rfl⟩⟩, h4⟩)
theorem bgn_10 : Bgn 10 6 (strV ksT) (insN (clsN 2 2) 6) where
  hn := by decide
  hn2 := by decide
  hm := Nat.le_trans (insN_le _ _) (by decide)
  ok := fun i _ => st_ok ksT i
  sp := fun w ht => Start_10 w ht
  sr := fun w => StartR_gen 10 6 _ w (by decide) (by decide) ((VarsR_10 w).mono fun e w' ⟨g, c, h1, h2, h3, h4⟩ => ⟨g, c, h1, h2, ⟨_, h3, fun i hi => .inl ⟨rfl, rfl⟩⟩, h4⟩)
  ir := fun w => ins_of 10 6 _ w (by decide) ((VarsR_10 w).mono fun e w' ⟨g, c, h1, h2, h3, h4⟩ => ⟨g, c, h1, h2, ⟨_, h3, rfl, fun i hi => ⟨_, _, _, rfl⟩⟩, h4⟩)
theorem bgn_any (K : Int) (h : 1 ≤ K ∧ K ≤ 10) : ∃ n u m, Bgn K n u m := by
  rcases (show K = 1 ∨ K = 2 ∨ K = 3 ∨ K = 4 ∨ K = 5 ∨ K = 6 ∨ K = 7 ∨ K = 8 ∨ K = 9 ∨ K = 10 by omega) with rfl | rfl | rfl | rfl | rfl | rfl | rfl | rfl | rfl | rfl
  · exact ⟨_, _, _, bgn_1⟩
  · exact ⟨_, _, _, bgn_2⟩
  · exact ⟨_, _, _, bgn_3⟩
  · exact ⟨_, _, _, bgn_4⟩
  · exact ⟨_, _, _, bgn_5⟩
  · exact ⟨_, _, _, bgn_6⟩
  · exact ⟨_, _, _, bgn_7⟩
  · exact ⟨_, _, _, bgn_8⟩
  · exact ⟨_, _, _, bgn_9⟩
  · exact ⟨_, _, _, bgn_10⟩
end Go.Proofs.YtjnegbjgogkamaaDoor
namespace Go.Proofs.YtjnegbjgogkamaaDoor
set_option linter.unusedVariables false
open Go.RowKit Go.ChangeShapes Go.WideShapes Go.ChangeAt Go.Joins Go.Deep
theorem asc_data {H : Type} : (Rows.laid_strings_asciiSpace : DataW H) = Lib.tabData .u8 Lib.asciiSpaceTab := by kernel_rfl
set_option maxRecDepth 100000 in
theorem asc_of {W : World} (h : laidMetH Tryd.prog [("unicode.White_Space", Rows.laid_unicode_White_Space), ("strings.asciiSpace", Rows.laid_strings_asciiSpace)] W) : Asc W := by
  rw [MakeChecks.laidMetH_plain _ _ _ (by kernel_rfl)] at h
  obtain ⟨ps, ⟨_, _, _, _, _, _, _, _, _, _, hrest, _⟩, _⟩ := h
  obtain ⟨g', t', cs, fuel, p, q, hg', ht', hvar, hd, _, _⟩ := hrest
  obtain rfl := Option.some.inj ((show Tryd.prog.globalNamed "strings.asciiSpace" = some 0 by kernel_rfl).symm.trans hg')
  obtain rfl := Option.some.inj ((show (Tryd.prog.globals[0]?).map (·.type) = some 75 by kernel_rfl).symm.trans ht')
  rw [asc_data] at hd
  unfold Asc Lib.TabIs
  rw [hvar, ← Lib.cells_of_tab Tryd.underlying75 Tryd.underlying5 (by kernel_rfl) (by kernel_rfl) hd]
end Go.Proofs.YtjnegbjgogkamaaDoor
namespace Go.Proofs.YtjnegbjgogkamaaDoor.LawLives
set_option linter.unusedVariables false
open Go.RowKit Go.Proofs.YtjnegbjgogkamaaDoor Go.ChangeShapes Go.WideShapes Go.ChangeAt Go.Joins
theorem md_ex' (x m : Int) (h0 : 0 < m) (h1 : m ≤ 1125899906842624) : ∃ q, wrap64 ((IntKind.u64.wrap x).tmod m) = q ∧ 0 ≤ q ∧ q < m := by
  refine ⟨_, rfl, ?_⟩
  have e : (IntKind.u64.wrap x).tmod m = (IntKind.u64.wrap x) % m := by
    rw [IntKind.wrap_u64]; exact Int.tmod_eq_emod_of_nonneg (by omega)
  rw [e]
  have a := Int.emod_nonneg (IntKind.u64.wrap x) (show m ≠ 0 by omega)
  have b := Int.emod_lt_of_pos (IntKind.u64.wrap x) h0
  unfold wrap64; omega
set_option maxRecDepth 20000 in
set_option maxHeartbeats 16000000 in
theorem walk (kd : Int) (ad : Option Addr) (n cap : Nat) (f : Nat → Cl) (w : World) (hkd : -9223372036854775808 ≤ kd ∧ kd < 9223372036854775808) (h0 : ad = none → n = 0 ∧ cap = 0) (hc : CsAt w ad n f) (hn : n ≤ maxLen) (ht : Asc w) :
    Calls Tryd.prog 4 #[.int .i64 kd, .slice ad n cap] w fun e w' => e = .returned (.bool true) ∧ Below w.heap.size w w' := by
  have HT : Hid (Asc w) := ht
  have HCS : Hid (CsAt w ad n f) := hc
  have H0 : Hid (ad = none → n = 0 ∧ cap = 0) := h0
  have hn' : n ≤ 9223372036854775807 := by simp only [maxLen] at hn; omega
  clear ht hc h0 hn
  obtain ⟨K0, EK, k0, k1⟩ := md_ex' kd 10 (by omega) (by omega)
  obtain ⟨nb, u0, m, hG⟩ := bgn_any (1 + K0) ⟨by omega, by omega⟩
  have HG : Hid (Bgn (1 + K0) nb u0 m) := hG
  have nb0 := hG.hn
  have nb1 := hG.hn2
  clear hG
  go_enter Tryd.func4, Tryd.ntmps4
  go_wp2_with fail
  refine (HG.out.sp _ HT.out).mono ?_
  rintro e w1 ⟨g1, c1, rfl, hg1, hr1, hb1⟩
  have B1 : Hid (Below w.heap.size w w1) := hb1
  have R1 : Hid (Row3 w1 g1 nb u0) := hr1
  clear hr1 hb1
  go_wp2_with fail
  refine (HG.out.sr _).mono ?_
  rintro e w2 ⟨g2, c2, rfl, hg2, hr2, hb2⟩
  have B2 : Hid (Below w.heap.size w w2) := B1.out.trans (hb2.mono B1.out.size)
  have R1' : Hid (Row3 w2 g1 nb u0) := R1.out.below hb2
  have R2 : Hid (Row3 w2 g2 nb u0) := hr2
  clear hr2 hb2
  go_wp2_with fail
  go_loopw [6, 7, 8, 26] (fun av bv nw i wr => ∃ (k : Nat) (now : Int) (u : Nat → Vl) (ga ca gb cb : Nat), k ≤ n ∧ i = .int .i64 k ∧ nw = .int .i64 now ∧ av = .slice (some ⟨ga, 0, none⟩) nb ca ∧ bv = .slice (some ⟨gb, 0, none⟩) nb cb ∧ Row3 wr ga nb u ∧ Row3 wr gb nb u ∧ (∀ i, i < nb → VlOk (u i)) ∧ 0 ≤ now ∧ now ≤ 4611686018427387904 ∧ Below w.heap.size w wr) (fun _ _ _ i _ => n - (intOf i).toNat)
  case atStart => exact ⟨0, 0, u0, g1, c1, g2, c2, Nat.zero_le _, rfl, rfl, rfl, rfl, R1'.out, R2.out, HG.out.ok, by omega, by omega, B2.out⟩
  case round =>
    obtain ⟨k, now, u, ga, ca, gb, cb, hk, rfl, rfl, rfl, rfl, hra, hrb, hu, n1, n2, hb⟩ := hrel
    have HRA : Hid (Row3 wr ga nb u) := hra
    have HRB : Hid (Row3 wr gb nb u) := hrb
    have HU : Hid (∀ i, i < nb → VlOk (u i)) := hu
    have HB : Hid (Below w.heap.size w wr) := hb
    by_cases hlt : k < n
    · obtain ⟨a0, rfl⟩ : ∃ a0, ad = some a0 := by
        cases ad with
        | none => have := (H0.out rfl).1; omega
        | some a0 => exact ⟨a0, rfl⟩
      obtain ⟨ok0, d0', d1'⟩ := HCS.out a0 rfl k hlt
      have za : (a0.add (k * 2)).block < w.heap.size := block_lt_of_cell d0'
      have d0 := (hb.cell (p := a0.add (k * 2)) za).trans d0'
      have d1 := (hb.cell (p := ⟨(a0.add (k * 2)).block, (a0.add (k * 2)).off + 1, none⟩) za).trans d1'
      have ok1 := ok0.below hb
      clear d0' d1' ok0 hra hrb hu hb
      generalize f k = cl at *
      obtain ⟨cad, cn, ccap, cf, cp⟩ := cl
      have KO1 : Hid (ClOk wr ⟨cad, cn, ccap, cf, cp⟩) := ok1
      clear ok1
      obtain ⟨q, Eq, q0, q1⟩ := md_ex' cp 1099511627776 (by omega) (by omega)
      have hlt' : (k : Int) < n := by omega
      by_cases hbig : 4611686018427387904 < now + q
      · go_wp2
        go_ret
        exact ⟨rfl, HB.out.alloc HB.out.size _⟩
      · obtain ⟨o, hP, hR, hVV⟩ := step_both (1 + K0) nb (putU m cf u cn) (now + q) (putU_ok KO1.out.ok HU.out)
        have HP : Hid (∀ (a : Addr) (cap : Nat) (w : World), VsAt w a nb (putU m cf u cn) → Calls Tryd.prog 18 #[.int .i64 (1 + K0), .slice (some a) nb cap, .int .i64 (now + q)] w fun e w' => Ans w w' nb o e) := hP
        have HR : Hid (∀ (a : Addr) (cap : Nat) (w : World), VsAt w a nb (putU m cf u cn) → Calls Tryd.prog 21 #[.int .i64 (1 + K0), .slice (some a) nb cap, .int .i64 (now + q)] w fun e w' => Ans w w' nb o e) := hR
        have HVO : Hid (∀ v, o = some v → ∀ i, VlOk (v i)) := hVV
        clear hP hR hVV
        go_wp2_with fail
        have xb : (wr.alloc (.cells #[.slice cad cn ccap, .int .i64 cp] 40)).cell? ⟨wr.heap.size, 0, none⟩ = some (.slice cad cn ccap) := by simp
        have HW0 : Hid (Below wr.heap.size wr (wr.alloc (.cells #[.slice cad cn ccap, .int .i64 cp] 40))) := (Below.refl _ _).alloc (Nat.le_refl _) _
        generalize wr.alloc (.cells #[.slice cad cn ccap, .int .i64 cp] 40) = W0 at xb HW0 ⊢
        have zb : wr.heap.size < W0.heap.size := block_lt_of_cell xb
        have BB : Hid (Below W0.heap.size W0 W0) := Below.refl _ _
        have RA : Hid (Row3 W0 ga nb u) := HRA.out.below HW0.out
        have RB : Hid (Row3 W0 gb nb u) := HRB.out.below HW0.out
        have KO : Hid (ClOk W0 ⟨cad, cn, ccap, cf, cp⟩) := KO1.out.below HW0.out
        clear d0 d1
        cases o with
        | none =>
          go_region_held3 (fun w' => w'.cell? ⟨wr.heap.size, 0, none⟩ = some (.slice cad cn ccap)) (go_keep)
            (first | (go_at_call 20; refine (HG.out.ir _).mono ?_; rintro e w3 ⟨rfl, hb3⟩; have BB : Hid (Below W0.heap.size W0 w3) := below_step (by first | exact BB.out | exact BB.out.drew) hb3; have xb3 := (BB.out.cell (p := ⟨wr.heap.size, 0, none⟩) zb).trans xb; clear hb3) | (go_at_call 19; refine (put_of' ⟨ga, 0, none⟩ nb _ u cad cn ccap cf m _ ((RA.out.below BB.out).at) HG.out.hn HG.out.hn2 HG.out.hm KO.out.no (fun a e => (KO.out.at_ a e).below BB.out) KO.out.len).mono ?_; rintro e w4 ⟨g4, c4, rfl, hg4, hr4, hb4⟩; have BB : Hid (Below W0.heap.size W0 w4) := below_step (by first | exact BB.out | exact BB.out.drew) hb4; have xb3 := (BB.out.cell (p := ⟨wr.heap.size, 0, none⟩) zb).trans xb; have R4 : Hid (Row3 w4 g4 nb (putU m cf u cn)) := hr4; clear hr4 hb4 hg4) | (go_at_call 18; refine (HP.out ⟨g4, 0, none⟩ c4 _ R4.out.at).mono ?_; rintro e w5 ⟨hb5, rfl⟩; have BB : Hid (Below W0.heap.size W0 w5) := below_step (by first | exact BB.out | exact BB.out.drew) hb5; have xb3 := (BB.out.cell (p := ⟨wr.heap.size, 0, none⟩) zb).trans xb; clear hb5))
          go_wp2_with fail
          go_region_held3 (fun w' => w'.cell? ⟨wr.heap.size, 0, none⟩ = some (.slice cad cn ccap)) (go_keep)
            (first | (go_at_call 20; refine (HG.out.ir _).mono ?_; rintro e w3 ⟨rfl, hb3⟩; have BB : Hid (Below W0.heap.size W0 w3) := below_step (by first | exact BB.out | exact BB.out.drew) hb3; have xb3 := (BB.out.cell (p := ⟨wr.heap.size, 0, none⟩) zb).trans xb; clear hb3) | (go_at_call 19; refine (put_of' ⟨gb, 0, none⟩ nb _ u cad cn ccap cf m _ ((RB.out.below BB.out).at) HG.out.hn HG.out.hn2 HG.out.hm KO.out.no (fun a e => (KO.out.at_ a e).below BB.out) KO.out.len).mono ?_; rintro e w6 ⟨g6, c6, rfl, hg4, hr4, hb4⟩; have BB : Hid (Below W0.heap.size W0 w6) := below_step (by first | exact BB.out | exact BB.out.drew) hb4; have xb3 := (BB.out.cell (p := ⟨wr.heap.size, 0, none⟩) zb).trans xb; have R6 : Hid (Row3 w6 g6 nb (putU m cf u cn)) := hr4; clear hr4 hb4 hg4) | (go_at_call 21; refine (HR.out ⟨g6, 0, none⟩ c6 _ R6.out.at).mono ?_; rintro e w8 ⟨hb5, rfl⟩; have BB : Hid (Below W0.heap.size W0 w8) := below_step (by first | exact BB.out | exact BB.out.drew) hb5; have xb3 := (BB.out.cell (p := ⟨wr.heap.size, 0, none⟩) zb).trans xb; clear hb5))
          have B8 : Hid (Below wr.heap.size wr w8) := HW0.out.trans (BB.out.mono HW0.out.size)
          go_wp2_with fail
          refine (Equal_none _ _ _ _ _).mono ?_
          rintro e w9 ⟨rfl, hb9⟩
          have B9 : Hid (Below wr.heap.size wr w9) := below_step B8.out hb9
          clear hb9
          go_wp2
          exact ⟨⟨k + 1, now + q, u, ga, ca, gb, cb, by omega, by go_num, by go_num, rfl, rfl, HRA.out.below B9.out, HRB.out.below B9.out, HU.out, by omega, by omega, HB.out.trans (B9.out.mono HB.out.size)⟩, by simp [intOf]; omega⟩
        | some v =>
          have HVV : Hid (∀ i, i < nb → VlOk (v i)) := fun i _ => HVO.out v rfl i
          go_region_held3 (fun w' => w'.cell? ⟨wr.heap.size, 0, none⟩ = some (.slice cad cn ccap)) (go_keep)
            (first | (go_at_call 20; refine (HG.out.ir _).mono ?_; rintro e w3 ⟨rfl, hb3⟩; have BB : Hid (Below W0.heap.size W0 w3) := below_step (by first | exact BB.out | exact BB.out.drew) hb3; have xb3 := (BB.out.cell (p := ⟨wr.heap.size, 0, none⟩) zb).trans xb; clear hb3) | (go_at_call 19; refine (put_of' ⟨ga, 0, none⟩ nb _ u cad cn ccap cf m _ ((RA.out.below BB.out).at) HG.out.hn HG.out.hn2 HG.out.hm KO.out.no (fun a e => (KO.out.at_ a e).below BB.out) KO.out.len).mono ?_; rintro e w4 ⟨g4, c4, rfl, hg4, hr4, hb4⟩; have BB : Hid (Below W0.heap.size W0 w4) := below_step (by first | exact BB.out | exact BB.out.drew) hb4; have xb3 := (BB.out.cell (p := ⟨wr.heap.size, 0, none⟩) zb).trans xb; have R4 : Hid (Row3 w4 g4 nb (putU m cf u cn)) := hr4; clear hr4 hb4 hg4) | (go_at_call 18; refine (HP.out ⟨g4, 0, none⟩ c4 _ R4.out.at).mono ?_; rintro e w5 ⟨hb5, gw5, cw5, rfl, hg5, hr5⟩; have BB : Hid (Below W0.heap.size W0 w5) := below_step (by first | exact BB.out | exact BB.out.drew) hb5; have xb3 := (BB.out.cell (p := ⟨wr.heap.size, 0, none⟩) zb).trans xb; have Rw5 : Hid (Row3 w5 gw5 nb v) := hr5; clear hr5 hb5 hg5))
          go_wp2_with fail
          have Rk : Hid (Row3 w5 gw5 nb v) := Rw5.out
          go_region_held3 (fun w' => w'.cell? ⟨wr.heap.size, 0, none⟩ = some (.slice cad cn ccap)) (go_keep)
            (first | (go_at_call 20; refine (HG.out.ir _).mono ?_; rintro e w3 ⟨rfl, hb3⟩; have BB : Hid (Below W0.heap.size W0 w3) := below_step (by first | exact BB.out | exact BB.out.drew) hb3; have xb3 := (BB.out.cell (p := ⟨wr.heap.size, 0, none⟩) zb).trans xb; have Rk : Hid (Row3 w3 gw5 nb v) := (by first | exact Rk.out.below hb3 | exact (Rk.out.below (Below.refl _ _).drew).below hb3); clear hb3) | (go_at_call 19; refine (put_of' ⟨gb, 0, none⟩ nb _ u cad cn ccap cf m _ ((RB.out.below BB.out).at) HG.out.hn HG.out.hn2 HG.out.hm KO.out.no (fun a e => (KO.out.at_ a e).below BB.out) KO.out.len).mono ?_; rintro e w6 ⟨g6, c6, rfl, hg4, hr4, hb4⟩; have BB : Hid (Below W0.heap.size W0 w6) := below_step (by first | exact BB.out | exact BB.out.drew) hb4; have xb3 := (BB.out.cell (p := ⟨wr.heap.size, 0, none⟩) zb).trans xb; have R6 : Hid (Row3 w6 g6 nb (putU m cf u cn)) := hr4; have Rk : Hid (Row3 w6 gw5 nb v) := (by first | exact Rk.out.below hb4 | exact (Rk.out.below (Below.refl _ _).drew).below hb4); clear hr4 hb4 hg4) | (go_at_call 21; refine (HR.out ⟨g6, 0, none⟩ c6 _ R6.out.at).mono ?_; rintro e w8 ⟨hb5, gw8, cw8, rfl, hg5, hr5⟩; have BB : Hid (Below W0.heap.size W0 w8) := below_step (by first | exact BB.out | exact BB.out.drew) hb5; have xb3 := (BB.out.cell (p := ⟨wr.heap.size, 0, none⟩) zb).trans xb; have Rw8 : Hid (Row3 w8 gw8 nb v) := hr5; have Rk : Hid (Row3 w8 gw5 nb v) := (by first | exact Rk.out.below hb5 | exact (Rk.out.below (Below.refl _ _).drew).below hb5); clear hr5 hb5 hg5))
          have B8 : Hid (Below wr.heap.size wr w8) := HW0.out.trans (BB.out.mono HW0.out.size)
          go_wp2_with fail
          refine (Equal_rows _ _ _ _ _ v _ Rk.out.at Rw8.out.at (by have := HG.out.hn2; omega)).mono ?_
          rintro e w9 ⟨rfl, hb9⟩
          have B9 : Hid (Below wr.heap.size wr w9) := below_step B8.out hb9
          have R9 : Hid (Row3 w9 gw5 nb v) := Rk.out.below hb9
          have R9' : Hid (Row3 w9 gw8 nb v) := Rw8.out.below hb9
          clear hb9
          go_wp2
          exact ⟨⟨k + 1, now + q, v, gw5, cw5, gw8, cw8, by omega, by go_num, by go_num, rfl, rfl, R9.out, R9'.out, HVV.out, by omega, by omega, HB.out.trans (B9.out.mono HB.out.size)⟩, by simp [intOf]; omega⟩
    · have ek : k = n := by omega
      clear hra hrb hu hb
      go_wp2_with fail
      refine (Equal_rows _ _ _ _ _ u _ HRA.out.at HRB.out.at (by omega)).mono ?_
      rintro e w9 ⟨rfl, hb9⟩
      have B9 : Hid (Below w.heap.size w w9) := HB.out.trans (hb9.mono HB.out.size)
      clear hb9
      go_wp2
      go_ret
      exact ⟨rfl, B9.out⟩


theorem own : ownKnob Tryd.prog.godebug = none := by kernel_rfl
theorem laidOut : laidOutB Tryd.prog = true := by kernel_rfl
set_option maxRecDepth 100000 in
theorem lifted (os : Os) (started : os.Started) (H : Type) (enc : TypeId × Value → H) :
    ReturnsInHanded {} Tryd.checked os 4 .any (fun w args => (Rows.blocksLivesSpec.pre enc Tryd.prog Tryd.f4 [] false w args ∧ laidMetH Tryd.prog Rows.blocksLivesRow.laid w) ∧ sizedMet enc Tryd.prog Tryd.f4 (OpenSpec.ofChange Rows.blocksLivesSpec) false w args)
      (Rows.blocksLivesSpec.post enc Tryd.prog Tryd.f4 false true false false) := by
  refine returnsInHanded_of_change_and (C := Tryd.checked) (X := fun w _ => laidMetH Tryd.prog Rows.blocksLivesRow.laid w) (fun _ _ _ hh h => h.of_heap hh) own started (by kernel_rfl) Tryd.func4
    (ChangeSpec.witness_shaped (enc := enc) (C := Tryd.checked) (os := os) (X := fun w _ => laidMetH Tryd.prog Rows.blocksLivesRow.laid w) false (World.laidAll Tryd.prog os Rows.blocksLivesRow.laid) #[.int .i64 0, .slice none 0 0] 8 (World.laidAll_os _ _ _)
      (World.shaped_of_ZipB (by kernel_rfl) (by kernel_rfl)) (by kernel_rfl) (by kernel_rfl) (by kernel_rfl)
      (by rw [MakeChecks.laidMetH_plain _ _ _ (by kernel_rfl)]; exact laidMet_laidAll _ (by kernel_rfl) (by kernel_rfl))) ?_
  intro W base args ds gs before hval0 hW _ hsz0 hL _
  have hval : ∀ (j : Nat) t v, Tryd.f4.params[j]? = some t → args[j]? = some v → Value.okWide Tryd.prog W .any base t v := hval0
  have hW' := hW
  obtain ⟨p, q, hA0, hV, rfl, hfz, hnd⟩ := hW
  have hA : DataW.TrodAll enc Tryd.prog W 0 (fun _ => true) true Tryd.f4.params.toList args.toList ds p := hA0
  have hsz : (DataW.weightsEach Tryd.prog (Tryd.f4.params.toList ++ Rows.blocksLivesSpec.plain.varTypes Tryd.prog) (ds ++ gs)).all (· ≤ reachBytes) = true := hsz0
  rw [Tryd.params4] at hA hval hsz
  obtain ⟨v0, vs0, d0, ds0, p0, q0, hargs, rfl, rfl, h0, r0⟩ := trodAll_cons hA
  obtain ⟨v1, vs1, d1, ds1, p1, q1, rfl, rfl, rfl, h1, r1⟩ := trodAll_cons r0
  obtain ⟨rfl, rfl, rfl⟩ := trodAll_nil r1
  obtain rfl : args = #[v0, v1] := by cases args; simp_all
  obtain ⟨rfl, rfl⟩ := trodVars_none hV
  obtain ⟨kd, rfl, rfl, rfl, wkd⟩ := open_int Tryd.underlying3 (hval 0 3 v0 rfl rfl) h0
  have bkd := bounds_i64 wkd
  have k1 := h1
  have lt1 : ∀ x ∈ p1, x.block < W.heap.size := by obtain ⟨m, hm⟩ := k1; exact DataW.trod_lt m _ _ _ hm
  obtain ⟨ad, n, cap, f, rfl, zad, tf, ln⟩ := open_calls (hval 1 37 v1 rfl rfl) h1
  have hT := asc_of hL
  clear hA0 hval0 hL
  refine (walk kd ad n cap f W (by omega) zad tf ln hT).mono fun e W' ⟨he, bel⟩ => ?_
  subst he
  exact ⟨_, rfl, _, _, _, [], _, [], hW', trodAll_mk1 (shut_bool Tryd.underlying4 _), (trodAll_cons_mk (shut_int Tryd.underlying3 wkd) (trodAll_cons_mk (Below.trod laidOut (by kernel_rfl) (of_decide_eq_true (by kernel_rfl)) k1 bel lt1) trodAll_mk0)), rfl, bel.frame _, fun h => by cases h⟩
theorem row_holds : Rows.BlocksLivesSaid :=
  OpenClaim.holds_of_wide 4 Tryd.f4 rfl rfl rfl rfl rfl rfl rfl ⟨rfl, rfl, rfl, rfl, rfl⟩ rfl rfl rfl rfl rfl (by kernel_rfl) Tryd.func4 (by kernel_rfl)
    (of_decide_eq_true (by kernel_rfl)) (by unfold Func.isWrapper; first | (rw [if_pos (by decide +kernel)]; kernel_rfl) | (rw [if_neg (by decide +kernel)]; exact ⟨rfl, rfl⟩))
    (fun os started H enc _ => lifted os started H enc)
end Go.Proofs.YtjnegbjgogkamaaDoor.LawLives
namespace Go.Proofs.YtjnegbjgogkamaaDoor
/-- THE STATEMENT, ITS TABLES TIED TO THE TEXTS. -/
theorem blocksLives_proved : Rows.BlocksLivesCardSaid :=
  Claim7.holds_tied_plain_at .later [] [.listed, .data] true (true, "25e70c5a78ee0586a3f76f535056dbfc73b1d5f8467cc660001d44cea8c18377") false
    LawLives.row_holds (fun _ h => by cases h) (by kernel_rfl) (fun _ h => by cases h) blocksLives_row_tie rfl ⟨rfl, rfl⟩ (by kernel_rfl) rfl
    (fun f fn hf hfn => by
      obtain rfl : f = 4 := Option.some.inj ((show Tryd.prog.funcNamed "relay/relaylaw10.BlocksLives" = some 4 by kernel_rfl).symm.trans hf) |>.symm
      obtain rfl : fn = Tryd.f4 := (Option.some.inj (Tryd.func4.symm.trans hfn)).symm
      exact ⟨by kernel_rfl, fun j t ht => by
        rw [Tryd.params4] at ht
        have hm : t ∈ [3, 37] := by simpa using Array.mem_of_getElem? ht
        have hall : ([3, 37].all fun u => !Tryd.prog.wantsStandIn u) = true := by kernel_rfl
        exact (show Tryd.prog.wantsStandIn t = false by simpa using List.all_eq_true.1 hall t hm)⟩)
    (by kernel_rfl)
end Go.Proofs.YtjnegbjgogkamaaDoor
