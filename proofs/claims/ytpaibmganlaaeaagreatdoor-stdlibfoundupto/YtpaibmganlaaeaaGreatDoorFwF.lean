/- StdlibFound is proved, in its second form: for every name and list of values, together of bulk at most the form's bound, the statement's function returns true, and its arguments read as they did; the listed tables hold what the programs' texts lay in them (tied). -/
import Derived.Test.YtpaibmganlaaeaaGreatDoorFwE
import Derived.Test.YtpaibmganlaaeaaGreatDoorFz39
import Derived.SizedLaws
import Derived.Deep.Slices
import Derived.Test.YtpaibmganlaaeaaGreatDoorTie
import Derived.Test.YtpaibmganlaaeaaGreatDoorCards
import Derived.ShutString
import Derived.ChangeOld
import Derived.ChangeMaps5
import Derived.Below
import Derived.LaidMore
import Derived.LaidSub
import Derived.Lay
import Derived.Lib.LaidTab
import Derived.MakeChecks
import Derived.SevenTiedAt
import Derived.Stop.Joined
import Derived.Deep.DeepHandedRow
import Derived.Shelf.Vars
namespace Go.Proofs.YtpaibmganlaaeaaGreatDoor
set_option linter.unusedVariables false
open Go.RowKit
theorem MayR_is (k b : Int) (s : ByteArray) (w : World) (p : Bool) (h0 : 0 ≤ b) (h1 : b < 18446744073709551616) (hk : 0 ≤ k ∧ k < 256) (hs : s.size ≤ maxLen) (h : may3 k b s = p) :
    Calls Tryz.prog 4 #[V k b s] w fun e w' => e = .returned (.bool p) ∧ Below w.heap.size w w' := by
  rw [← h]; exact MayR_of k b s w h0 h1 hk hs
theorem fu_form (z : Int) (hz : 1 ≤ z ∧ z ≤ 36 ∨ 65 ≤ z ∧ z ≤ 83) (gv : Nat) (e : (fuA z).gv = some gv) : ∃ nm fm nx hw tk, fuA z = ⟨nm, fm, nx, hw, some tk, some gv⟩ := by
  have t : ∃ tk, (fuA z).tk = some tk := by
    unfold fuA
    by_cases q : 1 ≤ z ∧ z ≤ 36
    · rw [if_pos q]
      have : ∀ k : Fin 37, 1 ≤ k.val → (fuT k.val).tk.isSome = true := by decide
      have := this ⟨z.toNat, by omega⟩ (by show 1 ≤ z.toNat; omega)
      exact Option.isSome_iff_exists.1 this
    · rw [if_neg q, if_pos (by omega)]
      exact ⟨_, rfl⟩
  obtain ⟨tk, ht⟩ := t
  exact ⟨(fuA z).nm, (fuA z).fm, (fuA z).nx, (fuA z).hw, tk, by rw [← e, ← ht]⟩
section
variable (nm : ByteArray) (a : Addr) (n cap : Nat) (v : Nat → Vl) (w : World)
set_option maxHeartbeats 4000000 in
theorem found_bad (hv : VsAt w a n v) (ho : ∀ i, i < n → VlOk (v i)) (hn : n < 2000000) (m : Nat) (hm : m < n) (hbad : may3 (v m).k (v m).b (v m).s = false) :
    Calls Tryz.prog 3 #[.string nm, .slice (some a) n cap] w fun e w' => e = .returned (.bool true) ∧ Below w.heap.size w w' := by
  have HV : Hid (VsAt w a n v) := hv
  have HO : Hid (∀ i, i < n → VlOk (v i)) := ho
  have HM : Hid _ := hbad
  clear hv ho hbad
  have I : Hid (∃ i, Tryz.prog.info? 24 = some i ∧ i.zero = some (.int .u8 0) ∧ i.size = 1 ∧ i.bytes = 1) := infoK
  go_enter Tryz.func3, Tryz.ntmps3
  go_wp2_with fail
  go_loopw [5, 18] (fun x i wr => ∃ k : Nat, k ≤ n ∧ i = .int .i64 k ∧ wr.ownsRow w.heap.size 24 1 x k (ksL k fun i => (v i).k) ∧ Below w.heap.size w wr ∧ ∀ j, j < k → may3 (v j).k (v j).b (v j).s = true) (fun _ i _ => n - (intOf i).toNat)
  case atStart => exact ⟨0, Nat.zero_le _, rfl, ⟨rfl, .inl ⟨rfl, rfl⟩⟩, Below.refl _ _, fun j hj => absurd hj (Nat.not_lt_zero _)⟩
  case round =>
    obtain ⟨k, hk, rfl, hown, hb, hall⟩ := hrel
    have HB : Hid (Below w.heap.size w wr) := hb
    have HR : Hid (wr.ownsRow w.heap.size 24 1 _ k (ksL k fun i => (v i).k)) := hown
    have zr := hb.size
    have HA : Hid _ := hall
    clear hall
    by_cases hlt : k < n
    · have O : Hid _ := HO.out k hlt
      obtain ⟨d0, d1, d2⟩ := HV.out.below HB.out k hlt
      clear hown hb
      cases mk : may3 (v k).k (v k).b (v k).s
      · have M : Hid (may3 (v k).k (v k).b (v k).s = false) := mk
        clear mk
        go_wp2_with (first | (go_at_call 4; refine (MayR_is _ _ _ _ false O.out.b0 O.out.b1 ⟨O.out.k0, O.out.k1⟩ O.out.s1 M.out).mono ?_; rintro e w5 ⟨rfl, hb5⟩; have HB5 : Hid (Below wr.heap.size wr w5) := ((Below.refl _ _).alloc (Nat.le_refl _) _).trans (hb5.mono (by simp)); clear hb5))
        have BB : Hid (Below w.heap.size w w5) := HB.out.trans (HB5.out.mono HB.out.size)
        go_ret
        exact ⟨rfl, BB.out⟩
      have M : Hid (may3 (v k).k (v k).b (v k).s = true) := mk
      clear mk
      go_wp2_with (first | (go_at_call 4; refine (MayR_is _ _ _ _ true O.out.b0 O.out.b1 ⟨O.out.k0, O.out.k1⟩ O.out.s1 M.out).mono ?_; rintro e w5 ⟨rfl, hb5⟩; obtain ⟨q5, f5⟩ := bcell hb5; have s5 := hb5.size; (try simp at s5); have l5 : wr.heap.size < w5.heap.size := (by omega); have HB5 : Hid (Below wr.heap.size wr w5) := ((Below.refl _ _).alloc (Nat.le_refl _) _).trans (hb5.mono (by simp)); have HO5 : Hid (w5.ownsRow w.heap.size 24 1 _ k (ksL k fun i => (v i).k)) := ownsRow_below HR.out HB5.out; clear hb5) | (at_builtin; obtain ⟨i, hi, hz, hs, hy⟩ := I.out; refine wpList_append_own _ rfl _ _ 23 rfl w.heap.size 24 i _ 1 1 Tryz.underlying23 hi hz hs hy rfl (by decide) _ k _ rfl (ownsRow_below HO5.out ((Below.refl _ _).alloc (Nat.le_refl _) _)) ⟨w5.heap.size, 0, none⟩ 1 1 [.int .u8 (v k).k] rfl rfl (last_src w5 _ _) (by intro u hu; simp at hu; subst hu; rfl) (by simp [maxLen]; omega) (by omega) (by simp; omega) ?_; intro v' w' k1 k2 k3; have H1 : Hid (w'.ownsRow w.heap.size 24 1 v' (k + 1) (ksL (k + 1) fun i => (v i).k)) := (by rw [ksL_succ]; exact k1); have H2 : Hid _ := k2; clear k1 k2 k3 hi hz hs hy))
      have SZ : Hid (w.heap.size ≤ w5.heap.size) := Nat.le_trans HB.out.size HB5.out.size
      exact ⟨⟨k + 1, by omega, by go_num, H1.out, ((HB.out.trans (HB5.out.mono HB.out.size)).alloc SZ.out _).grown H2.out (by have := SZ.out; simp; omega) (fun g e => ownB HO5.out e), fun j hj => by rcases Nat.lt_succ_iff_lt_or_eq.1 hj with h | rfl; exact HA.out j h; exact M.out⟩, by simp [intOf]; omega⟩
    · have : may3 (v m).k (v m).b (v m).s = true := HA.out m (by omega)
      rw [HM.out] at this
      cases this
set_option maxHeartbeats 4000000 in
theorem found_no (hv : VsAt w a n v) (ho : ∀ i, i < n → VlOk (v i)) (hn : n < 2000000) (h0 : 0 < n) (hall : ∀ i, i < n → may3 (v i).k (v i).b (v i).s = true) (C : Int) (hC : (C == 0) = false) (hP : ∀ W g c, Below w.heap.size w W → KsAt W ⟨g, 0, none⟩ n (fun i => (v i).k) → n ≤ c → Calls Tryz.prog 5 #[.string nm, .slice (some ⟨g, 0, none⟩) n c] W fun e w' => e = .returned (.tuple #[.int .i64 0, .int .u8 0, .int .i64 C]) ∧ Below W.heap.size W w') (hQ : ∀ W g c, Below w.heap.size w W → KsAt W ⟨g, 0, none⟩ n (fun i => (v i).k) → n ≤ c → Calls Tryz.prog 6 #[.string nm, .slice (some ⟨g, 0, none⟩) n c] W fun e w' => e = .returned (.tuple #[.int .i64 0, .int .u8 0, .int .i64 C]) ∧ Below W.heap.size W w') :
    Calls Tryz.prog 3 #[.string nm, .slice (some a) n cap] w fun e w' => e = .returned (.bool true) ∧ Below w.heap.size w w' := by
  have HV : Hid (VsAt w a n v) := hv
  have HO : Hid (∀ i, i < n → VlOk (v i)) := ho
  have HM : Hid _ := hall
  have HP : Hid _ := hP
  have HQ : Hid _ := hQ
  clear hv ho hall hP hQ 
  have I : Hid (∃ i, Tryz.prog.info? 24 = some i ∧ i.zero = some (.int .u8 0) ∧ i.size = 1 ∧ i.bytes = 1) := infoK
  go_enter Tryz.func3, Tryz.ntmps3
  go_wp2_with fail
  go_loopw [5, 18] (fun x i wr => ∃ k : Nat, k ≤ n ∧ i = .int .i64 k ∧ wr.ownsRow w.heap.size 24 1 x k (ksL k fun i => (v i).k) ∧ Below w.heap.size w wr) (fun _ i _ => n - (intOf i).toNat)
  case atStart => exact ⟨0, Nat.zero_le _, rfl, ⟨rfl, .inl ⟨rfl, rfl⟩⟩, Below.refl _ _⟩
  case round =>
    obtain ⟨k, hk, rfl, hown, hb⟩ := hrel
    have HB : Hid (Below w.heap.size w wr) := hb
    have HR : Hid (wr.ownsRow w.heap.size 24 1 _ k (ksL k fun i => (v i).k)) := hown
    have zr := hb.size
    by_cases hlt : k < n
    · have M : Hid (may3 (v k).k (v k).b (v k).s = true) := HM.out k hlt
      have O : Hid _ := HO.out k hlt
      obtain ⟨d0, d1, d2⟩ := HV.out.below HB.out k hlt
      clear hown hb
      go_wp2_with (first | (go_at_call 4; refine (MayR_is _ _ _ _ true O.out.b0 O.out.b1 ⟨O.out.k0, O.out.k1⟩ O.out.s1 M.out).mono ?_; rintro e w5 ⟨rfl, hb5⟩; obtain ⟨q5, f5⟩ := bcell hb5; have s5 := hb5.size; (try simp at s5); have l5 : wr.heap.size < w5.heap.size := (by omega); have HB5 : Hid (Below wr.heap.size wr w5) := ((Below.refl _ _).alloc (Nat.le_refl _) _).trans (hb5.mono (by simp)); have HO5 : Hid (w5.ownsRow w.heap.size 24 1 _ k (ksL k fun i => (v i).k)) := ownsRow_below HR.out HB5.out; clear hb5) | (at_builtin; obtain ⟨i, hi, hz, hs, hy⟩ := I.out; refine wpList_append_own _ rfl _ _ 23 rfl w.heap.size 24 i _ 1 1 Tryz.underlying23 hi hz hs hy rfl (by decide) _ k _ rfl (ownsRow_below HO5.out ((Below.refl _ _).alloc (Nat.le_refl _) _)) ⟨w5.heap.size, 0, none⟩ 1 1 [.int .u8 (v k).k] rfl rfl (last_src w5 _ _) (by intro u hu; simp at hu; subst hu; rfl) (by simp [maxLen]; omega) (by omega) (by simp; omega) ?_; intro v' w' k1 k2 k3; have H1 : Hid (w'.ownsRow w.heap.size 24 1 v' (k + 1) (ksL (k + 1) fun i => (v i).k)) := (by rw [ksL_succ]; exact k1); have H2 : Hid _ := k2; clear k1 k2 k3 hi hz hs hy))
      have SZ : Hid (w.heap.size ≤ w5.heap.size) := Nat.le_trans HB.out.size HB5.out.size
      exact ⟨⟨k + 1, by omega, by go_num, H1.out, ((HB.out.trans (HB5.out.mono HB.out.size)).alloc SZ.out _).grown H2.out (by have := SZ.out; simp; omega) (fun g e => ownB HO5.out e)⟩, by simp [intOf]; omega⟩
    · obtain rfl : k = n := by omega
      obtain ⟨g, c, rfl, hg, hks, hcap⟩ := own_kinds HR.out h0
      have HCP : Hid (k ≤ c) := hcap
      have KS : Hid (KsAt wr ⟨g, 0, none⟩ k fun i => (v i).k) := hks
      clear hown hb hks hg hcap hlt
      have hC' : (C != 0) = true := by simpa using hC
      go_wp2_with (first | (go_at_call 5; refine (HP.out _ g c HB.out KS.out HCP.out).mono ?_; rintro e w6 ⟨rfl, hb6⟩; have B6 : Hid (Below w.heap.size w w6) := HB.out.trans (hb6.mono HB.out.size); have K6 : Hid (KsAt w6 ⟨g, 0, none⟩ k fun i => (v i).k) := KS.out.below hb6; clear hb6) | (go_at_call 6; refine (HQ.out _ g c B6.out K6.out HCP.out).mono ?_; rintro e w7 ⟨rfl, hb7⟩; have B7 : Hid (Below w.heap.size w w7) := B6.out.trans (hb7.mono B6.out.size); clear hb7))
      go_ret
      exact ⟨rfl, B7.out⟩
set_option maxHeartbeats 4000000 in
theorem found_yes (hv : VsAt w a n v) (ho : ∀ i, i < n → VlOk (v i)) (hn : n < 2000000) (h0 : 0 < n) (hall : ∀ i, i < n → may3 (v i).k (v i).b (v i).s = true) (A B rk rb fa : Int) (rs : ByteArray) (hP : ∀ W g c, Below w.heap.size w W → KsAt W ⟨g, 0, none⟩ n (fun i => (v i).k) → n ≤ c → Calls Tryz.prog 5 #[.string nm, .slice (some ⟨g, 0, none⟩) n c] W fun e w' => e = .returned (.tuple #[.int .i64 A, .int .u8 B, .int .i64 0]) ∧ Below W.heap.size W w') (hQ : ∀ W g c, Below w.heap.size w W → KsAt W ⟨g, 0, none⟩ n (fun i => (v i).k) → n ≤ c → Calls Tryz.prog 6 #[.string nm, .slice (some ⟨g, 0, none⟩) n c] W fun e w' => e = .returned (.tuple #[.int .i64 A, .int .u8 B, .int .i64 0]) ∧ Below W.heap.size W w') (hC : ∀ W g c, Below w.heap.size w W → VsAt W ⟨g, 0, none⟩ n v → n ≤ c → Calls Tryz.prog 7 #[.int .i64 A, .slice (some ⟨g, 0, none⟩) n c] W fun e w' => e = .returned (.tuple #[V rk rb rs, .int .i64 fa]) ∧ Below W.heap.size W w') (hG : GdR B rk rb rs fa) :
    Calls Tryz.prog 3 #[.string nm, .slice (some a) n cap] w fun e w' => e = .returned (.bool true) ∧ Below w.heap.size w w' := by
  have HV : Hid (VsAt w a n v) := hv
  have HO : Hid (∀ i, i < n → VlOk (v i)) := ho
  have HM : Hid _ := hall
  have HP : Hid _ := hP
  have HQ : Hid _ := hQ
  have HC : Hid _ := hC
  have HG : Hid _ := hG
  clear hv ho hall hP hQ hC hG
  have I : Hid (∃ i, Tryz.prog.info? 24 = some i ∧ i.zero = some (.int .u8 0) ∧ i.size = 1 ∧ i.bytes = 1) := infoK
  go_enter Tryz.func3, Tryz.ntmps3
  go_wp2_with fail
  go_loopw [5, 18] (fun x i wr => ∃ k : Nat, k ≤ n ∧ i = .int .i64 k ∧ wr.ownsRow w.heap.size 24 1 x k (ksL k fun i => (v i).k) ∧ Below w.heap.size w wr) (fun _ i _ => n - (intOf i).toNat)
  case atStart => exact ⟨0, Nat.zero_le _, rfl, ⟨rfl, .inl ⟨rfl, rfl⟩⟩, Below.refl _ _⟩
  case round =>
    obtain ⟨k, hk, rfl, hown, hb⟩ := hrel
    have HB : Hid (Below w.heap.size w wr) := hb
    have HR : Hid (wr.ownsRow w.heap.size 24 1 _ k (ksL k fun i => (v i).k)) := hown
    have zr := hb.size
    by_cases hlt : k < n
    · have M : Hid (may3 (v k).k (v k).b (v k).s = true) := HM.out k hlt
      have O : Hid _ := HO.out k hlt
      obtain ⟨d0, d1, d2⟩ := HV.out.below HB.out k hlt
      clear hown hb
      go_wp2_with (first | (go_at_call 4; refine (MayR_is _ _ _ _ true O.out.b0 O.out.b1 ⟨O.out.k0, O.out.k1⟩ O.out.s1 M.out).mono ?_; rintro e w5 ⟨rfl, hb5⟩; obtain ⟨q5, f5⟩ := bcell hb5; have s5 := hb5.size; (try simp at s5); have l5 : wr.heap.size < w5.heap.size := (by omega); have HB5 : Hid (Below wr.heap.size wr w5) := ((Below.refl _ _).alloc (Nat.le_refl _) _).trans (hb5.mono (by simp)); have HO5 : Hid (w5.ownsRow w.heap.size 24 1 _ k (ksL k fun i => (v i).k)) := ownsRow_below HR.out HB5.out; clear hb5) | (at_builtin; obtain ⟨i, hi, hz, hs, hy⟩ := I.out; refine wpList_append_own _ rfl _ _ 23 rfl w.heap.size 24 i _ 1 1 Tryz.underlying23 hi hz hs hy rfl (by decide) _ k _ rfl (ownsRow_below HO5.out ((Below.refl _ _).alloc (Nat.le_refl _) _)) ⟨w5.heap.size, 0, none⟩ 1 1 [.int .u8 (v k).k] rfl rfl (last_src w5 _ _) (by intro u hu; simp at hu; subst hu; rfl) (by simp [maxLen]; omega) (by omega) (by simp; omega) ?_; intro v' w' k1 k2 k3; have H1 : Hid (w'.ownsRow w.heap.size 24 1 v' (k + 1) (ksL (k + 1) fun i => (v i).k)) := (by rw [ksL_succ]; exact k1); have H2 : Hid _ := k2; clear k1 k2 k3 hi hz hs hy))
      have SZ : Hid (w.heap.size ≤ w5.heap.size) := Nat.le_trans HB.out.size HB5.out.size
      exact ⟨⟨k + 1, by omega, by go_num, H1.out, ((HB.out.trans (HB5.out.mono HB.out.size)).alloc SZ.out _).grown H2.out (by have := SZ.out; simp; omega) (fun g e => ownB HO5.out e)⟩, by simp [intOf]; omega⟩
    · obtain rfl : k = n := by omega
      obtain ⟨g, c, rfl, hg, hks, hcap⟩ := own_kinds HR.out h0
      have HCP : Hid (k ≤ c) := hcap
      have KS : Hid (KsAt wr ⟨g, 0, none⟩ k fun i => (v i).k) := hks
      clear hown hb hks hg hcap hlt
      have CLN : Hid (∀ W, Below w.heap.size w W → Calls Tryz.prog 8 #[.slice (some a) k cap] W fun e w' => ∃ g c, e = .returned (.slice (some ⟨g, 0, none⟩) k c) ∧ W.heap.size ≤ g ∧ VsAt w' ⟨g, 0, none⟩ k v ∧ k ≤ c ∧ Below W.heap.size W w') := fun W hb => CloneV a k cap v W (HV.out.below hb) h0 (by omega)
      clear hn h0 zr hk
      go_wp2_with (first | (go_at_call 5; refine (HP.out _ g c HB.out KS.out HCP.out).mono ?_; rintro e w6 ⟨rfl, hb6⟩; have B6 : Hid (Below w.heap.size w w6) := HB.out.trans (hb6.mono HB.out.size); have K6 : Hid (KsAt w6 ⟨g, 0, none⟩ k fun i => (v i).k) := KS.out.below hb6; clear hb6) | (go_at_call 6; refine (HQ.out _ g c B6.out K6.out HCP.out).mono ?_; rintro e w7 ⟨rfl, hb7⟩; have B7 : Hid (Below w.heap.size w w7) := B6.out.trans (hb7.mono B6.out.size); clear hb7))
      refine (CLN.out _ B7.out).mono ?_
      rintro e w8 ⟨g8, c8, rfl, _, hv8, hc8, hb8⟩
      have B8 : Hid (Below w.heap.size w w8) := B7.out.trans (hb8.mono B7.out.size)
      have V8 : Hid (VsAt w8 ⟨g8, 0, none⟩ k v) := hv8
      have C8 : Hid (k ≤ c8) := hc8
      clear hv8 hc8 hb8
      go_wp2_with fail
      refine (HC.out _ g8 c8 B8.out V8.out C8.out).mono ?_
      rintro e w9 ⟨rfl, hb9⟩
      have B9 : Hid (Below w.heap.size w w9) := B8.out.trans (hb9.mono B8.out.size)
      clear hb9
      rcases HG.out.ok with ⟨f0, f8, rfl, rfl, rfl⟩ | ⟨rfl, rfl, mm⟩
      · have e1 : (fa == 0) = false := by simpa using f0
        have e2 : (fa == 8) = false := by simpa using f8
        have e3 : (fa != 0) = true := by simpa using f0
        have e4 : (fa != 8) = true := by simpa using f8
        clear f0 f8
        go_wp2
        go_ret
        exact ⟨rfl, B9.out.alloc B9.out.size _⟩
      · have MM : Hid (may3 rk rb rs = true) := mm
        have O : Hid _ := HG.out
        clear mm
        go_wp2_with (first | (go_at_call 4; refine (MayR_is _ _ _ _ true O.out.b0 O.out.b1 ⟨O.out.k0, O.out.k1⟩ O.out.s1 MM.out).mono ?_; rintro e w5 ⟨rfl, hb5⟩; have B10 : Hid (Below w9.heap.size w9 w5) := ((Below.refl _ _).alloc (Nat.le_refl _) _).trans (hb5.mono (by simp)); clear hb5))
        go_ret
        exact ⟨rfl, B9.out.trans (B10.out.mono B9.out.size)⟩
set_option maxHeartbeats 4000000 in
theorem found_zero (ad : Option Addr) (C : Int) (hC : (C == 0) = false)
    (hP : ∀ W, Below w.heap.size w W → Calls Tryz.prog 5 #[.string nm, .slice none 0 0] W fun e w' => e = .returned (.tuple #[.int .i64 0, .int .u8 0, .int .i64 C]) ∧ Below W.heap.size W w')
    (hQ : ∀ W, Below w.heap.size w W → Calls Tryz.prog 6 #[.string nm, .slice none 0 0] W fun e w' => e = .returned (.tuple #[.int .i64 0, .int .u8 0, .int .i64 C]) ∧ Below W.heap.size W w') :
    Calls Tryz.prog 3 #[.string nm, .slice ad 0 cap] w fun e w' => e = .returned (.bool true) ∧ Below w.heap.size w w' := by
  have HP : Hid _ := hP
  have HQ : Hid _ := hQ
  clear hP hQ
  go_enter Tryz.func3, Tryz.ntmps3
  go_wp2_with fail
  go_loopw [5, 18] (fun x i wr => x = .slice none 0 0 ∧ i = .int .i64 0 ∧ wr = w) (fun _ _ _ => 0)
  case atStart => exact ⟨rfl, rfl, rfl⟩
  case round =>
    obtain ⟨rfl, rfl, rfl⟩ := hrel
    have hC' : (C != 0) = true := by simpa using hC
    go_wp2_with (first | (go_at_call 5; refine (HP.out _ (Below.refl _ _)).mono ?_; rintro e w6 ⟨rfl, hb6⟩; have B6 : Hid (Below wr.heap.size wr w6) := hb6; clear hb6) | (go_at_call 6; refine (HQ.out _ B6.out).mono ?_; rintro e w7 ⟨rfl, hb7⟩; have B7 : Hid (Below wr.heap.size wr w7) := B6.out.trans (hb7.mono B6.out.size); clear hb7))
    go_ret
    exact ⟨rfl, B7.out⟩
end
theorem fnd_cases (z y : Int) (n : Nat) (κ : Nat → Int) : (∃ C, (C == 0) = false ∧ fndV z y n κ = .tuple #[.int .i64 0, .int .u8 0, .int .i64 C]) ∨ (¬ z = 0 ∧ ¬ oA z n κ = 0 ∧ fndV z y n κ = .tuple #[.int .i64 z, .int .u8 (oA z n κ), .int .i64 0]) := by
  unfold fndV
  split
  · exact .inl ⟨90, by decide, rfl⟩
  · rename_i z0
    split
    · exact .inl ⟨91, by decide, rfl⟩
    · rename_i q
      exact .inr ⟨z0, fun e => q (.inl e), rfl⟩
theorem fnd_zero (z y : Int) (κ : Nat → Int) : ∃ C, (C == 0) = false ∧ fndV z y 0 κ = .tuple #[.int .i64 0, .int .u8 0, .int .i64 C] := by
  rcases fnd_cases z y 0 κ with h | ⟨_, h, _⟩
  · exact h
  · exact absurd (oA_0 z κ) h
theorem found_walk (nm : ByteArray) (n cap : Nat) (w : World) (ad : Option Addr) (v : Nat → Vl) (hs : nm.size < 4294967281) (h0 : ad = none → n = 0 ∧ cap = 0) (hv : ∀ a, ad = some a → VsAt w a n v) (ho : ∀ i, i < n → VlOk (v i)) (hn : n < 2000000)
    (hP : Pow w) (hw : KW w) (hm : MxL w) (ht : Asc w) :
    Calls Tryz.prog 3 #[.string nm, .slice ad n cap] w fun e w' => e = .returned (.bool true) ∧ Below w.heap.size w w' := by
  obtain ⟨z, y, hz, hy, hN, hD⟩ := nam_any nm hs
  by_cases n0 : n = 0
  · subst n0
    obtain ⟨C, c0, e⟩ := fnd_zero z y (fun _ => 0)
    refine found_zero nm cap w ad C c0 (fun W hb => ?_) (fun W hb => ?_)
    · rw [← e]
      exact FindP_any nm z y hz none 0 0 (fun _ => 0) W (pow_below hP hb) (hw.next hb) (hm.below hb) (ht.below hb) (fun q => absurd q (Nat.lt_irrefl _)) (Nat.le_refl _) (fun _ => by decide) hN
    · rw [← e]
      exact FindR_any nm z y hz none 0 0 (fun _ => 0) W (pow_below hP hb) (fun a q => by cases q) (fun _ => rfl) (Nat.le_refl _) (fun _ => by decide) hD
  obtain ⟨a, rfl⟩ : ∃ a, ad = some a := by
    cases ad with
    | none => exact absurd (h0 rfl).1 n0
    | some a => exact ⟨a, rfl⟩
  have hv := hv a rfl
  have key : ∃ v' : Nat → Vl, VsAt w a n v' ∧ (∀ i, i < n → v' i = v i) ∧ ∀ i, 0 ≤ (v' i).k ∧ (v' i).k < 256 := by
    refine ⟨fun i => if i < n then v i else ⟨0, 0, E0⟩, fun i hi => ?_, fun i hi => if_pos hi, fun i => ?_⟩
    · have := hv i hi
      simp only [hi, if_true]
      exact this
    · by_cases h : i < n
      · simp only [h, if_true]; exact ⟨(ho i h).k0, (ho i h).k1⟩
      · simp only [h, if_false]; decide
  obtain ⟨v', hv', ev, hr⟩ := key
  have ho' : ∀ i, i < n → VlOk (v' i) := fun i hi => by rw [ev i hi]; exact ho i hi
  by_cases all : ∀ i, i < n → may3 (v' i).k (v' i).b (v' i).s = true
  · have G : Gd n v' := ⟨ho', all⟩
    have P : ∀ W g c, Below w.heap.size w W → KsAt W ⟨g, 0, none⟩ n (fun i => (v' i).k) → n ≤ c → Calls Tryz.prog 5 #[.string nm, .slice (some ⟨g, 0, none⟩) n c] W fun e w' => e = .returned (fndV z y n (fun i => (v' i).k)) ∧ Below W.heap.size W w' := fun W g c hb hk hc => FindP_any nm z y hz _ n c _ W (pow_below hP hb) (hw.next hb) (hm.below hb) (ht.below hb) (fun _ => ⟨g, rfl, hk⟩) hc hr hN
    have Q : ∀ W g c, Below w.heap.size w W → KsAt W ⟨g, 0, none⟩ n (fun i => (v' i).k) → n ≤ c → Calls Tryz.prog 6 #[.string nm, .slice (some ⟨g, 0, none⟩) n c] W fun e w' => e = .returned (fndV z y n (fun i => (v' i).k)) ∧ Below W.heap.size W w' := fun W g c hb hk hc => FindR_any nm z y hz _ n c _ W (pow_below hP hb) (fun a q => by cases q; exact hk) (fun q => by cases q) hc hr hD
    rcases fnd_cases z y n (fun i => (v' i).k) with ⟨C, c0, e⟩ | ⟨z0, R0, e⟩
    · rw [e] at P Q
      exact found_no nm a n cap v' w hv' ho' hn (by omega) all C c0 P Q
    · rw [e] at P Q
      have hz' : 1 ≤ z ∧ z ≤ 36 ∨ 65 ≤ z ∧ z ≤ 83 := by omega
      have n16 : n ≤ 16 := by
        apply Classical.byContradiction
        intro q
        exact R0 (oA_many z n _ (by omega))
      obtain ⟨gv, eg, en, rk, rb, rs, fa, gd, run⟩ := gv_A z hz' n v' G R0
      have efu : ∃ nm' fm nx hw' tk, fuA z = ⟨nm', fm, nx, hw', some tk, some gv⟩ := fu_form z hz' gv eg
      obtain ⟨nm', fm, nx, hw', tk, ef⟩ := efu
      rw [ef] at run
      refine found_yes nm a n cap v' w hv' ho' hn (by omega) all z _ rk rb fa rs P Q (fun W g c hb hvW hc => ?_) gd
      refine CallV_yes z nm' fm nx hw' tk gv ⟨g, 0, none⟩ n c v' W (fun W' hb' => ?_) hvW ho' (by omega) all (by omega) (oA z n (fun i => (v' i).k)) rk rb fa rs (by simpa using R0) (fun W' g' c' hb' hk' hc' => ?_) (fun W' hb' => ?_) en
      · have := numbered_any z W' ((hw.next hb).next hb')
        rw [ef] at this
        exact this
      · have := outcome_A z hz' g' n c' (fun i => (v' i).k) W' ((ht.below hb).below hb') (pow_below (pow_below hP hb) hb') hk' hc' hr
        rw [ef] at this
        exact this
      · exact run W' g c (pow_below (pow_below hP hb) hb') ((hm.below hb).below hb') (hvW.below hb') hc
  · obtain ⟨m, hm', hbad⟩ : ∃ m, m < n ∧ may3 (v' m).k (v' m).b (v' m).s = false := by
      apply Classical.byContradiction
      intro q
      refine all fun i hi => ?_
      cases e : may3 (v' i).k (v' i).b (v' i).s
      · exact absurd ⟨i, hi, e⟩ q
      · rfl
    exact found_bad nm a n cap v' w hv' ho' hn m hm' hbad
end Go.Proofs.YtpaibmganlaaeaaGreatDoor
namespace Go.Proofs.YtpaibmganlaaeaaGreatDoor
set_option linter.unusedVariables false
open Go.RowKit Go.ChangeShapes Go.WideShapes Go.ChangeAt Go.Joins Go.Deep
section
variable {H : Type} {enc : TypeId × Value → H} {w : World} {base b0 : Nat} {spare : Nat → Bool} {held : Bool} {r : Reach} {v : Value} {d : DataW H} {p : List MemPlace}
set_option maxRecDepth 100000 in
/-- One value, of its three cells. -/
theorem value_cells {n : Nat} {cs : List Value} {x : DataW H × List MemPlace} (h : DataW.trod enc Tryz.prog w base spare held n 27 cs = some x) : ∃ u : Vl, VlOk u ∧ cs = [.int .u8 u.k, .int .u64 u.b, .string u.s] := by
  obtain ⟨y0, y1, y2, m, _, hl, h0, h1, h2⟩ := trod_struct3 Tryz.underlying27 h
  rw [show Tryz.prog.cellsOf 27 = 3 by kernel_rfl] at hl
  match cs, hl with
  | [c0, c1, c2], _ =>
    have e0 : DataW.trod enc Tryz.prog w base spare held m 24 [c0] = some y0 := h0
    have e1 : DataW.trod enc Tryz.prog w base spare held m 25 [c1] = some y1 := h1
    have e2 : DataW.trod enc Tryz.prog w base spare held m 9 [c2] = some y2 := h2
    obtain ⟨k, hk, _, wk⟩ := DataW.trod_int Tryz.underlying24 e0
    obtain ⟨b, hb, _, wb⟩ := DataW.trod_int Tryz.underlying25 e1
    obtain ⟨s, hs, _, ws⟩ := DataW.trod_string Tryz.underlying9 e2
    simp at hk hb hs
    have bk := bounds_u8 wk
    have bb := bounds_u64 wb
    exact ⟨⟨k, b, s⟩, ⟨by show 0 ≤ k; omega, by show k < 256; omega, by show 0 ≤ b; omega, by show b < 18446744073709551616; omega, ws⟩, by rw [hk, hb, hs]⟩
instance : Inhabited Vl := ⟨⟨0, 0, ⟨#[]⟩⟩⟩
set_option maxRecDepth 100000 in
theorem open_vals (hv : Value.okWide Tryz.prog w r b0 22 v) (h : DataW.Trod enc Tryz.prog w base spare held 22 v d p) :
    ∃ ad n cap f, v = .slice ad n cap ∧ (ad = none → n = 0 ∧ cap = 0) ∧ (∀ a, ad = some a → VsAt w a n f) ∧ (∀ i, i < n → VlOk (f i)) ∧ (n = 0 ∨ ∃ el sp, d = .slice el sp ∧ el.length = n) := by
  obtain ⟨ad, n, cap, rfl⟩ := okWide_slice Tryz.underlying22 hv
  obtain ⟨fuel, hf⟩ := h
  rcases open_slice Tryz.underlying22 hf with ⟨e, _⟩ | ⟨a, len, c, m, k, D, Pl, e, hb, hl, hm, hmm, hx, hh⟩
  · simp [Value.cells] at e
    obtain ⟨rfl, rfl, rfl⟩ := e
    exact ⟨none, 0, 0, fun _ => ⟨0, 0, ⟨#[]⟩⟩, rfl, fun _ => ⟨rfl, rfl⟩, fun a e => by simp at e, fun i hi => absurd hi (Nat.not_lt_zero _), .inl rfl⟩
  · simp [Value.cells] at e
    obtain ⟨rfl, rfl, rfl⟩ := e
    rw [show Tryz.prog.cellsOf 27 = 3 by kernel_rfl] at hh
    have hlm : n ≤ m := by rw [hmm]; split <;> omega
    obtain ⟨f, hf⟩ := choose_lt (α := Vl) (n := n) (p := fun i t => VlOk t ∧ w.cell? (a.add (i * 3)) = some (.int .u8 t.k) ∧ w.cell? (a.add (i * 3 + 1)) = some (.int .u64 t.b) ∧ w.cell? (a.add (i * 3 + 2)) = some (.string t.s)) (fun i hi => by
      obtain ⟨cs, h1, h2⟩ := hh i (by omega)
      obtain ⟨u, hu, rfl⟩ := value_cells h2
      obtain ⟨_, _, g⟩ := World.cells?_some h1
      have g0 := g 0 (by omega)
      have g1 := g 1 (by omega)
      have g2 := g 2 (by omega)
      rw [add_off] at g0 g1 g2
      exact ⟨u, hu, by simpa using g0, by simpa using g1, by simpa using g2⟩)
    refine ⟨some a, n, cap, f, rfl, fun e => (by simp at e), ?_, fun i hi => (hf i hi).1, .inr ⟨_, _, (Prod.mk.inj hx).1, by simp⟩⟩
    intro a' e i hi
    simp at e
    subst e
    obtain ⟨_, g0, g1, g2⟩ := hf i hi
    rw [← add_off, add_pos _ 1 (by omega)] at g1
    rw [← add_off, add_pos _ 2 (by omega)] at g2
    exact ⟨g0, g1, g2⟩
end
end Go.Proofs.YtpaibmganlaaeaaGreatDoor
namespace Go.Proofs.YtpaibmganlaaeaaGreatDoor.LawStdlibFound
set_option linter.unusedVariables false
open Go.RowKit Go.ChangeShapes Go.WideShapes Go.ChangeAt
theorem own : ownKnob Tryz.prog.godebug = none := by kernel_rfl
theorem asc_data {H : Type} : (Rows.laid_strings_asciiSpace : DataW H) = Lib.tabData .u8 Lib.asciiSpaceTab := by kernel_rfl
theorem gAsc : Tryz.prog.globalNamed "strings.asciiSpace" = some 1 := by kernel_rfl
theorem tAsc : (Tryz.prog.globals[1]?).map (·.type) = some 106 := by kernel_rfl
theorem asc_of {W : World} (h : laidMet Tryz.prog [("strings.asciiSpace", Rows.laid_strings_asciiSpace)] W) : Asc W := by
  rw [asc_data] at h
  exact Lib.tabIs_of_head (k := .u8) (zs := Lib.asciiSpaceTab) (rest := []) gAsc tAsc Tryz.underlying106 Tryz.underlying5 (by kernel_rfl) (by kernel_rfl) h
theorem gPow : Tryz.prog.globalNamed "internal/strconv.uint64pow10" = some 5 := by kernel_rfl
theorem tPow : (Tryz.prog.globals[5]?).map (·.type) = some 196 := by kernel_rfl
theorem pow_of {W : World} (h2 : laidMet Tryz.prog [("internal/strconv.uint64pow10", Rows.laid_internal_strconv_uint64pow10)] W) : Pow W :=
  Lib.tabIs_of_head (k := .u64) (zs := Lib.pow10Tab) (rest := []) gPow tPow Tryz.underlying196 Tryz.underlying25 (by kernel_rfl) (by kernel_rfl) h2
theorem of_laid {W : World} (h : laidMetH Tryz.prog Rows.stdlibFoundUptoRow.laid W) : Asc W ∧ KW W ∧ Pow W := by
  rw [MakeChecks.laidMetH_plain _ _ _ (by kernel_rfl)] at h
  exact ⟨asc_of (h.filter fun x => x.1 == "strings.asciiSpace"), kw_of (h.filter fun x => x.1 == "relay/value.words"), pow_of (h.filter fun x => x.1 == "internal/strconv.uint64pow10")⟩
theorem mx_of {W : World} (h : W.ShapedOpen Tryz.prog) : MxL W :=
  cell_of_shapedOpen_int (k := .i64) (t := 3) (zero := #[.int .i64 0]) h (of_decide_eq_true (by kernel_rfl)) (by kernel_rfl) rfl (by kernel_rfl) (by kernel_rfl) Tryz.underlying3
theorem laidOut : laidOutB Tryz.prog = true := by kernel_rfl
theorem bulk_len {H : Type} (l : List (DataW H)) : l.length ≤ Rows.uptoBulkAll l := by
  induction l with
  | nil => simp [Rows.uptoBulkAll]
  | cons d r ih =>
    have h : 1 ≤ Rows.uptoBulk d := by
      unfold Rows.uptoBulk
      split <;> omega
    simp only [List.length_cons, Rows.uptoBulkAll]
    omega
theorem bound {H : Type} {b : DataW H} {l : List UInt8} (hk : Rows.uptoSmall H ([.lit (.string l), b] ++ []) = true) : l.length ≤ 1048576 := by
  have h := of_decide_eq_true hk
  simp only [List.append_nil, Rows.uptoBulkAll, Rows.uptoBulk] at h
  omega
theorem bound2 {H : Type} {b : DataW H} {l : List UInt8} {n : Nat} (hk : Rows.uptoSmall H ([.lit (.string l), b] ++ []) = true) (hn : n = 0 ∨ ∃ el sp, b = .slice el sp ∧ el.length = n) : n ≤ 1048576 := by
  rcases hn with rfl | ⟨el, sp, rfl, rfl⟩
  · omega
  have h := of_decide_eq_true hk
  have := bulk_len el
  simp only [List.append_nil, Rows.uptoBulkAll, Rows.uptoBulk] at h
  omega
set_option maxRecDepth 100000 in
theorem contract (H : Type) (enc : TypeId × Value → H) (W : World) (base : Nat) (args : Array Value) (ds gs : List (DataW H)) (before : List MemPlace)
    (hval : ∀ (j : Nat) t v, Tryz.f3.params[j]? = some t → args[j]? = some v → Value.okWide Tryz.prog W .any base t v)
    (hW : DataW.Whole enc Tryz.prog Tryz.f3.params.toList Rows.stdlibFoundSpec.vars false W args.toList ds gs before)
    (hk : Rows.uptoSmall H (ds ++ gs) = true) (hL : laidMetH Tryz.prog Rows.stdlibFoundUptoRow.laid W) (hS : W.ShapedOpen Tryz.prog) :
    Calls Tryz.prog 3 args W fun e W' => ∃ v, e = .returned v ∧ Rows.stdlibFoundSpec.post enc Tryz.prog Tryz.f3 false true false false W args v W' := by
  have hW' := hW
  obtain ⟨p, q, hA0, hV, rfl, hfz, hnd⟩ := hW
  have hA : DataW.TrodAll enc Tryz.prog W 0 (fun _ => true) true Tryz.f3.params.toList args.toList ds p := hA0
  rw [Tryz.params3] at hA hval
  obtain ⟨v0, vs0, d0, ds0, p0, q0, hargs, rfl, rfl, h0, r0⟩ := trodAll_cons hA
  obtain ⟨v1, vs1, d1, ds1, p1, q1, rfl, rfl, rfl, h1, r1⟩ := trodAll_cons r0
  obtain ⟨rfl, rfl, rfl⟩ := trodAll_nil r1
  obtain rfl : args = #[v0, v1] := by cases args; simp_all
  obtain ⟨rfl, rfl⟩ := trodVars_none hV
  obtain ⟨s, rfl, rfl, rfl, hs⟩ := Go.ChangeMaps.open_string Tryz.underlying9 (hval 0 9 v0 rfl rfl) h0
  have k1 := h1
  have lt1 : ∀ x ∈ p1, x.block < W.heap.size := by obtain ⟨m, hm⟩ := k1; exact DataW.trod_lt m _ _ _ hm
  obtain ⟨ad, n, cap, f, rfl, hz, hvs, hov, hel⟩ := open_vals (hval 1 22 v1 rfl rfl) h1
  have hT := of_laid hL
  have hM := mx_of hS
  have sz : s.size < 4294967281 := by
    have b := bound hk
    have e : s.data.toList.length = s.size := by rw [Array.length_toList]; rfl
    omega
  have hn := bound2 hk hel
  clear hA0 hL hS hk
  refine (found_walk s n cap W ad f sz hz hvs hov (by omega) hT.2.2 hT.2.1 hM hT.1).mono fun e W' ⟨he, bel⟩ => ?_
  subst he
  exact ⟨_, rfl, _, _, _, [], _, [], hW', trodAll_mk1 (shut_bool Tryz.underlying4 _), (trodAll_cons_mk (Go.ChangeMaps.shut_string Tryz.underlying9 hs) (trodAll_cons_mk (Below.trod laidOut (by kernel_rfl) (of_decide_eq_true (by kernel_rfl)) k1 bel lt1) trodAll_mk0)), rfl, bel.frame _, fun h => by cases h⟩
set_option maxRecDepth 100000 in
theorem reads (os : Os) {H : Type} (enc : TypeId × Value → H) : ∃ places, DataW.whole enc Tryz.prog ((World.laidAll Tryz.prog os Rows.stdlibFoundUptoRow.laid).forCall (fun _ _ => 0) ⟨#[], #[.string ⟨#[]⟩, .slice none 0 0], []⟩).memory Tryz.f3.params.toList Rows.stdlibFoundSpec.vars false #[Value.string ⟨#[]⟩, .slice none 0 0].toList 8 = some ([.lit (.string []), .nil], [], places) :=
  ⟨[], by kernel_rfl⟩
set_option maxRecDepth 100000 in
theorem lifted (os : Os) (started : os.Started) (H : Type) (enc : TypeId × Value → H) (F : Stop.Interp) :
    ReturnsInHanded {} Tryz.checked os 3 .any ((Rows.OpenSpec.upto Rows.stdlibFoundSpec).preRow enc Tryz.prog Tryz.f3 Rows.stdlibFoundUptoRow.domain false Rows.stdlibFoundUptoRow.laid) (((Rows.OpenSpec.upto Rows.stdlibFoundSpec).at F).post enc Tryz.prog Tryz.f3 false true false false) := by
  obtain ⟨places, hx⟩ := reads os enc
  have hok : Input.okWideB Tryz.prog ((World.laidAll Tryz.prog os Rows.stdlibFoundUptoRow.laid).forCall (fun _ _ => 0) ⟨#[], #[.string ⟨#[]⟩, .slice none 0 0], []⟩) 3 ⟨#[], #[.string ⟨#[]⟩, .slice none 0 0], []⟩ = true := by kernel_rfl
  refine returnsInHanded_of_row (C := Tryz.checked) (s := Rows.OpenSpec.upto Rows.stdlibFoundSpec) own started (by kernel_rfl) Tryz.func3
    ⟨World.laidAll Tryz.prog os Rows.stdlibFoundUptoRow.laid, fun _ _ => 0, ⟨#[], #[.string ⟨#[]⟩, .slice none 0 0], []⟩, World.laidAll_os _ _ _, World.shaped_of_ZipB (by kernel_rfl) (by kernel_rfl), (Input.okWide_of_okWideB (base := 0) hok).1, (Input.okWide_of_okWideB hok).2,
      OpenSpec.preRow_of_cond 8 hx (by kernel_rfl) (fun k hk => by cases hk; kernel_rfl) (by kernel_rfl) (by rw [MakeChecks.laidMetH_plain _ _ _ (by kernel_rfl)]; exact laidMet_laidAll _ (by kernel_rfl) (by kernel_rfl)),
      by simp only [Assume.holds]; exact ⟨by simp, by simp, by simp, by simp, by simp⟩⟩ ?_
  intro W base args ds gs before hval hW _ hcond _ hL hS _
  exact contract H enc W base args ds gs before hval hW (hcond _ rfl) hL hS
theorem row_holds : Rows.StdlibFoundUptoSaid :=
  OpenClaim.holds_of_cond 3 Tryz.f3 rfl rfl rfl rfl rfl rfl rfl ⟨rfl, rfl, rfl, rfl, rfl⟩ rfl rfl rfl rfl rfl (by kernel_rfl) Tryz.func3 (by kernel_rfl)
    (of_decide_eq_true (by kernel_rfl)) (by unfold Func.isWrapper; first | (rw [if_pos (by decide +kernel)]; kernel_rfl) | (rw [if_neg (by decide +kernel)]; exact ⟨rfl, rfl⟩))
    (fun os started H enc _ F => by rw [OpenClaim.pre_eq_preRow]; exact lifted os started H enc F)
end Go.Proofs.YtpaibmganlaaeaaGreatDoor.LawStdlibFound
namespace Go.Proofs.YtpaibmganlaaeaaGreatDoor
/-- THE STATEMENT'S SECOND FORM, ITS TABLES TIED TO THE TEXTS. -/
theorem stdlibFoundUpto_proved : Rows.StdlibFoundUptoCardSaid :=
  Claim7.holds_tied_plain_at .later [] [.data, .data, .data, .data, .listed, .data, .data, .pinned, .pinned] true (true, "6b6567f9176e85ac4d71bc9446a21d1efd8a1efcf9e7380b2fd308b4b34e5fd5") false
    LawStdlibFound.row_holds (fun _ h => by cases h) (by kernel_rfl) (fun _ h => by cases h) stdlibFoundUpto_row_tie rfl ⟨rfl, rfl⟩ (by kernel_rfl) rfl
    (fun f fn hf hfn => by
      obtain rfl : f = 3 := Option.some.inj ((show Tryz.prog.funcNamed "relay/relaylaw09.StdlibFound" = some 3 by kernel_rfl).symm.trans hf) |>.symm
      obtain rfl : fn = Tryz.f3 := (Option.some.inj (Tryz.func3.symm.trans hfn)).symm
      exact ⟨by kernel_rfl, fun j t ht => by
        rw [Tryz.params3] at ht
        have hm : t ∈ [9, 22] := by simpa using Array.mem_of_getElem? ht
        have hall : ([9, 22].all fun u => !Tryz.prog.wantsStandIn u) = true := by kernel_rfl
        exact (show Tryz.prog.wantsStandIn t = false by simpa using List.all_eq_true.1 hall t hm)⟩)
    (by kernel_rfl)
end Go.Proofs.YtpaibmganlaaeaaGreatDoor
