/- Rows of records copied; no statement of the seat is proved here. -/
import Derived.Test.YtahgnmbkobiclaaGreatJnA1
import Derived.Test.YtahgnmbkobiclaaGreatLexAJ
import Derived.Laws.IdiomStrings
import Derived.Deep.RegionHeld3
import Derived.DeepKeys
namespace Go.Proofs.YtahgnmbkobiclaaGreat
set_option linter.unusedVariables false
open Go.RowKit Go.ChangeShapes Go.WideShapes Go.ChangeAt
/-- A number that its kind has. -/
def wfI (k : IntKind) (n : Int) : Prop := (Lit.int k n).wf = true
/-- A text that is not too long. -/
def shT (s : ByteArray) : Prop := s.size ≤ 4194304
/-- Its numbers are of their kinds. -/
def CeOk (x : CeR) : Prop := wfI .u8 x.kd ∧ wfI .i64 x.lo ∧ wfI .i64 x.hi ∧ wfI .i64 x.mx ∧ wfI .u8 x.ik ∧ wfI .u64 x.ib ∧ shT x.is ∧ wfI .i64 x.dr ∧ shT x.ad
/-- Its numbers are of their kinds. -/
def OpOk (x : OpR) : Prop := wfI .i64 x.cd ∧ wfI .i64 x.a ∧ wfI .i64 x.b ∧ wfI .i64 x.c ∧ wfI .i64 x.d ∧ wfI .i64 x.lo ∧ wfI .i64 x.hi ∧ wfI .u8 x.vk ∧ wfI .u64 x.vb ∧ shT x.vs
/-- Its numbers are of their kinds. -/
def LpOk (x : LpR) : Prop := wfI .i64 x.hd ∧ wfI .i64 x.en ∧ wfI .i64 x.tm
def FlOk (f : FlR) : Prop := shT f.nm ∧ wfI .i64 f.wh ∧ wfI .i64 f.ce ∧ wfI .i64 f.ba ∧ wfI .i64 f.rg ∧ wfI .i64 f.sl ∧ (∀ o ∈ f.os, OpOk o) ∧ (∀ o ∈ f.ls, LpOk o) ∧ f.os.length ≤ 1048576 ∧ f.ls.length ≤ 1048576
def JbOk (j : JbR) : Prop := shT j.nm ∧ wfI .i64 j.iv ∧ wfI .i64 j.sg ∧ wfI .i64 j.pr ∧ wfI .i64 j.bd ∧ (∀ o ∈ j.cs, wfI .i64 o) ∧ (∀ o ∈ j.bs, wfI .i64 o) ∧ j.cs.length ≤ 1048576 ∧ j.bs.length ≤ 1048576
def ImOk (m : ImR) : Prop := shT m.nm ∧ (∀ c ∈ m.cs, CeOk c) ∧ (∀ f ∈ m.fs, FlOk f) ∧ (∀ j ∈ m.js, JbOk j) ∧ m.cs.length ≤ 1048576 ∧ m.fs.length ≤ 1048576 ∧ m.js.length ≤ 1048576
theorem RwF.each {α : Type} {n : Nat} {P : α → List Value → Prop} {S : Nat → Prop} {w : World} {x : Option Addr} {l : List α} (h : RwF n P S w x l) : ∀ e ∈ l, ∃ vs, P e vs := by
  intro e he
  cases x with
  | none => rw [h.2.1 rfl] at he; cases he
  | some a =>
    obtain ⟨i, hi⟩ := List.mem_iff_getElem?.1 he
    obtain ⟨_, vs, hp, _⟩ := h.2.2 a rfl i e hi
    exact ⟨vs, hp⟩
section
variable {H : Type} {enc : TypeId × Value → H} {w : World} {base : Nat} {spare : Nat → Bool} {held : Bool}
end
end Go.Proofs.YtahgnmbkobiclaaGreat
namespace Go.Proofs.YtahgnmbkobiclaaGreat
set_option linter.unusedVariables false
open Go.RowKit
/-- A byte in capitals. -/
def capI (c : Int) : Int := if 97 ≤ c ∧ c ≤ 122 then c - 32 else c
def capU (b : UInt8) : UInt8 := UInt8.ofNat (capI b.toNat).toNat
theorem capU_toNat (b : UInt8) : ((capU b).toNat : Int) = capI b.toNat := by
  have h : b.toNat < 256 := b.toNat_lt
  unfold capU capI
  split
  · simp; omega
  · simp
/-- A text in capitals. -/
def capS (s : ByteArray) : ByteArray := ⟨(s.data.toList.map capU).toArray⟩
theorem capital_of (c : Int) (h0 : 0 ≤ c) (h1 : c ≤ 255) (w : World) : Calls Tryz.prog 150 #[.int .u8 c] w fun e w' => e = .returned (.int .u8 (capI c)) ∧ w' = w := by
  go_enter Tryz.func150, Tryz.ntmps150
  go_wp2
  all_goals
    go_ret
    refine ⟨ret_int ?_, rfl⟩
    unfold capI
    go_light
    first
    | (rw [if_pos (by omega)]; omega)
    | (rw [if_neg (by omega)])
    | (split <;> omega)
/-- What the bytes are while a loop turns them: the first k are capitals. -/
def part (s : ByteArray) (k j : Nat) : Int := if j < k then capI ((s.data.toList.getD j 0).toNat : Int) else ((s.data.toList.getD j 0).toNat : Int)
theorem part_bounds (s : ByteArray) (k j : Nat) : 0 ≤ part s k j ∧ part s k j ≤ 255 := by
  have h : (s.data.toList.getD j 0).toNat < 256 := UInt8.toNat_lt _
  unfold part capI
  split
  · split <;> omega
  · omega
theorem part_all (s : ByteArray) (j : Nat) (hj : j < (s.data.toList.map capU).length) : part s s.size j = (((s.data.toList.map capU)[j]).toNat : Int) := by
  have hj' : j < s.data.toList.length := by simpa using hj
  have hs : j < s.size := by simpa using hj'
  rw [List.getElem_map, capU_toNat]
  unfold part
  rw [if_pos hs, List.getD_eq_getElem?_getD, List.getElem?_eq_getElem hj']
  rfl
theorem part_zero (s : ByteArray) (j : Nat) (hj : j < s.data.size) : part s 0 j = (s.data[j].toNat : Int) := by
  unfold part
  rw [if_neg (by omega), List.getD_eq_getElem?_getD]
  rw [show s.data.toList[j]? = some s.data[j] by simp]
  rfl
/-- What holds of the memory while a loop turns the bytes at block b: the first k are capitals. -/
def Turned (s : ByteArray) (b k : Nat) (w wr : World) : Prop :=
  Below b w wr ∧ b < wr.heap.size ∧ (∀ j, j < s.size → wr.cell? ⟨b, j, none⟩ = some (.int .u8 (part s k j))) ∧ (∀ j, j < s.size → wr.frozen? ⟨b, j, none⟩ = false)
theorem turned_start (s : ByteArray) (w : World) (e : TypeId) (cap : Nat) : Turned s w.heap.size 0 w (w.alloc (.cells (bytesRow s cap) e ((bytesRow s cap).size, (bytesRow s cap).size + 1))) := by
  refine ⟨(Below.refl _ _).alloc (Nat.le_refl _) _, by simp, ?_, ?_⟩
  · intro j hj
    rw [World.cell?_alloc_mark, bytesRow_at s cap j hj, part_zero s j hj]
  · intro j hj
    rw [World.frozen?_alloc_mark]
    have : j < (bytesRow s cap).size := by
      unfold bytesRow
      simp
      exact Nat.lt_of_lt_of_le hj (Nat.le_add_right _ _)
    simp
    omega
theorem Turned.drew {s : ByteArray} {b k : Nat} {w wr : World} (h : Turned s b k w wr) : Turned s b k w wr.drew := ⟨h.1.drew, h.2.1, h.2.2.1, h.2.2.2⟩
theorem Turned.set {s : ByteArray} {b k : Nat} {w wr : World} (h : Turned s b k w wr) (hk : k < s.size) : Turned s b (k + 1) w (wr.setCell ⟨b, k, none⟩ (.int .u8 (capI (part s k k)))) := by
  refine ⟨h.1.setCell (Nat.le_refl _) _, by simpa using h.2.1, ?_, ?_⟩
  · intro j hj
    by_cases e : j = k
    · subst e
      rw [World.cell?_setCell_same _ _ _ (h.2.2.1 j hj)]
      unfold part
      rw [if_neg (by omega), if_pos (by omega)]
    · rw [World.cell?_setCell_other _ _ _ _ (by intro q; injection q; omega), h.2.2.1 j hj]
      unfold part
      by_cases f : j < k
      · rw [if_pos f, if_pos (by omega)]
      · rw [if_neg f, if_neg (by omega)]
  · intro j hj
    rw [World.frozen?_setCell]
    exact h.2.2.2 j hj
theorem Turned.keep {s : ByteArray} {b k : Nat} {w wr : World} (h : Turned s b k w wr) (hk : k < s.size) (hc : capI (part s k k) = part s k k) : Turned s b (k + 1) w wr := by
  refine ⟨h.1, h.2.1, ?_, h.2.2.2⟩
  intro j hj
  rw [h.2.2.1 j hj]
  by_cases e : j = k
  · subst e
    have : part s (j + 1) j = capI (part s j j) := by
      unfold part
      rw [if_pos (by omega : j < j + 1), if_neg (by omega : ¬ j < j)]
    rw [this, hc]
  · unfold part
    by_cases f : j < k
    · rw [if_pos f, if_pos (by omega)]
    · rw [if_neg f, if_neg (by omega)]
theorem Turned.back {s : ByteArray} {b : Nat} {w wr : World} (h : Turned s b s.size w wr) (src dst e : TypeId) (cap : Nat) (hs : Tryz.prog.underlying src = some (.slice e)) (he : Tryz.prog.underlying e = some (.int .u8)) (hd : Tryz.prog.underlying dst = some .string) :
    (convert src dst (.slice (some ⟨b, 0, none⟩) s.size cap)).run Tryz.prog wr = .ok (.string (capS s)) wr := by
  have := run_convert_bytes_back (P := Tryz.prog) wr src dst e ⟨b, 0, none⟩ cap (s.data.toList.map capU) hs he hd (fun j hj => by
    have hj' : j < s.size := by simpa using hj
    rw [← part_all s j hj, ← h.2.2.1 j hj']
    by_cases e : j = 0
    · subst e; rfl
    · simp [Addr.add, e])
  rw [show (s.data.toList.map capU).length = s.size by simp] at this
  exact this
set_option maxRecDepth 20000 in
set_option maxHeartbeats 2000000 in
theorem capitals_of (s : ByteArray) (w : World) (hs : s.size ≤ maxLen) : Calls Tryz.prog 142 #[.string s] w fun e w' => e = .returned (.string (capS s)) ∧ Below w.heap.size w w' := by
  unfold maxLen at hs
  have hconv := run_bytes_of_string (P := Tryz.prog) w 9 22 5 s rfl rfl rfl
  go_enter Tryz.func142, Tryz.ntmps142
  go_wp2_with fail
  go_loopw [9] (fun i wr => ∃ k : Nat, k ≤ s.size ∧ i = .int .i64 k ∧ Turned s w.heap.size k w wr) (fun i _ => s.size - (intOf i).toNat)
  case atStart => exact ⟨0, Nat.zero_le _, rfl, (turned_start s w 5 _).drew⟩
  case round =>
    obtain ⟨k, hk, rfl, H⟩ := hrel
    clear hconv
    by_cases hlt : k < s.size
    · have hc := H.2.2.1 k hlt
      have hf := H.2.2.2 k hlt
      have hb := part_bounds s k k
      go_wp2_with (go_at_call 150; refine (capital_of _ hb.1 hb.2 _).mono ?_; rintro e w1 ⟨rfl, rfl⟩)
      go_roundw
      case rel => exact ⟨k + 1, by omega, by go_num, H.set hlt⟩
      case measure => simp [intOf]; omega
    · have e : k = s.size := by omega
      subst e
      have hb := H.back 22 9 5 (grownCap w s.size 0 5) rfl rfl rfl
      have hd := H.drew.back 22 9 5 (grownCap w s.size 0 5) rfl rfl rfl
      go_wp2
      go_ret
      first
      | exact ⟨rfl, H.1⟩
      | exact ⟨rfl, H.1.drew⟩
set_option maxRecDepth 20000 in
set_option maxHeartbeats 2000000 in
theorem Upper_of (s : ByteArray) (w : World) (hs : s.size ≤ maxLen) : Calls Tryz.prog 111 #[.string s] w fun e w' => e = .returned (.string (capS s)) ∧ Below w.heap.size w w' := by
  unfold maxLen at hs
  have hconv := run_bytes_of_string (P := Tryz.prog) w 9 22 5 s rfl rfl rfl
  go_enter Tryz.func111, Tryz.ntmps111
  go_wp2_with fail
  go_loopw [9] (fun i wr => ∃ k : Nat, k ≤ s.size ∧ i = .int .i64 k ∧ Turned s w.heap.size k w wr) (fun i _ => s.size - (intOf i).toNat)
  case atStart => exact ⟨0, Nat.zero_le _, rfl, (turned_start s w 5 _).drew⟩
  case round =>
    obtain ⟨k, hk, rfl, H⟩ := hrel
    clear hconv
    by_cases hlt : k < s.size
    · have hc := H.2.2.1 k hlt
      have hf := H.2.2.2 k hlt
      have hb := part_bounds s k k
      have H' : Hid (Turned s w.heap.size (k + 1) w (wr.setCell ⟨w.heap.size, k, none⟩ (.int .u8 (capI (part s k k))))) := H.set hlt
      by_cases h1 : 97 ≤ part s k k
      · by_cases h2 : part s k k ≤ 122
        · go_wp2
          go_roundw
          case rel =>
            refine ⟨k + 1, by omega, by go_num, ?_⟩
            have := H'.out
            rw [show capI (part s k k) = part s k k - 32 by unfold capI; rw [if_pos ⟨h1, h2⟩]] at this
            first
            | exact this
          case measure => simp [intOf]; omega
        · go_wp2
          go_roundw
          case rel =>
            exact ⟨k + 1, by omega, by go_num, H.keep hlt (by unfold capI; rw [if_neg (by omega)])⟩
          case measure => simp [intOf]; omega
      · go_wp2
        go_roundw
        case rel =>
            exact ⟨k + 1, by omega, by go_num, H.keep hlt (by unfold capI; rw [if_neg (by omega)])⟩
        case measure => simp [intOf]; omega
    · have e : k = s.size := by omega
      subst e
      have hb := H.back 22 9 5 (grownCap w s.size 0 5) rfl rfl rfl
      have hd := H.drew.back 22 9 5 (grownCap w s.size 0 5) rfl rfl rfl
      go_wp2
      go_ret
      first
      | exact ⟨rfl, H.1⟩
      | exact ⟨rfl, H.1.drew⟩
end Go.Proofs.YtahgnmbkobiclaaGreat
namespace Go.Proofs.YtahgnmbkobiclaaGreat
set_option linter.unusedVariables false
open Go.RowKit
/-- A text's byte; behind its end 0. -/
def byt (s : ByteArray) (i : Nat) : Int := ((s.data.toList.getD i 0).toNat : Int)
theorem byt_in (s : ByteArray) (i : Nat) (h : i < s.size) : byt s i = (s[i].toNat : Int) := by
  unfold byt
  rw [List.getD_eq_getElem?_getD, show s.data.toList[i]? = some s[i] by rw [Array.getElem?_toList, Array.getElem?_eq_getElem h]; rfl]
  rfl
theorem byt_out (s : ByteArray) (i : Nat) (h : s.size ≤ i) : byt s i = 0 := by
  unfold byt
  rw [List.getD_eq_getElem?_getD, List.getElem?_eq_none (by simpa using h)]
  rfl
theorem byt_bounds (s : ByteArray) (i : Nat) : 0 ≤ byt s i ∧ byt s i ≤ 255 := by
  have h : (s.data.toList.getD i 0).toNat < 256 := UInt8.toNat_lt _
  unfold byt
  omega
theorem isLetter_of (c : Int) (w : World) : Calls Tryz.prog 95 #[.int .u8 c] w fun e w' => e = .returned (.bool (letB c)) ∧ w' = w := by
  generalize hr : letB c = r
  have R : Hid (letB c = r) := hr
  clear hr
  rcases bytes6 c with h | ⟨h, h'⟩ | ⟨h, h'⟩ | ⟨h, h'⟩ | ⟨h, h'⟩ | rfl | rfl | ⟨h, h'⟩ | h
  all_goals
    go_enter Tryz.func95, Tryz.ntmps95
    go_wp2
    go_ret
    refine ⟨ret_bool ?_, rfl⟩
    rw [← R.out]
    go_light
    unfold letB
    rw [Bool.eq_iff_iff]
    simp only [Bool.or_eq_true, decide_eq_true_eq, Bool.false_eq_true, true_iff, false_iff]
    omega
theorem digitR_of (c : Int) (w : World) : Calls Tryz.prog 108 #[.int .u8 c] w fun e w' => e = .returned (.bool (digB c)) ∧ w' = w := by
  go_enter Tryz.func108, Tryz.ntmps108
  go_wp2
  all_goals
    go_ret
    refine ⟨ret_bool ?_, rfl⟩
    unfold digB
    rw [Bool.eq_iff_iff]
    simp
    omega
set_option maxHeartbeats 1000000 in
theorem innerR_of (c : Int) (w : World) : Calls Tryz.prog 66 #[.int .u8 c] w fun e w' => e = .returned (.bool (namB c)) ∧ w' = w := by
  generalize hl : letB c = l
  generalize hd : digB c = d
  have HL : Hid (letB c = l) := hl
  have HD : Hid (digB c = d) := hd
  clear hl hd
  have N : Hid (namB c = (l || d || decide (c = 95))) := by show _ = _; unfold namB; rw [HL.out, HD.out]
  go_enter Tryz.func66, Tryz.ntmps66
  cases l
  · cases d
    · go_wp2_with (first
        | (go_at_call 65; refine (letterR_of _ _).mono ?_; rintro e w1 ⟨rfl, rfl⟩; rw [HL.out])
        | (go_at_call 108; refine (digitR_of _ _).mono ?_; rintro e w1 ⟨rfl, rfl⟩; rw [HD.out]))
      go_ret
      refine ⟨ret_bool ?_, rfl⟩
      rw [N.out]
      by_cases h : c = 95 <;> simp [h]
    · go_wp2_with (first
        | (go_at_call 65; refine (letterR_of _ _).mono ?_; rintro e w1 ⟨rfl, rfl⟩; rw [HL.out])
        | (go_at_call 108; refine (digitR_of _ _).mono ?_; rintro e w1 ⟨rfl, rfl⟩; rw [HD.out]))
      go_ret
      refine ⟨ret_bool ?_, rfl⟩
      rw [N.out]
      rfl
  · go_wp2_with (first
        | (go_at_call 65; refine (letterR_of _ _).mono ?_; rintro e w1 ⟨rfl, rfl⟩; rw [HL.out])
        | (go_at_call 108; refine (digitR_of _ _).mono ?_; rintro e w1 ⟨rfl, rfl⟩; rw [HD.out]))
    go_ret
    refine ⟨ret_bool ?_, rfl⟩
    rw [N.out]
    rfl
/-- Is a text a name? -/
def nameB (s : ByteArray) : Bool := decide (1 ≤ s.size ∧ s.size ≤ 24) && letB (byt s 0) && decide (runL namB s.data.toList = s.size)
set_option maxHeartbeats 2000000 in
theorem IsName_of (s : ByteArray) (w : World) (hs : s.size ≤ maxLen) : Calls Tryz.prog 51 #[.string s] w fun e w' => e = .returned (.bool (nameB s)) ∧ w' = w := by
  generalize hn : nameB s = r
  have N : Hid (nameB s = r) := hn
  clear hn
  go_enter Tryz.func51, Tryz.ntmps51
  by_cases h1 : s.size ≤ 24
  · by_cases h0 : 0 < s.size
    · have hb : Hid (byt s 0 = s[0].toNat) := byt_in s 0 h0
      cases c : letB (s[0].toNat : Int)
      · have C : Hid (letB (s[0].toNat : Int) = false) := c
        clear c
        go_wp2_with (first
          | (go_at_call 95; refine (isLetter_of _ _).mono ?_; rintro e w1 ⟨rfl, rfl⟩; rw [C.out])
          | (go_at_call 96; refine (runEnd_name s 0 _ hs (Nat.zero_le _)).mono ?_; rintro e w1 ⟨rfl, rfl⟩))
        go_ret
        refine ⟨ret_bool ?_, rfl⟩
        rw [← N.out, nameB, hb.out, C.out]
        simp
      · have C : Hid (letB (s[0].toNat : Int) = true) := c
        clear c
        go_wp2_with (first
          | (go_at_call 95; refine (isLetter_of _ _).mono ?_; rintro e w1 ⟨rfl, rfl⟩; rw [C.out])
          | (go_at_call 96; refine (runEnd_name s 0 _ hs (Nat.zero_le _)).mono ?_; rintro e w1 ⟨rfl, rfl⟩))
        go_ret
        refine ⟨ret_bool ?_, rfl⟩
        rw [← N.out, nameB, hb.out, C.out]
        go_light
        rw [decide_eq_true (show 1 ≤ s.size ∧ s.size ≤ 24 from ⟨h0, h1⟩), Bool.eq_iff_iff]
        simp
        try omega
    · go_wp2
      go_ret
      refine ⟨ret_bool ?_, rfl⟩
      rw [← N.out, nameB]
      simp [show ¬ 1 ≤ s.size by omega]
  · go_wp2
    go_ret
    refine ⟨ret_bool ?_, rfl⟩
    rw [← N.out, nameB]
    simp [show ¬ s.size ≤ 24 by omega]
set_option maxHeartbeats 2000000 in
theorem IsNameR_of (s : ByteArray) (w : World) (hs : s.size ≤ maxLen) : Calls Tryz.prog 34 #[.string s] w fun e w' => e = .returned (.bool (nameB s)) ∧ w' = w := by
  generalize hn : nameB s = r
  have N : Hid (nameB s = r) := hn
  clear hn
  go_enter Tryz.func34, Tryz.ntmps34
  by_cases h0 : 0 < s.size
  · by_cases h1 : s.size ≤ 24
    · have hb : Hid (byt s 0 = s[0].toNat) := byt_in s 0 h0
      cases c : letB (s[0].toNat : Int)
      · have C : Hid (letB (s[0].toNat : Int) = false) := c
        clear c
        go_wp2_with (go_at_call 65; refine (letterR_of _ _).mono ?_; rintro e w1 ⟨rfl, rfl⟩; rw [C.out])
        go_ret
        refine ⟨ret_bool ?_, rfl⟩
        rw [← N.out, nameB, hb.out, C.out]
        simp
      · have C : Hid (letB (s[0].toNat : Int) = true) := c
        clear c
        go_wp2_with (first | (go_at_call 65; refine (letterR_of _ _).mono ?_; rintro e w1 ⟨rfl, rfl⟩; rw [C.out]) | fail)
        go_loop [3] (fun v => ∃ k : Nat, k ≤ s.size ∧ v = .int .i64 k ∧ Hid (runL namB s.data.toList = k + runL namB (s.data.toList.drop k))) (fun v => s.size - (intOf v).toNat)
        case atStart => exact ⟨0, Nat.zero_le _, rfl, by show _ = _; simp⟩
        case round =>
          obtain ⟨k, h2, rfl, H⟩ := hrel
          by_cases hlt : k < s.size
          · have HD : Hid _ := runL_drop namB s k hlt
            cases c : namB (s[k].toNat : Int)
            · have CN : Hid (namB (s[k].toNat : Int) = false) := c
              clear c
              go_wp2_with (go_at_call 66; refine (innerR_of _ _).mono ?_; rintro e w1 ⟨rfl, rfl⟩; rw [CN.out])
              go_ret
              refine ⟨ret_bool ?_, rfl⟩
              have a := H.out
              have b := HD.out
              rw [CN.out] at b
              simp only [Bool.false_eq_true, if_false] at b
              rw [← N.out, nameB, decide_eq_false (show ¬ runL namB s.data.toList = s.size by omega)]
              simp
            · have CN : Hid (namB (s[k].toNat : Int) = true) := c
              clear c
              go_wp2_with (go_at_call 66; refine (innerR_of _ _).mono ?_; rintro e w1 ⟨rfl, rfl⟩; rw [CN.out])
              go_round
              case rel =>
                refine ⟨k + 1, by omega, by go_num, ?_⟩
                have a := H.out
                have b := HD.out
                rw [CN.out] at b
                simp only [if_true] at b
                show _ = _
                omega
              case measure => simp [intOf]; omega
          · go_wp2
            go_ret
            refine ⟨ret_bool ?_, rfl⟩
            have a := H.out
            rw [show s.data.toList.drop k = [] from List.drop_eq_nil_of_le (by simp; omega)] at a
            simp only [runL] at a
            rw [← N.out, nameB, hb.out, C.out, decide_eq_true (show 1 ≤ s.size ∧ s.size ≤ 24 from ⟨h0, h1⟩), decide_eq_true (show runL namB s.data.toList = s.size by omega)]
            rfl
    · go_wp2
      go_ret
      refine ⟨ret_bool ?_, rfl⟩
      rw [← N.out, nameB]
      simp [show ¬ s.size ≤ 24 by omega]
  · go_wp2
    go_ret
    refine ⟨ret_bool ?_, rfl⟩
    rw [← N.out, nameB]
    simp [show ¬ 1 ≤ s.size by omega]
end Go.Proofs.YtahgnmbkobiclaaGreat
namespace Go.Proofs.YtahgnmbkobiclaaGreat
set_option linter.unusedVariables false
open Go.RowKit
theorem byteAt_of (s : ByteArray) (i : Nat) (w : World) : Calls Tryz.prog 148 #[.string s, .int .i64 i] w fun e w' => e = .returned (.int .u8 (byt s i)) ∧ w' = w := by
  go_enter Tryz.func148, Tryz.ntmps148
  by_cases h : i < s.size
  · have hb : Hid (byt s i = s[i].toNat) := byt_in s i h
    go_wp2
    go_ret
    exact ⟨ret_int hb.out.symm, rfl⟩
  · have hb : Hid (byt s i = 0) := byt_out s i (by omega)
    go_wp2
    go_ret
    exact ⟨ret_int hb.out.symm, rfl⟩
/-- How many bits stand at a letter in capitals; 0: it is no such letter. -/
def bitN (c : Int) : Int := if c = 88 then 1 else if c = 66 then 8 else if c = 87 then 16 else if c = 68 then 32 else if c = 76 then 64 else 0
def areaB (c : Int) : Bool := decide (c = 73 ∨ c = 81 ∨ c = 77)
theorem bit6 (c : Int) : c = 88 ∨ c = 66 ∨ c = 87 ∨ c = 68 ∨ c = 76 ∨ (c ≠ 88 ∧ c ≠ 66 ∧ c ≠ 87 ∧ c ≠ 68 ∧ c ≠ 76) := by omega
theorem bitN_none (c : Int) (h : c ≠ 88 ∧ c ≠ 66 ∧ c ≠ 87 ∧ c ≠ 68 ∧ c ≠ 76) : bitN c = 0 := by
  unfold bitN
  rw [if_neg h.1, if_neg h.2.1, if_neg h.2.2.1, if_neg h.2.2.2.1, if_neg h.2.2.2.2]
set_option maxHeartbeats 1000000 in
theorem addressBits_of (c : Int) (h0 : 0 ≤ c) (h1 : c ≤ 255) (w : World) : Calls Tryz.prog 143 #[.int .u8 c] w fun e w' => e = .returned (.int .i64 (bitN (capI c))) ∧ w' = w := by
  generalize hd : capI c = d
  have D : Hid (capI c = d) := hd
  clear hd
  rcases bit6 d with rfl | rfl | rfl | rfl | rfl | h
  case inr.inr.inr.inr.inr =>
    have e1 : (d == 88) = false := by simp; omega
    have e2 : (d == 66) = false := by simp; omega
    have e3 : (d == 87) = false := by simp; omega
    have e4 : (d == 68) = false := by simp; omega
    have e5 : (d == 76) = false := by simp; omega
    go_enter Tryz.func143, Tryz.ntmps143
    go_wp2_with (go_at_call 150; refine (capital_of _ h0 h1 _).mono ?_; rintro e w1 ⟨rfl, rfl⟩; rw [D.out])
    go_ret
    exact ⟨ret_int (bitN_none d h).symm, rfl⟩
  all_goals
    go_enter Tryz.func143, Tryz.ntmps143
    go_wp2_with (go_at_call 150; refine (capital_of _ h0 h1 _).mono ?_; rintro e w1 ⟨rfl, rfl⟩; rw [D.out])
    go_ret
    exact ⟨ret_int rfl, rfl⟩
set_option maxHeartbeats 1000000 in
theorem isArea_of (c : Int) (h0 : 0 ≤ c) (h1 : c ≤ 255) (w : World) : Calls Tryz.prog 149 #[.int .u8 c] w fun e w' => e = .returned (.bool (areaB (capI c))) ∧ w' = w := by
  generalize hd : capI c = d
  have D : Hid (capI c = d) := hd
  clear hd
  by_cases e1 : d = 73
  · subst e1
    go_enter Tryz.func149, Tryz.ntmps149
    go_wp2_with (go_at_call 150; refine (capital_of _ h0 h1 _).mono ?_; rintro e w1 ⟨rfl, rfl⟩; rw [D.out])
    go_ret
    exact ⟨ret_bool rfl, rfl⟩
  · by_cases e2 : d = 81
    · subst e2
      go_enter Tryz.func149, Tryz.ntmps149
      go_wp2_with (go_at_call 150; refine (capital_of _ h0 h1 _).mono ?_; rintro e w1 ⟨rfl, rfl⟩; rw [D.out])
      go_ret
      exact ⟨ret_bool rfl, rfl⟩
    · have f1 : (d == 73) = false := by simp; omega
      have f2 : (d == 81) = false := by simp; omega
      go_enter Tryz.func149, Tryz.ntmps149
      go_wp2_with (go_at_call 150; refine (capital_of _ h0 h1 _).mono ?_; rintro e w1 ⟨rfl, rfl⟩; rw [D.out])
      go_ret
      refine ⟨ret_bool ?_, rfl⟩
      go_light
      unfold areaB
      rw [Bool.eq_iff_iff]
      simp [e1, e2]
/-- How long the number of an address is. -/
def digN (s : ByteArray) : Nat := runL digB (s.data.toList.drop 3)
/-- Does an address begin at the text's beginning, up to its number? -/
def headB (s : ByteArray) : Bool := decide (byt s 0 = 37) && areaB (capI (byt s 1)) && decide (bitN (capI (byt s 2)) ≠ 0) && decide (1 ≤ digN s ∧ digN s ≤ 4 ∧ ¬ (1 < digN s ∧ byt s 3 = 48))
/-- The place behind the address that a text begins with; -1: none does. -/
def adE (s : ByteArray) : Int :=
  if headB s then
    if 1 < bitN (capI (byt s 2)) then 3 + digN s
    else if byt s (3 + digN s) = 46 ∧ 48 ≤ byt s (4 + digN s) ∧ byt s (4 + digN s) ≤ 55 then 5 + digN s else -1
  else -1
theorem digN_le (s : ByteArray) (h : 3 ≤ s.size) : 3 + digN s ≤ s.size := by
  have := runL_le digB (s.data.toList.drop 3)
  unfold digN
  simp at this
  have e : s.data.size = s.size := rfl
  omega
theorem bit_size (s : ByteArray) (h : bitN (capI (byt s 2)) ≠ 0) : 3 ≤ s.size := by
  rcases Nat.lt_or_ge 2 s.size with q | q
  · omega
  · rw [byt_out s 2 q] at h
    exact absurd rfl h
theorem byteAt_z (s : ByteArray) (i : Int) (w : World) (h : 0 ≤ i) : Calls Tryz.prog 148 #[.string s, .int .i64 i] w fun e w' => e = .returned (.int .u8 (byt s i.toNat)) ∧ w' = w := by
  obtain ⟨n, rfl⟩ := Int.eq_ofNat_of_zero_le h
  exact byteAt_of s n w
theorem runEnd_digit_z (s : ByteArray) (i : Int) (w : World) (hs : s.size ≤ maxLen) (h0 : 0 ≤ i) (hi : i ≤ s.size) :
    Calls Tryz.prog 96 #[.string s, .int .i64 i, .func (.func 125) #[] #[]] w fun e w' => e = .returned (.int .i64 ((i.toNat + runL digB (s.data.toList.drop i.toNat) : Nat) : Int)) ∧ w' = w := by
  obtain ⟨n, rfl⟩ := Int.eq_ofNat_of_zero_le h0
  exact runEnd_digit s n w hs (by omega)
theorem adE_head (s : ByteArray) (h : headB s = false) : adE s = -1 := by
  unfold adE
  rw [h]
  rfl
/-- What is left behind the number. -/
def tailE (s : ByteArray) (d : Nat) : Int :=
  if 1 ≤ d ∧ d ≤ 4 ∧ ¬ (1 < d ∧ byt s 3 = 48) then
    if 1 < bitN (capI (byt s 2)) then 3 + d
    else if byt s (3 + d) = 46 ∧ 48 ≤ byt s (4 + d) ∧ byt s (4 + d) ≤ 55 then 5 + d else -1
  else -1
theorem adE_tail (s : ByteArray) (c0 : byt s 0 = 37) (c1 : areaB (capI (byt s 1)) = true) (c2 : ¬ bitN (capI (byt s 2)) = 0) : adE s = tailE s (digN s) := by
  unfold adE tailE headB
  rw [c0, c1, decide_eq_true c2]
  by_cases h : 1 ≤ digN s ∧ digN s ≤ 4 ∧ ¬ (1 < digN s ∧ byt s 3 = 48)
  · rw [if_pos h, decide_eq_true h]
    rfl
  · rw [if_neg h, decide_eq_false h]
    rfl
set_option maxHeartbeats 1000000 in
theorem addressEnd_in (s : ByteArray) (w : World) (hs : s.size ≤ maxLen) (c0 : byt s 0 = 37) (c1 : areaB (capI (byt s 1)) = true) (c2 : ¬ bitN (capI (byt s 2)) = 0) (r : Int) (R : Hid (adE s = r)) :
    Calls Tryz.prog 141 #[.string s, .int .i64 0] w fun e w' => e = .returned (.int .i64 r) ∧ w' = w := by
  have b1 := byt_bounds s 1
  have hz := bit_size s c2
  have hd := digN_le s hz
  have T : Hid (tailE s (digN s) = r) := by show _ = _; rw [← R.out, adE_tail s c0 c1 c2]
  clear R
  have hm : s.size ≤ 9223372036854775807 := hs
  have D : Hid (runL digB (s.data.toList.drop 3) = digN s) := rfl
  have B2 : Hid (byt s 2 = s[2].toNat) := byt_in s 2 (by omega)
  have b2 := byt_bounds s 2
  rw [B2.out] at c2 b2
  have C1 : Hid (areaB (capI (byt s 1)) = true) := c1
  clear c1
  generalize hg : digN s = d at *
  clear hg
  have f2 : (bitN (capI (s[2].toNat : Int)) == 0) = false := by simpa using c2
  go_enter Tryz.func141, Tryz.ntmps141
  go_wp2_with (first
    | (go_at_call 149; refine (isArea_of _ b1.1 b1.2 _).mono ?_; rintro e w1 ⟨rfl, rfl⟩; rw [C1.out])
    | (go_at_call 143; refine (addressBits_of _ b2.1 b2.2 _).mono ?_; rintro e w1 ⟨rfl, rfl⟩)
    | (go_at_call 96; refine (runEnd_digit_z s _ _ hs (by omega) (by omega)).mono ?_; rintro e w1 ⟨rfl, rfl⟩; simp only [Int.reduceToNat]; rw [D.out])
    | (go_at_call 148; refine (byteAt_z s _ _ (by omega)).mono ?_; rintro e w1 ⟨rfl, rfl⟩; simp only [Int.toNat_zero, Int.toNat_one, Int.reduceToNat]; try rw [B2.out]))
  all_goals
    go_ret
    refine ⟨ret_int ?_, rfl⟩
    rw [← T.out]
    go_light
    try simp only [show 3 + d + 1 = 4 + d by omega] at *
    simp only [beq_iff_eq, beq_eq_false_iff_ne] at *
    unfold tailE
    rw [B2.out]
    rcases Nat.lt_or_ge 3 s.size with q | q
    · have B4 : byt s 3 = s[3].toNat := byt_in s 3 q
      repeat' split
      all_goals omega
    · repeat' split
      all_goals omega
set_option maxHeartbeats 400000 in
theorem addressEnd_of (s : ByteArray) (w : World) (hs : s.size ≤ maxLen) : Calls Tryz.prog 141 #[.string s, .int .i64 0] w fun e w' => e = .returned (.int .i64 (adE s)) ∧ w' = w := by
  have b0 := byt_bounds s 0
  have b1 := byt_bounds s 1
  have b2 := byt_bounds s 2
  generalize hr : adE s = r
  have R : Hid (adE s = r) := hr
  clear hr
  by_cases c0 : byt s 0 = 37
  · cases c1 : areaB (capI (byt s 1))
    · have R' : Hid (-1 = r) := by
        show _ = _
        rw [← R.out, adE_head]
        unfold headB
        simp [c1]
      have C1 : Hid (areaB (capI (byt s 1)) = false) := c1
      clear c1 R
      go_enter Tryz.func141, Tryz.ntmps141
      go_wp2_with (first
        | (go_at_call 148; refine (byteAt_z s _ _ (by omega)).mono ?_; rintro e w1 ⟨rfl, rfl⟩; simp only [Int.toNat_zero, Int.toNat_one])
        | (go_at_call 149; refine (isArea_of _ b1.1 b1.2 _).mono ?_; rintro e w1 ⟨rfl, rfl⟩; rw [C1.out]))
      go_ret
      exact ⟨ret_int R'.out, rfl⟩
    · have C1 : Hid (areaB (capI (byt s 1)) = true) := c1
      by_cases c2 : bitN (capI (byt s 2)) = 0
      · have R' : Hid (-1 = r) := by
          show _ = _
          rw [← R.out, adE_head]
          unfold headB
          simp [c2]
        have C2 : Hid (bitN (capI (byt s 2)) = 0) := c2
        clear c1 c2 R
        go_enter Tryz.func141, Tryz.ntmps141
        go_wp2_with (first
          | (go_at_call 148; refine (byteAt_z s _ _ (by omega)).mono ?_; rintro e w1 ⟨rfl, rfl⟩; simp only [Int.toNat_zero, Int.toNat_one, Int.reduceToNat])
          | (go_at_call 149; refine (isArea_of _ b1.1 b1.2 _).mono ?_; rintro e w1 ⟨rfl, rfl⟩; rw [C1.out])
          | (go_at_call 143; refine (addressBits_of _ b2.1 b2.2 _).mono ?_; rintro e w1 ⟨rfl, rfl⟩; rw [C2.out]))
        go_ret
        exact ⟨ret_int R'.out, rfl⟩
      · exact addressEnd_in s w hs c0 c1 c2 r R
  · have R' : Hid (-1 = r) := by
      show _ = _
      rw [← R.out, adE_head]
      unfold headB
      simp [c0]
    have f0 : (byt s 0 == 37) = false := by simpa using c0
    clear R
    go_enter Tryz.func141, Tryz.ntmps141
    go_wp2_with (go_at_call 148; refine (byteAt_z s _ _ (by omega)).mono ?_; rintro e w1 ⟨rfl, rfl⟩; simp only [Int.toNat_zero])
    go_ret
    exact ⟨ret_int R'.out, rfl⟩
end Go.Proofs.YtahgnmbkobiclaaGreat
namespace Go.Proofs.YtahgnmbkobiclaaGreat
set_option linter.unusedVariables false
open Go.RowKit
/-- 1 of an input, 2 of an output, 0 of memory. -/
def dirN (c : Int) : Int := if c = 73 then 1 else if c = 81 then 2 else 0
/-- Is a text an address in capitals? -/
def addrB (s : ByteArray) : Bool := decide (adE s = s.size) && decide (capS s = s)
/-- What IsAddr answers. -/
def addrV (s : ByteArray) : Value := if addrB s then .tuple #[.int .i64 (bitN (byt s 2)), .int .i64 (dirN (byt s 1)), .bool true] else .tuple #[.int .i64 0, .int .i64 0, .bool false]
theorem addrV_no (s : ByteArray) (h : ¬ adE s = s.size ∨ ¬ capS s = s) : addrV s = .tuple #[.int .i64 0, .int .i64 0, .bool false] := by
  have : addrB s = false := by
    unfold addrB
    rcases h with h | h <;> simp [h]
  unfold addrV
  rw [this]
  rfl
theorem addrV_yes (s : ByteArray) (h : adE s = s.size) (h' : capS s = s) : addrV s = .tuple #[.int .i64 (bitN (byt s 2)), .int .i64 (dirN (byt s 1)), .bool true] := by
  have : addrB s = true := by
    unfold addrB
    simp [h, h']
  unfold addrV
  rw [this]
  rfl
theorem ret_val {a b : Value} (h : a = b) : Ending.returned a = .returned b := by rw [h]
theorem adE_ok (s : ByteArray) (h : adE s = s.size) : byt s 0 = 37 ∧ areaB (capI (byt s 1)) = true ∧ bitN (capI (byt s 2)) ≠ 0 ∧ 3 ≤ s.size := by
  cases g : headB s
  · rw [adE_head s g] at h
    omega
  · unfold headB at g
    simp only [Bool.and_eq_true, decide_eq_true_eq] at g
    exact ⟨g.1.1.1, g.1.1.2, g.1.2, bit_size s g.1.2⟩
theorem capU_of_capS (s : ByteArray) (h : capS s = s) (i : Nat) : capI (byt s i) = byt s i := by
  rcases Nat.lt_or_ge i s.size with q | q
  · have e : (s.data.toList.map capU) = s.data.toList := by
      have := congrArg (fun x : ByteArray => x.data.toList) h
      simpa [capS] using this
    have q' : i < s.data.toList.length := by simpa using q
    have f : (s.data.toList.map capU)[i]? = s.data.toList[i]? := by rw [e]
    rw [List.getElem?_map, List.getElem?_eq_getElem q'] at f
    simp only [Option.map_some, Option.some.injEq] at f
    have g := capU_toNat (s.data.toList[i])
    rw [f] at g
    unfold byt
    rw [List.getD_eq_getElem?_getD, List.getElem?_eq_getElem q']
    exact g.symm
  · rw [byt_out s i q]
    rfl
theorem text_ne {a b : ByteArray} (h : ¬ a = b) : (a.toList == b.toList) = false := by
  rw [beq_eq_false_iff_ne]
  intro q
  rw [ByteArray.toList_eq, ByteArray.toList_eq] at q
  exact h (by cases a; cases b; simp at q; rw [q])
/-- The byte of an address that tells its direction, as the program's and the document's switch have it. -/
theorem dir3 (c : Int) : c = 73 ∨ c = 81 ∨ (c ≠ 73 ∧ c ≠ 81) := by omega
theorem dirN_no (c : Int) (h : c ≠ 73 ∧ c ≠ 81) : dirN c = 0 := by
  unfold dirN
  rw [if_neg h.1, if_neg h.2]
set_option maxHeartbeats 1000000 in
theorem IsAddr_yes (s : ByteArray) (w : World) (hs : s.size ≤ maxLen) (E : Hid (adE s = s.size)) (C : Hid (capS s = s)) (hz : 3 ≤ s.size) : Calls Tryz.prog 129 #[.string s] w fun e w' => e = .returned (addrV s) ∧ Below w.heap.size w w' := by
  generalize hv : addrV s = v
  have V : Hid (v = .tuple #[.int .i64 (bitN (byt s 2)), .int .i64 (dirN (byt s 1)), .bool true]) := by
    show _ = _
    rw [← hv, addrV_yes s E.out C.out]
  clear hv
  have hm : s.size ≤ 9223372036854775807 := hs
  have b1 : Hid (byt s 1 = s[1].toNat) := byt_in s 1 (by omega)
  have b2 : Hid (byt s 2 = s[2].toNat) := byt_in s 2 (by omega)
  have bb := byt_bounds s 2
  rw [b2.out] at bb
  have C2 : Hid (capI (s[2].toNat : Int) = s[2].toNat) := by
    show _ = _
    rw [← b2.out]
    exact capU_of_capS s C.out 2
  rw [b1.out, b2.out] at V
  rcases dir3 (s[1].toNat : Int) with h | h | h
  all_goals
    first
    | have f1 : ((s[1].toNat : Int) == 73) = true := by simpa using h
    | have f1 : ((s[1].toNat : Int) == 73) = false := by simp; omega
    first
    | have f2 : ((s[1].toNat : Int) == 81) = true := by simpa using h
    | have f2 : ((s[1].toNat : Int) == 81) = false := by simp; omega
    have V2 : Hid (v = .tuple #[.int .i64 (bitN (s[2].toNat : Int)), .int .i64 (if (s[1].toNat : Int) = 73 then 1 else if (s[1].toNat : Int) = 81 then 2 else 0), .bool true]) := V
    have H : Hid _ := h
    clear V h
    go_enter Tryz.func129, Tryz.ntmps129
    go_wp2_with (first
      | (go_at_call 141; refine (addressEnd_of s _ hs).mono ?_; rintro e w1 ⟨rfl, rfl⟩; rw [E.out])
      | (go_at_call 142; refine (capitals_of s _ hs).mono ?_; rintro e w1 ⟨rfl, hB⟩; rw [C.out])
      | (go_at_call 143; refine (addressBits_of _ bb.1 bb.2 _).mono ?_; rintro e w1 ⟨rfl, rfl⟩; rw [C2.out]))
    go_returns
    refine ⟨ret_val ?_, by assumption⟩
    rw [V2.out]
    have h := H.out
    first
    | (rw [if_pos h]; rfl)
    | (rw [if_neg (by omega), if_pos h]; rfl)
    | (rw [if_neg h.1, if_neg h.2]; rfl)
set_option maxHeartbeats 1000000 in
theorem IsAddr_of (s : ByteArray) (w : World) (hs : s.size ≤ maxLen) : Calls Tryz.prog 129 #[.string s] w fun e w' => e = .returned (addrV s) ∧ Below w.heap.size w w' := by
  by_cases hE : adE s = s.size
  · by_cases hC : capS s = s
    · exact IsAddr_yes s w hs hE hC (adE_ok s hE).2.2.2
    · generalize hv : addrV s = v
      have V' : Hid (v = .tuple #[.int .i64 0, .int .i64 0, .bool false]) := by
        show _ = _
        rw [← hv, addrV_no s (Or.inr hC)]
      have E : Hid (adE s = s.size) := hE
      have f := text_ne hC
      clear hE hv hC
      go_enter Tryz.func129, Tryz.ntmps129
      go_wp2_with (first
        | (go_at_call 141; refine (addressEnd_of s _ hs).mono ?_; rintro e w1 ⟨rfl, rfl⟩; rw [E.out])
        | (go_at_call 142; refine (capitals_of s _ hs).mono ?_; rintro e w1 ⟨rfl, hB⟩))
      go_returns
      exact ⟨ret_val V'.out.symm, by assumption⟩
  · generalize hv : addrV s = v
    have V' : Hid (v = .tuple #[.int .i64 0, .int .i64 0, .bool false]) := by
      show _ = _
      rw [← hv, addrV_no s (Or.inl hE)]
    have f : (adE s == (s.size : Int)) = false := by simpa using hE
    clear hv
    go_enter Tryz.func129, Tryz.ntmps129
    go_wp2_with (go_at_call 141; refine (addressEnd_of s _ hs).mono ?_; rintro e w1 ⟨rfl, rfl⟩)
    go_returns
    exact ⟨ret_val V'.out.symm, Below.refl _ _⟩
end Go.Proofs.YtahgnmbkobiclaaGreat
namespace Go.Proofs.YtahgnmbkobiclaaGreat
set_option linter.unusedVariables false
open Go.RowKit
/-- An operation that makes memory: its number, the slot of its answer, and what is told of the blocks from lo up to hi, of the answer and of every later world. -/
structure Mkr where
  i : Nat
  d : Nat
  R : Nat → Nat → Value → World → Prop
def setAll (l : Array Bool) (ms : List Mkr) : Array Bool := ms.foldl (fun l m => l.setIfInBounds m.i true) l
def putAll (a : Act) (ms : List Mkr) (val : Nat → Value) : Act := ms.foldl (fun a m => a.put (some m.d) (val m.i)) a
theorem setAll_pick : ∀ (l1 l2 : List Mkr) (m : Mkr) (l : Array Bool), setAll l (l1 ++ m :: l2) = setAll (l.setIfInBounds m.i true) (l1 ++ l2)
  | [], l2, m, l => rfl
  | x :: l1, l2, m, l => by
    show setAll (l.setIfInBounds x.i true) (l1 ++ m :: l2) = setAll ((l.setIfInBounds m.i true).setIfInBounds x.i true) (l1 ++ l2)
    rw [setAll_pick l1 l2 m]
    congr 1
    by_cases h : x.i = m.i
    · rw [h]
    · rw [Array.setIfInBounds_comm _ _ h]
theorem put_comm (a : Act) (d e : Nat) (u v : Value) (h : d ≠ e) : (a.put (some d) u).put (some e) v = (a.put (some e) v).put (some d) u := by
  simp only [Act.put]
  rw [Array.setIfInBounds_comm _ _ h]
theorem putAll_pick (val : Nat → Value) : ∀ (l1 l2 : List Mkr) (m : Mkr) (a : Act), (∀ x ∈ l1, x.d ≠ m.d) → putAll a (l1 ++ m :: l2) val = putAll (a.put (some m.d) (val m.i)) (l1 ++ l2) val
  | [], l2, m, a, _ => rfl
  | x :: l1, l2, m, a, h => by
    show putAll (a.put (some x.d) (val x.i)) (l1 ++ m :: l2) val = putAll ((a.put (some m.d) (val m.i)).put (some x.d) (val x.i)) (l1 ++ l2) val
    rw [putAll_pick val l1 l2 m _ (fun y hy => h y (by simp [hy])), put_comm _ _ _ _ _ (h x (by simp))]
theorem putAll_congr {val val' : Nat → Value} : ∀ (ms : List Mkr) (a : Act), (∀ m ∈ ms, val m.i = val' m.i) → putAll a ms val = putAll a ms val'
  | [], _, _ => rfl
  | x :: ms, a, h => by
    show putAll (a.put (some x.d) (val x.i)) ms val = putAll (a.put (some x.d) (val' x.i)) ms val'
    rw [h x (by simp)]
    exact putAll_congr ms _ fun m hm => h m (by simp [hm])
/-- Whatever order they come up in, only these come up. -/
def rdyB (md : Region.Mode) (ops : Array Oper) : Nat → Array Bool → List Nat → Bool
  | 0, _, is => is.isEmpty
  | n + 1, l, is => is.isEmpty || (!(Region.ready md ops l).isEmpty && (Region.ready md ops l).all (fun i => is.contains i && rdyB md ops n (l.setIfInBounds i true) (is.erase i)))
section
variable {P : Program} {ops : Array Oper} {Q : Exit → Act → World → Prop} {md : Region.Mode} {S : World → Prop}
/-- A quiet operation is taken first; the slot of its answer is named. -/
theorem wpAnyH_takeD {i d : Nat} {oi : Oper} {v : Value} {fuel : Nat} {listed : Array Bool} {a : Act} {w : World} (hi : ops[i]? = some oi) (hd : (ops[i]?).bind (·.dst) = some d)
    (hs : Region.noSelect ops = true) (hf : Region.free md ops listed i = true) (hr : (Region.ready md ops listed).contains i = true)
    (hQ : ∀ c a w, Q (.panic c) (a.put oi.dst v) w → Q (.panic c) a w) (hy : YieldsIf P ops S oi v a) (hS : S w)
    (h : wpAnyH P md ops Q S fuel (listed.setIfInBounds i true) (a.put (some d) v) w) : wpAnyH P md ops Q S (fuel + 1) listed a w := by
  refine wpAnyH_take hi hs hf hr hQ hy hS ?_
  rw [hi] at hd
  have e : oi.dst = some d := hd
  rw [e]
  exact h
/-- What an operation does, wherever it comes up. -/
def Makes (P : Program) (ops : Array Oper) (Q : Exit → Act → World → Prop) (AG : Act → Prop) (W0 : World) (m : Mkr) : Prop :=
  ∀ (a : Act) (w : World) (K : Act → World → Prop), AG a → Below W0.heap.size W0 w → (∀ v w', Below w.heap.size w w' → m.R w.heap.size w'.heap.size v w' → K (a.put (some m.d) v) w') → wpOp P ops Q m.i K a w
theorem wpAnyH_mk (W0 : World) (hS : ∀ w, Below W0.heap.size W0 w → S w) (AG : Act → Prop) (f : Nat) : ∀ (n : Nat) (ms : List Mkr) (listed : Array Bool) (a : Act) (w : World),
    ms.length = n → (ms.map (·.d)).Nodup → (ms.map (·.i)).Nodup → rdyB md ops n listed (ms.map (·.i)) = true → AG a → (∀ a m v, AG a → m ∈ ms → AG (a.put (some m.d) v)) → Below W0.heap.size W0 w →
    (∀ m ∈ ms, Makes P ops Q AG W0 m) → (∀ m ∈ ms, ∀ lo hi v w w', m.R lo hi v w → Below w.heap.size w w' → m.R lo hi v w') →
    (∀ (val : Nat → Value) (lo hi : Nat → Nat) w', Below w.heap.size w w' → (∀ m ∈ ms, w.heap.size ≤ lo m.i ∧ lo m.i ≤ hi m.i ∧ hi m.i ≤ w'.heap.size ∧ m.R (lo m.i) (hi m.i) (val m.i) w') →
      (∀ m ∈ ms, ∀ m' ∈ ms, m.i ≠ m'.i → hi m.i ≤ lo m'.i ∨ hi m'.i ≤ lo m.i) → wpAnyH P md ops Q S f (setAll listed ms) (putAll a ms val) w') →
    wpAnyH P md ops Q S (n + f) listed a w := by
  intro n
  induction n with
  | zero =>
    intro ms listed a w hn _ _ _ _ _ _ _ _ fin
    have e : ms = [] := List.length_eq_zero_iff.1 hn
    subst e
    rw [Nat.zero_add]
    exact fin (fun _ => undef) (fun _ => 0) (fun _ => 0) w (Below.refl _ _) (fun m hm => by cases hm) (fun m hm => by cases hm)
  | succ n ih =>
    intro ms listed a w hn hd hi hr hA hcl hb hmk hmo fin
    rw [Nat.succ_add]
    have ne : ms.map (·.i) ≠ [] := fun e => by rw [List.map_eq_nil_iff] at e; rw [e] at hn; cases hn
    unfold rdyB at hr
    simp only [Bool.or_eq_true, List.isEmpty_iff, Bool.and_eq_true, Bool.not_eq_true', List.all_eq_true] at hr
    rcases hr with hr | ⟨hr0, hr1⟩
    · exact absurd hr ne
    refine ⟨fun e => by rw [e] at hr0; simp at hr0, fun i hir => ?_⟩
    obtain ⟨hc, hrec⟩ := hr1 i hir
    have him : i ∈ ms.map (·.i) := by simpa using hc
    obtain ⟨m, hm, rfl⟩ := List.mem_map.1 him
    obtain ⟨l1, l2, rfl⟩ := List.append_of_mem hm
    have hd1 : ∀ x ∈ l1, x.d ≠ m.d := fun x hx e => by
      rw [List.map_append, List.map_cons, List.nodup_append] at hd
      exact hd.2.2 x.d (List.mem_map_of_mem hx) m.d (by simp) e
    have hi1 : ∀ x ∈ l1, x.i ≠ m.i := fun x hx e => by
      rw [List.map_append, List.map_cons, List.nodup_append] at hi
      exact hi.2.2 x.i (List.mem_map_of_mem hx) m.i (by simp) e
    have hi2 : ∀ x ∈ l2, x.i ≠ m.i := fun x hx e => by
      rw [List.map_append, List.map_cons, List.nodup_append] at hi
      exact (List.nodup_cons.1 hi.2.1).1 (by rw [← e]; exact List.mem_map_of_mem hx)
    have nm : ∀ x ∈ l1 ++ l2, x.i ≠ m.i := fun x hx => by
      rcases List.mem_append.1 hx with h | h
      · exact hi1 x h
      · exact hi2 x h
    have sub : ∀ x ∈ l1 ++ l2, x ∈ l1 ++ m :: l2 := fun x hx => by
      rcases List.mem_append.1 hx with h | h
      · exact List.mem_append_left _ h
      · exact List.mem_append_right _ (List.mem_cons_of_mem _ h)
    have er : ((l1 ++ m :: l2).map (·.i)).erase m.i = (l1 ++ l2).map (·.i) := by
      rw [List.map_append, List.map_cons, List.map_append, List.erase_append_right _ (by
        intro h
        obtain ⟨x, hx, e⟩ := List.mem_map.1 h
        exact hi1 x hx e), List.erase_cons_head]
    refine hmk m hm a w _ hA hb fun v w1 b1 r1 => ?_
    refine ⟨hS _ (hb.trans (b1.mono hb.size)), ?_⟩
    refine ih (l1 ++ l2) _ _ w1 (by simp at hn ⊢; omega) ?_ ?_ (by rw [← er]; exact hrec) (hcl a m v hA hm) (fun a x v hx hxm => hcl a x v hx (sub x hxm)) (hb.trans (b1.mono hb.size)) (fun x hx => hmk x (sub x hx)) (fun x hx => hmo x (sub x hx)) ?_
    · refine hd.sublist ?_
      rw [List.map_append, List.map_append, List.map_cons]
      exact List.Sublist.append_left (List.sublist_cons_self _ _) _
    · refine hi.sublist ?_
      rw [List.map_append, List.map_append, List.map_cons]
      exact List.Sublist.append_left (List.sublist_cons_self _ _) _
    · intro val lo hi' w2 b2 h1 h2
      have q := fin (fun k => if k = m.i then v else val k) (fun k => if k = m.i then w.heap.size else lo k) (fun k => if k = m.i then w1.heap.size else hi' k) w2 (b1.trans (b2.mono b1.size)) ?_ ?_
      · rw [setAll_pick, putAll_pick _ _ _ _ _ hd1, if_pos rfl] at q
        rw [← putAll_congr (val := fun k => if k = m.i then v else val k) (val' := val) (l1 ++ l2) _ (fun x hx => if_neg (nm x hx))]
        exact q
      · intro x hx
        rcases List.mem_append.1 hx with h | h
        · have e := hi1 x h
          simp only [if_neg e]
          obtain ⟨p1, p2, p3, p4⟩ := h1 x (List.mem_append_left _ h)
          exact ⟨Nat.le_trans b1.size p1, p2, p3, p4⟩
        · rcases List.mem_cons.1 h with rfl | h
          · simp only [if_pos]
            exact ⟨Nat.le_refl _, b1.size, b2.size, hmo x hm _ _ _ _ _ r1 b2⟩
          · have e := hi2 x h
            simp only [if_neg e]
            obtain ⟨p1, p2, p3, p4⟩ := h1 x (List.mem_append_right _ h)
            exact ⟨Nat.le_trans b1.size p1, p2, p3, p4⟩
      · have key : ∀ x ∈ l1 ++ l2, w1.heap.size ≤ lo x.i := fun x hx => (h1 x hx).1
        have pos : ∀ x ∈ l1 ++ m :: l2, x.i ≠ m.i → x ∈ l1 ++ l2 := fun x hx e => by
          rcases List.mem_append.1 hx with h | h
          · exact List.mem_append_left _ h
          · rcases List.mem_cons.1 h with rfl | h
            · exact absurd rfl e
            · exact List.mem_append_right _ h
        intro x hx y hy hxy
        by_cases ex : x.i = m.i
        · have ey : y.i ≠ m.i := fun e => hxy (ex.trans e.symm)
          simp only [if_pos ex, if_neg ey]
          exact Or.inl (key y (pos y hy ey))
        · by_cases ey : y.i = m.i
          · simp only [if_neg ex, if_pos ey]
            exact Or.inr (key x (pos x hx ex))
          · simp only [if_neg ex, if_neg ey]
            exact h2 x (pos x hx ex) y (pos y hy ey) hxy
end
end Go.Proofs.YtahgnmbkobiclaaGreat
namespace Go.Proofs.YtahgnmbkobiclaaGreat
set_option linter.unusedVariables false
open Go.RowKit
/-- One step of the check sum. -/
def crS (c : BitVec 32) : BitVec 32 := (c >>> 1) ^^^ (if c.getLsbD 0 = true then 3988292384#32 else 0#32)
def crN : Nat → BitVec 32 → BitVec 32
  | 0, c => c
  | n + 1, c => crN n (crS c)
/-- What one byte does. -/
def crB (c : BitVec 32) (x : BitVec 32) : BitVec 32 := crN 8 (c ^^^ x)
theorem crS_xor (a b : BitVec 32) : crS (a ^^^ b) = crS a ^^^ crS b := by
  unfold crS
  apply BitVec.eq_of_getLsbD_eq
  intro i hi
  simp only [BitVec.getLsbD_xor, BitVec.getLsbD_ushiftRight]
  generalize a.getLsbD 0 = p
  generalize b.getLsbD 0 = q
  cases p <;> cases q <;> simp
  all_goals
    cases a.getLsbD (1 + i) <;> cases b.getLsbD (1 + i) <;> simp
theorem crN_xor (n : Nat) (a b : BitVec 32) : crN n (a ^^^ b) = crN n a ^^^ crN n b := by
  induction n generalizing a b with
  | zero => rfl
  | succ n ih => show crN n (crS (a ^^^ b)) = _; rw [crS_xor, ih]; rfl
/-- A step of what has no lowest bits moves it down. -/
theorem crS_low {c : BitVec 32} (h : c.getLsbD 0 = false) : crS c = c >>> 1 := by
  unfold crS
  rw [h]
  simp
theorem crN_low (n : Nat) (c : BitVec 32) (h : ∀ i, i < n → c.getLsbD i = false) : crN n c = c >>> n := by
  induction n generalizing c with
  | zero => show c = _; simp
  | succ n ih =>
    show crN n (crS c) = _
    rw [crS_low (h 0 (by omega)), ih]
    · apply BitVec.eq_of_getLsbD_eq
      intro i hi
      simp only [BitVec.getLsbD_ushiftRight]
      congr 1
      omega
    · intro i hi
      rw [BitVec.getLsbD_ushiftRight]
      exact h _ (by omega)
/-- A byte, by the table of what eight steps do to a byte. -/
theorem crB_tab (c x : BitVec 32) (hx : x < 256#32) : crB c x = (c >>> 8) ^^^ crN 8 ((c ^^^ x) &&& 255#32) := by
  have e : c ^^^ x = ((c ^^^ x) &&& 255#32) ^^^ ((c >>> 8) <<< 8) := by
    apply BitVec.eq_of_getLsbD_eq
    intro i hi
    have hx8 : 8 ≤ i → x.getLsbD i = false := fun h => by
      have hlt : x.toNat < 2 ^ 8 := by simpa [BitVec.lt_def] using hx
      rw [BitVec.getLsbD]
      exact Nat.testBit_lt_two_pow (Nat.lt_of_lt_of_le hlt (Nat.pow_le_pow_right (by decide) h))
    have h255 : (255#32).getLsbD i = decide (i < 8) := by
      rw [BitVec.getLsbD]
      show (255 : Nat).testBit i = _
      rw [show (255 : Nat) = 2 ^ 8 - 1 by decide, Nat.testBit_two_pow_sub_one]
    simp only [BitVec.getLsbD_xor, BitVec.getLsbD_and, BitVec.getLsbD_shiftLeft, BitVec.getLsbD_ushiftRight, h255]
    by_cases h : i < 8
    · simp [h]
    · rw [hx8 (by omega)]
      simp [h, hi, show 8 + (i - 8) = i by omega]
  unfold crB
  rw [e, crN_xor, crN_low 8 ((c >>> 8) <<< 8)]
  · rw [← e]
    rw [BitVec.xor_comm]
    congr 1
    apply BitVec.eq_of_getLsbD_eq
    intro i hi
    simp only [BitVec.getLsbD_ushiftRight, BitVec.getLsbD_shiftLeft]
    by_cases h : 8 + i < 32
    · simp [h]
    · simp [h, BitVec.getLsbD_of_ge c (8 + i) (by omega)]
  · intro i hi
    simp [BitVec.getLsbD_shiftLeft, hi]
/-- The check sum's run over bytes. -/
def crL (c : BitVec 32) : List Nat → BitVec 32
  | [] => c
  | x :: l => crL (crB c (BitVec.ofNat 32 x)) l
def crcF (l : List Nat) : BitVec 32 := crL 4294967295#32 l ^^^ 4294967295#32
theorem crL_snoc (c : BitVec 32) (l : List Nat) (x : Nat) : crL c (l ++ [x]) = crB (crL c l) (BitVec.ofNat 32 x) := by
  induction l generalizing c with
  | nil => rfl
  | cons y l ih => exact ih _
/-- Numbers of 32 bits as the machine has them. -/
def uW (c : BitVec 32) : Int := c.toNat
theorem uW_range (c : BitVec 32) : 0 ≤ uW c ∧ uW c < 4294967296 := by
  have := c.isLt
  unfold uW
  omega
theorem xor_u3 (a b : BitVec 32) : bits .xor .u32 (uW a) (uW b) = uW (a ^^^ b) := by
  have ea : BitVec.ofInt 32 (uW a) = a := by unfold uW; rw [BitVec.ofInt_natCast]; simp
  have eb : BitVec.ofInt 32 (uW b) = b := by unfold uW; rw [BitVec.ofInt_natCast]; simp
  show IntKind.u32.wrap ((BitVec.ofInt 32 (uW a) ^^^ BitVec.ofInt 32 (uW b)).toNat : Int) = _
  rw [ea, eb]
  have := uW_range (a ^^^ b)
  show ((a ^^^ b).toNat : Int) % 4294967296 = uW _
  unfold uW at *
  omega
theorem odd_u3 (a : BitVec 32) : (uW a % 2 = 1) ↔ a.getLsbD 0 = true := by
  unfold uW
  rw [BitVec.getLsbD, Nat.testBit_zero]
  simp
  omega
/-- The index into the table. -/
theorem idx_u3 (c : BitVec 32) (x : Nat) (hx : x < 256) : bits .xor .u8 (uW c % 256) x = uW ((c ^^^ BitVec.ofNat 32 x) &&& 255#32) := by
  have e1 : BitVec.ofInt 8 (uW c % 256) = c.setWidth 8 := by
    apply BitVec.eq_of_toNat_eq
    rw [BitVec.toNat_ofInt, BitVec.toNat_setWidth]
    unfold uW
    have := c.isLt
    omega
  have e2 : BitVec.ofInt 8 (x : Int) = (BitVec.ofNat 32 x).setWidth 8 := by
    apply BitVec.eq_of_toNat_eq
    rw [BitVec.toNat_ofInt, BitVec.toNat_setWidth, BitVec.toNat_ofNat]
    omega
  show IntKind.u8.wrap ((BitVec.ofInt 8 (uW c % 256) ^^^ BitVec.ofInt 8 (x : Int)).toNat : Int) = _
  rw [e1, e2]
  have e3 : (c.setWidth 8 ^^^ (BitVec.ofNat 32 x).setWidth 8).toNat = ((c ^^^ BitVec.ofNat 32 x) &&& 255#32).toNat := by
    rw [← BitVec.setWidth_xor, BitVec.toNat_setWidth, BitVec.toNat_and]
    show _ = (c ^^^ BitVec.ofNat 32 x).toNat &&& 255
    rw [show (255 : Nat) = 2 ^ 8 - 1 by decide, Nat.and_two_pow_sub_one_eq_mod]
  rw [e3]
  have h : ((c ^^^ BitVec.ofNat 32 x) &&& 255#32).toNat < 256 := by rw [← e3]; exact BitVec.isLt _
  show (((c ^^^ BitVec.ofNat 32 x) &&& 255#32).toNat : Int) % 256 = _
  unfold uW
  omega
end Go.Proofs.YtahgnmbkobiclaaGreat
namespace Go.Proofs.YtahgnmbkobiclaaGreat
set_option linter.unusedVariables false
open Go.RowKit
set_option maxRecDepth 100000 in
theorem arr4 (kb o c : Nat) (w : World) : (Instr.arrayAt 58 (.slice (some ⟨kb, o, none⟩) 4 c)).run Tryz.prog w = .ok (.pointer (some ⟨kb, o, none⟩)) w := by
  first
    | kernel_rfl
    | kernel_rfl
    | (simp [Instr.arrayAt]; done)
theorem wf8 (n : Int) (h : 0 ≤ n) (k : n < 256) : (Lit.int .u8 n).wf = true := by
  show (decide ((0 : Int) ≤ n) && decide (n ≤ (255 : Int))) = true
  simp
  omega
theorem kl1 (n : Int) (h : (Lit.int .u8 n).wf = true) : Tryz.prog.keyLits 1 5 [.int .u8 n] = some [.int .u8 n] := by
  unfold Program.keyLits
  simp [Tryz.underlying5, h]
theorem cl1 : Tryz.prog.cellsOf 5 = 1 := by kernel_rfl
theorem cl4 : Tryz.prog.cellsOf 58 = 4 := by kernel_rfl
theorem kl4 (a b c d : Int) (ha : (Lit.int .u8 a).wf = true) (hb : (Lit.int .u8 b).wf = true) (hc : (Lit.int .u8 c).wf = true) (hd : (Lit.int .u8 d).wf = true) : Tryz.prog.keyLits 2 58 [.int .u8 a, .int .u8 b, .int .u8 c, .int .u8 d] = some [.int .u8 a, .int .u8 b, .int .u8 c, .int .u8 d] := by
  unfold Program.keyLits
  simp only [Tryz.underlying58, cl4, cl1, List.length_cons, List.length_nil, if_true]
  have e : List.range 4 = [0, 1, 2, 3] := rfl
  rw [e]
  simp [kl1, ha, hb, hc, hd]
set_option maxRecDepth 100000 in
theorem eqA4 (a0 a1 a2 a3 b0 b1 b2 b3 : Int) (w : World) (h0 : (Lit.int .u8 a0).wf = true) (h1 : (Lit.int .u8 a1).wf = true) (h2 : (Lit.int .u8 a2).wf = true) (h3 : (Lit.int .u8 a3).wf = true) (k0 : (Lit.int .u8 b0).wf = true) (k1 : (Lit.int .u8 b1).wf = true) (k2 : (Lit.int .u8 b2).wf = true) (k3 : (Lit.int .u8 b3).wf = true) : (Op.equalIn 10000 58 (.agg #[.int .u8 a0, .int .u8 a1, .int .u8 a2, .int .u8 a3]) (.agg #[.int .u8 b0, .int .u8 b1, .int .u8 b2, .int .u8 b3])).run Tryz.prog w = .ok (decide (a0 = b0 ∧ a1 = b1 ∧ a2 = b2 ∧ a3 = b3)) w := by
  obtain ⟨r, h, hr⟩ := run_equalIn_deep (P := Tryz.prog) 9998 2 58 (by kernel_rfl) w 2 2 (.agg #[.int .u8 a0, .int .u8 a1, .int .u8 a2, .int .u8 a3]) (.agg #[.int .u8 b0, .int .u8 b1, .int .u8 b2, .int .u8 b3]) _ _ (by kernel_rfl) (by kernel_rfl) (kl4 a0 a1 a2 a3 h0 h1 h2 h3) (kl4 b0 b1 b2 b3 k0 k1 k2 k3)
  have e : r = decide (a0 = b0 ∧ a1 = b1 ∧ a2 = b2 ∧ a3 = b3) := by
    cases r <;> simp_all
  rw [← e]
  exact h
end Go.Proofs.YtahgnmbkobiclaaGreat
namespace Go.Proofs.YtahgnmbkobiclaaGreat
set_option linter.unusedVariables false
open Go.RowKit
end Go.Proofs.YtahgnmbkobiclaaGreat
