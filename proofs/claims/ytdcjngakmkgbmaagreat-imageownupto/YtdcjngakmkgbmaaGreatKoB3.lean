/- image: may a task run so; no statement of the seat is proved here. -/
import Derived.Test.YtdcjngakmkgbmaaGreatKoB2
import Derived.Test.YtdcjngakmkgbmaaGreatCkGK
import Derived.Test.YtdcjngakmkgbmaaGreatKoA1
import Derived.Test.YtdcjngakmkgbmaaGreatKoA3
import Derived.Test.YtdcjngakmkgbmaaGreatCkIK
import Derived.Test.YtdcjngakmkgbmaaGreatKoA9
namespace Go.Proofs.YtdcjngakmkgbmaaGreat
set_option linter.unusedVariables false
open Go.RowKit
def flbN (f : FlR) : List Nat := tbN f.nm ++ nsN [f.wh, f.ce, f.ba, f.rg, f.sl] ++ lsN obN f.os ++ lsN lbN f.ls
def jbN (j : JbR) : List Nat := tbN j.nm ++ nsN [j.iv, j.sg, j.pr] ++ lsN nbN j.cs ++ lsN nbN j.bs ++ nbN j.bd
theorem lsN_le {α : Type} (f : α → List Nat) (c : Nat) (l : List α) (h : ∀ e ∈ l, (f e).length ≤ c) : (lsN f l).length ≤ 8 + l.length * c := by
  unfold lsN
  rw [List.length_append, nbN_len]
  have := flat_le f c l h
  omega
theorem lsO_le {l : List OpR} (h : ∀ o ∈ l, OpOk o) : (lsN obN l).length ≤ 8 + l.length * 4194377 := lsN_le _ _ _ (fun e he => by rw [obN_len]; have q1 : e.vs.size ≤ 4194304 := (h e he).2.2.2.2.2.2.2.2.2; omega)
theorem lsL_le (l : List LpR) : (lsN lbN l).length ≤ 8 + l.length * 24 := lsN_le _ _ _ (fun e he => by rw [lbN_len]; omega)
theorem lsI_le (l : List Int) : (lsN nbN l).length ≤ 8 + l.length * 8 := lsN_le _ _ _ (fun e he => by rw [nbN_len]; omega)
def FlS (f : FlR) : Prop := FlOk f ∧ f.os.length ≤ 16384 ∧ f.ls.length ≤ 16384
theorem flbN_len {f : FlR} (h : FlS f) : (flbN f).length ≤ 68800000000 := by
  obtain ⟨ok, h1, h2⟩ := h
  have q0 : f.nm.size ≤ 4194304 := ok.1
  have q1 := lsO_le ok.2.2.2.2.2.2.1
  have q2 := lsL_le f.ls
  unfold flbN
  rw [List.length_append, List.length_append, List.length_append, tbN_len, nsN_len]
  simp only [List.length_cons, List.length_nil]
  omega
theorem jbN_len {j : JbR} (h : JbOk j) : (jbN j).length ≤ 22000000 := by
  have q0 : j.nm.size ≤ 4194304 := h.1
  have q1 := lsI_le j.cs
  have q2 := lsI_le j.bs
  have q3 := h.2.2.2.2.2.2.2.1
  have q4 := h.2.2.2.2.2.2.2.2
  unfold jbN
  rw [List.length_append, List.length_append, List.length_append, List.length_append, tbN_len, nsN_len, nbN_len]
  simp only [List.length_cons, List.length_nil]
  omega
set_option maxRecDepth 20000 in
set_option maxHeartbeats 4000000 in
theorem codeX (B g : Nat) (bs : List Nat) (f : FlR) (x1 x2 : Option Addr) (p1 p2 : Nat) {S : Nat → Prop} (w : World) (h : Wb B g bs w) (hl : bs.length ≤ 6000000000000) (hS : ∀ b, S b → b < B) (hq : FlQ S w f x1 x2) (ho : FlS f) :
    Calls Tryz.prog 29 #[.pointer (some ⟨g, 0, none⟩), FlV f x1 x2 p1 p2] w fun e w' => e = .returned (.tuple #[]) ∧ Wb B g (bs ++ flbN f) w' ∧ Bq B w w' := by
  have HB := h.lt
  have R0 : Hid (∀ W, Bq B w W → Wb B g (bs) W → Calls Tryz.prog 25 #[.pointer (some ⟨g, 0, none⟩), .string f.nm] W fun e w' => e = .returned (.tuple #[]) ∧ Wb B g (bs ++ tbN f.nm) w' ∧ Bq B W w') := fun W hQ hW => textX B g (bs) f.nm W hW (by omega) ho.1.1
  have R1 : Hid (∀ W, Bq B w W → Wb B g (bs ++ tbN f.nm) W → Calls Tryz.prog 60 #[.pointer (some ⟨g, 0, none⟩), .slice (some ⟨W.heap.size, 0, none⟩) 5 5] (W.alloc (.cells #[.int .i64 f.wh, .int .i64 f.ce, .int .i64 f.ba, .int .i64 f.rg, .int .i64 f.sl] 3 (0, 0))) fun e w' => e = .returned (.tuple #[]) ∧ Wb B g (bs ++ tbN f.nm ++ nsN [f.wh, f.ce, f.ba, f.rg, f.sl]) w' ∧ Bq B W w') := fun W hQ hW => by
    have q := numbersX B g (bs ++ tbN f.nm) [f.wh, f.ce, f.ba, f.rg, f.sl] W.heap.size 5 (0, 0) (W.alloc (.cells #[.int .i64 f.wh, .int .i64 f.ce, .int .i64 f.ba, .int .i64 f.rg, .int .i64 f.sl] 3 (0, 0))) (Wq.below hW ((Below.refl _ _).alloc (Nat.le_refl _) _)) (heap_alloc_last _ _) (by (repeat first | rw [List.length_append] | rw [nsN_len] | rw [nbN_len] | rw [tbN_len] | rw [List.length_cons] | rw [List.length_nil]); have z1 := lsO_le ho.1.2.2.2.2.2.2.1; have z2 := lsL_le f.ls; have z3 := ho.2.1; have z4 := ho.2.2; have z5 : f.nm.size ≤ 4194304 := ho.1.1; omega) (by simp)
    have z := hW.lt
    refine q.mono ?_
    rintro e w' ⟨he, h1, h2⟩
    exact ⟨he, by exact h1, (Bq.up ((Below.refl _ _).alloc (Nat.le_refl _) _) (by omega)).trans h2⟩
  have R2 : Hid (∀ W, Bq B w W → Wb B g (bs ++ tbN f.nm ++ nsN [f.wh, f.ce, f.ba, f.rg, f.sl]) W → Calls Tryz.prog 62 #[.pointer (some ⟨g, 0, none⟩), .slice x1 f.os.length p1, .func (.func 63) #[.pointer (some ⟨g, 0, none⟩)] #[]] W fun e w' => e = .returned (.tuple #[]) ∧ Wb B g (bs ++ tbN f.nm ++ nsN [f.wh, f.ce, f.ba, f.rg, f.sl] ++ lsN obN f.os) w' ∧ Bq B W w') := fun W hQ hW => wlOp B g (bs ++ tbN f.nm ++ nsN [f.wh, f.ce, f.ba, f.rg, f.sl]) f.os x1 p1 W hW hS (hq.1.fr (fun q hqq => hQ.b.cell (hS _ hqq))) ho.1.2.2.2.2.2.2.1 (by (repeat first | rw [List.length_append] | rw [nsN_len] | rw [nbN_len] | rw [tbN_len] | rw [List.length_cons] | rw [List.length_nil]); have z1 := lsO_le ho.1.2.2.2.2.2.2.1; have z2 := lsL_le f.ls; have z3 := ho.2.1; have z4 := ho.2.2; have z5 : f.nm.size ≤ 4194304 := ho.1.1; omega) (by have := ho.2.1; omega)
  have R3 : Hid (∀ W, Bq B w W → Wb B g (bs ++ tbN f.nm ++ nsN [f.wh, f.ce, f.ba, f.rg, f.sl] ++ lsN obN f.os) W → Calls Tryz.prog 64 #[.pointer (some ⟨g, 0, none⟩), .slice x2 f.ls.length p2, .func (.func 65) #[.pointer (some ⟨g, 0, none⟩)] #[]] W fun e w' => e = .returned (.tuple #[]) ∧ Wb B g (bs ++ flbN f) w' ∧ Bq B W w') := fun W hQ hW => by
    have q := wlLoop B g (bs ++ tbN f.nm ++ nsN [f.wh, f.ce, f.ba, f.rg, f.sl] ++ lsN obN f.os) f.ls x2 p2 W hW hS (hq.2.fr (fun q hqq => hQ.b.cell (hS _ hqq))) ho.1.2.2.2.2.2.2.2.1 (by (repeat first | rw [List.length_append] | rw [nsN_len] | rw [nbN_len] | rw [tbN_len] | rw [List.length_cons] | rw [List.length_nil]); have z1 := lsO_le ho.1.2.2.2.2.2.2.1; have z2 := lsL_le f.ls; have z3 := ho.2.1; have z4 := ho.2.2; have z5 : f.nm.size ≤ 4194304 := ho.1.1; omega) (by have := ho.2.2; omega)
    refine q.mono ?_
    rintro e w' ⟨he, h1, h2⟩
    exact ⟨he, by simpa only [flbN, List.append_assoc] using h1, h2⟩
  obtain ⟨AW, eW⟩ : ∃ AW, AW = w.alloc (.cells #[.string f.nm, .int .i64 f.wh, .int .i64 f.ce, .int .i64 f.ba, .int .i64 f.rg, .int .i64 f.sl, .slice x1 f.os.length p1, .slice x2 f.ls.length p2] 44 (0, 0)) := ⟨_, rfl⟩
  have AX : Hid (AW.heap[w.heap.size]? = some (.cells #[.string f.nm, .int .i64 f.wh, .int .i64 f.ce, .int .i64 f.ba, .int .i64 f.rg, .int .i64 f.sl, .slice x1 f.os.length p1, .slice x2 f.ls.length p2] 44 (0, 0))) := by rw [eW]; exact heap_alloc_last _ _
  have AB : Hid (Below w.heap.size w AW) := by rw [eW]; exact (Below.refl _ _).alloc (Nat.le_refl _) _
  have Q0 : Hid (Bq B AW AW) := Bq.refl _ _
  have QA : Hid (Bq B w AW) := Bq.up AB.out (by omega)
  have H0 : Hid (Wb B g bs AW) := Wq.below h AB.out
  clear h hl hS hq ho
  go_enter Tryz.func29, Tryz.ntmps29
  go_upto_region 1 with fail
  rw [← eW]
  clear eW
  have X := Q0.out.k _ _ _ _ AX.out (by decide) (by decide)
  have i0 : AW.cell? ⟨w.heap.size, 0, none⟩ = some (.string f.nm) := by simp [World.cell?, X]
  clear X
  go_wp2_with (go_at_call 25; refine (R0.out _ (QA.out.trans Q0.out) H0.out).mono ?_)
  first | (rintro e w1 ⟨he, h1, hb1⟩; have he' := he) | (rintro e w1 he h1 hb1)
  subst he
  have H1 : Hid (Wb B g (bs ++ tbN f.nm) w1) := h1
  have Q1 : Hid (Bq B AW w1) := Q0.out.trans hb1
  clear h1 hb1 i0
  have X := Q1.out.k _ _ _ _ AX.out (by decide) (by decide)
  have i1 : w1.cell? ⟨w.heap.size, 1, none⟩ = some (.int .i64 f.wh) := by simp [World.cell?, X]
  have i2 : w1.cell? ⟨w.heap.size, 2, none⟩ = some (.int .i64 f.ce) := by simp [World.cell?, X]
  have i3 : w1.cell? ⟨w.heap.size, 3, none⟩ = some (.int .i64 f.ba) := by simp [World.cell?, X]
  have i4 : w1.cell? ⟨w.heap.size, 4, none⟩ = some (.int .i64 f.rg) := by simp [World.cell?, X]
  have i5 : w1.cell? ⟨w.heap.size, 5, none⟩ = some (.int .i64 f.sl) := by simp [World.cell?, X]
  clear X
  go_wp2_with (go_at_call 60; refine (R1.out _ (QA.out.trans Q1.out) H1.out).mono ?_)
  first | (rintro e w2 ⟨he, h1, hb1⟩; have he' := he) | (rintro e w2 he h1 hb1)
  subst he
  have H2 : Hid (Wb B g (bs ++ tbN f.nm ++ nsN [f.wh, f.ce, f.ba, f.rg, f.sl]) w2) := h1
  have Q2 : Hid (Bq B AW w2) := Q1.out.trans hb1
  clear h1 hb1 i1 i2 i3 i4 i5
  have X := Q2.out.k _ _ _ _ AX.out (by decide) (by decide)
  have i6 : w2.cell? ⟨w.heap.size, 6, none⟩ = some (.slice x1 f.os.length p1) := by simp [World.cell?, X]
  clear X
  go_wp2_with (go_at_call 62; refine (R2.out _ (QA.out.trans Q2.out) H2.out).mono ?_)
  first | (rintro e w3 ⟨he, h1, hb1⟩; have he' := he) | (rintro e w3 he h1 hb1)
  subst he
  have H3 : Hid (Wb B g (bs ++ tbN f.nm ++ nsN [f.wh, f.ce, f.ba, f.rg, f.sl] ++ lsN obN f.os) w3) := h1
  have Q3 : Hid (Bq B AW w3) := Q2.out.trans hb1
  clear h1 hb1 i6
  have X := Q3.out.k _ _ _ _ AX.out (by decide) (by decide)
  have i7 : w3.cell? ⟨w.heap.size, 7, none⟩ = some (.slice x2 f.ls.length p2) := by simp [World.cell?, X]
  clear X
  go_wp2_with (go_at_call 64; refine (R3.out _ (QA.out.trans Q3.out) H3.out).mono ?_)
  first | (rintro e w4 ⟨he, h1, hb1⟩; have he' := he) | (rintro e w4 he h1 hb1)
  subst he
  have H4 : Hid (Wb B g (bs ++ flbN f) w4) := h1
  have Q4 : Hid (Bq B AW w4) := Q3.out.trans hb1
  clear h1 hb1 i7
  go_wp2
  go_end0
  exact ⟨rfl, H4.out, QA.out.trans Q4.out⟩
set_option maxRecDepth 20000 in
set_option maxHeartbeats 4000000 in
theorem jobX (B g : Nat) (bs : List Nat) (j : JbR) (x1 x2 : Option Addr) (p1 p2 : Nat) {S : Nat → Prop} (w : World) (h : Wb B g bs w) (hl : bs.length ≤ 6000000000000) (hS : ∀ b, S b → b < B) (hq : JbQ S w j x1 x2) (ho : JbOk j) :
    Calls Tryz.prog 31 #[.pointer (some ⟨g, 0, none⟩), .agg #[.string j.nm, .int .i64 j.iv, .int .i64 j.sg, .int .i64 j.pr, .slice x1 j.cs.length p1, .slice x2 j.bs.length p2, .int .i64 j.bd]] w fun e w' => e = .returned (.tuple #[]) ∧ Wb B g (bs ++ jbN j) w' ∧ Bq B w w' := by
  have HB := h.lt
  have R0 : Hid (∀ W, Bq B w W → Wb B g (bs) W → Calls Tryz.prog 25 #[.pointer (some ⟨g, 0, none⟩), .string j.nm] W fun e w' => e = .returned (.tuple #[]) ∧ Wb B g (bs ++ tbN j.nm) w' ∧ Bq B W w') := fun W hQ hW => textX B g (bs) j.nm W hW (by omega) ho.1
  have R1 : Hid (∀ W, Bq B w W → Wb B g (bs ++ tbN j.nm) W → Calls Tryz.prog 60 #[.pointer (some ⟨g, 0, none⟩), .slice (some ⟨W.heap.size, 0, none⟩) 3 3] (W.alloc (.cells #[.int .i64 j.iv, .int .i64 j.sg, .int .i64 j.pr] 3 (0, 0))) fun e w' => e = .returned (.tuple #[]) ∧ Wb B g (bs ++ tbN j.nm ++ nsN [j.iv, j.sg, j.pr]) w' ∧ Bq B W w') := fun W hQ hW => by
    have q := numbersX B g (bs ++ tbN j.nm) [j.iv, j.sg, j.pr] W.heap.size 3 (0, 0) (W.alloc (.cells #[.int .i64 j.iv, .int .i64 j.sg, .int .i64 j.pr] 3 (0, 0))) (Wq.below hW ((Below.refl _ _).alloc (Nat.le_refl _) _)) (heap_alloc_last _ _) (by (repeat first | rw [List.length_append] | rw [nsN_len] | rw [nbN_len] | rw [tbN_len] | rw [List.length_cons] | rw [List.length_nil]); have z1 := lsI_le j.cs; have z2 := lsI_le j.bs; have z3 := ho.2.2.2.2.2.2.2.1; have z4 := ho.2.2.2.2.2.2.2.2; have z5 : j.nm.size ≤ 4194304 := ho.1; omega) (by simp)
    have z := hW.lt
    refine q.mono ?_
    rintro e w' ⟨he, h1, h2⟩
    exact ⟨he, by exact h1, (Bq.up ((Below.refl _ _).alloc (Nat.le_refl _) _) (by omega)).trans h2⟩
  have R2 : Hid (∀ W, Bq B w W → Wb B g (bs ++ tbN j.nm ++ nsN [j.iv, j.sg, j.pr]) W → Calls Tryz.prog 66 #[.pointer (some ⟨g, 0, none⟩), .slice x1 j.cs.length p1, .func (.func 57) #[.pointer (some ⟨g, 0, none⟩)] #[]] W fun e w' => e = .returned (.tuple #[]) ∧ Wb B g (bs ++ tbN j.nm ++ nsN [j.iv, j.sg, j.pr] ++ lsN nbN j.cs) w' ∧ Bq B W w') := fun W hQ hW => wlInt B g (bs ++ tbN j.nm ++ nsN [j.iv, j.sg, j.pr]) j.cs x1 p1 W hW hS (hq.1.fr (fun q hqq => hQ.b.cell (hS _ hqq))) (fun _ _ => trivial) (by (repeat first | rw [List.length_append] | rw [nsN_len] | rw [nbN_len] | rw [tbN_len] | rw [List.length_cons] | rw [List.length_nil]); have z1 := lsI_le j.cs; have z2 := lsI_le j.bs; have z3 := ho.2.2.2.2.2.2.2.1; have z4 := ho.2.2.2.2.2.2.2.2; have z5 : j.nm.size ≤ 4194304 := ho.1; omega) (ho.2.2.2.2.2.2.2.1)
  have R3 : Hid (∀ W, Bq B w W → Wb B g (bs ++ tbN j.nm ++ nsN [j.iv, j.sg, j.pr] ++ lsN nbN j.cs) W → Calls Tryz.prog 66 #[.pointer (some ⟨g, 0, none⟩), .slice x2 j.bs.length p2, .func (.func 57) #[.pointer (some ⟨g, 0, none⟩)] #[]] W fun e w' => e = .returned (.tuple #[]) ∧ Wb B g (bs ++ tbN j.nm ++ nsN [j.iv, j.sg, j.pr] ++ lsN nbN j.cs ++ lsN nbN j.bs) w' ∧ Bq B W w') := fun W hQ hW => wlInt B g (bs ++ tbN j.nm ++ nsN [j.iv, j.sg, j.pr] ++ lsN nbN j.cs) j.bs x2 p2 W hW hS (hq.2.fr (fun q hqq => hQ.b.cell (hS _ hqq))) (fun _ _ => trivial) (by (repeat first | rw [List.length_append] | rw [nsN_len] | rw [nbN_len] | rw [tbN_len] | rw [List.length_cons] | rw [List.length_nil]); have z1 := lsI_le j.cs; have z2 := lsI_le j.bs; have z3 := ho.2.2.2.2.2.2.2.1; have z4 := ho.2.2.2.2.2.2.2.2; have z5 : j.nm.size ≤ 4194304 := ho.1; omega) (ho.2.2.2.2.2.2.2.2)
  have R4 : Hid (∀ W, Bq B w W → Wb B g (bs ++ tbN j.nm ++ nsN [j.iv, j.sg, j.pr] ++ lsN nbN j.cs ++ lsN nbN j.bs) W → Calls Tryz.prog 57 #[.pointer (some ⟨g, 0, none⟩), .int .i64 j.bd] W fun e w' => e = .returned (.tuple #[]) ∧ Wb B g (bs ++ jbN j) w' ∧ Bq B W w') := fun W hQ hW => by
    have q := numberX B g (bs ++ tbN j.nm ++ nsN [j.iv, j.sg, j.pr] ++ lsN nbN j.cs ++ lsN nbN j.bs) j.bd W hW (by (repeat first | rw [List.length_append] | rw [nsN_len] | rw [nbN_len] | rw [tbN_len] | rw [List.length_cons] | rw [List.length_nil]); have z1 := lsI_le j.cs; have z2 := lsI_le j.bs; have z3 := ho.2.2.2.2.2.2.2.1; have z4 := ho.2.2.2.2.2.2.2.2; have z5 : j.nm.size ≤ 4194304 := ho.1; omega)
    refine q.mono ?_
    rintro e w' ⟨he, h1, h2⟩
    exact ⟨he, by simpa only [jbN, List.append_assoc] using h1, h2⟩
  obtain ⟨AW, eW⟩ : ∃ AW, AW = w.alloc (.cells #[.string j.nm, .int .i64 j.iv, .int .i64 j.sg, .int .i64 j.pr, .slice x1 j.cs.length p1, .slice x2 j.bs.length p2, .int .i64 j.bd] 51 (0, 0)) := ⟨_, rfl⟩
  have AX : Hid (AW.heap[w.heap.size]? = some (.cells #[.string j.nm, .int .i64 j.iv, .int .i64 j.sg, .int .i64 j.pr, .slice x1 j.cs.length p1, .slice x2 j.bs.length p2, .int .i64 j.bd] 51 (0, 0))) := by rw [eW]; exact heap_alloc_last _ _
  have AB : Hid (Below w.heap.size w AW) := by rw [eW]; exact (Below.refl _ _).alloc (Nat.le_refl _) _
  have Q0 : Hid (Bq B AW AW) := Bq.refl _ _
  have QA : Hid (Bq B w AW) := Bq.up AB.out (by omega)
  have H0 : Hid (Wb B g bs AW) := Wq.below h AB.out
  clear h hl hS hq ho
  go_enter Tryz.func31, Tryz.ntmps31
  go_upto_region 1 with fail
  rw [← eW]
  clear eW
  have X := Q0.out.k _ _ _ _ AX.out (by decide) (by decide)
  have i0 : AW.cell? ⟨w.heap.size, 0, none⟩ = some (.string j.nm) := by simp [World.cell?, X]
  clear X
  go_wp2_with (go_at_call 25; refine (R0.out _ (QA.out.trans Q0.out) H0.out).mono ?_)
  first | (rintro e w1 ⟨he, h1, hb1⟩; have he' := he) | (rintro e w1 he h1 hb1)
  subst he
  have H1 : Hid (Wb B g (bs ++ tbN j.nm) w1) := h1
  have Q1 : Hid (Bq B AW w1) := Q0.out.trans hb1
  clear h1 hb1 i0
  have X := Q1.out.k _ _ _ _ AX.out (by decide) (by decide)
  have i1 : w1.cell? ⟨w.heap.size, 1, none⟩ = some (.int .i64 j.iv) := by simp [World.cell?, X]
  have i2 : w1.cell? ⟨w.heap.size, 2, none⟩ = some (.int .i64 j.sg) := by simp [World.cell?, X]
  have i3 : w1.cell? ⟨w.heap.size, 3, none⟩ = some (.int .i64 j.pr) := by simp [World.cell?, X]
  clear X
  go_wp2_with (go_at_call 60; refine (R1.out _ (QA.out.trans Q1.out) H1.out).mono ?_)
  first | (rintro e w2 ⟨he, h1, hb1⟩; have he' := he) | (rintro e w2 he h1 hb1)
  subst he
  have H2 : Hid (Wb B g (bs ++ tbN j.nm ++ nsN [j.iv, j.sg, j.pr]) w2) := h1
  have Q2 : Hid (Bq B AW w2) := Q1.out.trans hb1
  clear h1 hb1 i1 i2 i3
  have X := Q2.out.k _ _ _ _ AX.out (by decide) (by decide)
  have i4 : w2.cell? ⟨w.heap.size, 4, none⟩ = some (.slice x1 j.cs.length p1) := by simp [World.cell?, X]
  clear X
  go_wp2_with (go_at_call 66; refine (R2.out _ (QA.out.trans Q2.out) H2.out).mono ?_)
  first | (rintro e w3 ⟨he, h1, hb1⟩; have he' := he) | (rintro e w3 he h1 hb1)
  subst he
  have H3 : Hid (Wb B g (bs ++ tbN j.nm ++ nsN [j.iv, j.sg, j.pr] ++ lsN nbN j.cs) w3) := h1
  have Q3 : Hid (Bq B AW w3) := Q2.out.trans hb1
  clear h1 hb1 i4
  have X := Q3.out.k _ _ _ _ AX.out (by decide) (by decide)
  have i5 : w3.cell? ⟨w.heap.size, 5, none⟩ = some (.slice x2 j.bs.length p2) := by simp [World.cell?, X]
  clear X
  go_wp2_with (go_at_call 66; refine (R3.out _ (QA.out.trans Q3.out) H3.out).mono ?_)
  first | (rintro e w4 ⟨he, h1, hb1⟩; have he' := he) | (rintro e w4 he h1 hb1)
  subst he
  have H4 : Hid (Wb B g (bs ++ tbN j.nm ++ nsN [j.iv, j.sg, j.pr] ++ lsN nbN j.cs ++ lsN nbN j.bs) w4) := h1
  have Q4 : Hid (Bq B AW w4) := Q3.out.trans hb1
  clear h1 hb1 i5
  have X := Q4.out.k _ _ _ _ AX.out (by decide) (by decide)
  have i6 : w4.cell? ⟨w.heap.size, 6, none⟩ = some (.int .i64 j.bd) := by simp [World.cell?, X]
  clear X
  go_wp2_with (go_at_call 57; refine (R4.out _ (QA.out.trans Q4.out) H4.out).mono ?_)
  first | (rintro e w5 ⟨he, h1, hb1⟩; have he' := he) | (rintro e w5 he h1 hb1)
  subst he
  have H5 : Hid (Wb B g (bs ++ jbN j) w5) := h1
  have Q5 : Hid (Bq B AW w5) := Q4.out.trans hb1
  clear h1 hb1 i6
  go_wp2
  go_end0
  exact ⟨rfl, H5.out, QA.out.trans Q5.out⟩
end Go.Proofs.YtdcjngakmkgbmaaGreat
namespace Go.Proofs.YtdcjngakmkgbmaaGreat
set_option linter.unusedVariables false
open Go.RowKit
set_option maxRecDepth 20000 in
set_option maxHeartbeats 4000000 in
theorem wlFlat (B g : Nat) (bs : List Nat) (l : List FlR) (x : Option Addr) (c : Nat) (w : World) {S : Nat → Prop} (h : Wb B g bs w) (hS : ∀ b, S b → b < B) (ha : RwF 8 (FlP S w) S w x l) (ho : ∀ e ∈ l, FlS e) (hl : bs.length + 8 + l.length * 68800000000 ≤ 6000000000000) (hn : l.length ≤ 1048576) :
    Calls Tryz.prog 28 #[.pointer (some ⟨g, 0, none⟩), .slice x l.length c, .func (.func 29) #[.pointer (some ⟨g, 0, none⟩)] #[]] w fun e w' => e = .returned (.tuple #[]) ∧ Wb B g (bs ++ lsN flbN l) w' ∧ Bq B w w' := by
  have HB := h.lt
  have H : Hid (Wb B g bs w) := h
  have HA : Hid (∀ V, Bq B w V → RwF 8 (FlP S V) S V x l) := fun V hV => ha.frK keptF (fun q hq => hV.b.cell (hS _ hq))
  have HN : Hid (l.length ≤ 1048576) := hn
  have HS : Hid (∀ b, S b → b < B) := hS
  have OK : Hid (∀ e ∈ l, FlS e) := ho
  have HC : ∀ k : Nat, ((l.take k).flatMap flbN).length ≤ l.length * 68800000000 := fun k => Nat.le_trans (flat_le _ 68800000000 (l.take k) (fun e he => flbN_len (ho e (List.mem_of_mem_take he)))) (Nat.mul_le_mul_right _ (List.length_take_le' k l))
  have HT : Hid (∀ k, (bs ++ nbN l.length ++ (l.take k).flatMap flbN).length ≤ 6000000000000) := fun k => by rw [List.length_append, List.length_append, nbN_len]; have := HC k; omega
  have N0 : Hid (∀ W, Wb B g bs W → Calls Tryz.prog 57 #[.pointer (some ⟨g, 0, none⟩), .int .i64 l.length] W fun e w' => e = .returned (.tuple #[]) ∧ Wb B g (bs ++ nbN l.length) w' ∧ Bq B W w') := fun W hW => numberX B g bs _ W hW (by omega)
  clear h hS ha ho hl hn HC
  have E0 : ∀ (args : Array Value) (W : World), (callFunc 29 args).run Tryz.prog W = .ok (.enter 29 args) W := fun _ _ => by kernel_rfl
  go_enter Tryz.func28, Tryz.ntmps28
  go_wp2_with (go_at_call 57; refine (N0.out _ H.out).mono ?_)
  first | (rintro e w1 ⟨he, h1, hb1⟩; have he' := he) | (rintro e w1 he h1 hb1)
  subst he
  have H1 : Hid (Wb B g (bs ++ nbN l.length) w1) := h1
  have B1 : Hid (Bq B w w1) := hb1
  clear h1 hb1 N0 H
  go_upto_region 2 with fail
  go_loopw [14] (fun i wr => ∃ k : Nat, k ≤ l.length ∧ i = .int .i64 k ∧ Wb B g (bs ++ nbN l.length ++ (l.take k).flatMap flbN) wr ∧ Bq B w wr) (fun i _ => l.length - (intOf i).toNat)
  case atStart => exact ⟨0, Nat.zero_le _, rfl, by rw [List.take_zero, List.flatMap_nil, List.append_nil]; exact H1.out, B1.out⟩
  case round =>
    obtain ⟨k, hk, rfl, hw, hb⟩ := hrel
    have HW : Hid (Wb B g (bs ++ nbN l.length ++ (l.take k).flatMap flbN) wr) := hw
    have HQ : Hid (Bq B w wr) := hb
    clear hw hb H1 B1
    by_cases hlt : k < l.length
    · obtain ⟨a, rfl⟩ := (HA.out wr HQ.out).some (by omega)
      obtain ⟨s, sv, se, sb, ⟨sx, sc, sy, sd, rfl, sq⟩, sk⟩ := (HA.out wr HQ.out).el k hlt
      have e0 := sk.c0
      have e1 := sk.cp 0 _ rfl
      have e2 := sk.cp 1 _ rfl
      have e3 := sk.cp 2 _ rfl
      have e4 := sk.cp 3 _ rfl
      have e5 := sk.cp 4 _ rfl
      have e6 := sk.cp 5 _ rfl
      have e7 := sk.cp 6 _ rfl
      have SE : Hid (l[k]? = some s) := se
      have LT : Hid (k < l.length) := hlt
      have kl : (k : Int) < l.length := by omega
      have ek : wrap64 ((k : Int) + 1) = (k : Int) + 1 := by have := HN.out; unfold wrap64; omega
      have TK : Hid (bs ++ nbN l.length ++ (l.take (k + 1)).flatMap flbN = bs ++ nbN l.length ++ (l.take k).flatMap flbN ++ flbN s) := by show _ = _; rw [List.take_add_one, se, List.flatMap_append]; simp [List.append_assoc]
      have SO := OK.out s (List.mem_of_getElem? se)
      have SS := sq
      have za := block_lt_of_cell e0
      obtain ⟨AR, eR⟩ : ∃ AR, AR = wr.alloc (.cells #[.string s.nm, .int .i64 s.wh, .int .i64 s.ce, .int .i64 s.ba, .int .i64 s.rg, .int .i64 s.sl, .slice sx s.os.length sc, .slice sy s.ls.length sd] 44 (0, 0)) := ⟨_, rfl⟩
      have RB : Hid (Below wr.heap.size wr AR) := by rw [eR]; exact (Below.refl _ _).alloc (Nat.le_refl _) _
      have RX : Hid (AR.heap[wr.heap.size]? = some (.cells #[.string s.nm, .int .i64 s.wh, .int .i64 s.ce, .int .i64 s.ba, .int .i64 s.rg, .int .i64 s.sl, .slice sx s.os.length sc, .slice sy s.ls.length sd] 44 (0, 0))) := by rw [eR]; exact heap_alloc_last _ _
      have WR : Hid (Wb B g (bs ++ nbN l.length ++ (l.take k).flatMap flbN) AR) := Wq.below HW.out RB.out
      have QR : Hid (Bq B w AR) := HQ.out.trans (Bq.up RB.out (by have := HQ.out.b.size; omega))
      have R0 : Hid (Calls Tryz.prog 29 #[.pointer (some ⟨g, 0, none⟩), FlV s sx sy sc sd] AR fun e w' => e = .returned (.tuple #[]) ∧ Wb B g (bs ++ nbN l.length ++ (l.take (k + 1)).flatMap flbN) w' ∧ Bq B AR w') := by
        rw [TK.out]
        have HT' := HT.out k
        have hW := WR.out
        generalize bs ++ nbN l.length ++ (l.take k).flatMap flbN = bz at *
        exact codeX B g bz s sx sy sc sd AR hW HT' HS.out (sq.fr (fun q hqq => RB.out.cell (Nat.lt_of_lt_of_le (HS.out _ hqq) (by have := HB; have := HQ.out.b.size; omega)))) SO
      clear hlt se sk sb hk SO sq SS
      go_upto_region 4 with fail
      rw [← eR]
      clear eR za e0 e1 e2 e3 e4 e5 e6 e7
      have i0 : AR.cell? ⟨wr.heap.size, 0, none⟩ = some (.string s.nm) := by simp [World.cell?, RX.out]
      have i1 : AR.cell? ⟨wr.heap.size, 1, none⟩ = some (.int .i64 s.wh) := by simp [World.cell?, RX.out]
      have i2 : AR.cell? ⟨wr.heap.size, 2, none⟩ = some (.int .i64 s.ce) := by simp [World.cell?, RX.out]
      have i3 : AR.cell? ⟨wr.heap.size, 3, none⟩ = some (.int .i64 s.ba) := by simp [World.cell?, RX.out]
      have i4 : AR.cell? ⟨wr.heap.size, 4, none⟩ = some (.int .i64 s.rg) := by simp [World.cell?, RX.out]
      have i5 : AR.cell? ⟨wr.heap.size, 5, none⟩ = some (.int .i64 s.sl) := by simp [World.cell?, RX.out]
      have i6 : AR.cell? ⟨wr.heap.size, 6, none⟩ = some (.slice sx s.os.length sc) := by simp [World.cell?, RX.out]
      have i7 : AR.cell? ⟨wr.heap.size, 7, none⟩ = some (.slice sy s.ls.length sd) := by simp [World.cell?, RX.out]
      go_wp2_with fail
      refine (R0.out).mono ?_
      first | (rintro e w2 ⟨he, h1, hb1⟩; have he' := he) | (rintro e w2 he h1 hb1)
      subst he
      have H2 : Hid (Wb B g (bs ++ nbN l.length ++ (l.take (k + 1)).flatMap flbN) w2) := h1
      have Q2 : Hid (Bq B w w2) := QR.out.trans hb1
      clear h1 hb1 R0 i0 i1 i2 i3 i4 i5 i6 i7
      go_wp2
      try rw [ek]
      exact ⟨⟨k + 1, Nat.succ_le_of_lt LT.out, rfl, H2.out, Q2.out⟩, msrE LT.out⟩
    · have kl : ¬ (k : Int) < l.length := by omega
      have ek : k = l.length := by omega
      subst ek
      rw [List.take_length, List.append_assoc] at HW
      clear hlt hk
      go_wp2
      go_end0
      exact ⟨rfl, HW.out, HQ.out⟩
set_option maxRecDepth 20000 in
set_option maxHeartbeats 4000000 in
theorem wlJob (B g : Nat) (bs : List Nat) (l : List JbR) (x : Option Addr) (c : Nat) (w : World) {S : Nat → Prop} (h : Wb B g bs w) (hS : ∀ b, S b → b < B) (ha : RwF 7 (JbP S w) S w x l) (ho : ∀ e ∈ l, JbOk e) (hl : bs.length + 8 + l.length * 22000000 ≤ 6000000000000) (hn : l.length ≤ 1048576) :
    Calls Tryz.prog 30 #[.pointer (some ⟨g, 0, none⟩), .slice x l.length c, .func (.func 31) #[.pointer (some ⟨g, 0, none⟩)] #[]] w fun e w' => e = .returned (.tuple #[]) ∧ Wb B g (bs ++ lsN jbN l) w' ∧ Bq B w w' := by
  have HB := h.lt
  have H : Hid (Wb B g bs w) := h
  have HA : Hid (∀ V, Bq B w V → RwF 7 (JbP S V) S V x l) := fun V hV => ha.frK keptJ (fun q hq => hV.b.cell (hS _ hq))
  have HN : Hid (l.length ≤ 1048576) := hn
  have HS : Hid (∀ b, S b → b < B) := hS
  have OK : Hid (∀ e ∈ l, JbOk e) := ho
  have HC : ∀ k : Nat, ((l.take k).flatMap jbN).length ≤ l.length * 22000000 := fun k => Nat.le_trans (flat_le _ 22000000 (l.take k) (fun e he => jbN_len (ho e (List.mem_of_mem_take he)))) (Nat.mul_le_mul_right _ (List.length_take_le' k l))
  have HT : Hid (∀ k, (bs ++ nbN l.length ++ (l.take k).flatMap jbN).length ≤ 6000000000000) := fun k => by rw [List.length_append, List.length_append, nbN_len]; have := HC k; omega
  have N0 : Hid (∀ W, Wb B g bs W → Calls Tryz.prog 57 #[.pointer (some ⟨g, 0, none⟩), .int .i64 l.length] W fun e w' => e = .returned (.tuple #[]) ∧ Wb B g (bs ++ nbN l.length) w' ∧ Bq B W w') := fun W hW => numberX B g bs _ W hW (by omega)
  clear h hS ha ho hl hn HC
  have E0 : ∀ (args : Array Value) (W : World), (callFunc 31 args).run Tryz.prog W = .ok (.enter 31 args) W := fun _ _ => by kernel_rfl
  go_enter Tryz.func30, Tryz.ntmps30
  go_wp2_with (go_at_call 57; refine (N0.out _ H.out).mono ?_)
  first | (rintro e w1 ⟨he, h1, hb1⟩; have he' := he) | (rintro e w1 he h1 hb1)
  subst he
  have H1 : Hid (Wb B g (bs ++ nbN l.length) w1) := h1
  have B1 : Hid (Bq B w w1) := hb1
  clear h1 hb1 N0 H
  go_upto_region 2 with fail
  go_loopw [14] (fun i wr => ∃ k : Nat, k ≤ l.length ∧ i = .int .i64 k ∧ Wb B g (bs ++ nbN l.length ++ (l.take k).flatMap jbN) wr ∧ Bq B w wr) (fun i _ => l.length - (intOf i).toNat)
  case atStart => exact ⟨0, Nat.zero_le _, rfl, by rw [List.take_zero, List.flatMap_nil, List.append_nil]; exact H1.out, B1.out⟩
  case round =>
    obtain ⟨k, hk, rfl, hw, hb⟩ := hrel
    have HW : Hid (Wb B g (bs ++ nbN l.length ++ (l.take k).flatMap jbN) wr) := hw
    have HQ : Hid (Bq B w wr) := hb
    clear hw hb H1 B1
    by_cases hlt : k < l.length
    · obtain ⟨a, rfl⟩ := (HA.out wr HQ.out).some (by omega)
      obtain ⟨s, sv, se, sb, ⟨sx, sc, sy, sd, rfl, sq⟩, sk⟩ := (HA.out wr HQ.out).el k hlt
      have e0 := sk.c0
      have e1 := sk.cp 0 _ rfl
      have e2 := sk.cp 1 _ rfl
      have e3 := sk.cp 2 _ rfl
      have e4 := sk.cp 3 _ rfl
      have e5 := sk.cp 4 _ rfl
      have e6 := sk.cp 5 _ rfl
      have SE : Hid (l[k]? = some s) := se
      have LT : Hid (k < l.length) := hlt
      have kl : (k : Int) < l.length := by omega
      have ek : wrap64 ((k : Int) + 1) = (k : Int) + 1 := by have := HN.out; unfold wrap64; omega
      have TK : Hid (bs ++ nbN l.length ++ (l.take (k + 1)).flatMap jbN = bs ++ nbN l.length ++ (l.take k).flatMap jbN ++ jbN s) := by show _ = _; rw [List.take_add_one, se, List.flatMap_append]; simp [List.append_assoc]
      have SO := OK.out s (List.mem_of_getElem? se)
      have SS := sq
      have za := block_lt_of_cell e0
      obtain ⟨AR, eR⟩ : ∃ AR, AR = wr.alloc (.cells #[.string s.nm, .int .i64 s.iv, .int .i64 s.sg, .int .i64 s.pr, .slice sx s.cs.length sc, .slice sy s.bs.length sd, .int .i64 s.bd] 51 (0, 0)) := ⟨_, rfl⟩
      have RB : Hid (Below wr.heap.size wr AR) := by rw [eR]; exact (Below.refl _ _).alloc (Nat.le_refl _) _
      have RX : Hid (AR.heap[wr.heap.size]? = some (.cells #[.string s.nm, .int .i64 s.iv, .int .i64 s.sg, .int .i64 s.pr, .slice sx s.cs.length sc, .slice sy s.bs.length sd, .int .i64 s.bd] 51 (0, 0))) := by rw [eR]; exact heap_alloc_last _ _
      have WR : Hid (Wb B g (bs ++ nbN l.length ++ (l.take k).flatMap jbN) AR) := Wq.below HW.out RB.out
      have QR : Hid (Bq B w AR) := HQ.out.trans (Bq.up RB.out (by have := HQ.out.b.size; omega))
      have R0 : Hid (Calls Tryz.prog 31 #[.pointer (some ⟨g, 0, none⟩), .agg #[.string s.nm, .int .i64 s.iv, .int .i64 s.sg, .int .i64 s.pr, .slice sx s.cs.length sc, .slice sy s.bs.length sd, .int .i64 s.bd]] AR fun e w' => e = .returned (.tuple #[]) ∧ Wb B g (bs ++ nbN l.length ++ (l.take (k + 1)).flatMap jbN) w' ∧ Bq B AR w') := by
        rw [TK.out]
        have HT' := HT.out k
        have hW := WR.out
        generalize bs ++ nbN l.length ++ (l.take k).flatMap jbN = bz at *
        exact jobX B g bz s sx sy sc sd AR hW HT' HS.out (sq.fr (fun q hqq => RB.out.cell (Nat.lt_of_lt_of_le (HS.out _ hqq) (by have := HB; have := HQ.out.b.size; omega)))) SO
      clear hlt se sk sb hk SO sq SS
      go_upto_region 4 with fail
      rw [← eR]
      clear eR za e0 e1 e2 e3 e4 e5 e6
      have i0 : AR.cell? ⟨wr.heap.size, 0, none⟩ = some (.string s.nm) := by simp [World.cell?, RX.out]
      have i1 : AR.cell? ⟨wr.heap.size, 1, none⟩ = some (.int .i64 s.iv) := by simp [World.cell?, RX.out]
      have i2 : AR.cell? ⟨wr.heap.size, 2, none⟩ = some (.int .i64 s.sg) := by simp [World.cell?, RX.out]
      have i3 : AR.cell? ⟨wr.heap.size, 3, none⟩ = some (.int .i64 s.pr) := by simp [World.cell?, RX.out]
      have i4 : AR.cell? ⟨wr.heap.size, 4, none⟩ = some (.slice sx s.cs.length sc) := by simp [World.cell?, RX.out]
      have i5 : AR.cell? ⟨wr.heap.size, 5, none⟩ = some (.slice sy s.bs.length sd) := by simp [World.cell?, RX.out]
      have i6 : AR.cell? ⟨wr.heap.size, 6, none⟩ = some (.int .i64 s.bd) := by simp [World.cell?, RX.out]
      go_wp2_with fail
      refine (R0.out).mono ?_
      first | (rintro e w2 ⟨he, h1, hb1⟩; have he' := he) | (rintro e w2 he h1 hb1)
      subst he
      have H2 : Hid (Wb B g (bs ++ nbN l.length ++ (l.take (k + 1)).flatMap jbN) w2) := h1
      have Q2 : Hid (Bq B w w2) := QR.out.trans hb1
      clear h1 hb1 R0 i0 i1 i2 i3 i4 i5 i6
      go_wp2
      try rw [ek]
      exact ⟨⟨k + 1, Nat.succ_le_of_lt LT.out, rfl, H2.out, Q2.out⟩, msrE LT.out⟩
    · have kl : ¬ (k : Int) < l.length := by omega
      have ek : k = l.length := by omega
      subst ek
      rw [List.take_length, List.append_assoc] at HW
      clear hlt hk
      go_wp2
      go_end0
      exact ⟨rfl, HW.out, HQ.out⟩
/-- An image's bytes, but for the sum. -/
def imbN (m : ImR) : List Nat := sbN ⟨#[114, 108, 121, 1]⟩ ++ tbN m.nm ++ lsN cbN m.cs ++ lsN flbN m.fs ++ lsN jbN m.js
theorem lsC_le {l : List CeR} (h : ∀ c ∈ l, CeOk c) : (lsN cbN l).length ≤ 8 + l.length * 8388661 := lsN_le _ _ _ (fun e he => by rw [cbN_len]; have q := h e he; have q1 : e.is.size ≤ 4194304 := q.2.2.2.2.2.2.1; have q2 : e.ad.size ≤ 4194304 := q.2.2.2.2.2.2.2.2; omega)
theorem lsF_le {l : List FlR} (h : ∀ c ∈ l, FlS c) : (lsN flbN l).length ≤ 8 + l.length * 68800000000 := lsN_le _ _ _ (fun e he => flbN_len (h e he))
theorem lsJ_le {l : List JbR} (h : ∀ c ∈ l, JbOk c) : (lsN jbN l).length ≤ 8 + l.length * 22000000 := lsN_le _ _ _ (fun e he => jbN_len (h e he))
/-- Is an image small enough? -/
def ImS (m : ImR) : Prop := shT m.nm ∧ (∀ c ∈ m.cs, CeOk c) ∧ (∀ f ∈ m.fs, FlS f) ∧ (∀ j ∈ m.js, JbOk j) ∧ m.cs.length ≤ 4096 ∧ m.fs.length ≤ 64 ∧ m.js.length ≤ 16
set_option maxRecDepth 20000 in
set_option maxHeartbeats 4000000 in
theorem imageX (B g : Nat) (m : ImR) (x1 x2 x3 : Option Addr) (p1 p2 p3 : Nat) (w : World) {S : Nat → Prop} (h : Wb B g [] w) (hS : ∀ b, S b → b < B) (hq : ImQ S w m x1 x2 x3) (ho : ImS m) :
    Calls Tryz.prog 11 #[.pointer (some ⟨g, 0, none⟩), .agg #[.string m.nm, .slice x1 m.cs.length p1, .slice x2 m.fs.length p2, .slice x3 m.js.length p3]] w fun e w' => e = .returned (.tuple #[]) ∧ Wb B g (imbN m) w' ∧ Bq B w w' := by
  obtain ⟨i0, hi, hz0, hz1, hz2⟩ := u8_info
  have HB := h.lt
  obtain ⟨o1, o2, o3, o4, o5, o6, o7⟩ := ho
  have z1 := lsC_le o2
  have z2 := lsF_le o3
  have z3 := lsJ_le o4
  have z0 : m.nm.size ≤ 4194304 := o1
  have zm : (sbN ⟨#[114, 108, 121, 1]⟩).length = 4 := by rw [sbN_len]; rfl
  have R3 : Hid (∀ W, Bq B w W → Wb B g (sbN ⟨#[114, 108, 121, 1]⟩) W → Calls Tryz.prog 25 #[.pointer (some ⟨g, 0, none⟩), .string m.nm] W fun e w' => e = .returned (.tuple #[]) ∧ Wb B g (sbN ⟨#[114, 108, 121, 1]⟩ ++ tbN m.nm) w' ∧ Bq B W w') := fun W hQ hW => textX B g (sbN ⟨#[114, 108, 121, 1]⟩) m.nm W hW (by (repeat first | rw [List.length_append] | rw [zm] | rw [tbN_len]); omega) z0
  have R4 : Hid (∀ W, Bq B w W → Wb B g (sbN ⟨#[114, 108, 121, 1]⟩ ++ tbN m.nm) W → Calls Tryz.prog 26 #[.pointer (some ⟨g, 0, none⟩), .slice x1 m.cs.length p1, .func (.func 27) #[.pointer (some ⟨g, 0, none⟩)] #[]] W fun e w' => e = .returned (.tuple #[]) ∧ Wb B g (sbN ⟨#[114, 108, 121, 1]⟩ ++ tbN m.nm ++ lsN cbN m.cs) w' ∧ Bq B W w') := fun W hQ hW => wlCell B g (sbN ⟨#[114, 108, 121, 1]⟩ ++ tbN m.nm) m.cs x1 p1 W hW hS (hq.1.fr (fun q hqq => hQ.b.cell (hS _ hqq))) o2 (by (repeat first | rw [List.length_append] | rw [zm] | rw [tbN_len]); omega) (by omega)
  have R5 : Hid (∀ W, Bq B w W → Wb B g (sbN ⟨#[114, 108, 121, 1]⟩ ++ tbN m.nm ++ lsN cbN m.cs) W → Calls Tryz.prog 28 #[.pointer (some ⟨g, 0, none⟩), .slice x2 m.fs.length p2, .func (.func 29) #[.pointer (some ⟨g, 0, none⟩)] #[]] W fun e w' => e = .returned (.tuple #[]) ∧ Wb B g (sbN ⟨#[114, 108, 121, 1]⟩ ++ tbN m.nm ++ lsN cbN m.cs ++ lsN flbN m.fs) w' ∧ Bq B W w') := fun W hQ hW => wlFlat B g (sbN ⟨#[114, 108, 121, 1]⟩ ++ tbN m.nm ++ lsN cbN m.cs) m.fs x2 p2 W hW hS (hq.2.1.frK keptF (fun q hqq => hQ.b.cell (hS _ hqq))) o3 (by (repeat first | rw [List.length_append] | rw [zm] | rw [tbN_len]); omega) (by omega)
  have R6 : Hid (∀ W, Bq B w W → Wb B g (sbN ⟨#[114, 108, 121, 1]⟩ ++ tbN m.nm ++ lsN cbN m.cs ++ lsN flbN m.fs) W → Calls Tryz.prog 30 #[.pointer (some ⟨g, 0, none⟩), .slice x3 m.js.length p3, .func (.func 31) #[.pointer (some ⟨g, 0, none⟩)] #[]] W fun e w' => e = .returned (.tuple #[]) ∧ Wb B g (sbN ⟨#[114, 108, 121, 1]⟩ ++ tbN m.nm ++ lsN cbN m.cs ++ lsN flbN m.fs ++ lsN jbN m.js) w' ∧ Bq B W w') := fun W hQ hW => wlJob B g (sbN ⟨#[114, 108, 121, 1]⟩ ++ tbN m.nm ++ lsN cbN m.cs ++ lsN flbN m.fs) m.js x3 p3 W hW hS (hq.2.2.frK keptJ (fun q hqq => hQ.b.cell (hS _ hqq))) o4 (by (repeat first | rw [List.length_append] | rw [zm] | rw [tbN_len]); omega) (by omega)
  clear z1 z2 z3 o1 o2 o3 o4 o5 o6 o7 hS hq z0 zm
  obtain ⟨AW, eW⟩ : ∃ AW, AW = w.alloc (.cells #[.string m.nm, .slice x1 m.cs.length p1, .slice x2 m.fs.length p2, .slice x3 m.js.length p3] 26 (0, 0)) := ⟨_, rfl⟩
  have AB : Hid (Below w.heap.size w AW) := by rw [eW]; exact (Below.refl _ _).alloc (Nat.le_refl _) _
  have AX : Hid (AW.heap[w.heap.size]? = some (.cells #[.string m.nm, .slice x1 m.cs.length p1, .slice x2 m.fs.length p2, .slice x3 m.js.length p3] 26 (0, 0))) := by rw [eW]; exact heap_alloc_last _ _
  have QA : Hid (Bq B w AW) := Bq.up AB.out (by omega)
  have h' : Wq B g [] AW := Wq.below h AB.out
  clear h
  obtain ⟨x, n, c, hg, hown⟩ := h'.shape
  have c0 : AW.cell? ⟨g, 0, none⟩ = some (.slice x n c) := by simp [World.cell?, hg]
  have HG : Hid (AW.heap[g]? = some (.cells #[.slice x n c] 58 (0, 0))) := hg
  have HO : Hid (AW.ownsRow B 5 1 (.slice x n c) ([] : List Value).length []) := hown
  have NE : Hid ((Value.slice x n c).ownBlock ≠ some g) := Lib.ownBlock_ne hown hg (by decide)
  have AS : AW.heap.size = w.heap.size + 1 := by rw [eW]; simp
  clear h' hg hown
  go_enter Tryz.func11, Tryz.ntmps11
  go_upto_region 1 with fail
  rw [← eW]
  clear eW
  go_wp2_with (at_builtin; refine Lib.wpList_append_own_string _ rfl _ _ 27 9 rfl B 5 i0 Tryz.underlying27 Tryz.underlying9 hi hz0 hz1 hz2 _ _ _ rfl HO.out ⟨#[114, 108, 121, 1]⟩ rfl ?c3 ?c4 ?c5 ?_)
  case c3 => decide
  case c4 => decide
  case c5 => omega
  intro v' w2 hown' hgrow hnil
  have O2 : Hid (w2.ownsRow B 5 1 v' (Lib.strCells ⟨#[114, 108, 121, 1]⟩).length (Lib.strCells ⟨#[114, 108, 121, 1]⟩)) := hown'
  have HB2 : g < AW.heap.size := blk_in HG.out
  have G2 : Hid (w2.heap[g]? = some (.cells #[.slice x n c] 58 (0, 0))) := by
    rw [hgrow.block g HB2 (fun e => NE.out e.symm)]
    exact HG.out
  have Q2 : Hid (Bq B AW w2) := (Bq.refl B AW).grown HO.out hgrow (by omega)
  have d0 : w2.cell? ⟨g, 0, none⟩ = some (.slice x n c) := by simp [World.cell?, G2.out]
  have d1 : w2.frozen? ⟨g, 0, none⟩ = false := by simp [World.frozen?, G2.out]
  obtain ⟨y, k, q, rfl⟩ : ∃ y k q, v' = .slice y k q := by
    rcases hown'.2 with ⟨hv, _⟩ | ⟨_, cap, cur, hv, _⟩
    · exact ⟨_, _, _, hv⟩
    · exact ⟨_, _, _, hv⟩
  clear hown' hgrow hnil c0
  obtain ⟨w3, e3⟩ : ∃ V, V = w2.setCell ⟨g, 0, none⟩ (.slice y k q) := ⟨_, rfl⟩
  have H3 : Hid (Wb B g (sbN ⟨#[114, 108, 121, 1]⟩) w3) := by unfold Wb; rw [e3, sbN_str]; exact Wq.put HB.1 G2.out O2.out (U8s.str _)
  have Q3 : Hid (Bq B AW w3) := by rw [e3]; exact Q2.out.set G2.out HB.1 _ _
  go_upto_region 2 with fail
  rw [← e3]
  clear e3 d0 d1 G2 O2 Q2
  have X := Q3.out.k _ _ _ _ AX.out (by decide) (by decide)
  have i0 : w3.cell? ⟨w.heap.size, 0, none⟩ = some (.string m.nm) := by simp [World.cell?, X]
  clear X
  go_wp2_with (go_at_call 25; refine (R3.out _ (QA.out.trans Q3.out) H3.out).mono ?_)
  first | (rintro e w4 ⟨he, h1, hb1⟩; have he' := he) | (rintro e w4 he h1 hb1)
  subst he
  have H4 : Hid (Wb B g (sbN ⟨#[114, 108, 121, 1]⟩ ++ tbN m.nm) w4) := h1
  have Q4 : Hid (Bq B AW w4) := Q3.out.trans hb1
  clear h1 hb1 i0
  have X := Q4.out.k _ _ _ _ AX.out (by decide) (by decide)
  have i1 : w4.cell? ⟨w.heap.size, 1, none⟩ = some (.slice x1 m.cs.length p1) := by simp [World.cell?, X]
  clear X
  go_wp2_with (go_at_call 26; refine (R4.out _ (QA.out.trans Q4.out) H4.out).mono ?_)
  first | (rintro e w5 ⟨he, h1, hb1⟩; have he' := he) | (rintro e w5 he h1 hb1)
  subst he
  have H5 : Hid (Wb B g (sbN ⟨#[114, 108, 121, 1]⟩ ++ tbN m.nm ++ lsN cbN m.cs) w5) := h1
  have Q5 : Hid (Bq B AW w5) := Q4.out.trans hb1
  clear h1 hb1 i1
  have X := Q5.out.k _ _ _ _ AX.out (by decide) (by decide)
  have i2 : w5.cell? ⟨w.heap.size, 2, none⟩ = some (.slice x2 m.fs.length p2) := by simp [World.cell?, X]
  clear X
  go_wp2_with (go_at_call 28; refine (R5.out _ (QA.out.trans Q5.out) H5.out).mono ?_)
  first | (rintro e w6 ⟨he, h1, hb1⟩; have he' := he) | (rintro e w6 he h1 hb1)
  subst he
  have H6 : Hid (Wb B g (sbN ⟨#[114, 108, 121, 1]⟩ ++ tbN m.nm ++ lsN cbN m.cs ++ lsN flbN m.fs) w6) := h1
  have Q6 : Hid (Bq B AW w6) := Q5.out.trans hb1
  clear h1 hb1 i2
  have X := Q6.out.k _ _ _ _ AX.out (by decide) (by decide)
  have i3 : w6.cell? ⟨w.heap.size, 3, none⟩ = some (.slice x3 m.js.length p3) := by simp [World.cell?, X]
  clear X
  go_wp2_with (go_at_call 30; refine (R6.out _ (QA.out.trans Q6.out) H6.out).mono ?_)
  first | (rintro e w7 ⟨he, h1, hb1⟩; have he' := he) | (rintro e w7 he h1 hb1)
  subst he
  have H7 : Hid (Wb B g (sbN ⟨#[114, 108, 121, 1]⟩ ++ tbN m.nm ++ lsN cbN m.cs ++ lsN flbN m.fs ++ lsN jbN m.js) w7) := h1
  have Q7 : Hid (Bq B AW w7) := Q6.out.trans hb1
  clear h1 hb1 i3
  go_wp2
  go_end0
  exact ⟨rfl, H7.out, QA.out.trans Q7.out⟩
end Go.Proofs.YtdcjngakmkgbmaaGreat
namespace Go.Proofs.YtdcjngakmkgbmaaGreat
set_option linter.unusedVariables false
open Go.RowKit
theorem mayDo_no (o : OpR) (f : FlR) (x1 x2 : Option Addr) (p1 p2 : Nat) (cs : Int) (h : inB 1 23 o.cd = false) (w : World) : Calls Tryz.prog 54 #[OpV o, FlV f x1 x2 p1 p2, .int .i64 cs] w fun e w' => e = .returned (.bool false) ∧ Below w.heap.size w w' := by
  unfold inB at h
  by_cases c1 : 1 ≤ o.cd
  · have c2 : ¬ o.cd ≤ 23 := by simp [c1] at h; omega
    clear h
    go_enter Tryz.func54, Tryz.ntmps54
    go_wp2
    go_ret
    exact ⟨rfl, by go_grown⟩
  · clear h
    go_enter Tryz.func54, Tryz.ntmps54
    go_wp2
    go_ret
    exact ⟨rfl, by go_grown⟩
theorem ix4_0 (a b c d : Int) (w : World) : (Instr.index 152 (.agg #[.int .i64 a, .int .i64 b, .int .i64 c, .int .i64 d]) (.int .i64 0)).run Tryz.prog w = .ok (.int .i64 a) w := by kernel_rfl
theorem ix4_1 (a b c d : Int) (w : World) : (Instr.index 152 (.agg #[.int .i64 a, .int .i64 b, .int .i64 c, .int .i64 d]) (.int .i64 1)).run Tryz.prog w = .ok (.int .i64 b) w := by kernel_rfl
theorem ix4_2 (a b c d : Int) (w : World) : (Instr.index 152 (.agg #[.int .i64 a, .int .i64 b, .int .i64 c, .int .i64 d]) (.int .i64 2)).run Tryz.prog w = .ok (.int .i64 c) w := by kernel_rfl
theorem ix4_3 (a b c d : Int) (w : World) : (Instr.index 152 (.agg #[.int .i64 a, .int .i64 b, .int .i64 c, .int .i64 d]) (.int .i64 3)).run Tryz.prog w = .ok (.int .i64 d) w := by kernel_rfl
/-- Which of four. -/
def pick4 (r0 r1 r2 r3 : Bool) : Nat → Bool
  | 0 => r0
  | 1 => r1
  | 2 => r2
  | _ => r3
set_option maxRecDepth 20000 in
set_option maxHeartbeats 8000000 in
theorem mayDo_yes (o : OpR) (f : FlR) (x1 x2 : Option Addr) (p1 p2 : Nat) (cs : Int) (a1 a2 b1 b2 d1 d2 e1 e2 : Int) (w : World) (hc : 1 ≤ o.cd ∧ o.cd ≤ 23) (ho : OpOk o)
    (F : Hid (∀ W, Calls Tryz.prog 95 #[.int .i64 o.cd, FlV f x1 x2 p1 p2, .int .i64 cs] W fun e w' => e = .returned (.agg #[.int .i64 a1, .int .i64 a2, .int .i64 b1, .int .i64 b2, .int .i64 d1, .int .i64 d2, .int .i64 e1, .int .i64 e2]) ∧ Below W.heap.size W w')) :
    Calls Tryz.prog 54 #[OpV o, FlV f x1 x2 p1 p2, .int .i64 cs] w fun e w' => e = .returned (.bool (inB a1 a2 o.a && inB b1 b2 o.b && inB d1 d2 o.c && inB e1 e2 o.d && rcB o && hdB o)) ∧ Below w.heap.size w w' := by
  have H0 : Hid (∀ W, Calls Tryz.prog 93 #[.agg #[.int .i64 a1, .int .i64 a2], .int .i64 o.a] W fun e w' => e = .returned (.bool (inB a1 a2 o.a)) ∧ Below W.heap.size W w') := fun W => has_of _ _ _ W
  have H1 : Hid (∀ W, Calls Tryz.prog 93 #[.agg #[.int .i64 b1, .int .i64 b2], .int .i64 o.b] W fun e w' => e = .returned (.bool (inB b1 b2 o.b)) ∧ Below W.heap.size W w') := fun W => has_of _ _ _ W
  have H2 : Hid (∀ W, Calls Tryz.prog 93 #[.agg #[.int .i64 d1, .int .i64 d2], .int .i64 o.c] W fun e w' => e = .returned (.bool (inB d1 d2 o.c)) ∧ Below W.heap.size W w') := fun W => has_of _ _ _ W
  have H3 : Hid (∀ W, Calls Tryz.prog 93 #[.agg #[.int .i64 e1, .int .i64 e2], .int .i64 o.d] W fun e w' => e = .returned (.bool (inB e1 e2 o.d)) ∧ Below W.heap.size W w') := fun W => has_of _ _ _ W
  have M1 : Hid (∀ W, Calls Tryz.prog 96 #[OpV o] W fun e w' => e = .returned (.bool (rcB o)) ∧ Below W.heap.size W w') := fun W => mayReach_of o hc ho W
  have M2 : Hid (∀ W, Calls Tryz.prog 97 #[OpV o] W fun e w' => e = .returned (.bool (hdB o)) ∧ Below W.heap.size W w') := fun W => mayHold_of o ho W
  have c1 : ¬ o.cd < 1 := by omega
  have c2 : ¬ 24 ≤ o.cd := by omega
  clear ho hc
  generalize inB a1 a2 o.a = r0 at *
  generalize inB b1 b2 o.b = r1 at *
  generalize inB d1 d2 o.c = r2 at *
  generalize inB e1 e2 o.d = r3 at *
  generalize rcB o = q1 at *
  generalize hdB o = q2 at *
  generalize hv : (r0 && r1 && r2 && r3 && q1 && q2) = VV
  have HV : Hid ((r0 && r1 && r2 && r3 && q1 && q2) = VV) := hv
  clear hv
  go_enter Tryz.func54, Tryz.ntmps54
  go_wp2_with fail
  refine (F.out _).mono ?_
  rintro e w1 ⟨rfl, hb⟩
  have X1 := (hb.block w.heap.size (by simp; omega)).trans (tv_at w _ _).1
  have B1 : Hid (Below w.heap.size w w1) := bl_tr (by go_grown) hb
  have zl : w.heap.size < w1.heap.size := blk_in X1
  have k1 : w1.cell? ⟨w.heap.size, 1, none⟩ = some (.int .i64 o.a) := by simp [World.cell?, X1]
  have k2 : w1.cell? ⟨w.heap.size, 2, none⟩ = some (.int .i64 o.b) := by simp [World.cell?, X1]
  have k3 : w1.cell? ⟨w.heap.size, 3, none⟩ = some (.int .i64 o.c) := by simp [World.cell?, X1]
  have k4 : w1.cell? ⟨w.heap.size, 4, none⟩ = some (.int .i64 o.d) := by simp [World.cell?, X1]
  have XX : Hid _ := X1
  clear hb X1
  go_wp2_with fail
  obtain ⟨AW, eW⟩ : ∃ AW, AW = w1.alloc (.cells #[.int .i64 a1, .int .i64 a2, .int .i64 b1, .int .i64 b2, .int .i64 d1, .int .i64 d2, .int .i64 e1, .int .i64 e2] 150 (0, 0)) := ⟨_, rfl⟩
  have AS : Hid (AW.heap[w1.heap.size]? = some (.cells #[.int .i64 a1, .int .i64 a2, .int .i64 b1, .int .i64 b2, .int .i64 d1, .int .i64 d2, .int .i64 e1, .int .i64 e2] 150 (0, 0))) := by rw [eW]; exact heap_alloc_last _ _
  have AO : Hid (AW.heap[w.heap.size]? = some (.cells #[.int .i64 o.cd, .int .i64 o.a, .int .i64 o.b, .int .i64 o.c, .int .i64 o.d, .int .i64 o.lo, .int .i64 o.hi, .int .u8 o.vk, .int .u64 o.vb, .string o.vs] 46 (0, 0))) := by rw [eW]; exact (Below.heap_alloc _ _ _ zl).trans XX.out
  have AB : Hid (Below w.heap.size w AW) := by rw [eW]; exact B1.out.trans (((Below.refl _ _).alloc (Nat.le_refl _) _).mono B1.out.size)
  rw [← eW]
  clear eW k1 k2 k3 k4 XX
  go_loopw [32] (fun i wr => ∃ k : Nat, k ≤ 4 ∧ i = .int .i64 k ∧ Below w.heap.size w wr ∧ wr.heap[w.heap.size]? = some (.cells #[.int .i64 o.cd, .int .i64 o.a, .int .i64 o.b, .int .i64 o.c, .int .i64 o.d, .int .i64 o.lo, .int .i64 o.hi, .int .u8 o.vk, .int .u64 o.vb, .string o.vs] 46 (0, 0)) ∧ wr.heap[w1.heap.size]? = some (.cells #[.int .i64 a1, .int .i64 a2, .int .i64 b1, .int .i64 b2, .int .i64 d1, .int .i64 d2, .int .i64 e1, .int .i64 e2] 150 (0, 0)) ∧ ∀ j, j < k → pick4 r0 r1 r2 r3 j = true) (fun i _ => 4 - (intOf i).toNat)
  case atStart => exact ⟨0, Nat.zero_le _, rfl, AB.out, AO.out, AS.out, fun j hj => absurd hj (Nat.not_lt_zero _)⟩
  case round =>
    obtain ⟨k, hk, rfl, hbw, hx, hs, hall⟩ := hrel
    have HW : Hid (Below w.heap.size w wr) := hbw
    have HX : Hid (wr.heap[w.heap.size]? = some (.cells #[.int .i64 o.cd, .int .i64 o.a, .int .i64 o.b, .int .i64 o.c, .int .i64 o.d, .int .i64 o.lo, .int .i64 o.hi, .int .u8 o.vk, .int .u64 o.vb, .string o.vs] 46 (0, 0))) := hx
    have HB : Hid (wr.heap[w1.heap.size]? = some (.cells #[.int .i64 a1, .int .i64 a2, .int .i64 b1, .int .i64 b2, .int .i64 d1, .int .i64 d2, .int .i64 e1, .int .i64 e2] 150 (0, 0))) := hs
    have AL : Hid (∀ j, j < k → pick4 r0 r1 r2 r3 j = true) := hall
    clear hall AS AO AB
    by_cases hlt : k < 4
    · have kk : k = 0 ∨ k = 1 ∨ k = 2 ∨ k = 3 := by omega
      clear hk hlt
      rcases kk with rfl | rfl | rfl | rfl
      · have s0 : wr.cell? ⟨w1.heap.size, 0, none⟩ = some (.int .i64 a1) := by simp [World.cell?, hs]
        have s1 : wr.cell? ⟨w1.heap.size, 1, none⟩ = some (.int .i64 a2) := by simp [World.cell?, hs]
        have ix := ix4_0 o.a o.b o.c o.d
        clear hx hs hbw
        go_wp2_with fail
        refine (H0.out _).mono ?_
        rintro e w5 ⟨rfl, hb5⟩
        have B5 : Hid (Below wr.heap.size wr w5) := hb5
        clear hb5 s0 s1
        cases r0
        · have ev : VV = false := by rw [← HV.out]; simp
          subst ev
          go_wp2
          go_ret
          exact ⟨rfl, HW.out.trans (B5.out.mono HW.out.size)⟩
        · go_wp2
          exact ⟨⟨1, by decide, rfl, HW.out.trans (B5.out.mono HW.out.size), (B5.out.block _ (blk_in HX.out)).trans HX.out, (B5.out.block _ (blk_in HB.out)).trans HB.out, fun j hj => by
            rcases Nat.lt_succ_iff_lt_or_eq.1 hj with h | rfl
            · exact AL.out j h
            · rfl⟩, by decide⟩
      · have s0 : wr.cell? ⟨w1.heap.size, 2, none⟩ = some (.int .i64 b1) := by simp [World.cell?, hs]
        have s1 : wr.cell? ⟨w1.heap.size, 3, none⟩ = some (.int .i64 b2) := by simp [World.cell?, hs]
        have ix := ix4_1 o.a o.b o.c o.d
        clear hx hs hbw
        go_wp2_with fail
        refine (H1.out _).mono ?_
        rintro e w5 ⟨rfl, hb5⟩
        have B5 : Hid (Below wr.heap.size wr w5) := hb5
        clear hb5 s0 s1
        cases r1
        · have ev : VV = false := by rw [← HV.out]; simp
          subst ev
          go_wp2
          go_ret
          exact ⟨rfl, HW.out.trans (B5.out.mono HW.out.size)⟩
        · go_wp2
          exact ⟨⟨2, by decide, rfl, HW.out.trans (B5.out.mono HW.out.size), (B5.out.block _ (blk_in HX.out)).trans HX.out, (B5.out.block _ (blk_in HB.out)).trans HB.out, fun j hj => by
            rcases Nat.lt_succ_iff_lt_or_eq.1 hj with h | rfl
            · exact AL.out j h
            · rfl⟩, by decide⟩
      · have s0 : wr.cell? ⟨w1.heap.size, 4, none⟩ = some (.int .i64 d1) := by simp [World.cell?, hs]
        have s1 : wr.cell? ⟨w1.heap.size, 5, none⟩ = some (.int .i64 d2) := by simp [World.cell?, hs]
        have ix := ix4_2 o.a o.b o.c o.d
        clear hx hs hbw
        go_wp2_with fail
        refine (H2.out _).mono ?_
        rintro e w5 ⟨rfl, hb5⟩
        have B5 : Hid (Below wr.heap.size wr w5) := hb5
        clear hb5 s0 s1
        cases r2
        · have ev : VV = false := by rw [← HV.out]; simp
          subst ev
          go_wp2
          go_ret
          exact ⟨rfl, HW.out.trans (B5.out.mono HW.out.size)⟩
        · go_wp2
          exact ⟨⟨3, by decide, rfl, HW.out.trans (B5.out.mono HW.out.size), (B5.out.block _ (blk_in HX.out)).trans HX.out, (B5.out.block _ (blk_in HB.out)).trans HB.out, fun j hj => by
            rcases Nat.lt_succ_iff_lt_or_eq.1 hj with h | rfl
            · exact AL.out j h
            · rfl⟩, by decide⟩
      · have s0 : wr.cell? ⟨w1.heap.size, 6, none⟩ = some (.int .i64 e1) := by simp [World.cell?, hs]
        have s1 : wr.cell? ⟨w1.heap.size, 7, none⟩ = some (.int .i64 e2) := by simp [World.cell?, hs]
        have ix := ix4_3 o.a o.b o.c o.d
        clear hx hs hbw
        go_wp2_with fail
        refine (H3.out _).mono ?_
        rintro e w5 ⟨rfl, hb5⟩
        have B5 : Hid (Below wr.heap.size wr w5) := hb5
        clear hb5 s0 s1
        cases r3
        · have ev : VV = false := by rw [← HV.out]; simp
          subst ev
          go_wp2
          go_ret
          exact ⟨rfl, HW.out.trans (B5.out.mono HW.out.size)⟩
        · go_wp2
          exact ⟨⟨4, by decide, rfl, HW.out.trans (B5.out.mono HW.out.size), (B5.out.block _ (blk_in HX.out)).trans HX.out, (B5.out.block _ (blk_in HB.out)).trans HB.out, fun j hj => by
            rcases Nat.lt_succ_iff_lt_or_eq.1 hj with h | rfl
            · exact AL.out j h
            · rfl⟩, by decide⟩
    · have ek : k = 4 := by omega
      subst ek
      have e0 : r0 = true := AL.out 0 (by decide)
      have e1' : r1 = true := AL.out 1 (by decide)
      have e2' : r2 = true := AL.out 2 (by decide)
      have e3 : r3 = true := AL.out 3 (by decide)
      subst e0 e1' e2' e3
      have k0 : wr.cell? ⟨w.heap.size, 0, none⟩ = some (.int .i64 o.cd) := by simp [World.cell?, hx]
      have k1 : wr.cell? ⟨w.heap.size, 1, none⟩ = some (.int .i64 o.a) := by simp [World.cell?, hx]
      have k2 : wr.cell? ⟨w.heap.size, 2, none⟩ = some (.int .i64 o.b) := by simp [World.cell?, hx]
      have k3 : wr.cell? ⟨w.heap.size, 3, none⟩ = some (.int .i64 o.c) := by simp [World.cell?, hx]
      have k4 : wr.cell? ⟨w.heap.size, 4, none⟩ = some (.int .i64 o.d) := by simp [World.cell?, hx]
      have k5 : wr.cell? ⟨w.heap.size, 5, none⟩ = some (.int .i64 o.lo) := by simp [World.cell?, hx]
      have k6 : wr.cell? ⟨w.heap.size, 6, none⟩ = some (.int .i64 o.hi) := by simp [World.cell?, hx]
      have k7 : wr.cell? ⟨w.heap.size, 7, none⟩ = some (.int .u8 o.vk) := by simp [World.cell?, hx]
      have k8 : wr.cell? ⟨w.heap.size, 8, none⟩ = some (.int .u64 o.vb) := by simp [World.cell?, hx]
      have k9 : wr.cell? ⟨w.heap.size, 9, none⟩ = some (.string o.vs) := by simp [World.cell?, hx]
      clear hx hs hbw hlt hk H0 H1 H2 H3
      go_wp2_with fail
      refine (M1.out _).mono ?_
      rintro e w5 ⟨rfl, hb5⟩
      have B5 : Hid (Below wr.heap.size wr w5) := hb5
      have X5 := (hb5.block _ (blk_in HX.out)).trans HX.out
      clear hb5 k0 k1 k2 k3 k4 k5 k6 k7 k8 k9
      have k0 : w5.cell? ⟨w.heap.size, 0, none⟩ = some (.int .i64 o.cd) := by simp [World.cell?, X5]
      have k1 : w5.cell? ⟨w.heap.size, 1, none⟩ = some (.int .i64 o.a) := by simp [World.cell?, X5]
      have k2 : w5.cell? ⟨w.heap.size, 2, none⟩ = some (.int .i64 o.b) := by simp [World.cell?, X5]
      have k3 : w5.cell? ⟨w.heap.size, 3, none⟩ = some (.int .i64 o.c) := by simp [World.cell?, X5]
      have k4 : w5.cell? ⟨w.heap.size, 4, none⟩ = some (.int .i64 o.d) := by simp [World.cell?, X5]
      have k5 : w5.cell? ⟨w.heap.size, 5, none⟩ = some (.int .i64 o.lo) := by simp [World.cell?, X5]
      have k6 : w5.cell? ⟨w.heap.size, 6, none⟩ = some (.int .i64 o.hi) := by simp [World.cell?, X5]
      have k7 : w5.cell? ⟨w.heap.size, 7, none⟩ = some (.int .u8 o.vk) := by simp [World.cell?, X5]
      have k8 : w5.cell? ⟨w.heap.size, 8, none⟩ = some (.int .u64 o.vb) := by simp [World.cell?, X5]
      have k9 : w5.cell? ⟨w.heap.size, 9, none⟩ = some (.string o.vs) := by simp [World.cell?, X5]
      clear X5
      cases q1
      · have ev : VV = false := by rw [← HV.out]; simp
        subst ev
        go_wp2
        go_ret
        exact ⟨rfl, HW.out.trans (B5.out.mono HW.out.size)⟩
      go_wp2_with fail
      refine (M2.out _).mono ?_
      rintro e w6 ⟨rfl, hb6⟩
      have B6 : Hid (Below wr.heap.size wr w6) := bl_tr B5.out hb6
      clear hb6 k0 k1 k2 k3 k4 k5 k6 k7 k8 k9
      have ev : VV = q2 := by rw [← HV.out]; simp
      subst ev
      cases VV
      all_goals
        go_wp2
        go_ret
        exact ⟨rfl, HW.out.trans (B6.out.mono HW.out.size)⟩
end Go.Proofs.YtdcjngakmkgbmaaGreat
namespace Go.Proofs.YtdcjngakmkgbmaaGreat
set_option linter.unusedVariables false
open Go.RowKit
/-- A task as a value. -/
abbrev JbV (j : JbR) (y1 y2 : Option Addr) (c1 c2 : Nat) : Value := .agg #[.string j.nm, .int .i64 j.iv, .int .i64 j.sg, .int .i64 j.pr, .slice y1 j.cs.length c1, .slice y2 j.bs.length c2, .int .i64 j.bd]
abbrev ImB (m : ImR) (x1 x2 x3 : Option Addr) (p1 p2 p3 : Nat) : Value := .agg #[.string m.nm, .slice x1 m.cs.length p1, .slice x2 m.fs.length p2, .slice x3 m.js.length p3]
/-- What the trigger's cell must be. -/
def sgB (l : List CeR) (n : Int) : Bool := decide (n = -1) || (decide (0 ≤ n) && decide (n < l.length) && (match l[n.toNat]? with
  | some c => decide (c.kd = 1)
  | none => false))
theorem sg_m1 (l : List CeR) : sgB l (-1) = true := by unfold sgB; simp
theorem sg_out {l : List CeR} {n : Int} (h : n ≠ -1) (hb : inB 0 ((l.length : Int) - 1) n = false) : sgB l n = false := by
  unfold inB at hb
  unfold sgB
  simp only [Bool.and_eq_false_iff, decide_eq_false_iff_not] at hb
  rw [decide_eq_false h, Bool.false_or]
  rcases hb with q | q
  · rw [decide_eq_false q]; rfl
  · rw [decide_eq_false (show ¬ n < (l.length : Int) by omega), Bool.and_false]; rfl
theorem sg_in {l : List CeR} {n : Int} {c : CeR} (hn : 0 ≤ n) (h : l[n.toNat]? = some c) : sgB l n = decide (c.kd = 1) := by
  unfold sgB
  have := (List.getElem?_eq_some_iff.1 h).1
  rw [decide_eq_false (show ¬ n = -1 by omega), Bool.false_or, decide_eq_true hn, decide_eq_true (show n < l.length by omega), h]
  rfl
set_option maxRecDepth 20000 in
set_option maxHeartbeats 8000000 in
theorem mayTrigger_of (m : ImR) (j : JbR) (y1 y2 : Option Addr) (c1 c2 : Nat) (x1 : Option Addr) (p1 : Nat) (w : World) {S : Nat → Prop} (hS : ∀ b, S b → b < w.heap.size) (ha : RwF 11 (Is ceC) S w x1 m.cs) (hn : m.cs.length ≤ 1048576) :
    Calls Tryz.prog 55 #[JbV j y1 y2 c1 c2, .slice x1 m.cs.length p1] w fun e w' => e = .returned (.bool (trB m j)) ∧ Below w.heap.size w w' := by
  obtain ⟨nm, iv, sg, pr, cs, bs, bd⟩ := j
  unfold trB
  simp only
  show Calls _ _ _ _ fun e w' => e = .returned (.bool (sgB m.cs sg && decide (0 ≤ iv) && inB 0 65535 pr && inB 0 1048576 bd)) ∧ _
  have HA : Hid (RwF 11 (Is ceC) S w x1 m.cs) := ha
  have HS : Hid (∀ b, S b → b < w.heap.size) := hS
  have HB : Hid (∀ W, Calls Tryz.prog 98 #[.int .i64 m.cs.length] W fun e w' => e = .returned (.agg #[.int .i64 0, .int .i64 ((m.cs.length : Int) - 1)]) ∧ Below W.heap.size W w') := fun W => below_of _ (by omega) W
  have H0 : Hid (∀ W, Calls Tryz.prog 93 #[.agg #[.int .i64 0, .int .i64 ((m.cs.length : Int) - 1)], .int .i64 sg] W fun e w' => e = .returned (.bool (inB 0 ((m.cs.length : Int) - 1) sg)) ∧ Below W.heap.size W w') := fun W => has_of _ _ _ W
  have H1 : Hid (∀ W, Calls Tryz.prog 93 #[.agg #[.int .i64 0, .int .i64 65535], .int .i64 pr] W fun e w' => e = .returned (.bool (inB 0 65535 pr)) ∧ Below W.heap.size W w') := fun W => has_of _ _ _ W
  have H2 : Hid (∀ W, Calls Tryz.prog 93 #[.agg #[.int .i64 0, .int .i64 1048576], .int .i64 bd] W fun e w' => e = .returned (.bool (inB 0 1048576 bd)) ∧ Below W.heap.size W w') := fun W => has_of _ _ _ W
  have G0 : Hid (sg ≠ -1 → inB 0 ((m.cs.length : Int) - 1) sg = false → sgB m.cs sg = false) := sg_out
  have G1 : Hid (inB 0 ((m.cs.length : Int) - 1) sg = true → 0 ≤ sg ∧ sg < m.cs.length) := fun h => by have := inB_t h; omega
  clear ha hS hn
  generalize inB 0 65535 pr = r1 at *
  generalize inB 0 1048576 bd = r2 at *
  obtain ⟨AW, eW⟩ : ∃ AW, AW = w.alloc (.cells #[.string nm, .int .i64 iv, .int .i64 sg, .int .i64 pr, .slice y1 cs.length c1, .slice y2 bs.length c2, .int .i64 bd] 51 (0, 0)) := ⟨_, rfl⟩
  have AX : Hid (AW.heap[w.heap.size]? = some (.cells #[.string nm, .int .i64 iv, .int .i64 sg, .int .i64 pr, .slice y1 cs.length c1, .slice y2 bs.length c2, .int .i64 bd] 51 (0, 0))) := by rw [eW]; exact heap_alloc_last _ _
  have AB : Hid (Below w.heap.size w AW) := by rw [eW]; exact (Below.refl _ _).alloc (Nat.le_refl _) _
  by_cases q1 : sg = -1
  · have n1 : (sg == -1) = true := by simp [q1]
    have n1b : (sg != -1) = false := by simp [q1]
    rw [show sgB m.cs sg = true by rw [q1]; exact sg_m1 _, Bool.true_and]
    clear G0 G1 H0 q1
    go_enter Tryz.func55, Tryz.ntmps55
    go_wp2_with fail
    rw [← eW]
    clear eW
    have d0 : ∀ y : Sub AW, y.w.cell? ⟨w.heap.size, 0, none⟩ = some (.string nm) := fun y => (y.h.cell (p := ⟨w.heap.size, 0, none⟩) (blk_in AX.out)).trans (by simp [World.cell?, AX.out])
    have d1 : ∀ y : Sub AW, y.w.cell? ⟨w.heap.size, 1, none⟩ = some (.int .i64 iv) := fun y => (y.h.cell (p := ⟨w.heap.size, 1, none⟩) (blk_in AX.out)).trans (by simp [World.cell?, AX.out])
    have d2 : ∀ y : Sub AW, y.w.cell? ⟨w.heap.size, 2, none⟩ = some (.int .i64 sg) := fun y => (y.h.cell (p := ⟨w.heap.size, 2, none⟩) (blk_in AX.out)).trans (by simp [World.cell?, AX.out])
    have d3 : ∀ y : Sub AW, y.w.cell? ⟨w.heap.size, 3, none⟩ = some (.int .i64 pr) := fun y => (y.h.cell (p := ⟨w.heap.size, 3, none⟩) (blk_in AX.out)).trans (by simp [World.cell?, AX.out])
    have d4 : ∀ y : Sub AW, y.w.cell? ⟨w.heap.size, 4, none⟩ = some (.slice y1 cs.length c1) := fun y => (y.h.cell (p := ⟨w.heap.size, 4, none⟩) (blk_in AX.out)).trans (by simp [World.cell?, AX.out])
    have d5 : ∀ y : Sub AW, y.w.cell? ⟨w.heap.size, 5, none⟩ = some (.slice y2 bs.length c2) := fun y => (y.h.cell (p := ⟨w.heap.size, 5, none⟩) (blk_in AX.out)).trans (by simp [World.cell?, AX.out])
    have d6 : ∀ y : Sub AW, y.w.cell? ⟨w.heap.size, 6, none⟩ = some (.int .i64 bd) := fun y => (y.h.cell (p := ⟨w.heap.size, 6, none⟩) (blk_in AX.out)).trans (by simp [World.cell?, AX.out])
    refine wp_region_sub2 (by kernel_rfl) (by kernel_rfl) ?_
    intro cx
    clear cx
    repeat (first | go_big_quiet_skip | (go_big_quiet_want; go_big_quiet_op; first | go_big_quiet_on | (refine ⟨_, fun _ => rfl, ?_⟩; go_big_quiet_on) | go_big_quiet_call (first | fail)))
    refine wpQuiet_nil ?_
    rintro _ ⟨y, rfl⟩
    obtain ⟨v1, v1h⟩ := y
    have Bv1 : Hid (Below w.heap.size w v1) := bl_tr AB.out v1h
    have Xv1 : Hid (v1.heap[w.heap.size]? = some (.cells #[.string nm, .int .i64 iv, .int .i64 sg, .int .i64 pr, .slice y1 cs.length c1, .slice y2 bs.length c2, .int .i64 bd] 51 (0, 0))) := (v1h.block _ (blk_in AX.out)).trans AX.out
    simp only
    clear d0 d1 d2 d3 d4 d5 d6  v1h
    have k0 : v1.cell? ⟨w.heap.size, 0, none⟩ = some (.string nm) := by simp [World.cell?, Xv1.out]
    have k1 : v1.cell? ⟨w.heap.size, 1, none⟩ = some (.int .i64 iv) := by simp [World.cell?, Xv1.out]
    have k2 : v1.cell? ⟨w.heap.size, 2, none⟩ = some (.int .i64 sg) := by simp [World.cell?, Xv1.out]
    have k3 : v1.cell? ⟨w.heap.size, 3, none⟩ = some (.int .i64 pr) := by simp [World.cell?, Xv1.out]
    have k4 : v1.cell? ⟨w.heap.size, 4, none⟩ = some (.slice y1 cs.length c1) := by simp [World.cell?, Xv1.out]
    have k5 : v1.cell? ⟨w.heap.size, 5, none⟩ = some (.slice y2 bs.length c2) := by simp [World.cell?, Xv1.out]
    have k6 : v1.cell? ⟨w.heap.size, 6, none⟩ = some (.int .i64 bd) := by simp [World.cell?, Xv1.out]
    by_cases q2 : 0 ≤ iv
    · skip
      cases r1
      · skip
        go_wp2_with fail
        refine (H1.out _).mono ?_
        rintro e v2 ⟨rfl, hb⟩
        have Bv2 : Hid (Below w.heap.size w v2) := bl_tr Bv1.out hb
        have Xv2 : Hid (v2.heap[w.heap.size]? = some (.cells #[.string nm, .int .i64 iv, .int .i64 sg, .int .i64 pr, .slice y1 cs.length c1, .slice y2 bs.length c2, .int .i64 bd] 51 (0, 0))) := (hb.block _ (blk_in Xv1.out)).trans Xv1.out
        clear k0 k1 k2 k3 k4 k5 k6 hb
        have k0 : v2.cell? ⟨w.heap.size, 0, none⟩ = some (.string nm) := by simp [World.cell?, Xv2.out]
        have k1 : v2.cell? ⟨w.heap.size, 1, none⟩ = some (.int .i64 iv) := by simp [World.cell?, Xv2.out]
        have k2 : v2.cell? ⟨w.heap.size, 2, none⟩ = some (.int .i64 sg) := by simp [World.cell?, Xv2.out]
        have k3 : v2.cell? ⟨w.heap.size, 3, none⟩ = some (.int .i64 pr) := by simp [World.cell?, Xv2.out]
        have k4 : v2.cell? ⟨w.heap.size, 4, none⟩ = some (.slice y1 cs.length c1) := by simp [World.cell?, Xv2.out]
        have k5 : v2.cell? ⟨w.heap.size, 5, none⟩ = some (.slice y2 bs.length c2) := by simp [World.cell?, Xv2.out]
        have k6 : v2.cell? ⟨w.heap.size, 6, none⟩ = some (.int .i64 bd) := by simp [World.cell?, Xv2.out]
        go_wp2
        go_ret
        exact ⟨by simp [q2], Bv2.out⟩
      · skip
        go_wp2_with fail
        refine (H1.out _).mono ?_
        rintro e v2 ⟨rfl, hb⟩
        have Bv2 : Hid (Below w.heap.size w v2) := bl_tr Bv1.out hb
        have Xv2 : Hid (v2.heap[w.heap.size]? = some (.cells #[.string nm, .int .i64 iv, .int .i64 sg, .int .i64 pr, .slice y1 cs.length c1, .slice y2 bs.length c2, .int .i64 bd] 51 (0, 0))) := (hb.block _ (blk_in Xv1.out)).trans Xv1.out
        clear k0 k1 k2 k3 k4 k5 k6 hb
        have k0 : v2.cell? ⟨w.heap.size, 0, none⟩ = some (.string nm) := by simp [World.cell?, Xv2.out]
        have k1 : v2.cell? ⟨w.heap.size, 1, none⟩ = some (.int .i64 iv) := by simp [World.cell?, Xv2.out]
        have k2 : v2.cell? ⟨w.heap.size, 2, none⟩ = some (.int .i64 sg) := by simp [World.cell?, Xv2.out]
        have k3 : v2.cell? ⟨w.heap.size, 3, none⟩ = some (.int .i64 pr) := by simp [World.cell?, Xv2.out]
        have k4 : v2.cell? ⟨w.heap.size, 4, none⟩ = some (.slice y1 cs.length c1) := by simp [World.cell?, Xv2.out]
        have k5 : v2.cell? ⟨w.heap.size, 5, none⟩ = some (.slice y2 bs.length c2) := by simp [World.cell?, Xv2.out]
        have k6 : v2.cell? ⟨w.heap.size, 6, none⟩ = some (.int .i64 bd) := by simp [World.cell?, Xv2.out]
        go_wp2_with fail
        refine (H2.out _).mono ?_
        rintro e v3 ⟨rfl, hb⟩
        have Bv3 : Hid (Below w.heap.size w v3) := bl_tr Bv2.out hb
        have Xv3 : Hid (v3.heap[w.heap.size]? = some (.cells #[.string nm, .int .i64 iv, .int .i64 sg, .int .i64 pr, .slice y1 cs.length c1, .slice y2 bs.length c2, .int .i64 bd] 51 (0, 0))) := (hb.block _ (blk_in Xv2.out)).trans Xv2.out
        clear k0 k1 k2 k3 k4 k5 k6 hb
        have k0 : v3.cell? ⟨w.heap.size, 0, none⟩ = some (.string nm) := by simp [World.cell?, Xv3.out]
        have k1 : v3.cell? ⟨w.heap.size, 1, none⟩ = some (.int .i64 iv) := by simp [World.cell?, Xv3.out]
        have k2 : v3.cell? ⟨w.heap.size, 2, none⟩ = some (.int .i64 sg) := by simp [World.cell?, Xv3.out]
        have k3 : v3.cell? ⟨w.heap.size, 3, none⟩ = some (.int .i64 pr) := by simp [World.cell?, Xv3.out]
        have k4 : v3.cell? ⟨w.heap.size, 4, none⟩ = some (.slice y1 cs.length c1) := by simp [World.cell?, Xv3.out]
        have k5 : v3.cell? ⟨w.heap.size, 5, none⟩ = some (.slice y2 bs.length c2) := by simp [World.cell?, Xv3.out]
        have k6 : v3.cell? ⟨w.heap.size, 6, none⟩ = some (.int .i64 bd) := by simp [World.cell?, Xv3.out]
        go_wp2
        go_ret
        exact ⟨by simp [q2], Bv3.out⟩
    · skip
      go_wp2
      go_ret
      exact ⟨by rw [decide_eq_false (show ¬ 0 ≤ iv by omega)]; rfl, Bv1.out⟩
  · have n1 : (sg == -1) = false := by simp [q1]
    have n1b : (sg != -1) = true := by simp [q1]
    generalize hr0 : inB 0 ((m.cs.length : Int) - 1) sg = r0 at *
    cases r0
    · rw [G0.out q1 rfl, Bool.false_and, Bool.false_and, Bool.false_and]
      clear q1 hr0 G0 G1
      go_enter Tryz.func55, Tryz.ntmps55
      go_wp2_with fail
      rw [← eW]
      clear eW
      have d0 : ∀ y : Sub AW, y.w.cell? ⟨w.heap.size, 0, none⟩ = some (.string nm) := fun y => (y.h.cell (p := ⟨w.heap.size, 0, none⟩) (blk_in AX.out)).trans (by simp [World.cell?, AX.out])
      have d1 : ∀ y : Sub AW, y.w.cell? ⟨w.heap.size, 1, none⟩ = some (.int .i64 iv) := fun y => (y.h.cell (p := ⟨w.heap.size, 1, none⟩) (blk_in AX.out)).trans (by simp [World.cell?, AX.out])
      have d2 : ∀ y : Sub AW, y.w.cell? ⟨w.heap.size, 2, none⟩ = some (.int .i64 sg) := fun y => (y.h.cell (p := ⟨w.heap.size, 2, none⟩) (blk_in AX.out)).trans (by simp [World.cell?, AX.out])
      have d3 : ∀ y : Sub AW, y.w.cell? ⟨w.heap.size, 3, none⟩ = some (.int .i64 pr) := fun y => (y.h.cell (p := ⟨w.heap.size, 3, none⟩) (blk_in AX.out)).trans (by simp [World.cell?, AX.out])
      have d4 : ∀ y : Sub AW, y.w.cell? ⟨w.heap.size, 4, none⟩ = some (.slice y1 cs.length c1) := fun y => (y.h.cell (p := ⟨w.heap.size, 4, none⟩) (blk_in AX.out)).trans (by simp [World.cell?, AX.out])
      have d5 : ∀ y : Sub AW, y.w.cell? ⟨w.heap.size, 5, none⟩ = some (.slice y2 bs.length c2) := fun y => (y.h.cell (p := ⟨w.heap.size, 5, none⟩) (blk_in AX.out)).trans (by simp [World.cell?, AX.out])
      have d6 : ∀ y : Sub AW, y.w.cell? ⟨w.heap.size, 6, none⟩ = some (.int .i64 bd) := fun y => (y.h.cell (p := ⟨w.heap.size, 6, none⟩) (blk_in AX.out)).trans (by simp [World.cell?, AX.out])
      have HBq : Hid (∀ y : Sub AW, _) := fun y => HB.out y.w
      have H0q : Hid (∀ y : Sub AW, _) := fun y => H0.out y.w
      refine wp_region_sub2 (by kernel_rfl) (by kernel_rfl) ?_
      intro cx
      clear cx
      repeat (first | go_big_quiet_skip | (go_big_quiet_want; go_big_quiet_op; first | go_big_quiet_on | (refine ⟨_, fun _ => rfl, ?_⟩; go_big_quiet_on) | go_big_quiet_call (first | (go_at_call 98; exact calls_sub (HBq.out _)) | (go_at_call 93; exact calls_sub (H0q.out _)))))
      refine wpQuiet_nil ?_
      rintro _ ⟨y, rfl⟩
      obtain ⟨v1, v1h⟩ := y
      have Bv1 : Hid (Below w.heap.size w v1) := bl_tr AB.out v1h
      have Xv1 : Hid (v1.heap[w.heap.size]? = some (.cells #[.string nm, .int .i64 iv, .int .i64 sg, .int .i64 pr, .slice y1 cs.length c1, .slice y2 bs.length c2, .int .i64 bd] 51 (0, 0))) := (v1h.block _ (blk_in AX.out)).trans AX.out
      simp only
      clear d0 d1 d2 d3 d4 d5 d6 HBq H0q v1h
      go_wp2
      go_ret
      exact ⟨rfl, Bv1.out⟩
    have kk := G1.out rfl
    clear G0 G1 hr0
    obtain ⟨a, rfl⟩ := HA.out.some (by omega)
    obtain ⟨s, sv, se, sb, rfl, sk⟩ := HA.out.el sg.toNat (by omega)
    have e0 := sk.c0
    have E0 : Hid (∀ W, Below w.heap.size w W → W.cell? (a.add (sg.toNat * 11)) = some (.int .u8 s.kd)) := fun W h => (h.cell (by rw [add_block]; exact HS.out _ sb)).trans e0
    rw [sg_in kk.1 se]
    have kl : sg < m.cs.length := kk.2
    have k0 : 0 ≤ sg := kk.1
    clear se sb sk e0 kk q1
    by_cases q3 : s.kd = 1
    · have n3 : (s.kd == 1) = true := by simp [q3]
      have n3b : (s.kd != 1) = false := by simp [q3]
      rw [decide_eq_true q3, Bool.true_and]
      clear q3
      go_enter Tryz.func55, Tryz.ntmps55
      go_wp2_with fail
      rw [← eW]
      clear eW
      have d0 : ∀ y : Sub AW, y.w.cell? ⟨w.heap.size, 0, none⟩ = some (.string nm) := fun y => (y.h.cell (p := ⟨w.heap.size, 0, none⟩) (blk_in AX.out)).trans (by simp [World.cell?, AX.out])
      have d1 : ∀ y : Sub AW, y.w.cell? ⟨w.heap.size, 1, none⟩ = some (.int .i64 iv) := fun y => (y.h.cell (p := ⟨w.heap.size, 1, none⟩) (blk_in AX.out)).trans (by simp [World.cell?, AX.out])
      have d2 : ∀ y : Sub AW, y.w.cell? ⟨w.heap.size, 2, none⟩ = some (.int .i64 sg) := fun y => (y.h.cell (p := ⟨w.heap.size, 2, none⟩) (blk_in AX.out)).trans (by simp [World.cell?, AX.out])
      have d3 : ∀ y : Sub AW, y.w.cell? ⟨w.heap.size, 3, none⟩ = some (.int .i64 pr) := fun y => (y.h.cell (p := ⟨w.heap.size, 3, none⟩) (blk_in AX.out)).trans (by simp [World.cell?, AX.out])
      have d4 : ∀ y : Sub AW, y.w.cell? ⟨w.heap.size, 4, none⟩ = some (.slice y1 cs.length c1) := fun y => (y.h.cell (p := ⟨w.heap.size, 4, none⟩) (blk_in AX.out)).trans (by simp [World.cell?, AX.out])
      have d5 : ∀ y : Sub AW, y.w.cell? ⟨w.heap.size, 5, none⟩ = some (.slice y2 bs.length c2) := fun y => (y.h.cell (p := ⟨w.heap.size, 5, none⟩) (blk_in AX.out)).trans (by simp [World.cell?, AX.out])
      have d6 : ∀ y : Sub AW, y.w.cell? ⟨w.heap.size, 6, none⟩ = some (.int .i64 bd) := fun y => (y.h.cell (p := ⟨w.heap.size, 6, none⟩) (blk_in AX.out)).trans (by simp [World.cell?, AX.out])
      have f0 : ∀ y : Sub AW, y.w.cell? (a.add (sg.toNat * 11)) = some (.int .u8 s.kd) := fun y => E0.out y.w (bl_tr AB.out y.h)
      have HBq : Hid (∀ y : Sub AW, _) := fun y => HB.out y.w
      have H0q : Hid (∀ y : Sub AW, _) := fun y => H0.out y.w
      refine wp_region_sub2 (by kernel_rfl) (by kernel_rfl) ?_
      intro cx
      clear cx
      repeat (first | go_big_quiet_skip | (go_big_quiet_want; go_big_quiet_op; first | go_big_quiet_on | (refine ⟨_, fun _ => rfl, ?_⟩; go_big_quiet_on) | go_big_quiet_call (first | (go_at_call 98; exact calls_sub (HBq.out _)) | (go_at_call 93; exact calls_sub (H0q.out _)))))
      refine wpQuiet_nil ?_
      rintro _ ⟨y, rfl⟩
      obtain ⟨v1, v1h⟩ := y
      have Bv1 : Hid (Below w.heap.size w v1) := bl_tr AB.out v1h
      have Xv1 : Hid (v1.heap[w.heap.size]? = some (.cells #[.string nm, .int .i64 iv, .int .i64 sg, .int .i64 pr, .slice y1 cs.length c1, .slice y2 bs.length c2, .int .i64 bd] 51 (0, 0))) := (v1h.block _ (blk_in AX.out)).trans AX.out
      simp only
      clear d0 d1 d2 d3 d4 d5 d6 HBq H0q f0 v1h
      have k0 : v1.cell? ⟨w.heap.size, 0, none⟩ = some (.string nm) := by simp [World.cell?, Xv1.out]
      have k1 : v1.cell? ⟨w.heap.size, 1, none⟩ = some (.int .i64 iv) := by simp [World.cell?, Xv1.out]
      have k2 : v1.cell? ⟨w.heap.size, 2, none⟩ = some (.int .i64 sg) := by simp [World.cell?, Xv1.out]
      have k3 : v1.cell? ⟨w.heap.size, 3, none⟩ = some (.int .i64 pr) := by simp [World.cell?, Xv1.out]
      have k4 : v1.cell? ⟨w.heap.size, 4, none⟩ = some (.slice y1 cs.length c1) := by simp [World.cell?, Xv1.out]
      have k5 : v1.cell? ⟨w.heap.size, 5, none⟩ = some (.slice y2 bs.length c2) := by simp [World.cell?, Xv1.out]
      have k6 : v1.cell? ⟨w.heap.size, 6, none⟩ = some (.int .i64 bd) := by simp [World.cell?, Xv1.out]
      by_cases q2 : 0 ≤ iv
      · skip
        cases r1
        · skip
          go_wp2_with fail
          refine (H1.out _).mono ?_
          rintro e v2 ⟨rfl, hb⟩
          have Bv2 : Hid (Below w.heap.size w v2) := bl_tr Bv1.out hb
          have Xv2 : Hid (v2.heap[w.heap.size]? = some (.cells #[.string nm, .int .i64 iv, .int .i64 sg, .int .i64 pr, .slice y1 cs.length c1, .slice y2 bs.length c2, .int .i64 bd] 51 (0, 0))) := (hb.block _ (blk_in Xv1.out)).trans Xv1.out
          clear k0 k1 k2 k3 k4 k5 k6 hb
          have k0 : v2.cell? ⟨w.heap.size, 0, none⟩ = some (.string nm) := by simp [World.cell?, Xv2.out]
          have k1 : v2.cell? ⟨w.heap.size, 1, none⟩ = some (.int .i64 iv) := by simp [World.cell?, Xv2.out]
          have k2 : v2.cell? ⟨w.heap.size, 2, none⟩ = some (.int .i64 sg) := by simp [World.cell?, Xv2.out]
          have k3 : v2.cell? ⟨w.heap.size, 3, none⟩ = some (.int .i64 pr) := by simp [World.cell?, Xv2.out]
          have k4 : v2.cell? ⟨w.heap.size, 4, none⟩ = some (.slice y1 cs.length c1) := by simp [World.cell?, Xv2.out]
          have k5 : v2.cell? ⟨w.heap.size, 5, none⟩ = some (.slice y2 bs.length c2) := by simp [World.cell?, Xv2.out]
          have k6 : v2.cell? ⟨w.heap.size, 6, none⟩ = some (.int .i64 bd) := by simp [World.cell?, Xv2.out]
          go_wp2
          go_ret
          exact ⟨by simp [q2], Bv2.out⟩
        · skip
          go_wp2_with fail
          refine (H1.out _).mono ?_
          rintro e v2 ⟨rfl, hb⟩
          have Bv2 : Hid (Below w.heap.size w v2) := bl_tr Bv1.out hb
          have Xv2 : Hid (v2.heap[w.heap.size]? = some (.cells #[.string nm, .int .i64 iv, .int .i64 sg, .int .i64 pr, .slice y1 cs.length c1, .slice y2 bs.length c2, .int .i64 bd] 51 (0, 0))) := (hb.block _ (blk_in Xv1.out)).trans Xv1.out
          clear k0 k1 k2 k3 k4 k5 k6 hb
          have k0 : v2.cell? ⟨w.heap.size, 0, none⟩ = some (.string nm) := by simp [World.cell?, Xv2.out]
          have k1 : v2.cell? ⟨w.heap.size, 1, none⟩ = some (.int .i64 iv) := by simp [World.cell?, Xv2.out]
          have k2 : v2.cell? ⟨w.heap.size, 2, none⟩ = some (.int .i64 sg) := by simp [World.cell?, Xv2.out]
          have k3 : v2.cell? ⟨w.heap.size, 3, none⟩ = some (.int .i64 pr) := by simp [World.cell?, Xv2.out]
          have k4 : v2.cell? ⟨w.heap.size, 4, none⟩ = some (.slice y1 cs.length c1) := by simp [World.cell?, Xv2.out]
          have k5 : v2.cell? ⟨w.heap.size, 5, none⟩ = some (.slice y2 bs.length c2) := by simp [World.cell?, Xv2.out]
          have k6 : v2.cell? ⟨w.heap.size, 6, none⟩ = some (.int .i64 bd) := by simp [World.cell?, Xv2.out]
          go_wp2_with fail
          refine (H2.out _).mono ?_
          rintro e v3 ⟨rfl, hb⟩
          have Bv3 : Hid (Below w.heap.size w v3) := bl_tr Bv2.out hb
          have Xv3 : Hid (v3.heap[w.heap.size]? = some (.cells #[.string nm, .int .i64 iv, .int .i64 sg, .int .i64 pr, .slice y1 cs.length c1, .slice y2 bs.length c2, .int .i64 bd] 51 (0, 0))) := (hb.block _ (blk_in Xv2.out)).trans Xv2.out
          clear k0 k1 k2 k3 k4 k5 k6 hb
          have k0 : v3.cell? ⟨w.heap.size, 0, none⟩ = some (.string nm) := by simp [World.cell?, Xv3.out]
          have k1 : v3.cell? ⟨w.heap.size, 1, none⟩ = some (.int .i64 iv) := by simp [World.cell?, Xv3.out]
          have k2 : v3.cell? ⟨w.heap.size, 2, none⟩ = some (.int .i64 sg) := by simp [World.cell?, Xv3.out]
          have k3 : v3.cell? ⟨w.heap.size, 3, none⟩ = some (.int .i64 pr) := by simp [World.cell?, Xv3.out]
          have k4 : v3.cell? ⟨w.heap.size, 4, none⟩ = some (.slice y1 cs.length c1) := by simp [World.cell?, Xv3.out]
          have k5 : v3.cell? ⟨w.heap.size, 5, none⟩ = some (.slice y2 bs.length c2) := by simp [World.cell?, Xv3.out]
          have k6 : v3.cell? ⟨w.heap.size, 6, none⟩ = some (.int .i64 bd) := by simp [World.cell?, Xv3.out]
          go_wp2
          go_ret
          exact ⟨by simp [q2], Bv3.out⟩
      · skip
        go_wp2
        go_ret
        exact ⟨by rw [decide_eq_false (show ¬ 0 ≤ iv by omega)]; rfl, Bv1.out⟩
    · have n3 : (s.kd == 1) = false := by simp [q3]
      have n3b : (s.kd != 1) = true := by simp [q3]
      rw [decide_eq_false q3, Bool.false_and, Bool.false_and, Bool.false_and]
      clear q3
      go_enter Tryz.func55, Tryz.ntmps55
      go_wp2_with fail
      rw [← eW]
      clear eW
      have d0 : ∀ y : Sub AW, y.w.cell? ⟨w.heap.size, 0, none⟩ = some (.string nm) := fun y => (y.h.cell (p := ⟨w.heap.size, 0, none⟩) (blk_in AX.out)).trans (by simp [World.cell?, AX.out])
      have d1 : ∀ y : Sub AW, y.w.cell? ⟨w.heap.size, 1, none⟩ = some (.int .i64 iv) := fun y => (y.h.cell (p := ⟨w.heap.size, 1, none⟩) (blk_in AX.out)).trans (by simp [World.cell?, AX.out])
      have d2 : ∀ y : Sub AW, y.w.cell? ⟨w.heap.size, 2, none⟩ = some (.int .i64 sg) := fun y => (y.h.cell (p := ⟨w.heap.size, 2, none⟩) (blk_in AX.out)).trans (by simp [World.cell?, AX.out])
      have d3 : ∀ y : Sub AW, y.w.cell? ⟨w.heap.size, 3, none⟩ = some (.int .i64 pr) := fun y => (y.h.cell (p := ⟨w.heap.size, 3, none⟩) (blk_in AX.out)).trans (by simp [World.cell?, AX.out])
      have d4 : ∀ y : Sub AW, y.w.cell? ⟨w.heap.size, 4, none⟩ = some (.slice y1 cs.length c1) := fun y => (y.h.cell (p := ⟨w.heap.size, 4, none⟩) (blk_in AX.out)).trans (by simp [World.cell?, AX.out])
      have d5 : ∀ y : Sub AW, y.w.cell? ⟨w.heap.size, 5, none⟩ = some (.slice y2 bs.length c2) := fun y => (y.h.cell (p := ⟨w.heap.size, 5, none⟩) (blk_in AX.out)).trans (by simp [World.cell?, AX.out])
      have d6 : ∀ y : Sub AW, y.w.cell? ⟨w.heap.size, 6, none⟩ = some (.int .i64 bd) := fun y => (y.h.cell (p := ⟨w.heap.size, 6, none⟩) (blk_in AX.out)).trans (by simp [World.cell?, AX.out])
      have f0 : ∀ y : Sub AW, y.w.cell? (a.add (sg.toNat * 11)) = some (.int .u8 s.kd) := fun y => E0.out y.w (bl_tr AB.out y.h)
      have HBq : Hid (∀ y : Sub AW, _) := fun y => HB.out y.w
      have H0q : Hid (∀ y : Sub AW, _) := fun y => H0.out y.w
      refine wp_region_sub2 (by kernel_rfl) (by kernel_rfl) ?_
      intro cx
      clear cx
      repeat (first | go_big_quiet_skip | (go_big_quiet_want; go_big_quiet_op; first | go_big_quiet_on | (refine ⟨_, fun _ => rfl, ?_⟩; go_big_quiet_on) | go_big_quiet_call (first | (go_at_call 98; exact calls_sub (HBq.out _)) | (go_at_call 93; exact calls_sub (H0q.out _)))))
      refine wpQuiet_nil ?_
      rintro _ ⟨y, rfl⟩
      obtain ⟨v1, v1h⟩ := y
      have Bv1 : Hid (Below w.heap.size w v1) := bl_tr AB.out v1h
      have Xv1 : Hid (v1.heap[w.heap.size]? = some (.cells #[.string nm, .int .i64 iv, .int .i64 sg, .int .i64 pr, .slice y1 cs.length c1, .slice y2 bs.length c2, .int .i64 bd] 51 (0, 0))) := (v1h.block _ (blk_in AX.out)).trans AX.out
      simp only
      clear d0 d1 d2 d3 d4 d5 d6 HBq H0q f0 v1h
      go_wp2
      go_ret
      exact ⟨rfl, Bv1.out⟩
end Go.Proofs.YtdcjngakmkgbmaaGreat
namespace Go.Proofs.YtdcjngakmkgbmaaGreat
set_option linter.unusedVariables false
open Go.RowKit
theorem rn_bad {m : ImR} {j : JbR} {k : Nat} (hk : k < j.cs.length) (h : runB m (j.cs.getD k 0) (j.bs.getD k 0) = false) : rnB m j = false := by
  unfold rnB
  rw [Bool.and_eq_false_iff]
  right
  rw [List.all_eq_false]
  exact ⟨k, List.mem_range.2 hk, by rw [h]; simp⟩
theorem rn_all {m : ImR} {j : JbR} (h1 : j.cs.length = j.bs.length) (h2 : j.cs.length ≤ 32) (h : ∀ k, k < j.cs.length → runB m (j.cs.getD k 0) (j.bs.getD k 0) = true) : rnB m j = true := by
  unfold rnB
  rw [decide_eq_true h1, decide_eq_true h2, Bool.true_and, Bool.true_and, List.all_eq_true]
  exact fun k hk => h k (List.mem_range.1 hk)
theorem run_in {m : ImR} {z : Nat} {f : FlR} (b : Int) (h : m.fs[z]? = some f) : runB m z b = (decide (f.wh = 3) && ftB b f.ce m.cs.length) := by
  unfold runB
  have := (List.getElem?_eq_some_iff.1 h).1
  rw [decide_eq_true (show (0 : Int) ≤ z by omega), decide_eq_true (show (z : Int) < m.fs.length by omega), Int.toNat_natCast, h]
  rfl
theorem run_out {m : ImR} {z : Int} (b : Int) (h : inB 0 ((m.fs.length : Int) - 1) z = false) : runB m z b = false := by
  unfold inB at h
  unfold runB
  simp only [Bool.and_eq_false_iff, decide_eq_false_iff_not] at h
  rcases h with q | q
  · rw [decide_eq_false q]; rfl
  · rw [decide_eq_false (show ¬ z < (m.fs.length : Int) by omega), Bool.and_false]; rfl
set_option maxRecDepth 20000 in
set_option maxHeartbeats 8000000 in
theorem mayRun_of (m : ImR) (j : JbR) (y1 y2 : Option Addr) (c1 c2 : Nat) (x1 x2 x3 : Option Addr) (p1 p2 p3 : Nat) (w : World) {S : Nat → Prop} (hS : ∀ b, S b → b < w.heap.size) (hj : JbQ S w j y1 y2) (ha : RwF 8 (FlP S w) S w x2 m.fs)
    (hn : m.cs.length ≤ 1048576) (hm : m.fs.length ≤ 1048576) (hc : ∀ f ∈ m.fs, 0 ≤ f.ce ∧ f.ce ≤ 4096) :
    Calls Tryz.prog 56 #[JbV j y1 y2 c1 c2, ImB m x1 x2 x3 p1 p2 p3] w fun e w' => e = .returned (.bool (rnB m j)) ∧ Below w.heap.size w w' := by
  have HA : Hid (RwF 8 (FlP S w) S w x2 m.fs) := ha
  have HJ : Hid (JbQ S w j y1 y2) := hj
  have HS : Hid (∀ b, S b → b < w.heap.size) := hS
  have HC : Hid (∀ f ∈ m.fs, 0 ≤ f.ce ∧ f.ce ≤ 4096) := hc
  have HN : Hid (m.cs.length ≤ 1048576) := hn
  have HM : Hid (m.fs.length ≤ 1048576) := hm
  clear ha hS hj hc hn hm
  by_cases q1 : j.cs.length = j.bs.length
  case neg =>
    have n1 : ((j.cs.length : Int) == (j.bs.length : Int)) = false := by rw [beq_eq_false_iff_ne]; omega
    have n2 : ((j.cs.length : Int) != (j.bs.length : Int)) = true := by simp only [bne, n1]; rfl
    have ev : rnB m j = false := by unfold rnB; rw [decide_eq_false q1]; rfl
    rw [ev]
    clear ev q1
    go_enter Tryz.func56, Tryz.ntmps56
    go_wp2
    go_ret
    exact ⟨rfl, by go_grown⟩
  have n1 : ((j.cs.length : Int) == (j.bs.length : Int)) = true := by rw [beq_iff_eq]; omega
  have n2 : ((j.cs.length : Int) != (j.bs.length : Int)) = false := by simp only [bne, n1]; rfl
  have Q1 : Hid (j.cs.length = j.bs.length) := q1
  clear q1
  by_cases q2 : j.cs.length ≤ 32
  case neg =>
    have n3 : (32 : Int) < (j.cs.length : Int) := by omega
    have ev : rnB m j = false := by unfold rnB; rw [decide_eq_false q2, Bool.and_false]; rfl
    rw [ev]
    clear ev q2
    go_enter Tryz.func56, Tryz.ntmps56
    go_wp2
    go_ret
    exact ⟨rfl, by go_grown⟩
  have n3 : ¬ (32 : Int) < (j.cs.length : Int) := by omega
  have Q2 : Hid (j.cs.length ≤ 32) := q2
  clear q2
  generalize hv : rnB m j = VV
  have HV : Hid (rnB m j = VV) := hv
  clear hv
  obtain ⟨AW, eW⟩ : ∃ AW, AW = (w.alloc (.cells #[.string j.nm, .int .i64 j.iv, .int .i64 j.sg, .int .i64 j.pr, .slice y1 j.cs.length c1, .slice y2 j.bs.length c2, .int .i64 j.bd] 51 (0, 0))).alloc (.cells #[.string m.nm, .slice x1 m.cs.length p1, .slice x2 m.fs.length p2, .slice x3 m.js.length p3] 26 (0, 0)) := ⟨_, rfl⟩
  have tw := tv_at w (.cells #[.string j.nm, .int .i64 j.iv, .int .i64 j.sg, .int .i64 j.pr, .slice y1 j.cs.length c1, .slice y2 j.bs.length c2, .int .i64 j.bd] 51 (0, 0)) (.cells #[.string m.nm, .slice x1 m.cs.length p1, .slice x2 m.fs.length p2, .slice x3 m.js.length p3] 26 (0, 0))
  have AX : Hid (AW.heap[w.heap.size]? = some (.cells #[.string j.nm, .int .i64 j.iv, .int .i64 j.sg, .int .i64 j.pr, .slice y1 j.cs.length c1, .slice y2 j.bs.length c2, .int .i64 j.bd] 51 (0, 0))) := by rw [eW]; exact tw.1
  have AY : Hid (AW.heap[w.heap.size + 1]? = some (.cells #[.string m.nm, .slice x1 m.cs.length p1, .slice x2 m.fs.length p2, .slice x3 m.js.length p3] 26 (0, 0))) := by rw [eW]; exact tw.2
  have AB : Hid (Below w.heap.size w AW) := by rw [eW]; exact ((Below.refl _ _).alloc (Nat.le_refl _) _).alloc (by simp) _
  clear tw
  go_enter Tryz.func56, Tryz.ntmps56
  go_wp2_with fail
  rw [← eW]
  clear eW n1 n2 n3
  go_loopw [24] (fun i wr => ∃ k : Nat, k ≤ j.cs.length ∧ i = .int .i64 k ∧ Below w.heap.size w wr ∧ wr.heap[w.heap.size]? = some (.cells #[.string j.nm, .int .i64 j.iv, .int .i64 j.sg, .int .i64 j.pr, .slice y1 j.cs.length c1, .slice y2 j.bs.length c2, .int .i64 j.bd] 51 (0, 0)) ∧ wr.heap[w.heap.size + 1]? = some (.cells #[.string m.nm, .slice x1 m.cs.length p1, .slice x2 m.fs.length p2, .slice x3 m.js.length p3] 26 (0, 0)) ∧ ∀ i, i < k → runB m (j.cs.getD i 0) (j.bs.getD i 0) = true) (fun i _ => j.cs.length - (intOf i).toNat)
  case atStart => exact ⟨0, Nat.zero_le _, rfl, AB.out, AX.out, AY.out, fun i hi => absurd hi (Nat.not_lt_zero _)⟩
  case round =>
    obtain ⟨k, hk, rfl, hbw, hx, hy, hall⟩ := hrel
    have HW : Hid (Below w.heap.size w wr) := hbw
    have HX : Hid (wr.heap[w.heap.size]? = some (.cells #[.string j.nm, .int .i64 j.iv, .int .i64 j.sg, .int .i64 j.pr, .slice y1 j.cs.length c1, .slice y2 j.bs.length c2, .int .i64 j.bd] 51 (0, 0))) := hx
    have HY : Hid (wr.heap[w.heap.size + 1]? = some (.cells #[.string m.nm, .slice x1 m.cs.length p1, .slice x2 m.fs.length p2, .slice x3 m.js.length p3] 26 (0, 0))) := hy
    have AL : Hid (∀ i, i < k → runB m (j.cs.getD i 0) (j.bs.getD i 0) = true) := hall
    clear hall AX AB AY
    by_cases hlt : k < j.cs.length
    · obtain ⟨a, rfl⟩ := HJ.out.1.some (by omega)
      obtain ⟨b, rfl⟩ := HJ.out.2.some (by have := Q1.out; omega)
      obtain ⟨z, zv, ze, zs, rfl, zk⟩ := HJ.out.1.el k hlt
      obtain ⟨u, uv, ue, us, rfl, uk⟩ := HJ.out.2.el k (by have := Q1.out; omega)
      have gz : j.cs.getD k 0 = z := by simp [List.getD, ze]
      have gu : j.bs.getD k 0 = u := by simp [List.getD, ue]
      have z0 := zk.c0
      have u0 := uk.c0
      rw [Nat.mul_one] at z0 u0
      have LT : Hid (k < j.cs.length) := hlt
      have kl : (k : Int) < j.cs.length := by omega
      have klb : (k : Int) < j.bs.length := by have := Q1.out; omega
      have CZ : Hid (∀ V, Below w.heap.size w V → V.cell? (a.add k) = some (.int .i64 z) ∧ V.cell? (b.add k) = some (.int .i64 u)) := fun V h => ⟨(h.cell (by rw [add_block]; exact HS.out _ zs)).trans z0, (h.cell (by rw [add_block]; exact HS.out _ us)).trans u0⟩
      have BAD : Hid (runB m z u = false → VV = false) := fun h => HV.out.symm.trans (rn_bad LT.out (by rw [gz, gu]; exact h))
      have NXT : Hid (runB m z u = true → ∀ i, i < k + 1 → runB m (j.cs.getD i 0) (j.bs.getD i 0) = true) := fun h i hi => by
        rcases Nat.lt_succ_iff_lt_or_eq.1 hi with q | rfl
        · exact AL.out i q
        · rw [gz, gu]; exact h
      have CB : Hid (∀ V, Below wr.heap.size wr V → V.heap[w.heap.size]? = some (.cells #[.string j.nm, .int .i64 j.iv, .int .i64 j.sg, .int .i64 j.pr, .slice (some a) j.cs.length c1, .slice (some b) j.bs.length c2, .int .i64 j.bd] 51 (0, 0)) ∧ V.heap[w.heap.size + 1]? = some (.cells #[.string m.nm, .slice x1 m.cs.length p1, .slice x2 m.fs.length p2, .slice x3 m.js.length p3] 26 (0, 0))) := fun V h => ⟨(h.block _ (blk_in HX.out)).trans HX.out, (h.block _ (blk_in HY.out)).trans HY.out⟩
      have BW : Hid (∀ V, Below wr.heap.size wr V → Below w.heap.size w V) := fun V h => HW.out.trans (h.mono HW.out.size)
      clear hbw hx hy hlt ze zs zk ue us uk gz gu z0 u0
      have z0 := (CZ.out wr HW.out).1
      have m2 : wr.cell? ⟨w.heap.size + 1, 2, none⟩ = some (.slice x2 m.fs.length p2) := by simp [World.cell?, HY.out]
      have HB : Hid (∀ W, Calls Tryz.prog 98 #[.int .i64 m.fs.length] W fun e w' => e = .returned (.agg #[.int .i64 0, .int .i64 ((m.fs.length : Int) - 1)]) ∧ Below W.heap.size W w') := fun W => below_of _ (by have := HM.out; omega) W
      have H0 : Hid (∀ W, Calls Tryz.prog 93 #[.agg #[.int .i64 0, .int .i64 ((m.fs.length : Int) - 1)], .int .i64 z] W fun e w' => e = .returned (.bool (inB 0 ((m.fs.length : Int) - 1) z)) ∧ Below W.heap.size W w') := fun W => has_of _ _ _ W
      have G0 : Hid (inB 0 ((m.fs.length : Int) - 1) z = false → runB m z u = false) := run_out u
      have G1 : Hid (inB 0 ((m.fs.length : Int) - 1) z = true → 0 ≤ z ∧ z < m.fs.length) := fun h => by have := inB_t h; omega
      generalize inB 0 ((m.fs.length : Int) - 1) z = r0 at *
      go_wp2_with fail
      refine (HB.out _).mono ?_
      rintro e v1 ⟨rfl, hb1⟩
      have V1 : Hid (Below wr.heap.size wr v1) := hb1
      clear hb1 z0 m2
      go_wp2_with fail
      refine (H0.out _).mono ?_
      rintro e v2 ⟨rfl, hb2⟩
      have V2 : Hid (Below wr.heap.size wr v2) := V1.out.trans (hb2.mono V1.out.size)
      clear hb2 V1
      cases r0
      · have ev : VV = false := BAD.out (G0.out rfl)
        subst ev
        go_wp2
        go_ret
        exact ⟨rfl, BW.out _ V2.out⟩
      have zz := G1.out rfl
      obtain ⟨y, rfl⟩ : ∃ y : Nat, z = y := ⟨z.toNat, by omega⟩
      clear G0 G1 HB H0
      obtain ⟨d, rfl⟩ := HA.out.some (by omega)
      obtain ⟨f, fv, fe, _, ⟨sx, sc, sy, sd, rfl, sq⟩, sk⟩ := (HA.out.frK keptF (w' := v2) (fun q hq => (BW.out _ V2.out).cell (HS.out _ hq))).el y (by omega)
      have e0 := sk.c0
      have e1 := sk.cp 0 _ rfl
      have e2 := sk.cp 1 _ rfl
      have e3 := sk.cp 2 _ rfl
      have e4 := sk.cp 3 _ rfl
      have e5 := sk.cp 4 _ rfl
      have e6 := sk.cp 5 _ rfl
      have e7 := sk.cp 6 _ rfl
      have RB : Hid (runB m y u = (decide (f.wh = 3) && ftB u f.ce m.cs.length)) := run_in u fe
      have F1 : Hid (∀ W, Calls Tryz.prog 94 #[.int .i64 u, .int .i64 f.ce, .int .i64 m.cs.length] W fun e w' => e = .returned (.bool (ftB u f.ce m.cs.length)) ∧ w' = W) := fun W => fits_of u f.ce m.cs.length W (HC.out f (List.mem_of_getElem? fe)) (by have := HN.out; omega)
      have yl : (y : Int) < m.fs.length := zz.2
      clear sk sq fe zz
      have za := block_lt_of_cell e0
      obtain ⟨cb1, cb2⟩ := CB.out v2 V2.out
      have m2 : v2.cell? ⟨w.heap.size + 1, 2, none⟩ = some (.slice (some d) m.fs.length p2) := by simp [World.cell?, cb2]
      obtain ⟨AR, eR⟩ : ∃ AR, AR = v2.alloc (.cells #[.string f.nm, .int .i64 f.wh, .int .i64 f.ce, .int .i64 f.ba, .int .i64 f.rg, .int .i64 f.sl, .slice sx f.os.length sc, .slice sy f.ls.length sd] 44 (0, 0)) := ⟨_, rfl⟩
      have RX : AR.heap[v2.heap.size]? = some (.cells #[.string f.nm, .int .i64 f.wh, .int .i64 f.ce, .int .i64 f.ba, .int .i64 f.rg, .int .i64 f.sl, .slice sx f.os.length sc, .slice sy f.ls.length sd] 44 (0, 0)) := by rw [eR]; exact heap_alloc_last _ _
      have VR : Hid (Below wr.heap.size wr AR) := by rw [eR]; exact V2.out.trans (((Below.refl _ _).alloc (Nat.le_refl _) _).mono V2.out.size)
      clear cb1 cb2
      go_upto_region 1 with fail
      rw [← eR]
      clear eR e0 e1 e2 e3 e4 e5 e6 e7 za m2
      obtain ⟨cb1, cb2⟩ := CB.out AR VR.out
      have m1 : ∀ y : Sub AR, y.w.cell? ⟨w.heap.size + 1, 1, none⟩ = some (.slice x1 m.cs.length p1) := fun y => (y.h.cell (p := ⟨w.heap.size + 1, 1, none⟩) (blk_in cb2)).trans (by simp [World.cell?, cb2])
      have j5 : ∀ y : Sub AR, y.w.cell? ⟨w.heap.size, 5, none⟩ = some (.slice (some b) j.bs.length c2) := fun y => (y.h.cell (p := ⟨w.heap.size, 5, none⟩) (blk_in cb1)).trans (by simp [World.cell?, cb1])
      have f1 : ∀ y : Sub AR, y.w.cell? ⟨v2.heap.size, 1, none⟩ = some (.int .i64 f.wh) := fun y => (y.h.cell (p := ⟨v2.heap.size, 1, none⟩) (blk_in RX)).trans (by simp [World.cell?, RX])
      have f2 : ∀ y : Sub AR, y.w.cell? ⟨v2.heap.size, 2, none⟩ = some (.int .i64 f.ce) := fun y => (y.h.cell (p := ⟨v2.heap.size, 2, none⟩) (blk_in RX)).trans (by simp [World.cell?, RX])
      have u0 : ∀ y : Sub AR, y.w.cell? (b.add k) = some (.int .i64 u) := fun y => (CZ.out y.w (BW.out _ (VR.out.trans (y.h.mono VR.out.size)))).2
      have F1q : Hid (∀ y : Sub AR, _) := fun y => F1.out y.w
      clear RX cb1 cb2
      have WIN : Hid (∀ y : Sub AR, Below wr.heap.size wr y.w) := fun y => VR.out.trans (y.h.mono VR.out.size)
      go_wp2_with fail
      by_cases q3 : f.wh = 3
      case neg =>
        have n3 : (f.wh == 3) = false := by simp [q3]
        have n4 : (f.wh != 3) = true := by simp [q3]
        have ev : VV = false := BAD.out (by rw [RB.out, decide_eq_false q3]; rfl)
        subst ev
        clear q3
        refine wp_region_sub2 (by kernel_rfl) (by kernel_rfl) ?_
        intro cx
        clear cx
        repeat (first | go_big_quiet_skip | (go_big_quiet_want; go_big_quiet_op; first | go_big_quiet_on | (refine ⟨_, fun _ => rfl, ?_⟩; go_big_quiet_on) | go_big_quiet_call (first | fail)))
        refine wpQuiet_nil ?_
        rintro _ ⟨y, rfl⟩
        clear m1 j5 f1 f2 u0 F1q
        go_wp2
        go_ret
        exact ⟨rfl, BW.out _ (WIN.out y)⟩
      have n3 : (f.wh == 3) = true := by simp [q3]
      have n4 : (f.wh != 3) = false := by simp [q3]
      rw [decide_eq_true q3, Bool.true_and] at RB
      clear q3
      generalize ftB u f.ce m.cs.length = r1 at *
      refine wp_region_sub2 (by kernel_rfl) (by kernel_rfl) ?_
      intro cx
      clear cx
      repeat (first | go_big_quiet_skip | (go_big_quiet_want; go_big_quiet_op; first | go_big_quiet_on | (refine ⟨_, fun _ => rfl, ?_⟩; go_big_quiet_on) | go_big_quiet_call (first | (go_at_call 94; exact calls_sub_same (F1q.out _)))))
      refine wpQuiet_nil ?_
      rintro _ ⟨y, rfl⟩
      clear m1 j5 f1 f2 u0 F1q
      cases r1
      · have ev : VV = false := BAD.out RB.out
        subst ev
        go_wp2
        go_ret
        exact ⟨rfl, BW.out _ (WIN.out y)⟩
      · have ew : wrap64 ((k : Int) + 1) = (k : Int) + 1 := by have := Q2.out; have := LT.out; unfold wrap64; omega
        go_wp2
        rw [ew]
        exact ⟨⟨k + 1, Nat.succ_le_of_lt LT.out, rfl, BW.out _ (WIN.out y), (CB.out _ (WIN.out y)).1, (CB.out _ (WIN.out y)).2, NXT.out RB.out⟩, msr LT.out⟩
    · have kl : ¬ (k : Int) < j.cs.length := by omega
      have ev : VV = true := HV.out.symm.trans (rn_all Q1.out Q2.out (fun i hi => AL.out i (by omega)))
      subst ev
      clear hbw hlt hx hy
      go_wp2
      go_ret
      exact ⟨rfl, HW.out⟩
end Go.Proofs.YtdcjngakmkgbmaaGreat
