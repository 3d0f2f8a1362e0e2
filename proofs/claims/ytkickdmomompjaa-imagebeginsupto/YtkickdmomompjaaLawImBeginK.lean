/- ImageBegins is proved in its second form: for every image, place and bytes that are together of bulk at most 1048576 the statement's function returns true, and they read as they did. -/
import Derived.Test.YtkickdmomompjaaRcGK
import Derived.Test.YtkickdmomompjaaOpBK
import Derived.ShutString
import Derived.ChangeOld
import Derived.Below
import Derived.JoinedCond
import Derived.ProofKit
import Derived.OpenShut
namespace Go.Proofs.Ytkickdmomompjaa.LawImBegin
set_option linter.unusedVariables false
open Go.ChangeShapes Go.WideShapes Go.ChangeAt Go.RowKit
theorem own : ownKnob Try.prog.godebug = none := by kernel_rfl
theorem laidOut : laidOutB Try.prog = true := by kernel_rfl
theorem bulk_len {H : Type} (l : List (DataW H)) : l.length ≤ Rows.uptoBulkAll l := by
  induction l with
  | nil => simp [Rows.uptoBulkAll]
  | cons d l ih => simp only [Rows.uptoBulkAll, List.length_cons]; have := one_le d; omega
theorem bound {H : Type} {d0 d1 d2 : DataW H} (hk : Rows.uptoSmall H [d0, d1, d2] = true) : Rows.uptoBulk d0 ≤ 1048576 ∧ Rows.uptoBulk d2 ≤ 1048576 := by
  have h : Rows.uptoBulkAll [d0, d1, d2] ≤ 1048576 := of_decide_eq_true hk
  simp only [Rows.uptoBulkAll] at h
  exact ⟨by omega, by omega⟩
theorem underM : Try.prog.underlying 27 = some (.struct (Try.prog.fieldsOf 27)) := by kernel_rfl
theorem cellsM : Try.prog.cellsOf 27 = 4 := by kernel_rfl
set_option maxRecDepth 100000 in
theorem open_im {H : Type} {enc : TypeId × Value → H} {W : World} {base b0 : Nat} {spare : Nat → Bool} {held : Bool} {r : Reach} {v : Value} {d : DataW H} {p : List MemPlace}
    (hv : Value.okWide Try.prog W r b0 27 v) (h : DataW.Trod enc Try.prog W base spare held 27 v d p) (hb : Rows.uptoBulk d ≤ 1048576) :
    ∃ (m : ImR) (x1 x2 x3 : Option Addr) (c1 c2 c3 : Nat), v = .agg #[.string m.nm, .slice x1 m.cs.length c1, .slice x2 m.fs.length c2, .slice x3 m.js.length c3] ∧ ImQ (fun b => b < W.heap.size) W m x1 x2 x3 ∧ ImOk m := by
  obtain ⟨cs, rfl, hsz⟩ := okWide_struct underM hv
  obtain ⟨fuel, hf⟩ := h
  obtain ⟨m, x1, x2, x3, c1, c2, c3, e, q, ok⟩ := rd_Imi (cs := cs.toList) hf (by rw [Array.length_toList]; exact hsz.trans cellsM) hb
  refine ⟨m, x1, x2, x3, c1, c2, c3, ?_, q, ok⟩
  have : cs = (imC m (.slice x1 m.cs.length c1) (.slice x2 m.fs.length c2) (.slice x3 m.js.length c3)).toArray := by rw [← e]
  rw [this]
set_option maxRecDepth 100000 in
theorem contract (H : Type) (enc : TypeId × Value → H) (W : World) (base : Nat) (args : Array Value) (ds gs : List (DataW H)) (before : List MemPlace)
    (hval : ∀ (j : Nat) t v, Try.f5.params[j]? = some t → args[j]? = some v → Value.okWide Try.prog W .any base t v)
    (hW : DataW.Whole enc Try.prog Try.f5.params.toList Rows.imageBeginsSpec.vars false W args.toList ds gs before) (hk : Rows.uptoSmall H (ds ++ gs) = true) :
    Calls Try.prog 5 args W fun e W' => ∃ v, e = .returned v ∧ Rows.imageBeginsSpec.post enc Try.prog Try.f5 false true false false W args v W' := by
  have hW' := hW
  obtain ⟨p, q, hA0, hV, rfl, hfz, hnd⟩ := hW
  have hA : DataW.TrodAll enc Try.prog W 0 (fun _ => true) true Try.f5.params.toList args.toList ds p := hA0
  rw [Try.params5] at hA hval
  obtain ⟨v0, vs0, d0, ds0, p0, q0, hargs, rfl, rfl, h0, r0⟩ := trodAll_cons hA
  obtain ⟨v1, vs1, d1, ds1, p1, q1, rfl, rfl, rfl, h1, r1⟩ := trodAll_cons r0
  obtain ⟨v2, vs2, d2, ds2, p2, q2, rfl, rfl, rfl, h2, r2⟩ := trodAll_cons r1
  obtain ⟨rfl, rfl, rfl⟩ := trodAll_nil r2
  obtain rfl : args = #[v0, v1, v2] := by cases args; simp_all
  obtain ⟨rfl, rfl⟩ := trodVars_none hV
  have k0 := h0
  have lt0 : ∀ x ∈ p0, x.block < W.heap.size := by obtain ⟨m, hm⟩ := k0; exact DataW.trod_lt m _ _ _ hm
  simp only [List.append_nil] at hk
  obtain ⟨b0, b2⟩ := bound hk
  obtain ⟨m0, x1, x2, x3, c1, c2, c3, rfl, s0, k0ok⟩ := open_im (hval 0 27 v0 rfl rfl) h0 b0
  obtain ⟨at_, rfl, rfl, rfl, wa⟩ := open_int Try.underlying36 (hval 1 36 v1 rfl rfl) h1
  have ba := bounds_u64 wa
  have k2 := h2
  have lt2 : ∀ x ∈ p2, x.block < W.heap.size := by obtain ⟨m, hm⟩ := k2; exact DataW.trod_lt m _ _ _ hm
  obtain ⟨z, zc, t, rfl, hz0, hz, hz8, hzc, sn⟩ := open_bytes (hval 2 22 v2 rfl rfl) h2
  have tl : t.length ≤ 1048576 := by
    rcases sn with e | ⟨el, sp, e, hl⟩
    · omega
    · rw [e] at b2
      simp only [Rows.uptoBulk] at b2
      have := bulk_len el
      omega
  clear hA0
  refine (imbegins_walk m0 x1 x2 x3 c1 c2 c3 at_ z zc t W s0 k0ok (by omega) (by omega) hz hz0 hz8 hzc tl).mono fun e W' ⟨he, bel⟩ => ?_
  subst he
  exact ⟨_, rfl, _, _, _, [], _, [], hW', trodAll_mk1 (shut_bool Try.underlying4 _), (trodAll_cons_mk (Below.trod laidOut (by kernel_rfl) (of_decide_eq_true (by kernel_rfl)) k0 bel lt0) (trodAll_cons_mk (shut_int Try.underlying36 wa) (trodAll_cons_mk (Below.trod laidOut (by kernel_rfl) (of_decide_eq_true (by kernel_rfl)) k2 bel lt2) trodAll_mk0))), rfl, bel.frame _, fun h => by cases h⟩
set_option maxRecDepth 100000 in
theorem lifted (os : Os) (started : os.Started) (H : Type) (enc : TypeId × Value → H) (F : Stop.Interp) :
    ReturnsInHanded {} Try.checked os 5 .any ((Rows.OpenSpec.upto Rows.imageBeginsSpec).pre6 enc Try.prog Try.f5 Rows.imageBeginsUptoRow.domain false) (((Rows.OpenSpec.upto Rows.imageBeginsSpec).at F).post enc Try.prog Try.f5 false true false false) := by
  refine returnsInHanded_of_cond (C := Try.checked) (s := Rows.OpenSpec.upto Rows.imageBeginsSpec) (k := Rows.uptoSmall) rfl own started (by kernel_rfl) Try.func5
    (OpenSpec.witness (enc := enc) (C := Try.checked) (s := Rows.OpenSpec.upto Rows.imageBeginsSpec) (k := Rows.uptoSmall) rfl false ⟨#[], #[.agg #[.string ⟨#[]⟩, .slice none 0 0, .slice none 0 0, .slice none 0 0], .int .u64 0, .slice none 0 0], []⟩ 8 (by kernel_rfl) (by kernel_rfl) (by kernel_rfl)
      (x := ([.agg [.lit (.string []), .nil, .nil, .nil], .lit (.int .u64 0), .nil], [], [])) (by kernel_rfl) rfl (by kernel_rfl)) ?_
  intro W base args ds gs before hval hW _ hk _
  exact contract H enc W base args ds gs before hval hW hk
end Go.Proofs.Ytkickdmomompjaa.LawImBegin
namespace Go.Proofs.Ytkickdmomompjaa
/-- THE STATEMENT'S SECOND FORM. -/
theorem imageBeginsUpto_proved : Rows.ImageBeginsUptoSaid :=
  OpenClaim.holds_of_cond 5 Try.f5 rfl rfl rfl rfl rfl rfl rfl ⟨rfl, rfl, rfl, rfl, rfl⟩ rfl rfl rfl rfl rfl (by kernel_rfl) Try.func5 (by kernel_rfl)
    (of_decide_eq_true (by kernel_rfl)) (by unfold Func.isWrapper; first | (rw [if_pos (by decide +kernel)]; kernel_rfl) | (rw [if_neg (by decide +kernel)]; exact ⟨rfl, rfl⟩))
    (fun os started H enc _ F => LawImBegin.lifted os started H enc F)
end Go.Proofs.Ytkickdmomompjaa
