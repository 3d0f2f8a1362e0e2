/- A resource of nothing: its cells, its tasks, its time; no statement of the seat is proved here. -/
import Derived.Test.YtoiipiapgidbiaaGreatDoorSnG
namespace Go.Proofs.YtoiipiapgidbiaaGreatDoor
set_option linter.unusedVariables false
set_option linter.unusedSimpArgs false
open Go.RowKit
theorem mk_mapI (w : World) : (Instr.makeMap 77 none).run Tryz.prog w = .ok (.map (some w.heap.size)) (w.alloc (.map #[] 0)) := rfl
set_option maxRecDepth 20000 in
set_option maxHeartbeats 4000000 in
theorem newT_E (a0 b0 : Value) (w : World) : Calls Tryz.prog 49 #[.slice none 0 0, .slice none 0 0, (.func (.func 71) #[] #[a0, b0])] w fun e w' => (∃ g y M, e = .returned (.pointer (some ⟨g, 0, none⟩)) ∧ w'.heap[g]? = some (.cells #[.slice none 0 0, (.func (.func 71) #[] #[a0, b0]), M, .slice y 0 0, .slice none 0 0, .slice none 0 0, .int .i64 0, .int .i64 1, .bool false] 80 (0, 0)) ∧ w.heap.size ≤ g) ∧ Below w.heap.size w w' := by
  go_enter Tryz.func49, Tryz.ntmps49
  go_upto_region 1 with fail
  go_cut [7] (fun s7 wx => ∃ g y M, s7 = .pointer (some ⟨g, 0, none⟩) ∧ wx.heap[g]? = some (.cells #[.slice none 0 0, (.func (.func 71) #[] #[a0, b0]), M, .slice y 0 0, .slice none 0 0, .slice none 0 0, .int .i64 0, .int .i64 1, .bool false] 80 (0, 0)) ∧ w.heap.size ≤ g ∧ Below w.heap.size w wx)
  case first =>
    have mk := mk_mapI
    go_wp2_with fail
    refine (clC0 _).mono ?_
    rintro e V1 ⟨rfl, hb1⟩
    have B1 : Hid (Below w.heap.size w V1) := hb1
    clear hb1
    go_wp2_with fail
    refine (start_E _).mono ?_
    rintro e V2 ⟨⟨y, rfl⟩, hb2⟩
    have B2 : Hid (Below w.heap.size w V2) := B1.out.trans (((elB V1 _).trans (hb2.mono (elB V1 _).size)).mono B1.out.size)
    clear hb2 B1
    go_wp2_with fail
    go_meet
    case rel => exact ⟨_, y, _, rfl, heap_alloc_last _ _, B2.out.size, B2.out.alloc (by exact B2.out.size) _⟩
  case rest =>
    obtain ⟨g, y, M, rfl, hx, hg, hb⟩ := hcut
    have HB : Hid (Below w.heap.size w wc) := hb
    have HX : Hid (wc.heap[g]? = some (.cells #[.slice none 0 0, .func (.func 71) #[] #[a0, b0], M, .slice y 0 0, .slice none 0 0, .slice none 0 0, .int .i64 0, .int .i64 1, .bool false] 80 (0, 0))) := hx
    have HG : Hid (w.heap.size ≤ g) := hg
    clear hx hg hb
    go_upto_region 3 with fail
    go_loopw [24] (fun i wr => i = .int .i64 0 ∧ wr = wc) (fun _ _ => 0)
    case atStart => exact ⟨rfl, rfl⟩
    case round =>
      obtain ⟨rfl, rfl⟩ := hrel
      go_upto_region 10 with fail
      go_loopw [56] (fun i wk => i = .int .i64 0 ∧ wk = wr) (fun _ _ => 0)
      case atStart => exact ⟨rfl, rfl⟩
      case round =>
        obtain ⟨rfl, rfl⟩ := hrel
        go_wp2_with fail
        refine (commit_E g _ _ _ _ _ _ _ _ _ HX.out).mono ?_
        rintro e V2 ⟨rfl, rfl⟩
        go_wp2
        go_ret
        exact ⟨⟨g, y, M, rfl, heap_setCell_same _ g 4 _ _ _ HX.out, HG.out⟩, HB.out.setCell HG.out _⟩
end Go.Proofs.YtoiipiapgidbiaaGreatDoor
