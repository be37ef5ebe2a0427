/- The words of statements: the map of kinds. -/
import Derived.Test.YtkmdamljhagogaaDoorMaps
import Derived.Test.YtkmdamljhagogaaDoorRep
namespace Go.Proofs.YtkmdamljhagogaaDoor
open Go.RowKit

def kindsA : AMap := ((((((((AMap.empty.put [108, 101, 116] 1).put [115, 101, 116] 2).put [105, 102] 3).put [119, 104, 105, 108, 101] 4).put [115, 97, 121] 5).put [114, 101, 116, 117, 114, 110] 6).put [112, 117, 116, 108] 7).put [112, 117, 116, 114] 8).put [100, 111] 9
theorem kindsA_at (v : Bs) : (kindsA.f v).getD 0 = (kindOf v : Int) := by
  by_cases h0 : v = [108, 101, 116]
  · subst h0; rfl
  by_cases h1 : v = [115, 101, 116]
  · subst h1; rfl
  by_cases h2 : v = [105, 102]
  · subst h2; rfl
  by_cases h3 : v = [119, 104, 105, 108, 101]
  · subst h3; rfl
  by_cases h4 : v = [115, 97, 121]
  · subst h4; rfl
  by_cases h5 : v = [114, 101, 116, 117, 114, 110]
  · subst h5; rfl
  by_cases h6 : v = [112, 117, 116, 108]
  · subst h6; rfl
  by_cases h7 : v = [112, 117, 116, 114]
  · subst h7; rfl
  by_cases h8 : v = [100, 111]
  · subst h8; rfl
  have e : kindOf v = 0 := by
    unfold kindOf
    rw [if_neg h0, if_neg h1, if_neg h2, if_neg h3, if_neg h4, if_neg h5, if_neg h6, if_neg h7, if_neg h8]
  rw [e]
  simp [kindsA, AMap.put, AMap.empty, h0, h1, h2, h3, h4, h5, h6, h7, h8]
theorem kinds_run (w : World) (v : Bs) (hv : v.length ≤ 1500) : ∃ m1 m2 m3 m4 m5 m6 m7 m8 m9 : World,
    (Instr.mapUpdate 55 (.map (some w.heap.size)) (.string ⟨#[108, 101, 116]⟩) (.int .i64 1)).run Tryd.prog (w.alloc (.map #[] 0)) = .ok () m1 ∧
    (Instr.mapUpdate 55 (.map (some w.heap.size)) (.string ⟨#[115, 101, 116]⟩) (.int .i64 2)).run Tryd.prog m1 = .ok () m2 ∧
    (Instr.mapUpdate 55 (.map (some w.heap.size)) (.string ⟨#[105, 102]⟩) (.int .i64 3)).run Tryd.prog m2 = .ok () m3 ∧
    (Instr.mapUpdate 55 (.map (some w.heap.size)) (.string ⟨#[119, 104, 105, 108, 101]⟩) (.int .i64 4)).run Tryd.prog m3 = .ok () m4 ∧
    (Instr.mapUpdate 55 (.map (some w.heap.size)) (.string ⟨#[115, 97, 121]⟩) (.int .i64 5)).run Tryd.prog m4 = .ok () m5 ∧
    (Instr.mapUpdate 55 (.map (some w.heap.size)) (.string ⟨#[114, 101, 116, 117, 114, 110]⟩) (.int .i64 6)).run Tryd.prog m5 = .ok () m6 ∧
    (Instr.mapUpdate 55 (.map (some w.heap.size)) (.string ⟨#[112, 117, 116, 108]⟩) (.int .i64 7)).run Tryd.prog m6 = .ok () m7 ∧
    (Instr.mapUpdate 55 (.map (some w.heap.size)) (.string ⟨#[112, 117, 116, 114]⟩) (.int .i64 8)).run Tryd.prog m7 = .ok () m8 ∧
    (Instr.mapUpdate 55 (.map (some w.heap.size)) (.string ⟨#[100, 111]⟩) (.int .i64 9)).run Tryd.prog m8 = .ok () m9 ∧
    (Instr.lookup 55 (.map (some w.heap.size)) (.string (bs v)) false).run Tryd.prog m9 = .ok (.int .i64 (kindOf v)) m9 ∧ Fr nothing w m9 ∧ w.heap.size < m9.heap.size := by
  have h0 := SI.made w
  have F0 : Fr (fun j => j = w.heap.size) (w.alloc (.map #[] 0)) (w.alloc (.map #[] 0)) := Fr.refl _ _
  obtain ⟨m1, r1, h1, g1⟩ := h0.store [108, 101, 116] (by decide) 1 (by decide) (by decide) (by decide)
  have F1 := F0.trans g1
  obtain ⟨m2, r2, h2, g2⟩ := h1.store [115, 101, 116] (by decide) 2 (by decide) (by decide) (by decide)
  have F2 := F1.trans g2
  obtain ⟨m3, r3, h3, g3⟩ := h2.store [105, 102] (by decide) 3 (by decide) (by decide) (by decide)
  have F3 := F2.trans g3
  obtain ⟨m4, r4, h4, g4⟩ := h3.store [119, 104, 105, 108, 101] (by decide) 4 (by decide) (by decide) (by decide)
  have F4 := F3.trans g4
  obtain ⟨m5, r5, h5, g5⟩ := h4.store [115, 97, 121] (by decide) 5 (by decide) (by decide) (by decide)
  have F5 := F4.trans g5
  obtain ⟨m6, r6, h6, g6⟩ := h5.store [114, 101, 116, 117, 114, 110] (by decide) 6 (by decide) (by decide) (by decide)
  have F6 := F5.trans g6
  obtain ⟨m7, r7, h7, g7⟩ := h6.store [112, 117, 116, 108] (by decide) 7 (by decide) (by decide) (by decide)
  have F7 := F6.trans g7
  obtain ⟨m8, r8, h8, g8⟩ := h7.store [112, 117, 116, 114] (by decide) 8 (by decide) (by decide) (by decide)
  have F8 := F7.trans g8
  obtain ⟨m9, r9, h9, g9⟩ := h8.store [100, 111] (by decide) 9 (by decide) (by decide) (by decide)
  have F9 := F8.trans g9
  have hl := h9.look v (by omega)
  rw [show AMap.put _ _ _ = kindsA from rfl, kindsA_at] at hl
  refine ⟨m1, m2, m3, m4, m5, m6, m7, m8, m9, r1, r2, r3, r4, r5, r6, r7, r8, r9, hl, ?_, h9.lt⟩
  exact ((Fr.refl nothing w).alloc _).then F9 (fun j hj e => by omega)
end Go.Proofs.YtkmdamljhagogaaDoor
