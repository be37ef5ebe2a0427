/- One behind the other: Parse of any text, and the law where it ends ahead of the third Parse. -/
import Derived.Test.YtbplfhjpajkcoabDoorBlank
namespace Go.Proofs.YtbplfhjpajkcoabDoor
open Go.RowKit

theorem app_list (S U : ByteArray) : (S ++ U).data.toList = S.data.toList ++ U.data.toList := by simp [ByteArray.data_append]
/-- What Parse answers of any text. -/
def resP (T : ByteArray) : Except Int (List Fn) := if T.size ≤ 1500 then parseP MM 3001 3001 T.data.toList else .error 4
theorem parse_tot (T : ByteArray) (w : World) (hT : T.size ≤ 140737488355328) (hE : Er w) : Calls Tryd.prog 7 #[.string T] w (PPost w (resP T)) := by
  unfold resP
  by_cases h : T.size ≤ 1500
  · rw [if_pos h]
    exact parse_any T w h hE 3001 3001 (by omega) (by omega)
  · rw [if_neg h]
    refine (parse_long T w (by omega) (by omega)).mono ?_
    rintro e w' ⟨rfl, rfl⟩
    exact ⟨nilS, 4, rfl, Fr.refl _ _, .inr ⟨rfl, by decide, rfl⟩⟩
set_option maxHeartbeats 2000000 in
set_option maxRecDepth 20000 in
theorem joined_first (S U : ByteArray) (w : World) (z : Int) (hE : Er w) (hS : S.size ≤ 140737488355328) (hU : U.size ≤ 140737488355328) (ha : resP S = .error z) : Calls Tryd.prog 4 #[.string S, .string U] w fun e w' => e = .returned (.bool true) ∧ Fr nothing w w' := by
  have HAL := hide (alive_any w hE)
  have HE := hide hE
  clear hE
  have HPA := hide (fun (w' : World) (he : Er w') => parse_tot S w' hS he)
  have HPB := hide (fun (w' : World) (he : Er w') => parse_tot U w' hU he)
  rw [ha] at HPA
  clear ha
  go_enter Tryd.func4, Tryd.ntmps4
  go_wp2_with (go_at_call 6; refine HAL.out.mono ?_; rintro e w1 ⟨rfl, hF1⟩; have HE1 := hide (HE.out.fr hF1 id id); have HF1 := hide hF1; clear hF1)
  refine (HPA.out _ HE1.out).mono ?_
  intro e w2 hp2
  obtain ⟨rfl, hF2, hz⟩ := ppost_bad hp2
  have HF2 := hide hF2
  have HE2 := hide (HE1.out.fr hF2 id id)
  clear hp2 hF2
  go_wp2_with fail
  refine (HPB.out _ HE2.out).mono ?_
  rintro e w3 ⟨s3, z3, rfl, hF3, -⟩
  have HF3 := hide hF3
  clear hF3
  go_wp2_with fail
  all_goals go_ret
  all_goals exact ⟨rfl, (HF1.out.trans HF2.out).trans HF3.out⟩
set_option maxHeartbeats 2000000 in
set_option maxRecDepth 20000 in
theorem joined_second (S U : ByteArray) (w : World) (fa : List Fn) (z : Int) (hE : Er w) (hS : S.size ≤ 140737488355328) (hU : U.size ≤ 140737488355328) (ha : resP S = .ok fa) (hb : resP U = .error z) : Calls Tryd.prog 4 #[.string S, .string U] w fun e w' => e = .returned (.bool true) ∧ Fr nothing w w' := by
  have HAL := hide (alive_any w hE)
  have HE := hide hE
  clear hE
  have HPA := hide (fun (w' : World) (he : Er w') => parse_tot S w' hS he)
  have HPB := hide (fun (w' : World) (he : Er w') => parse_tot U w' hU he)
  rw [ha] at HPA
  rw [hb] at HPB
  clear ha hb
  go_enter Tryd.func4, Tryd.ntmps4
  go_wp2_with (go_at_call 6; refine HAL.out.mono ?_; rintro e w1 ⟨rfl, hF1⟩; have HE1 := hide (HE.out.fr hF1 id id); have HF1 := hide hF1; clear hF1)
  refine (HPA.out _ HE1.out).mono ?_
  intro e w2 hp2
  obtain ⟨s2, rfl, hF2, -⟩ := ppost_ok hp2
  have HF2 := hide hF2
  have HE2 := hide (HE1.out.fr hF2 id id)
  clear hp2 hF2
  go_wp2_with fail
  refine (HPB.out _ HE2.out).mono ?_
  intro e w3 hp3
  obtain ⟨rfl, hF3, hz⟩ := ppost_bad hp3
  have HF3 := hide hF3
  clear hF3
  go_wp2_with fail
  all_goals go_ret
  all_goals exact ⟨rfl, (HF1.out.trans HF2.out).trans HF3.out⟩
set_option maxHeartbeats 2000000 in
set_option maxRecDepth 20000 in
theorem joined_long (S U : ByteArray) (w : World) (fa fb : List Fn) (hE : Er w) (hS : S.size ≤ 140737488355328) (hU : U.size ≤ 140737488355328) (ha : resP S = .ok fa) (hb : resP U = .ok fb) (hsum : 1500 < S.size + U.size) : Calls Tryd.prog 4 #[.string S, .string U] w fun e w' => e = .returned (.bool true) ∧ Fr nothing w w' := by
  have HAL := hide (alive_any w hE)
  have HE := hide hE
  clear hE
  have HPA := hide (fun (w' : World) (he : Er w') => parse_tot S w' hS he)
  have HPB := hide (fun (w' : World) (he : Er w') => parse_tot U w' hU he)
  rw [ha] at HPA
  rw [hb] at HPB
  clear ha hb
  have i1 : (1500 : Int) < (S.size : Int) + (U.size : Int) := by omega
  go_enter Tryd.func4, Tryd.ntmps4
  go_wp2_with (go_at_call 6; refine HAL.out.mono ?_; rintro e w1 ⟨rfl, hF1⟩; have HE1 := hide (HE.out.fr hF1 id id); have HF1 := hide hF1; clear hF1)
  refine (HPA.out _ HE1.out).mono ?_
  intro e w2 hp2
  obtain ⟨s2, rfl, hF2, -⟩ := ppost_ok hp2
  have HF2 := hide hF2
  have HE2 := hide (HE1.out.fr hF2 id id)
  clear hp2 hF2
  go_wp2_with fail
  refine (HPB.out _ HE2.out).mono ?_
  intro e w3 hp3
  obtain ⟨s3, rfl, hF3, -⟩ := ppost_ok hp3
  have HF3 := hide hF3
  clear hF3
  go_wp2_with fail
  all_goals go_ret
  all_goals exact ⟨rfl, (HF1.out.trans HF2.out).trans HF3.out⟩
end Go.Proofs.YtbplfhjpajkcoabDoor
