/- The closed fact. -/
import Derived.Test.YtbplfhjpajkcoabDoorParse
import Derived.Test.YtbplfhjpajkcoabDoorSame3
namespace Go.Proofs.YtbplfhjpajkcoabDoor
open Go.RowKit

set_option maxHeartbeats 400000 in
theorem nameFn_any (v : Bs) (w : World) (hv : v.length ≤ 1500) : Calls Tryd.prog 14 #[.string (bs v)] w fun e w' => e = .returned (.bool (isName v)) ∧ Fr nothing w w' := by
  have HC := hide (forms_any w)
  go_enter Tryd.func14, Tryd.ntmps14
  go_wp2_with (first
    | (go_at_call 16; refine HC.out.mono ?_; rintro e w1 ⟨rfl, hM, hB⟩; have HI := hide (isName_any v _ w1 hM hv); have HB := hide hB; clear hM hB)
    | (go_at_call 30; refine HI.out.mono ?_; rintro e w2 ⟨rfl, rfl⟩))
  all_goals go_ret
  exact ⟨rfl, Fr.of_below HB.out (Nat.le_refl _) nothing⟩
def aliveT : Bs := [40, 109, 97, 105, 110, 32, 40, 41, 32, 40, 108, 101, 116, 32, 120, 32, 40, 43, 32, 49, 32, 50, 41, 41, 32, 40, 115, 97, 121, 32, 120, 41, 41]
def aliveF : List Fn := [⟨[109, 97, 105, 110], [], [.mk 1 [120] [.mk 4 1 [] [.mk 1 1 [] [], .mk 1 2 [] []]] [] [], .mk 5 [] [.mk 3 0 [120] []] [] []]⟩]
theorem alive_parse : parseP MM 40 40 aliveT = .ok aliveF := by rfl
theorem ppost_ok {w : World} {fs : List Fn} {e : Ending} {w' : World} (h : PPost w (.ok fs) e w') : ∃ s : Slc, e = .returned (.tuple #[.slice s.a s.n s.c, .int .i64 0]) ∧ Fr nothing w w' ∧ ∃ rs, Sl encG 3 w' s.v rs ∧ Each (FnOk w' Tr) rs fs := by
  obtain ⟨s, z, rfl, hF, ⟨fs', h, rfl, h2⟩ | ⟨h, _⟩⟩ := h
  · cases h
    exact ⟨s, rfl, hF, h2⟩
  · cases h
theorem ppost_bad {w : World} {z : Int} {e : Ending} {w' : World} (h : PPost w (.error z) e w') : e = .returned (.tuple #[.slice none 0 0, .int .i64 z]) ∧ Fr nothing w w' ∧ z ≠ 0 := by
  obtain ⟨s, z', rfl, hF, ⟨_, h, _⟩ | ⟨h, hz, rfl⟩⟩ := h
  · cases h
  · cases h
    exact ⟨rfl, hF, hz⟩
/-- What the closed text's functions lie like. -/
theorem alive_lies {w : World} {s : Slc} {rs : List RawF} (h : Sl encG 3 w s.v rs) (he : Each (FnOk w Tr) rs aliveF) :
    ∃ (g o c : Nat) (sb : Slc) (g2 o2 : Nat), s = ⟨some ⟨g, o, none⟩, 1, c⟩ ∧ g < w.heap.size ∧ w.cell? ⟨g, o + 2, none⟩ = some (.slice (some ⟨g2, o2, none⟩) 2 sb.c) ∧ g2 < w.heap.size ∧ w.cell? ⟨g2, o2, none⟩ = some (.int .i64 1) := by
  obtain ⟨aa, an, ac⟩ := s
  have n1 : an = 1 := (sl_len h).1.trans he.1
  subst n1
  have hl : 0 < rs.length := by rw [he.1]; decide
  have h0 : rs[0]? = some rs[0] := List.getElem?_eq_getElem _
  generalize rs[0] = r at h0
  obtain ⟨g, o, rfl, d, _, _, p2⟩ := sl_elem3 (s := ⟨aa, 1, ac⟩) h h0
  have hO := he.2 0 r _ h0 rfl
  obtain ⟨rb, k1, k2⟩ := hO.b
  have hb : 0 < rb.length := by rw [k2.1]; decide
  have hb0 : rb[0]? = some rb[0] := List.getElem?_eq_getElem _
  generalize rb[0] = q at hb0
  obtain ⟨g2, o2, e2, d2, c0, _⟩ := sl_elem5 k1 hb0
  have hS := k2.2 0 q _ hb0 rfl
  have hn : r.b.n = 2 := (sl_len k1).1.trans k2.1
  rw [e2, hn] at p2
  cases hS
  exact ⟨g, o, ac, r.b, g2, o2, rfl, d, by simpa using p2, d2, by simpa using c0⟩
set_option maxHeartbeats 1000000 in
set_option maxRecDepth 20000 in
theorem alive_any (w : World) (hE : Er w) : Calls Tryd.prog 6 #[] w fun e w' => e = .returned (.bool true) ∧ Fr nothing w w' := by
  have hP := parse_any (bs aliveT) w (by decide) hE 40 40 (by decide) (by decide)
  rw [bs_list, alive_parse] at hP
  have HP := hide hP
  have hN1 := fun w' => nameFn_any [97, 98] w' (by decide)
  have hN2 := fun w' => nameFn_any [103, 111] w' (by decide)
  have hW := fun w' => isWord_any [97, 32, 98] w' (by decide)
  have e1 : isName [97, 98] = true := by rfl
  have e2 : isName [103, 111] = false := by rfl
  have e3 : isWord [97, 32, 98] = true := by rfl
  rw [e1] at hN1
  rw [e2] at hN2
  rw [e3] at hW
  have HN1 := hide hN1
  have HN2 := hide hN2
  have HW := hide hW
  clear hP hN1 hN2 hW e1 e2 e3
  go_enter Tryd.func6, Tryd.ntmps6
  go_wp2_with (first
    | (go_at_call 7; refine HP.out.mono ?_; intro e w1 hp; obtain ⟨s, rfl, hF1, rs, h1, h2⟩ := ppost_ok hp; obtain ⟨g, o, c, sb, g2, o2, rfl, d1, c2, d2, c3⟩ := alive_lies h1 h2; have HF1 := hide hF1; clear hp h1 h2 hF1)
    | (go_at_call 14; first | (refine (HN1.out _).mono ?_; rintro e w3 ⟨rfl, hf3⟩; have HF3 := hide hf3; clear hf3) | (refine (HN2.out _).mono ?_; rintro e w4 ⟨rfl, hf4⟩; have HF4 := hide hf4; clear hf4))
    | (go_at_call 15; refine (HW.out _).mono ?_; rintro e w5 ⟨rfl, hw5⟩; have HW5 := hide hw5; clear hw5))
  all_goals go_ret
  refine ⟨rfl, ?_⟩
  rw [HW5.out]
  exact (HF1.out.trans HF3.out).trans HF4.out
end Go.Proofs.YtbplfhjpajkcoabDoor
