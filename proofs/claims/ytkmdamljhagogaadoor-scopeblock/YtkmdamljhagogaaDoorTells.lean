/- ScopeTells: the law's walk. -/
import Derived.Test.YtkmdamljhagogaaDoorSCheck
set_option maxHeartbeats 0
set_option maxRecDepth 100000
namespace Go.Proofs.YtkmdamljhagogaaDoor
open Go Go.RowKit
/-- The functions that a text makes, or what is wrong. -/
def pt (s : Bs) : List Fn × Int := refParse 1502 1502 s
theorem parse_any (s : Bs) (w : World) (hE : Er w) (hT : Tab w) (hs : s.length ≤ 9223372036854775807) : Calls Tryd.prog 7 #[.string (bs s)] w (PPost w (pt s)) := by
  rcases Nat.lt_or_ge 1500 s.length with h | h
  · exact parse_long s 1502 1502 w h hs
  · exact parse_short s 1502 1502 w hE hT h (by omega) (by omega)
/-- Of a right text. -/
theorem pt_fine {s : Bs} (h : (pt s).2 = 0) : (∀ f ∈ (pt s).1, FnSh f) ∧ fnsN (pt s).1 ≤ 1500 ∧ s.length ≤ 1500 := by
  unfold pt refParse at *
  by_cases hl : 1500 < s.length
  · rw [if_pos hl] at h; cases h
  · rw [if_neg hl] at h ⊢
    unfold finP at *
    by_cases hz : (fnsP 1502 1502 s 0).z = 0
    · rw [if_pos hz] at h ⊢
      have := fns_fine 1502 1502 s hz
      exact ⟨this.1, by have := this.2; show fnsN (fnsP 1502 1502 s 0).v ≤ 1500; omega, by omega⟩
    · rw [if_neg hz] at h; exact absurd h hz
theorem each2 {w : World} {P : Nat → Prop} {rs : List RawF} {l : List Fn} (h : Each (FnOk2 w P) rs l) : Each (FnOk w P) rs l ∧ ∀ r ∈ rs, r.p.n ≤ r.p.c := by
  refine ⟨⟨h.1, fun i r x hr hx => (h.2 i r x hr hx).1⟩, fun r hr => ?_⟩
  obtain ⟨i, hi, e⟩ := List.getElem_of_mem hr
  have h1 : rs[i]? = some r := by rw [List.getElem?_eq_getElem hi, e]
  have h2 : l[i]? = some (l[i]'(h.1 ▸ hi)) := List.getElem?_eq_getElem _
  exact (h.2 i r _ h1 h2).2
theorem each_fr {w w' : World} {rs : List RawF} {l : List Fn} (h : Each (FnOk w (fun k => k < w.heap.size)) rs l) (hf : Fr nothing w w') : Each (FnOk w' (fun k => k < w'.heap.size)) rs l :=
  ⟨h.1, fun i r x hr hx => fn_stays _ _ _ _ _ _ _ (h.2 i r x hr hx) hf (fun _ _ => id) (fun _ hk => Nat.lt_of_lt_of_le hk hf.size)⟩
theorem scopeTells_law (S : ByteArray) (w : World) (hE : Er w) (hT : Tab w) (hS : S.size ≤ 140737488355328) :
    Calls Tryd.prog 3 #[.string S] w fun e w' => e = .returned (.bool true) ∧ Fr nothing w w' := by
  obtain ⟨s, rfl⟩ : ∃ s, S = bs s := ⟨S.data.toList, rfl⟩
  rw [bs_size] at hS
  have HP := hide (parse_any s w hE hT (by omega))
  have hfine := @pt_fine s
  clear hE hT
  generalize hpt : pt s = q at *
  obtain ⟨l, z⟩ := q
  simp only at hfine
  by_cases hz : z = 0
  · obtain ⟨hsh, hfn, _⟩ := hfine hz
    subst hz
    have HSH := hide hsh
    clear hpt hfine hsh
    go_enter Tryd.func3, Tryd.ntmps3
    go_wp2_with (first
      | (go_at_call 8; refine (scheck_any l sl rs w1 HS1.out (each2 HE1.out).1 HSH.out (by omega)).mono ?_; rintro e w2 ⟨rfl, hf2⟩; have HF2 := hide (HF1.out.trans hf2); have HS2 := hide (HS1.out.fr hf2 (fun _ _ => id)); have HE2 := hide (each_fr (each2 HE1.out).1 hf2); clear hf2)
      | (go_at_call 9; refine (rcheck_any l sl rs w2 HS2.out HE2.out (each2 HE1.out).2 HSH.out (by omega)).mono ?_; rintro e w3 ⟨rfl, hf3⟩; have HF3 := hide (HF2.out.trans hf3); clear hf3)
      | (go_at_call 7; refine HP.out.mono ?_; rintro e w1 ⟨sl, rfl, hf1, hn1, rs, hs1, he1⟩; have HF1 := hide hf1; have HS1 := hide hs1; have HE1 := hide he1; clear hf1 hs1 he1 hn1))
    go_ret
    exact ⟨by first | rfl | simp, HF3.out⟩
  · have hzb := ne_bne hz
    clear hpt hfine
    go_enter Tryd.func3, Tryd.ntmps3
    go_wp2_with (go_at_call 7; refine HP.out.mono ?_; rintro e w1 ⟨sl, rfl, hf1, hn1, rs, hs1, he1⟩; have HF1 := hide hf1; clear hf1 hs1 he1 hn1)
    go_ret
    exact ⟨rfl, HF1.out⟩
end Go.Proofs.YtkmdamljhagogaaDoor
