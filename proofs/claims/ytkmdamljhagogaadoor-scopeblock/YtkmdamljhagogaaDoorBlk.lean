/- ScopeBlock: the law's walk. -/
import Derived.Test.YtkmdamljhagogaaDoorTells
import Derived.Test.YtkmdamljhagogaaDoorReads
import Derived.Test.YtkmdamljhagogaaDoorNameL
set_option maxHeartbeats 0
set_option maxRecDepth 100000
namespace Go.Proofs.YtkmdamljhagogaaDoor
open Go Go.RowKit
/-- What fns answers: the functions of a text. -/
def FOk (w : World) (s : Bs) (e : Ending) (w' : World) : Prop := ∃ (sl : Slc) (rs : List RawF), e = .returned (.slice sl.a sl.n sl.c) ∧ Fr nothing w w' ∧ Hid (Sl encG 3 w' sl.v rs ∧ Each (FnOk w' (fun k => k < w'.heap.size)) rs (pt s).1)
theorem fns_any (s : Bs) (w : World) (hE : Er w) (hT : Tab w) (hs : s.length ≤ 9223372036854775807) : Calls Tryd.prog 12 #[.string (bs s)] w (FOk w s) := by
  have HP := hide (parse_any s w hE hT hs)
  clear hE hT
  unfold FOk
  go_enter Tryd.func12, Tryd.ntmps12
  go_wp2_with (go_at_call 7; refine HP.out.mono ?_; rintro e w1 ⟨sl, rfl, hf1, hn1, rs, hs1, he1⟩; have HF1 := hide hf1; have HS1 := hide hs1; have HE1 := hide he1; clear hf1 hs1 he1 hn1)
  go_ret
  exact ⟨sl, rs, rfl, HF1.out, HS1.out, (each2 HE1.out).1⟩
theorem chk_any {s : Bs} {sl : Slc} {rs : List RawF} {w : World} (h : Hid (Sl encG 3 w sl.v rs ∧ Each (FnOk w (fun k => k < w.heap.size)) rs (pt s).1)) (hz : (pt s).2 = 0) {e : Int} (he : checkC (pt s).1 = e) :
    Calls Tryd.prog 8 #[.slice sl.a sl.n sl.c] w fun x w' => x = .returned (.int .i64 e) ∧ Fr nothing w w' := by
  subst he
  have := pt_fine hz
  exact scheck_any _ sl rs w h.out.1 h.out.2 this.1 (by omega)
abbrev a1 : Bs := [40, 109, 97, 105, 110, 32, 40, 41, 32, 40, 115, 97, 121, 32, 120, 41, 41]
abbrev a2 : Bs := [40, 109, 97, 105, 110, 32, 40, 41, 32, 40, 115, 97, 121, 32, 40, 102, 32, 49, 41, 41, 41, 40, 102, 32, 40, 120, 41, 32, 40, 114, 101, 116, 117, 114, 110, 32, 120, 41, 41]
abbrev a3 : Bs := [40, 109, 97, 105, 110, 32, 40, 120, 41, 32, 40, 115, 97, 121, 32, 120, 41, 41]
theorem a1z : (pt a1).2 = 0 := by kernel_rfl
theorem a2z : (pt a2).2 = 0 := by kernel_rfl
theorem a3z : (pt a3).2 = 0 := by kernel_rfl
theorem a1c : checkC (pt a1).1 = 6 := by kernel_rfl
theorem a2c : checkC (pt a2).1 = 0 := by kernel_rfl
theorem a3c : checkC (pt a3).1 = 10 := by kernel_rfl
theorem Er.keep {w w' : World} (h : Er w) (hf : Fr nothing w w') : Er w' := h.fr hf id id
theorem Tab.keep {w w' : World} (h : Tab w) (hf : Fr nothing w w') : Tab w' := Lib.tabBelow_of_tabIs h w' (hf.below (Nat.le_refl _) (fun _ _ => id))
theorem alive4_any (w : World) (hE : Er w) (hT : Tab w) : Calls Tryd.prog 10 #[] w fun e w' => e = .returned (.bool true) ∧ Fr nothing w w' := by
  have HE := hide hE
  have HT := hide hT
  clear hE hT
  go_enter Tryd.func10, Tryd.ntmps10
  go_wp2_with (first
    | (go_at_call 8; first
      | (refine (chk_any HR5 a3z a3c).mono ?_; rintro e w6 ⟨rfl, hf⟩; have HF6 := hide (HF5.out.trans hf); clear hf)
      | (refine (chk_any HR3 a2z a2c).mono ?_; rintro e w4 ⟨rfl, hf⟩; have HF4 := hide (HF3.out.trans hf); clear hf)
      | (refine (chk_any HR1 a1z a1c).mono ?_; rintro e w2 ⟨rfl, hf⟩; have HF2 := hide (HF1.out.trans hf); clear hf))
    | (go_at_call 12; first
      | (refine (fns_any a3 w4 (HE.out.keep HF4.out) (HT.out.keep HF4.out) (by decide)).mono ?_; rintro e w5 ⟨sl5, rs5, rfl, hf, HR5⟩; have HF5 := hide (HF4.out.trans hf); clear hf)
      | (refine (fns_any a2 w2 (HE.out.keep HF2.out) (HT.out.keep HF2.out) (by decide)).mono ?_; rintro e w3 ⟨sl3, rs3, rfl, hf, HR3⟩; have HF3 := hide (HF2.out.trans hf); clear hf)
      | (refine (fns_any a1 w HE.out HT.out (by decide)).mono ?_; rintro e w1 ⟨sl1, rs1, rfl, hf, HR1⟩; have HF1 := hide hf; clear hf)))
  go_ret
  exact ⟨rfl, HF6.out⟩
end Go.Proofs.YtkmdamljhagogaaDoor
