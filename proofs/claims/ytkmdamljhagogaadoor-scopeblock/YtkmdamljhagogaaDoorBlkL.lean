/- ScopeBlock: the law's walk, its last part. -/
import Derived.Test.YtkmdamljhagogaaDoorBlk
set_option maxHeartbeats 0
set_option maxRecDepth 100000
namespace Go.Proofs.YtkmdamljhagogaaDoor
open Go Go.RowKit
theorem bs_app (a b : Bs) : bs a ++ bs b = bs (a ++ b) := by
  apply ByteArray.ext
  apply Array.toList_inj.1
  simp [bs]
theorem e1 (v : Bs) : (⟨#[40, 109, 97, 105, 110, 32, 40, 41, 32, 40, 105, 102, 32, 49, 32, 40, 40, 108, 101, 116, 32]⟩ : ByteArray) ++ bs v ++ ⟨#[32, 49, 41, 32, 40, 115, 97, 121, 32]⟩ ++ bs v ++ ⟨#[41, 41, 32, 40, 41, 41, 32]⟩ ++ ⟨#[40, 115, 97, 121, 32]⟩ ++ bs v ++ ⟨#[41, 41]⟩ = bs (t1 v) := by
  show (bs [40, 109, 97, 105, 110, 32, 40, 41, 32, 40, 105, 102, 32, 49, 32, 40, 40, 108, 101, 116, 32] : ByteArray) ++ bs v ++ bs [32, 49, 41, 32, 40, 115, 97, 121, 32] ++ bs v ++ bs [41, 41, 32, 40, 41, 41, 32] ++ bs [40, 115, 97, 121, 32] ++ bs v ++ bs [41, 41] = _
  simp only [bs_app]
  congr 1
  simp [t1]
theorem e2 (v : Bs) : (⟨#[40, 109, 97, 105, 110, 32, 40, 41, 32, 40, 105, 102, 32, 49, 32, 40, 40, 108, 101, 116, 32]⟩ : ByteArray) ++ bs v ++ ⟨#[32, 49, 41, 32, 40, 115, 97, 121, 32]⟩ ++ bs v ++ ⟨#[41, 41, 32, 40, 41, 41, 32]⟩ ++ ⟨#[40, 108, 101, 116, 32]⟩ ++ bs v ++ ⟨#[32, 50, 41, 32, 40, 115, 97, 121, 32]⟩ ++ bs v ++ ⟨#[41, 41]⟩ = bs (t2 v) := by
  show (bs [40, 109, 97, 105, 110, 32, 40, 41, 32, 40, 105, 102, 32, 49, 32, 40, 40, 108, 101, 116, 32] : ByteArray) ++ bs v ++ bs [32, 49, 41, 32, 40, 115, 97, 121, 32] ++ bs v ++ bs [41, 41, 32, 40, 41, 41, 32] ++ bs [40, 108, 101, 116, 32] ++ bs v ++ bs [32, 50, 41, 32, 40, 115, 97, 121, 32] ++ bs v ++ bs [41, 41] = _
  simp only [bs_app]
  congr 1
  simp [t2]
theorem e3 (v o : Bs) : (⟨#[40, 109, 97, 105, 110, 32, 40, 41, 32, 40, 105, 102, 32, 49, 32, 40, 40, 108, 101, 116, 32]⟩ : ByteArray) ++ bs v ++ ⟨#[32, 49, 41, 32, 40, 115, 97, 121, 32]⟩ ++ bs v ++ ⟨#[41, 41, 32, 40, 41, 41, 32]⟩ ++ ⟨#[40, 115, 101, 116, 32]⟩ ++ bs o ++ ⟨#[32, 50, 41, 41]⟩ = bs (t3 v o) := by
  show (bs [40, 109, 97, 105, 110, 32, 40, 41, 32, 40, 105, 102, 32, 49, 32, 40, 40, 108, 101, 116, 32] : ByteArray) ++ bs v ++ bs [32, 49, 41, 32, 40, 115, 97, 121, 32] ++ bs v ++ bs [41, 41, 32, 40, 41, 41, 32] ++ bs [40, 115, 101, 116, 32] ++ bs o ++ bs [32, 50, 41, 41] = _
  simp only [bs_app]
  congr 1
  simp [t3]
theorem e4 (v : Bs) : (⟨#[40, 109, 97, 105, 110, 32, 40, 41, 32, 40, 108, 101, 116, 32]⟩ : ByteArray) ++ bs v ++ ⟨#[32, 49, 41, 32, 40, 108, 101, 116, 32]⟩ ++ bs v ++ ⟨#[32, 50, 41, 41]⟩ = bs (t4 v) := by
  show (bs [40, 109, 97, 105, 110, 32, 40, 41, 32, 40, 108, 101, 116, 32] : ByteArray) ++ bs v ++ bs [32, 49, 41, 32, 40, 108, 101, 116, 32] ++ bs v ++ bs [32, 50, 41, 41] = _
  simp only [bs_app]
  congr 1
  simp [t4]
theorem fns_eq {S : ByteArray} {s : Bs} (h : S = bs s) (w : World) (hE : Er w) (hT : Tab w) (hs : s.length ≤ 9223372036854775807) : Calls Tryd.prog 12 #[.string S] w (FOk w s) := by
  subst h
  exact fns_any s w hE hT hs
theorem tz {s : Bs} {l : List Fn} (h : refParse 1502 1502 s = (l, 0)) : (pt s).2 = 0 := by unfold pt; rw [h]
theorem tc {s : Bs} {l : List Fn} {e : Int} (h : refParse 1502 1502 s = (l, 0)) (hc : checkC l = e) : checkC (pt s).1 = e := by unfold pt; rw [h]; exact hc
theorem scopeBlock_law (S T : ByteArray) (w : World) (hE : Er w) (hT : Tab w) (hS : S.size ≤ 140737488355328) (hS2 : T.size ≤ 140737488355328) :
    Calls Tryd.prog 4 #[.string S, .string T] w fun e w' => e = .returned (.bool true) ∧ Fr nothing w w' := by
  obtain ⟨v, rfl⟩ : ∃ s, S = bs s := ⟨S.data.toList, rfl⟩
  obtain ⟨o, rfl⟩ : ∃ s, T = bs s := ⟨T.data.toList, rfl⟩
  rw [bs_size] at hS hS2
  have HE := hide hE
  have HT := hide hT
  have HAL := hide (alive4_any w hE hT)
  have HN1 := hide (fun w' => name_long v w' hS)
  have HN2 := hide (fun w' => name_long o w' hS2)
  clear hE hT
  cases hv : isName v with
  | false =>
    rw [hv] at HN1
    go_enter Tryd.func4, Tryd.ntmps4
    go_wp2_with (first
      | (go_at_call 10; refine HAL.out.mono ?_; rintro e w1 ⟨rfl, hf⟩; have HF1 := hide hf; clear hf)
      | (go_at_call 11; refine (HN1.out w1).mono ?_; rintro e w2 ⟨rfl, hf⟩; have HF2 := hide (HF1.out.trans hf); clear hf))
    go_ret
    exact ⟨rfl, HF2.out⟩
  | true =>
    rw [hv] at HN1
    cases ho : isName o with
    | false =>
      rw [ho] at HN2
      go_enter Tryd.func4, Tryd.ntmps4
      go_wp2_with (first
        | (go_at_call 10; refine HAL.out.mono ?_; rintro e w1 ⟨rfl, hf⟩; have HF1 := hide hf; clear hf)
        | (go_at_call 11; first
          | (refine (HN2.out w2).mono ?_; rintro e w3 ⟨rfl, hf⟩; have HF3 := hide (HF2.out.trans hf); clear hf)
          | (refine (HN1.out w1).mono ?_; rintro e w2 ⟨rfl, hf⟩; have HF2 := hide (HF1.out.trans hf); clear hf)))
      go_ret
      exact ⟨rfl, HF3.out⟩
    | true =>
      rw [ho] at HN2
      by_cases hvo : v = o
      · subst hvo
        have hq := bs_same v
        go_enter Tryd.func4, Tryd.ntmps4
        go_wp2_with (first
          | (go_at_call 10; refine HAL.out.mono ?_; rintro e w1 ⟨rfl, hf⟩; have HF1 := hide hf; clear hf)
          | (go_at_call 11; first
            | (refine (HN2.out w2).mono ?_; rintro e w3 ⟨rfl, hf⟩; have HF3 := hide (HF2.out.trans hf); clear hf)
            | (refine (HN1.out w1).mono ?_; rintro e w2 ⟨rfl, hf⟩; have HF2 := hide (HF1.out.trans hf); clear hf)))
        go_ret
        exact ⟨rfl, HF3.out⟩
      · have hq := bs_ne hvo
        have lv := name_len hv
        have lo := name_len ho
        have sv := bs_size v
        have so := bs_size o
        go_enter Tryd.func4, Tryd.ntmps4
        have l1 : (t1 v).length ≤ 9223372036854775807 := by simp [t1]; omega
        have l2 : (t2 v).length ≤ 9223372036854775807 := by simp [t2]; omega
        have l3 : (t3 v o).length ≤ 9223372036854775807 := by simp [t3]; omega
        have l4 : (t4 v).length ≤ 9223372036854775807 := by simp [t4]; omega
        go_wp2_with (first
          | (go_at_call 10; refine HAL.out.mono ?_; rintro e w1 ⟨rfl, hf⟩; have HF1 := hide hf; clear hf)
          | (go_at_call 11; first
            | (refine (HN2.out w2).mono ?_; rintro e w3 ⟨rfl, hf⟩; have HF3 := hide (HF2.out.trans hf); clear hf)
            | (refine (HN1.out w1).mono ?_; rintro e w2 ⟨rfl, hf⟩; have HF2 := hide (HF1.out.trans hf); clear hf))
          | (go_at_call 8; first
            | (refine (chk_any HR10 (tz (t4_at hv)) (tc (t4_at hv) (c4 v))).mono ?_; rintro e w11 ⟨rfl, hf⟩; have HF11 := hide (HF10.out.trans hf); clear hf)
            | (refine (chk_any HR8 (tz (t3_at hv ho)) (tc (t3_at hv ho) (c3 v o))).mono ?_; rintro e w9 ⟨rfl, hf⟩; have HF9 := hide (HF8.out.trans hf); clear hf)
            | (refine (chk_any HR6 (tz (t2_at hv)) (tc (t2_at hv) (c2 v))).mono ?_; rintro e w7 ⟨rfl, hf⟩; have HF7 := hide (HF6.out.trans hf); clear hf)
            | (refine (chk_any HR4 (tz (t1_at hv)) (tc (t1_at hv) (c1 v))).mono ?_; rintro e w5 ⟨rfl, hf⟩; have HF5 := hide (HF4.out.trans hf); clear hf))
          | (go_at_call 12; first
            | (refine (fns_eq (e4 v) w9 (HE.out.keep HF9.out) (HT.out.keep HF9.out) l4).mono ?_; rintro e w10 ⟨sl10, rs10, rfl, hf, HR10⟩; have HF10 := hide (HF9.out.trans hf); clear hf)
            | (refine (fns_eq (e3 v o) w7 (HE.out.keep HF7.out) (HT.out.keep HF7.out) l3).mono ?_; rintro e w8 ⟨sl8, rs8, rfl, hf, HR8⟩; have HF8 := hide (HF7.out.trans hf); clear hf)
            | (refine (fns_eq (e2 v) w5 (HE.out.keep HF5.out) (HT.out.keep HF5.out) l2).mono ?_; rintro e w6 ⟨sl6, rs6, rfl, hf, HR6⟩; have HF6 := hide (HF5.out.trans hf); clear hf)
            | (refine (fns_eq (e1 v) w3 (HE.out.keep HF3.out) (HT.out.keep HF3.out) l1).mono ?_; rintro e w4 ⟨sl4, rs4, rfl, hf, HR4⟩; have HF4 := hide (HF3.out.trans hf); clear hf)))
        go_ret
        exact ⟨rfl, HF11.out⟩
end Go.Proofs.YtkmdamljhagogaaDoor
