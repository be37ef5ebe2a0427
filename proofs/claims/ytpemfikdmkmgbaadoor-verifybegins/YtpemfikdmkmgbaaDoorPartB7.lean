/- FBegin; FBlaw; Low; Names; Word; Until. -/
import Derived.Test.YtpemfikdmkmgbaaDoorPartB6
import Derived.Test.YtpemfikdmkmgbaaDoorPartB1
section
/- Who begins is right, as functions (no program). -/
set_option maxHeartbeats 0
set_option maxRecDepth 100000
namespace Go.Proofs.YtpemfikdmkmgbaaDoor
/-- A height that is told stays. -/
theorem hGo_keep (ins : List In) : ∀ (f : Nat) (h : List Int) (q : List (Int × Int)) (i : Nat) (x : Int), (hGo ins f h q).2 = 0 → h[i]? = some x → 0 ≤ x → (hGo ins f h q).1[i]? = some x
  | 0, h, q, i, x, _, hi, _ => by rw [hGo]; exact hi
  | f + 1, h, [], i, x, _, hi, _ => by rw [hGo]; exact hi
  | f + 1, h, (p, n) :: q, i, x, e, hi, hx => by
    rw [hGo] at e ⊢
    split at e
    · cases e
    rename_i h1
    rw [if_neg h1]
    split at e
    · cases e
    rename_i h2
    rw [if_neg h2]
    split at e
    · rename_i h3
      rw [if_pos h3]
      exact hGo_keep ins f h q i x e hi hx
    rename_i h3
    rw [if_neg h3]
    split at e
    · cases e
    rename_i h4
    rw [if_neg h4]
    split at e
    · cases e
    rename_i h5
    rw [if_neg h5]
    refine hGo_keep ins f _ _ i x e ?_ hx
    by_cases hp : p.toNat = i
    · exfalso
      apply h3
      rw [hp]
      simp [List.getD, hi, hx]
    · rw [List.getElem?_set_ne hp]; exact hi
theorem heights_first {ins : List In} (h : (heightsC ins).2 = 0) (hl : ins.length ≠ 0) : (heightsC ins).1[0]? = some 0 := by
  unfold heightsC at h ⊢
  generalize hh : List.replicate ins.length (-1 : Int) = h0 at h ⊢
  have hlen : h0.length = ins.length := by rw [← hh, List.length_replicate]
  have hg : h0.getD 0 0 = -1 := by
    rw [← hh]
    have : (List.replicate ins.length (-1 : Int))[0]? = some (-1) := by rw [List.getElem?_replicate, if_pos (by omega)]
    simp [List.getD, this]
  rw [show 2 * ins.length + 2 = (2 * ins.length + 1) + 1 by omega] at h ⊢
  rw [hGo] at h ⊢
  have e1 : ¬ ((0 : Int) < 0 ∨ (h0.length : Int) ≤ 0) := by omega
  rw [if_neg e1] at h ⊢
  simp only [Int.toNat_zero] at h ⊢
  rw [hg] at h ⊢
  rw [if_neg (by omega), if_neg (by omega)] at h ⊢
  split at h
  · cases h
  rename_i h4
  rw [if_neg h4]
  split at h
  · cases h
  rename_i h5
  rw [if_neg h5]
  exact hGo_keep ins _ _ _ 0 0 h (by rw [List.getElem?_set_self (by omega)]) (Int.le_refl 0)
theorem frameC_at (p : Pz) (f : Fm) (q : Int × Int) {c : Cz} (h : p.cs.getD f.fn.toNat cz0 = c) : frameC p f q =
  if f.fn < 0 ∨ p.cs.length ≤ f.fn then 3
  else if f.at_ < 0 ∨ c.ins.length ≤ f.at_ ∨ (f.vars.length : Int) ≠ c.nv then 3
  else if q.1 ≠ 0 ∧ (f.at_ = 0 ∨ heightZ c (f.at_.toNat - 1) = -1 ∨ (c.ins.getD (f.at_.toNat - 1) in0).op ≠ q.1 ∨ (c.ins.getD (f.at_.toNat - 1) in0).a ≠ q.2) then 10
  else if (f.stack.length : Int) ≠ heightZ c f.at_.toNat - (if q.1 ≠ 0 then 1 else 0) then 10
  else 0 := by subst h; rfl
theorem begin_counts (idn : Int) (p : Pz) (n : Nat) (fuel cells hops : Int) (hi : 0 ≤ idn ∧ idn ≤ 1000) (h1 : 0 ≤ fuel ∧ fuel ≤ 2000) (h2 : 0 ≤ cells ∧ cells ≤ 60) (h3 : 0 ≤ hops ∧ hops ≤ 12) : countsC (newA idn p n fuel cells hops) = 0 := by
  unfold countsC newA
  simp only [List.length_singleton, List.length_nil]
  rw [if_neg (by omega), if_neg (by omega), if_neg (by omega), if_neg (by omega)]
theorem begin_agent (idn : Int) (p : Pz) (n : Nat) (fuel cells hops : Int) (hp : programC p = 0) (h0 : (p.cs[0]?).map Cz.nv = some (n : Int)) (hi : 0 ≤ idn ∧ idn ≤ 1000) (h1 : 0 ≤ fuel ∧ fuel ≤ 2000) (h2 : 0 ≤ cells ∧ cells ≤ 60) (h3 : 0 ≤ hops ∧ hops ≤ 12) (away : Bool) :
    agentC (newA idn p n fuel cells hops) away = if away then 10 else 0 := by
  have hc := begin_counts idn p n fuel cells hops hi h1 h2 h3
  have hpr := hp
  unfold programC at hpr
  split at hpr
  · rename_i hx; exact absurd hpr hx
  rename_i hx
  have hz := hed_zero (Classical.not_not.1 hx)
  have hf := fine_of hp
  obtain ⟨c, hc0, hcn⟩ := Option.map_eq_some_iff.1 h0
  have hcm : c ∈ p.cs := List.mem_of_getElem? hc0
  have hin := hz.2.2.2.2.2 c hcm
  have hh := heights_first (hf.h c hcm).1 hin.2.2.2.2.1
  have hgd : p.cs.getD 0 cz0 = c := by simp [List.getD, hc0]
  have hhz : heightZ c 0 = 0 := by simp [heightZ, List.getD, hh]
  have hpg : (newA idn p n fuel cells hops).pg = p := rfl
  have hfr : (newA idn p n fuel cells hops).fr = [⟨0, 0, List.replicate n v0, []⟩] := rfl
  have hhp : (newA idn p n fuel cells hops).hp = [] := rfl
  unfold agentC
  rw [hpg, hp, hc, hfr, hhp, if_neg (by simp), if_neg (by simp)]
  simp only [List.length_singleton, firstN]
  have hlen : ¬ ((0 : Int) < 0 ∨ (p.cs.length : Int) ≤ 0) := by have := hz.1; omega
  have hat : ¬ ((0 : Int) < 0 ∨ (c.ins.length : Int) ≤ 0 ∨ ((List.replicate n v0).length : Int) ≠ c.nv) := by rw [List.length_replicate, hcn]; omega
  cases away with
  | true =>
    have hE : frameE (newA idn p n fuel cells hops) true 0 = 10 := by
      have hw : waitC (newA idn p n fuel cells hops) 0 true = (13, 0) := rfl
      have hg : (newA idn p n fuel cells hops).fr.getD 0 fm0 = ⟨0, 0, List.replicate n v0, []⟩ := rfl
      have hC : frameC p ⟨0, 0, List.replicate n v0, []⟩ (13, 0) = 10 := by
        rw [frameC_at p ⟨0, 0, List.replicate n v0, []⟩ (13, 0) (c := c) hgd, if_neg hlen, if_neg hat, if_pos ⟨by decide, .inl rfl⟩]
      unfold frameE
      rw [hw, hg, hpg, hC]
      rfl
    rw [hE]
    rfl
  | false =>
    have hE : frameE (newA idn p n fuel cells hops) false 0 = 0 := by
      have hw : waitC (newA idn p n fuel cells hops) 0 false = (0, 0) := rfl
      have hg : (newA idn p n fuel cells hops).fr.getD 0 fm0 = ⟨0, 0, List.replicate n v0, []⟩ := rfl
      have hC : frameC p ⟨0, 0, List.replicate n v0, []⟩ (0, 0) = 0 := by
        rw [frameC_at p ⟨0, 0, List.replicate n v0, []⟩ (0, 0) (c := c) hgd, if_neg hlen, if_neg hat, if_neg (fun e => e.1 rfl)]
        refine if_neg ?_
        rw [show heightZ c (Int.toNat 0) = 0 from hhz]
        simp
      have hV : firstE (wrongV ((newA idn p n fuel cells hops).hp.length : Nat)) (List.replicate n v0) = 0 := firstE_all (fun x hx => by rw [(List.mem_replicate.1 hx).2]; rfl)
      unfold frameE
      rw [hw, hg, hpg, hC, if_neg (by simp), hV, if_neg (by simp)]
      rfl
    rw [hE]
    rfl
end Go.Proofs.YtpemfikdmkmgbaaDoor
end
section
/- VerifyBegins: the law's walk. -/
set_option maxHeartbeats 0
set_option maxRecDepth 100000
namespace Go.Proofs.YtpemfikdmkmgbaaDoor
open Go Go.RowKit
theorem wf_new (idn : Int) (p : Pz) (n : Nat) (fuel cells hops : Int) (hW : WfZ p) (hi : i64 idn) (hq : i64 fuel ∧ i64 cells ∧ i64 hops) : WfA (newA idn p n fuel cells hops) := by
  have hz : i64 0 := ⟨by decide, by decide⟩
  refine ⟨hW, fun f hf => ?_, fun c hc => (by cases hc), ⟨hi, hz, hq.1, hq.2.1, hq.2.2⟩, ⟨by simp [newA], by simp [newA]⟩⟩
  simp only [newA, List.mem_singleton] at hf
  subst hf
  refine ⟨hz, hz, fun v hv => ?_, fun v hv => (by cases hv)⟩
  rw [(List.mem_replicate.1 hv).2]
  exact ⟨hz, hz, by simp⟩
/-- An agent in a block of its own. -/
theorem newbox (a : Ag) (sc sw sf sh : Slc) (w5 : World) : ∃ w6, w5.alloc (.cells (agC a sc sw sf sh) 31) = w6 ∧ Fr nothing w5 w6 ∧ ∀ w', Fr nothing w6 w' → (w'.cell? ⟨w5.heap.size, 0, none⟩ = some (.int .i64 a.id) ∧ w'.cell? ⟨w5.heap.size, 1, none⟩ = some (.int .i64 a.trip) ∧ w'.cell? ⟨w5.heap.size, 2, none⟩ = some (.slice sc.a sc.n sc.c) ∧ w'.cell? ⟨w5.heap.size, 3, none⟩ = some (.slice sw.a sw.n sw.c) ∧ w'.cell? ⟨w5.heap.size, 4, none⟩ = some (.slice sf.a sf.n sf.c)) ∧ (w'.cell? ⟨w5.heap.size, 5, none⟩ = some (.slice sh.a sh.n sh.c) ∧ w'.cell? ⟨w5.heap.size, 6, none⟩ = some (.int .i64 a.fuel) ∧ w'.cell? ⟨w5.heap.size, 7, none⟩ = some (.int .i64 a.cells) ∧ w'.cell? ⟨w5.heap.size, 8, none⟩ = some (.int .i64 a.hops)) ∧ w5.heap.size < w'.heap.size := by
  refine ⟨_, rfl, (Fr.refl _ _).alloc _, fun w' hf => ?_⟩
  have m := made_cells hf id
  exact ⟨⟨m.1 0, m.1 1, m.1 2, m.1 3, m.1 4⟩, ⟨m.1 5, m.1 6, m.1 7, m.1 8⟩, m.2.2⟩
theorem begins_law (p : Pz) (sc sw : Slc) (idn fuel cells hops : Int) (w : World) (hP : PzOk w sc sw p) (hW : WfZ p) (hi : i64 idn) (hq : i64 fuel ∧ i64 cells ∧ i64 hops)
    (hal : ∀ w1, Fr nothing w w1 → Calls Tryd.prog 5 #[] w1 fun e w' => e = .returned (.bool true) ∧ Fr nothing w1 w') :
    Calls Tryd.prog 4 #[.agg #[.slice sc.a sc.n sc.c, .slice sw.a sw.n sw.c], .int .i64 idn, .agg #[.int .i64 fuel, .int .i64 cells, .int .i64 hops]] w fun e w' => e = .returned (.bool true) ∧ Fr nothing w w' := by
  have FA : Fr nothing w (w.alloc (.cells #[.slice sc.a sc.n sc.c, .slice sw.a sw.n sw.c] 25)) := (Fr.refl _ _).alloc _
  obtain ⟨w1, hw1⟩ : ∃ x, x = w.alloc (.cells #[.slice sc.a sc.n sc.c, .slice sw.a sw.n sw.c] 25) := ⟨_, rfl⟩
  rw [← hw1] at FA
  have FB : Fr nothing w1 (w1.alloc (.cells #[.int .i64 fuel, .int .i64 cells, .int .i64 hops] 29)) := (Fr.refl _ _).alloc _
  obtain ⟨w2, hw2⟩ : ∃ x, x = w1.alloc (.cells #[.int .i64 fuel, .int .i64 cells, .int .i64 hops] 29) := ⟨_, rfl⟩
  rw [← hw2] at FB
  have z1 : w1.heap.size = w.heap.size + 1 := by rw [hw1]; simp
  have ma := made_cells (w := w) (cs := #[.slice sc.a sc.n sc.c, .slice sw.a sw.n sw.c]) (t := 25) (w1 := w2) (S := nothing) (by rw [← hw1]; exact FB) id
  have mb := made_cells (w := w1) (cs := #[.int .i64 fuel, .int .i64 cells, .int .i64 hops]) (t := 29) (w1 := w2) (S := nothing) (by rw [← hw2]; exact Fr.refl _ _) id
  rw [z1] at mb
  have F2 := FA.trans FB
  have HB : Hid (∀ w', Fr nothing w2 w' → (w'.cell? ⟨w.heap.size, 0, none⟩ = some (.slice sc.a sc.n sc.c) ∧ w'.cell? ⟨w.heap.size, 1, none⟩ = some (.slice sw.a sw.n sw.c) ∧ w.heap.size < w'.heap.size) ∧ (w'.cell? ⟨w.heap.size + 1, 0, none⟩ = some (.int .i64 fuel) ∧ w'.cell? ⟨w.heap.size + 1, 1, none⟩ = some (.int .i64 cells) ∧ w'.cell? ⟨w.heap.size + 1, 2, none⟩ = some (.int .i64 hops) ∧ w.heap.size + 1 < w'.heap.size)) := fun w' hf =>
    ⟨⟨(hf.cell (p := ⟨w.heap.size, 0, none⟩) ma.2.2 id).trans (ma.1 0), (hf.cell (p := ⟨w.heap.size, 1, none⟩) ma.2.2 id).trans (ma.1 1), Nat.lt_of_lt_of_le ma.2.2 hf.size⟩, (hf.cell (p := ⟨w.heap.size + 1, 0, none⟩) mb.2.2 id).trans (mb.1 0), (hf.cell (p := ⟨w.heap.size + 1, 1, none⟩) mb.2.2 id).trans (mb.1 1), (hf.cell (p := ⟨w.heap.size + 1, 2, none⟩) mb.2.2 id).trans (mb.1 2), Nat.lt_of_lt_of_le mb.2.2 hf.size⟩
  have HAL := hide (hal w2 F2)
  have HF2 := hide F2
  have HPP := hide hP
  have HPR : Hid (∀ w3, Fr nothing w2 w3 → Calls Tryd.prog 10 #[.agg #[.slice sc.a sc.n sc.c, .slice sw.a sw.n sw.c]] w3 fun e w' => e = .returned (.int .i64 (programC p)) ∧ Fr nothing w3 w') := fun w3 hf => vProgram_any p sc sw w3 (hP.fr (F2.trans hf)) hW
  have HW := hide hW
  have e1' := hw1.symm
  have e2' := hw2.symm
  have hbg := begin_agent idn p
  have hcs : programC p = 0 → ∃ n : Nat, n ≤ 8 ∧ (p.cs[0]?).map Cz.nv = some (n : Int) := fun h => by
    unfold programC at h
    split at h
    · rename_i hx; exact absurd h hx
    rename_i hx
    have hz := hed_zero (Classical.not_not.1 hx)
    have h0 : p.cs[0]? = some (p.cs[0]'(by have := hz.1; omega)) := List.getElem?_eq_getElem _
    have hc := hz.2.2.2.2.2 _ (List.mem_of_getElem? h0)
    exact ⟨(p.cs[0]'(by have := hz.1; omega)).nv.toNat, by omega, by rw [h0]; simp only [Option.map_some]; congr 1; omega⟩
  obtain ⟨pe, hpe⟩ : ∃ x, programC p = x := ⟨_, rfl⟩
  rw [hpe] at HPR hbg hcs
  clear FA FB ma mb F2 hw1 hw2 hal hP hW hpe
  by_cases h0 : pe ≠ 0
  · have h0b : (pe != 0) = true := by simpa using h0
    clear hbg hcs
    go_enter Tryd.func4, Tryd.ntmps4
    go_wp2_with (first | (go_at_call 10; refine (HPR.out w3 HF3.out).mono ?_; rintro e w4 ⟨rfl, hf4⟩; have HF4 := hide (HF3.out.trans hf4); obtain ⟨⟨y0, y1, yl⟩, y2, y3, y4, yk⟩ := HB.out w4 HF4.out; clear hf4) | (go_at_call 5; refine HAL.out.mono ?_; rintro e w3 ⟨rfl, hf3⟩; have HF3 := hide hf3; obtain ⟨⟨x0, x1, xl⟩, -⟩ := HB.out w3 hf3; clear hf3))
    go_ret
    exact ⟨rfl, HF2.out.trans HF4.out⟩
  have h0 : pe = 0 := Classical.not_not.1 h0
  subst h0
  by_cases c1 : idn < 0
  · skip
    clear hbg hcs
    go_enter Tryd.func4, Tryd.ntmps4
    go_wp2_with (first | (go_at_call 10; refine (HPR.out w3 HF3.out).mono ?_; rintro e w4 ⟨rfl, hf4⟩; have HF4 := hide (HF3.out.trans hf4); obtain ⟨⟨y0, y1, yl⟩, y2, y3, y4, yk⟩ := HB.out w4 HF4.out; clear hf4) | (go_at_call 5; refine HAL.out.mono ?_; rintro e w3 ⟨rfl, hf3⟩; have HF3 := hide hf3; obtain ⟨⟨x0, x1, xl⟩, -⟩ := HB.out w3 hf3; clear hf3))
    go_ret
    exact ⟨rfl, HF2.out.trans HF4.out⟩
  by_cases c2 : 1000 < idn
  · skip
    clear hbg hcs
    go_enter Tryd.func4, Tryd.ntmps4
    go_wp2_with (first | (go_at_call 10; refine (HPR.out w3 HF3.out).mono ?_; rintro e w4 ⟨rfl, hf4⟩; have HF4 := hide (HF3.out.trans hf4); obtain ⟨⟨y0, y1, yl⟩, y2, y3, y4, yk⟩ := HB.out w4 HF4.out; clear hf4) | (go_at_call 5; refine HAL.out.mono ?_; rintro e w3 ⟨rfl, hf3⟩; have HF3 := hide hf3; obtain ⟨⟨x0, x1, xl⟩, -⟩ := HB.out w3 hf3; clear hf3))
    go_ret
    exact ⟨rfl, HF2.out.trans HF4.out⟩
  by_cases c3 : fuel < 0
  · skip
    clear hbg hcs
    go_enter Tryd.func4, Tryd.ntmps4
    go_wp2_with (first | (go_at_call 10; refine (HPR.out w3 HF3.out).mono ?_; rintro e w4 ⟨rfl, hf4⟩; have HF4 := hide (HF3.out.trans hf4); obtain ⟨⟨y0, y1, yl⟩, y2, y3, y4, yk⟩ := HB.out w4 HF4.out; clear hf4) | (go_at_call 5; refine HAL.out.mono ?_; rintro e w3 ⟨rfl, hf3⟩; have HF3 := hide hf3; obtain ⟨⟨x0, x1, xl⟩, -⟩ := HB.out w3 hf3; clear hf3))
    go_ret
    exact ⟨rfl, HF2.out.trans HF4.out⟩
  by_cases c4 : 2000 < fuel
  · skip
    clear hbg hcs
    go_enter Tryd.func4, Tryd.ntmps4
    go_wp2_with (first | (go_at_call 10; refine (HPR.out w3 HF3.out).mono ?_; rintro e w4 ⟨rfl, hf4⟩; have HF4 := hide (HF3.out.trans hf4); obtain ⟨⟨y0, y1, yl⟩, y2, y3, y4, yk⟩ := HB.out w4 HF4.out; clear hf4) | (go_at_call 5; refine HAL.out.mono ?_; rintro e w3 ⟨rfl, hf3⟩; have HF3 := hide hf3; obtain ⟨⟨x0, x1, xl⟩, -⟩ := HB.out w3 hf3; clear hf3))
    go_ret
    exact ⟨rfl, HF2.out.trans HF4.out⟩
  by_cases c5 : cells < 0
  · skip
    clear hbg hcs
    go_enter Tryd.func4, Tryd.ntmps4
    go_wp2_with (first | (go_at_call 10; refine (HPR.out w3 HF3.out).mono ?_; rintro e w4 ⟨rfl, hf4⟩; have HF4 := hide (HF3.out.trans hf4); obtain ⟨⟨y0, y1, yl⟩, y2, y3, y4, yk⟩ := HB.out w4 HF4.out; clear hf4) | (go_at_call 5; refine HAL.out.mono ?_; rintro e w3 ⟨rfl, hf3⟩; have HF3 := hide hf3; obtain ⟨⟨x0, x1, xl⟩, -⟩ := HB.out w3 hf3; clear hf3))
    go_ret
    exact ⟨rfl, HF2.out.trans HF4.out⟩
  by_cases c6 : 60 < cells
  · skip
    clear hbg hcs
    go_enter Tryd.func4, Tryd.ntmps4
    go_wp2_with (first | (go_at_call 10; refine (HPR.out w3 HF3.out).mono ?_; rintro e w4 ⟨rfl, hf4⟩; have HF4 := hide (HF3.out.trans hf4); obtain ⟨⟨y0, y1, yl⟩, y2, y3, y4, yk⟩ := HB.out w4 HF4.out; clear hf4) | (go_at_call 5; refine HAL.out.mono ?_; rintro e w3 ⟨rfl, hf3⟩; have HF3 := hide hf3; obtain ⟨⟨x0, x1, xl⟩, -⟩ := HB.out w3 hf3; clear hf3))
    go_ret
    exact ⟨rfl, HF2.out.trans HF4.out⟩
  by_cases c7 : hops < 0
  · skip
    clear hbg hcs
    go_enter Tryd.func4, Tryd.ntmps4
    go_wp2_with (first | (go_at_call 10; refine (HPR.out w3 HF3.out).mono ?_; rintro e w4 ⟨rfl, hf4⟩; have HF4 := hide (HF3.out.trans hf4); obtain ⟨⟨y0, y1, yl⟩, y2, y3, y4, yk⟩ := HB.out w4 HF4.out; clear hf4) | (go_at_call 5; refine HAL.out.mono ?_; rintro e w3 ⟨rfl, hf3⟩; have HF3 := hide hf3; obtain ⟨⟨x0, x1, xl⟩, -⟩ := HB.out w3 hf3; clear hf3))
    go_ret
    exact ⟨rfl, HF2.out.trans HF4.out⟩
  by_cases c8 : 12 < hops
  · skip
    clear hbg hcs
    go_enter Tryd.func4, Tryd.ntmps4
    go_wp2_with (first | (go_at_call 10; refine (HPR.out w3 HF3.out).mono ?_; rintro e w4 ⟨rfl, hf4⟩; have HF4 := hide (HF3.out.trans hf4); obtain ⟨⟨y0, y1, yl⟩, y2, y3, y4, yk⟩ := HB.out w4 HF4.out; clear hf4) | (go_at_call 5; refine HAL.out.mono ?_; rintro e w3 ⟨rfl, hf3⟩; have HF3 := hide hf3; obtain ⟨⟨x0, x1, xl⟩, -⟩ := HB.out w3 hf3; clear hf3))
    go_ret
    exact ⟨rfl, HF2.out.trans HF4.out⟩
  obtain ⟨n, hn8, hn0⟩ := hcs rfl
  have hbf := hbg n fuel cells hops rfl hn0 (by omega) (by omega) (by omega) (by omega) false
  have hbt := hbg n fuel cells hops rfl hn0 (by omega) (by omega) (by omega) (by omega) true
  simp only [Bool.false_eq_true, if_false, if_true] at hbf hbt
  have HNW : Hid (∀ w4, Fr nothing w2 w4 → Calls Tryd.prog 11 #[.int .i64 idn, .agg #[.slice sc.a sc.n sc.c, .slice sw.a sw.n sw.c], .agg #[.int .i64 fuel, .int .i64 cells, .int .i64 hops]] w4 fun e w' => ∃ sf : Slc, e = .returned (.agg (agC (newA idn p n fuel cells hops) sc sw sf nilS)) ∧ Fr nothing w4 w' ∧ AgOk w' sc sw sf nilS (newA idn p n fuel cells hops)) := fun w4 hf =>
    new_any idn p n fuel cells hops sc sw w4 (HPP.out.fr (HF2.out.trans hf)) hn8 hn0
  have HVA : Hid (∀ (sf : Slc) (w5 : World), AgOk w5 sc sw sf nilS (newA idn p n fuel cells hops) → ∀ (away : Bool) (w6 : World), Fr nothing w5 w6 → Calls Tryd.prog 6 #[.agg (agC (newA idn p n fuel cells hops) sc sw sf nilS), .bool away] w6 fun e w' => e = .returned (.int .i64 (agentC (newA idn p n fuel cells hops) away)) ∧ Fr nothing w6 w') := fun sf w5 ha away w6 hf =>
    vAgent_any (newA idn p n fuel cells hops) sc sw sf nilS away w6 (ha.fr' hf) (wf_new idn p n fuel cells hops HW.out hi hq)
  clear hbg hcs hn0
  go_enter Tryd.func4, Tryd.ntmps4
  go_wp2_with (first | (go_at_call 6; refine (HAG.out true w7 (HF6.out.trans HF7.out)).mono ?_; rintro e w8 ⟨rfl, hf8⟩; rw [hbt]; have HF8 := hide (HF7.out.trans hf8); clear hf8) | (go_at_call 6; refine (HAG.out false w6 HF6.out).mono ?_; rintro e w7 ⟨rfl, hf7⟩; rw [hbf]; have HF7 := hide hf7; obtain ⟨⟨v0, v1, v2, v3, v4⟩, ⟨v5, v6, v7, v8⟩, vl⟩ := HBX.out w7 hf7; clear hf7) | (go_at_call 11; refine (HNW.out w4 HF4.out).mono ?_; rintro e w5 ⟨sf, rfl, hf5, hag⟩; obtain ⟨w6, hw6, hf6, hbx⟩ := newbox (newA idn p n fuel cells hops) sc sw sf nilS w5; have HF6 := hide hf6; have HBX := hide hbx; obtain ⟨⟨u0, u1, u2, u3, u4⟩, ⟨u5, u6, u7, u8⟩, ul⟩ := hbx w6 (Fr.refl _ _); have HAG := hide (HVA.out sf w5 hag); have HF5 := hide (HF4.out.trans hf5); clear hf5 hag hf6 hbx) | (go_at_call 10; refine (HPR.out w3 HF3.out).mono ?_; rintro e w4 ⟨rfl, hf4⟩; have HF4 := hide (HF3.out.trans hf4); obtain ⟨⟨y0, y1, yl⟩, y2, y3, y4, yk⟩ := HB.out w4 HF4.out; clear hf4) | (go_at_call 5; refine HAL.out.mono ?_; rintro e w3 ⟨rfl, hf3⟩; have HF3 := hide hf3; obtain ⟨⟨x0, x1, xl⟩, -⟩ := HB.out w3 hf3; clear hf3))
  go_ret
  exact ⟨rfl, HF2.out.trans (HF5.out.trans (HF6.out.trans HF8.out))⟩
end Go.Proofs.YtpemfikdmkmgbaaDoor
end
section
/- The reader of the document's own answer: what is wrong, what stands next, brackets. -/
namespace Go.Proofs.YtpemfikdmkmgbaaDoor
open Go.RowKit

/-- The reader at block rb has l left, and z is wrong. -/
structure Pr (rb : Nat) (l : Bs) (z : Int) (w : World) : Prop where
  s : w.cell? ⟨rb, 0, none⟩ = some (.string (bs l))
  e : w.cell? ⟨rb, 1, none⟩ = some (.int .i64 z)
  f0 : w.frozen? ⟨rb, 0, none⟩ = false
  f1 : w.frozen? ⟨rb, 1, none⟩ = false
  lt : rb < w.heap.size
theorem Pr.fr {rb : Nat} {l : Bs} {z : Int} {w w' : World} {S : Nat → Prop} (h : Pr rb l z w) (hf : Fr S w w') (hs : ¬ S rb) : Pr rb l z w' :=
  ⟨(hf.cell (p := ⟨rb, 0, none⟩) h.lt hs).trans h.s, (hf.cell (p := ⟨rb, 1, none⟩) h.lt hs).trans h.e, (hf.frozen (p := ⟨rb, 0, none⟩) h.lt hs).trans h.f0, (hf.frozen (p := ⟨rb, 1, none⟩) h.lt hs).trans h.f1, Nat.lt_of_lt_of_le h.lt hf.size⟩
theorem Pr.drew {rb : Nat} {l : Bs} {z : Int} {w : World} (h : Pr rb l z w) : Pr rb l z w.drew := ⟨h.s, h.e, h.f0, h.f1, h.lt⟩
theorem Pr.put {rb : Nat} {l : Bs} {z : Int} {w : World} (h : Pr rb l z w) (l' : Bs) : Pr rb l' z (w.setCell ⟨rb, 0, none⟩ (.string (bs l'))) where
  s := World.cell?_setCell_same _ _ _ h.s
  e := (World.cell?_setCell_other w ⟨rb, 0, none⟩ ⟨rb, 1, none⟩ _ (by simp)).trans h.e
  f0 := by rw [World.frozen?_setCell]; exact h.f0
  f1 := by rw [World.frozen?_setCell]; exact h.f1
  lt := by have := h.lt; simpa [World.setCell] using this
theorem Pr.put' {rb : Nat} {l l' : Bs} {z : Int} {w : World} {S : ByteArray} (h : Pr rb l z w) (hS : S = bs l') : Pr rb l' z (w.setCell ⟨rb, 0, none⟩ (.string S)) := hS ▸ h.put l'
theorem Pr.err {rb : Nat} {l : Bs} {z : Int} {w : World} (h : Pr rb l z w) (z' : Int) : Pr rb l z' (w.setCell ⟨rb, 1, none⟩ (.int .i64 z')) where
  s := (World.cell?_setCell_other w ⟨rb, 1, none⟩ ⟨rb, 0, none⟩ _ (by simp)).trans h.s
  e := World.cell?_setCell_same _ _ _ h.e
  f0 := by rw [World.frozen?_setCell]; exact h.f0
  f1 := by rw [World.frozen?_setCell]; exact h.f1
  lt := by have := h.lt; simpa [World.setCell] using this
theorem Pr.unique {rb : Nat} {l l' : Bs} {z z' : Int} {w : World} (h : Pr rb l z w) (h' : Pr rb l' z' w) : l = l' ∧ z = z' := by
  have h1 := h.s.symm.trans h'.s
  have h2 := h.e.symm.trans h'.e
  simp only [Option.some.injEq, Value.string.injEq, Value.int.injEq, true_and] at h1 h2
  refine ⟨?_, h2⟩
  have := congrArg (fun a => a.data.toList) h1
  exact this
abbrev at_ (rb : Nat) : Nat → Prop := fun k => k = rb
/-- How much the reader at rb has left. -/
def lenOf (w : World) (rb : Nat) : Nat :=
  match w.cell? ⟨rb, 0, none⟩ with
  | some (.string s) => s.size
  | _ => 0
theorem Pr.lenOf {rb : Nat} {l : Bs} {z : Int} {w : World} (h : Pr rb l z w) : lenOf w rb = l.length := by
  simp [Go.Proofs.YtpemfikdmkmgbaaDoor.lenOf, h.s, bs_size]
theorem bs_extract (T : ByteArray) (a b : Nat) : T.extract a b = bs ((T.data.toList.drop a).take (b - a)) := by
  apply ByteArray.ext
  apply Array.toList_inj.1
  simp [bs, ByteArray.data_extract, List.extract_eq_take_drop]
theorem bs_tail (c : UInt8) (t : Bs) {b : Nat} (hb : t.length + 1 ≤ b) : (bs (c :: t)).extract 1 b = bs t := by
  rw [bs_extract, bs_list]
  congr 1
  simp only [List.drop_succ_cons, List.drop_zero]
  exact List.take_of_length_le (by omega)
theorem u8_is (c d : UInt8) (n : Int) (h : (d.toNat : Int) = n) : ((c.toNat : Int) == n) = (c == d) := by
  rw [Bool.eq_iff_iff]
  simp only [beq_iff_eq]
  constructor
  · intro h2
    exact UInt8.toNat_inj.1 (by omega)
  · rintro rfl
    exact h
theorem is32 (c : UInt8) : ((c.toNat : Int) == 32) = (c == 32) := u8_is c 32 32 rfl
theorem is10 (c : UInt8) : ((c.toNat : Int) == 10) = (c == 10) := u8_is c 10 10 rfl
theorem is40 (c : UInt8) : ((c.toNat : Int) == 40) = (c == 40) := u8_is c 40 40 rfl
theorem is41 (c : UInt8) : ((c.toNat : Int) == 41) = (c == 41) := u8_is c 41 41 rfl
theorem is39 (c : UInt8) : ((c.toNat : Int) == 39) = (c == 39) := u8_is c 39 39 rfl
theorem is0 (c : UInt8) : ((c.toNat : Int) == 0) = (c == 0) := u8_is c 0 0 rfl
theorem skip_cons {c : UInt8} {t : Bs} (h : blank c = true) : skip (c :: t) = skip t := by simp [skip, h]
theorem skip_stop {c : UInt8} {t : Bs} (h : blank c = false) : skip (c :: t) = c :: t := by simp [skip, h]
theorem peek_step {rb : Nat} {l : Bs} {z : Int} {w wr : World} {c : UInt8} {t : Bs} {S : ByteArray} (hR : skip (c :: t) = skip l ∧ Pr rb (c :: t) z wr ∧ Fr (at_ rb) w wr) (hS : S = bs t) (hb : blank c = true) (hl : (c :: t).length ≤ 1500) :
    (∃ m, m.length ≤ 1500 ∧ Hid (skip m = skip l ∧ Pr rb m z (wr.setCell ⟨rb, 0, none⟩ (.string S)) ∧ Fr (at_ rb) w (wr.setCell ⟨rb, 0, none⟩ (.string S)))) ∧ lenOf (wr.setCell ⟨rb, 0, none⟩ (.string S)) rb < lenOf wr rb := by
  have h1 := hR.2.1.put' hS
  refine ⟨⟨t, by simp at hl; omega, (skip_cons hb).symm.trans hR.1, h1, hR.2.2.setCell (p := ⟨rb, 0, none⟩) (.inl rfl) _⟩, ?_⟩
  rw [h1.lenOf, hR.2.1.lenOf]
  simp
set_option maxHeartbeats 400000 in
theorem peek_any (rb : Nat) (l : Bs) (z : Int) (w : World) (h : Pr rb l z w) (hl : l.length ≤ 1500) :
    Calls Tryd.prog 41 #[.pointer (some ⟨rb, 0, none⟩)] w fun e w' => e = .returned (.int .u8 (peekC (skip l)).toNat) ∧ Pr rb (skip l) z w' ∧ Fr (at_ rb) w w' := by
  go_enter Tryd.func41, Tryd.ntmps41
  go_wp2
  go_loopw [] (fun wr => ∃ m : Bs, m.length ≤ 1500 ∧ Hid (skip m = skip l ∧ Pr rb m z wr ∧ Fr (at_ rb) w wr)) (fun wr => lenOf wr rb)
  case atStart => exact ⟨l, hl, rfl, h, Fr.refl _ _⟩
  case round =>
    obtain ⟨m, hm, hR⟩ := hrel
    have c0 := hR.out.2.1.s
    have fz := hR.out.2.1.f0
    have hlt := hR.out.2.1.lt
    clear h
    have hsz := bs_size m
    cases m with
    | nil =>
      have hz : ¬ (0 : Int) < ((bs []).size : Int) := by simp [bs_size]
      go_wp2
      go_ret
      have h1 := hR.out.1
      refine ⟨?_, ?_, hR.out.2.2⟩
      · rw [← h1]; rfl
      · rw [← h1]; exact hR.out.2.1
    | cons c t =>
      have hz' : 0 < (bs (c :: t)).size := by rw [hsz]; simp
      have hz : (0 : Int) < ((bs (c :: t)).size : Int) := by omega
      have hc : (bs (c :: t))[0]'hz' = c := rfl
      have hz1 : (1 : Int) ≤ ((bs (c :: t)).size : Int) := by omega
      have hne : ¬ ((bs (c :: t)).size : Int) = 0 := by omega
      have h32 := is32 c
      have h10 := is10 c
      have h0 := is0 c
      by_cases hb : c == 32
      · rw [hb] at h32
        have hbl := hide (show blank c = true by simp [blank, hb])
        go_wp2
        exact peek_step hR.out (bs_tail c t (Nat.le_refl _)) hbl.out hm
      · have hb0 : (c == 32) = false := by simpa using hb
        rw [hb0] at h32
        by_cases hb2 : c == 10
        · rw [hb2] at h10
          have hbl := hide (show blank c = true by simp [blank, hb2])
          go_wp2
          exact peek_step hR.out (bs_tail c t (Nat.le_refl _)) hbl.out hm
        · have hb3 : (c == 10) = false := by simpa using hb2
          rw [hb3] at h10
          have hbl := hide (show blank c = false by simp [blank, hb0, hb3])
          by_cases hb4 : c == 0
          · rw [hb4] at h0
            go_wp2
            go_ret
            have h1 := (skip_stop (t := t) hbl.out).symm.trans hR.out.1
            refine ⟨?_, ?_, hR.out.2.2⟩
            · rw [← h1]
              have : c = 0 := by simpa using hb4
              simp [peekC, this]
            · rw [← h1]; exact hR.out.2.1
          · have hb5 : (c == 0) = false := by simpa using hb4
            rw [hb5] at h0
            go_wp2
            go_ret
            have h1 := (skip_stop (t := t) hbl.out).symm.trans hR.out.1
            refine ⟨?_, ?_, hR.out.2.2⟩
            · rw [← h1]
              have : ¬ c = 0 := by simpa using hb4
              simp [peekC, this]
            · rw [← h1]; exact hR.out.2.1
set_option maxHeartbeats 400000 in
theorem bad_any (rb : Nat) (l : Bs) (z e : Int) (w : World) (h : Pr rb l z w) :
    Calls Tryd.prog 54 #[.pointer (some ⟨rb, 0, none⟩), .int .i64 e] w fun r w' => r = .returned (.tuple #[]) ∧ Pr rb l (bad z e) w' ∧ Fr (at_ rb) w w' := by
  have c1 := h.e
  have f1 := h.f1
  have hlt := h.lt
  have H := hide h
  clear h
  by_cases hz : z = 0
  · have hb : Hid (bad z e = e) := by rw [hz]; rfl
    go_enter Tryd.func54, Tryd.ntmps54
    go_wp2
    go_end0
    refine ⟨rfl, ?_, (Fr.refl (at_ rb) w).setCell (p := ⟨rb, 1, none⟩) (.inl rfl) _⟩
    rw [hb.out]
    exact H.out.err e
  · have hb : Hid (bad z e = z) := bad_of hz
    go_enter Tryd.func54, Tryd.ntmps54
    go_wp2
    go_end0
    refine ⟨rfl, ?_, Fr.refl _ _⟩
    rw [hb.out]
    exact H.out
theorem peekC_nil : peekC [] = 0 := rfl
theorem peekC_ne {d : UInt8} {t : Bs} : peekC (d :: t) ≠ 0 := by
  unfold peekC; dsimp only; split
  · decide
  · assumption
theorem peekC_is {c d : UInt8} {t : Bs} (hc : c ≠ 0 ∧ c ≠ 1) : (peekC (d :: t) = c) = (d = c) := by
  unfold peekC; dsimp only; split
  · rename_i h; subst h
    exact propext ⟨fun h => absurd h.symm hc.2, fun h => absurd h.symm hc.1⟩
  · rfl
theorem u8_ne {c d : UInt8} (h : c ≠ d) : ((c.toNat : Int) == (d.toNat : Int)) = false := by rw [u8_is c d _ rfl]; simpa using h
set_option maxHeartbeats 400000 in
theorem must_any (rb : Nat) (l : Bs) (z : Int) (c : UInt8) (w : World) (h : Pr rb l z w) (hl : l.length ≤ 1500) (hc : c ≠ 0 ∧ c ≠ 1) :
    Calls Tryd.prog 42 #[.pointer (some ⟨rb, 0, none⟩), .int .u8 c.toNat] w fun r w' => r = .returned (.tuple #[]) ∧ Pr rb (must c l z).l (must c l z).z w' ∧ Fr (at_ rb) w w' := by
  have HP := hide (peek_any rb l z w h hl)
  have hsl := skip_len l
  cases hs : skip l with
  | nil =>
    have e1 : must c l z = ⟨(), [], bad z 8⟩ := by unfold must; rw [hs]
    rw [e1]
    rw [hs, show ((peekC []).toNat : Int) = 0 from rfl] at HP
    have hne : ((0 : Int) == (c.toNat : Int)) = false := u8_ne (c := 0) (fun e => hc.1 e.symm)
    clear h hs e1
    go_enter Tryd.func42, Tryd.ntmps42
    go_wp2_with (first
      | (go_at_call 41; refine HP.out.mono ?_; rintro e w1 ⟨rfl, hp, hf⟩; have HB := hide (bad_any rb [] z 8 w1 hp); have HF := hide hf; clear hp hf)
      | (go_at_call 54; refine HB.out.mono ?_; rintro e w2 ⟨rfl, hp, hf⟩; have HP2 := hide hp; have HF2 := hide hf; clear hp hf))
    all_goals go_end0
    all_goals exact ⟨rfl, HP2.out, HF.out.trans HF2.out⟩
  | cons d t =>
    rw [hs] at HP hsl
    simp at hsl
    by_cases hd : d = c
    · have e1 : must c l z = ⟨(), t, z⟩ := by unfold must; rw [hs]; simp [hd]
      rw [e1]
      subst hd
      have e2 : peekC (d :: t) = d := by rw [peekC_is hc]
      rw [e2] at HP
      have hsz := bs_size (d :: t)
      have hz1 : (1 : Int) ≤ ((bs (d :: t)).size : Int) := by rw [hsz]; simp; omega
      clear h hs e1 e2
      go_enter Tryd.func42, Tryd.ntmps42
      go_wp2_with (first
        | (go_at_call 41; refine HP.out.mono ?_; rintro e w1 ⟨rfl, hp, hf⟩; have c0 := hp.s; have f0 := hp.f0; have hlt := hp.lt; have HP2 := hide hp; have HF := hide hf; clear hp hf))
      all_goals go_end0
      exact ⟨rfl, HP2.out.put' (bs_tail d t (Nat.le_refl _)), HF.out.setCell (p := ⟨rb, 0, none⟩) (.inl rfl) _⟩
    · have e1 : must c l z = ⟨(), d :: t, bad z 2⟩ := by unfold must; rw [hs]; simp [hd]
      rw [e1]
      have e2 : peekC (d :: t) ≠ c := fun e => hd ((peekC_is hc) ▸ e)
      have e3 : peekC (d :: t) ≠ 0 := peekC_ne
      generalize peekC (d :: t) = x at *
      have hne := u8_ne e2
      have hne2 : ((x.toNat : Int) == 0) = false := u8_ne e3
      clear h hs e1 e2 e3 hd
      go_enter Tryd.func42, Tryd.ntmps42
      go_wp2_with (first
        | (go_at_call 41; refine HP.out.mono ?_; rintro e w1 ⟨rfl, hp, hf⟩; have HB := hide (bad_any rb _ z 2 w1 hp); have HF := hide hf; clear hp hf)
        | (go_at_call 54; refine HB.out.mono ?_; rintro e w2 ⟨rfl, hp, hf⟩; have HP2 := hide hp; have HF2 := hide hf; clear hp hf))
      all_goals go_end0
      all_goals exact ⟨rfl, HP2.out, HF.out.trans HF2.out⟩
end Go.Proofs.YtpemfikdmkmgbaaDoor
end
section
/- What is a name, and what a word. -/
namespace Go.Proofs.YtpemfikdmkmgbaaDoor
open Go.RowKit

def takenV : Array Value := #[.string ⟨#[108, 101, 116]⟩, .string ⟨#[115, 101, 116]⟩, .string ⟨#[105, 102]⟩, .string ⟨#[119, 104, 105, 108, 101]⟩, .string ⟨#[115, 97, 121]⟩, .string ⟨#[114, 101, 116, 117, 114, 110]⟩, .string ⟨#[112, 117, 116, 108]⟩, .string ⟨#[112, 117, 116, 114]⟩, .string ⟨#[100, 111]⟩, .string ⟨#[99, 101, 108, 108]⟩, .string ⟨#[108, 101, 102, 116]⟩, .string ⟨#[114, 105, 103, 104, 116]⟩, .string ⟨#[97, 115, 107]⟩, .string ⟨#[104, 101, 114, 101]⟩, .string ⟨#[103, 111]⟩]
theorem takenV_get : ∀ k (h : k < taken.length), takenV[k]? = some (.string (bs taken[k])) := by
  intro k h
  have h1 : taken.length = 15 := rfl
  rw [h1] at h
  match k, h with
  | 0, _ => rfl
  | 1, _ => rfl
  | 2, _ => rfl
  | 3, _ => rfl
  | 4, _ => rfl
  | 5, _ => rfl
  | 6, _ => rfl
  | 7, _ => rfl
  | 8, _ => rfl
  | 9, _ => rfl
  | 10, _ => rfl
  | 11, _ => rfl
  | 12, _ => rfl
  | 13, _ => rfl
  | 14, _ => rfl
  | n + 15, h => omega
theorem taken_step {v : Bs} {k : Nat} (h : k < taken.length) (h1 : v ∉ taken.take k) (h2 : ¬ v = taken[k]) : v ∉ taken.take (k + 1) := by
  rw [List.take_succ_eq_append_getElem h, List.mem_append]
  rintro (h3 | h3)
  · exact h1 h3
  · exact h2 (by simpa using h3)
set_option maxHeartbeats 1000000 in
set_option maxRecDepth 20000 in
theorem name_any (v : Bs) (w : World) (hv : v.length ≤ 1500) :
    Calls Tryd.prog 56 #[.string (bs v)] w fun e w' => e = .returned (.bool (isName v)) ∧ Fr nothing w w' := by
  have hsz := bs_size v
  have HN : Hid (isName v = (!(taken.contains v) && v.all letter && decide (0 < v.length) && decide (v.length < 9))) := rfl
  generalize isName v = r at HN ⊢
  go_enter Tryd.func56, Tryd.ntmps56
  go_wp2
  go_loop [8, 4] (fun i _ => ∃ k : Nat, k ≤ 15 ∧ i = .int .i64 k ∧ Hid (v ∉ taken.take k)) (fun i _ => 15 - (intOf i).toNat)
  case atStart => exact ⟨0, Nat.zero_le _, rfl, by simp [Hid]⟩
  case round =>
    obtain ⟨k, hk, rfl, hno⟩ := hrel
    by_cases hlt : k < 15
    · have hkl : k < taken.length := hlt
      have hcell : ∀ T, (w.alloc (.cells takenV T)).cell? ⟨w.heap.size, k, none⟩ = some (.string (bs taken[k])) := fun T => by
        rw [World.cell?_alloc_new]; exact takenV_get k hkl
      unfold takenV at hcell
      have HS : Hid (¬ v = taken[k] → v ∉ taken.take (k + 1)) := fun h2 => taken_step hkl hno.out h2
      have HM : Hid (taken[k] ∈ taken) := List.getElem_mem hkl
      generalize taken[k] = u at hcell HS HM
      by_cases hq : v = u
      · have hr : r = false := by
          rw [HN.out]
          have : v ∈ taken := hq ▸ HM.out
          simp [this]
        subst hr
        subst hq
        go_wp2
        all_goals go_ret
        all_goals exact ⟨rfl, (Fr.refl _ _).alloc _⟩
      · have hq1 := bs_ne hq
        go_wp2
        go_round
        case rel => exact ⟨k + 1, by omega, by go_num, HS.out hq⟩
        case measure => simp [intOf]; omega
    · have hno2 : Hid (taken.contains v = false) := by
        have h1 : k = 15 := by omega
        subst h1
        have := hno.out
        rw [List.take_of_length_le (by decide)] at this
        have h2 : taken.contains v = false := by simpa using this
        exact h2
      clear hno
      go_wp2
      go_loop [18, 5] (fun i _ => ∃ k : Nat, k ≤ v.length ∧ i = .int .i64 k ∧ Hid ((v.take k).all letter = true)) (fun i _ => v.length - (intOf i).toNat)
      case atStart => exact ⟨0, Nat.zero_le _, rfl, rfl⟩
      case round =>
        obtain ⟨j, hj, rfl, hall⟩ := hrel
        by_cases hjl : j < v.length
        · have hz : (j : Int) < ((bs v).size : Int) := by rw [hsz]; omega
          have hz' : j < (bs v).size := by rw [hsz]; omega
          generalize hc : (bs v)[j]'hz' = c
          have HCK : Hid (v[j] = c) := hc
          by_cases h1 : c.toNat < 97
          · have hr : r = false := by rw [HN.out, all_not hjl HCK.out (by simp [letter]; omega)]; simp
            subst hr
            have h2 : (c.toNat : Int) < 97 := by omega
            go_wp2
            all_goals go_ret
            all_goals exact ⟨rfl, (Fr.refl _ _).alloc _⟩
          · have h2 : ¬ (c.toNat : Int) < 97 := by omega
            by_cases h3 : 122 < c.toNat
            · have hr : r = false := by rw [HN.out, all_not hjl HCK.out (by simp [letter]; omega)]; simp
              subst hr
              have h4 : (122 : Int) < (c.toNat : Int) := by omega
              go_wp2
              all_goals go_ret
              all_goals exact ⟨rfl, (Fr.refl _ _).alloc _⟩
            · have h4 : ¬ (122 : Int) < (c.toNat : Int) := by omega
              have HL := hide (all_take hall.out hjl HCK.out (by simp [letter]; omega))
              go_wp2
              go_round
              case rel => exact ⟨j + 1, by omega, by go_num, HL⟩
              case measure => simp [intOf]; omega
        · obtain rfl : j = v.length := by omega
          have hr : r = (decide (0 < v.length) && decide (v.length < 9)) := by
            have := hall.out
            rw [List.take_length] at this
            rw [HN.out, this, hno2.out]
            simp
          subst hr
          clear hall
          by_cases h0 : 0 < v.length
          · by_cases h9 : v.length < 9
            · have g0 : (0 : Int) < (v.length : Int) := by omega
              have g9 : (v.length : Int) < 9 := by omega
              go_wp2
              all_goals go_ret
              all_goals exact ⟨by simp [*], (Fr.refl _ _).alloc _⟩
            · have g0 : (0 : Int) < (v.length : Int) := by omega
              have g9 : ¬ (v.length : Int) < 9 := by omega
              go_wp2
              all_goals go_ret
              all_goals exact ⟨by simp [*], (Fr.refl _ _).alloc _⟩
          · have g0 : ¬ (0 : Int) < (v.length : Int) := by omega
            go_wp2
            all_goals go_ret
            all_goals exact ⟨by simp [*], (Fr.refl _ _).alloc _⟩
set_option maxHeartbeats 400000 in
set_option maxRecDepth 20000 in
theorem isWord_any (v : Bs) (w : World) (hv : v.length ≤ 1500) :
    Calls Tryd.prog 70 #[.string (bs v)] w fun e w' => e = .returned (.bool (isWord v)) ∧ w' = w := by
  have hsz := bs_size v
  have HN : Hid (isWord v = (v.all wordC && decide (v.length < 13))) := rfl
  generalize isWord v = r at HN ⊢
  go_enter Tryd.func70, Tryd.ntmps70
  go_wp2
  go_loop [6, 3] (fun i _ => ∃ k : Nat, k ≤ v.length ∧ i = .int .i64 k ∧ Hid ((v.take k).all wordC = true)) (fun i _ => v.length - (intOf i).toNat)
  case atStart => exact ⟨0, Nat.zero_le _, rfl, rfl⟩
  case round =>
    obtain ⟨k, hk, rfl, hall⟩ := hrel
    by_cases hlt : k < v.length
    · have hz : (k : Int) < ((bs v).size : Int) := by rw [hsz]; omega
      have hz' : k < (bs v).size := by rw [hsz]; omega
      generalize hc : (bs v)[k]'hz' = c
      have HCK : Hid (v[k] = c) := hc
      by_cases h1 : c.toNat < 32
      · have hr : r = false := by rw [HN.out, all_not hlt HCK.out (by simp [wordC]; omega)]; simp
        subst hr
        have h2 : (c.toNat : Int) < 32 := by omega
        go_wp2
        all_goals go_ret
        all_goals exact ⟨rfl, rfl⟩
      · have h2 : ¬ (c.toNat : Int) < 32 := by omega
        by_cases h3 : 126 < c.toNat
        · have hr : r = false := by rw [HN.out, all_not hlt HCK.out (by simp [wordC]; omega)]; simp
          subst hr
          have h4 : (126 : Int) < (c.toNat : Int) := by omega
          go_wp2
          all_goals go_ret
          all_goals exact ⟨rfl, rfl⟩
        · have h4 : ¬ (126 : Int) < (c.toNat : Int) := by omega
          by_cases h5 : c.toNat = 39
          · have hr : r = false := by rw [HN.out, all_not hlt HCK.out (by simp [wordC, h5])]; simp
            subst hr
            have h6 : ((c.toNat : Int) == 39) = true := by simp; omega
            go_wp2
            all_goals go_ret
            all_goals exact ⟨rfl, rfl⟩
          · have h6 : ((c.toNat : Int) == 39) = false := by simp; omega
            have HL := hide (all_take hall.out hlt HCK.out (by simp [wordC, h5]; omega))
            go_wp2
            go_round
            case rel => exact ⟨k + 1, by omega, by go_num, HL⟩
            case measure => simp [intOf]; omega
    · obtain rfl : k = v.length := by omega
      have hr : r = decide (v.length < 13) := by
        have := hall.out
        rw [List.take_length] at this
        rw [HN.out, this]
        simp
      subst hr
      clear hall
      by_cases h9 : v.length < 13
      · have g9 : (v.length : Int) < 13 := by omega
        go_wp2
        all_goals go_ret
        all_goals exact ⟨by simp [*], rfl⟩
      · have g9 : ¬ (v.length : Int) < 13 := by omega
        go_wp2
        all_goals go_ret
        all_goals exact ⟨by simp [*], rfl⟩
end Go.Proofs.YtpemfikdmkmgbaaDoor
end
section
/- Words and names, read. -/
namespace Go.Proofs.YtpemfikdmkmgbaaDoor
open Go.RowKit

theorem while_stop {f : UInt8 → Bool} : ∀ {m : Bs} {k : Nat}, (m.take k).all f = true → (∀ c, m[k]? = some c → f c = false) → m.takeWhile f = m.take k ∧ m.dropWhile f = m.drop k
  | [], k, _, _ => by simp
  | c :: t, 0, _, hs => by
    have := hs c rfl
    simp [this]
  | c :: t, k + 1, h, hs => by
    simp only [List.take_succ_cons, List.all_cons, Bool.and_eq_true] at h
    have := while_stop (f := f) (m := t) (k := k) h.2 (fun c hc => hs c (by simpa using hc))
    simp [h.1, this.1, this.2]
theorem bs_take (m : Bs) (k : Nat) : (bs m).extract 0 k = bs (m.take k) := by rw [bs_extract, bs_list]; simp
theorem bs_drop (m : Bs) {k b : Nat} (hb : m.length ≤ b) : (bs m).extract k b = bs (m.drop k) := by
  rw [bs_extract, bs_list]
  congr 1
  exact List.take_of_length_le (by simp; omega)
theorem wordZ_0 (z : Int) : wordZ [] [] z = bad z 8 := rfl
theorem wordZ_1 {m : Bs} (h : m ≠ []) (z : Int) : wordZ m [] z = bad z 2 := by
  cases m with
  | nil => exact absurd rfl h
  | cons c t => rfl
theorem wordZ_2 {m w : Bs} (h : w ≠ []) (z : Int) : wordZ m w z = z := by
  cases w with
  | nil => exact absurd rfl h
  | cons c t => rfl
/-- Behind a word. -/
theorem W_fin {rb : Nat} {m v r : Bs} {z z' : Int} {w w1 w2 : World} {S S2 : ByteArray} (hS : S = bs v) (hS2 : S2 = bs r) (hP : Pr rb m z' w2) (hF1 : Fr (at_ rb) w w1) (hF2 : Fr (at_ rb) w1 w2) (hk : m.takeWhile inW = v ∧ m.dropWhile inW = r) (hz : wordZ m v z = z') :
    Ending.returned (.string S) = Ending.returned (.string (bs (m.takeWhile inW))) ∧ Pr rb (m.dropWhile inW) (wordZ m (m.takeWhile inW) z) (w2.setCell ⟨rb, 0, none⟩ (.string S2)) ∧ Fr (at_ rb) w (w2.setCell ⟨rb, 0, none⟩ (.string S2)) := by
  rw [hk.1, hk.2, hz, hS]
  exact ⟨rfl, hP.put' hS2, (hF1.trans hF2).setCell (p := ⟨rb, 0, none⟩) (.inl rfl) _⟩
theorem u8_no {c d : UInt8} {n : Int} (hn : (d.toNat : Int) = n) (h : (c == d) = false) : ¬ (c.toNat : Int) = n := by
  intro e
  have := u8_is c d n hn
  rw [h] at this
  simp [e] at this
theorem inW_yes {c : UInt8} (h : inW c = true) : ¬ (c.toNat : Int) = 32 ∧ ¬ (c.toNat : Int) = 10 ∧ ¬ (c.toNat : Int) = 40 ∧ ¬ (c.toNat : Int) = 41 ∧ ¬ (c.toNat : Int) = 39 := by
  have hn : ends c = false := by simpa [inW] using h
  simp only [ends, Bool.or_eq_false_iff] at hn
  exact ⟨u8_no (d := 32) rfl hn.1.1.1.1, u8_no (d := 10) rfl hn.1.1.1.2, u8_no (d := 40) rfl hn.1.1.2, u8_no (d := 41) rfl hn.1.2, u8_no (d := 39) rfl hn.2⟩
theorem take_ne {m : Bs} {k : Nat} (h : ¬ k = 0) (hm : 0 < m.length) : m.take k ≠ [] := by
  intro e
  rw [List.take_eq_nil_iff] at e
  rcases e with e | e
  · exact h e
  · subst e; simp at hm
theorem ne_bne {a b : Int} (h : ¬ a = b) : (a != b) = true := by simpa using h
theorem inW_no {c : UInt8} (h : inW c = false) : c = 32 ∨ c = 10 ∨ c = 40 ∨ c = 41 ∨ c = 39 := by
  have : ends c = true := by simpa [inW] using h
  simpa [ends, or_assoc] using this
set_option maxHeartbeats 4000000 in
set_option maxRecDepth 20000 in
theorem word_any (rb : Nat) (l : Bs) (z : Int) (w : World) (h : Pr rb l z w) (hl : l.length ≤ 1500) :
    Calls Tryd.prog 55 #[.pointer (some ⟨rb, 0, none⟩)] w fun e w' => e = .returned (.string (bs (word l z).v)) ∧ Pr rb (word l z).l (word l z).z w' ∧ Fr (at_ rb) w w' := by
  have HP := hide (peek_any rb l z w h hl)
  show Calls Tryd.prog 55 #[.pointer (some ⟨rb, 0, none⟩)] w fun e w' => e = .returned (.string (bs ((skip l).takeWhile inW))) ∧ Pr rb ((skip l).dropWhile inW) (wordZ (skip l) ((skip l).takeWhile inW) z) w' ∧ Fr (at_ rb) w w'
  have hml : (skip l).length ≤ 1500 := Nat.le_trans (skip_len l) hl
  generalize skip l = m at *
  have hsz := bs_size m
  clear h hl
  go_enter Tryd.func55, Tryd.ntmps55
  go_wp2_with (go_at_call 41; refine HP.out.mono ?_; rintro e w1 ⟨rfl, hp, hf⟩; have c0 := hp.s; have c1 := hp.e; have f0 := hp.f0; have hlt := hp.lt; have HP1 := hide hp; have HF1 := hide hf; clear hp hf)
  go_loop [3] (fun i => ∃ k : Nat, k ≤ m.length ∧ i = .int .i64 k ∧ Hid ((m.take k).all inW = true)) (fun i => m.length - (intOf i).toNat)
  case atStart => exact ⟨0, Nat.zero_le _, rfl, rfl⟩
  case round =>
    obtain ⟨k, hk, rfl, hall⟩ := hrel
    have stop : (∀ c, m[k]? = some c → inW c = false) → m.takeWhile inW = m.take k ∧ m.dropWhile inW = m.drop k := while_stop hall.out
    by_cases hkl : k < m.length
    · have hz : (k : Int) < ((bs m).size : Int) := by rw [hsz]; omega
      have hz' : k < (bs m).size := by rw [hsz]; omega
      generalize hc : (bs m)[k]'hz' = c
      have HCK : Hid (m[k] = c) := hc
      have HG : Hid (m[k]? = some c) := by show m[k]? = some c; rw [List.getElem?_eq_getElem hkl]; exact congrArg some HCK.out
      cases hw : inW c with
      | true =>
        obtain ⟨n1, n2, n3, n4, n5⟩ := inW_yes hw
        have b1 := ne_bne n1
        have b2 := ne_bne n2
        have b3 := ne_bne n3
        have b4 := ne_bne n4
        have b5 := ne_bne n5
        have HL := hide (all_take hall.out hkl HCK.out hw)
        clear hw stop
        go_wp2
        go_round
        case rel => exact ⟨k + 1, by omega, by go_num, HL⟩
        case measure => simp [intOf]; omega
      | false =>
        have HST := hide (stop (fun c' h' => by rw [HG.out] at h'; cases h'; exact hw))
        clear stop
        have hmn : m ≠ [] := by intro e; subst e; simp at hkl
        have hm0 : ¬ (m.length : Int) = 0 := by omega
        have key := inW_no hw
        clear hw HG HCK
        by_cases hk0 : k = 0
        · subst hk0
          have HZ := hide (wordZ_1 hmn z)
          have HB := hide (bad_any rb m z 2 w1 HP1.out)
          clear hmn
          rcases key with rfl | rfl | rfl | rfl | rfl
          all_goals
            go_wp2_with (go_at_call 54; refine HB.out.mono ?_; rintro e w2 ⟨rfl, hp, hf⟩; have d0 := hp.s; have g0 := hp.f0; have hlt2 := hp.lt; have HP2 := hide hp; have HF2 := hide hf; clear hp hf)
            go_ret
            exact W_fin (v := []) (r := m) (by first | rfl | (rw [bs_take]; rfl)) (by first | rfl | (rw [bs_drop m (Nat.le_refl _)]; rfl)) HP2.out HF1.out HF2.out (by simpa using HST.out) HZ.out
        · have hk1 : ¬ (k : Int) = 0 := by omega
          have HZ := hide (wordZ_2 (m := m) (w := m.take k) (take_ne hk0 (by omega)) z)
          clear hmn
          rcases key with rfl | rfl | rfl | rfl | rfl
          all_goals
            go_wp2
            go_ret
            exact W_fin (v := m.take k) (r := m.drop k) (bs_take m k) (bs_drop m (Nat.le_refl _)) HP1.out HF1.out (Fr.refl _ _) HST.out HZ.out
    · have hz : ¬ (k : Int) < ((bs m).size : Int) := by rw [hsz]; omega
      have hkm : k = m.length := by omega
      have HST := hide (stop (fun c' h' => by rw [List.getElem?_eq_none (by omega)] at h'; cases h'))
      clear stop hall
      by_cases hk0 : k = 0
      · have hm : m = [] := List.length_eq_zero_iff.1 (by omega)
        subst hm
        subst hk0
        clear hkm hk
        have HB := hide (bad_any rb [] z 8 w1 HP1.out)
        go_wp2_with (go_at_call 54; refine HB.out.mono ?_; rintro e w2 ⟨rfl, hp, hf⟩; have d0 := hp.s; have g0 := hp.f0; have hlt2 := hp.lt; have HP2 := hide hp; have HF2 := hide hf; clear hp hf)
        go_ret
        exact W_fin (v := []) (r := []) (by first | rfl | (rw [bs_take]; rfl)) (by first | rfl | (rw [bs_drop [] (Nat.le_refl _)]; rfl)) HP2.out HF1.out HF2.out (by simp) (wordZ_0 z)
      · have hk1 : ¬ (k : Int) = 0 := by omega
        have hm1 : ¬ (m.length : Int) = 0 := by omega
        have HZ := hide (wordZ_2 (m := m) (w := m.take k) (take_ne hk0 (by omega)) z)
        clear hkm
        go_wp2
        go_ret
        exact W_fin (v := m.take k) (r := m.drop k) (bs_take m k) (bs_drop m (Nat.le_refl _)) HP1.out HF1.out (Fr.refl _ _) HST.out HZ.out
set_option maxHeartbeats 400000 in
theorem nameR_any (rb : Nat) (l : Bs) (z : Int) (w : World) (h : Pr rb l z w) (hl : l.length ≤ 1500) :
    Calls Tryd.prog 43 #[.pointer (some ⟨rb, 0, none⟩)] w fun e w' => e = .returned (.string (bs (name l z).v)) ∧ Pr rb (name l z).l (name l z).z w' ∧ Fr (at_ rb) w w' := by
  have HW := hide (word_any rb l z w h hl)
  have hvl : (word l z).v.length ≤ 1500 := Nat.le_trans (List.takeWhile_sublist _).length_le (Nat.le_trans (skip_len l) hl)
  show Calls Tryd.prog 43 #[.pointer (some ⟨rb, 0, none⟩)] w fun e w' => e = .returned (.string (bs (word l z).v)) ∧ Pr rb (word l z).l (if isName (word l z).v then (word l z).z else bad (word l z).z 7) w' ∧ Fr (at_ rb) w w'
  generalize word l z = q at *
  obtain ⟨v, l', z'⟩ := q
  simp only at *
  have HN := hide (fun w => name_any v w hvl)
  clear h
  cases hq : isName v with
  | true =>
    simp only [if_true]
    simp only [hq] at HN
    go_enter Tryd.func43, Tryd.ntmps43
    go_wp2_with (first
      | (go_at_call 55; refine HW.out.mono ?_; rintro e w1 ⟨rfl, hp, hf⟩; have HP1 := hide hp; have HF1 := hide hf; clear hp hf)
      | (go_at_call 56; refine (HN.out _).mono ?_; rintro e w2 ⟨rfl, hf⟩; have HF2 := hide hf; clear hf))
    go_ret
    exact ⟨rfl, HP1.out.fr HF2.out id, HF1.out.trans (HF2.out.mono (fun _ _ e => e.elim))⟩
  | false =>
    simp only [Bool.false_eq_true, if_false]
    simp only [hq] at HN
    go_enter Tryd.func43, Tryd.ntmps43
    go_wp2_with (first
      | (go_at_call 55; refine HW.out.mono ?_; rintro e w1 ⟨rfl, hp, hf⟩; have HP1 := hide hp; have HF1 := hide hf; clear hp hf)
      | (go_at_call 56; refine (HN.out _).mono ?_; rintro e w2 ⟨rfl, hf⟩; have HB := hide (bad_any rb l' z' 7 w2 (HP1.out.fr hf id)); have HF2 := hide hf; clear hf)
      | (go_at_call 54; refine HB.out.mono ?_; rintro e w3 ⟨rfl, hp, hf⟩; have HP3 := hide hp; have HF3 := hide hf; clear hp hf))
    go_ret
    exact ⟨rfl, HP3.out, (HF1.out.trans (HF2.out.mono (fun _ _ e => e.elim))).trans HF3.out⟩
end Go.Proofs.YtpemfikdmkmgbaaDoor
end
section
/- Piece by piece up to a bracket. -/
namespace Go.Proofs.YtpemfikdmkmgbaaDoor
open Go.RowKit

/-- How far the reader at rb is from its end: 0 where something is wrong. -/
def leftOf (w : World) (rb : Nat) : Nat :=
  match w.cell? ⟨rb, 1, none⟩ with
  | some (.int .i64 z) => if z = 0 then lenOf w rb + 1 else 0
  | _ => 0
theorem Pr.leftOf0 {rb : Nat} {l : Bs} {w : World} (h : Pr rb l 0 w) : leftOf w rb = l.length + 1 := by
  simp [leftOf, h.e, h.lenOf]
theorem Pr.leftOf1 {rb : Nat} {l : Bs} {z : Int} {w : World} (h : Pr rb l z w) (hz : z ≠ 0) : leftOf w rb = 0 := by
  simp [leftOf, h.e, hz]
def Rd.after {α : Type} (r : Rd (List α)) (ac : List α) : Rd (List α) := ⟨ac ++ r.v, r.l, r.z⟩
theorem until_bad {α : Type} (one : Reader α) {m : Nat} (hm : 0 < m) (l : Bs) {z : Int} (hz : z ≠ 0) : until_ one m l z = ⟨[], (must 41 l z).l, (must 41 l z).z⟩ := by
  obtain ⟨k, rfl⟩ : ∃ k, m = k + 1 := ⟨m - 1, by omega⟩
  unfold until_
  rw [if_neg hz]
theorem until_end {α : Type} (one : Reader α) {m : Nat} (hm : 0 < m) {l t : Bs} (hs : skip l = 41 :: t) : until_ one m l 0 = ⟨[], t, 0⟩ := by
  obtain ⟨k, rfl⟩ : ∃ k, m = k + 1 := ⟨m - 1, by omega⟩
  unfold until_
  rw [if_pos rfl, hs]
  simp
theorem until_more {α : Type} (one : Reader α) (k : Nat) {l : Bs} (hs : (skip l).head? ≠ some 41) : until_ one (k + 1) l 0 = (until_ one k (one (skip l) 0).l (one (skip l) 0).z).after [(one (skip l) 0).v] := by
  rw [until_]
  simp only [if_true, if_neg hs]
  rfl
theorem after_after {α : Type} (r : Rd (List α)) (a b : List α) : (r.after b).after a = r.after (a ++ b) := by
  simp [Rd.after]
theorem after_nil {α : Type} (r : Rd (List α)) : r.after [] = r := by
  cases r; simp [Rd.after]
theorem must_skip (c : UInt8) (l : Bs) (z : Int) : must c (skip l) z = must c l z := by unfold must; rw [skip_skip]
theorem peek41 {l : Bs} (h : l.head? ≠ some 41) : ¬ ((peekC l).toNat : Int) = 41 := by
  intro e
  have e1 : (peekC l).toNat = (41 : UInt8).toNat := by
    have : ((41 : UInt8).toNat : Int) = 41 := rfl
    omega
  have e2 := UInt8.toNat_inj.1 e1
  cases l with
  | nil => cases e2
  | cons c t =>
    rw [peekC_is (by decide)] at e2
    subst e2
    exact h rfl
set_option maxHeartbeats 400000 in
theorem until_E {α : Type} (rb : Nat) (c0 c1 c2 : Value) (one : Reader α) (J : List α → Bs → Int → World → Prop) (hless : Less one) (hsmall : Small one)
    (hJ : ∀ acc l z w, J acc l z w → Pr rb l z w ∧ l.length ≤ 1500)
    (hm : ∀ acc l l' z z' w w', J acc l z w → Pr rb l' z' w' → l'.length ≤ l.length → (z' = 0 → z = 0) → Fr (at_ rb) w w' → J acc l' z' w')
    (hcl : ∀ acc l w, J acc l 0 w → Calls Tryd.prog 72 #[c0, c1, c2] w fun e w' => e = .returned (.tuple #[]) ∧ J (acc ++ [(one l 0).v]) (one l 0).l (one l 0).z w')
    (n : Nat) (acc : List α) (l : Bs) (z : Int) (w : World) (h : J acc l z w) (hn0 : 0 < n) (hn : z = 0 → l.length + 1 < n) :
    Calls Tryd.prog 44 #[.pointer (some ⟨rb, 0, none⟩), .func (.func 72) #[] #[c0, c1, c2]] w fun e w' => e = .returned (.tuple #[]) ∧ J (acc ++ (until_ one n l z).v) (until_ one n l z).l (until_ one n l z).z w' := by
  have HJ := hide hJ
  have HM := hide hm
  have HCL := hide hcl
  have H0 := hide h
  have HLE := hide hless
  have HSM := hide hsmall
  clear hJ hm hcl h hless hsmall
  go_enter Tryd.func44, Tryd.ntmps44
  go_wp2
  go_loopw [] (fun wr => ∃ (m : Nat) (ac : List α) (q : Bs) (zq : Int), 0 < m ∧ Hid (zq = 0 → q.length + 1 < m) ∧ Hid (J (acc ++ ac) q zq wr ∧ until_ one n l z = (until_ one m q zq).after ac)) (fun wr => leftOf wr rb)
  case atStart =>
    refine ⟨n, [], l, z, hn0, hn, ?_, (after_nil _).symm⟩
    rw [List.append_nil]; exact H0.out
  case round =>
    obtain ⟨m, ac, q, zq, hm0, hm1, hR⟩ := hrel
    obtain ⟨hP, hql⟩ := HJ.out _ _ _ _ hR.out.1
    have c1 := hP.e
    have hlt := hP.lt
    by_cases hz : zq = 0
    · subst hz
      have HPK := hide (peek_any rb q 0 wr hP hql)
      have hlen := skip_len q
      by_cases hs : (skip q).head? = some 41
      · obtain ⟨t, ht⟩ : ∃ t, skip q = 41 :: t := by
          cases hk : skip q with
          | nil => rw [hk] at hs; simp at hs
          | cons c t => rw [hk] at hs; simp at hs; subst hs; exact ⟨t, rfl⟩
        have HE := hide (until_end one hm0 ht)
        have e2 : ((peekC (skip q)).toNat : Int) = 41 := by rw [ht]; rfl
        have e3 : must 41 (skip q) 0 = ⟨(), t, 0⟩ := by rw [must_skip]; unfold must; rw [ht]; simp
        rw [e2] at HPK
        have HE3 := hide e3
        have htl : t.length ≤ q.length := by rw [ht] at hlen; simp at hlen; omega
        clear hP hs e2 e3
        go_wp2_with (first
          | (go_at_call 41; refine HPK.out.mono ?_; rintro e w1 ⟨rfl, hp, hf⟩; have HMU := hide (must_any rb _ 0 41 w1 hp (by omega) (by decide)); have HF1 := hide hf; clear hp hf)
          | (go_at_call 42; refine HMU.out.mono ?_; rintro e w2 ⟨rfl, hp, hf⟩; have HP2 := hide hp; have HF2 := hide hf; clear hp hf))
        go_end0
        refine ⟨rfl, ?_⟩
        rw [hR.out.2, HE.out]
        have hp := HP2.out
        rw [HE3.out] at hp
        simp only [Rd.after, List.append_nil]
        exact HM.out _ _ _ _ _ _ _ hR.out.1 hp htl (fun _ => rfl) (HF1.out.trans HF2.out)
      · obtain ⟨m, rfl⟩ : ∃ k, m = k + 1 := ⟨m - 1, by omega⟩
        have HE := hide (until_more one m hs)
        have e2 := peek41 hs
        have b2 := ne_bne e2
        clear hP hs
        go_wp2_with (first
          | (go_at_call 41; refine HPK.out.mono ?_; rintro e w1 ⟨rfl, hp, hf⟩; have HC := hide (HCL.out _ _ _ (HM.out _ _ _ _ _ _ _ hR.out.1 hp hlen (fun _ => rfl) hf)); clear hp hf)
          | (go_at_call 72; refine HC.out.mono ?_; rintro e w2 ⟨rfl, hj⟩; have HJ2 := hide hj; clear hj))
        have hP2 := (HJ.out _ _ _ _ HJ2.out).1
        have hm2 := hm1.out trivial
        refine ⟨⟨m, ac ++ [(one (skip q) 0).v], (one (skip q) 0).l, (one (skip q) 0).z, by omega, fun hz => ?_, ?_, ?_⟩, ?_⟩
        · have := HLE.out (skip q) hz
          omega
        · rw [← List.append_assoc]; exact HJ2.out
        · rw [hR.out.2, HE.out, after_after]
        · rw [(HJ.out _ _ _ _ hR.out.1).1.leftOf0]
          by_cases hz : (one (skip q) 0).z = 0
          · have := HLE.out (skip q) hz
            rw [hz] at hP2
            rw [hP2.leftOf0]
            omega
          · rw [hP2.leftOf1 hz]
            omega
    · have HE := hide (until_bad one hm0 q hz)
      have HMU := hide (must_any rb q zq 41 wr hP hql (by decide))
      clear hP
      go_wp2_with (first
        | (go_at_call 42; refine HMU.out.mono ?_; rintro e w2 ⟨rfl, hp, hf⟩; have HP2 := hide hp; have HF2 := hide hf; clear hp hf))
      go_end0
      refine ⟨rfl, ?_⟩
      rw [hR.out.2, HE.out]
      simp only [Rd.after, List.append_nil]
      exact HM.out _ _ _ _ _ _ _ hR.out.1 HP2.out (must_small 41 _ _) (fun h => absurd ((must_keeps 41 q zq hz).symm.trans h) hz) HF2.out
set_option maxHeartbeats 400000 in
theorem until_S {α : Type} (rb : Nat) (c0 c1 c2 : Value) (one : Reader α) (J : List α → Bs → Int → World → Prop) (hless : Less one) (hsmall : Small one)
    (hJ : ∀ acc l z w, J acc l z w → Pr rb l z w ∧ l.length ≤ 1500)
    (hm : ∀ acc l l' z z' w w', J acc l z w → Pr rb l' z' w' → l'.length ≤ l.length → (z' = 0 → z = 0) → Fr (at_ rb) w w' → J acc l' z' w')
    (hcl : ∀ acc l w, J acc l 0 w → Calls Tryd.prog 57 #[c0, c1, c2] w fun e w' => e = .returned (.tuple #[]) ∧ J (acc ++ [(one l 0).v]) (one l 0).l (one l 0).z w')
    (n : Nat) (acc : List α) (l : Bs) (z : Int) (w : World) (h : J acc l z w) (hn0 : 0 < n) (hn : z = 0 → l.length + 1 < n) :
    Calls Tryd.prog 44 #[.pointer (some ⟨rb, 0, none⟩), .func (.func 57) #[] #[c0, c1, c2]] w fun e w' => e = .returned (.tuple #[]) ∧ J (acc ++ (until_ one n l z).v) (until_ one n l z).l (until_ one n l z).z w' := by
  have HJ := hide hJ
  have HM := hide hm
  have HCL := hide hcl
  have H0 := hide h
  have HLE := hide hless
  have HSM := hide hsmall
  clear hJ hm hcl h hless hsmall
  go_enter Tryd.func44, Tryd.ntmps44
  go_wp2
  go_loopw [] (fun wr => ∃ (m : Nat) (ac : List α) (q : Bs) (zq : Int), 0 < m ∧ Hid (zq = 0 → q.length + 1 < m) ∧ Hid (J (acc ++ ac) q zq wr ∧ until_ one n l z = (until_ one m q zq).after ac)) (fun wr => leftOf wr rb)
  case atStart =>
    refine ⟨n, [], l, z, hn0, hn, ?_, (after_nil _).symm⟩
    rw [List.append_nil]; exact H0.out
  case round =>
    obtain ⟨m, ac, q, zq, hm0, hm1, hR⟩ := hrel
    obtain ⟨hP, hql⟩ := HJ.out _ _ _ _ hR.out.1
    have c1 := hP.e
    have hlt := hP.lt
    by_cases hz : zq = 0
    · subst hz
      have HPK := hide (peek_any rb q 0 wr hP hql)
      have hlen := skip_len q
      by_cases hs : (skip q).head? = some 41
      · obtain ⟨t, ht⟩ : ∃ t, skip q = 41 :: t := by
          cases hk : skip q with
          | nil => rw [hk] at hs; simp at hs
          | cons c t => rw [hk] at hs; simp at hs; subst hs; exact ⟨t, rfl⟩
        have HE := hide (until_end one hm0 ht)
        have e2 : ((peekC (skip q)).toNat : Int) = 41 := by rw [ht]; rfl
        have e3 : must 41 (skip q) 0 = ⟨(), t, 0⟩ := by rw [must_skip]; unfold must; rw [ht]; simp
        rw [e2] at HPK
        have HE3 := hide e3
        have htl : t.length ≤ q.length := by rw [ht] at hlen; simp at hlen; omega
        clear hP hs e2 e3
        go_wp2_with (first
          | (go_at_call 41; refine HPK.out.mono ?_; rintro e w1 ⟨rfl, hp, hf⟩; have HMU := hide (must_any rb _ 0 41 w1 hp (by omega) (by decide)); have HF1 := hide hf; clear hp hf)
          | (go_at_call 42; refine HMU.out.mono ?_; rintro e w2 ⟨rfl, hp, hf⟩; have HP2 := hide hp; have HF2 := hide hf; clear hp hf))
        go_end0
        refine ⟨rfl, ?_⟩
        rw [hR.out.2, HE.out]
        have hp := HP2.out
        rw [HE3.out] at hp
        simp only [Rd.after, List.append_nil]
        exact HM.out _ _ _ _ _ _ _ hR.out.1 hp htl (fun _ => rfl) (HF1.out.trans HF2.out)
      · obtain ⟨m, rfl⟩ : ∃ k, m = k + 1 := ⟨m - 1, by omega⟩
        have HE := hide (until_more one m hs)
        have e2 := peek41 hs
        have b2 := ne_bne e2
        clear hP hs
        go_wp2_with (first
          | (go_at_call 41; refine HPK.out.mono ?_; rintro e w1 ⟨rfl, hp, hf⟩; have HC := hide (HCL.out _ _ _ (HM.out _ _ _ _ _ _ _ hR.out.1 hp hlen (fun _ => rfl) hf)); clear hp hf)
          | (go_at_call 57; refine HC.out.mono ?_; rintro e w2 ⟨rfl, hj⟩; have HJ2 := hide hj; clear hj))
        have hP2 := (HJ.out _ _ _ _ HJ2.out).1
        have hm2 := hm1.out trivial
        refine ⟨⟨m, ac ++ [(one (skip q) 0).v], (one (skip q) 0).l, (one (skip q) 0).z, by omega, fun hz => ?_, ?_, ?_⟩, ?_⟩
        · have := HLE.out (skip q) hz
          omega
        · rw [← List.append_assoc]; exact HJ2.out
        · rw [hR.out.2, HE.out, after_after]
        · rw [(HJ.out _ _ _ _ hR.out.1).1.leftOf0]
          by_cases hz : (one (skip q) 0).z = 0
          · have := HLE.out (skip q) hz
            rw [hz] at hP2
            rw [hP2.leftOf0]
            omega
          · rw [hP2.leftOf1 hz]
            omega
    · have HE := hide (until_bad one hm0 q hz)
      have HMU := hide (must_any rb q zq 41 wr hP hql (by decide))
      clear hP
      go_wp2_with (first
        | (go_at_call 42; refine HMU.out.mono ?_; rintro e w2 ⟨rfl, hp, hf⟩; have HP2 := hide hp; have HF2 := hide hf; clear hp hf))
      go_end0
      refine ⟨rfl, ?_⟩
      rw [hR.out.2, HE.out]
      simp only [Rd.after, List.append_nil]
      exact HM.out _ _ _ _ _ _ _ hR.out.1 HP2.out (must_small 41 _ _) (fun h => absurd ((must_keeps 41 q zq hz).symm.trans h) hz) HF2.out
set_option maxHeartbeats 400000 in
theorem until_P {α : Type} (rb : Nat) (c0 c1 : Value) (one : Reader α) (J : List α → Bs → Int → World → Prop) (hless : Less one) (hsmall : Small one)
    (hJ : ∀ acc l z w, J acc l z w → Pr rb l z w ∧ l.length ≤ 1500)
    (hm : ∀ acc l l' z z' w w', J acc l z w → Pr rb l' z' w' → l'.length ≤ l.length → (z' = 0 → z = 0) → Fr (at_ rb) w w' → J acc l' z' w')
    (hcl : ∀ acc l w, J acc l 0 w → Calls Tryd.prog 45 #[c0, c1] w fun e w' => e = .returned (.tuple #[]) ∧ J (acc ++ [(one l 0).v]) (one l 0).l (one l 0).z w')
    (n : Nat) (acc : List α) (l : Bs) (z : Int) (w : World) (h : J acc l z w) (hn0 : 0 < n) (hn : z = 0 → l.length + 1 < n) :
    Calls Tryd.prog 44 #[.pointer (some ⟨rb, 0, none⟩), .func (.func 45) #[] #[c0, c1]] w fun e w' => e = .returned (.tuple #[]) ∧ J (acc ++ (until_ one n l z).v) (until_ one n l z).l (until_ one n l z).z w' := by
  have HJ := hide hJ
  have HM := hide hm
  have HCL := hide hcl
  have H0 := hide h
  have HLE := hide hless
  have HSM := hide hsmall
  clear hJ hm hcl h hless hsmall
  go_enter Tryd.func44, Tryd.ntmps44
  go_wp2
  go_loopw [] (fun wr => ∃ (m : Nat) (ac : List α) (q : Bs) (zq : Int), 0 < m ∧ Hid (zq = 0 → q.length + 1 < m) ∧ Hid (J (acc ++ ac) q zq wr ∧ until_ one n l z = (until_ one m q zq).after ac)) (fun wr => leftOf wr rb)
  case atStart =>
    refine ⟨n, [], l, z, hn0, hn, ?_, (after_nil _).symm⟩
    rw [List.append_nil]; exact H0.out
  case round =>
    obtain ⟨m, ac, q, zq, hm0, hm1, hR⟩ := hrel
    obtain ⟨hP, hql⟩ := HJ.out _ _ _ _ hR.out.1
    have c1 := hP.e
    have hlt := hP.lt
    by_cases hz : zq = 0
    · subst hz
      have HPK := hide (peek_any rb q 0 wr hP hql)
      have hlen := skip_len q
      by_cases hs : (skip q).head? = some 41
      · obtain ⟨t, ht⟩ : ∃ t, skip q = 41 :: t := by
          cases hk : skip q with
          | nil => rw [hk] at hs; simp at hs
          | cons c t => rw [hk] at hs; simp at hs; subst hs; exact ⟨t, rfl⟩
        have HE := hide (until_end one hm0 ht)
        have e2 : ((peekC (skip q)).toNat : Int) = 41 := by rw [ht]; rfl
        have e3 : must 41 (skip q) 0 = ⟨(), t, 0⟩ := by rw [must_skip]; unfold must; rw [ht]; simp
        rw [e2] at HPK
        have HE3 := hide e3
        have htl : t.length ≤ q.length := by rw [ht] at hlen; simp at hlen; omega
        clear hP hs e2 e3
        go_wp2_with (first
          | (go_at_call 41; refine HPK.out.mono ?_; rintro e w1 ⟨rfl, hp, hf⟩; have HMU := hide (must_any rb _ 0 41 w1 hp (by omega) (by decide)); have HF1 := hide hf; clear hp hf)
          | (go_at_call 42; refine HMU.out.mono ?_; rintro e w2 ⟨rfl, hp, hf⟩; have HP2 := hide hp; have HF2 := hide hf; clear hp hf))
        go_end0
        refine ⟨rfl, ?_⟩
        rw [hR.out.2, HE.out]
        have hp := HP2.out
        rw [HE3.out] at hp
        simp only [Rd.after, List.append_nil]
        exact HM.out _ _ _ _ _ _ _ hR.out.1 hp htl (fun _ => rfl) (HF1.out.trans HF2.out)
      · obtain ⟨m, rfl⟩ : ∃ k, m = k + 1 := ⟨m - 1, by omega⟩
        have HE := hide (until_more one m hs)
        have e2 := peek41 hs
        have b2 := ne_bne e2
        clear hP hs
        go_wp2_with (first
          | (go_at_call 41; refine HPK.out.mono ?_; rintro e w1 ⟨rfl, hp, hf⟩; have HC := hide (HCL.out _ _ _ (HM.out _ _ _ _ _ _ _ hR.out.1 hp hlen (fun _ => rfl) hf)); clear hp hf)
          | (go_at_call 45; refine HC.out.mono ?_; rintro e w2 ⟨rfl, hj⟩; have HJ2 := hide hj; clear hj))
        have hP2 := (HJ.out _ _ _ _ HJ2.out).1
        have hm2 := hm1.out trivial
        refine ⟨⟨m, ac ++ [(one (skip q) 0).v], (one (skip q) 0).l, (one (skip q) 0).z, by omega, fun hz => ?_, ?_, ?_⟩, ?_⟩
        · have := HLE.out (skip q) hz
          omega
        · rw [← List.append_assoc]; exact HJ2.out
        · rw [hR.out.2, HE.out, after_after]
        · rw [(HJ.out _ _ _ _ hR.out.1).1.leftOf0]
          by_cases hz : (one (skip q) 0).z = 0
          · have := HLE.out (skip q) hz
            rw [hz] at hP2
            rw [hP2.leftOf0]
            omega
          · rw [hP2.leftOf1 hz]
            omega
    · have HE := hide (until_bad one hm0 q hz)
      have HMU := hide (must_any rb q zq 41 wr hP hql (by decide))
      clear hP
      go_wp2_with (first
        | (go_at_call 42; refine HMU.out.mono ?_; rintro e w2 ⟨rfl, hp, hf⟩; have HP2 := hide hp; have HF2 := hide hf; clear hp hf))
      go_end0
      refine ⟨rfl, ?_⟩
      rw [hR.out.2, HE.out]
      simp only [Rd.after, List.append_nil]
      exact HM.out _ _ _ _ _ _ _ hR.out.1 HP2.out (must_small 41 _ _) (fun h => absurd ((must_keeps 41 q zq hz).symm.trans h) hz) HF2.out
end Go.Proofs.YtpemfikdmkmgbaaDoor
end
