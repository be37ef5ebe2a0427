/- Package scope: expressions. -/
import Derived.Test.YtkmdamljhagogaaDoorBody
import Derived.Test.YtkmdamljhagogaaDoorCexpr
namespace Go.Proofs.YtkmdamljhagogaaDoor
open Go.RowKit

def BEx (x : Ex) : Prop := ∀ (bb pb wb tb : Nat) (F : AMap) (nm : List Bs) (v : Int) (W : WS) (r : RawE) (w : World), BI bb pb wb tb F nm v W w → ExOk w (fun k => k ≠ wb) r x → W.n + exN x ≤ 100000 →
  Calls Tryd.prog 59 #[.pointer (some ⟨bb, 0, none⟩), ev r] w fun e w' => e = .returned (.int .i64 (exC F.f nm x W).e) ∧ Fr (fun k => k = wb) w w' ∧ ((exC F.f nm x W).e = 0 → BI bb pb wb tb F nm v (exC F.f nm x W).W w')
def BExs (a : List Ex) : Prop := ∀ (bb pb wb tb : Nat) (F : AMap) (nm : List Bs) (v : Int) (W : WS) (sl : Slc) (rs : List RawE) (w : World), BI bb pb wb tb F nm v W w → Sl encE 4 w sl.v rs → (∀ b, sl.v.ownBlock = some b → b ≠ wb) → Each (ExOk w (fun k => k ≠ wb)) rs a → W.n + exsN a ≤ 100000 →
  Calls Tryd.prog 52 #[.pointer (some ⟨bb, 0, none⟩), .slice sl.a sl.n sl.c] w fun e w' => e = .returned (.int .i64 (exsC F.f nm a W).e) ∧ Fr (fun k => k = wb) w w' ∧ ((exsC F.f nm a W).e = 0 → BI bb pb wb tb F nm v (exsC F.f nm a W).W w')
set_option maxHeartbeats 1000000 in
set_option maxRecDepth 20000 in
theorem exprs_any (a : List Ex) (ih : ∀ x ∈ a, BEx x) : BExs a := by
  intro bb pb wb tb F nm v W sl rs w hB hs1 hP1 hE hW
  obtain ⟨hln, hlm⟩ := sl_len hs1
  have hl1 := hE.1
  have he1 := hE.2
  have hal : a.length ≤ 9223372036854775807 := by omega
  obtain ⟨la, lb, lc⟩ := sl
  simp only at hln
  rw [hl1] at hln
  subst hln
  have HCL := hide hB
  have HE1 := hide he1
  clear hB hE he1
  go_enter Tryd.func52, Tryd.ntmps52
  go_wp2
  go_loopw [10, 6, 7] (fun i _ _ wr => ∃ (j : Nat) (Wj : WS), j ≤ a.length ∧ i = .int .i64 j ∧ Hid (BI bb pb wb tb F nm v Wj wr ∧ Fr (fun k => k = wb) w wr ∧ exsC F.f nm a W = exsC F.f nm (a.drop j) Wj ∧ Wj.n + exsN (a.drop j) ≤ 100000)) (fun i _ _ _ => a.length - (intOf i).toNat)
  case atStart => exact ⟨0, W, Nat.zero_le _, rfl, HCL.out, Fr.refl _ _, rfl, hW⟩
  case round =>
    obtain ⟨j, Wj, hj, rfl, hR⟩ := hrel
    by_cases hjl : j < a.length
    · have hx : a[j]? = some a[j] := List.getElem?_eq_getElem hjl
      have hr : rs[j]? = some (rs[j]'(by omega)) := List.getElem?_eq_getElem _
      have hxm : a[j] ∈ a := List.getElem_mem hjl
      have hdr : a.drop j = a[j] :: a.drop (j + 1) := List.drop_eq_getElem_cons hjl
      generalize rs[j]'(by omega) = r at hr
      generalize a[j] = x at hx hxm hdr
      have hok := HE1.out j r x hr hx
      obtain ⟨g, o, hg, -, dg, p0, p1, p2, p3⟩ := sl_elem4 (s := ⟨la, a.length, lc⟩) hs1 hr
      simp only at hg
      subst hg
      have hgw : g ≠ wb := hP1 g rfl
      rw [← hR.out.2.1.cell (p := ⟨g, _, none⟩) dg hgw] at p0 p1 p2 p3
      have eg : g < wr.heap.size := Nat.lt_of_lt_of_le dg hR.out.2.1.size
      have hexs := hR.out.2.2.1
      rw [hdr, exsC_cons] at hexs
      have hcost : Wj.n + exN x + exsN (a.drop (j + 1)) ≤ 100000 := by
        have := hR.out.2.2.2
        rw [hdr, exsN] at this
        omega
      have hFA : Fr (fun k => k = wb) w (wr.alloc (eo r)) := hR.out.2.1.alloc _
      have HIH := hide (ih x hxm bb pb wb tb F nm v Wj r (wr.alloc (eo r)) (hR.out.1.fr (S := nothing) ((Fr.refl nothing wr).alloc _) id id id id) (ex_stays _ _ _ _ _ _ _ hok hFA (fun k hk e => hk e) (fun _ hk => hk)) (by omega))
      have hle := exC_le F.f nm x Wj
      generalize hq : exC F.f nm x Wj = q at HIH hexs hle
      have HEX := hide hexs
      have HFA := hide hFA
      clear hok hexs hFA hq hr hx
      obtain ⟨qe, qW⟩ := q
      simp only at HIH hle
      by_cases hq0 : qe = 0
      · subst hq0
        have HEX2 : Hid (exsC F.f nm a W = exsC F.f nm (a.drop (j + 1)) qW) := by
          show exsC F.f nm a W = _
          rw [HEX.out]; rfl
        go_wp2_with (go_at_call 59; refine HIH.out.mono ?_; rintro e w7 ⟨rfl, hf, hc⟩; have HC7 := hide (hc rfl); have HF7 := hide (HFA.out.trans hf); clear hf hc)
        go_roundw
        case rel => exact ⟨j + 1, qW, by omega, by go_num, HC7.out, HF7.out, HEX2.out, by omega⟩
        case measure => simp [intOf]; omega
      · have hq2 := ne_bne hq0
        have HEX2 : Hid (exsC F.f nm a W = ⟨qe, qW⟩) := by
          show exsC F.f nm a W = _
          rw [HEX.out]; exact or_bad hq0
        go_wp2_with (go_at_call 59; refine HIH.out.mono ?_; rintro e w7 ⟨rfl, hf, hc⟩; have HF7 := hide (HFA.out.trans hf); clear hf hc)
        go_ret
        rw [HEX2.out]
        exact ⟨rfl, HF7.out, fun e => absurd e hq0⟩
    · have hja : j = a.length := by omega
      have HEX2 : Hid (exsC F.f nm a W = ⟨0, Wj⟩) := by
        show exsC F.f nm a W = _
        rw [hR.out.2.2.1, hja, List.drop_length, exsC_nil]
      clear hja
      go_wp2
      go_ret
      rw [HEX2.out]
      exact ⟨rfl, hR.out.2.1, fun _ => hR.out.1⟩
theorem eo_cells {w w' : World} {r : RawE} {S : Nat → Prop} (hf : Fr S (w.alloc (eo r)) w') (hs : ¬ S w.heap.size) :
    w'.cell? ⟨w.heap.size, 0, none⟩ = some (.int .i64 r.k) ∧ w'.cell? ⟨w.heap.size, 2, none⟩ = some (.string (bs r.t)) ∧ w'.cell? ⟨w.heap.size, 3, none⟩ = some (.slice r.s.a r.s.n r.s.c) ∧ w.heap.size < w'.heap.size := by
  have hb := made_cells hf hs
  exact ⟨hb.1 0, hb.1 2, hb.1 3, hb.2.2⟩
set_option maxHeartbeats 1000000 in
set_option maxRecDepth 20000 in
theorem bexpr_leaf (k n : Int) (t : Bs) (_a : List Ex) (bb pb wb tb : Nat) (F : AMap) (nm : List Bs) (v : Int) (W : WS) (sl : Slc) (w : World) (h : BI bb pb wb tb F nm v W w) (ht : t.length ≤ 1500) (hk : k = 1 ∨ k = 9) :
    Calls Tryd.prog 59 #[.pointer (some ⟨bb, 0, none⟩), ev ⟨k, n, t, sl⟩] w fun e w' => e = .returned (.int .i64 0) ∧ Fr (fun k => k = wb) w w' ∧ BI bb pb wb tb F nm v W w' := by
  have hF0 : Fr nothing w (w.alloc (eo ⟨k, n, t, sl⟩)) := (Fr.refl _ w).alloc _
  have hB0 := h.fr hF0 id id id id
  obtain ⟨b0, b2, b3, hbl⟩ := eo_cells (Fr.refl nothing (w.alloc (eo ⟨k, n, t, sl⟩))) id
  have d1 := hB0.c1
  have dl := hB0.lt
  have HB0 := hide hB0
  have HF0 := hide (hF0.mono (S' := fun k => k = wb) (fun _ _ e => e.elim))
  have HKN := hide (fun w' (hb : BI bb pb wb tb F nm v W w') => known_any bb pb wb tb F nm v W t w' hb ht)
  have HCA := hide (fun w' (m : Nat) (hb : BI bb pb wb tb F nm v W w') => call_any bb pb wb tb F nm v W t m w' hb ht)
  clear h hF0 hB0
  generalize hwa : w.alloc (eo ⟨k, n, t, sl⟩) = wa at *
  go_enter Tryd.func59, Tryd.ntmps59
  rcases hk with hk | hk
  · have p1 : (k == 1) = true := by simpa using hk
    clear hk
    go_wp2
    all_goals go_ret
    all_goals exact ⟨rfl, HF0.out, HB0.out⟩
  · have p1 : (k == 1) = false := by rw [hk]; rfl
    have p9 : (k == 9) = true := by simpa using hk
    clear hk
    go_wp2
    all_goals go_ret
    all_goals exact ⟨rfl, HF0.out, HB0.out⟩
set_option maxHeartbeats 1000000 in
set_option maxRecDepth 20000 in
theorem bexpr_text (k n : Int) (t : Bs) (_a : List Ex) (bb pb wb tb : Nat) (F : AMap) (nm : List Bs) (v : Int) (W : WS) (sl : Slc) (w : World) (h : BI bb pb wb tb F nm v W w) (ht : t.length ≤ 1500) (hk : k = 2) (hW : W.n ≤ 100000) :
    Calls Tryd.prog 59 #[.pointer (some ⟨bb, 0, none⟩), ev ⟨k, n, t, sl⟩] w fun e w' => e = .returned (.int .i64 0) ∧ Fr (fun k => k = wb) w w' ∧ BI bb pb wb tb F nm v (W.add t) w' := by
  have hF0 : Fr nothing w (w.alloc (eo ⟨k, n, t, sl⟩)) := (Fr.refl _ w).alloc _
  have hB0 := h.fr hF0 id id id id
  obtain ⟨b0, b2, b3, hbl⟩ := eo_cells (Fr.refl nothing (w.alloc (eo ⟨k, n, t, sl⟩))) id
  have d1 := hB0.c1
  have dl := hB0.lt
  have HB0 := hide hB0
  have HF0 := hide (hF0.mono (S' := fun k => k = wb) (fun _ _ e => e.elim))
  have HKN := hide (fun w' (hb : BI bb pb wb tb F nm v W w') => known_any bb pb wb tb F nm v W t w' hb ht)
  have HCA := hide (fun w' (m : Nat) (hb : BI bb pb wb tb F nm v W w') => call_any bb pb wb tb F nm v W t m w' hb ht)
  have q1 : ¬ k = 1 := by omega
  have p1 : (k == 1) = false := by simpa using q1
  have q9 : ¬ k = 9 := by omega
  have p9 : (k == 9) = false := by simpa using q9
  have p2 : (k == 2) = true := by simpa using hk
  obtain ⟨c, rl, wt, rt, hB1, hF1⟩ := (hB0.fr (S := nothing) (Fr.refl nothing _).drew id id id id).text t ht hW
  have HB1 := hide hB1
  have HF1 := hide (HF0.out.drew.trans hF1)
  clear hk hB1 hF1
  clear h hF0 hB0
  generalize hwa : w.alloc (eo ⟨k, n, t, sl⟩) = wa at *
  go_enter Tryd.func59, Tryd.ntmps59
  go_wp2_with fail
  go_region
  all_goals go_wp2
  all_goals go_ret
  all_goals exact ⟨rfl, HF1.out, HB1.out⟩
set_option maxHeartbeats 1000000 in
set_option maxRecDepth 20000 in
theorem bexpr_name (k n : Int) (t : Bs) (_a : List Ex) (bb pb wb tb : Nat) (F : AMap) (nm : List Bs) (v : Int) (W : WS) (sl : Slc) (w : World) (h : BI bb pb wb tb F nm v W w) (ht : t.length ≤ 1500) (hk : k = 3) :
    Calls Tryd.prog 59 #[.pointer (some ⟨bb, 0, none⟩), ev ⟨k, n, t, sl⟩] w fun e w' => e = .returned (.int .i64 (knownE nm t)) ∧ Fr (fun k => k = wb) w w' ∧ BI bb pb wb tb F nm v W w' := by
  have hF0 : Fr nothing w (w.alloc (eo ⟨k, n, t, sl⟩)) := (Fr.refl _ w).alloc _
  have hB0 := h.fr hF0 id id id id
  obtain ⟨b0, b2, b3, hbl⟩ := eo_cells (Fr.refl nothing (w.alloc (eo ⟨k, n, t, sl⟩))) id
  have d1 := hB0.c1
  have dl := hB0.lt
  have HB0 := hide hB0
  have HF0 := hide (hF0.mono (S' := fun k => k = wb) (fun _ _ e => e.elim))
  have HKN := hide (fun w' (hb : BI bb pb wb tb F nm v W w') => known_any bb pb wb tb F nm v W t w' hb ht)
  have HCA := hide (fun w' (m : Nat) (hb : BI bb pb wb tb F nm v W w') => call_any bb pb wb tb F nm v W t m w' hb ht)
  have q1 : ¬ k = 1 := by omega
  have p1 : (k == 1) = false := by simpa using q1
  have q9 : ¬ k = 9 := by omega
  have p9 : (k == 9) = false := by simpa using q9
  have q2 : ¬ k = 2 := by omega
  have p2 : (k == 2) = false := by simpa using q2
  have p3 : (k == 3) = true := by simpa using hk
  clear hk
  clear h hF0 hB0
  generalize hwa : w.alloc (eo ⟨k, n, t, sl⟩) = wa at *
  go_enter Tryd.func59, Tryd.ntmps59
  go_wp2_with (go_at_call 54; refine (HKN.out _ HB0.out).mono ?_; rintro e w4 ⟨rfl, hw4⟩; have hw4' := hw4.symm; subst hw4'; clear hw4)
  all_goals go_ret
  all_goals exact ⟨rfl, HF0.out, HB0.out⟩
set_option maxHeartbeats 1000000 in
set_option maxRecDepth 20000 in
theorem bexpr_badcall (k n : Int) (t : Bs) (a : List Ex) (bb pb wb tb : Nat) (F : AMap) (nm : List Bs) (v : Int) (W : WS) (sl : Slc) (w : World) (h : BI bb pb wb tb F nm v W w) (ht : t.length ≤ 1500) (hk : k = 11) (hn : sl.n = a.length) (hc : callE F.f t a.length ≠ 0) :
    Calls Tryd.prog 59 #[.pointer (some ⟨bb, 0, none⟩), ev ⟨k, n, t, sl⟩] w fun e w' => e = .returned (.int .i64 (callE F.f t a.length)) ∧ Fr (fun k => k = wb) w w' := by
  obtain ⟨la, lb, lc⟩ := sl
  simp only at hn
  subst hn
  have hF0 : Fr nothing w (w.alloc (eo ⟨k, n, t, ⟨la, a.length, lc⟩⟩)) := (Fr.refl _ w).alloc _
  have hB0 := h.fr hF0 id id id id
  obtain ⟨b0, b2, b3, hbl⟩ := eo_cells (Fr.refl nothing (w.alloc (eo ⟨k, n, t, ⟨la, a.length, lc⟩⟩))) id
  have d1 := hB0.c1
  have dl := hB0.lt
  have HB0 := hide hB0
  have HF0 := hide (hF0.mono (S' := fun k => k = wb) (fun _ _ e => e.elim))
  have HKN := hide (fun w' (hb : BI bb pb wb tb F nm v W w') => known_any bb pb wb tb F nm v W t w' hb ht)
  have HCA := hide (fun w' (m : Nat) (hb : BI bb pb wb tb F nm v W w') => call_any bb pb wb tb F nm v W t m w' hb ht)
  have q1 : ¬ k = 1 := by omega
  have p1 : (k == 1) = false := by simpa using q1
  have q9 : ¬ k = 9 := by omega
  have p9 : (k == 9) = false := by simpa using q9
  have q2 : ¬ k = 2 := by omega
  have p2 : (k == 2) = false := by simpa using q2
  have q3 : ¬ k = 3 := by omega
  have p3 : (k == 3) = false := by simpa using q3
  have p11 : (k == 11) = true := by simpa using hk
  have hc2 := ne_bne hc
  clear hk
  clear h hF0 hB0
  generalize hwa : w.alloc (eo ⟨k, n, t, ⟨la, a.length, lc⟩⟩) = wa at *
  go_enter Tryd.func59, Tryd.ntmps59
  go_wp2_with (go_at_call 65; refine (HCA.out _ _ HB0.out).mono ?_; rintro e w4 ⟨rfl, hw4⟩; have hw4' := hw4.symm; subst hw4'; clear hw4)
  all_goals go_ret
  all_goals exact ⟨rfl, HF0.out⟩
set_option maxHeartbeats 1000000 in
set_option maxRecDepth 20000 in
theorem bexpr_call (k n : Int) (t : Bs) (a : List Ex) (bb pb wb tb : Nat) (F : AMap) (nm : List Bs) (v : Int) (W : WS) (sl : Slc) (w : World) (h : BI bb pb wb tb F nm v W w) (ht : t.length ≤ 1500) (hk : k = 11) (hn : sl.n = a.length) (hc0 : callE F.f t a.length = 0) (hE : ∀ w', Fr (fun k => k = wb) w w' → BI bb pb wb tb F nm v W w' → Calls Tryd.prog 52 #[.pointer (some ⟨bb, 0, none⟩), .slice sl.a sl.n sl.c] w' fun e w'' => e = .returned (.int .i64 (exsC F.f nm a W).e) ∧ Fr (fun k => k = wb) w' w'' ∧ ((exsC F.f nm a W).e = 0 → BI bb pb wb tb F nm v (exsC F.f nm a W).W w'')) :
    Calls Tryd.prog 59 #[.pointer (some ⟨bb, 0, none⟩), ev ⟨k, n, t, sl⟩] w fun e w' => e = .returned (.int .i64 (exsC F.f nm a W).e) ∧ Fr (fun k => k = wb) w w' ∧ ((exsC F.f nm a W).e = 0 → BI bb pb wb tb F nm v (exsC F.f nm a W).W w') := by
  obtain ⟨la, lb, lc⟩ := sl
  simp only at hn hE
  subst hn
  have hF0 : Fr nothing w (w.alloc (eo ⟨k, n, t, ⟨la, a.length, lc⟩⟩)) := (Fr.refl _ w).alloc _
  have hB0 := h.fr hF0 id id id id
  obtain ⟨b0, b2, b3, hbl⟩ := eo_cells (Fr.refl nothing (w.alloc (eo ⟨k, n, t, ⟨la, a.length, lc⟩⟩))) id
  have d1 := hB0.c1
  have dl := hB0.lt
  have HB0 := hide hB0
  have HF0 := hide (hF0.mono (S' := fun k => k = wb) (fun _ _ e => e.elim))
  have HKN := hide (fun w' (hb : BI bb pb wb tb F nm v W w') => known_any bb pb wb tb F nm v W t w' hb ht)
  have HCA := hide (fun w' (m : Nat) (hb : BI bb pb wb tb F nm v W w') => call_any bb pb wb tb F nm v W t m w' hb ht)
  have q1 : ¬ k = 1 := by omega
  have p1 : (k == 1) = false := by simpa using q1
  have q9 : ¬ k = 9 := by omega
  have p9 : (k == 9) = false := by simpa using q9
  have q2 : ¬ k = 2 := by omega
  have p2 : (k == 2) = false := by simpa using q2
  have q3 : ¬ k = 3 := by omega
  have p3 : (k == 3) = false := by simpa using q3
  have p11 : (k == 11) = true := by simpa using hk
  have HEX := hide (hE _ HF0.out HB0.out)
  clear hE
  generalize exsC F.f nm a W = qq at *
  have HCB := hide (HCA.out _ a.length HB0.out)
  rw [hc0] at HCB
  clear hk
  clear h hF0 hB0
  generalize hwa : w.alloc (eo ⟨k, n, t, ⟨la, a.length, lc⟩⟩) = wa at *
  go_enter Tryd.func59, Tryd.ntmps59
  go_wp2_with (first | (go_at_call 65; refine HCB.out.mono ?_; rintro e w4 ⟨rfl, hw4⟩; have hw4' := hw4.symm; subst hw4'; clear hw4) | (go_at_call 52; refine HEX.out.mono ?_; rintro e w7 ⟨rfl, hf, hc⟩; have HF7 := hide (HF0.out.trans hf); have HC7 := hide hc; clear hf hc))
  all_goals go_ret
  all_goals exact ⟨rfl, HF7.out, HC7.out⟩
set_option maxHeartbeats 1000000 in
set_option maxRecDepth 20000 in
theorem bexpr_else (k n : Int) (t : Bs) (a : List Ex) (bb pb wb tb : Nat) (F : AMap) (nm : List Bs) (v : Int) (W : WS) (sl : Slc) (w : World) (h : BI bb pb wb tb F nm v W w) (ht : t.length ≤ 1500) (h1 : k ≠ 1) (h9 : k ≠ 9) (h2 : k ≠ 2) (h3 : k ≠ 3) (h11 : k ≠ 11) (hE : ∀ w', Fr (fun k => k = wb) w w' → BI bb pb wb tb F nm v W w' → Calls Tryd.prog 52 #[.pointer (some ⟨bb, 0, none⟩), .slice sl.a sl.n sl.c] w' fun e w'' => e = .returned (.int .i64 (exsC F.f nm a W).e) ∧ Fr (fun k => k = wb) w' w'' ∧ ((exsC F.f nm a W).e = 0 → BI bb pb wb tb F nm v (exsC F.f nm a W).W w'')) :
    Calls Tryd.prog 59 #[.pointer (some ⟨bb, 0, none⟩), ev ⟨k, n, t, sl⟩] w fun e w' => e = .returned (.int .i64 (exsC F.f nm a W).e) ∧ Fr (fun k => k = wb) w w' ∧ ((exsC F.f nm a W).e = 0 → BI bb pb wb tb F nm v (exsC F.f nm a W).W w') := by
  have hF0 : Fr nothing w (w.alloc (eo ⟨k, n, t, sl⟩)) := (Fr.refl _ w).alloc _
  have hB0 := h.fr hF0 id id id id
  obtain ⟨b0, b2, b3, hbl⟩ := eo_cells (Fr.refl nothing (w.alloc (eo ⟨k, n, t, sl⟩))) id
  have d1 := hB0.c1
  have dl := hB0.lt
  have HB0 := hide hB0
  have HF0 := hide (hF0.mono (S' := fun k => k = wb) (fun _ _ e => e.elim))
  have HKN := hide (fun w' (hb : BI bb pb wb tb F nm v W w') => known_any bb pb wb tb F nm v W t w' hb ht)
  have HCA := hide (fun w' (m : Nat) (hb : BI bb pb wb tb F nm v W w') => call_any bb pb wb tb F nm v W t m w' hb ht)
  have q1 : ¬ k = 1 := by omega
  have p1 : (k == 1) = false := by simpa using q1
  have q9 : ¬ k = 9 := by omega
  have p9 : (k == 9) = false := by simpa using q9
  have q2 : ¬ k = 2 := by omega
  have p2 : (k == 2) = false := by simpa using q2
  have q3 : ¬ k = 3 := by omega
  have p3 : (k == 3) = false := by simpa using q3
  have q11 : ¬ k = 11 := by omega
  have p11 : (k == 11) = false := by simpa using q11
  have HEX := hide (hE _ HF0.out HB0.out)
  clear hE
  generalize exsC F.f nm a W = qq at *
  clear h hF0 hB0
  generalize hwa : w.alloc (eo ⟨k, n, t, sl⟩) = wa at *
  go_enter Tryd.func59, Tryd.ntmps59
  go_wp2_with (go_at_call 52; refine HEX.out.mono ?_; rintro e w7 ⟨rfl, hf, hc⟩; have HF7 := hide (HF0.out.trans hf); have HC7 := hide hc; clear hf hc)
  all_goals go_ret
  all_goals exact ⟨rfl, HF7.out, HC7.out⟩
theorem exE_call (F : Bs → Option Int) (nm : List Bs) {k : Int} (t : Bs) (n : Nat) (hk : k = 11) : exE F nm k t n = callE F t n := by
  unfold exE callE
  rw [if_neg (by omega), if_pos hk]
  cases F t <;> rfl
theorem exE_name (F : Bs → Option Int) (nm : List Bs) {k : Int} (t : Bs) (n : Nat) (hk : k = 3) : exE F nm k t n = knownE nm t := by
  unfold exE knownE
  rw [if_pos hk]
theorem bexpr_any (x : Ex) (hx : ExSh x) : BEx x := by
  induction hx with
  | @mk k n t a h1 h2 _ ih =>
    intro bb pb wb tb F nm v W r w hC hE hW
    cases hE with
    | mk _ _ _ sl rs _ hs1 hP1 hl1 he1 =>
    have hXS : ∀ W1 : WS, W1.n + exsN a ≤ 100000 → ∀ w', Fr (fun k => k = wb) w w' → BI bb pb wb tb F nm v W1 w' → Calls Tryd.prog 52 #[.pointer (some ⟨bb, 0, none⟩), .slice sl.a sl.n sl.c] w' fun e w'' => e = .returned (.int .i64 (exsC F.f nm a W1).e) ∧ Fr (fun k => k = wb) w' w'' ∧ ((exsC F.f nm a W1).e = 0 → BI bb pb wb tb F nm v (exsC F.f nm a W1).W w'') := fun W1 hW1 w' hf hb =>
      exprs_any a ih bb pb wb tb F nm v W1 sl rs w' hb (hs1.keep hf hP1 (fun k hk e => hk e)) hP1 ⟨hl1, fun i r x a b => ex_stays _ _ _ _ _ _ _ (he1 i r x a b) hf (fun k hk e => hk e) (fun _ hk => hk)⟩ hW1
    have hcost : W.n + exsN a ≤ 100000 := by rw [exN] at hW; omega
    have hsn : sl.n = a.length := by rw [(sl_len hs1).1, hl1]
    rw [exC_mk]
    by_cases k3 : k = 3
    · have ha := h1 (by omega)
      subst ha
      have e2 : exW k t W = W := by simp [exW, k3]
      rw [exE_name _ _ _ _ k3, e2]
      refine (bexpr_name k n t [] bb pb wb tb F nm v W sl w hC h2 k3).mono fun e w' hh => ?_
      by_cases hk0 : knownE nm t = 0
      · rw [hk0] at hh ⊢
        rw [or_ok rfl, exsC_nil]
        exact ⟨hh.1, hh.2.1, fun _ => hh.2.2⟩
      · rw [or_bad hk0]
        exact ⟨hh.1, hh.2.1, fun h0 => absurd h0 hk0⟩
    · by_cases k11 : k = 11
      · have e2 : exW k t W = W := by simp [exW, k11]
        rw [exE_call _ _ _ _ k11, e2]
        by_cases hc : callE F.f t a.length = 0
        · rw [hc, or_ok rfl]
          exact bexpr_call k n t a bb pb wb tb F nm v W sl w hC h2 k11 hsn hc (hXS W hcost)
        · rw [or_bad hc]
          exact (bexpr_badcall k n t a bb pb wb tb F nm v W sl w hC h2 k11 hsn hc).mono fun e w' hh => ⟨hh.1, hh.2, fun h0 => absurd h0 hc⟩
      · have e1 : exE F.f nm k t a.length = 0 := by simp [exE, k3, k11]
        rw [e1]
        by_cases k2 : k = 2
        · have ha := h1 (by omega)
          subst ha
          have e2 : exW k t W = W.add t := by simp [exW, k2]
          rw [e2, or_ok rfl, exsC_nil]
          exact (bexpr_text k n t [] bb pb wb tb F nm v W sl w hC h2 k2 (by omega)).mono fun e w' hh => ⟨hh.1, hh.2.1, fun _ => hh.2.2⟩
        · have e2 : exW k t W = W := by simp [exW, k2]
          rw [e2]
          by_cases k19 : k = 1 ∨ k = 9
          · have ha := h1 (by omega)
            subst ha
            rw [or_ok rfl, exsC_nil]
            exact (bexpr_leaf k n t [] bb pb wb tb F nm v W sl w hC h2 k19).mono fun e w' hh => ⟨hh.1, hh.2.1, fun _ => hh.2.2⟩
          · rw [or_ok rfl]
            exact bexpr_else k n t a bb pb wb tb F nm v W sl w hC h2 (by omega) (by omega) k2 k3 k11 (hXS W hcost)
end Go.Proofs.YtkmdamljhagogaaDoor
