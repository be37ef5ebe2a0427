/- KMake2; VH0; VFlow; Pt. -/
import Derived.Laws.OwnMore
import Derived.Test.YtkmdamljhagogaaDoorPartR18
import Derived.Test.YtkmdamljhagogaaDoorPartR11
import Derived.Test.YtkmdamljhagogaaDoorPartR17
section
/- Package code: Make, its walk. -/
set_option maxHeartbeats 0
set_option maxRecDepth 100000
namespace Go.Proofs.YtkmdamljhagogaaDoor
open Go Go.RowKit
theorem sizeCd : (Tryd.prog.info? 40).map (fun i => (i.zero, i.size, i.bytes)) = some (some (.agg #[.int .i64 0, .int .i64 0, .slice none 0 0]), 3, 40) := by kernel_rfl
/-- Of each function: what Make wants. -/
structure FnM (f : Fn) : Prop where
  sh : FnSh f
  kd : stsKd f.b
  u : stsU (fun _ _ => True) f.b f.p
  p : f.p.length ≤ 4
def idxM (A : AMap) (f : Fn) (i : Nat) : AMap := A.put f.t i
theorem idx_step {A : AMap} {G : Bs → Int} (h : ∀ t, (A.f t).getD 0 = G t) (t : Bs) (i : Nat) : ∀ x, ((A.put t i).f x).getD 0 = upd G t i x := by
  intro x
  unfold AMap.put upd
  dsimp only
  by_cases e : x = t
  · simp [e]
  · rw [if_neg e, if_neg e]; exact h x
theorem make_any (l : List Fn) (s : Slc) (rs : List RawF) (w : World) (hS : Sl encG 3 w s.v rs) (hE : Each (FnOk w (fun k => k < w.heap.size)) rs l) (hM : ∀ f ∈ l, FnM f) (hN : fnsN l ≤ 50000) (h5 : l.length ≤ 5) :
    Calls Tryd.prog 13 #[.slice s.a s.n s.c] w (MkP w (progK l)) := by
  obtain ⟨hln, hlm⟩ := sl_len hS
  obtain ⟨la, ln, lc⟩ := s
  simp only at hln
  rw [hE.1] at hln
  subst hln
  have hll : l.length ≤ 9223372036854775807 := by have := hE.1; omega
  have HS := hide hS
  have HE := hide hE
  have hmm := @run_makeMap Tryd.prog
  have HF0 : Hid (Fr nothing w (((w.alloc (.cells #[.slice none 0 0, .slice none 0 0] 34)).alloc (.cells #[.slice none 0 0, .slice none 0 0] 34)).alloc (.map #[] 0))) := (((Fr.refl _ _).alloc _).alloc _).alloc _
  have HM0 := hide (SI.made ((w.alloc (.cells #[.slice none 0 0, .slice none 0 0] 34)).alloc (.cells #[.slice none 0 0, .slice none 0 0] 34)))
  have HRB := hide (made_cells (((Fr.refl nothing (w.alloc (.cells #[.slice none 0 0, .slice none 0 0] 34))).alloc (.cells #[.slice none 0 0, .slice none 0 0] 34)).alloc (.map #[] 0)) id)
  have HPB := hide (made_cells ((Fr.refl nothing ((w.alloc (.cells #[.slice none 0 0, .slice none 0 0] 34)).alloc (.cells #[.slice none 0 0, .slice none 0 0] 34))).alloc (.map #[] 0)) id)
  have s1 : (w.alloc (.cells #[.slice none 0 0, .slice none 0 0] 34)).heap.size = w.heap.size + 1 := by simp
  have s2 : ((w.alloc (.cells #[.slice none 0 0, .slice none 0 0] 34)).alloc (.cells #[.slice none 0 0, .slice none 0 0] 34)).heap.size = w.heap.size + 1 + 1 := by simp
  rw [s1] at HPB
  rw [s2] at HM0
  clear hS hE s1 s2
  go_enter Tryd.func13, Tryd.ntmps13
  go_wp2
  generalize ((w.alloc (.cells #[.slice none 0 0, .slice none 0 0] 34)).alloc (.cells #[.slice none 0 0, .slice none 0 0] 34)).alloc (.map #[] 0) = w3 at HF0 HM0 HRB HPB ⊢
  obtain ⟨fb, hfb⟩ : ∃ x, x = w.heap.size + 1 + 1 := ⟨_, rfl⟩
  rw [← hfb] at HM0
  rw [← hfb]
  have HFB := hide hfb
  clear hfb
  go_loopw [17, 6, 7] (fun i _ _ wr => ∃ (j : Nat), j ≤ l.length ∧ i = .int .i64 j ∧ Hid (∃ (A : AMap) (G : Bs → Int), SI fb A wr ∧ (∀ t, (A.f t).getD 0 = G t) ∧ A.n ≤ j ∧ Fr (fun k => k = fb) w3 wr ∧ idxG l 0 (fun _ => 0) = idxG (l.drop j) j G)) (fun i _ _ _ => l.length - (intOf i).toNat)
  case atStart => exact ⟨0, Nat.zero_le _, rfl, AMap.empty, fun _ => 0, HM0.out, fun _ => rfl, Nat.le_refl _, Fr.refl _ _, rfl⟩
  case round =>
    obtain ⟨j, hj, rfl, hR⟩ := hrel
    by_cases hjl : j < l.length
    · have hx : l[j]? = some l[j] := List.getElem?_eq_getElem hjl
      have hr : rs[j]? = some (rs[j]'(by rw [HE.out.1]; omega)) := List.getElem?_eq_getElem _
      have hxm : l[j] ∈ l := List.getElem_mem hjl
      have hdr : l.drop j = l[j] :: l.drop (j + 1) := List.drop_eq_getElem_cons hjl
      generalize rs[j]'(by rw [HE.out.1]; omega) = r at hr
      generalize l[j] = f at hx hxm hdr
      have hok := HE.out.2 j r f hr hx
      obtain ⟨g, o, hg, dg, p0, p1, p2⟩ := sl_elem3 (s := ⟨la, l.length, lc⟩) HS.out hr
      simp only at hg
      subst hg
      obtain ⟨A, G, hA, hG, hAn, hFj, hEq⟩ := hR.out
      have hF0r : Fr nothing w wr := HF0.out.then hFj (fun k hk e => by have := HFB.out; omega)
      rw [← hF0r.cell (p := ⟨g, _, none⟩) dg id] at p0 p1 p2
      have eg : g < wr.heap.size := Nat.lt_of_lt_of_le dg hF0r.size
      rw [hdr, idxG] at hEq
      have hft := (hM f hxm).sh.t
      have hFA : Fr nothing wr (wr.alloc (fo r)) := (Fr.refl _ _).alloc _
      have hrt := hok.t
      obtain ⟨rt, rp, rb⟩ := r
      simp only at hrt p0 p1 p2
      subst hrt
      obtain ⟨y0, y1, y2, yl⟩ := fo_cells (Fr.refl nothing (wr.alloc (fo ⟨f.t, rp, rb⟩))) id
      obtain ⟨wu, ru, hA2, hfu⟩ := (hA.fr hFA id).store f.t (by omega) (j : Nat) (by omega) (by omega) (by omega)
      have HNX := hide (show ∃ (A : AMap) (G : Bs → Int), SI fb A wu ∧ (∀ t, (A.f t).getD 0 = G t) ∧ A.n ≤ j + 1 ∧ Fr (fun k => k = fb) w3 wu ∧ idxG l 0 (fun _ => 0) = idxG (l.drop (j + 1)) (j + 1) G from ⟨A.put f.t j, upd G f.t j, hA2, idx_step hG f.t j, by unfold AMap.put; dsimp only; split <;> omega, (hFj.trans (hFA.mono (fun _ _ e => e.elim))).trans hfu, hEq⟩)
      clear hR hA hG hAn hFj hF0r hEq hFA hok hA2 hfu hr hx
      generalize hwa : wr.alloc (fo ⟨f.t, rp, rb⟩) = wa at *
      go_wp2
      go_roundw
      case rel => exact ⟨j + 1, by omega, by go_num, HNX.out⟩
      case measure => simp [intOf]; omega
    · have hje : j = l.length := by omega
      obtain ⟨A, G, hA, hG, hAn, hFj, hEq⟩ := hR.out
      rw [hje, List.drop_length, idxG] at hEq
      have hszr := hFj.size
      have hsz3 := HF0.out.size
      have hw3 : w.heap.size + 1 < w3.heap.size := HPB.out.2.2
      have hfbl := hA.lt
      have hfbe := HFB.out
      have HNB := hide (numbering_any (w.heap.size + 1) wr)
      -- the closure's blocks
      obtain ⟨w4, hw4⟩ : ∃ w4, w4 = ((wr.alloc (.cells #[.pointer (some ⟨w.heap.size + 1, 1, none⟩)] 71)).alloc (.map #[] 0)).alloc (.cells #[.map (some (wr.heap.size + 1))] 55) := ⟨_, rfl⟩
      have t1 : (wr.alloc (.cells #[.pointer (some ⟨w.heap.size + 1, 1, none⟩)] 71)).heap.size = wr.heap.size + 1 := by simp
      have t2 : ((wr.alloc (.cells #[.pointer (some ⟨w.heap.size + 1, 1, none⟩)] 71)).alloc (.map #[] 0)).heap.size = wr.heap.size + 1 + 1 := by simp
      have hF4 : Fr nothing wr w4 := by rw [hw4]; exact (((Fr.refl _ _).alloc _).alloc _).alloc _
      have cj := (made_cells (((Fr.refl nothing (wr.alloc (.cells #[.pointer (some ⟨w.heap.size + 1, 1, none⟩)] 71))).alloc (.map #[] 0)).alloc (.cells #[.map (some (wr.heap.size + 1))] 55)) id)
      have ck := made_cells (Fr.refl nothing (((wr.alloc (.cells #[.pointer (some ⟨w.heap.size + 1, 1, none⟩)] 71)).alloc (.map #[] 0)).alloc (.cells #[.map (some (wr.heap.size + 1))] 55))) id
      rw [t2] at ck
      have cn := (SI.made (wr.alloc (.cells #[.pointer (some ⟨w.heap.size + 1, 1, none⟩)] 71))).fr ((Fr.refl nothing ((wr.alloc (.cells #[.pointer (some ⟨w.heap.size + 1, 1, none⟩)] 71)).alloc (.map #[] 0))).alloc (.cells #[.map (some (wr.heap.size + 1))] 55)) id
      rw [t1] at cn
      rw [← hw4] at cj ck cn
      have np : ¬ w.heap.size + 1 = fb := by omega
      have nr : ¬ w.heap.size = fb := by omega
      have hp : ∀ j, w4.cell? ⟨w.heap.size + 1, j, none⟩ = (#[Value.slice none 0 0, .slice none 0 0])[j]? := fun j => (hF4.cell (p := ⟨w.heap.size + 1, j, none⟩) (Nat.lt_of_lt_of_le hw3 hszr) id).trans ((hFj.cell (p := ⟨w.heap.size + 1, j, none⟩) hw3 np).trans (HPB.out.1 j))
      have hpz : ∀ j, w4.frozen? ⟨w.heap.size + 1, j, none⟩ = false := fun j => (hF4.frozen (p := ⟨w.heap.size + 1, j, none⟩) (Nat.lt_of_lt_of_le hw3 hszr) id).trans ((hFj.frozen (p := ⟨w.heap.size + 1, j, none⟩) hw3 np).trans (HPB.out.2.1 j))
      have hrb : ∀ j, w4.cell? ⟨w.heap.size, j, none⟩ = (#[Value.slice none 0 0, .slice none 0 0])[j]? := fun j => (hF4.cell (p := ⟨w.heap.size, j, none⟩) (Nat.lt_of_lt_of_le HRB.out.2.2 hszr) id).trans ((hFj.cell (p := ⟨w.heap.size, j, none⟩) HRB.out.2.2 nr).trans (HRB.out.1 j))
      have hrz : ∀ j, w4.frozen? ⟨w.heap.size, j, none⟩ = false := fun j => (hF4.frozen (p := ⟨w.heap.size, j, none⟩) (Nat.lt_of_lt_of_le HRB.out.2.2 hszr) id).trans ((hFj.frozen (p := ⟨w.heap.size, j, none⟩) HRB.out.2.2 nr).trans (HRB.out.2.1 j))
      obtain ⟨m, hm⟩ : ∃ m : Mk, m = ⟨fb, wr.heap.size + 1 + 1, wr.heap.size, wr.heap.size + 1, w.heap.size + 1, w.heap.size + 1⟩ := ⟨_, rfl⟩
      have hMI : MI m G [] [] w4 := by
        rw [hm]
        refine MI.made ⟨A, hA.fr hF4 id, hG⟩ (ck.1 0) (cj.1 0) cn hpz ?_ (hp 0) (hp 1) ⟨?_, ?_, ?_, ?_, ?_, ?_, ?_⟩
        · show w.heap.size + 1 ≤ _; have := hF4.size; omega
        all_goals (simp only; omega)
      have hF04 : Fr nothing w w4 := (HF0.out.then hFj (fun k hk e => by omega)).trans hF4
      have HMI := hide hMI
      have HF04 := hide hF04
      have HRC := hide (And.intro hrb hrz)
      have HEQ : Hid (progK l = makeK G l ⟨[], []⟩) := by show progK l = _; unfold progK; rw [hEq]
      have HM := hide hm
      have hml : wr.heap.size + 1 + 1 < w4.heap.size := ck.2.2
      rw [← hw4] at HNB
      have hws : w.heap.size + 1 < wr.heap.size := by omega
      clear hR hje hA hG hAn hFj hEq hszr hsz3 hw3 hfbl hfbe t1 t2 hF4 cj ck cn np nr hp hpz hrb hrz hMI hF04 hm HRB HPB HF0 HM0 hw4
      go_wp2_with (go_at_call 29; refine HNB.out.mono ?_; rintro e w5 ⟨rfl, hw5⟩; have hw5' := hw5.symm; subst hw5'; clear hw5)
      obtain ⟨kb, hkb⟩ : ∃ x, x = wr.heap.size + 1 + 1 := ⟨_, rfl⟩
      obtain ⟨nb, hnb⟩ : ∃ x, x = wr.heap.size + 1 := ⟨_, rfl⟩
      obtain ⟨jb, hjb⟩ : ∃ x, x = wr.heap.size := ⟨_, rfl⟩
      obtain ⟨pb, hpb⟩ : ∃ x, x = w.heap.size + 1 := ⟨_, rfl⟩
      obtain ⟨rb0, hrb0⟩ : ∃ x, x = w.heap.size := ⟨_, rfl⟩
      have hm := HM.out
      rw [← hkb, ← hnb, ← hjb, ← hpb] at hm
      subst hm
      have HNUM : Hid (w.heap.size < nb ∧ pb = w.heap.size + 1 ∧ rb0 = w.heap.size ∧ rb0 < w4.heap.size ∧ rb0 ≠ nb ∧ rb0 ≠ pb) := by show _ ∧ _; omega
      rw [← hrb0] at HRC
      rw [← hkb, ← hjb, ← hpb, ← hrb0]
      clear HM hkb hnb hjb hpb hrb0 hml hws HNB
      go_loopw [31, 10, 11, 12, 13] (fun i _ _ _ _ wv => ∃ (k : Nat), k ≤ l.length ∧ i = .int .i64 k ∧ Hid (∃ (cs : List Cd) (ws : List Bs), MI ⟨fb, kb, jb, nb, pb, pb⟩ G cs ws wv ∧ Fr nothing w wv ∧ rb0 < wv.heap.size ∧ (∀ j, wv.cell? ⟨rb0, j, none⟩ = (#[Value.slice none 0 0, .slice none 0 0])[j]?) ∧ (∀ j, wv.frozen? ⟨rb0, j, none⟩ = false) ∧ progK l = makeK G (l.drop k) ⟨cs, ws⟩ ∧ cs.length = k ∧ ws.length + fnsN (l.drop k) ≤ 50000)) (fun i _ _ _ _ _ => l.length - (intOf i).toNat)
      case atStart => exact ⟨0, Nat.zero_le _, rfl, [], [], HMI.out, HF04.out, HNUM.out.2.2.2.1, HRC.out.1, HRC.out.2, HEQ.out, rfl, by rw [List.drop_zero]; simpa using hN⟩
      case round =>
        obtain ⟨k, hk, rfl, hR⟩ := hrel
        by_cases hkl : k < l.length
        · have hx : l[k]? = some l[k] := List.getElem?_eq_getElem hkl
          have hr : rs[k]? = some (rs[k]'(by rw [HE.out.1]; omega)) := List.getElem?_eq_getElem _
          have hxm : l[k] ∈ l := List.getElem_mem hkl
          have hdr : l.drop k = l[k] :: l.drop (k + 1) := List.drop_eq_getElem_cons hkl
          generalize rs[k]'(by rw [HE.out.1]; omega) = r at hr
          generalize l[k] = f at hx hxm hdr
          have hok := HE.out.2 k r f hr hx
          obtain ⟨g, o, hg, dg, p0, p1, p2⟩ := sl_elem3 (s := ⟨la, l.length, lc⟩) HS.out hr
          simp only at hg
          subst hg
          obtain ⟨cs, ws, hMI, hFk, hrl, hrc, hrz, hEq, hcl, hNk⟩ := hR.out
          rw [← hFk.cell (p := ⟨g, _, none⟩) dg id] at p0 p1 p2
          have eg : g < wr.heap.size := Nat.lt_of_lt_of_le dg hFk.size
          rw [hdr, makeK] at hEq
          have hNk' : ws.length + (f.p.length + stsN f.b) + fnsN (l.drop (k + 1)) ≤ 50000 := by
            rw [hdr] at hNk; unfold fnsN at hNk ⊢; simp only [List.map_cons, List.sum_cons] at hNk; omega
          have hFM := hM f hxm
          obtain ⟨sc, sw, rsc, r1, r2, r3, r4, r5, r6, r7⟩ := hMI.rows
          simp only at r1 r2 r3 r4
          have hnum := HNUM.out
          -- the new blocks
          have u1 : (wr.alloc (fo r)).heap.size = wr.heap.size + 1 := by simp
          have u2 : ((wr.alloc (fo r)).alloc (.map #[] 0)).heap.size = wr.heap.size + 1 + 1 := by simp
          obtain ⟨w7, hw7⟩ : ∃ w7, w7 = ((wr.alloc (fo r)).alloc (.map #[] 0)).alloc (.cells #[.map (some fb), .func (.func 41) #[] #[.pointer (some ⟨kb, 0, none⟩), .pointer (some ⟨jb, 0, none⟩)], .map (some (wr.heap.size + 1)), .int .i64 0, .int .i64 0, .slice none 0 0] 74) := ⟨_, rfl⟩
          have hF7 : Fr nothing wr w7 := by rw [hw7]; exact (((Fr.refl _ _).alloc _).alloc _).alloc _
          have hV := (SI.made (wr.alloc (fo r))).fr ((Fr.refl nothing ((wr.alloc (fo r)).alloc (.map #[] 0))).alloc (.cells #[.map (some fb), .func (.func 41) #[] #[.pointer (some ⟨kb, 0, none⟩), .pointer (some ⟨jb, 0, none⟩)], .map (some (wr.heap.size + 1)), .int .i64 0, .int .i64 0, .slice none 0 0] 74)) id
          have hcw := made_cells (Fr.refl nothing (((wr.alloc (fo r)).alloc (.map #[] 0)).alloc (.cells #[.map (some fb), .func (.func 41) #[] #[.pointer (some ⟨kb, 0, none⟩), .pointer (some ⟨jb, 0, none⟩)], .map (some (wr.heap.size + 1)), .int .i64 0, .int .i64 0, .slice none 0 0] 74))) id
          have hfo := fo_cells (((Fr.refl nothing (wr.alloc (fo r))).alloc (.map #[] 0)).alloc (.cells #[.map (some fb), .func (.func 41) #[] #[.pointer (some ⟨kb, 0, none⟩), .pointer (some ⟨jb, 0, none⟩)], .map (some (wr.heap.size + 1)), .int .i64 0, .int .i64 0, .slice none 0 0] 74)) id
          rw [u1] at hV
          rw [u2] at hcw
          rw [← hw7] at hV hcw hfo
          obtain ⟨T, s, hK7, hFresh, hT, hT2⟩ := hMI.writer (sc := sc) r1 hF7 (vb := wr.heap.size + 1) (wb := wr.heap.size + 1 + 1) (by omega) (by omega) (by omega) hV hcw.1 hcw.2.1 hcw.2.2
          simp only at hT hK7
          have hlow : ∀ b, b ≤ w.heap.size → b ≠ pb → b < wr.heap.size → ¬ T b := by
            intro b hb h1 h2 e
            rcases hT b e with e | e | ⟨sw2, e1, e2⟩ | e
            · omega
            · exact h1 e
            · have e3 : sw2.v = sw.v := by rw [r3] at e1; exact (Option.some.inj e1).symm
              rw [e3] at e2
              have := (r4.lt b e2).1
              omega
            · omega
          have hF07 : Fr nothing w w7 := hFk.trans hF7
          have hok7 : FnOk w7 (ap T w7) r f := fn_stays _ _ _ _ _ _ _ hok hF07 (fun _ _ => id) (fun b hb => ⟨hlow b (by omega) (by omega) (by have := hFk.size; omega), by have := hF07.size; omega⟩)
          have HFN := hide (wfunction_any f ⟨wr.heap.size + 1 + 1, fb, wr.heap.size + 1, kb, jb, nb, pb, pb, sc.v⟩ G T s ws w7 hK7 hFresh r hok7 hFM.sh hFM.kd hFM.u hFM.p (by omega) (by omega))
          have nrb : ¬ T rb0 := hlow rb0 (by omega) (by omega) hrl
          have rl7 := Nat.lt_of_lt_of_le hrl hF7.size
          have rc7 : ∀ j, w7.cell? ⟨rb0, j, none⟩ = (#[Value.slice none 0 0, .slice none 0 0])[j]? := fun j => (hF7.cell (p := ⟨rb0, j, none⟩) hrl id).trans (hrc j)
          have rz7 : ∀ j, w7.frozen? ⟨rb0, j, none⟩ = false := fun j => (hF7.frozen (p := ⟨rb0, j, none⟩) hrl id).trans (hrz j)
          have HF07 := hide hF07
          have HLOW := hide (show ∀ b, b < w.heap.size → ¬ T b from fun b hb => hlow b (by omega) (by omega) (by have := hFk.size; omega))
          obtain ⟨y0, y1, y2, yl⟩ := hfo
          have hEQ := hEq
          unfold FP at HFN
          cases hmu : fnMuch G f ws with
          | true =>
            rw [hmu] at HFN hEQ
            simp only [if_true] at hEQ
            have HEND := hide hEQ
            have hmm := @run_makeMap Tryd.prog
            clear hR hok hr hx hMI hFk hrc hrz hEq hEQ hcl hNk hFM r1 r2 r3 r4 r5 r6 r7 hV hcw hF7 hK7 hFresh hT hT2 hlow hF07 hok7 hmu hnum
            obtain ⟨rt, rp, rb⟩ := r
            simp only at p0 p1 p2
            go_wp2_with (go_at_call 30; rw [← hw7]; refine HFN.out.mono ?_; rintro e w8 ⟨hF8, hcase⟩; obtain ⟨_, rfl⟩ | ⟨hc, _⟩ := hcase; rotate_left; exact absurd hc (by decide); have z0 := (hF8.cell (p := ⟨rb0, 0, none⟩) rl7 nrb).trans (rc7 0); have z1 := (hF8.cell (p := ⟨rb0, 1, none⟩) rl7 nrb).trans (rc7 1); have zf0 := (hF8.frozen (p := ⟨rb0, 0, none⟩) rl7 nrb).trans (rz7 0); have zf1 := (hF8.frozen (p := ⟨rb0, 1, none⟩) rl7 nrb).trans (rz7 1); have zl := Nat.lt_of_lt_of_le rl7 hF8.size; have HF8 := hide hF8; clear hF8)
            obtain ⟨w9, hw9, g0', g1', hF9⟩ := set2 (.slice none 0 0) (.slice none 0 0) z0 z1
            rw [← hw9]
            have zl9 := Nat.lt_of_lt_of_le zl hF9.size
            have HF9 := hide (((HF07.out.then HF8.out (fun k hk e => HLOW.out k hk e)).then hF9 (fun k hk e => by have := HNUM.out; omega)).alloc (.cells #[.int .i64 0, .int .i64 0, .slice none 0 0] 40))
            have g0 := (((Fr.refl nothing w9).alloc (.cells #[.int .i64 0, .int .i64 0, .slice none 0 0] 40)).cell (p := ⟨rb0, 0, none⟩) zl9 id).trans g0'
            have g1 := (((Fr.refl nothing w9).alloc (.cells #[.int .i64 0, .int .i64 0, .slice none 0 0] 40)).cell (p := ⟨rb0, 1, none⟩) zl9 id).trans g1'
            generalize w9.alloc (.cells #[.int .i64 0, .int .i64 0, .slice none 0 0] 40) = w10 at *
            clear hw9 hF9
            exact bodyPost_ret (v := .tuple #[.agg #[.slice none 0 0, .slice none 0 0], .int .i64 4]) (by simp [results, Tryd.results13, go_sem, g0, g1]) rfl ⟨nilS, nilS, by rw [HEND.out], HF9.out, by rw [HEND.out]; exact pgOk_nil _⟩
          | false =>
            rw [hmu] at HFN hEQ
            simp only [Bool.false_eq_true, if_false] at hEQ
            have HEND := hide hEQ
            have hmm := @run_makeMap Tryd.prog
            obtain ⟨j0, hj0, hy0, hy1, hy2⟩ := info_parts sizeCd
            have HAF := hide (fun T8 w8 sE sl K8 F8 t8 h5 => hMI.after (T8 := T8) (w8 := w8) (sE := sE) (sl := sl) (wb := wr.heap.size + 1 + 1) (vb := wr.heap.size + 1) (T := T) r1 hF7 hT K8 F8 t8 h5)
            have hcl5 : cs.length ≤ 5 := by omega
            have hfwl := stsK_le G f.b (parE f.p 0 (fun _ => 0)) f.p.length ws 0
            have hwl8 : (fnS G f ws).ws.length ≤ ws.length + stsN f.b := hfwl.w
            have hvl8 : (fnS G f ws).v ≤ f.p.length + stsN f.b := hfwl.v
            have hp4 := hFM.p
            have HCL := hide hcl
            clear hR hok hr hx hMI hFk hrc hrz hEq hEQ hNk hFM r1 r2 r3 r4 r5 r6 r7 hV hcw hF7 hK7 hFresh hT hT2 hlow hF07 hok7 hmu hfwl hnum hcl
            obtain ⟨rt, rp, rb⟩ := r
            simp only at p0 p1 p2
            go_wp2_with (first
              | (at_builtin; go_must (refine wpList_append_lies _ rfl _ _ 31 rfl pb 40 j0 _ 3 40 Tryd.underlying31 hj0 hy0 hy1 hy2 rfl (by decide) (.slice ca cs.length cc) cs.length _ rfl (((HO8.out.alloc _).alloc _)) ⟨w8.heap.size + 1, 0, none⟩ 1 1 [.int .i64 (f.p.length : Nat), .int .i64 ((fnS G f ws).v : Nat), .slice sl.a sl.n sl.c] rfl rfl (fun j u hu => by have h1 := World.news_of_block (cs := #[.int .i64 (f.p.length : Nat), .int .i64 ((fnS G f ws).v : Nat), .slice sl.a sl.n sl.c]) (t := 40) (fr := (0, 0)) (heap_new (w8.alloc (.cells #[.int .i64 (f.p.length : Nat), .int .i64 ((fnS G f ws).v : Nat), .slice sl.a sl.n sl.c] 40)) _) j u hu; rw [hsz9] at h1; exact h1) (by simp [Value.oneCell']) (by decide) (by unfold maxLen; omega) (by omega) (by simp; omega) _ rfl ?_); intro g1 cp1 w11 hr11 hg11 hat11 hlt11; have F11 : Fr (fun k => (Value.slice ca cs.length cc).ownBlock = some k) w8 w11 := (((Fr.refl (fun k => (Value.slice ca cs.length cc).ownBlock = some k) w8).alloc _).alloc _).grown hg11 (fun k hk => .inl hk); have x5 := (F11.cell (p := ⟨pb, 0, none⟩) zpl (fun e => HQ3.out _ e rfl)).trans q1; have xf := (F11.frozen (p := ⟨pb, 0, none⟩) zpl (fun e => HQ3.out _ e rfl)).trans zpz; have xl := Nat.lt_of_lt_of_le zpl F11.size; clear F11; have HR11 := hide hr11; have HG11 := hide hg11; have HAT11 := hide hat11; clear hr11 hg11 hat11)
              | (go_at_call 30; rw [← hw7]; refine HFN.out.mono ?_; rintro e w8 ⟨hF8, hcase⟩; obtain ⟨hc, _⟩ | ⟨_, sl, rfl, h5, T8, K8, F8, t8⟩ := hcase; exact absurd hc (by decide); obtain ⟨hMI8, hsl8, hbk8⟩ := HAF.out T8 w8 _ sl K8 F8 t8 h5; obtain ⟨ca, cc, rs8, q1, q2, q3⟩ := hMI8.codes; have zpl := hMI8.pl; have zpz := hMI8.pz 0; have zbl := hMI8.bl; simp only at q1 q2 q3 zpl zpz zbl; have hsz9 : (w8.alloc (.cells #[.int .i64 (f.p.length : Nat), .int .i64 ((fnS G f ws).v : Nat), .slice sl.a sl.n sl.c] 40)).heap.size = w8.heap.size + 1 := (by simp); have HSC8 : Hid (sc.v = .slice ca cs.length cc) := Option.some.inj ((K8.p0).symm.trans q1); have HMI8 := hide hMI8; have HSL8 := hide hsl8; have HBK8 := hide hbk8; have HO8 := hide q2; have HQ3 := hide q3; have HF8 := hide hF8; clear hMI8 hsl8 hbk8 q2 q3 hF8 K8 F8 t8 h5))
            have hDONE : ∃ (cs2 : List Cd) (ws2 : List Bs), MI ⟨fb, kb, jb, nb, pb, pb⟩ G cs2 ws2 (w11.setCell ⟨pb, 0, none⟩ (.slice (some ⟨g1, 0, none⟩) (cs.length + 1) cp1)) ∧ Fr nothing w (w11.setCell ⟨pb, 0, none⟩ (.slice (some ⟨g1, 0, none⟩) (cs.length + 1) cp1)) ∧ rb0 < (w11.setCell ⟨pb, 0, none⟩ (.slice (some ⟨g1, 0, none⟩) (cs.length + 1) cp1)).heap.size ∧ (∀ j, (w11.setCell ⟨pb, 0, none⟩ (.slice (some ⟨g1, 0, none⟩) (cs.length + 1) cp1)).cell? ⟨rb0, j, none⟩ = (#[Value.slice none 0 0, .slice none 0 0])[j]?) ∧ (∀ j, (w11.setCell ⟨pb, 0, none⟩ (.slice (some ⟨g1, 0, none⟩) (cs.length + 1) cp1)).frozen? ⟨rb0, j, none⟩ = false) ∧ progK l = makeK G (l.drop (k + 1)) ⟨cs2, ws2⟩ ∧ cs2.length = k + 1 ∧ ws2.length + fnsN (l.drop (k + 1)) ≤ 50000 := by
              have hnum := HNUM.out
              have hF810 : Fr nothing w8 ((w8.alloc (.cells #[.int .i64 (f.p.length : Nat), .int .i64 ((fnS G f ws).v : Nat), .slice sl.a sl.n sl.c] 40)).alloc (.cells #[.int .i64 (f.p.length : Nat), .int .i64 ((fnS G f ws).v : Nat), .slice sl.a sl.n sl.c] 40)) := ((Fr.refl _ _).alloc _).alloc _
              have hown := (HO8.out.alloc (.cells #[.int .i64 (f.p.length : Nat), .int .i64 ((fnS G f ws).v : Nat), .slice sl.a sl.n sl.c] 40)).alloc (.cells #[.int .i64 (f.p.length : Nat), .int .i64 ((fnS G f ws).v : Nat), .slice sl.a sl.n sl.c] 40)
              have hr11 := HR11.out
              have hg11 := HG11.out
              have hat11 := HAT11.out
              generalize (w8.alloc (.cells #[.int .i64 (f.p.length : Nat), .int .i64 ((fnS G f ws).v : Nat), .slice sl.a sl.n sl.c] 40)).alloc (.cells #[.int .i64 (f.p.length : Nat), .int .i64 ((fnS G f ws).v : Nat), .slice sl.a sl.n sl.c] 40) = w10 at *
              have hMI10 := HMI8.out.new hF810
              have hF11 : Fr (fun k => (Value.slice ca cs.length cc).ownBlock = some k) w10 w11 := (Fr.refl _ w10).grown hg11 (fun k hk => .inl hk)
              obtain ⟨hM2, hF2⟩ := hMI10.push (sc := ⟨ca, cs.length, cc⟩) ((hF810.cell (p := ⟨pb, 0, none⟩) zpl id).trans q1) hown (r := ⟨(f.p.length : Nat), ((fnS G f ws).v : Nat), sl⟩) (x := ⟨f.p.length, (fnS G f ws).v, fnI G f ws⟩) (g := g1) (cap := cp1) hr11 hF11 (hat11.imp id (fun e => by omega)) (fun sw2 h2 => ⟨rfl, rfl, HSL8.out.fr hF810 (fun _ _ => id), fun b hb => by
                obtain ⟨c1, c2, c3, c4, c5, c6⟩ := HBK8.out sw2 ((hF810.cell (p := ⟨pb, 1, none⟩) zpl id).symm.trans h2) b hb
                rw [HSC8.out] at c5
                exact ⟨Nat.lt_of_lt_of_le c1 hF810.size, c2, c3, c4, c5, c6⟩⟩)
              have nsc : ∀ k, k ≤ w.heap.size → ¬ ((Value.slice ca cs.length cc).ownBlock = some k ∨ k = pb) := by
                rintro k hk (e | e)
                · have := (hown.lt k e).1; omega
                · omega
              have hrl8 := Nat.lt_of_lt_of_le rl7 HF8.out.size
              have hrl10 := Nat.lt_of_lt_of_le hrl8 hF810.size
              refine ⟨cs ++ [⟨f.p.length, (fnS G f ws).v, fnI G f ws⟩], (fnS G f ws).ws, hM2, ((HF07.out.then HF8.out (fun k hk e => HLOW.out k hk e)).trans hF810).then hF2 (fun k hk e => nsc k (by omega) e), Nat.lt_of_lt_of_le hrl10 hF2.size, fun j => ?_, fun j => ?_, HEND.out, by rw [List.length_append, HCL.out]; rfl, by omega⟩
              · exact (hF2.cell (p := ⟨rb0, j, none⟩) hrl10 (nsc rb0 (by omega))).trans ((hF810.cell (p := ⟨rb0, j, none⟩) hrl8 id).trans ((HF8.out.cell (p := ⟨rb0, j, none⟩) rl7 nrb).trans (rc7 j)))
              · exact (hF2.frozen (p := ⟨rb0, j, none⟩) hrl10 (nsc rb0 (by omega))).trans ((hF810.frozen (p := ⟨rb0, j, none⟩) hrl8 id).trans ((HF8.out.frozen (p := ⟨rb0, j, none⟩) rl7 nrb).trans (rz7 j)))
            have HDONE := hide hDONE
            clear hDONE
            go_roundw
            case rel => exact ⟨k + 1, by omega, by go_num, HDONE.out⟩
            case measure => simp [intOf]; omega
        · have hke : k = l.length := by omega
          obtain ⟨cs, ws, hMI, hFk, hrl, hrc, hrz, hEq, hcl, hNk⟩ := hR.out
          rw [hke, List.drop_length, makeK] at hEq
          obtain ⟨sc, sw, rsc, r1, r2, r3, r4, r5, r6, r7⟩ := hMI.rows
          simp only at r1 r3
          have z0 := hrc 0
          have z1 := hrc 1
          have zf0 := hrz 0
          have zf1 := hrz 1
          have zpl := hMI.pl
          have HMI := hide hMI
          have HFk := hide hFk
          have HEND := hide hEq
          simp only at zpl
          clear hR hMI hFk hrc hrz hEq hcl hNk r2 r4 r5 r6 r7 hke
          go_wp2_with fail
          obtain ⟨w9, hw9, g0, g1, hF9⟩ := set2 (.slice sc.a sc.n sc.c) (.slice sw.a sw.n sw.c) z0 z1
          rw [← hw9]
          clear hw9
          have hnum := HNUM.out
          have hpg : PgOk w9 sc sw ⟨cs, ws⟩ := HMI.out.done hF9 (fun k e => by simp only; omega) r1 r3
          exact bodyPost_ret (v := .tuple #[.agg #[.slice sc.a sc.n sc.c, .slice sw.a sw.n sw.c], .int .i64 0]) (by simp [results, Tryd.results13, go_sem, g0, g1]) rfl ⟨sc, sw, by rw [HEND.out], HFk.out.then hF9 (fun k hk e => by omega), by rw [HEND.out]; exact hpg⟩
end Go.Proofs.YtkmdamljhagogaaDoor
end
section
/- The document's own answer: heights: as a function; what lies there. -/
set_option maxHeartbeats 0
set_option maxRecDepth 100000
namespace Go.Proofs.YtkmdamljhagogaaDoor
open Go Go.RowKit
/-- The least number of which something holds. -/
theorem least_ex (P : Nat → Prop) : ∀ n, P n → ∃ m, P m ∧ ∀ k, P k → m ≤ k := by
  intro n
  induction n using Nat.strongRecOn with
  | ind n ih =>
    intro hn
    by_cases h : ∃ k, k < n ∧ P k
    · obtain ⟨k, h1, h2⟩ := h
      exact ih k h1 h2
    · refine ⟨n, hn, fun k hk => ?_⟩
      apply Classical.byContradiction
      intro hlt
      exact h ⟨k, by omega, hk⟩
open Classical in
noncomputable def least (P : Nat → Prop) : Nat := if h : ∃ m, P m ∧ ∀ k, P k → m ≤ k then h.choose else 0
theorem least_spec {P : Nat → Prop} (h : ∃ n, P n) : P (least P) ∧ ∀ k, P k → least P ≤ k := by
  obtain ⟨n, hn⟩ := h
  have h := least_ex P n hn
  unfold least
  rw [dif_pos h]
  exact h.choose_spec
theorem least_lt {P : Nat → Prop} {m k : Nat} (h : P m) (hk : m < k) : least P < k := Nat.lt_of_le_of_lt ((least_spec ⟨m, h⟩).2 m h) hk
/-- What is next. -/
def nextC (i : In) (p m : Int) : List (Int × Int) := (if i.op ≠ 15 ∧ i.op ≠ 18 then [(p + 1, m)] else []) ++ (if i.op = 15 ∨ i.op = 16 then [(i.a, m)] else [])
def hGo (ins : List In) : Nat → List Int → List (Int × Int) → List Int × Int
  | 0, h, _ => (h, 0)
  | _ + 1, h, [] => (h, 0)
  | f + 1, h, (p, n) :: q =>
    if p < 0 ∨ h.length ≤ p then ([], 8)
    else if 0 ≤ h.getD p.toNat 0 ∧ h.getD p.toNat 0 ≠ n then ([], 10)
    else if 0 ≤ h.getD p.toNat 0 then hGo ins f h q
    else if n < (shapeC (ins.getD p.toNat ⟨0, 0, 0⟩)).1 ∨ ((ins.getD p.toNat ⟨0, 0, 0⟩).op = 18 ∧ 1 < n) then ([], 10)
    else if 16 < n - (shapeC (ins.getD p.toNat ⟨0, 0, 0⟩)).1 + (shapeC (ins.getD p.toNat ⟨0, 0, 0⟩)).2 then ([], 4)
    else hGo ins f (h.set p.toNat n) (q ++ nextC (ins.getD p.toNat ⟨0, 0, 0⟩) p (n - (shapeC (ins.getD p.toNat ⟨0, 0, 0⟩)).1 + (shapeC (ins.getD p.toNat ⟨0, 0, 0⟩)).2))
def heightsC (ins : List In) : List Int × Int := hGo ins (2 * ins.length + 2) (List.replicate ins.length (-1)) [(0, 0)]
def unset (h : List Int) : Nat := (h.filter (fun x => decide (x < 0))).length
theorem unset_set : ∀ (h : List Int) (i : Nat) (x n : Int), h[i]? = some x → x < 0 → 0 ≤ n → unset (h.set i n) + 1 = unset h
  | [], i, x, n, hi, _, _ => by simp at hi
  | y :: h, 0, x, n, hi, hx, hn => by
    simp at hi
    subst hi
    have h1 : ¬ n < 0 := by omega
    simp [unset, hx, h1]
  | y :: h, i + 1, x, n, hi, hx, hn => by
    have ih := unset_set h i x n (by simpa using hi) hx hn
    unfold unset at ih ⊢
    rw [List.set_cons_succ, List.filter_cons, List.filter_cons]
    by_cases hy : y < 0
    · simp only [hy, decide_true, if_true, List.length_cons]; omega
    · simp only [hy, decide_false, Bool.false_eq_true, if_false]; omega
theorem unset_le (h : List Int) : unset h ≤ h.length := List.length_filter_le _ _
/-- What an op takes is not less than nothing. -/
theorem shape_pos (i : In) (hb : i.op = 17 → 0 ≤ i.b) : 0 ≤ (shapeC i).1 ∧ 0 ≤ (shapeC i).2 ∧ (shapeC i).2 ≤ 1 := by
  unfold shapeC
  by_cases h : i.op = 17
  · rw [if_pos h]; exact ⟨hb h, Int.one_nonneg, Int.le_refl 1⟩
  · rw [if_neg h]
    generalize i.op = k
    unfold shapesL
    simp only [List.find?]
    repeat' split
    all_goals (refine ⟨?_, ?_, ?_⟩ <;> decide)
/-- Rows of numbers. -/
def encZ (z : Int) : List Value := [.int .i64 z]
theorem encZ_len (z : Int) : (encZ z).length = 1 := rfl
structure OwnZ (base : Nat) (q : Slc) (l : List Int) (w : World) : Prop where
  n : q.n = l.length
  row : w.ownsRow base 3 1 q.v l.length (l.flatMap encZ)
theorem OwnZ.sl {base : Nat} {q : Slc} {l : List Int} {w : World} (h : OwnZ base q l w) : Sl encZ 1 w q.v l := sl_of_owns encZ_len h.row
theorem OwnZ.fr {base : Nat} {q : Slc} {l : List Int} {w w' : World} {S : Nat → Prop} (h : OwnZ base q l w) (hf : Fr S w w') (hs : ∀ b, q.v.ownBlock = some b → ¬ S b) : OwnZ base q l w' := ⟨h.n, owns_fr h.row hf hs⟩
theorem OwnZ.lt {base : Nat} {q : Slc} {l : List Int} {w : World} (h : OwnZ base q l w) {b : Nat} (hb : q.v.ownBlock = some b) : base ≤ b ∧ b < w.heap.size := h.row.lt b hb
theorem sizeInt : (Tryd.prog.info? 3).map (fun i => (i.zero, i.size, i.bytes)) = some (some (.int .i64 0), 1, 8) := by kernel_rfl
abbrev litZ (z : Int) : Obj := .cells #[.int .i64 z] 3
theorem OwnZ.lit (w : World) (z : Int) {base : Nat} (hb : base ≤ w.heap.size) : OwnZ base ⟨some ⟨w.heap.size, 0, none⟩, 1, 1⟩ [z] (w.alloc (litZ z)) :=
  ⟨rfl, World.ownsRow_lit (e := 3) w #[.int .i64 z] 1 (size := 1) (base := base) hb (by unfold maxLen; omega) rfl⟩
/-- A number behind a row: the number lies in a block of its own. -/
theorem OwnZ.app {base : Nat} {q : Slc} {l : List Int} {w : World} (h : OwnZ base q l w) (z : Int) (hb : base ≤ w.heap.size) (hl : l.length ≤ 1000000) :
    ∃ (q' : Slc) (w' : World), (Builtin.append_ #[82, 82] 82 #[.slice q.a q.n q.c, .slice (some ⟨w.heap.size, 0, none⟩) 1 1]).run Tryd.prog (w.alloc (litZ z)) = .ok (.slice q'.a q'.n q'.c) w' ∧ OwnZ base q' (l ++ [z]) w' ∧ Fr (fun k => q.v.ownBlock = some k) w w' ∧ (∀ b, q'.v.ownBlock = some b → q.v.ownBlock = some b ∨ w.heap.size < b) := by
  obtain ⟨j0, hj0, hy0, hy1, hy2⟩ := info_parts sizeInt
  have FL : Fr nothing w (w.alloc (litZ z)) := (Fr.refl _ _).alloc _
  have h1 := h.fr FL (fun _ _ => id)
  have hm := made_cells (Fr.refl nothing (w.alloc (litZ z))) id
  have hsz : (w.alloc (litZ z)).heap.size = w.heap.size + 1 := by simp
  obtain ⟨g, cap, w', hr, h2, h3, h4, h5⟩ := run_append_lies (P := Tryd.prog) (w.alloc (litZ z)) 82 82 base 3 j0 _ 1 8 Tryd.underlying82 hj0 hy0 hy1 hy2 rfl (by decide) q.v l.length _ h1.row ⟨w.heap.size, 0, none⟩ 1 1 (encZ z) rfl (fun j u hj => by
      cases j with
      | zero => simp [encZ] at hj; subst hj; exact hm.1 0
      | succ j => simp [encZ] at hj) (fun u hu => by
      simp only [encZ, List.mem_cons, List.not_mem_nil, or_false] at hu
      subst hu
      rfl) (by decide) (by unfold maxLen; omega) (by omega) (Nat.le_trans hb FL.size) _ rfl
  refine ⟨⟨some ⟨g, 0, none⟩, l.length + 1, cap⟩, w', hr, ⟨by simp, by simpa [List.flatMap_append] using h2⟩, (FL.mono (fun _ _ e => e.elim)).trans ((Fr.refl _ _).grown h3 (fun k hk => .inl hk)), fun b hb' => ?_⟩
  obtain rfl : g = b := Option.some.inj hb'
  exact h4.imp id (fun e => by omega)
/-- What lies there while heights are told. -/
structure HSt (w0 : World) (hb cb : Nat) (ca : Value) (h A B : List Int) (qa qh : Slc) (w : World) : Prop where
  f : Fr nothing w0 w
  a : OwnZ w0.heap.size qa A w
  b : OwnZ w0.heap.size qh B w
  hr : w.ownsRow w0.heap.size 3 1 (.slice (some ⟨hb, 0, none⟩) h.length h.length) h.length (h.flatMap encZ)
  c : w.cell? ⟨cb, 2, none⟩ = some ca
  n : w0.heap.size ≤ cb ∧ cb ≠ hb
  da : ∀ k, qa.v.ownBlock = some k → k ≠ hb ∧ k ≠ cb ∧ qh.v.ownBlock ≠ some k
  db : ∀ k, qh.v.ownBlock = some k → k ≠ hb ∧ k ≠ cb
section
variable {w0 w w2 : World} {hb cb : Nat} {ca : Value} {h A B : List Int} {qa qh : Slc}
theorem HSt.cl (s : HSt w0 hb cb ca h A B qa qh w) : cb < w.heap.size := lt_of_cell s.c
theorem HSt.hl (s : HSt w0 hb cb ca h A B qa qh w) : w0.heap.size ≤ hb ∧ hb < w.heap.size := s.hr.lt hb rfl
theorem HSt.new (s : HSt w0 hb cb ca h A B qa qh w) (hf : Fr nothing w w2) : HSt w0 hb cb ca h A B qa qh w2 :=
  ⟨s.f.trans hf, s.a.fr hf (fun _ _ => id), s.b.fr hf (fun _ _ => id), owns_fr s.hr hf (fun _ _ => id), (hf.cell (p := ⟨cb, 2, none⟩) s.cl id).trans s.c, s.n, s.da, s.db⟩
theorem flatZ : ∀ l : List Int, l.flatMap encZ = l.map (Value.int .i64)
  | [] => rfl
  | x :: l => by simp [encZ, ← flatZ l]
theorem HSt.put (s : HSt w0 hb cb ca h A B qa qh w) (i : Nat) (z : Int) : HSt w0 hb cb ca (h.set i z) A B qa qh (w.setCell ⟨hb, i, none⟩ (.int .i64 z)) ∧ Fr (fun k => k = hb) w (w.setCell ⟨hb, i, none⟩ (.int .i64 z)) := by
  have hf : Fr (fun k => k = hb) w (w.setCell ⟨hb, i, none⟩ (.int .i64 z)) := (Fr.refl (fun k => k = hb) w).setCell (p := ⟨hb, i, none⟩) (.inl rfl) _
  refine ⟨⟨s.f.then hf (fun k hk e => by have := s.hl.1; omega), s.a.fr hf (fun k hk e => (s.da k hk).1 e), s.b.fr hf (fun k hk e => (s.db k hk).1 e), ?_, (hf.cell (p := ⟨cb, 2, none⟩) s.cl (fun e => s.n.2 e)).trans s.c, s.n, s.da, s.db⟩, hf⟩
  have h1 := (s.hr.stored i (.int .i64 z)).1
  rw [flatZ] at h1 ⊢
  rw [List.length_set, List.map_set]
  exact h1
/-- A place and a height more. -/
theorem HSt.push (s : HSt w0 hb cb ca h A B qa qh w) (x y : Int) (lA : A.length ≤ 1000000) (lB : B.length ≤ 1000000) :
    ∃ (qa' qh' : Slc) (w1 w2 : World), (Builtin.append_ #[82, 82] 82 #[.slice qa.a qa.n qa.c, .slice (some ⟨w.heap.size, 0, none⟩) 1 1]).run Tryd.prog (w.alloc (litZ x)) = .ok (.slice qa'.a qa'.n qa'.c) w1 ∧
      (Builtin.append_ #[82, 82] 82 #[.slice qh.a qh.n qh.c, .slice (some ⟨w1.heap.size, 0, none⟩) 1 1]).run Tryd.prog (w1.alloc (litZ y)) = .ok (.slice qh'.a qh'.n qh'.c) w2 ∧ HSt w0 hb cb ca h (A ++ [x]) (B ++ [y]) qa' qh' w2 ∧ Fr (fun k => qa.v.ownBlock = some k ∨ qh.v.ownBlock = some k) w w2 := by
  obtain ⟨qa', w1, r1, a1, f1, t1⟩ := s.a.app x s.f.size lA
  have b1 : OwnZ w0.heap.size qh B w1 := s.b.fr f1 (fun k hk e => (s.da k e).2.2 hk)
  obtain ⟨qh', w2, r2, b2, f2, t2⟩ := b1.app y (Nat.le_trans s.f.size f1.size) lB
  have hF : Fr (fun k => qa.v.ownBlock = some k ∨ qh.v.ownBlock = some k) w w2 := (f1.mono (fun _ _ e => .inl e)).trans (f2.mono (fun _ _ e => .inr e))
  have hcl := s.cl
  have hhl := s.hl
  have hsz := f1.size
  have na : ∀ k, qa'.v.ownBlock = some k → k ≠ hb ∧ k ≠ cb ∧ ¬ qh.v.ownBlock = some k := fun k hk => by
    rcases t1 k hk with e | e
    · exact s.da k e
    · exact ⟨by omega, by omega, fun e2 => by have := (s.b.lt e2).2; omega⟩
  refine ⟨qa', qh', w1, w2, r1, r2, ⟨s.f.then hF ?_, a1.fr f2 (fun k hk e => (na k hk).2.2 e), b2, owns_fr s.hr hF ?_, (hF.cell (p := ⟨cb, 2, none⟩) hcl ?_).trans s.c, s.n, fun k hk => ⟨(na k hk).1, (na k hk).2.1, fun e => ?_⟩, fun k hk => ?_⟩, hF⟩
  · rintro k hk (e | e)
    · have := (s.a.lt e).1; omega
    · have := (s.b.lt e).1; omega
  · rintro k hk (e | e)
    · obtain rfl : hb = k := Option.some.inj hk
      exact (s.da _ e).1 rfl
    · obtain rfl : hb = k := Option.some.inj hk
      exact (s.db _ e).1 rfl
  · rintro (e | e)
    · exact (s.da _ e).2.1 rfl
    · exact (s.db _ e).2 rfl
  · rcases t2 k e with e | e
    · exact (na k hk).2.2 e
    · have := (a1.lt hk).2; omega
  · rcases t2 k hk with e | e
    · exact s.db k e
    · exact ⟨by omega, by omega⟩
end
end Go.Proofs.YtkmdamljhagogaaDoor
end
section
/- Heights of what is made of right functions (no program). -/
set_option maxHeartbeats 0
set_option maxRecDepth 100000
namespace Go.Proofs.YtkmdamljhagogaaDoor
/-- An expression by itself is one that may be. -/
def exE1 (k n : Int) (t : Bs) (len : Nat) : Prop :=
  (k = 1 ∧ len = 0 ∧ -1073741824 ≤ n ∧ n ≤ 1073741824) ∨ (k = 2 ∧ len = 0 ∧ isWord t = true) ∨ (k = 3 ∧ len = 0) ∨ (k = 4 ∧ len = 2 ∧ 1 ≤ n ∧ n ≤ 5) ∨ (k = 5 ∧ len = 2) ∨ (k = 6 ∧ len = 1) ∨ (k = 7 ∧ len = 1) ∨ (k = 8 ∧ len = 1) ∨ (k = 9 ∧ len = 0) ∨ (k = 10 ∧ len = 1) ∨ k = 11
mutual
def exR : Ex → Prop
  | .mk k n t a => exE1 k n t a.length ∧ exsR a
def exsR : List Ex → Prop
  | [] => True
  | x :: l => exR x ∧ exsR l
end
mutual
def stR : St → Prop
  | .mk k _ a x y => 1 ≤ k ∧ k ≤ 9 ∧ a.length = argsOf k.toNat ∧ exsR a ∧ stsR x ∧ stsR y ∧ (k ≠ 3 → k ≠ 4 → x = []) ∧ (k ≠ 3 → y = [])
def stsR : List St → Prop
  | [] => True
  | s :: l => stR s ∧ stsR l
end
/-- What holds of the instruction at a place. -/
def Stp (H : Nat → Option Int) (p : Nat) (i : In) : Prop :=
  ∃ d, H p = some d ∧ 0 ≤ d ∧ (shapeC i).1 ≤ d ∧ (i.op = 18 → d ≤ 1) ∧ d - (shapeC i).1 + (shapeC i).2 ≤ 16 ∧ (i.op ≠ 15 → i.op ≠ 18 → H (p + 1) = some (d - (shapeC i).1 + (shapeC i).2)) ∧ ((i.op = 15 ∨ i.op = 16) → ∃ t : Nat, i.a = t ∧ H t = some (d - (shapeC i).1 + (shapeC i).2))
def Fl (H : Nat → Option Int) (o : Nat) (c : List In) : Prop := ∀ j i, c[j]? = some i → Stp H (o + j) i
theorem Fl.app {H : Nat → Option Int} {o : Nat} {c d : List In} (h1 : Fl H o c) (h2 : Fl H (o + c.length) d) : Fl H o (c ++ d) := by
  intro j i hj
  by_cases hl : j < c.length
  · rw [List.getElem?_append_left hl] at hj; exact h1 j i hj
  · rw [List.getElem?_append_right (by omega)] at hj
    have := h2 _ i hj
    rwa [show o + c.length + (j - c.length) = o + j by omega] at this
theorem Fl.one {H : Nat → Option Int} {o : Nat} {i : In} (h : Stp H o i) : Fl H o [i] := by
  intro j k hj
  cases j with
  | zero => simp at hj; subst hj; simpa using h
  | succ j => simp at hj
theorem Fl.cons {H : Nat → Option Int} {o : Nat} {i : In} {d : List In} (h : Stp H o i) (h2 : Fl H (o + 1) d) : Fl H o (i :: d) := by
  have := (Fl.one h).app (d := d) (by simpa using h2)
  simpa using this
theorem Fl.nil {H : Nat → Option Int} {o : Nat} : Fl H o [] := fun j i h => by simp at h
def Agr (H : Nat → Option Int) (o : Nat) (l : List Int) : Prop := ∀ j d, l[j]? = some d → H (o + j) = some d
theorem Agr.left {H : Nat → Option Int} {o : Nat} {a b : List Int} (h : Agr H o (a ++ b)) : Agr H o a := fun j d hj => h j d (by rw [List.getElem?_append_left (List.getElem?_eq_some_iff.1 hj).1]; exact hj)
theorem Agr.right {H : Nat → Option Int} {o : Nat} {a b : List Int} (h : Agr H o (a ++ b)) : Agr H (o + a.length) b := fun j d hj => by
  have := h (a.length + j) d (by rw [List.getElem?_append_right (by omega)]; simpa using hj)
  rwa [← Nat.add_assoc] at this
theorem Agr.head {H : Nat → Option Int} {o : Nat} {d : Int} {b : List Int} (h : Agr H o (d :: b)) : H o = some d := by simpa using h 0 d rfl
/-- A piece of code with its heights: it begins at d and ends at e. -/
def Pc (o : Nat) (c : List In) (d e : Int) (hs : List Int) : Prop := hs.length = c.length ∧ (hs ++ [e])[0]? = some d ∧ ∀ H, Agr H o (hs ++ [e]) → Fl H o c
theorem Pc.first {o : Nat} {c : List In} {d e : Int} {hs : List Int} (h : Pc o c d e hs) {H : Nat → Option Int} {p : Nat} (ha : Agr H p (hs ++ [e])) : H p = some d := by simpa using ha 0 d h.2.1
theorem Pc.app {o : Nat} {c c2 : List In} {d e f : Int} {hs hs2 : List Int} (h1 : Pc o c d e hs) (h2 : Pc (o + c.length) c2 e f hs2) : Pc o (c ++ c2) d f (hs ++ hs2) := by
  obtain ⟨a1, a2, a3⟩ := h1
  obtain ⟨b1, b2, b3⟩ := h2
  refine ⟨by simp [a1, b1], ?_, fun H ha => ?_⟩
  · cases hs with
    | nil => simp at a2; subst a2; simpa using b2
    | cons x hs => simpa using a2
  · rw [List.append_assoc] at ha
    have hr := ha.right
    rw [a1] at hr
    refine (a3 H ?_).app (b3 H hr)
    intro j d' hj
    by_cases hl : j < hs.length
    · rw [List.getElem?_append_left hl] at hj; exact ha.left j d' hj
    · rw [List.getElem?_append_right (by omega)] at hj
      have h0 : j - hs.length = 0 := by
        have := (List.getElem?_eq_some_iff.1 hj).1
        simp at this
        omega
      rw [h0] at hj
      simp at hj
      subst hj
      have := hr 0 _ b2
      rw [show o + j = o + c.length + 0 by omega]
      exact this
theorem Pc.nil (o : Nat) (d : Int) : Pc o [] d d [] := ⟨rfl, rfl, fun _ _ => Fl.nil⟩
theorem Stp.of {H : Nat → Option Int} {p : Nat} {i : In} (d : Int) {sp : Int × Int} (hsp : shapeC i = sp) (h : H p = some d) (h0 : 0 ≤ d) (hp : sp.1 ≤ d) (h18 : i.op = 18 → d ≤ 1) (h16 : d - sp.1 + sp.2 ≤ 16) (hn : i.op ≠ 15 → i.op ≠ 18 → H (p + 1) = some (d - sp.1 + sp.2)) (hj : (i.op = 15 ∨ i.op = 16) → ∃ t : Nat, i.a = t ∧ H t = some (d - sp.1 + sp.2)) : Stp H p i := by
  subst hsp
  exact ⟨d, h, h0, hp, h18, h16, hn, hj⟩
/-- One instruction that does not jump. -/
theorem Pc.one (o : Nat) (i : In) (d e : Int) (sp : Int × Int) (hsp : shapeC i = sp) (h0 : 0 ≤ d) (hp : sp.1 ≤ d) (h18 : i.op = 18 → d ≤ 1) (he : e = d - sp.1 + sp.2) (h16 : e ≤ 16) (hj : i.op ≠ 15 ∧ i.op ≠ 16) : Pc o [i] d e [d] := by
  refine ⟨rfl, rfl, fun H ha => Fl.one (Stp.of d hsp ha.head h0 hp h18 (by omega) (fun _ _ => ?_) (fun h => by omega))⟩
  have := ha 1 e rfl
  rw [this, he]
theorem shape_op (op a b : Int) (h : op ≠ 17) : shapeC ⟨op, a, b⟩ = ((shapesL.find? fun p => p.1 == op).map Prod.snd).getD (0, 0) := by
  unfold shapeC
  rw [if_neg h]
theorem last_shape (G E : Bs → Int) (k n : Int) (t : Bs) (len : Nat) (ws : List Bs) (h : exE1 k n t len) : shapeC (lastI G E k n t len ws) = ((len : Int), 1) ∧ (lastI G E k n t len ws).op ≠ 15 ∧ (lastI G E k n t len ws).op ≠ 16 ∧ (lastI G E k n t len ws).op ≠ 18 := by
  rcases h with ⟨rfl, rfl, _⟩ | ⟨rfl, rfl, _⟩ | ⟨rfl, rfl⟩ | ⟨rfl, rfl, _⟩ | ⟨rfl, rfl⟩ | ⟨rfl, rfl⟩ | ⟨rfl, rfl⟩ | ⟨rfl, rfl⟩ | ⟨rfl, rfl⟩ | ⟨rfl, rfl⟩ | rfl
  all_goals refine ⟨?_, ?_, ?_, ?_⟩
  all_goals first | rfl | (simp [lastI]; done) | (simp [lastI, plainOp]; done) | (simp [lastI, plainOp, shapeC, shapesL]; done)
mutual
theorem ex_pc (G E : Bs → Int) : ∀ (x : Ex) (ws : List Bs) (o d : Nat), exR x → d + deepK x ≤ 16 → ∃ hs, Pc o (exK G E x ws).ins (d : Nat) ((d + 1 : Nat) : Int) hs
  | .mk k n t a, ws, o, d, hR, hd => by
    rw [exR] at hR
    rw [deepK] at hd
    obtain ⟨hs, h1⟩ := exs_pc G E a ws o d 0 hR.2 (by omega)
    obtain ⟨s1, s2, s3, s4⟩ := last_shape G E k n t a.length (exsK G E a ws).ws hR.1
    rw [exK_mk]
    simp only [Nat.add_zero] at h1
    refine ⟨_, h1.app (Pc.one _ _ _ _ _ s1 (by omega) (by simp only; omega) (fun e => absurd e s4) (by simp only; omega) (by omega) ⟨s2, s3⟩)⟩
theorem exs_pc (G E : Bs → Int) : ∀ (l : List Ex) (ws : List Bs) (o d i : Nat), exsR l → d + dpsK i l ≤ 16 → ∃ hs, Pc o (exsK G E l ws).ins ((d + i : Nat) : Int) ((d + i + l.length : Nat) : Int) hs
  | [], ws, o, d, i, _, _ => ⟨[], by rw [exsK_nil]; exact Pc.nil _ _⟩
  | x :: l, ws, o, d, i, hR, hd => by
    rw [exsR] at hR
    rw [dpsK] at hd
    obtain ⟨h1, p1⟩ := ex_pc G E x ws o (d + i) hR.1 (by omega)
    obtain ⟨h2, p2⟩ := exs_pc G E l (exK G E x ws).ws (o + (exK G E x ws).ins.length) d (i + 1) hR.2 (by omega)
    rw [exsK_cons]
    refine ⟨h1 ++ h2, p1.app ?_⟩
    simp only [List.length_cons]
    rw [show d + i + (l.length + 1) = d + (i + 1) + l.length by omega, show d + i + 1 = d + (i + 1) by omega]
    exact p2
end
mutual
theorem st_pc (G : Bs → Int) : ∀ (s : St) (E : Bs → Int) (v : Nat) (ws : List Bs) (o : Nat), stR s → highK s ≤ 16 → ∃ hs, Pc o (stK G s E v ws o).ins 0 0 hs
  | .mk k t a x y, E, v, ws, o, hR, hh => by
    rw [stR] at hR
    rw [highK] at hh
    obtain ⟨r1, r2, r3, r4, r5, r6, r7, r8⟩ := hR
    obtain ⟨ha, pa⟩ := exs_pc G E a ws o 0 0 r4 (by omega)
    simp only [Nat.zero_add] at pa
    have pa' : Pc o (exsK G E a ws).ins 0 (a.length : Nat) ha := pa
    clear pa
    by_cases h1 : k = 1
    · subst h1
      have hal : a.length = 1 := r3
      rw [hal] at pa'
      rw [stK_let rfl]
      exact ⟨_, pa'.app (Pc.one _ _ _ _ (1, 0) rfl (by decide) (by decide) (by simp) (by decide) (by decide) (by simp))⟩
    by_cases h2 : k = 2
    · subst h2
      have hal : a.length = 1 := r3
      rw [hal] at pa'
      rw [stK_set rfl]
      exact ⟨_, pa'.app (Pc.one _ _ _ _ (1, 0) rfl (by decide) (by decide) (by simp) (by decide) (by decide) (by simp))⟩
    by_cases h3 : k = 3
    · subst h3
      have hal : a.length = 1 := r3
      rw [hal] at pa'
      rw [stK_if rfl rfl rfl]
      obtain ⟨hx, px⟩ := sts_pc G x E v (exsK G E a ws).ws (o + (exsK G E a ws).ins.length + 1) r5 (by omega)
      generalize stsK G x E v (exsK G E a ws).ws (o + (exsK G E a ws).ins.length + 1) = X at *
      obtain ⟨hy, py⟩ := sts_pc G y E X.v X.ws (o + (exsK G E a ws).ins.length + X.ins.length + 2) r6 (by omega)
      generalize stsK G y E X.v X.ws (o + (exsK G E a ws).ins.length + X.ins.length + 2) = Y at *
      generalize (exsK G E a ws).ins = A at *
      refine ⟨ha ++ 1 :: (hx ++ 0 :: hy), by simp [pa'.1, px.1, py.1], ?_, fun H hA => ?_⟩
      · have := pa'.2.1
        cases ha with
        | nil => simp at this
        | cons z ha => simpa using this
      · have e1 : ha ++ 1 :: (hx ++ 0 :: hy) ++ [0] = (ha ++ [1]) ++ ((hx ++ [0]) ++ (hy ++ [0])) := by simp
        rw [e1] at hA
        have a1 := hA.left
        have a2 := hA.right.left
        have a3 := hA.right.right
        have l1 : o + (ha ++ [(1 : Int)]).length = o + A.length + 1 := by simp [pa'.1]; omega
        have l2 : o + A.length + 1 + (hx ++ [(0 : Int)]).length = o + A.length + X.ins.length + 2 := by simp [px.1]; omega
        rw [l1] at a2 a3
        rw [l2] at a3
        have b1 : H (o + A.length) = some 1 := by have := a1.right.head; rwa [pa'.1] at this
        have b2 := px.first a2
        have b3 : H (o + A.length + 1 + X.ins.length) = some 0 := by have := a2.right.head; rwa [px.1] at this
        have b4 := py.first a3
        have b5 : H (o + A.length + X.ins.length + 2 + Y.ins.length) = some 0 := by have := a3.right.head; rwa [py.1] at this
        refine (pa'.2.2 H a1).app (Fl.cons (Stp.of 1 (sp := (1, 0)) rfl b1 (by decide) (by decide) (by simp) (by decide) (fun _ _ => b2) (fun _ => ⟨_, rfl, b4⟩)) ((px.2.2 H a2).app (Fl.cons (Stp.of 0 (sp := (0, 0)) rfl b3 (by decide) (by decide) (by simp) (by decide) (fun h _ => absurd rfl h) (fun _ => ⟨_, rfl, b5⟩)) ?_)))
        rw [show o + A.length + 1 + X.ins.length + 1 = o + A.length + X.ins.length + 2 by omega]
        exact py.2.2 H a3
    by_cases h4 : k = 4
    · subst h4
      have hal : a.length = 1 := r3
      rw [hal] at pa'
      rw [stK_while rfl rfl]
      obtain ⟨hx, px⟩ := sts_pc G x E v (exsK G E a ws).ws (o + (exsK G E a ws).ins.length + 1) r5 (by omega)
      generalize stsK G x E v (exsK G E a ws).ws (o + (exsK G E a ws).ins.length + 1) = X at *
      generalize (exsK G E a ws).ins = A at *
      refine ⟨ha ++ 1 :: (hx ++ [0]), by simp [pa'.1, px.1], ?_, fun H hA => ?_⟩
      · have := pa'.2.1
        cases ha with
        | nil => simp at this
        | cons z ha => simpa using this
      · have e1 : ha ++ 1 :: (hx ++ [0]) ++ [0] = (ha ++ [1]) ++ ((hx ++ [0]) ++ [0]) := by simp
        rw [e1] at hA
        have a1 := hA.left
        have a2 := hA.right.left
        have a3 := hA.right.right.head
        have l1 : o + (ha ++ [(1 : Int)]).length = o + A.length + 1 := by simp [pa'.1]; omega
        rw [l1] at a2 a3
        have l2 : o + A.length + 1 + (hx ++ [(0 : Int)]).length = o + A.length + X.ins.length + 2 := by simp [px.1]; omega
        rw [l2] at a3
        have b0 := pa'.first a1
        have b1 : H (o + A.length) = some 1 := by have := a1.right.head; rwa [pa'.1] at this
        have b2 := px.first a2
        have b3 : H (o + A.length + 1 + X.ins.length) = some 0 := by have := a2.right.head; rwa [px.1] at this
        exact (pa'.2.2 H a1).app (Fl.cons (Stp.of 1 (sp := (1, 0)) rfl b1 (by decide) (by decide) (by simp) (by decide) (fun _ _ => b2) (fun _ => ⟨_, rfl, a3⟩)) ((px.2.2 H a2).app (Fl.one (Stp.of 0 (sp := (0, 0)) rfl b3 (by decide) (by decide) (by simp) (by decide) (fun h _ => absurd rfl h) (fun _ => ⟨_, rfl, b0⟩)))))
    rw [stK_plain rfl h1 h2 h3 h4]
    have hk : k = 5 ∨ k = 6 ∨ k = 7 ∨ k = 8 ∨ k = 9 := by omega
    rcases hk with rfl | rfl | rfl | rfl | rfl
    all_goals
      have hal := r3
      simp [argsOf] at hal
      rw [hal] at pa'
      exact ⟨_, pa'.app (Pc.one _ _ _ _ _ rfl (by decide) (by decide) (by decide) (by decide) (by decide) (by decide))⟩
theorem sts_pc (G : Bs → Int) : ∀ (l : List St) (E : Bs → Int) (v : Nat) (ws : List Bs) (o : Nat), stsR l → highsK l ≤ 16 → ∃ hs, Pc o (stsK G l E v ws o).ins 0 0 hs
  | [], E, v, ws, o, _, _ => ⟨[], by rw [stsK_nil]; exact Pc.nil _ _⟩
  | s :: l, E, v, ws, o, hR, hh => by
    rw [stsR] at hR
    rw [highsK] at hh
    obtain ⟨h1, p1⟩ := st_pc G s E v ws o hR.1 (by omega)
    obtain ⟨h2, p2⟩ := sts_pc G l (stK G s E v ws o).E (stK G s E v ws o).v (stK G s E v ws o).ws (o + (stK G s E v ws o).ins.length) hR.2 (by omega)
    rw [stsK_cons rfl rfl]
    exact ⟨_, p1.app p2⟩
end
theorem go_ok (ins : List In) (H : Nat → Option Int) (hF : Fl H 0 ins) (hH : ∀ p d, H p = some d → p < ins.length) : ∀ (f : Nat) (h : List Int) (q : List (Int × Int)), h.length = ins.length → (∀ p x, h[p]? = some x → x < 0 ∨ H p = some x) → (∀ z ∈ q, ∃ p : Nat, z.1 = p ∧ H p = some z.2) → (hGo ins f h q).2 = 0
  | 0, h, q, _, _, _ => rfl
  | f + 1, h, [], _, _, _ => rfl
  | f + 1, h, (a, n) :: q, hl, hh, hq => by
    obtain ⟨p, ha, hp⟩ := hq (a, n) (List.mem_cons_self ..)
    simp only at ha hp
    subst ha
    have hpl := hH p n hp
    have hq' : ∀ z ∈ q, ∃ p : Nat, z.1 = p ∧ H p = some z.2 := fun z hz => hq z (List.mem_cons_of_mem _ hz)
    obtain ⟨d, s1, s2, s3, s4, s5, s6, s7⟩ := hF p ins[p] (List.getElem?_eq_getElem hpl)
    rw [Nat.zero_add] at s1 s6
    rw [hp] at s1
    obtain rfl : n = d := Option.some.inj s1
    have hhp : h[p]? = some (h[p]'(by omega)) := List.getElem?_eq_getElem _
    have hg : h.getD p 0 = h[p]'(by omega) := by simp [List.getD, hhp]
    have hig : ins.getD p ⟨0, 0, 0⟩ = ins[p] := by simp [List.getD, List.getElem?_eq_getElem hpl]
    rw [hGo, if_neg (by omega)]
    simp only [Int.toNat_natCast]
    rw [hg, hig]
    generalize h[p]'(by omega) = x at hhp
    have hx := hh p x hhp
    by_cases h0 : 0 ≤ x
    · rcases hx with hx | hx
      · omega
      rw [hp] at hx
      obtain rfl : n = x := Option.some.inj hx
      rw [if_neg (by simp), if_pos h0]
      exact go_ok ins H hF hH f h q hl hh hq'
    · rw [if_neg (fun h => h0 h.1), if_neg h0, if_neg (fun h => h.elim (Int.not_lt.mpr s3) (fun h => absurd (s4 h.1) (Int.not_le.mpr h.2))), if_neg (Int.not_lt.mpr s5)]
      refine go_ok ins H hF hH f _ _ (by rw [List.length_set]; exact hl) (fun p' x' h' => ?_) (fun z hz => ?_)
      · by_cases e : p' = p
        · subst e
          rw [List.getElem?_set_self (by omega)] at h'
          obtain rfl : n = x' := Option.some.inj h'
          exact .inr hp
        · rw [List.getElem?_set_ne (fun h => e h.symm)] at h'
          exact hh p' x' h'
      · rcases List.mem_append.1 hz with hz | hz
        · exact hq' z hz
        · unfold nextC at hz
          rcases List.mem_append.1 hz with hz | hz
          · split at hz
            · rename_i hc
              rw [List.mem_singleton.1 hz]
              exact ⟨p + 1, by simp, s6 hc.1 hc.2⟩
            · cases hz
          · split at hz
            · rename_i hc
              rw [List.mem_singleton.1 hz]
              exact s7 hc
            · cases hz
/-- A function's code has heights. -/
theorem fn_heights (G : Bs → Int) (f : Fn) (ws : List Bs) (hR : stsR f.b) (hh : highsK f.b ≤ 16) : (heightsC (fnI G f ws)).2 = 0 := by
  obtain ⟨hs, h1, h2, h3⟩ := sts_pc G f.b (parE f.p 0 (fun _ => 0)) f.p.length ws 0 hR hh
  have e : (fnI G f ws) = (stsK G f.b (parE f.p 0 (fun _ => 0)) f.p.length ws 0).ins ++ [⟨1, 0, 0⟩, ⟨18, 0, 0⟩] := rfl
  generalize (stsK G f.b (parE f.p 0 (fun _ => 0)) f.p.length ws 0).ins = c at *
  rw [e]
  obtain ⟨H, hHd⟩ : ∃ H : Nat → Option Int, H = fun p => (hs ++ [0, 1])[p]? := ⟨_, rfl⟩
  have hA : Agr H 0 (hs ++ [0, 1]) := fun j d hj => by rw [hHd, Nat.zero_add]; exact hj
  have e2 : hs ++ [(0 : Int), 1] = (hs ++ [0]) ++ [1] := by simp
  rw [e2] at hA
  have f1 := h3 H hA.left
  have b0 : H hs.length = some 0 := by have := hA.left.right.head; rwa [Nat.zero_add] at this
  have b1 : H (hs.length + 1) = some 1 := by have := hA.right.head; simpa using this
  have hF : Fl H 0 (c ++ [⟨1, 0, 0⟩, ⟨18, 0, 0⟩]) := by
    refine f1.app ?_
    rw [Nat.zero_add, ← h1]
    exact Fl.cons (Stp.of 0 (sp := (0, 1)) rfl b0 (by decide) (by decide) (by simp) (by decide) (fun _ _ => b1) (fun h => by simp at h)) (Fl.one (Stp.of 1 (sp := (1, 0)) rfl b1 (by decide) (by decide) (fun _ => by decide) (by decide) (fun _ h => absurd rfl h) (fun h => by simp at h)))
  unfold heightsC
  refine go_ok _ H hF (fun p d hp => ?_) _ _ _ (by simp) (fun p x hx => ?_) (fun z hz => ?_)
  · rw [hHd] at hp
    have := (List.getElem?_eq_some_iff.1 hp).1
    simp at this ⊢
    omega
  · rw [List.getElem?_replicate] at hx
    split at hx
    · obtain rfl := Option.some.inj hx; exact .inl (by decide)
    · cases hx
  · rw [List.mem_singleton.1 hz]
    refine ⟨0, rfl, ?_⟩
    have := hA.left 0 0 h2
    simpa using this
end Go.Proofs.YtkmdamljhagogaaDoor
end
section
/- Parse of any text; what a right text is. -/
set_option maxHeartbeats 0
set_option maxRecDepth 100000
namespace Go.Proofs.YtkmdamljhagogaaDoor
open Go Go.RowKit
/-- The functions that a text makes, or what is wrong. -/
def pt (s : Bs) : List Fn × Int := refParse 1502 1502 s
theorem parse_any (s : Bs) (w : World) (hE : Er w) (hT : Tab w) (hs : s.length ≤ 9223372036854775807) : Calls Tryd.prog 7 #[.string (bs s)] w (PPost w (pt s)) := by
  rcases Nat.lt_or_ge 1500 s.length with h | h
  · exact parse_long s 1502 1502 w h hs
  · exact parse_short s 1502 1502 w hE hT h (by omega) (by omega)
/-- Of a right text. -/
theorem pt_fine {s : Bs} (h : (pt s).2 = 0) : (∀ f ∈ (pt s).1, FnSh f) ∧ fnsN (pt s).1 ≤ 1500 ∧ s.length ≤ 1500 := by
  unfold pt refParse at *
  by_cases hl : 1500 < s.length
  · rw [if_pos hl] at h; cases h
  · rw [if_neg hl] at h ⊢
    unfold finP at *
    by_cases hz : (fnsP 1502 1502 s 0).z = 0
    · rw [if_pos hz] at h ⊢
      have := fns_fine 1502 1502 s hz
      exact ⟨this.1, by have := this.2; show fnsN (fnsP 1502 1502 s 0).v ≤ 1500; omega, by omega⟩
    · rw [if_neg hz] at h; exact absurd h hz
theorem each2 {w : World} {P : Nat → Prop} {rs : List RawF} {l : List Fn} (h : Each (FnOk2 w P) rs l) : Each (FnOk w P) rs l ∧ ∀ r ∈ rs, r.p.n ≤ r.p.c := by
  refine ⟨⟨h.1, fun i r x hr hx => (h.2 i r x hr hx).1⟩, fun r hr => ?_⟩
  obtain ⟨i, hi, e⟩ := List.getElem_of_mem hr
  have h1 : rs[i]? = some r := by rw [List.getElem?_eq_getElem hi, e]
  have h2 : l[i]? = some (l[i]'(h.1 ▸ hi)) := List.getElem?_eq_getElem _
  exact (h.2 i r _ h1 h2).2
theorem each_fr {w w' : World} {rs : List RawF} {l : List Fn} (h : Each (FnOk w (fun k => k < w.heap.size)) rs l) (hf : Fr nothing w w') : Each (FnOk w' (fun k => k < w'.heap.size)) rs l :=
  ⟨h.1, fun i r x hr hx => fn_stays _ _ _ _ _ _ _ (h.2 i r x hr hx) hf (fun _ _ => id) (fun _ hk => Nat.lt_of_lt_of_le hk hf.size)⟩
end Go.Proofs.YtkmdamljhagogaaDoor
end
