/- KMake2; RDeep; RMk0. -/
import Derived.Test.YtkmdamljhagogaaDoorPartT18
import Derived.Test.YtkmdamljhagogaaDoorPartT20
section
/- Package code: Make, its walk. -/
set_option maxHeartbeats 0
set_option maxRecDepth 100000
namespace Go.Proofs.YtkmdamljhagogaaDoor
open Go Go.RowKit
theorem sizeCd : (Tryd.prog.info? 40).map (fun i => (i.zero, i.size, i.bytes)) = some (some (.agg #[.int .i64 0, .int .i64 0, .slice none 0 0]), 3, 40) := by kernel_rfl
/-- Of each function: what Make wants. -/
structure FnM (f : Fn) : Prop where
  sh : FnSh f
  kd : stsKd f.b
  u : stsU (fun _ _ => True) f.b f.p
  p : f.p.length ≤ 4
def idxM (A : AMap) (f : Fn) (i : Nat) : AMap := A.put f.t i
theorem idx_step {A : AMap} {G : Bs → Int} (h : ∀ t, (A.f t).getD 0 = G t) (t : Bs) (i : Nat) : ∀ x, ((A.put t i).f x).getD 0 = upd G t i x := by
  intro x
  unfold AMap.put upd
  dsimp only
  by_cases e : x = t
  · simp [e]
  · rw [if_neg e, if_neg e]; exact h x
theorem make_any (l : List Fn) (s : Slc) (rs : List RawF) (w : World) (hS : Sl encG 3 w s.v rs) (hE : Each (FnOk w (fun k => k < w.heap.size)) rs l) (hM : ∀ f ∈ l, FnM f) (hN : fnsN l ≤ 50000) (h5 : l.length ≤ 5) :
    Calls Tryd.prog 13 #[.slice s.a s.n s.c] w (MkP w (progK l)) := by
  obtain ⟨hln, hlm⟩ := sl_len hS
  obtain ⟨la, ln, lc⟩ := s
  simp only at hln
  rw [hE.1] at hln
  subst hln
  have hll : l.length ≤ 9223372036854775807 := by have := hE.1; omega
  have HS := hide hS
  have HE := hide hE
  have hmm := @run_makeMap Tryd.prog
  have HF0 : Hid (Fr nothing w (((w.alloc (.cells #[.slice none 0 0, .slice none 0 0] 34)).alloc (.cells #[.slice none 0 0, .slice none 0 0] 34)).alloc (.map #[] 0))) := (((Fr.refl _ _).alloc _).alloc _).alloc _
  have HM0 := hide (SI.made ((w.alloc (.cells #[.slice none 0 0, .slice none 0 0] 34)).alloc (.cells #[.slice none 0 0, .slice none 0 0] 34)))
  have HRB := hide (made_cells (((Fr.refl nothing (w.alloc (.cells #[.slice none 0 0, .slice none 0 0] 34))).alloc (.cells #[.slice none 0 0, .slice none 0 0] 34)).alloc (.map #[] 0)) id)
  have HPB := hide (made_cells ((Fr.refl nothing ((w.alloc (.cells #[.slice none 0 0, .slice none 0 0] 34)).alloc (.cells #[.slice none 0 0, .slice none 0 0] 34))).alloc (.map #[] 0)) id)
  have s1 : (w.alloc (.cells #[.slice none 0 0, .slice none 0 0] 34)).heap.size = w.heap.size + 1 := by simp
  have s2 : ((w.alloc (.cells #[.slice none 0 0, .slice none 0 0] 34)).alloc (.cells #[.slice none 0 0, .slice none 0 0] 34)).heap.size = w.heap.size + 1 + 1 := by simp
  rw [s1] at HPB
  rw [s2] at HM0
  clear hS hE s1 s2
  go_enter Tryd.func13, Tryd.ntmps13
  go_wp2
  generalize ((w.alloc (.cells #[.slice none 0 0, .slice none 0 0] 34)).alloc (.cells #[.slice none 0 0, .slice none 0 0] 34)).alloc (.map #[] 0) = w3 at HF0 HM0 HRB HPB ⊢
  obtain ⟨fb, hfb⟩ : ∃ x, x = w.heap.size + 1 + 1 := ⟨_, rfl⟩
  rw [← hfb] at HM0
  rw [← hfb]
  have HFB := hide hfb
  clear hfb
  go_loopw [17, 6, 7] (fun i _ _ wr => ∃ (j : Nat), j ≤ l.length ∧ i = .int .i64 j ∧ Hid (∃ (A : AMap) (G : Bs → Int), SI fb A wr ∧ (∀ t, (A.f t).getD 0 = G t) ∧ A.n ≤ j ∧ Fr (fun k => k = fb) w3 wr ∧ idxG l 0 (fun _ => 0) = idxG (l.drop j) j G)) (fun i _ _ _ => l.length - (intOf i).toNat)
  case atStart => exact ⟨0, Nat.zero_le _, rfl, AMap.empty, fun _ => 0, HM0.out, fun _ => rfl, Nat.le_refl _, Fr.refl _ _, rfl⟩
  case round =>
    obtain ⟨j, hj, rfl, hR⟩ := hrel
    by_cases hjl : j < l.length
    · have hx : l[j]? = some l[j] := List.getElem?_eq_getElem hjl
      have hr : rs[j]? = some (rs[j]'(by rw [HE.out.1]; omega)) := List.getElem?_eq_getElem _
      have hxm : l[j] ∈ l := List.getElem_mem hjl
      have hdr : l.drop j = l[j] :: l.drop (j + 1) := List.drop_eq_getElem_cons hjl
      generalize rs[j]'(by rw [HE.out.1]; omega) = r at hr
      generalize l[j] = f at hx hxm hdr
      have hok := HE.out.2 j r f hr hx
      obtain ⟨g, o, hg, dg, p0, p1, p2⟩ := sl_elem3 (s := ⟨la, l.length, lc⟩) HS.out hr
      simp only at hg
      subst hg
      obtain ⟨A, G, hA, hG, hAn, hFj, hEq⟩ := hR.out
      have hF0r : Fr nothing w wr := HF0.out.then hFj (fun k hk e => by have := HFB.out; omega)
      rw [← hF0r.cell (p := ⟨g, _, none⟩) dg id] at p0 p1 p2
      have eg : g < wr.heap.size := Nat.lt_of_lt_of_le dg hF0r.size
      rw [hdr, idxG] at hEq
      have hft := (hM f hxm).sh.t
      have hFA : Fr nothing wr (wr.alloc (fo r)) := (Fr.refl _ _).alloc _
      have hrt := hok.t
      obtain ⟨rt, rp, rb⟩ := r
      simp only at hrt p0 p1 p2
      subst hrt
      obtain ⟨y0, y1, y2, yl⟩ := fo_cells (Fr.refl nothing (wr.alloc (fo ⟨f.t, rp, rb⟩))) id
      obtain ⟨wu, ru, hA2, hfu⟩ := (hA.fr hFA id).store f.t (by omega) (j : Nat) (by omega) (by omega) (by omega)
      have HNX := hide (show ∃ (A : AMap) (G : Bs → Int), SI fb A wu ∧ (∀ t, (A.f t).getD 0 = G t) ∧ A.n ≤ j + 1 ∧ Fr (fun k => k = fb) w3 wu ∧ idxG l 0 (fun _ => 0) = idxG (l.drop (j + 1)) (j + 1) G from ⟨A.put f.t j, upd G f.t j, hA2, idx_step hG f.t j, by unfold AMap.put; dsimp only; split <;> omega, (hFj.trans (hFA.mono (fun _ _ e => e.elim))).trans hfu, hEq⟩)
      clear hR hA hG hAn hFj hF0r hEq hFA hok hA2 hfu hr hx
      generalize hwa : wr.alloc (fo ⟨f.t, rp, rb⟩) = wa at *
      go_wp2
      go_roundw
      case rel => exact ⟨j + 1, by omega, by go_num, HNX.out⟩
      case measure => simp [intOf]; omega
    · have hje : j = l.length := by omega
      obtain ⟨A, G, hA, hG, hAn, hFj, hEq⟩ := hR.out
      rw [hje, List.drop_length, idxG] at hEq
      have hszr := hFj.size
      have hsz3 := HF0.out.size
      have hw3 : w.heap.size + 1 < w3.heap.size := HPB.out.2.2
      have hfbl := hA.lt
      have hfbe := HFB.out
      have HNB := hide (numbering_any (w.heap.size + 1) wr)
      -- the closure's blocks
      obtain ⟨w4, hw4⟩ : ∃ w4, w4 = ((wr.alloc (.cells #[.pointer (some ⟨w.heap.size + 1, 1, none⟩)] 71)).alloc (.map #[] 0)).alloc (.cells #[.map (some (wr.heap.size + 1))] 55) := ⟨_, rfl⟩
      have t1 : (wr.alloc (.cells #[.pointer (some ⟨w.heap.size + 1, 1, none⟩)] 71)).heap.size = wr.heap.size + 1 := by simp
      have t2 : ((wr.alloc (.cells #[.pointer (some ⟨w.heap.size + 1, 1, none⟩)] 71)).alloc (.map #[] 0)).heap.size = wr.heap.size + 1 + 1 := by simp
      have hF4 : Fr nothing wr w4 := by rw [hw4]; exact (((Fr.refl _ _).alloc _).alloc _).alloc _
      have cj := (made_cells (((Fr.refl nothing (wr.alloc (.cells #[.pointer (some ⟨w.heap.size + 1, 1, none⟩)] 71))).alloc (.map #[] 0)).alloc (.cells #[.map (some (wr.heap.size + 1))] 55)) id)
      have ck := made_cells (Fr.refl nothing (((wr.alloc (.cells #[.pointer (some ⟨w.heap.size + 1, 1, none⟩)] 71)).alloc (.map #[] 0)).alloc (.cells #[.map (some (wr.heap.size + 1))] 55))) id
      rw [t2] at ck
      have cn := (SI.made (wr.alloc (.cells #[.pointer (some ⟨w.heap.size + 1, 1, none⟩)] 71))).fr ((Fr.refl nothing ((wr.alloc (.cells #[.pointer (some ⟨w.heap.size + 1, 1, none⟩)] 71)).alloc (.map #[] 0))).alloc (.cells #[.map (some (wr.heap.size + 1))] 55)) id
      rw [t1] at cn
      rw [← hw4] at cj ck cn
      have np : ¬ w.heap.size + 1 = fb := by omega
      have nr : ¬ w.heap.size = fb := by omega
      have hp : ∀ j, w4.cell? ⟨w.heap.size + 1, j, none⟩ = (#[Value.slice none 0 0, .slice none 0 0])[j]? := fun j => (hF4.cell (p := ⟨w.heap.size + 1, j, none⟩) (Nat.lt_of_lt_of_le hw3 hszr) id).trans ((hFj.cell (p := ⟨w.heap.size + 1, j, none⟩) hw3 np).trans (HPB.out.1 j))
      have hpz : ∀ j, w4.frozen? ⟨w.heap.size + 1, j, none⟩ = false := fun j => (hF4.frozen (p := ⟨w.heap.size + 1, j, none⟩) (Nat.lt_of_lt_of_le hw3 hszr) id).trans ((hFj.frozen (p := ⟨w.heap.size + 1, j, none⟩) hw3 np).trans (HPB.out.2.1 j))
      have hrb : ∀ j, w4.cell? ⟨w.heap.size, j, none⟩ = (#[Value.slice none 0 0, .slice none 0 0])[j]? := fun j => (hF4.cell (p := ⟨w.heap.size, j, none⟩) (Nat.lt_of_lt_of_le HRB.out.2.2 hszr) id).trans ((hFj.cell (p := ⟨w.heap.size, j, none⟩) HRB.out.2.2 nr).trans (HRB.out.1 j))
      have hrz : ∀ j, w4.frozen? ⟨w.heap.size, j, none⟩ = false := fun j => (hF4.frozen (p := ⟨w.heap.size, j, none⟩) (Nat.lt_of_lt_of_le HRB.out.2.2 hszr) id).trans ((hFj.frozen (p := ⟨w.heap.size, j, none⟩) HRB.out.2.2 nr).trans (HRB.out.2.1 j))
      obtain ⟨m, hm⟩ : ∃ m : Mk, m = ⟨fb, wr.heap.size + 1 + 1, wr.heap.size, wr.heap.size + 1, w.heap.size + 1, w.heap.size + 1⟩ := ⟨_, rfl⟩
      have hMI : MI m G [] [] w4 := by
        rw [hm]
        refine MI.made ⟨A, hA.fr hF4 id, hG⟩ (ck.1 0) (cj.1 0) cn hpz ?_ (hp 0) (hp 1) ⟨?_, ?_, ?_, ?_, ?_, ?_, ?_⟩
        · show w.heap.size + 1 ≤ _; have := hF4.size; omega
        all_goals (simp only; omega)
      have hF04 : Fr nothing w w4 := (HF0.out.then hFj (fun k hk e => by omega)).trans hF4
      have HMI := hide hMI
      have HF04 := hide hF04
      have HRC := hide (And.intro hrb hrz)
      have HEQ : Hid (progK l = makeK G l ⟨[], []⟩) := by show progK l = _; unfold progK; rw [hEq]
      have HM := hide hm
      have hml : wr.heap.size + 1 + 1 < w4.heap.size := ck.2.2
      rw [← hw4] at HNB
      have hws : w.heap.size + 1 < wr.heap.size := by omega
      clear hR hje hA hG hAn hFj hEq hszr hsz3 hw3 hfbl hfbe t1 t2 hF4 cj ck cn np nr hp hpz hrb hrz hMI hF04 hm HRB HPB HF0 HM0 hw4
      go_wp2_with (go_at_call 29; refine HNB.out.mono ?_; rintro e w5 ⟨rfl, hw5⟩; have hw5' := hw5.symm; subst hw5'; clear hw5)
      obtain ⟨kb, hkb⟩ : ∃ x, x = wr.heap.size + 1 + 1 := ⟨_, rfl⟩
      obtain ⟨nb, hnb⟩ : ∃ x, x = wr.heap.size + 1 := ⟨_, rfl⟩
      obtain ⟨jb, hjb⟩ : ∃ x, x = wr.heap.size := ⟨_, rfl⟩
      obtain ⟨pb, hpb⟩ : ∃ x, x = w.heap.size + 1 := ⟨_, rfl⟩
      obtain ⟨rb0, hrb0⟩ : ∃ x, x = w.heap.size := ⟨_, rfl⟩
      have hm := HM.out
      rw [← hkb, ← hnb, ← hjb, ← hpb] at hm
      subst hm
      have HNUM : Hid (w.heap.size < nb ∧ pb = w.heap.size + 1 ∧ rb0 = w.heap.size ∧ rb0 < w4.heap.size ∧ rb0 ≠ nb ∧ rb0 ≠ pb) := by show _ ∧ _; omega
      rw [← hrb0] at HRC
      rw [← hkb, ← hjb, ← hpb, ← hrb0]
      clear HM hkb hnb hjb hpb hrb0 hml hws HNB
      go_loopw [31, 10, 11, 12, 13] (fun i _ _ _ _ wv => ∃ (k : Nat), k ≤ l.length ∧ i = .int .i64 k ∧ Hid (∃ (cs : List Cd) (ws : List Bs), MI ⟨fb, kb, jb, nb, pb, pb⟩ G cs ws wv ∧ Fr nothing w wv ∧ rb0 < wv.heap.size ∧ (∀ j, wv.cell? ⟨rb0, j, none⟩ = (#[Value.slice none 0 0, .slice none 0 0])[j]?) ∧ (∀ j, wv.frozen? ⟨rb0, j, none⟩ = false) ∧ progK l = makeK G (l.drop k) ⟨cs, ws⟩ ∧ cs.length = k ∧ ws.length + fnsN (l.drop k) ≤ 50000)) (fun i _ _ _ _ _ => l.length - (intOf i).toNat)
      case atStart => exact ⟨0, Nat.zero_le _, rfl, [], [], HMI.out, HF04.out, HNUM.out.2.2.2.1, HRC.out.1, HRC.out.2, HEQ.out, rfl, by rw [List.drop_zero]; simpa using hN⟩
      case round =>
        obtain ⟨k, hk, rfl, hR⟩ := hrel
        by_cases hkl : k < l.length
        · have hx : l[k]? = some l[k] := List.getElem?_eq_getElem hkl
          have hr : rs[k]? = some (rs[k]'(by rw [HE.out.1]; omega)) := List.getElem?_eq_getElem _
          have hxm : l[k] ∈ l := List.getElem_mem hkl
          have hdr : l.drop k = l[k] :: l.drop (k + 1) := List.drop_eq_getElem_cons hkl
          generalize rs[k]'(by rw [HE.out.1]; omega) = r at hr
          generalize l[k] = f at hx hxm hdr
          have hok := HE.out.2 k r f hr hx
          obtain ⟨g, o, hg, dg, p0, p1, p2⟩ := sl_elem3 (s := ⟨la, l.length, lc⟩) HS.out hr
          simp only at hg
          subst hg
          obtain ⟨cs, ws, hMI, hFk, hrl, hrc, hrz, hEq, hcl, hNk⟩ := hR.out
          rw [← hFk.cell (p := ⟨g, _, none⟩) dg id] at p0 p1 p2
          have eg : g < wr.heap.size := Nat.lt_of_lt_of_le dg hFk.size
          rw [hdr, makeK] at hEq
          have hNk' : ws.length + (f.p.length + stsN f.b) + fnsN (l.drop (k + 1)) ≤ 50000 := by
            rw [hdr] at hNk; unfold fnsN at hNk ⊢; simp only [List.map_cons, List.sum_cons] at hNk; omega
          have hFM := hM f hxm
          obtain ⟨sc, sw, rsc, r1, r2, r3, r4, r5, r6, r7⟩ := hMI.rows
          simp only at r1 r2 r3 r4
          have hnum := HNUM.out
          -- the new blocks
          have u1 : (wr.alloc (fo r)).heap.size = wr.heap.size + 1 := by simp
          have u2 : ((wr.alloc (fo r)).alloc (.map #[] 0)).heap.size = wr.heap.size + 1 + 1 := by simp
          obtain ⟨w7, hw7⟩ : ∃ w7, w7 = ((wr.alloc (fo r)).alloc (.map #[] 0)).alloc (.cells #[.map (some fb), .func (.func 41) #[] #[.pointer (some ⟨kb, 0, none⟩), .pointer (some ⟨jb, 0, none⟩)], .map (some (wr.heap.size + 1)), .int .i64 0, .int .i64 0, .slice none 0 0] 74) := ⟨_, rfl⟩
          have hF7 : Fr nothing wr w7 := by rw [hw7]; exact (((Fr.refl _ _).alloc _).alloc _).alloc _
          have hV := (SI.made (wr.alloc (fo r))).fr ((Fr.refl nothing ((wr.alloc (fo r)).alloc (.map #[] 0))).alloc (.cells #[.map (some fb), .func (.func 41) #[] #[.pointer (some ⟨kb, 0, none⟩), .pointer (some ⟨jb, 0, none⟩)], .map (some (wr.heap.size + 1)), .int .i64 0, .int .i64 0, .slice none 0 0] 74)) id
          have hcw := made_cells (Fr.refl nothing (((wr.alloc (fo r)).alloc (.map #[] 0)).alloc (.cells #[.map (some fb), .func (.func 41) #[] #[.pointer (some ⟨kb, 0, none⟩), .pointer (some ⟨jb, 0, none⟩)], .map (some (wr.heap.size + 1)), .int .i64 0, .int .i64 0, .slice none 0 0] 74))) id
          have hfo := fo_cells (((Fr.refl nothing (wr.alloc (fo r))).alloc (.map #[] 0)).alloc (.cells #[.map (some fb), .func (.func 41) #[] #[.pointer (some ⟨kb, 0, none⟩), .pointer (some ⟨jb, 0, none⟩)], .map (some (wr.heap.size + 1)), .int .i64 0, .int .i64 0, .slice none 0 0] 74)) id
          rw [u1] at hV
          rw [u2] at hcw
          rw [← hw7] at hV hcw hfo
          obtain ⟨T, s, hK7, hFresh, hT, hT2⟩ := hMI.writer (sc := sc) r1 hF7 (vb := wr.heap.size + 1) (wb := wr.heap.size + 1 + 1) (by omega) (by omega) (by omega) hV hcw.1 hcw.2.1 hcw.2.2
          simp only at hT hK7
          have hlow : ∀ b, b ≤ w.heap.size → b ≠ pb → b < wr.heap.size → ¬ T b := by
            intro b hb h1 h2 e
            rcases hT b e with e | e | ⟨sw2, e1, e2⟩ | e
            · omega
            · exact h1 e
            · have e3 : sw2.v = sw.v := by rw [r3] at e1; exact (Option.some.inj e1).symm
              rw [e3] at e2
              have := (r4.lt b e2).1
              omega
            · omega
          have hF07 : Fr nothing w w7 := hFk.trans hF7
          have hok7 : FnOk w7 (ap T w7) r f := fn_stays _ _ _ _ _ _ _ hok hF07 (fun _ _ => id) (fun b hb => ⟨hlow b (by omega) (by omega) (by have := hFk.size; omega), by have := hF07.size; omega⟩)
          have HFN := hide (wfunction_any f ⟨wr.heap.size + 1 + 1, fb, wr.heap.size + 1, kb, jb, nb, pb, pb, sc.v⟩ G T s ws w7 hK7 hFresh r hok7 hFM.sh hFM.kd hFM.u hFM.p (by omega) (by omega))
          have nrb : ¬ T rb0 := hlow rb0 (by omega) (by omega) hrl
          have rl7 := Nat.lt_of_lt_of_le hrl hF7.size
          have rc7 : ∀ j, w7.cell? ⟨rb0, j, none⟩ = (#[Value.slice none 0 0, .slice none 0 0])[j]? := fun j => (hF7.cell (p := ⟨rb0, j, none⟩) hrl id).trans (hrc j)
          have rz7 : ∀ j, w7.frozen? ⟨rb0, j, none⟩ = false := fun j => (hF7.frozen (p := ⟨rb0, j, none⟩) hrl id).trans (hrz j)
          have HF07 := hide hF07
          have HLOW := hide (show ∀ b, b < w.heap.size → ¬ T b from fun b hb => hlow b (by omega) (by omega) (by have := hFk.size; omega))
          obtain ⟨y0, y1, y2, yl⟩ := hfo
          have hEQ := hEq
          unfold FP at HFN
          cases hmu : fnMuch G f ws with
          | true =>
            rw [hmu] at HFN hEQ
            simp only [if_true] at hEQ
            have HEND := hide hEQ
            have hmm := @run_makeMap Tryd.prog
            clear hR hok hr hx hMI hFk hrc hrz hEq hEQ hcl hNk hFM r1 r2 r3 r4 r5 r6 r7 hV hcw hF7 hK7 hFresh hT hT2 hlow hF07 hok7 hmu hnum
            obtain ⟨rt, rp, rb⟩ := r
            simp only at p0 p1 p2
            go_wp2_with (go_at_call 30; rw [← hw7]; refine HFN.out.mono ?_; rintro e w8 ⟨hF8, hcase⟩; obtain ⟨_, rfl⟩ | ⟨hc, _⟩ := hcase; rotate_left; exact absurd hc (by decide); have z0 := (hF8.cell (p := ⟨rb0, 0, none⟩) rl7 nrb).trans (rc7 0); have z1 := (hF8.cell (p := ⟨rb0, 1, none⟩) rl7 nrb).trans (rc7 1); have zf0 := (hF8.frozen (p := ⟨rb0, 0, none⟩) rl7 nrb).trans (rz7 0); have zf1 := (hF8.frozen (p := ⟨rb0, 1, none⟩) rl7 nrb).trans (rz7 1); have zl := Nat.lt_of_lt_of_le rl7 hF8.size; have HF8 := hide hF8; clear hF8)
            obtain ⟨w9, hw9, g0', g1', hF9⟩ := set2 (.slice none 0 0) (.slice none 0 0) z0 z1
            rw [← hw9]
            have zl9 := Nat.lt_of_lt_of_le zl hF9.size
            have HF9 := hide (((HF07.out.then HF8.out (fun k hk e => HLOW.out k hk e)).then hF9 (fun k hk e => by have := HNUM.out; omega)).alloc (.cells #[.int .i64 0, .int .i64 0, .slice none 0 0] 40))
            have g0 := (((Fr.refl nothing w9).alloc (.cells #[.int .i64 0, .int .i64 0, .slice none 0 0] 40)).cell (p := ⟨rb0, 0, none⟩) zl9 id).trans g0'
            have g1 := (((Fr.refl nothing w9).alloc (.cells #[.int .i64 0, .int .i64 0, .slice none 0 0] 40)).cell (p := ⟨rb0, 1, none⟩) zl9 id).trans g1'
            generalize w9.alloc (.cells #[.int .i64 0, .int .i64 0, .slice none 0 0] 40) = w10 at *
            clear hw9 hF9
            exact bodyPost_ret (v := .tuple #[.agg #[.slice none 0 0, .slice none 0 0], .int .i64 4]) (by simp [results, Tryd.results13, go_sem, g0, g1]) rfl ⟨nilS, nilS, by rw [HEND.out], HF9.out, by rw [HEND.out]; exact pgOk_nil _⟩
          | false =>
            rw [hmu] at HFN hEQ
            simp only [Bool.false_eq_true, if_false] at hEQ
            have HEND := hide hEQ
            have hmm := @run_makeMap Tryd.prog
            obtain ⟨j0, hj0, hy0, hy1, hy2⟩ := info_parts sizeCd
            have HAF := hide (fun T8 w8 sE sl K8 F8 t8 h5 => hMI.after (T8 := T8) (w8 := w8) (sE := sE) (sl := sl) (wb := wr.heap.size + 1 + 1) (vb := wr.heap.size + 1) (T := T) r1 hF7 hT K8 F8 t8 h5)
            have hcl5 : cs.length ≤ 5 := by omega
            have hfwl := stsK_le G f.b (parE f.p 0 (fun _ => 0)) f.p.length ws 0
            have hwl8 : (fnS G f ws).ws.length ≤ ws.length + stsN f.b := hfwl.w
            have hvl8 : (fnS G f ws).v ≤ f.p.length + stsN f.b := hfwl.v
            have hp4 := hFM.p
            have HCL := hide hcl
            clear hR hok hr hx hMI hFk hrc hrz hEq hEQ hNk hFM r1 r2 r3 r4 r5 r6 r7 hV hcw hF7 hK7 hFresh hT hT2 hlow hF07 hok7 hmu hfwl hnum hcl
            obtain ⟨rt, rp, rb⟩ := r
            simp only at p0 p1 p2
            go_wp2_with (first
              | (at_builtin; go_must (refine wpList_append_lies _ rfl _ _ 31 rfl pb 40 j0 _ 3 40 Tryd.underlying31 hj0 hy0 hy1 hy2 rfl (by decide) (.slice ca cs.length cc) cs.length _ rfl (((HO8.out.alloc _).alloc _)) ⟨w8.heap.size + 1, 0, none⟩ 1 1 [.int .i64 (f.p.length : Nat), .int .i64 ((fnS G f ws).v : Nat), .slice sl.a sl.n sl.c] rfl rfl (fun j u hu => by have h1 := World.news_of_block (cs := #[.int .i64 (f.p.length : Nat), .int .i64 ((fnS G f ws).v : Nat), .slice sl.a sl.n sl.c]) (t := 40) (fr := (0, 0)) (heap_new (w8.alloc (.cells #[.int .i64 (f.p.length : Nat), .int .i64 ((fnS G f ws).v : Nat), .slice sl.a sl.n sl.c] 40)) _) j u hu; rw [hsz9] at h1; exact h1) (by simp [Value.oneCell']) (by decide) (by unfold maxLen; omega) (by omega) (by simp; omega) _ rfl ?_); intro g1 cp1 w11 hr11 hg11 hat11 hlt11; have F11 : Fr (fun k => (Value.slice ca cs.length cc).ownBlock = some k) w8 w11 := (((Fr.refl (fun k => (Value.slice ca cs.length cc).ownBlock = some k) w8).alloc _).alloc _).grown hg11 (fun k hk => .inl hk); have x5 := (F11.cell (p := ⟨pb, 0, none⟩) zpl (fun e => HQ3.out _ e rfl)).trans q1; have xf := (F11.frozen (p := ⟨pb, 0, none⟩) zpl (fun e => HQ3.out _ e rfl)).trans zpz; have xl := Nat.lt_of_lt_of_le zpl F11.size; clear F11; have HR11 := hide hr11; have HG11 := hide hg11; have HAT11 := hide hat11; clear hr11 hg11 hat11)
              | (go_at_call 30; rw [← hw7]; refine HFN.out.mono ?_; rintro e w8 ⟨hF8, hcase⟩; obtain ⟨hc, _⟩ | ⟨_, sl, rfl, h5, T8, K8, F8, t8⟩ := hcase; exact absurd hc (by decide); obtain ⟨hMI8, hsl8, hbk8⟩ := HAF.out T8 w8 _ sl K8 F8 t8 h5; obtain ⟨ca, cc, rs8, q1, q2, q3⟩ := hMI8.codes; have zpl := hMI8.pl; have zpz := hMI8.pz 0; have zbl := hMI8.bl; simp only at q1 q2 q3 zpl zpz zbl; have hsz9 : (w8.alloc (.cells #[.int .i64 (f.p.length : Nat), .int .i64 ((fnS G f ws).v : Nat), .slice sl.a sl.n sl.c] 40)).heap.size = w8.heap.size + 1 := (by simp); have HSC8 : Hid (sc.v = .slice ca cs.length cc) := Option.some.inj ((K8.p0).symm.trans q1); have HMI8 := hide hMI8; have HSL8 := hide hsl8; have HBK8 := hide hbk8; have HO8 := hide q2; have HQ3 := hide q3; have HF8 := hide hF8; clear hMI8 hsl8 hbk8 q2 q3 hF8 K8 F8 t8 h5))
            have hDONE : ∃ (cs2 : List Cd) (ws2 : List Bs), MI ⟨fb, kb, jb, nb, pb, pb⟩ G cs2 ws2 (w11.setCell ⟨pb, 0, none⟩ (.slice (some ⟨g1, 0, none⟩) (cs.length + 1) cp1)) ∧ Fr nothing w (w11.setCell ⟨pb, 0, none⟩ (.slice (some ⟨g1, 0, none⟩) (cs.length + 1) cp1)) ∧ rb0 < (w11.setCell ⟨pb, 0, none⟩ (.slice (some ⟨g1, 0, none⟩) (cs.length + 1) cp1)).heap.size ∧ (∀ j, (w11.setCell ⟨pb, 0, none⟩ (.slice (some ⟨g1, 0, none⟩) (cs.length + 1) cp1)).cell? ⟨rb0, j, none⟩ = (#[Value.slice none 0 0, .slice none 0 0])[j]?) ∧ (∀ j, (w11.setCell ⟨pb, 0, none⟩ (.slice (some ⟨g1, 0, none⟩) (cs.length + 1) cp1)).frozen? ⟨rb0, j, none⟩ = false) ∧ progK l = makeK G (l.drop (k + 1)) ⟨cs2, ws2⟩ ∧ cs2.length = k + 1 ∧ ws2.length + fnsN (l.drop (k + 1)) ≤ 50000 := by
              have hnum := HNUM.out
              have hF810 : Fr nothing w8 ((w8.alloc (.cells #[.int .i64 (f.p.length : Nat), .int .i64 ((fnS G f ws).v : Nat), .slice sl.a sl.n sl.c] 40)).alloc (.cells #[.int .i64 (f.p.length : Nat), .int .i64 ((fnS G f ws).v : Nat), .slice sl.a sl.n sl.c] 40)) := ((Fr.refl _ _).alloc _).alloc _
              have hown := (HO8.out.alloc (.cells #[.int .i64 (f.p.length : Nat), .int .i64 ((fnS G f ws).v : Nat), .slice sl.a sl.n sl.c] 40)).alloc (.cells #[.int .i64 (f.p.length : Nat), .int .i64 ((fnS G f ws).v : Nat), .slice sl.a sl.n sl.c] 40)
              have hr11 := HR11.out
              have hg11 := HG11.out
              have hat11 := HAT11.out
              generalize (w8.alloc (.cells #[.int .i64 (f.p.length : Nat), .int .i64 ((fnS G f ws).v : Nat), .slice sl.a sl.n sl.c] 40)).alloc (.cells #[.int .i64 (f.p.length : Nat), .int .i64 ((fnS G f ws).v : Nat), .slice sl.a sl.n sl.c] 40) = w10 at *
              have hMI10 := HMI8.out.new hF810
              have hF11 : Fr (fun k => (Value.slice ca cs.length cc).ownBlock = some k) w10 w11 := (Fr.refl _ w10).grown hg11 (fun k hk => .inl hk)
              obtain ⟨hM2, hF2⟩ := hMI10.push (sc := ⟨ca, cs.length, cc⟩) ((hF810.cell (p := ⟨pb, 0, none⟩) zpl id).trans q1) hown (r := ⟨(f.p.length : Nat), ((fnS G f ws).v : Nat), sl⟩) (x := ⟨f.p.length, (fnS G f ws).v, fnI G f ws⟩) (g := g1) (cap := cp1) hr11 hF11 (hat11.imp id (fun e => by omega)) (fun sw2 h2 => ⟨rfl, rfl, HSL8.out.fr hF810 (fun _ _ => id), fun b hb => by
                obtain ⟨c1, c2, c3, c4, c5, c6⟩ := HBK8.out sw2 ((hF810.cell (p := ⟨pb, 1, none⟩) zpl id).symm.trans h2) b hb
                rw [HSC8.out] at c5
                exact ⟨Nat.lt_of_lt_of_le c1 hF810.size, c2, c3, c4, c5, c6⟩⟩)
              have nsc : ∀ k, k ≤ w.heap.size → ¬ ((Value.slice ca cs.length cc).ownBlock = some k ∨ k = pb) := by
                rintro k hk (e | e)
                · have := (hown.lt k e).1; omega
                · omega
              have hrl8 := Nat.lt_of_lt_of_le rl7 HF8.out.size
              have hrl10 := Nat.lt_of_lt_of_le hrl8 hF810.size
              refine ⟨cs ++ [⟨f.p.length, (fnS G f ws).v, fnI G f ws⟩], (fnS G f ws).ws, hM2, ((HF07.out.then HF8.out (fun k hk e => HLOW.out k hk e)).trans hF810).then hF2 (fun k hk e => nsc k (by omega) e), Nat.lt_of_lt_of_le hrl10 hF2.size, fun j => ?_, fun j => ?_, HEND.out, by rw [List.length_append, HCL.out]; rfl, by omega⟩
              · exact (hF2.cell (p := ⟨rb0, j, none⟩) hrl10 (nsc rb0 (by omega))).trans ((hF810.cell (p := ⟨rb0, j, none⟩) hrl8 id).trans ((HF8.out.cell (p := ⟨rb0, j, none⟩) rl7 nrb).trans (rc7 j)))
              · exact (hF2.frozen (p := ⟨rb0, j, none⟩) hrl10 (nsc rb0 (by omega))).trans ((hF810.frozen (p := ⟨rb0, j, none⟩) hrl8 id).trans ((HF8.out.frozen (p := ⟨rb0, j, none⟩) rl7 nrb).trans (rz7 j)))
            have HDONE := hide hDONE
            clear hDONE
            go_roundw
            case rel => exact ⟨k + 1, by omega, by go_num, HDONE.out⟩
            case measure => simp [intOf]; omega
        · have hke : k = l.length := by omega
          obtain ⟨cs, ws, hMI, hFk, hrl, hrc, hrz, hEq, hcl, hNk⟩ := hR.out
          rw [hke, List.drop_length, makeK] at hEq
          obtain ⟨sc, sw, rsc, r1, r2, r3, r4, r5, r6, r7⟩ := hMI.rows
          simp only at r1 r3
          have z0 := hrc 0
          have z1 := hrc 1
          have zf0 := hrz 0
          have zf1 := hrz 1
          have zpl := hMI.pl
          have HMI := hide hMI
          have HFk := hide hFk
          have HEND := hide hEq
          simp only at zpl
          clear hR hMI hFk hrc hrz hEq hcl hNk r2 r4 r5 r6 r7 hke
          go_wp2_with fail
          obtain ⟨w9, hw9, g0, g1, hF9⟩ := set2 (.slice sc.a sc.n sc.c) (.slice sw.a sw.n sw.c) z0 z1
          rw [← hw9]
          clear hw9
          have hnum := HNUM.out
          have hpg : PgOk w9 sc sw ⟨cs, ws⟩ := HMI.out.done hF9 (fun k e => by simp only; omega) r1 r3
          exact bodyPost_ret (v := .tuple #[.agg #[.slice sc.a sc.n sc.c, .slice sw.a sw.n sw.c], .int .i64 0]) (by simp [results, Tryd.results13, go_sem, g0, g1]) rfl ⟨sc, sw, by rw [HEND.out], HFk.out.then hF9 (fun k hk e => by omega), by rw [HEND.out]; exact hpg⟩
end Go.Proofs.YtkmdamljhagogaaDoor
end
section
/- The document's own answer: how many values lie there at most. -/
set_option maxHeartbeats 0
set_option maxRecDepth 100000
namespace Go.Proofs.YtkmdamljhagogaaDoor
open Go Go.RowKit
def dpF (n i : Nat) (l : List Ex) : Nat := max n (dpsK i l)
theorem dpF_nil (n i : Nat) : dpF n i [] = n := by unfold dpF; rw [dpsK]; omega
theorem dpF_cons (n i : Nat) (x : Ex) (l : List Ex) : dpF n i (x :: l) = dpF (max n (i + deepK x)) (i + 1) l := by unfold dpF; rw [dpsK]; omega
mutual
theorem deepK_le : ∀ (x : Ex), deepK x ≤ exN x
  | .mk _ _ _ a => by rw [deepK, exN]; have := dpsK_le a 0; omega
theorem dpsK_le : ∀ (l : List Ex) (i : Nat), dpsK i l ≤ i + exsN l
  | [], i => by rw [dpsK]; omega
  | x :: l, i => by
    have h1 := deepK_le x
    have h2 := dpsK_le l (i + 1)
    have h3 := exN_pos x
    rw [dpsK, exsN]
    omega
end
abbrev lo (w : World) : Nat → Prop := fun k => k < w.heap.size
theorem lo_fr {w w' : World} {r : RawE} {x : Ex} (h : ExOk w (lo w) r x) (hf : Fr nothing w w') : ExOk w' (lo w') r x := ex_stays _ _ nothing _ _ _ _ h hf (fun _ _ => id) (fun _ hk => Nat.lt_of_lt_of_le hk hf.size)
def DEx (x : Ex) : Prop := ∀ (r : RawE) (w : World), ExOk w (lo w) r x → exN x ≤ 100000 → Calls Tryd.prog 48 #[ev r] w fun e w' => e = .returned (.int .i64 (deepK x : Nat)) ∧ Fr nothing w w'
theorem deep_step (k n : Int) (t : Bs) (a : List Ex) (ih : ∀ x ∈ a, DEx x) : DEx (.mk k n t a) := by
  intro r w hX hN
  obtain ⟨rk, rn, rt, ⟨la, ln, lc⟩⟩ := r
  cases hX with
  | mk _ _ _ _ rs _ hS hP hl hE =>
  obtain ⟨hln, hlm⟩ := sl_len hS
  simp only at hln
  rw [hl] at hln
  subst hln
  rw [exN] at hN
  have hll : a.length ≤ 9223372036854775807 := by omega
  have hFA : Fr nothing w (w.alloc (eo ⟨k, n, t, ⟨la, a.length, lc⟩⟩)) := (Fr.refl _ _).alloc _
  have HS := hide hS
  have HE := hide (show Each (ExOk w (lo w)) rs a from ⟨hl, hE⟩)
  have HFA := hide hFA
  have HEQ : Hid (deepK (.mk k n t a) = dpF 1 0 a) := by show deepK _ = _; rw [deepK]; rfl
  clear hS hP hE hFA hl
  go_enter Tryd.func48, Tryd.ntmps48
  go_wp2
  generalize w.alloc (eo ⟨k, n, t, ⟨la, a.length, lc⟩⟩) = w2 at *
  go_loopw [9, 3, 4, 5] (fun i v _ _ wr => ∃ (j m : Nat), j ≤ a.length ∧ i = .int .i64 j ∧ v = .int .i64 m ∧ m ≤ 200000 ∧ Hid (Fr nothing w wr ∧ dpF 1 0 a = dpF m j (a.drop j))) (fun i _ _ _ _ => a.length - (intOf i).toNat)
  case atStart => exact ⟨0, 1, Nat.zero_le _, rfl, rfl, by omega, HFA.out, rfl⟩
  case round =>
    obtain ⟨j, m, hj, rfl, rfl, hm, hR⟩ := hrel
    by_cases hjl : j < a.length
    · have hx : a[j]? = some a[j] := List.getElem?_eq_getElem hjl
      have hr : rs[j]? = some (rs[j]'(by rw [HE.out.1]; omega)) := List.getElem?_eq_getElem _
      have hxm : a[j] ∈ a := List.getElem_mem hjl
      have hdr : a.drop j = a[j] :: a.drop (j + 1) := List.drop_eq_getElem_cons hjl
      generalize rs[j]'(by rw [HE.out.1]; omega) = r at hr
      generalize a[j] = x at hx hxm hdr
      have hok := HE.out.2 j r x hr hx
      obtain ⟨g, o, hg, -, dg, p0, p1, p2, p3⟩ := sl_elem4 (s := ⟨la, a.length, lc⟩) HS.out hr
      simp only at hg
      subst hg
      obtain ⟨hF, hEq⟩ := hR.out
      rw [← hF.cell (p := ⟨g, _, none⟩) dg id] at p0 p1 p2 p3
      have eg : g < wr.heap.size := Nat.lt_of_lt_of_le dg hF.size
      rw [hdr, dpF_cons] at hEq
      have hFB : Fr nothing wr (wr.alloc (eo r)) := (Fr.refl _ _).alloc _
      have hxn := exN_mem hxm
      have hdx := deepK_le x
      have hjn : j ≤ 100000 := by
        have := exsN_drop_le (l := a) (j := a.length) (Nat.le_refl _)
        omega
      have HIH := hide (ih x hxm r (wr.alloc (eo r)) (lo_fr (lo_fr hok hF) hFB) (by omega))
      have HF := hide (hF.trans hFB)
      have HEQ2 := hide hEq
      have hj0 : (0 : Int) ≤ (j : Nat) := by omega
      clear hR hF hEq hFB hok hr hx
      obtain ⟨rk', rn', rt', rs4⟩ := r
      simp only at p0 p1 p2 p3
      go_wp2_with (go_at_call 48; refine HIH.out.mono ?_; rintro e w3 ⟨rfl, hf⟩; have HF3 := hide (HF.out.trans hf); clear hf)
      go_roundw
      case rel => exact ⟨j + 1, max m (j + deepK x), by omega, by go_num, by congr 1; omega, by omega, HF3.out, HEQ2.out⟩
      case measure => simp [intOf]; omega
    · have hje : j = a.length := by omega
      obtain ⟨hF, hEq⟩ := hR.out
      rw [hje, List.drop_length, dpF_nil] at hEq
      have HF := hide hF
      have HE2 := hide (HEQ.out.trans hEq)
      clear hR hF hEq hje
      go_wp2
      go_ret
      rw [HE2.out]
      exact ⟨rfl, HF.out⟩
theorem rdeep_any : ∀ (x : Ex), DEx x
  | .mk k n t a => deep_step k n t a (fun x _ => rdeep_any x)
def hgF (n : Nat) (l : List St) : Nat := max n (highsK l)
theorem hgF_nil (n : Nat) : hgF n [] = n := by unfold hgF; rw [highsK]; omega
theorem hgF_cons (n : Nat) (k : Int) (t : Bs) (a : List Ex) (x y : List St) (l : List St) : hgF n (.mk k t a x y :: l) = hgF (max (max (dpF n 0 a) (highsK x)) (highsK y)) l := by unfold hgF dpF; rw [highsK, highK]; omega
mutual
theorem highK_le : ∀ (s : St), highK s ≤ stN s
  | .mk _ _ a x y => by rw [highK, stN]; have := dpsK_le a 0; have := highsK_le x; have := highsK_le y; omega
theorem highsK_le : ∀ (l : List St), highsK l ≤ stsN l
  | [] => by rw [highsK]; omega
  | s :: l => by rw [highsK, stsN]; have := highK_le s; have := highsK_le l; omega
end
theorem los_fr {w w' : World} {r : RawS} {x : St} (h : StOk w (lo w) r x) (hf : Fr nothing w w') : StOk w' (lo w') r x := st_stays _ _ nothing _ _ _ _ h hf (fun _ _ => id) (fun _ hk => Nat.lt_of_lt_of_le hk hf.size)
def DSt (l : List St) : Prop := ∀ (sl : Slc) (rs : List RawS) (w : World), Sl encS 5 w sl.v rs → Each (StOk w (lo w)) rs l → stsN l ≤ 100000 → Calls Tryd.prog 32 #[.slice sl.a sl.n sl.c] w fun e w' => e = .returned (.int .i64 (highsK l : Nat)) ∧ Fr nothing w w'
theorem high_step (l : List St) (ih : ∀ k t a x y, St.mk k t a x y ∈ l → DSt x ∧ DSt y) : DSt l := by
  intro sl rs w hS hE hN
  obtain ⟨hln, hlm⟩ := sl_len hS
  obtain ⟨la, ln, lc⟩ := sl
  simp only at hln
  rw [hE.1] at hln
  subst hln
  have hll : l.length ≤ 9223372036854775807 := by have := hE.1; omega
  have HS := hide hS
  have HE := hide hE
  have HEQ : Hid (highsK l = hgF 0 l) := by show highsK _ = _; unfold hgF; omega
  clear hS hE
  go_enter Tryd.func32, Tryd.ntmps32
  go_wp2
  go_loopw [10, 3, 5, 6, 7] (fun i v _ _ _ wr => ∃ (j m : Nat), j ≤ l.length ∧ i = .int .i64 j ∧ v = .int .i64 m ∧ m ≤ 100000 ∧ Hid (Fr nothing w wr ∧ hgF 0 l = hgF m (l.drop j))) (fun i _ _ _ _ _ => l.length - (intOf i).toNat)
  case atStart => exact ⟨0, 0, Nat.zero_le _, rfl, rfl, by omega, Fr.refl _ _, rfl⟩
  case round =>
    obtain ⟨j, m, hj, rfl, rfl, hm, hR⟩ := hrel
    by_cases hjl : j < l.length
    · have hx : l[j]? = some l[j] := List.getElem?_eq_getElem hjl
      have hr : rs[j]? = some (rs[j]'(by rw [HE.out.1]; omega)) := List.getElem?_eq_getElem _
      have hxm : l[j] ∈ l := List.getElem_mem hjl
      have hdr : l.drop j = l[j] :: l.drop (j + 1) := List.drop_eq_getElem_cons hjl
      generalize rs[j]'(by rw [HE.out.1]; omega) = r at hr
      generalize l[j] = st at hx hxm hdr
      have hok := HE.out.2 j r st hr hx
      obtain ⟨g, o, hg, dg, p0, p1, p2, p3, p4⟩ := sl_elem5 (s := ⟨la, l.length, lc⟩) HS.out hr
      simp only at hg
      subst hg
      obtain ⟨hF, hEq⟩ := hR.out
      rw [← hF.cell (p := ⟨g, _, none⟩) dg id] at p0 p1 p2 p3 p4
      have eg : g < wr.heap.size := Nat.lt_of_lt_of_le dg hF.size
      obtain ⟨k, t, ⟨aa, an, ac⟩, sx, sy⟩ := r
      cases hok with
      | mk _ _ _ _ _ ra rx ry a x y ha hPa ha2 hsx hPx hx1 hx2 hsy hPy hy1 hy2 =>
      rw [hdr, hgF_cons] at hEq
      obtain ⟨han, ham⟩ := sl_len ha
      simp only at han
      rw [ha2.1] at han
      subst han
      have hal : a.length ≤ 9223372036854775807 := by have := ha2.1; omega
      have hsn := stN_mem hxm
      rw [stN] at hsn
      have hFB : Fr nothing wr (wr.alloc (so ⟨k, t, ⟨aa, a.length, ac⟩, sx, sy⟩)) := (Fr.refl _ _).alloc _
      obtain ⟨m0, m1, m2, m3, m4, mf, ml⟩ := so_cells (Fr.refl nothing (wr.alloc (so ⟨k, t, ⟨aa, a.length, ac⟩, sx, sy⟩))) id
      have HA := hide ha
      have HA2 := hide ha2
      have HF1 := hide (hF.trans hFB)
      have HFB := hide hFB
      have HEQ2 := hide hEq
      have HIX := hide (fun w' (hf : Fr nothing w w') => (ih k t a x y hxm).1 sx rx w' (hsx.fr hf (fun _ _ => id)) ⟨hx1, fun i r z q1 q2 => los_fr (hx2 i r z q1 q2) hf⟩ (by omega))
      have HIY := hide (fun w' (hf : Fr nothing w w') => (ih k t a x y hxm).2 sy ry w' (hsy.fr hf (fun _ _ => id)) ⟨hy1, fun i r z q1 q2 => los_fr (hy2 i r z q1 q2) hf⟩ (by omega))
      have hbx := highsK_le x
      have hby := highsK_le y
      have hba := dpsK_le a 0
      simp only at p0 p1 p2 p3 p4 m0 m1 m2 m3 m4
      clear hR hF hEq hFB hr hx ha ha2 hPa hsx hPx hx1 hx2 hsy hPy hy1 hy2 mf
      generalize hwb : wr.alloc (so ⟨k, t, ⟨aa, a.length, ac⟩, sx, sy⟩) = wb at *
      go_wp2_with fail
      clear hwb eg
      generalize wr.heap.size = bx at *
      go_loopw [17, 3, 6, 7] (fun i v _ _ wv => ∃ (j2 m2 : Nat), j2 ≤ a.length ∧ i = .int .i64 j2 ∧ v = .int .i64 m2 ∧ m2 ≤ 200000 ∧ Hid (Fr nothing wb wv ∧ dpF m 0 a = dpF m2 j2 (a.drop j2))) (fun i _ _ _ _ => a.length - (intOf i).toNat)
      case atStart => exact ⟨0, m, Nat.zero_le _, rfl, rfl, by omega, Fr.refl _ _, rfl⟩
      case round =>
        obtain ⟨j2, m2', hj2, rfl, rfl, hm2, hR⟩ := hrel
        by_cases hjl2 : j2 < a.length
        · have hx : a[j2]? = some a[j2] := List.getElem?_eq_getElem hjl2
          have hr : ra[j2]? = some (ra[j2]'(by rw [HA2.out.1]; omega)) := List.getElem?_eq_getElem _
          have hxm2 : a[j2] ∈ a := List.getElem_mem hjl2
          have hdr2 : a.drop j2 = a[j2] :: a.drop (j2 + 1) := List.drop_eq_getElem_cons hjl2
          generalize ra[j2]'(by rw [HA2.out.1]; omega) = r at hr
          generalize a[j2] = ex at hx hxm2 hdr2
          have hok := HA2.out.2 j2 r ex hr hx
          obtain ⟨g2, o2, hg2, -, dg2, u0, u1, u2, u3⟩ := sl_elem4 (s := ⟨aa, a.length, ac⟩) HA.out hr
          simp only at hg2
          subst hg2
          obtain ⟨hF, hEq⟩ := hR.out
          have hFw := HF1.out.trans hF
          rw [← hFw.cell (p := ⟨g2, _, none⟩) dg2 id] at u0 u1 u2 u3
          have eg2 : g2 < wr.heap.size := Nat.lt_of_lt_of_le dg2 hFw.size
          rw [hdr2, dpF_cons] at hEq
          have hFC : Fr nothing wr (wr.alloc (eo r)) := (Fr.refl _ _).alloc _
          have hxn := exN_mem hxm2
          have hdx := deepK_le ex
          have hjn : j2 ≤ 100000 := by
            have := exsN_drop_le (l := a) (j := a.length) (Nat.le_refl _)
            omega
          have HIH := hide (rdeep_any ex r (wr.alloc (eo r)) (lo_fr (lo_fr hok hFw) hFC) (by omega))
          have HF := hide (hF.trans hFC)
          have HEQ3 := hide hEq
          clear hR hF hEq hFC hok hr hx hFw
          obtain ⟨rk', rn', rt', rs4⟩ := r
          simp only at u0 u1 u2 u3
          go_wp2_with (go_at_call 48; refine HIH.out.mono ?_; rintro e w3 ⟨rfl, hf⟩; have HF3 := hide (HF.out.trans hf); clear hf)
          go_roundw
          case rel => exact ⟨j2 + 1, max m2' (j2 + deepK ex), by omega, by go_num, by congr 1; omega, by omega, HF3.out, HEQ3.out⟩
          case measure => simp [intOf]; omega
        · have hje2 : j2 = a.length := by omega
          obtain ⟨hF, hEq⟩ := hR.out
          rw [hje2, List.drop_length, dpF_nil] at hEq
          rw [hEq] at HEQ2
          have y3 := (hF.cell (p := ⟨bx, 3, none⟩) ml id).trans m3
          have y4 := (hF.cell (p := ⟨bx, 4, none⟩) ml id).trans m4
          have yl := Nat.lt_of_lt_of_le ml hF.size
          have HFv := hide (HF1.out.trans hF)
          have hb4 : m2' ≤ 100000 := by
            have : dpF m 0 a = max m (dpsK 0 a) := rfl
            omega
          clear hR hF hEq hje2
          go_wp2_with fail
          refine wp_region_held_drew (S := fun w' => w'.cell? ⟨bx, 3, none⟩ = some (.slice sx.a sx.n sx.c) ∧ w'.cell? ⟨bx, 4, none⟩ = some (.slice sy.a sy.n sy.c)) (by kernel_rfl) ?_ (fun hHeld => ?_)
          · exact ⟨y3, y4⟩
          refine wpAnyH_take (i := 0) (oi := { dst := some 29, op := Op.move (Operand.tmp 3), type := 3, pos := "ref.go:739", after := #[], guard := none }) (v := ?v1) rfl (by kernel_rfl) (by kernel_rfl) (by kernel_rfl) (fun _ _ _ h => h) (Or.inl ⟨by rfl, ?hy1⟩) (by assumption) ?rest1
          case hy1 => (intro w hSw; (try dsimp only at hSw); obtain ⟨hS1, hS2⟩ := hSw; go_simp; try with_reducible rfl)
          try simp only [Act.put, List.setIfInBounds_toArray, List.set_cons_zero, List.set_cons_succ]
          refine wpAnyH_take (i := 1) (oi := { dst := some 30, op := Op.fieldAddr 88 (Operand.tmp 5) 3, type := 0, pos := "ref.go:739", after := #[], guard := none }) (v := ?v2) rfl (by kernel_rfl) (by kernel_rfl) (by kernel_rfl) (fun _ _ _ h => h) (Or.inl ⟨by rfl, ?hy2⟩) (by assumption) ?rest2
          case hy2 => (intro w hSw; (try dsimp only at hSw); obtain ⟨hS1, hS2⟩ := hSw; go_simp; try with_reducible rfl)
          try simp only [Act.put, List.setIfInBounds_toArray, List.set_cons_zero, List.set_cons_succ]
          refine wpAnyH_take (i := 2) (oi := { dst := some 31, op := Op.load 41 (Operand.tmp 30), type := 41, pos := "ref.go:739", after := #[{ on := 1, ground := Ground.data }], guard := none }) (v := ?v3) rfl (by kernel_rfl) (by kernel_rfl) (by kernel_rfl) (fun _ _ _ h => h) (Or.inl ⟨by rfl, ?hy3⟩) (by assumption) ?rest3
          case hy3 => (intro w hSw; (try dsimp only at hSw); obtain ⟨hS1, hS2⟩ := hSw; go_simp; try with_reducible rfl)
          try simp only [Act.put, List.setIfInBounds_toArray, List.set_cons_zero, List.set_cons_succ]
          refine wpAnyH_take (i := 4) (oi := { dst := some 33, op := Op.fieldAddr 88 (Operand.tmp 5) 4, type := 0, pos := "ref.go:739", after := #[], guard := none }) (v := ?v4) rfl (by kernel_rfl) (by kernel_rfl) (by kernel_rfl) (fun _ _ _ h => h) (Or.inl ⟨by rfl, ?hy4⟩) (by assumption) ?rest4
          case hy4 => (intro w hSw; (try dsimp only at hSw); obtain ⟨hS1, hS2⟩ := hSw; go_simp; try with_reducible rfl)
          try simp only [Act.put, List.setIfInBounds_toArray, List.set_cons_zero, List.set_cons_succ]
          refine wpAnyH_take (i := 5) (oi := { dst := some 34, op := Op.load 41 (Operand.tmp 33), type := 41, pos := "ref.go:739", after := #[{ on := 4, ground := Ground.data }], guard := none }) (v := ?v5) rfl (by kernel_rfl) (by kernel_rfl) (by kernel_rfl) (fun _ _ _ h => h) (Or.inl ⟨by rfl, ?hy5⟩) (by assumption) ?rest5
          case hy5 => (intro w hSw; (try dsimp only at hSw); obtain ⟨hS1, hS2⟩ := hSw; go_simp; try with_reducible rfl)
          try simp only [Act.put, List.setIfInBounds_toArray, List.set_cons_zero, List.set_cons_succ]
          refine wpAnyH_ready (rs := [3]) (by kernel_rfl) (by simp) ?_
          refine AllReadyH.cons (o := { dst := some 32, op := Op.call { callee := Callee.value (Operand.func 32), args := #[Operand.tmp 31], argTypes := #[41] }, type := 3, pos := "ref.go:739", after := #[{ on := 2, ground := Ground.data }], guard := none }) rfl (fun K hK => ?_) AllReadyH.nil
          refine step_call (by rfl) 32 Tryd.f32 #[.tmp 31] #[41] rfl Tryd.func32 (by kernel_rfl) (by kernel_rfl) #[.slice sx.a sx.n sx.c] (by simp [Act.eval]) _ (HIX.out _ HFv.out.drew) ?_
          rintro e w5 ⟨rfl, hf5⟩
          have F5 : Fr nothing wr w5 := (Fr.refl nothing wr).drew.trans hf5
          refine ⟨_, rfl, hK _ _ ⟨(F5.cell (p := ⟨bx, 3, none⟩) yl id).trans y3, (F5.cell (p := ⟨bx, 4, none⟩) yl id).trans y4⟩ (fun _ => ?_)⟩
          clear hK K hHeld
          try simp only [Act.put, List.setIfInBounds_toArray, List.set_cons_zero, List.set_cons_succ]
          refine wpAnyH_ready (rs := [6]) (by kernel_rfl) (by simp) ?_
          refine AllReadyH.cons (o := { dst := some 35, op := Op.call { callee := Callee.value (Operand.func 32), args := #[Operand.tmp 34], argTypes := #[41] }, type := 3, pos := "ref.go:739", after := #[{ on := 5, ground := Ground.data }, { on := 3, ground := Ground.chain }], guard := none }) rfl (fun K hK => ?_) AllReadyH.nil
          refine step_call (by rfl) 32 Tryd.f32 #[.tmp 34] #[41] rfl Tryd.func32 (by kernel_rfl) (by kernel_rfl) #[.slice sy.a sy.n sy.c] (by simp [Act.eval]) _ (HIY.out _ (HFv.out.trans F5)) ?_
          rintro e w6 ⟨rfl, hf6⟩
          have F6 : Fr nothing wr w6 := F5.trans hf6
          have hHeld6 := And.intro ((F6.cell (p := ⟨bx, 3, none⟩) yl id).trans y3) ((F6.cell (p := ⟨bx, 4, none⟩) yl id).trans y4)
          refine ⟨_, rfl, hK _ _ hHeld6 (fun _ => ?_)⟩
          clear hK K
          try simp only [Act.put, List.setIfInBounds_toArray, List.set_cons_zero, List.set_cons_succ]
          refine wpAnyH_ready (rs := [7]) (by kernel_rfl) (by simp) ?_
          refine AllReadyH.cons (o := { dst := some 36, op := Op.call { callee := Callee.builtin Builtin.max, args := #[Operand.tmp 29, Operand.tmp 32, Operand.tmp 35], argTypes := #[3, 3, 3] }, type := 3, pos := "ref.go:739", after := #[{ on := 0, ground := Ground.data }, { on := 3, ground := Ground.data }, { on := 6, ground := Ground.data }], guard := none }) rfl (fun K hK => ?_) AllReadyH.nil
          go_simp
          refine hK _ _ hHeld6 (fun _ => ?_)
          clear hK K
          try simp only [Act.put, List.setIfInBounds_toArray, List.set_cons_zero, List.set_cons_succ]
          refine wpAnyH_ready (rs := [8]) (by kernel_rfl) (by simp) ?_
          refine AllReadyH.cons (o := { dst := some 3, op := Op.assign (Operand.tmp 36), type := 3, pos := "ref.go:739", after := #[{ on := 7, ground := Ground.data }, { on := 6, ground := Ground.chain }, { on := 0, ground := Ground.phase }, { on := 1, ground := Ground.phase }, { on := 2, ground := Ground.phase }, { on := 3, ground := Ground.phase }, { on := 4, ground := Ground.phase }, { on := 5, ground := Ground.phase }, { on := 6, ground := Ground.phase }, { on := 7, ground := Ground.phase }], guard := none }) rfl (fun K hK => ?_) AllReadyH.nil
          go_simp
          refine hK _ _ hHeld6 (fun _ => ?_)
          clear hK K
          try simp only [Act.put, List.setIfInBounds_toArray, List.set_cons_zero, List.set_cons_succ]
          refine wpAnyH_done (by kernel_rfl) ?_ _
          have HF6 := hide (HFv.out.trans F6)
          clear hf5 hf6 F5 F6 hHeld6
          go_wp2_with fail
          go_roundw
          case rel => exact ⟨j + 1, max (max m2' (highsK x)) (highsK y), by omega, by go_num, by congr 1; omega, by omega, HF6.out, HEQ2.out⟩
          case measure => simp [intOf]; omega
    · have hje : j = l.length := by omega
      obtain ⟨hF, hEq⟩ := hR.out
      rw [hje, List.drop_length, hgF_nil] at hEq
      have HF := hide hF
      have HE2 := hide (HEQ.out.trans hEq)
      clear hR hF hEq hje
      go_wp2
      go_ret
      rw [HE2.out]
      exact ⟨rfl, HF.out⟩
theorem high_any' : ∀ (n : Nat) (l : List St), stsN l ≤ n → DSt l
  | 0, l, hn => high_step l fun k t a x y h => by have := stN_mem h; have := stN_pos (St.mk k t a x y); omega
  | n + 1, l, hn => high_step l fun k t a x y h => by
    have h1 := stN_mem h
    rw [stN] at h1
    exact ⟨high_any' n x (by omega), high_any' n y (by omega)⟩
theorem high_any (l : List St) : DSt l := high_any' _ l (Nat.le_refl _)
end Go.Proofs.YtkmdamljhagogaaDoor
end
section
/- The document's own answer: Make: what lies there between two functions. -/
set_option maxHeartbeats 0
set_option maxRecDepth 100000
namespace Go.Proofs.YtkmdamljhagogaaDoor
open Go Go.RowKit
/-- One row behind a list of codes. -/
theorem code_app {base : Nat} {sc x : Slc} {n : Nat} {rs : List RawC} {r : RawC} {w : World} (h : w.ownsRow base 40 3 sc.v n (rs.flatMap encC)) (hs : Sl encC 3 w x.v [r]) (hb : base ≤ w.heap.size) (hl : n ≤ 1000000) :
    ∃ (g cap : Nat) (w' : World), (Builtin.append_ #[31, 31] 31 #[.slice sc.a sc.n sc.c, .slice x.a x.n x.c]).run Tryd.prog w = .ok (.slice (some ⟨g, 0, none⟩) (n + 1) cap) w' ∧ w'.ownsRow base 40 3 (.slice (some ⟨g, 0, none⟩) (n + 1) cap) (n + 1) (rs.flatMap encC ++ encC r) ∧ Fr (fun k => sc.v.ownBlock = some k) w w' ∧ (sc.v.ownBlock = some g ∨ w.heap.size ≤ g) := by
  obtain ⟨j0, hj0, hy0, hy1, hy2⟩ := info_parts sizeCd
  obtain ⟨hn, hm⟩ := sl_len hs
  obtain ⟨xa, xn, xc⟩ := x
  simp only [List.length_singleton] at hn
  subst hn
  obtain ⟨ao, cap0, he, _, hc⟩ := hs
  simp only [Value.slice.injEq] at he
  obtain ⟨rfl, _, _⟩ := he
  obtain ⟨b, off, rfl, _, hcell⟩ := hc 0 r rfl
  obtain ⟨g, cap, w', hr, h2, h3, h4, h5⟩ := run_append_lies (P := Tryd.prog) w 31 31 base 40 j0 _ 3 40 Tryd.underlying31 hj0 hy0 hy1 hy2 rfl (by decide) sc.v n _ h ⟨b, off, none⟩ 1 xc (encC r) (by rw [encC_len]) (fun j u hj => by
      have := hcell j u hj
      rw [add_eq]
      rw [← this]
      congr 2) (fun u hu => by
      simp only [encC, List.mem_cons, List.not_mem_nil, or_false] at hu
      rcases hu with rfl | rfl | rfl <;> rfl) (by decide) (by unfold maxLen; omega) (by omega) hb _ rfl
  exact ⟨g, cap, w', hr, h2, (Fr.refl _ w).grown h3 (fun k hk => .inl hk), h4.imp id (fun e => by omega)⟩
theorem sl_litC (w : World) (x : RawC) : Sl encC 3 (w.alloc (.cells #[.int .i64 x.np, .int .i64 x.nv, .slice x.s.a x.s.n x.s.c] 40)) (Slc.v ⟨some ⟨w.heap.size, 0, none⟩, 1, 1⟩) [x] := by
  refine ⟨some ⟨w.heap.size, 0, none⟩, 1, rfl, by unfold maxLen; simp, fun i y hi => ?_⟩
  cases i with
  | zero =>
    simp at hi
    subst hi
    refine ⟨_, _, rfl, by simp, fun j u hu => ?_⟩
    have := World.news_of_block (cs := #[.int .i64 x.np, .int .i64 x.nv, .slice x.s.a x.s.n x.s.c]) (t := 40) (fr := (0, 0)) (heap_new w _) j u hu
    rw [add_eq] at this
    simpa using this
  | succ i => simp at hi
/-- What Make has gathered. -/
structure NI (c : Rk) (rb pb : Nat) (T : Nat → Prop) (v : Nat) (cs : List Cd) (ws : List Bs) (w0 w : World) : Prop where
  ri : RI c T v ws w
  f : Fr nothing w0 w
  t0 : ∀ k, T k → w0.heap.size ≤ k
  p1 : w.cell? ⟨pb, 1, none⟩ = some (.slice none 0 0)
  pz : ∀ j, w.frozen? ⟨pb, j, none⟩ = false
  r : ∀ j, w.cell? ⟨rb, j, none⟩ = (#[Value.slice none 0 0, .slice none 0 0])[j]?
  rz : ∀ j, w.frozen? ⟨rb, j, none⟩ = false
  rl : rb < w.heap.size
  tp : ¬ T pb
  tr : ¬ T rb
  n : w0.heap.size ≤ rb ∧ w0.heap.size ≤ pb ∧ rb ≠ pb
  fo : ∀ b, c.fs.v.ownBlock = some b → b < w0.heap.size
  rows : ∃ (sc : Slc) (rs : List RawC), w.cell? ⟨pb, 0, none⟩ = some sc.v ∧ w.ownsRow w0.heap.size 40 3 sc.v cs.length (rs.flatMap encC) ∧ Each (CdOk w (fun k => k < w.heap.size ∧ ¬ T k ∧ k ≠ pb ∧ k ≠ rb ∧ sc.v.ownBlock ≠ some k)) rs cs ∧ ∀ b, sc.v.ownBlock = some b → ¬ T b ∧ b ≠ pb ∧ b ≠ rb
section
variable {c : Rk} {rb pb : Nat} {T T2 : Nat → Prop} {v v2 : Nat} {cs : List Cd} {ws ws2 : List Bs} {w0 w w2 : World}
theorem NI.pl (h : NI c rb pb T v cs ws w0 w) : pb < w.heap.size := lt_of_cell h.p1
theorem NI.call (h : NI c rb pb T v cs ws w0 w) (hR : RP c T w v2 ws2 T2 w2) : NI c rb pb T2 v2 cs ws2 w0 w2 := by
  obtain ⟨h1, h2, h3⟩ := hR
  have nT : ∀ b, ¬ T b → b < w.heap.size → ¬ T2 b := fun b hb hl e => (h3 b e).elim hb (fun h => by omega)
  obtain ⟨sc, rs, r1, r2, r3, r4⟩ := h.rows
  have hsz := h2.size
  refine ⟨h1, h.f.then h2 (fun k hk e => by have := h.t0 k e; omega), fun k hk => ?_, (h2.cell (p := ⟨pb, 1, none⟩) h.pl h.tp).trans h.p1, fun j => (h2.frozen (p := ⟨pb, j, none⟩) h.pl h.tp).trans (h.pz j), fun j => (h2.cell (p := ⟨rb, j, none⟩) h.rl h.tr).trans (h.r j), fun j => (h2.frozen (p := ⟨rb, j, none⟩) h.rl h.tr).trans (h.rz j), Nat.lt_of_lt_of_le h.rl hsz, nT _ h.tp h.pl, nT _ h.tr h.rl, h.n, h.fo, sc, rs, (h2.cell (p := ⟨pb, 0, none⟩) h.pl h.tp).trans r1, owns_fr r2 h2 (fun k hk => (r4 k hk).1), ⟨r3.1, fun i r x e1 e2 => cd_stays _ _ _ _ _ _ _ (r3.2 i r x e1 e2) h2 (fun k hk => hk.2.1) (fun k hk => ⟨Nat.lt_of_lt_of_le hk.1 hsz, nT _ hk.2.1 hk.1, hk.2.2⟩)⟩, fun b hb => ⟨nT _ (r4 b hb).1 (r2.lt b hb).2, (r4 b hb).2⟩⟩
  rcases h3 k hk with e | e
  · exact h.t0 k e
  · exact Nat.le_trans h.f.size e
theorem NI.new (h : NI c rb pb T v cs ws w0 w) (hf : Fr nothing w w2) : NI c rb pb T v cs ws w0 w2 := h.call (.of_new h.ri hf)
theorem NI.vars (h : NI c rb pb T v cs ws w0 w) (u : Nat) : NI c rb pb T u cs ws w0 (w.setCell ⟨c.mb, 2, none⟩ (.int .i64 (u : Nat))) :=
  h.call ⟨(h.ri.vars u).1, (h.ri.vars u).2.mono (fun _ _ e => e ▸ h.ri.tm), fun _ hk => .inl hk⟩
/-- One code more. -/
theorem NI.push (h : NI c rb pb T v cs ws w0 w) {sc x : Slc} {rs : List RawC} {r : RawC} {d : Cd} (r1 : w.cell? ⟨pb, 0, none⟩ = some sc.v) (r2 : w.ownsRow w0.heap.size 40 3 sc.v cs.length (rs.flatMap encC)) (r3 : Each (CdOk w (fun k => k < w.heap.size ∧ ¬ T k ∧ k ≠ pb ∧ k ≠ rb ∧ sc.v.ownBlock ≠ some k)) rs cs) (r4 : ∀ b, sc.v.ownBlock = some b → ¬ T b ∧ b ≠ pb ∧ b ≠ rb) (hs : Sl encC 3 w x.v [r]) (hd : CdOk w (fun k => k < w.heap.size ∧ ¬ T k ∧ k ≠ pb ∧ k ≠ rb ∧ sc.v.ownBlock ≠ some k) r d) (hl : cs.length ≤ 1000) :
    ∃ (g cap : Nat) (w1 : World), (Builtin.append_ #[31, 31] 31 #[.slice sc.a sc.n sc.c, .slice x.a x.n x.c]).run Tryd.prog w = .ok (.slice (some ⟨g, 0, none⟩) (cs.length + 1) cap) w1 ∧ Fr (fun k => sc.v.ownBlock = some k) w w1 ∧ NI c rb pb T v (cs ++ [d]) ws w0 (w1.setCell ⟨pb, 0, none⟩ (.slice (some ⟨g, 0, none⟩) (cs.length + 1) cap)) := by
  obtain ⟨g, cap, w1, hrun, hr, hf, hg⟩ := code_app r2 hs h.f.size (by omega)
  refine ⟨g, cap, w1, hrun, hf, ?_⟩
  have c1 := (hf.cell (p := ⟨pb, 0, none⟩) h.pl (fun e => (r4 _ e).2.1 rfl)).trans r1
  obtain ⟨e1, e2, hf2⟩ := set_one w1 pb 0 (.slice (some ⟨g, 0, none⟩) (cs.length + 1) cap) c1
  have hF : Fr (fun k => sc.v.ownBlock = some k ∨ k = pb) w (w1.setCell ⟨pb, 0, none⟩ (.slice (some ⟨g, 0, none⟩) (cs.length + 1) cap)) := (hf.mono (fun _ _ e => .inl e)).trans (hf2.mono (fun _ _ e => .inr e))
  have hgn : ¬ T g ∧ g ≠ pb ∧ g ≠ rb := by
    rcases hg with e | e
    · exact r4 g e
    · have := h.pl
      have := h.rl
      exact ⟨fun e2 => by have := h.ri.tl g e2; omega, by omega, by omega⟩
  have nb : ∀ k, ¬ T k ∧ k ≠ pb ∧ k ≠ rb ∧ sc.v.ownBlock ≠ some k → ¬ (sc.v.ownBlock = some k ∨ k = pb) := by
    rintro k ⟨_, h1, _, h2⟩ (e | e)
    · exact h2 e
    · exact h1 e
  have nr : ¬ (sc.v.ownBlock = some rb ∨ rb = pb) := by
    rintro (e | e)
    · exact (r4 _ e).2.2 rfl
    · exact h.n.2.2 e
  have hl0 : ∀ k, sc.v.ownBlock = some k → w0.heap.size ≤ k := fun k hk => (r2.lt k hk).1
  have hnew : ∀ k, k < w.heap.size ∧ ¬ T k ∧ k ≠ pb ∧ k ≠ rb ∧ sc.v.ownBlock ≠ some k → (k < (w1.setCell ⟨pb, 0, none⟩ (.slice (some ⟨g, 0, none⟩) (cs.length + 1) cap)).heap.size ∧ ¬ T k ∧ k ≠ pb ∧ k ≠ rb ∧ (Slc.v ⟨some ⟨g, 0, none⟩, cs.length + 1, cap⟩).ownBlock ≠ some k) := by
    rintro k ⟨k1, k2, k3, k4, k5⟩
    refine ⟨Nat.lt_of_lt_of_le k1 hF.size, k2, k3, k4, fun e => ?_⟩
    obtain rfl : g = k := Option.some.inj e
    rcases hg with e | e
    · exact k5 e
    · omega
  refine ⟨h.ri.fr hF ?_ ?_, h.f.then hF ?_, h.t0, (e2 1 (by decide)).trans ((hf.cell (p := ⟨pb, 1, none⟩) h.pl (fun e => (r4 _ e).2.1 rfl)).trans h.p1), fun j => ?_, fun j => (hF.cell (p := ⟨rb, j, none⟩) h.rl nr).trans (h.r j), fun j => (hF.frozen (p := ⟨rb, j, none⟩) h.rl nr).trans (h.rz j), Nat.lt_of_lt_of_le h.rl hF.size, h.tp, h.tr, h.n, h.fo, ⟨some ⟨g, 0, none⟩, cs.length + 1, cap⟩, rs ++ [r], e1, ?_, ⟨by simp [r3.1], ?_⟩, ?_⟩
  · rintro k hk (e | e)
    · exact (r4 k e).1 hk
    · exact h.tp (e ▸ hk)
  · rintro b hb (e | e)
    · have := hl0 b e
      have := h.fo b hb
      omega
    · have := h.n.2.1
      have := h.fo b hb
      omega
  · rintro k hk (e | e)
    · have := hl0 k e; omega
    · have := h.n.2.1; omega
  · rw [World.frozen?_setCell, hf.frozen (p := ⟨pb, j, none⟩) h.pl (fun e => (r4 _ e).2.1 rfl)]; exact h.pz j
  · have := owns_fr hr hf2 (fun k hk e => by cases hk; exact hgn.2.1 e)
    simpa using this
  · intro i r' x' h1 h2
    rcases Nat.lt_trichotomy i cs.length with hi | hi | hi
    · rw [List.getElem?_append_left (by rw [r3.1]; exact hi)] at h1
      rw [List.getElem?_append_left hi] at h2
      exact cd_stays _ _ _ _ _ _ _ (r3.2 i r' x' h1 h2) hF (fun k hk => nb k hk.2) hnew
    · subst hi
      rw [List.getElem?_append_right (by rw [r3.1]; omega), r3.1] at h1
      rw [List.getElem?_append_right (by omega)] at h2
      simp at h1 h2
      subst h1 h2
      exact cd_stays _ _ _ _ _ _ _ hd hF (fun k hk => nb k hk.2) hnew
    · rw [List.getElem?_eq_none (by simp; omega)] at h2
      cases h2
  · intro b hb
    obtain rfl : g = b := Option.some.inj hb
    exact hgn
end
end Go.Proofs.YtkmdamljhagogaaDoor
end
