/- RMk1; RMk2; Pt; Shape2. -/
import Derived.Test.YtkmdamljhagogaaDoorPartT22
import Derived.Test.YtkmdamljhagogaaDoorPartT21
import Derived.Test.YtkmdamljhagogaaDoorPartT11
import Derived.Test.YtkmdamljhagogaaDoorPartT17
section
/- The document's own answer: Make, its walk. -/
set_option maxHeartbeats 0
set_option maxRecDepth 100000
namespace Go.Proofs.YtkmdamljhagogaaDoor
open Go Go.RowKit
/-- Of each function: what the document's Make wants. -/
structure FnR (l : List Fn) (f : Fn) : Prop where
  sh : FnSh f
  ke : stsKe f.b
  u : stsU (HasN l) f.b f.p
  p : f.p.length ≤ 4
theorem sl_litI2 (w : World) (x y : In) : Sl encI 3 (w.alloc (.cells #[.int .i64 x.op, .int .i64 x.a, .int .i64 x.b, .int .i64 y.op, .int .i64 y.a, .int .i64 y.b] 45)) (Slc.v ⟨some ⟨w.heap.size, 0, none⟩, 2, 2⟩) [x, y] := by
  refine ⟨some ⟨w.heap.size, 0, none⟩, 2, rfl, by unfold maxLen; simp, fun i z hi => ?_⟩
  have key := fun j u hu => World.news_of_block (cs := #[.int .i64 x.op, .int .i64 x.a, .int .i64 x.b, .int .i64 y.op, .int .i64 y.a, .int .i64 y.b]) (t := 45) (fr := (0, 0)) (heap_new w _) j u hu
  match i, hi with
  | 0, hi =>
    simp at hi
    subst hi
    refine ⟨_, _, rfl, by simp, fun j u hu => ?_⟩
    have hj : j < 3 := by have := (List.getElem?_eq_some_iff.1 hu).1; rwa [encI_len] at this
    have := key j u (by rw [← hu]; match j, hj with | 0, _ => rfl | 1, _ => rfl | 2, _ => rfl)
    rw [add_eq] at this
    simpa using this
  | 1, hi =>
    simp at hi
    subst hi
    refine ⟨_, _, rfl, by simp, fun j u hu => ?_⟩
    have hj : j < 3 := by have := (List.getElem?_eq_some_iff.1 hu).1; rwa [encI_len] at this
    have := key (3 + j) u (by rw [← hu]; match j, hj with | 0, _ => rfl | 1, _ => rfl | 2, _ => rfl)
    rw [add_eq] at this
    simpa using this
  | i + 2, hi => simp at hi
theorem rmake_any (l : List Fn) (hSt : ∀ L, RSts l L) (s : Slc) (rs : List RawF) (w : World) (hS : Sl encG 3 w s.v rs) (hE : Each (FnOk w (fun k => k < w.heap.size)) rs l) (hsb : ∀ b, s.v.ownBlock = some b → b < w.heap.size) (hM : ∀ f ∈ l, FnR l f) (hN : fnsN l ≤ 50000) (h5 : l.length ≤ 5) :
    Calls Tryd.prog 14 #[.slice s.a s.n s.c] w (MkP w (progK l)) := by
  obtain ⟨hln, hlm⟩ := sl_len hS
  obtain ⟨la, ln, lc⟩ := s
  simp only at hln
  rw [hE.1] at hln
  subst hln
  have hll : l.length ≤ 9223372036854775807 := by have := hE.1; omega
  have hmm := @run_makeMap Tryd.prog
  have s1 : (w.alloc (.cells #[.slice none 0 0, .slice none 0 0] 34)).heap.size = w.heap.size + 1 := by simp
  have s2 : ((w.alloc (.cells #[.slice none 0 0, .slice none 0 0] 34)).alloc (.cells #[.slice la l.length lc, .slice none 0 0, .int .i64 0] 79)).heap.size = w.heap.size + 1 + 1 := by simp
  obtain ⟨w3, hw3⟩ : ∃ w3, w3 = ((w.alloc (.cells #[.slice none 0 0, .slice none 0 0] 34)).alloc (.cells #[.slice la l.length lc, .slice none 0 0, .int .i64 0] 79)).alloc (.cells #[.slice none 0 0, .slice none 0 0] 34) := ⟨_, rfl⟩
  have hF3 : Fr nothing w w3 := by rw [hw3]; exact (((Fr.refl _ _).alloc _).alloc _).alloc _
  have cr := made_cells (((Fr.refl nothing (w.alloc (.cells #[.slice none 0 0, .slice none 0 0] 34))).alloc (.cells #[.slice la l.length lc, .slice none 0 0, .int .i64 0] 79)).alloc (.cells #[.slice none 0 0, .slice none 0 0] 34)) id
  have cm := made_cells ((Fr.refl nothing ((w.alloc (.cells #[.slice none 0 0, .slice none 0 0] 34)).alloc (.cells #[.slice la l.length lc, .slice none 0 0, .int .i64 0] 79))).alloc (.cells #[.slice none 0 0, .slice none 0 0] 34)) id
  have cp := made_cells (Fr.refl nothing (((w.alloc (.cells #[.slice none 0 0, .slice none 0 0] 34)).alloc (.cells #[.slice la l.length lc, .slice none 0 0, .int .i64 0] 79)).alloc (.cells #[.slice none 0 0, .slice none 0 0] 34))) id
  rw [s1] at cm
  rw [s2] at cp
  rw [← hw3] at cr cm cp
  have hNI : NI ⟨w.heap.size + 1, w.heap.size, ⟨la, l.length, lc⟩, rs⟩ w.heap.size (w.heap.size + 1 + 1) (fun k => k = w.heap.size + 1) 0 [] [] w w3 := by
    refine ⟨⟨cm.1 0, cm.1 2, cm.2.1, cm.2.2, hS.fr hF3 (fun _ _ => id), ⟨nilS, cm.1 1, World.ownsRow_nil _ _ _ _, fun b hb => (by cases hb)⟩, hF3.size, rfl, fun b hb e => ?_, fun b hb => Nat.lt_of_lt_of_le (hsb b hb) hF3.size, fun k hk => by rw [hk]; exact cm.2.2⟩, hF3, fun k hk => by rw [hk]; omega, cp.1 1, cp.2.1, cr.1, cr.2.1, cr.2.2, ?_, ?_, ⟨Nat.le_refl _, by omega, by omega⟩, hsb, nilS, [], cp.1 0, World.ownsRow_nil _ _ _ _, ⟨rfl, fun i r x h => by simp at h⟩, fun b hb => (by cases hb)⟩
    · have h1 := hsb b hb
      have h2 : b = w.heap.size + 1 := e
      omega
    · show ¬ (w.heap.size + 1 + 1 = w.heap.size + 1); omega
    · show ¬ (w.heap.size = w.heap.size + 1); omega
  have HNI := hide hNI
  have HS := hide hS
  have HE := hide hE
  have HFN : Hid (FnNames ⟨w.heap.size + 1, w.heap.size, ⟨la, l.length, lc⟩, rs⟩ l) := ⟨hE.1, fun i r f h1 h2 => (hE.2 i r f h1 h2).t⟩
  clear hNI hS hE cr cm cp hF3 s1 s2
  go_enter Tryd.func14, Tryd.ntmps14
  go_wp2
  rw [← hw3]
  obtain ⟨mb, hmb⟩ : ∃ x, x = w.heap.size + 1 := ⟨_, rfl⟩
  obtain ⟨rb, hrb⟩ : ∃ x, x = w.heap.size := ⟨_, rfl⟩
  obtain ⟨pb, hpb⟩ : ∃ x, x = w.heap.size + 1 + 1 := ⟨_, rfl⟩
  rw [← hpb] at HNI
  rw [← hpb]
  rw [← hmb] at HNI HFN
  rw [← hmb]
  rw [← hrb] at HNI HFN
  rw [← hrb]
  obtain ⟨c, hc⟩ : ∃ c : Rk, c = ⟨mb, rb, ⟨la, l.length, lc⟩, rs⟩ := ⟨_, rfl⟩
  rw [← hc] at HNI HFN
  have hcm : c.mb = mb := by rw [hc]
  have hcf : c.fs = ⟨la, l.length, lc⟩ := by rw [hc]
  clear hw3 hmb hrb hpb hc
  subst hcm
  go_loopw [18, 7, 8, 9, 10, 11] (fun i _ _ _ _ _ wv => ∃ (k : Nat), k ≤ l.length ∧ i = .int .i64 k ∧ Hid (∃ (T : Nat → Prop) (v : Nat) (cs : List Cd) (ws : List Bs), NI c rb pb T v cs ws w wv ∧ progK l = makeK (gOf l) (l.drop k) ⟨cs, ws⟩ ∧ cs.length = k ∧ ws.length + fnsN (l.drop k) ≤ 50000)) (fun i _ _ _ _ _ _ => l.length - (intOf i).toNat)
  case atStart => exact ⟨0, Nat.zero_le _, rfl, _, 0, [], [], HNI.out, rfl, rfl, by rw [List.drop_zero]; simpa using hN⟩
  case round =>
    obtain ⟨k, hk, rfl, hR⟩ := hrel
    by_cases hkl : k < l.length
    · have hx : l[k]? = some l[k] := List.getElem?_eq_getElem hkl
      have hr : rs[k]? = some (rs[k]'(by rw [HE.out.1]; omega)) := List.getElem?_eq_getElem _
      have hxm : l[k] ∈ l := List.getElem_mem hkl
      have hdr : l.drop k = l[k] :: l.drop (k + 1) := List.drop_eq_getElem_cons hkl
      generalize rs[k]'(by rw [HE.out.1]; omega) = r at hr
      generalize l[k] = f at hx hxm hdr
      have hok := HE.out.2 k r f hr hx
      obtain ⟨g, o, hg, dg, p0, p1, p2⟩ := sl_elem3 (s := ⟨la, l.length, lc⟩) HS.out hr
      simp only at hg
      subst hg
      obtain ⟨T, v, cs, ws, hI, hEq, hcl, hNk⟩ := hR.out
      have hFk := hI.f
      rw [← hFk.cell (p := ⟨g, _, none⟩) dg id] at p0 p1 p2
      have eg : g < wr.heap.size := Nat.lt_of_lt_of_le dg hFk.size
      rw [hdr, makeK] at hEq
      have hNk' : ws.length + (f.p.length + stsN f.b) + fnsN (l.drop (k + 1)) ≤ 50000 := by
        rw [hdr] at hNk; unfold fnsN at hNk ⊢; simp only [List.map_cons, List.sum_cons] at hNk; omega
      have hFM := hM f hxm
      have hfp := hFM.p
      have hpn := hFM.sh
      obtain ⟨hpl, hpm⟩ := sl_len hok.p
      obtain ⟨rt, ⟨rpa, rpn, rpc⟩, ⟨rba, rbn, rbc⟩⟩ := r
      simp only at hpl p0 p1 p2
      subst hpl
      have u1 : (wr.alloc (fo ⟨rt, ⟨rpa, f.p.length, rpc⟩, ⟨rba, rbn, rbc⟩⟩)).heap.size = wr.heap.size + 1 := by simp
      have hF5 : Fr nothing wr ((wr.alloc (fo ⟨rt, ⟨rpa, f.p.length, rpc⟩, ⟨rba, rbn, rbc⟩⟩)).alloc (.map #[] 0)) := ((Fr.refl _ _).alloc _).alloc _
      have hfc := fo_cells ((Fr.refl nothing (wr.alloc (fo ⟨rt, ⟨rpa, f.p.length, rpc⟩, ⟨rba, rbn, rbc⟩⟩))).alloc (.map #[] 0)) id
      have hSI := SI.made (wr.alloc (fo ⟨rt, ⟨rpa, f.p.length, rpc⟩, ⟨rba, rbn, rbc⟩⟩))
      rw [u1] at hSI
      have HI := hide hI
      have HOK := hide hok
      have HEQ := hide hEq
      have HF5 := hide hF5
      have HFC := hide hfc
      have HSI := hide hSI
      have HFM := hide hFM
      clear hR hI hok hEq hFk hF5 hfc hSI hr hx hNk hFM hpn u1
      go_wp2
      generalize (wr.alloc (fo ⟨rt, ⟨rpa, f.p.length, rpc⟩, ⟨rba, rbn, rbc⟩⟩)).alloc (.map #[] 0) = w5 at *
      obtain ⟨fb, hfb⟩ : ∃ x, x = wr.heap.size := ⟨_, rfl⟩
      obtain ⟨ab, hab⟩ : ∃ x, x = wr.heap.size + 1 := ⟨_, rfl⟩
      rw [← hab] at HSI
      rw [← hab]
      rw [← hfb] at HFC
      rw [← hfb]
      have HNUM := hide (And.intro hfb hab)
      have hab' : ab ≠ fb := by omega
      clear hfb hab p0 p1 p2
      obtain ⟨wq, hwq⟩ : ∃ x, x = wr := ⟨_, rfl⟩
      subst hwq
      go_loopw [26, 9, 10] (fun i _ _ wv => ∃ (j : Nat), j ≤ f.p.length ∧ i = .int .i64 j ∧ Hid (∃ (A : AMap) (E : Bs → Int), SI ab A wv ∧ (∀ t, (A.f t).getD 0 = E t) ∧ A.n ≤ j ∧ Fr (fun k => k = ab) w5 wv ∧ parE f.p 0 (fun _ => 0) = parE (f.p.drop j) j E)) (fun i _ _ _ => f.p.length - (intOf i).toNat)
      case atStart => exact ⟨0, Nat.zero_le _, rfl, AMap.empty, fun _ => 0, HSI.out, fun _ => rfl, Nat.le_refl _, Fr.refl _ _, rfl⟩
      case round =>
        obtain ⟨j, hj, rfl, hR⟩ := hrel
        obtain ⟨A, E, hA, hAE, hAn, hFj, hPE⟩ := hR.out
        by_cases hjl : j < f.p.length
        · have hx : f.p[j]? = some f.p[j] := List.getElem?_eq_getElem hjl
          have hxm2 : f.p[j] ∈ f.p := List.getElem_mem hjl
          have hdr2 : f.p.drop j = f.p[j] :: f.p.drop (j + 1) := List.drop_eq_getElem_cons hjl
          generalize f.p[j] = x at hx hxm2 hdr2
          have hxl := HFM.out.sh.p x hxm2
          obtain ⟨g2, o2, hg2, dg2, u0⟩ := sl_elem1 (s := ⟨rpa, f.p.length, rpc⟩) HOK.out.p hx
          simp only at hg2
          subst hg2
          have hF0 : Fr nothing w wr := ((HI.out.f.trans HF5.out).then hFj (fun k hk e => by have := HNUM.out.2; have := HI.out.f.size; omega))
          rw [← hF0.cell (p := ⟨g2, _, none⟩) dg2 id] at u0
          have eg2 : g2 < wr.heap.size := Nat.lt_of_lt_of_le dg2 hF0.size
          obtain ⟨wu, ru, hA2, hfu⟩ := hA.store x (by omega) (j : Nat) (by omega) (by omega) (by omega)
          have HNX := hide (show ∃ (A : AMap) (E : Bs → Int), SI ab A wu ∧ (∀ t, (A.f t).getD 0 = E t) ∧ A.n ≤ j + 1 ∧ Fr (fun k => k = ab) w5 wu ∧ parE f.p 0 (fun _ => 0) = parE (f.p.drop (j + 1)) (j + 1) E from ⟨A.put x j, upd E x j, hA2, idx_step hAE x j, by unfold AMap.put; dsimp only; split <;> omega, hFj.trans hfu, by rw [hPE, hdr2, parE]⟩)
          clear hR hA hAE hAn hFj hPE hF0 hA2 hfu hx
          go_wp2
          go_roundw
          case rel => exact ⟨j + 1, by omega, by go_num, HNX.out⟩
          case measure => simp [intOf]; omega
        · have hje : j = f.p.length := by omega
          rw [hje, List.drop_length, parE] at hPE
          have hnum := HNUM.out
          have hFq : Fr nothing wq wr := HF5.out.then hFj (fun k hk e => by omega)
          have hI2 := HI.out.new hFq
          have hI3 := hI2.vars f.p.length
          have hmc := hI2.ri.c2
          have hmz := hI2.ri.fz 2
          have hml := hI2.ri.ml
          have hmlq := HI.out.ri.ml
          obtain ⟨b0, b1, b2, bl⟩ := HFC.out
          have nf : ¬ fb = ab := fun e => hab' e.symm
          rw [← hFj.cell (p := ⟨fb, _, none⟩) bl nf] at b1 b2
          have bl2 := Nat.lt_of_lt_of_le bl hFj.size
          obtain ⟨d1, d2, hFv⟩ := set_one wr c.mb 2 (.int .i64 (f.p.length : Nat)) hmc
          have nfm : ¬ fb = c.mb := by omega
          obtain ⟨w6, hw6⟩ : ∃ w6, w6 = wr.setCell ⟨c.mb, 2, none⟩ (.int .i64 (f.p.length : Nat)) := ⟨_, rfl⟩
          rw [← hw6] at hI3 hFv
          have b1' := (hFv.cell (p := ⟨fb, 1, none⟩) bl2 nfm).trans b1
          have b2' := (hFv.cell (p := ⟨fb, 2, none⟩) bl2 nfm).trans b2
          have bl3 := Nat.lt_of_lt_of_le bl2 hFv.size
          have hTlow : ∀ k, T k → k < wq.heap.size := HI.out.ri.tl
          have hAT : AtN ab (parE f.p 0 (fun _ => 0)) f.p f.p.length T w6 := ⟨⟨A, hA.fr hFv (fun e => by omega), fun t _ => by rw [hAE, hPE], by omega⟩, fun e => by have := hTlow _ e; omega⟩
          have hok6 : FnOk w6 (ap T w6) ⟨rt, ⟨rpa, f.p.length, rpc⟩, ⟨rba, rbn, rbc⟩⟩ f := fn_stays _ _ _ _ _ _ _ HOK.out hI3.f (fun _ _ => id) (fun k hk => ⟨fun e => by have := HI.out.t0 k e; omega, Nat.lt_of_lt_of_le hk hI3.f.size⟩)
          obtain ⟨rb2, hb1, hb2⟩ := hok6.b
          have hlw := stsK_le (gOf l) f.b (parE f.p 0 (fun _ => 0)) f.p.length ws 0
          have HST := hide (hSt f.b c T f.p.length ws (parE f.p 0 (fun _ => 0)) f.p ab ⟨rba, rbn, rbc⟩ rb2 w6 hI3.ri HFN.out hAT hb1 hok6.bP hb2 HFM.out.u (by omega) (by omega) (by omega) HFM.out.sh.b HFM.out.ke)
          have hNX : ∀ (q : Slc) (T2 : Nat → Prop) (w7 : World), OwnI w6.heap.size q (fnS (gOf l) f ws).ins w7 → RP c T w6 (fnS (gOf l) f ws).v (fnS (gOf l) f ws).ws T2 w7 → (∀ b, q.v.ownBlock = some b → ¬ T2 b) →
              ∃ (q4 : Slc) (w8 : World), (Builtin.append_ #[38, 38] 38 #[.slice q.a q.n q.c, .slice (some ⟨w7.heap.size, 0, none⟩) 2 2]).run Tryd.prog (w7.alloc (.cells #[.int .i64 1, .int .i64 0, .int .i64 0, .int .i64 18, .int .i64 0, .int .i64 0] 45)) = .ok (.slice q4.a q4.n q4.c) w8 ∧
              (NI c rb pb T2 (fnS (gOf l) f ws).v cs (fnS (gOf l) f ws).ws w w8 ∧ OwnI w6.heap.size q4 (fnI (gOf l) f ws) w8 ∧ (∀ b, q4.v.ownBlock = some b → ¬ T2 b) ∧ Fr (fun k => T k ∨ w6.heap.size ≤ k) w6 w8) := by
            intro q T2 w7 o1 p1 n1
            have FL : Fr nothing w7 (w7.alloc (.cells #[.int .i64 1, .int .i64 0, .int .i64 0, .int .i64 18, .int .i64 0, .int .i64 0] 45)) := (Fr.refl _ _).alloc _
            have hll := hlw.i
            obtain ⟨q4, w8, hrun, own4, hF4, t4⟩ := (o1.fr FL (fun _ _ => id)).app (x := ⟨some ⟨w7.heap.size, 0, none⟩, 2, 2⟩) (sl_litI2 w7 ⟨1, 0, 0⟩ ⟨18, 0, 0⟩) (Nat.le_trans p1.2.1.size FL.size) (by show (stsK (gOf l) f.b (parE f.p 0 (fun _ => 0)) f.p.length ws 0).ins.length + 2 ≤ _; omega)
            have hI7 := (hI3.call p1).new FL
            have hTl := hI7.ri.tl
            obtain ⟨sc, rsc, r1, r2, r3, r4⟩ := hI7.rows
            have o1l : ∀ b, q.v.ownBlock = some b → w6.heap.size ≤ b := fun b hb => (o1.lt hb).1
            have FLF : Fr (fun k => q.v.ownBlock = some k) w7 w8 := (FL.mono (fun _ _ e => e.elim)).trans hF4
            have hI8 : NI c rb pb T2 (fnS (gOf l) f ws).v cs (fnS (gOf l) f ws).ws w w8 := hI3.call ⟨p1.1.fr FLF (fun k hk e => n1 k e hk) (fun b hb e => by have := hI3.fo b hb; have := hI3.f.size; have := o1l b e; omega), p1.2.1.then FLF (fun k hk e => by have := o1l k e; omega), p1.2.2⟩
            refine ⟨q4, w8, hrun, hI8, own4, fun b hb => ?_, ((p1.2.1.mono (fun _ _ e => .inl e)).trans (FL.mono (fun _ _ e => e.elim))).trans (hF4.mono (fun k _ e => .inr (o1l k e)))⟩
            rcases t4 b hb with e | e
            · exact n1 b e
            · exact fun e2 => by have := hTl b e2; omega
          have HNX := hide hNX
          have HI3 := hide hI3
          have hlv := hlw.v
          have hlwn := hlw.w
          have hll := hlw.i
          have hTfb : ¬ (T fb ∨ w6.heap.size ≤ fb) := by
            rintro (e | e)
            · have := hTlow _ e; omega
            · omega
          have hpq : w6.cell? ⟨pb, 0, none⟩ = wq.cell? ⟨pb, 0, none⟩ := (hFv.cell (p := ⟨pb, 0, none⟩) hI2.pl (fun e => by have e2 : pb = c.mb := e; exact hI2.tp (e2 ▸ hI2.ri.tm))).trans (hFq.cell (p := ⟨pb, 0, none⟩) HI.out.pl id)
          have hqs : wq.heap.size ≤ w6.heap.size := Nat.le_trans hFq.size hFv.size
          clear hR hA hAE hAn hFj hPE hFq hI2 hI3 d1 d2 hFv hAT hok6 hb1 hb2 hNX hTlow hnum hlw hje
          obtain ⟨n2, hN2⟩ : ∃ n2, (fnI (gOf l) f ws).length = n2 := ⟨_, rfl⟩
          obtain ⟨n3, hN3⟩ : ∃ n3, highsK f.b = n3 := ⟨_, rfl⟩
          have hn2 : n2 ≤ 1000000 := by
            rw [← hN2]
            unfold fnI
            simp only [List.length_append, List.length_cons, List.length_nil]
            show (stsK (gOf l) f.b (parE f.p 0 (fun _ => 0)) f.p.length ws 0).ins.length + _ ≤ _
            omega
          have HHI : Hid (∀ w8, Fr nothing w w8 → Calls Tryd.prog 32 #[.slice rba rbn rbc] w8 fun e w' => e = .returned (.int .i64 (n3 : Nat)) ∧ Fr nothing w8 w') := by
            intro w8 hf
            have hk : FnOk w8 (fun k => k < w8.heap.size) ⟨rt, ⟨rpa, f.p.length, rpc⟩, ⟨rba, rbn, rbc⟩⟩ f := fn_stays _ _ _ _ _ _ _ HOK.out hf (fun _ _ => id) (fun k hk => Nat.lt_of_lt_of_le hk hf.size)
            obtain ⟨rb3, hb3, hb4⟩ := hk.b
            rw [← hN3]
            exact high_any f.b ⟨rba, rbn, rbc⟩ rb3 w8 hb3 hb4 (by omega)
          by_cases h200 : 200 < n2
          · have HMUCH : Hid (progK l = (⟨[], []⟩, 4)) := by
              have := HEQ.out
              rw [if_pos (by unfold fnMuch; rw [hN2]; simp [h200])] at this
              exact this
            clear HEQ
            go_wp2_with (first
              | (go_at_call 31; rw [← hw6]; refine HST.out.mono ?_; rintro e w7 ⟨q, T2, rfl, hO, hR, hq⟩; obtain ⟨⟨qa, qn, qc⟩, w8, hrun, hI8, own8, n8, F8⟩ := HNX.out q T2 w7 hO hR hq; have hqn : qn = (fnI (gOf l) f ws).length := own8.n; rw [hN2] at hqn; subst hqn; have y1 := (F8.cell (p := ⟨fb, 1, none⟩) bl3 hTfb).trans b1'; have y2 := (F8.cell (p := ⟨fb, 2, none⟩) bl3 hTfb).trans b2'; have yl := Nat.lt_of_lt_of_le bl3 F8.size; have z0 := hI8.r 0; have z1 := hI8.r 1; have zf0 := hI8.rz 0; have zf1 := hI8.rz 1; have zl := hI8.rl; have HI8 := hide hI8; have HN8 := hide (And.intro own8 (And.intro n8 F8)); clear hO hR hq hI8 own8 n8 F8)
              | (at_builtin; go_must (refine wpList_run rfl _ _ 38 rfl _ _ rfl rfl hrun ?_)))
            obtain ⟨w12, hw12, g0, g1, hF12⟩ := set2 (.slice none 0 0) (.slice none 0 0) z0 z1
            rw [← hw12]
            clear hw12
            exact bodyPost_ret (v := .tuple #[.agg #[.slice none 0 0, .slice none 0 0], .int .i64 4]) (by simp [results, Tryd.results14, go_sem, g0, g1]) rfl ⟨nilS, nilS, by rw [HMUCH.out], HI8.out.f.then hF12 (fun k hk e => by have := HI3.out.n.1; omega), by rw [HMUCH.out]; exact pgOk_nil _⟩
          by_cases h16 : 16 < n3
          · have HMUCH : Hid (progK l = (⟨[], []⟩, 4)) := by
              have := HEQ.out
              rw [if_pos (by unfold fnMuch; rw [hN3]; simp [h16])] at this
              exact this
            clear HEQ
            go_wp2_with (first
              | (go_at_call 31; rw [← hw6]; refine HST.out.mono ?_; rintro e w7 ⟨q, T2, rfl, hO, hR, hq⟩; obtain ⟨⟨qa, qn, qc⟩, w8, hrun, hI8, own8, n8, F8⟩ := HNX.out q T2 w7 hO hR hq; have hqn : qn = (fnI (gOf l) f ws).length := own8.n; rw [hN2] at hqn; subst hqn; have y1 := (F8.cell (p := ⟨fb, 1, none⟩) bl3 hTfb).trans b1'; have y2 := (F8.cell (p := ⟨fb, 2, none⟩) bl3 hTfb).trans b2'; have yl := Nat.lt_of_lt_of_le bl3 F8.size; skip; have HI8 := hide hI8; have HN8 := hide (And.intro own8 (And.intro n8 F8)); clear hO hR hq hI8 own8 n8 F8)
              | (at_builtin; go_must (refine wpList_run rfl _ _ 38 rfl _ _ rfl rfl hrun ?_))
              | (go_at_call 32; refine (HHI.out w8 HI8.out.f).mono ?_; rintro e w9 ⟨rfl, hF9⟩; have hI9 := HI8.out.new hF9; have z0 := hI9.r 0; have z1 := hI9.r 1; have zf0 := hI9.rz 0; have zf1 := hI9.rz 1; have zl := hI9.rl; have HI9 := hide hI9; clear hI9 hF9))
            obtain ⟨w12, hw12, g0, g1, hF12⟩ := set2 (.slice none 0 0) (.slice none 0 0) z0 z1
            rw [← hw12]
            clear hw12
            exact bodyPost_ret (v := .tuple #[.agg #[.slice none 0 0, .slice none 0 0], .int .i64 4]) (by simp [results, Tryd.results14, go_sem, g0, g1]) rfl ⟨nilS, nilS, by rw [HMUCH.out], HI9.out.f.then hF12 (fun k hk e => by have := HI3.out.n.1; omega), by rw [HMUCH.out]; exact pgOk_nil _⟩
          have HGO : Hid (progK l = makeK (gOf l) (l.drop (k + 1)) ⟨cs ++ [⟨f.p.length, (fnS (gOf l) f ws).v, fnI (gOf l) f ws⟩], (fnS (gOf l) f ws).ws⟩) := by
            have := HEQ.out
            rw [if_neg (by unfold fnMuch; rw [hN2, hN3]; simp; omega)] at this
            exact this
          clear HEQ
          go_wp2_with (first
            | (go_at_call 31; rw [← hw6]; refine HST.out.mono ?_; rintro e w7 ⟨q, T2, rfl, hO, hR, hq⟩; obtain ⟨⟨qa, qn, qc⟩, w8, hrun, hI8, own8, n8, F8⟩ := HNX.out q T2 w7 hO hR hq; have hqn : qn = (fnI (gOf l) f ws).length := own8.n; rw [hN2] at hqn; subst hqn; have y1 := (F8.cell (p := ⟨fb, 1, none⟩) bl3 hTfb).trans b1'; have y2 := (F8.cell (p := ⟨fb, 2, none⟩) bl3 hTfb).trans b2'; have yl := Nat.lt_of_lt_of_le bl3 F8.size; skip; have HI8 := hide hI8; have HN8 := hide (And.intro own8 (And.intro n8 F8)); clear hO hR hq hI8 own8 n8 F8)
            | (at_builtin; go_must (refine wpList_run rfl _ _ 38 rfl _ _ rfl rfl hrun ?_))
            | (go_at_call 32; refine (HHI.out w8 HI8.out.f).mono ?_; rintro e w9 ⟨rfl, hF9⟩; have hI9 := HI8.out.new hF9; have v1 := (hF9.cell (p := ⟨fb, 1, none⟩) yl id).trans y1; have vl := Nat.lt_of_lt_of_le yl hF9.size; have HI9 := hide hI9; have HF9 := hide hF9; clear hI9 hF9))
          have hF10 : Fr nothing w9 (w9.alloc (.cells #[.int .i64 (f.p.length : Nat), .int .i64 ((fnS (gOf l) f ws).v : Nat), .slice qa qn qc] 40)).drew := ((Fr.refl nothing w9).alloc _).drew
          have hI10 := HI9.out.new hF10
          obtain ⟨⟨ca, cn, cc⟩, rsc, r1, r2, r3, r4⟩ := hI10.rows
          have own9 := HN8.out.1.fr HF9.out (fun _ _ => id)
          have hpl9 := HI9.out.pl
          have hcl' : cs.length ≤ 1000 := by omega
          have hsc : ∀ b, (Slc.v ⟨ca, cn, cc⟩).ownBlock = some b → b < wq.heap.size := by
            obtain ⟨sc3, rs3, q1, q2, _, _⟩ := HI.out.rows
            rw [← hpq] at q1
            have e1 := (HN8.out.2.2.cell (p := ⟨pb, 0, none⟩) HI3.out.pl (fun e => e.elim HI3.out.tp (fun e => absurd HI3.out.pl (Nat.not_lt_of_le e)))).trans q1
            have e2 := (HF9.out.cell (p := ⟨pb, 0, none⟩) HI8.out.pl id).trans e1
            have e3 := (hF10.cell (p := ⟨pb, 0, none⟩) hpl9 id).trans e2
            rw [r1] at e3
            rw [Option.some.inj e3]
            exact fun b hb => (q2.lt b hb).2
          obtain ⟨g1, cp1, w11, hrun2, hF11, hN11⟩ := hI10.push (x := ⟨some ⟨w9.heap.size, 0, none⟩, 1, 1⟩) (r := ⟨(f.p.length : Nat), ((fnS (gOf l) f ws).v : Nat), ⟨qa, qn, qc⟩⟩) (d := ⟨f.p.length, (fnS (gOf l) f ws).v, fnI (gOf l) f ws⟩) r1 r2 r3 r4 ((sl_litC w9 ⟨(f.p.length : Nat), ((fnS (gOf l) f ws).v : Nat), ⟨qa, qn, qc⟩⟩).fr (Fr.refl nothing _).drew (fun _ _ => id)) ⟨rfl, rfl, (own9.fr hF10 (fun _ _ => id)).sl, fun b hb => by
              have h1 := own9.lt hb
              have h2 := HN8.out.2.1 b hb
              have h3 := HI3.out.pl
              have h4 := HI3.out.rl
              exact ⟨Nat.lt_of_lt_of_le h1.2 hF10.size, h2, by omega, by omega, fun e => by have := hsc b e; omega⟩⟩ hcl'
          replace r1 : (w9.alloc (.cells #[.int .i64 (f.p.length : Nat), .int .i64 ((fnS (gOf l) f ws).v : Nat), .slice qa qn qc] 40)).drew.cell? ⟨pb, 0, none⟩ = some (.slice ca cn cc) := r1
          have r0 : w9.cell? ⟨pb, 0, none⟩ = some (.slice ca cn cc) := (hF10.cell (p := ⟨pb, 0, none⟩) hpl9 id).symm.trans r1
          have m0 := HI9.out.ri.c2
          have ml := HI9.out.ri.ml
          have hfp9 := HI9.out.ri.ml
          have HS9 : Hid (∀ w', Fr nothing w9 w' → w'.cell? ⟨pb, 0, none⟩ = some (.slice ca cn cc) ∧ w'.cell? ⟨fb, 1, none⟩ = some (.slice rpa f.p.length rpc) ∧ w'.cell? ⟨c.mb, 2, none⟩ = some (.int .i64 ((fnS (gOf l) f ws).v : Nat))) := fun w' hf => ⟨(hf.cell (p := ⟨pb, 0, none⟩) hpl9 id).trans r0, (hf.cell (p := ⟨fb, 1, none⟩) vl id).trans v1, (hf.cell (p := ⟨c.mb, 2, none⟩) ml id).trans m0⟩
          have HS11 : Hid (w11.cell? ⟨pb, 0, none⟩ = some (.slice ca cn cc) ∧ w11.cell? ⟨fb, 1, none⟩ = some (.slice rpa f.p.length rpc) ∧ w11.cell? ⟨c.mb, 2, none⟩ = some (.int .i64 ((fnS (gOf l) f ws).v : Nat))) := by
            obtain ⟨x1, x2, x3⟩ := HS9.out _ hF10
            have nfb : ¬ (Slc.v ⟨ca, cn, cc⟩).ownBlock = some fb := fun e => by
              have h1 := hsc fb e
              have h2 := HNUM.out.1
              omega
            exact ⟨(hF11.cell (p := ⟨pb, 0, none⟩) (Nat.lt_of_lt_of_le hpl9 hF10.size) (fun e => (r4 _ e).2.1 rfl)).trans x1, (hF11.cell (p := ⟨fb, 1, none⟩) (Nat.lt_of_lt_of_le vl hF10.size) nfb).trans x2, (hF11.cell (p := ⟨c.mb, 2, none⟩) (Nat.lt_of_lt_of_le ml hF10.size) (fun e => (r4 _ e).1 HI9.out.ri.tm)).trans x3⟩
          have pz11 : w11.frozen? ⟨pb, 0, none⟩ = false := (hF11.frozen (p := ⟨pb, 0, none⟩) (Nat.lt_of_lt_of_le hpl9 hF10.size) (fun e => (r4 _ e).2.1 rfl)).trans (hI10.pz 0)
          have pl11 : pb < w11.heap.size := Nat.lt_of_lt_of_le (Nat.lt_of_lt_of_le hpl9 hF10.size) hF11.size
          have HEND := hide hN11
          have HRUN := hide hrun2
          have HF10 := hide hF10
          clear hI10 hF10 r1 r2 r3 r4 own9 hsc hF11 hN11 hrun2 HN8
          refine wp_region_T (S := fun w' => w'.cell? ⟨pb, 0, none⟩ = some (.slice ca cn cc) ∧ w'.cell? ⟨fb, 1, none⟩ = some (.slice rpa f.p.length rpc) ∧ w'.cell? ⟨c.mb, 2, none⟩ = some (.int .i64 ((fnS (gOf l) f ws).v : Nat))) (by kernel_rfl) [14] (HS9.out _ (Fr.refl _ _).drew) (fun hHeld => ?_)
          refine wpAnyT_take (i := 0) (oi := { dst := some 60, op := Op.fieldAddr 34 (Operand.tmp 5) 0, type := 0, pos := "ref.go:758", after := #[], guard := none }) (v := ?v1) rfl (by kernel_rfl) (by kernel_rfl) (by kernel_rfl) (by kernel_rfl) (by kernel_rfl) (fun _ _ _ h => h) (Or.inl ⟨by rfl, ?hy1⟩) (by assumption) ?rest1
          case hy1 => (intro w hSw; (try dsimp only at hSw); obtain ⟨hS1, hS2, hS3⟩ := hSw; go_simp; try with_reducible rfl)
          try simp only [Act.put, List.setIfInBounds_toArray, List.set_cons_zero, List.set_cons_succ]
          refine wpAnyT_take (i := 1) (oi := { dst := some 61, op := Op.load 31 (Operand.tmp 60), type := 31, pos := "ref.go:758", after := #[{ on := 0, ground := Ground.data }], guard := none }) (v := ?v2) rfl (by kernel_rfl) (by kernel_rfl) (by kernel_rfl) (by kernel_rfl) (by kernel_rfl) (fun _ _ _ h => h) (Or.inl ⟨by rfl, ?hy2⟩) (by assumption) ?rest2
          case hy2 => (intro w hSw; (try dsimp only at hSw); obtain ⟨hS1, hS2, hS3⟩ := hSw; go_simp; try with_reducible rfl)
          try simp only [Act.put, List.setIfInBounds_toArray, List.set_cons_zero, List.set_cons_succ]
          refine wpAnyT_take (i := 2) (oi := { dst := some 62, op := Op.fieldAddr 43 (Operand.tmp 7) 1, type := 0, pos := "ref.go:758", after := #[], guard := none }) (v := ?v3) rfl (by kernel_rfl) (by kernel_rfl) (by kernel_rfl) (by kernel_rfl) (by kernel_rfl) (fun _ _ _ h => h) (Or.inl ⟨by rfl, ?hy3⟩) (by assumption) ?rest3
          case hy3 => (intro w hSw; (try dsimp only at hSw); obtain ⟨hS1, hS2, hS3⟩ := hSw; go_simp; try with_reducible rfl)
          try simp only [Act.put, List.setIfInBounds_toArray, List.set_cons_zero, List.set_cons_succ]
          refine wpAnyT_take (i := 3) (oi := { dst := some 63, op := Op.load 32 (Operand.tmp 62), type := 32, pos := "ref.go:758", after := #[{ on := 2, ground := Ground.data }], guard := none }) (v := ?v4) rfl (by kernel_rfl) (by kernel_rfl) (by kernel_rfl) (by kernel_rfl) (by kernel_rfl) (fun _ _ _ h => h) (Or.inl ⟨by rfl, ?hy4⟩) (by assumption) ?rest4
          case hy4 => (intro w hSw; (try dsimp only at hSw); obtain ⟨hS1, hS2, hS3⟩ := hSw; go_simp; try with_reducible rfl)
          try simp only [Act.put, List.setIfInBounds_toArray, List.set_cons_zero, List.set_cons_succ]
          refine wpAnyT_take (i := 4) (oi := { dst := some 64, op := Op.call { callee := Callee.builtin Builtin.len, args := #[Operand.tmp 63], argTypes := #[32] }, type := 3, pos := "ref.go:758", after := #[{ on := 3, ground := Ground.data }], guard := none }) (v := ?v5) rfl (by kernel_rfl) (by kernel_rfl) (by kernel_rfl) (by kernel_rfl) (by kernel_rfl) (fun _ _ _ h => h) (Or.inl ⟨by rfl, ?hy5⟩) (by assumption) ?rest5
          case hy5 => (intro w hSw; (try dsimp only at hSw); obtain ⟨hS1, hS2, hS3⟩ := hSw; go_simp; try with_reducible rfl)
          try simp only [Act.put, List.setIfInBounds_toArray, List.set_cons_zero, List.set_cons_succ]
          refine wpAnyT_take (i := 5) (oi := { dst := some 65, op := Op.move (Operand.tmp 4), type := 77, pos := "ref.go:758", after := #[], guard := none }) (v := ?v6) rfl (by kernel_rfl) (by kernel_rfl) (by kernel_rfl) (by kernel_rfl) (by kernel_rfl) (fun _ _ _ h => h) (Or.inl ⟨by rfl, ?hy6⟩) (by assumption) ?rest6
          case hy6 => (intro w hSw; (try dsimp only at hSw); obtain ⟨hS1, hS2, hS3⟩ := hSw; go_simp; try with_reducible rfl)
          try simp only [Act.put, List.setIfInBounds_toArray, List.set_cons_zero, List.set_cons_succ]
          refine wpAnyT_take (i := 9) (oi := { dst := some 69, op := Op.move (Operand.tmp 11), type := 38, pos := "ref.go:758", after := #[], guard := none }) (v := ?v7) rfl (by kernel_rfl) (by kernel_rfl) (by kernel_rfl) (by kernel_rfl) (by kernel_rfl) (fun _ _ _ h => h) (Or.inl ⟨by rfl, ?hy7⟩) (by assumption) ?rest7
          case hy7 => (intro w hSw; (try dsimp only at hSw); obtain ⟨hS1, hS2, hS3⟩ := hSw; go_simp; try with_reducible rfl)
          try simp only [Act.put, List.setIfInBounds_toArray, List.set_cons_zero, List.set_cons_succ]
          refine wpAnyT_ready (rs := [6]) (by kernel_rfl) (by simp) ?_
          refine AllReadyT.cons (o := { dst := some 66, op := Op.nilCheck (Operand.tmp 65), type := 0, pos := "ref.go:758", after := #[{ on := 5, ground := Ground.data }], guard := none }) rfl (fun K hK => ?_) AllReadyT.nil
          go_simp
          refine hK.out _ _ hHeld ?_
          clear hK K
          try simp only [Act.put, List.setIfInBounds_toArray, List.set_cons_zero, List.set_cons_succ]
          refine wpAnyT_take (i := 7) (oi := { dst := some 67, op := Op.fieldAddr 79 (Operand.tmp 66) 2, type := 0, pos := "ref.go:758", after := #[{ on := 6, ground := Ground.data }], guard := none }) (v := ?v8) rfl (by kernel_rfl) (by kernel_rfl) (by kernel_rfl) (by kernel_rfl) (by kernel_rfl) (fun _ _ _ h => h) (Or.inl ⟨by rfl, ?hy8⟩) (by assumption) ?rest8
          case hy8 => (intro w hSw; (try dsimp only at hSw); obtain ⟨hS1, hS2, hS3⟩ := hSw; go_simp; try with_reducible rfl)
          try simp only [Act.put, List.setIfInBounds_toArray, List.set_cons_zero, List.set_cons_succ]
          refine wpAnyT_take (i := 8) (oi := { dst := some 68, op := Op.load 3 (Operand.tmp 67), type := 3, pos := "ref.go:758", after := #[{ on := 7, ground := Ground.data }], guard := none }) (v := ?v9) rfl (by kernel_rfl) (by kernel_rfl) (by kernel_rfl) (by kernel_rfl) (by kernel_rfl) (fun _ _ _ h => h) (Or.inl ⟨by rfl, ?hy9⟩) (by assumption) ?rest9
          case hy9 => (intro w hSw; (try dsimp only at hSw); obtain ⟨hS1, hS2, hS3⟩ := hSw; go_simp; try with_reducible rfl)
          try simp only [Act.put, List.setIfInBounds_toArray, List.set_cons_zero, List.set_cons_succ]
          refine wpAnyT_take (i := 10) (oi := { dst := some 70, op := Op.build 40 #[(0, Operand.tmp 64), (1, Operand.tmp 68), (2, Operand.tmp 69)], type := 40, pos := "ref.go:758", after := #[{ on := 4, ground := Ground.data }, { on := 8, ground := Ground.data }, { on := 9, ground := Ground.data }], guard := none }) (v := ?v10) rfl (by kernel_rfl) (by kernel_rfl) (by kernel_rfl) (by kernel_rfl) (by kernel_rfl) (fun _ _ _ h => h) (Or.inl ⟨by rfl, ?hy10⟩) (by assumption) ?rest10
          case hy10 => (intro w hSw; (try dsimp only at hSw); obtain ⟨hS1, hS2, hS3⟩ := hSw; go_simp; try with_reducible rfl)
          try simp only [Act.put, List.setIfInBounds_toArray, List.set_cons_zero, List.set_cons_succ]
          refine wpAnyT_ready (rs := [11]) (by kernel_rfl) (by simp) ?_
          refine AllReadyT.cons (o := { dst := some 71, op := Op.buildSlice 31 1 #[(0, Operand.tmp 70)], type := 31, pos := "ref.go:758", after := #[{ on := 10, ground := Ground.data }], guard := none }) rfl (fun K hK => ?_) AllReadyT.nil
          go_simp
          refine hK.out _ _ (HS9.out _ HF10.out) ?_
          clear hK K
          try simp only [Act.put, List.setIfInBounds_toArray, List.set_cons_zero, List.set_cons_succ]
          refine wpAnyT_ready (rs := [12]) (by kernel_rfl) (by simp) ?_
          refine AllReadyT.cons (o := { dst := some 72, op := Op.call { callee := Callee.builtin Builtin.append, args := #[Operand.tmp 61, Operand.tmp 71], argTypes := #[31, 31] }, type := 31, pos := "ref.go:758", after := #[{ on := 1, ground := Ground.data }, { on := 11, ground := Ground.data }], guard := none }) rfl (fun K hK => ?_) AllReadyT.nil
          refine step_run rfl _ _ 31 rfl _ _ (by simp [Act.eval]) (by simp [Act.eval]) HRUN.out ?_
          refine hK.out _ _ HS11.out ?_
          clear hK K
          try simp only [Act.put, List.setIfInBounds_toArray, List.set_cons_zero, List.set_cons_succ]
          have x11 := HS11.out.1
          refine wpAnyT_take (i := 13) (oi := { dst := some 73, op := Op.fieldAddr 34 (Operand.tmp 5) 0, type := 0, pos := "ref.go:758", after := #[{ on := 0, ground := Ground.phase }, { on := 1, ground := Ground.phase }, { on := 2, ground := Ground.phase }, { on := 3, ground := Ground.phase }, { on := 4, ground := Ground.phase }, { on := 5, ground := Ground.phase }, { on := 6, ground := Ground.phase }, { on := 7, ground := Ground.phase }, { on := 8, ground := Ground.phase }, { on := 9, ground := Ground.phase }, { on := 10, ground := Ground.phase }, { on := 11, ground := Ground.phase }, { on := 12, ground := Ground.phase }], guard := none }) (v := ?v11) rfl (by kernel_rfl) (by kernel_rfl) (by kernel_rfl) (by kernel_rfl) (by kernel_rfl) (fun _ _ _ h => h) (Or.inl ⟨by rfl, ?hy11⟩) (by assumption) ?rest11
          case hy11 => (intro w hSw; (try dsimp only at hSw); obtain ⟨hS1, hS2, hS3⟩ := hSw; go_simp; try with_reducible rfl)
          try simp only [Act.put, List.setIfInBounds_toArray, List.set_cons_zero, List.set_cons_succ]
          refine wpAnyT_ready (rs := [14]) (by kernel_rfl) (by simp) ?_
          refine AllReadyT.last (o := { dst := none, op := Op.store 31 (Operand.tmp 73) (Operand.tmp 72), type := 0, pos := "ref.go:758", after := #[{ on := 13, ground := Ground.data }, { on := 12, ground := Ground.data }, { on := 12, ground := Ground.chain }, { on := 0, ground := Ground.phase }, { on := 1, ground := Ground.phase }, { on := 2, ground := Ground.phase }, { on := 3, ground := Ground.phase }, { on := 4, ground := Ground.phase }, { on := 5, ground := Ground.phase }, { on := 6, ground := Ground.phase }, { on := 7, ground := Ground.phase }, { on := 8, ground := Ground.phase }, { on := 9, ground := Ground.phase }, { on := 10, ground := Ground.phase }, { on := 11, ground := Ground.phase }, { on := 12, ground := Ground.phase }], guard := none }) rfl (by kernel_rfl) (fun K hK => ?_) AllReadyT.nil
          go_simp
          refine hK.out _ _ ?_
          clear hK K
          try simp only [Act.put, List.setIfInBounds_toArray, List.set_cons_zero, List.set_cons_succ]
          refine wpAny_done (by kernel_rfl) ?_ _
          clear HRUN HS11 HS9 HF10 x11 pz11 pl11 hHeld
          go_wp2_with fail
          go_roundw
          case rel => exact ⟨k + 1, by omega, by go_num, T2, _, _, _, (by have hz := HEND.out; rw [hcl] at hz; exact hz), HGO.out, by rw [List.length_append, hcl]; rfl, by show (stsK (gOf l) f.b (parE f.p 0 (fun _ => 0)) f.p.length ws 0).ws.length + _ ≤ _; omega⟩
          case measure => simp [intOf]; omega
    · have hke : k = l.length := by omega
      obtain ⟨T, v, cs, ws, hI, hEq, hcl, hNk⟩ := hR.out
      rw [hke, List.drop_length, makeK] at hEq
      obtain ⟨⟨ca, cn, cc⟩, rsc, r1, r2, r3, r4⟩ := hI.rows
      obtain ⟨⟨wa, wn, wc⟩, u1, u2, u3⟩ := hI.ri.row
      have z0 := hI.r 0
      have z1 := hI.r 1
      have zf0 := hI.rz 0
      have zf1 := hI.rz 1
      have zl := hI.rl
      have p0 := hI.p1
      have pz0 := hI.pz 0
      have pz1 := hI.pz 1
      have pl := hI.pl
      have ml := hI.ri.ml
      have hrp := hI.n.2.2
      have hne : ¬ pb = rb := fun e => hrp e.symm
      replace r1 : wr.cell? ⟨pb, 0, none⟩ = some (.slice ca cn cc) := r1
      replace u1 : wr.cell? ⟨c.mb, 1, none⟩ = some (.slice wa wn wc) := u1
      obtain ⟨e1, e2, hf1⟩ := set_one wr pb 1 (.slice wa wn wc) p0
      obtain ⟨w9, hw9, g0, g1, hF9⟩ := set2 (w := wr.setCell ⟨pb, 1, none⟩ (.slice wa wn wc)) (b := rb) (.slice ca cn cc) (.slice wa wn wc) ((hf1.cell (p := ⟨rb, 0, none⟩) zl (fun e => hrp e)).trans z0) ((hf1.cell (p := ⟨rb, 1, none⟩) zl (fun e => hrp e)).trans z1)
      have HF : Hid (Fr (fun k => k = pb ∨ k = rb) wr w9) := (hf1.mono (fun _ _ e => .inl e)).trans (hF9.mono (fun _ _ e => .inr e))
      have hpg : PgOk w9 ⟨ca, cn, cc⟩ ⟨wa, wn, wc⟩ ⟨cs, ws⟩ := by
        have hF := HF.out
        have nsc : ∀ k, (Slc.v ⟨ca, cn, cc⟩).ownBlock = some k → ¬ (k = pb ∨ k = rb) := by
          rintro k hk (e | e)
          · exact (r4 k hk).2.1 e
          · exact (r4 k hk).2.2 e
        have nsw : ∀ k, (Slc.v ⟨wa, wn, wc⟩).ownBlock = some k → ¬ (k = pb ∨ k = rb) := by
          rintro k hk (e | e)
          · exact hI.tp (e ▸ (u3 k hk).1)
          · exact hI.tr (e ▸ (u3 k hk).1)
        refine ⟨⟨rsc, sl_of_owns encC_len (by rw [r3.1]; exact owns_fr r2 hF nsc), r3.1, fun i r x h1 h2 => cd_stays _ _ _ _ _ _ _ (r3.2 i r x h1 h2) hF ?_ (fun k hk => Nat.lt_of_lt_of_le hk.1 hF.size)⟩, sl_of_owns encN_len (owns_fr u2 hF nsw), fun b hb => Nat.lt_of_lt_of_le (r2.lt b hb).2 hF.size, fun b hb => Nat.lt_of_lt_of_le (u2.lt b hb).2 hF.size⟩
        rintro k hk (e | e)
        · exact hk.2.2.1 e
        · exact hk.2.2.2.1 e
      have HPG := hide hpg
      have HFk := hide hI.f
      have HN := hide hI.n
      have HEND := hide hEq
      clear hR hI r2 r3 r4 u2 u3 hEq hcl hNk hke e1 e2 hf1 hF9 hpg
      go_wp2_with fail
      rw [← hw9]
      clear hw9
      exact bodyPost_ret (v := .tuple #[.agg #[.slice ca cn cc, .slice wa wn wc], .int .i64 0]) (by simp [results, Tryd.results14, go_sem, g0, g1]) rfl ⟨⟨ca, cn, cc⟩, ⟨wa, wn, wc⟩, by rw [HEND.out], HFk.out.then HF.out (fun k hk e => by have := HN.out; omega), by rw [HEND.out]; exact HPG.out⟩
end Go.Proofs.YtkmdamljhagogaaDoor
end
section
/- The document's own answer: code of any statements; Make of any functions. -/
set_option maxHeartbeats 0
set_option maxRecDepth 100000
namespace Go.Proofs.YtkmdamljhagogaaDoor
open Go Go.RowKit
theorem rsts_any' (fs : List Fn) : ∀ (n : Nat) (l : List St), stsN l ≤ n → RSts fs l
  | 0, l, hn => rstmts_step fs l fun k t a x y h => by have := stN_mem h; have := stN_pos (St.mk k t a x y); omega
  | n + 1, l, hn => rstmts_step fs l fun k t a x y h => by
    have h1 := stN_mem h
    rw [stN] at h1
    exact ⟨rsts_any' fs n x (by omega), rsts_any' fs n y (by omega)⟩
theorem rsts_any (fs : List Fn) (l : List St) : RSts fs l := rsts_any' fs _ l (Nat.le_refl _)
theorem rmake (l : List Fn) (s : Slc) (rs : List RawF) (w : World) (hS : Sl encG 3 w s.v rs) (hE : Each (FnOk w (fun k => k < w.heap.size)) rs l) (hsb : ∀ b, s.v.ownBlock = some b → b < w.heap.size) (hM : ∀ f ∈ l, FnR l f) (hN : fnsN l ≤ 50000) (h5 : l.length ≤ 5) :
    Calls Tryd.prog 14 #[.slice s.a s.n s.c] w (MkP w (progK l)) := rmake_any l (rsts_any l) s rs w hS hE hsb hM hN h5
end Go.Proofs.YtkmdamljhagogaaDoor
end
section
/- Parse of any text; what a right text is. -/
set_option maxHeartbeats 0
set_option maxRecDepth 100000
namespace Go.Proofs.YtkmdamljhagogaaDoor
open Go Go.RowKit
/-- The functions that a text makes, or what is wrong. -/
def pt (s : Bs) : List Fn × Int := refParse 1502 1502 s
theorem parse_any (s : Bs) (w : World) (hE : Er w) (hT : Tab w) (hs : s.length ≤ 9223372036854775807) : Calls Tryd.prog 7 #[.string (bs s)] w (PPost w (pt s)) := by
  rcases Nat.lt_or_ge 1500 s.length with h | h
  · exact parse_long s 1502 1502 w h hs
  · exact parse_short s 1502 1502 w hE hT h (by omega) (by omega)
/-- Of a right text. -/
theorem pt_fine {s : Bs} (h : (pt s).2 = 0) : (∀ f ∈ (pt s).1, FnSh f) ∧ fnsN (pt s).1 ≤ 1500 ∧ s.length ≤ 1500 := by
  unfold pt refParse at *
  by_cases hl : 1500 < s.length
  · rw [if_pos hl] at h; cases h
  · rw [if_neg hl] at h ⊢
    unfold finP at *
    by_cases hz : (fnsP 1502 1502 s 0).z = 0
    · rw [if_pos hz] at h ⊢
      have := fns_fine 1502 1502 s hz
      exact ⟨this.1, by have := this.2; show fnsN (fnsP 1502 1502 s 0).v ≤ 1500; omega, by omega⟩
    · rw [if_neg hz] at h; exact absurd h hz
theorem each2 {w : World} {P : Nat → Prop} {rs : List RawF} {l : List Fn} (h : Each (FnOk2 w P) rs l) : Each (FnOk w P) rs l ∧ ∀ r ∈ rs, r.p.n ≤ r.p.c := by
  refine ⟨⟨h.1, fun i r x hr hx => (h.2 i r x hr hx).1⟩, fun r hr => ?_⟩
  obtain ⟨i, hi, e⟩ := List.getElem_of_mem hr
  have h1 : rs[i]? = some r := by rw [List.getElem?_eq_getElem hi, e]
  have h2 : l[i]? = some (l[i]'(h.1 ▸ hi)) := List.getElem?_eq_getElem _
  exact (h.2 i r _ h1 h2).2
theorem each_fr {w w' : World} {rs : List RawF} {l : List Fn} (h : Each (FnOk w (fun k => k < w.heap.size)) rs l) (hf : Fr nothing w w') : Each (FnOk w' (fun k => k < w'.heap.size)) rs l :=
  ⟨h.1, fun i r x hr hx => fn_stays _ _ _ _ _ _ _ (h.2 i r x hr hx) hf (fun _ _ => id) (fun _ hk => Nat.lt_of_lt_of_le hk hf.size)⟩
end Go.Proofs.YtkmdamljhagogaaDoor
end
section
/- Kinds of a right text's parts; what a right program gives Make. -/
set_option maxHeartbeats 0
set_option maxRecDepth 100000
namespace Go.Proofs.YtkmdamljhagogaaDoor
open Go Go.RowKit
theorem exsKd_of : ∀ {l : List Ex}, (∀ x ∈ l, exKd x) → exsKd l
  | [], _ => by rw [exsKd]; trivial
  | x :: l, h => by
    rw [exsKd]
    exact ⟨h x (List.mem_cons_self ..), exsKd_of fun y hy => h y (List.mem_cons_of_mem _ hy)⟩
theorem stsKe_of : ∀ {l : List St}, (∀ x ∈ l, stKe x) → stsKe l
  | [], _ => by rw [stsKe]; trivial
  | x :: l, h => by
    rw [stsKe]
    exact ⟨h x (List.mem_cons_self ..), stsKe_of fun y hy => h y (List.mem_cons_of_mem _ hy)⟩
theorem wordE_kd (w : Bs) : exKd (wordE w) := by
  unfold wordE
  split
  · rw [exKd]; exact ⟨by decide, by decide, exsKd_of (fun x hx => by simp at hx)⟩
  · rw [exKd]; exact ⟨by decide, by decide, exsKd_of (fun x hx => by simp at hx)⟩
theorem quoted_kd (t : Bs) (z : Int) : exKd (quoted t z).v := by
  unfold quoted
  split
  · rw [exKd]; exact ⟨by decide, by decide, exsKd_of (fun x hx => by simp at hx)⟩
  · rw [exKd]; exact ⟨by decide, by decide, exsKd_of (fun x hx => by simp at hx)⟩
theorem formOf_kd (w : Bs) : 1 ≤ (formOf w).1 ∧ (formOf w).1 ≤ 11 := by
  unfold formOf
  repeat' split
  all_goals (constructor <;> decide)
theorem formed_kd {args : Reader (List Ex)} (hk : Keeps args) (ha : ∀ l, (args l 0).z = 0 → ∀ x ∈ (args l 0).v, exKd x) {t : Bs} (h : (formed args t 0).z = 0) : exKd (formed args t 0).v := by
  have h1 : (if manyBad (word t 0).v (args (word t 0).l (headZ (word t 0).v (word t 0).z)).v.length then bad (args (word t 0).l (headZ (word t 0).v (word t 0).z)).z 5 else (args (word t 0).l (headZ (word t 0).v (word t 0).z)).z) = 0 := h
  by_cases hm : manyBad (word t 0).v (args (word t 0).l (headZ (word t 0).v (word t 0).z)).v.length = true
  · rw [if_pos hm] at h1; exact absurd h1 (bad_ok (by decide))
  · rw [if_neg hm] at h1
    by_cases hh : headZ (word t 0).v (word t 0).z = 0
    · rw [hh] at h1
      show exKd (headE (word t 0).v (args (word t 0).l (headZ (word t 0).v (word t 0).z)).v)
      rw [hh]
      unfold headE
      rw [exKd]
      exact ⟨(formOf_kd _).1, (formOf_kd _).2, exsKd_of (ha _ h1)⟩
    · rw [hk _ _ hh] at h1; exact absurd h1 hh
theorem expr_kd (N : Nat) : ∀ k l, (expr N k l 0).z = 0 → exKd (expr N k l 0).v
  | 0, l => fun h => absurd h (bad_ne 0 9 (by decide))
  | k + 1, l => by
    unfold expr
    rw [if_pos rfl]
    split
    · intro _; unfold single; dsimp only; exact wordE_kd _
    · split
      · intro _; exact quoted_kd _ _
      · split
        · intro hz; exact formed_kd (until_keeps N) (fun l h => (until_fine (one := expr N k) (Sh := exKd) (c := exN) (fun l h => ⟨expr_kd N k l h, (expr_fine N k l h).2⟩) N l h).1) hz
        · intro _; unfold single; dsimp only; exact wordE_kd _
theorem rest_kd {nest : Reader (List St)} (hk : Keeps nest) (hn : Fine nest (fun v => ∀ x ∈ v, stKe x) (fun v => (v.map stN).sum)) (k : Nat) :
    Fine (restP nest k) (fun v => (∀ s ∈ v.1, stKe s) ∧ (∀ s ∈ v.2, stKe s) ∧ (k ≠ 3 → k ≠ 4 → v.1 = []) ∧ (k ≠ 3 → v.2 = [])) (fun v => (v.1.map stN).sum + (v.2.map stN).sum) := by
  intro l
  unfold restP
  split
  · intro hz
    have hz1 : (must 41 (nest (must 40 (nest (must 40 l 0).l (must 40 l 0).z).l (nest (must 40 l 0).l (must 40 l 0).z).z).l (must 40 (nest (must 40 l 0).l (must 40 l 0).z).l (nest (must 40 l 0).l (must 40 l 0).z).z).z).l (nest (must 40 (nest (must 40 l 0).l (must 40 l 0).z).l (nest (must 40 l 0).l (must 40 l 0).z).z).l (must 40 (nest (must 40 l 0).l (must 40 l 0).z).l (nest (must 40 l 0).l (must 40 l 0).z).z).z).z).z = 0 := hz
    simp only
    have s1 := must_small 40 l 0
    generalize must 40 l 0 = m at hz1 s1 ⊢
    by_cases h1 : ¬ (m.z = 0)
    · rw [hk _ _ h1, must_keeps 40 _ _ h1, hk _ _ h1, must_keeps 41 _ _ h1] at hz1; exact absurd hz1 h1
    replace h1 := Decidable.not_not.1 h1
    rw [h1] at hz1 ⊢
    have f1 := hn m.l
    generalize nest m.l 0 = x at hz1 f1 ⊢
    by_cases h2 : ¬ (x.z = 0)
    · rw [must_keeps 40 _ _ h2, hk _ _ h2, must_keeps 41 _ _ h2] at hz1; exact absurd hz1 h2
    replace h2 := Decidable.not_not.1 h2
    rw [h2] at hz1 ⊢
    have s2 := must_small 40 x.l 0
    generalize must 40 x.l 0 = m2 at hz1 s2 ⊢
    by_cases h3 : ¬ (m2.z = 0)
    · rw [hk _ _ h3, must_keeps 41 _ _ h3] at hz1; exact absurd hz1 h3
    replace h3 := Decidable.not_not.1 h3
    rw [h3] at hz1 ⊢
    have f2 := hn m2.l
    generalize nest m2.l 0 = y at hz1 f2 ⊢
    by_cases h4 : ¬ (y.z = 0)
    · rw [must_keeps 41 _ _ h4] at hz1; exact absurd hz1 h4
    replace h4 := Decidable.not_not.1 h4
    rw [h4]
    have s3 := must_small 41 y.l 0
    obtain ⟨a1, a2⟩ := f1 h2
    obtain ⟨b1, b2⟩ := f2 h4
    rename_i k3
    refine ⟨⟨a1, b1, fun h => absurd k3 h, fun h => absurd k3 h⟩, ?_⟩
    simp only at a2 b2
    omega
  · split
    · rename_i k3 k4
      intro hz
      obtain ⟨a1, a2⟩ := hn l hz
      refine ⟨⟨a1, fun s hs => by simp at hs, fun _ h => absurd k4 h, fun _ => rfl⟩, ?_⟩
      simp only [List.map_nil, List.sum_nil] at a2 ⊢
      omega
    · intro hz
      refine ⟨⟨fun s hs => by simp at hs, fun s hs => by simp at hs, fun _ _ => rfl, fun _ => rfl⟩, ?_⟩
      have := must_small 41 l 0
      simpa using this
theorem parts_kd {e : Reader Ex} {nest : Reader (List St)} (ke : Keeps e) (he : Fine e exKd exN) (hk : Keeps nest) (hn : Fine nest (fun v => ∀ x ∈ v, stKe x) (fun v => (v.map stN).sum)) (k : Nat) (k1 : 1 ≤ k) (k9 : k ≤ 9) {l : Bs} (h : (parts e nest k l 0).z = 0) : stKe (parts e nest k l 0).v ∧ stN (parts e nest k l 0).v + (parts e nest k l 0).l.length ≤ l.length + 1 := by
  have hz : (restP nest k (times e (argsOf k) (optName k l 0).l (optName k l 0).z).l (times e (argsOf k) (optName k l 0).l (optName k l 0).z).z).z = 0 := h
  clear h
  unfold parts
  simp only
  have f1 := optName_fine k l
  generalize optName k l 0 = n at hz f1 ⊢
  by_cases h1 : ¬ (n.z = 0)
  · rw [times_keeps ke _ _ _ h1, rest_keeps hk k _ _ h1] at hz; exact absurd hz h1
  replace h1 := Decidable.not_not.1 h1
  rw [h1] at hz ⊢
  have f2 := times_fine he ke (argsOf k) n.l
  generalize times e (argsOf k) n.l 0 = a at hz f2 ⊢
  by_cases h2 : ¬ (a.z = 0)
  · rw [rest_keeps hk k _ _ h2] at hz; exact absurd hz h2
  replace h2 := Decidable.not_not.1 h2
  rw [h2] at hz ⊢
  have f3 := rest_kd hk hn k a.l
  generalize restP nest k a.l 0 = r at hz f3 ⊢
  obtain ⟨a1, a2⟩ := f1 h1
  obtain ⟨b1, b2⟩ := f2 h2
  obtain ⟨⟨c1, c2, c3, c4⟩, c5⟩ := f3 hz
  refine ⟨by rw [stKe]; exact ⟨by omega, by omega, exsKd_of b1, stsKe_of c1, stsKe_of c2⟩, ?_⟩
  rw [stN, exsN_sum, stsN_sum, stsN_sum]
  simp only at a2 b2 c5
  omega
theorem stmt_kd (N : Nat) : ∀ k, Fine (stmt N k) stKe stN
  | 0, l => fun h => absurd h (bad_ne 0 9 (by decide))
  | k + 1, l => by
    unfold stmt
    rw [if_pos rfl]
    intro h
    have hz : (parts (expr N k) (until_ (stmt N k) N) (kindOf (word (must 40 l 0).l (must 40 l 0).z).v) (word (must 40 l 0).l (must 40 l 0).z).l (if kindOf (word (must 40 l 0).l (must 40 l 0).z).v = 0 then bad (word (must 40 l 0).l (must 40 l 0).z).z 1 else (word (must 40 l 0).l (must 40 l 0).z).z)).z = 0 := h
    unfold stmtP
    simp only
    clear h
    have s1 := must_less 40 l
    generalize must 40 l 0 = m at hz s1 ⊢
    have kp := parts_keeps (expr_keeps N k) (until_keeps (one := stmt N k) N)
    by_cases h1 : ¬ (m.z = 0)
    · have hw := word_keeps m.l _ h1
      have hb : (if kindOf (word m.l m.z).v = 0 then bad (word m.l m.z).z 1 else (word m.l m.z).z) = m.z := by
        rw [hw]
        split
        · exact bad_of h1
        · rfl
      rw [hb, kp _ _ _ h1] at hz
      exact absurd hz h1
    replace h1 := Decidable.not_not.1 h1
    rw [h1] at hz ⊢
    have s2 := word_small m.l 0
    generalize word m.l 0 = w at hz s2 ⊢
    by_cases h2 : ¬ ((if kindOf w.v = 0 then bad w.z 1 else w.z) = 0)
    · rw [kp _ _ _ h2] at hz; exact absurd hz h2
    replace h2 := Decidable.not_not.1 h2
    have hk1 : 1 ≤ kindOf w.v ∧ kindOf w.v ≤ 9 := by
      by_cases h0 : kindOf w.v = 0
      · rw [if_pos h0] at h2; exact absurd h2 (bad_ok (by decide))
      · exact ⟨by omega, kindOf_le _⟩
    rw [h2] at hz ⊢
    obtain ⟨a1, a2⟩ := parts_kd (expr_keeps N k) (fun l h => ⟨expr_kd N k l h, (expr_fine N k l h).2⟩) (until_keeps N) (until_fine (stmt_kd N k) N) _ hk1.1 hk1.2 hz
    have := s1 h1
    exact ⟨a1, by omega⟩
theorem fn_kd (N : Nat) : Fine (fn N) (fun f => stsKe f.b) (fun f => f.p.length + stsN f.b) := by
  intro l h
  have hz : (until_ (stmt N 11) N (until_ name N (must 40 (name (must 40 l 0).l (must 40 l 0).z).l (name (must 40 l 0).l (must 40 l 0).z).z).l (must 40 (name (must 40 l 0).l (must 40 l 0).z).l (name (must 40 l 0).l (must 40 l 0).z).z).z).l (until_ name N (must 40 (name (must 40 l 0).l (must 40 l 0).z).l (name (must 40 l 0).l (must 40 l 0).z).z).l (must 40 (name (must 40 l 0).l (must 40 l 0).z).l (name (must 40 l 0).l (must 40 l 0).z).z).z).z).z = 0 := h
  clear h
  unfold fn
  simp only
  have s1 := must_small 40 l 0
  generalize must 40 l 0 = m at hz s1 ⊢
  have K := until_keeps (one := stmt N 11) N
  have K2 := until_keeps (one := name) N
  by_cases h1 : ¬ (m.z = 0)
  · rw [name_keeps _ _ h1, must_keeps 40 _ _ h1, K2 _ _ h1, K _ _ h1] at hz; exact absurd hz h1
  replace h1 := Decidable.not_not.1 h1
  rw [h1] at hz ⊢
  have f1 := name_fine m.l
  generalize name m.l 0 = t at hz f1 ⊢
  by_cases h2 : ¬ (t.z = 0)
  · rw [must_keeps 40 _ _ h2, K2 _ _ h2, K _ _ h2] at hz; exact absurd hz h2
  replace h2 := Decidable.not_not.1 h2
  rw [h2] at hz ⊢
  have s2 := must_small 40 t.l 0
  generalize must 40 t.l 0 = b at hz s2 ⊢
  by_cases h3 : ¬ (b.z = 0)
  · rw [K2 _ _ h3, K _ _ h3] at hz; exact absurd hz h3
  replace h3 := Decidable.not_not.1 h3
  rw [h3] at hz ⊢
  have f2 := until_fine name_fine N b.l
  generalize until_ name N b.l 0 = p at hz f2 ⊢
  by_cases h4 : ¬ (p.z = 0)
  · rw [K _ _ h4] at hz; exact absurd hz h4
  replace h4 := Decidable.not_not.1 h4
  rw [h4] at hz ⊢
  have f3 := until_fine (stmt_kd N 11) N p.l
  generalize until_ (stmt N 11) N p.l 0 = s at hz f3 ⊢
  obtain ⟨a1, a2⟩ := f1 h2
  obtain ⟨b1, b2⟩ := f2 h4
  obtain ⟨c1, c2⟩ := f3 hz
  refine ⟨stsKe_of c1, ?_⟩
  simp only at a2 b2 c2 ⊢
  rw [stsN_sum]
  have : ∀ l : List Bs, (l.map fun _ => 1).sum = l.length := by
    intro l
    induction l with
    | nil => rfl
    | cons x l ih => simp only [List.map_cons, List.sum_cons, List.length_cons, ih]; omega
  have := this p.v
  omega
theorem fns_kd (N : Nat) : ∀ n, Fine (fnsP N n) (fun v => ∀ f ∈ v, stsKe f.b) fnsN
  | 0, l => fun _ => ⟨fun x hx => by simp [fnsP] at hx, by simp [fnsP, fnsN]⟩
  | n + 1, l => by
    have hs := skip_len l
    unfold fnsP
    rw [if_pos rfl]
    split
    · intro _; exact ⟨fun x hx => by simp at hx, by simp [fnsN]⟩
    · intro hz
      have hz1 : (fnsP N n (fn N (skip l) 0).l (fn N (skip l) 0).z).z = 0 := hz
      clear hz
      simp only
      have f1 := fn_kd N (skip l)
      generalize fn N (skip l) 0 = r at hz1 f1 ⊢
      by_cases h1 : ¬ (r.z = 0)
      · have : (fnsP N n r.l r.z).z = r.z := by
          cases n with
          | zero => rfl
          | succ n => unfold fnsP; rw [if_neg h1]
        rw [this] at hz1; exact absurd hz1 h1
      replace h1 := Decidable.not_not.1 h1
      rw [h1] at hz1 ⊢
      obtain ⟨a1, a2⟩ := f1 h1
      obtain ⟨b1, b2⟩ := fns_kd N n r.l hz1
      refine ⟨fun f hf => ?_, ?_⟩
      · rcases List.mem_cons.1 hf with rfl | hf
        · exact a1
        · exact b1 f hf
      · unfold fnsN at b2 ⊢
        simp only [List.map_cons, List.sum_cons] at a2 b2 ⊢
        omega
theorem heads_4 : ∀ (l : List Fn) (G : Bs → Option Int) (F : Bs → Option Int), headsC l G = (0, F) → ∀ f ∈ l, f.p.length ≤ 4
  | [], _, _, _, f, h => by cases h
  | g :: l, G, F, hh, f, hf => by
    rw [headsC] at hh
    split at hh
    · cases hh
    · split at hh
      · cases hh
      · rcases List.mem_cons.1 hf with rfl | h
        · omega
        · exact heads_4 l _ F hh f h
theorem pt_kd {s : Bs} (h : (pt s).2 = 0) : ∀ f ∈ (pt s).1, stsKe f.b := by
  unfold pt refParse at *
  by_cases hl : 1500 < s.length
  · rw [if_pos hl] at h; cases h
  · rw [if_neg hl] at h ⊢
    unfold finP at *
    by_cases hz : (fnsP 1502 1502 s 0).z = 0
    · rw [if_pos hz] at h ⊢
      exact (fns_kd 1502 1502 s hz).1
    · rw [if_neg hz] at h; exact absurd h hz
mutual
theorem stKd_of : ∀ {s : St}, stKe s → stKd s
  | .mk k t a x y, h => by
    rw [stKe] at h
    rw [stKd]
    exact ⟨h.1, h.2.1, stsKd_of h.2.2.2.1, stsKd_of h.2.2.2.2⟩
theorem stsKd_of : ∀ {l : List St}, stsKe l → stsKd l
  | [], _ => by rw [stsKd]; trivial
  | s :: l, h => by
    rw [stsKe] at h
    rw [stsKd]
    exact ⟨stKd_of h.1, stsKd_of h.2⟩
end
/- Names that are used, weakened. -/
mutual
theorem exU_mono {H K : Bs → Nat → Prop} (hk : ∀ t n, H t n → K t n) {nm : List Bs} : ∀ {x : Ex}, exU H nm x → exU K nm x
  | .mk k n t a, h => by
    rw [exU] at h ⊢
    exact ⟨h.1, fun e => hk _ _ (h.2.1 e), exsU_mono hk h.2.2⟩
theorem exsU_mono {H K : Bs → Nat → Prop} (hk : ∀ t n, H t n → K t n) {nm : List Bs} : ∀ {l : List Ex}, exsU H nm l → exsU K nm l
  | [], _ => by rw [exsU]; trivial
  | x :: l, h => by
    rw [exsU] at h ⊢
    exact ⟨exU_mono hk h.1, exsU_mono hk h.2⟩
end
mutual
theorem stU_mono {H K : Bs → Nat → Prop} (hk : ∀ t n, H t n → K t n) : ∀ {s : St} {nm : List Bs}, stU H s nm → stU K s nm
  | .mk k t a x y, nm, h => by
    rw [stU] at h ⊢
    exact ⟨exsU_mono hk h.1, h.2.1, h.2.2.1, stsU_mono hk h.2.2.2.1, stsU_mono hk h.2.2.2.2⟩
theorem stsU_mono {H K : Bs → Nat → Prop} (hk : ∀ t n, H t n → K t n) : ∀ {l : List St} {nm : List Bs}, stsU H l nm → stsU K l nm
  | [], nm, _ => by rw [stsU]; trivial
  | .mk k t a x y :: l, nm, h => by
    rw [stsU] at h ⊢
    exact ⟨stU_mono hk h.1, stsU_mono hk h.2⟩
end
theorem heads_has : ∀ (l : List Fn) (G F : Bs → Option Int), headsC l G = (0, F) → ∀ t, (F t).isSome = true → (G t).isSome = true ∨ ∃ f ∈ l, f.t = t
  | [], G, F, h, t, ht => by
    rw [headsC] at h
    obtain rfl : G = F := by simpa using h
    exact .inl ht
  | g :: l, G, F, h, t, ht => by
    rw [headsC] at h
    split at h
    · cases h
    · split at h
      · cases h
      · rcases heads_has l _ F h t ht with e | ⟨f, hf, e⟩
        · by_cases hx : t = g.t
          · exact .inr ⟨g, List.mem_cons_self .., hx.symm⟩
          · simp only [if_neg hx] at e; exact .inl e
        · exact .inr ⟨f, List.mem_cons_of_mem _ hf, e⟩
theorem bodies_u (F : Bs → Option Int) : ∀ (l : List Fn) (W : WS), (bodiesC F l W).e = 0 → ∀ f ∈ l, stsU (HasF F) f.b f.p
  | [], _, _, f, hf => by cases hf
  | g :: l, W, h, f, hf => by
    rw [bodiesC] at h
    simp only [EW.or] at h
    split at h
    · rename_i h1
      rcases List.mem_cons.1 hf with rfl | hf
      · exact stsU_of F _ _ _ _ h1
      · exact bodies_u F l _ h f hf
    · rename_i h1; exact absurd h h1
/-- What a right program gives. -/
structure Right (l : List Fn) : Prop where
  n : l.length ≤ 5
  n0 : l.length ≠ 0
  p0 : firstP l = 0
  p : ∀ f ∈ l, f.p.length ≤ 4
  u : ∃ F, headsC l (fun _ => none) = (0, F) ∧ (bodiesC F l WS.empty).e = 0
theorem right_of {l : List Fn} (h : checkC l = 0) : Right l := by
  unfold checkC at h
  by_cases h1 : l.length = 0 ∨ 5 < l.length
  · rw [if_pos h1] at h; cases h
  rw [if_neg h1] at h
  by_cases h2 : (headsC l (fun _ => none)).1 ≠ 0
  · rw [if_pos h2] at h; exact absurd h h2
  rw [if_neg h2] at h
  by_cases h3 : firstP l ≠ 0
  · rw [if_pos h3] at h; cases h
  rw [if_neg h3] at h
  by_cases h4 : (bodiesC (headsC l (fun _ => none)).2 l WS.empty).e ≠ 0
  · rw [if_pos h4] at h; exact absurd h h4
  have e : headsC l (fun _ => none) = (0, (headsC l (fun _ => none)).2) := by
    have : (headsC l (fun _ => none)).1 = 0 := by simpa using h2
    rw [← this]
  exact ⟨by omega, by omega, by simpa using h3, heads_4 l _ _ e, _, e, by simpa using h4⟩
theorem fnR_of {l : List Fn} (h : Right l) (hs : ∀ f ∈ l, FnSh f) (hk : ∀ f ∈ l, stsKe f.b) : ∀ f ∈ l, FnR l f := fun f hf => by
  obtain ⟨F, h1, h2⟩ := h.u
  refine ⟨hs f hf, hk f hf, stsU_mono (fun t n e => ?_) (bodies_u F l _ h2 f hf), h.p f hf⟩
  rcases heads_has l _ F h1 t (by rw [show F t = _ from e]; rfl) with e | e
  · cases e
  · exact e
theorem fnM_of {l : List Fn} (h : Right l) (hs : ∀ f ∈ l, FnSh f) (hk : ∀ f ∈ l, stsKe f.b) : ∀ f ∈ l, FnM f := fun f hf => by
  obtain ⟨F, h1, h2⟩ := h.u
  exact ⟨hs f hf, stsKd_of (hk f hf), stsU_mono (fun _ _ _ => trivial) (bodies_u F l _ h2 f hf), h.p f hf⟩
end Go.Proofs.YtkmdamljhagogaaDoor
end
