/- The document's own look at an expression. -/
import Derived.Test.YtkmdamljhagogaaDoorElem
namespace Go.Proofs.YtkmdamljhagogaaDoor
open Go.RowKit

def CEx (x : Ex) : Prop := ∀ (cb fb wb : Nat) (F : AMap) (v : Int) (nm : List Bs) (s : Slc) (W : WS) (r : RawE) (w : World), CI cb fb wb F v W w → ExOk w (fun k => k ≠ wb) r x → Sl encN 1 w s.v nm → (∀ b, s.v.ownBlock = some b → b ≠ wb) → W.n + exN x ≤ 100000 →
  Calls Tryd.prog 40 #[.pointer (some ⟨cb, 0, none⟩), ev r, .slice s.a s.n s.c] w fun e w' => e = .returned (.int .i64 (exC F.f nm x W).e) ∧ Fr (fun k => k = wb) w w' ∧ ((exC F.f nm x W).e = 0 → CI cb fb wb F v (exC F.f nm x W).W w')
theorem exC_mk (F : Bs → Option Int) (nm : List Bs) (k n : Int) (t : Bs) (a : List Ex) (W : WS) : exC F nm (.mk k n t a) W = EW.or ⟨exE F nm k t a.length, exW k t W⟩ (exsC F nm a) := by rw [exC]
theorem exsC_cons (F : Bs → Option Int) (nm : List Bs) (x : Ex) (l : List Ex) (W : WS) : exsC F nm (x :: l) W = (exC F nm x W).or (exsC F nm l) := by rw [exsC]
theorem exsC_nil (F : Bs → Option Int) (nm : List Bs) (W : WS) : exsC F nm [] W = ⟨0, W⟩ := by rw [exsC]
theorem or_bad {r : EW} {g : WS → EW} (h : r.e ≠ 0) : r.or g = r := by simp [EW.or, h]
theorem or_ok {r : EW} {g : WS → EW} (h : r.e = 0) : r.or g = g r.W := by simp [EW.or, h]
set_option maxHeartbeats 1000000 in
set_option maxRecDepth 20000 in
theorem cexpr_noname (k n : Int) (t : Bs) (a : List Ex) (cb fb wb : Nat) (F : AMap) (v : Int) (nm : List Bs) (s : Slc) (W : WS) (sl : Slc) (rs : List RawE) (w : World) (h : CI cb fb wb F v W w) (hs1 : Sl encE 4 w sl.v rs) (hP1 : ∀ b, sl.v.ownBlock = some b → b ≠ wb) (hl1 : rs.length = a.length)
    (_he1 : ∀ (i : Nat) (r : RawE) (x : Ex), rs[i]? = some r → a[i]? = some x → ExOk w (fun k => k ≠ wb) r x) (hs : Sl encN 1 w s.v nm) (hsb : ∀ b, s.v.ownBlock = some b → b ≠ wb) (ht : t.length ≤ 1500) (_hW : W.n + exN (.mk k n t a) ≤ 100000) (_ih : ∀ x ∈ a, CEx x) (hk : k = 3) (hc : nm.contains t = false) :
    Calls Tryd.prog 40 #[.pointer (some ⟨cb, 0, none⟩), ev ⟨k, n, t, sl⟩, .slice s.a s.n s.c] w fun e w' => e = .returned (.int .i64 6) ∧ Fr (fun k => k = wb) w w' := by
  have hF0 : Fr nothing w (w.alloc (eo ⟨k, n, t, sl⟩)) := (Fr.refl _ w).alloc _
  have hC0 := h.fr hF0 id id id
  have hS0 := hs.fr hF0 (fun _ _ => id)
  have hlk := hC0.fm.look2 t (by omega)
  have hlk2 : (Instr.lookup 55 (.map (some fb)) (.string (bs t)) true).run Tryd.prog (w.alloc (eo ⟨k, n, t, sl⟩)).drew = .ok (.tuple #[.int .i64 ((F.f t).getD 0), .bool (F.f t).isSome]) (w.alloc (eo ⟨k, n, t, sl⟩)).drew := (hC0.fr (S := nothing) (Fr.refl nothing _).drew id id id).fm.look2 t (by omega)
  have hb := (made_cells (Fr.refl nothing (w.alloc (eo ⟨k, n, t, sl⟩))) id)
  have b0 : (w.alloc (eo ⟨k, n, t, sl⟩)).cell? ⟨w.heap.size, 0, none⟩ = some (.int .i64 k) := hb.1 0
  have b2 : (w.alloc (eo ⟨k, n, t, sl⟩)).cell? ⟨w.heap.size, 2, none⟩ = some (.string (bs t)) := hb.1 2
  have b3 : (w.alloc (eo ⟨k, n, t, sl⟩)).cell? ⟨w.heap.size, 3, none⟩ = some (.slice sl.a sl.n sl.c) := hb.1 3
  have hbl := hb.2.2
  have d0 := hC0.c0
  have d2 := hC0.c2
  have dl := hC0.lt
  obtain ⟨hln, hlm⟩ := sl_len hs1
  have HC0 := hide hC0
  have HC := hide h
  have HF0 := hide hF0
  have HSN := hide hs
  have HHAS := hide (fun w' (hf : Fr (fun k => k = wb) w w') => has_any s nm t w' (hs.keep hf hsb (fun k hk e => hk e)))
  have hnc := h.lt
  have p3 : (k == 3) = true := by simpa using hk
  have q2 : ¬ k = 2 := by omega
  have p2 : (k == 2) = false := by simpa using q2
  clear hk
  rw [hc] at HHAS
  clear h hF0 hC0 hS0 hb hs hlk
  generalize hwa : w.alloc (eo ⟨k, n, t, sl⟩) = wa at *
  obtain ⟨la, lb, lc⟩ := sl
  simp only at hln b3
  rw [hl1] at hln
  subst hln
  go_enter Tryd.func40, Tryd.ntmps40
  go_wp2_with fail
  go_region
  all_goals go_wp2_with (go_at_call 27; refine (HHAS.out _ (HF0.out.mono (fun _ _ e => e.elim)).drew).mono ?_; rintro e w4 ⟨rfl, rfl⟩)
  all_goals go_ret
  all_goals exact ⟨rfl, (HF0.out.mono (fun _ _ e => e.elim)).drew⟩
set_option maxHeartbeats 1000000 in
set_option maxRecDepth 20000 in
theorem cexpr_nofn (k n : Int) (t : Bs) (a : List Ex) (cb fb wb : Nat) (F : AMap) (v : Int) (nm : List Bs) (s : Slc) (W : WS) (sl : Slc) (rs : List RawE) (w : World) (h : CI cb fb wb F v W w) (hs1 : Sl encE 4 w sl.v rs) (hP1 : ∀ b, sl.v.ownBlock = some b → b ≠ wb) (hl1 : rs.length = a.length)
    (_he1 : ∀ (i : Nat) (r : RawE) (x : Ex), rs[i]? = some r → a[i]? = some x → ExOk w (fun k => k ≠ wb) r x) (hs : Sl encN 1 w s.v nm) (hsb : ∀ b, s.v.ownBlock = some b → b ≠ wb) (ht : t.length ≤ 1500) (_hW : W.n + exN (.mk k n t a) ≤ 100000) (_ih : ∀ x ∈ a, CEx x) (hk : k = 11) (hc : F.f t = none) :
    Calls Tryd.prog 40 #[.pointer (some ⟨cb, 0, none⟩), ev ⟨k, n, t, sl⟩, .slice s.a s.n s.c] w fun e w' => e = .returned (.int .i64 6) ∧ Fr (fun k => k = wb) w w' := by
  have hF0 : Fr nothing w (w.alloc (eo ⟨k, n, t, sl⟩)) := (Fr.refl _ w).alloc _
  have hC0 := h.fr hF0 id id id
  have hS0 := hs.fr hF0 (fun _ _ => id)
  have hlk := hC0.fm.look2 t (by omega)
  have hlk2 : (Instr.lookup 55 (.map (some fb)) (.string (bs t)) true).run Tryd.prog (w.alloc (eo ⟨k, n, t, sl⟩)).drew = .ok (.tuple #[.int .i64 ((F.f t).getD 0), .bool (F.f t).isSome]) (w.alloc (eo ⟨k, n, t, sl⟩)).drew := (hC0.fr (S := nothing) (Fr.refl nothing _).drew id id id).fm.look2 t (by omega)
  have hb := (made_cells (Fr.refl nothing (w.alloc (eo ⟨k, n, t, sl⟩))) id)
  have b0 : (w.alloc (eo ⟨k, n, t, sl⟩)).cell? ⟨w.heap.size, 0, none⟩ = some (.int .i64 k) := hb.1 0
  have b2 : (w.alloc (eo ⟨k, n, t, sl⟩)).cell? ⟨w.heap.size, 2, none⟩ = some (.string (bs t)) := hb.1 2
  have b3 : (w.alloc (eo ⟨k, n, t, sl⟩)).cell? ⟨w.heap.size, 3, none⟩ = some (.slice sl.a sl.n sl.c) := hb.1 3
  have hbl := hb.2.2
  have d0 := hC0.c0
  have d2 := hC0.c2
  have dl := hC0.lt
  obtain ⟨hln, hlm⟩ := sl_len hs1
  have HC0 := hide hC0
  have HC := hide h
  have HF0 := hide hF0
  have HSN := hide hs
  have HHAS := hide (fun w' (hf : Fr (fun k => k = wb) w w') => has_any s nm t w' (hs.keep hf hsb (fun k hk e => hk e)))
  have hnc := h.lt
  have p11 : (k == 11) = true := by simpa using hk
  have q2 : ¬ k = 2 := by omega
  have p2 : (k == 2) = false := by simpa using q2
  have q3 : ¬ k = 3 := by omega
  have p3 : (k == 3) = false := by simpa using q3
  clear hk
  rw [hc] at hlk2
  clear h hF0 hC0 hS0 hb hs hlk
  generalize hwa : w.alloc (eo ⟨k, n, t, sl⟩) = wa at *
  obtain ⟨la, lb, lc⟩ := sl
  simp only at hln b3
  rw [hl1] at hln
  subst hln
  go_enter Tryd.func40, Tryd.ntmps40
  go_wp2_with fail
  go_region
  all_goals go_wp2_with (go_at_call 27; refine (HHAS.out _ (HF0.out.mono (fun _ _ e => e.elim)).drew).mono ?_; rintro e w4 ⟨rfl, rfl⟩)
  all_goals go_ret
  all_goals exact ⟨rfl, (HF0.out.mono (fun _ _ e => e.elim)).drew⟩
set_option maxHeartbeats 1000000 in
set_option maxRecDepth 20000 in
theorem cexpr_many (k n : Int) (t : Bs) (a : List Ex) (cb fb wb : Nat) (F : AMap) (v : Int) (nm : List Bs) (s : Slc) (W : WS) (sl : Slc) (rs : List RawE) (w : World) (h : CI cb fb wb F v W w) (hs1 : Sl encE 4 w sl.v rs) (hP1 : ∀ b, sl.v.ownBlock = some b → b ≠ wb) (hl1 : rs.length = a.length)
    (_he1 : ∀ (i : Nat) (r : RawE) (x : Ex), rs[i]? = some r → a[i]? = some x → ExOk w (fun k => k ≠ wb) r x) (hs : Sl encN 1 w s.v nm) (hsb : ∀ b, s.v.ownBlock = some b → b ≠ wb) (ht : t.length ≤ 1500) (_hW : W.n + exN (.mk k n t a) ≤ 100000) (_ih : ∀ x ∈ a, CEx x) (hk : k = 11) {m : Int} (hc : F.f t = some m) (hm : m ≠ a.length) :
    Calls Tryd.prog 40 #[.pointer (some ⟨cb, 0, none⟩), ev ⟨k, n, t, sl⟩, .slice s.a s.n s.c] w fun e w' => e = .returned (.int .i64 5) ∧ Fr (fun k => k = wb) w w' := by
  have hF0 : Fr nothing w (w.alloc (eo ⟨k, n, t, sl⟩)) := (Fr.refl _ w).alloc _
  have hC0 := h.fr hF0 id id id
  have hS0 := hs.fr hF0 (fun _ _ => id)
  have hlk := hC0.fm.look2 t (by omega)
  have hlk2 : (Instr.lookup 55 (.map (some fb)) (.string (bs t)) true).run Tryd.prog (w.alloc (eo ⟨k, n, t, sl⟩)).drew = .ok (.tuple #[.int .i64 ((F.f t).getD 0), .bool (F.f t).isSome]) (w.alloc (eo ⟨k, n, t, sl⟩)).drew := (hC0.fr (S := nothing) (Fr.refl nothing _).drew id id id).fm.look2 t (by omega)
  have hb := (made_cells (Fr.refl nothing (w.alloc (eo ⟨k, n, t, sl⟩))) id)
  have b0 : (w.alloc (eo ⟨k, n, t, sl⟩)).cell? ⟨w.heap.size, 0, none⟩ = some (.int .i64 k) := hb.1 0
  have b2 : (w.alloc (eo ⟨k, n, t, sl⟩)).cell? ⟨w.heap.size, 2, none⟩ = some (.string (bs t)) := hb.1 2
  have b3 : (w.alloc (eo ⟨k, n, t, sl⟩)).cell? ⟨w.heap.size, 3, none⟩ = some (.slice sl.a sl.n sl.c) := hb.1 3
  have hbl := hb.2.2
  have d0 := hC0.c0
  have d2 := hC0.c2
  have dl := hC0.lt
  obtain ⟨hln, hlm⟩ := sl_len hs1
  have HC0 := hide hC0
  have HC := hide h
  have HF0 := hide hF0
  have HSN := hide hs
  have HHAS := hide (fun w' (hf : Fr (fun k => k = wb) w w') => has_any s nm t w' (hs.keep hf hsb (fun k hk e => hk e)))
  have hnc := h.lt
  have p11 : (k == 11) = true := by simpa using hk
  have q2 : ¬ k = 2 := by omega
  have p2 : (k == 2) = false := by simpa using q2
  have q3 : ¬ k = 3 := by omega
  have p3 : (k == 3) = false := by simpa using q3
  clear hk
  rw [hc] at hlk2
  have m1 : ¬ m = (a.length : Int) := hm
  have m2 := ne_bne m1
  clear h hF0 hC0 hS0 hb hs hlk
  generalize hwa : w.alloc (eo ⟨k, n, t, sl⟩) = wa at *
  obtain ⟨la, lb, lc⟩ := sl
  simp only at hln b3
  rw [hl1] at hln
  subst hln
  go_enter Tryd.func40, Tryd.ntmps40
  go_wp2_with fail
  go_region
  all_goals go_wp2_with (go_at_call 27; refine (HHAS.out _ (HF0.out.mono (fun _ _ e => e.elim)).drew).mono ?_; rintro e w4 ⟨rfl, rfl⟩)
  all_goals go_ret
  all_goals exact ⟨rfl, (HF0.out.mono (fun _ _ e => e.elim)).drew⟩
set_option maxHeartbeats 1000000 in
set_option maxRecDepth 20000 in
theorem cexpr_name (k n : Int) (t : Bs) (a : List Ex) (cb fb wb : Nat) (F : AMap) (v : Int) (nm : List Bs) (s : Slc) (W : WS) (sl : Slc) (rs : List RawE) (w : World) (h : CI cb fb wb F v W w) (hs1 : Sl encE 4 w sl.v rs) (hP1 : ∀ b, sl.v.ownBlock = some b → b ≠ wb) (hl1 : rs.length = a.length)
    (he1 : ∀ (i : Nat) (r : RawE) (x : Ex), rs[i]? = some r → a[i]? = some x → ExOk w (fun k => k ≠ wb) r x) (hs : Sl encN 1 w s.v nm) (hsb : ∀ b, s.v.ownBlock = some b → b ≠ wb) (ht : t.length ≤ 1500) (hW : W.n + exN (.mk k n t a) ≤ 100000) (ih : ∀ x ∈ a, CEx x) (hk : k = 3) (hc : nm.contains t = true) :
    Calls Tryd.prog 40 #[.pointer (some ⟨cb, 0, none⟩), ev ⟨k, n, t, sl⟩, .slice s.a s.n s.c] w fun e w' => e = .returned (.int .i64 (exsC F.f nm a W).e) ∧ Fr (fun k => k = wb) w w' ∧ ((exsC F.f nm a W).e = 0 → CI cb fb wb F v (exsC F.f nm a W).W w') := by
  have hF0 : Fr nothing w (w.alloc (eo ⟨k, n, t, sl⟩)) := (Fr.refl _ w).alloc _
  have hC0 := h.fr hF0 id id id
  have hS0 := hs.fr hF0 (fun _ _ => id)
  have hlk := hC0.fm.look2 t (by omega)
  have hlk2 : (Instr.lookup 55 (.map (some fb)) (.string (bs t)) true).run Tryd.prog (w.alloc (eo ⟨k, n, t, sl⟩)).drew = .ok (.tuple #[.int .i64 ((F.f t).getD 0), .bool (F.f t).isSome]) (w.alloc (eo ⟨k, n, t, sl⟩)).drew := (hC0.fr (S := nothing) (Fr.refl nothing _).drew id id id).fm.look2 t (by omega)
  have hb := (made_cells (Fr.refl nothing (w.alloc (eo ⟨k, n, t, sl⟩))) id)
  have b0 : (w.alloc (eo ⟨k, n, t, sl⟩)).cell? ⟨w.heap.size, 0, none⟩ = some (.int .i64 k) := hb.1 0
  have b2 : (w.alloc (eo ⟨k, n, t, sl⟩)).cell? ⟨w.heap.size, 2, none⟩ = some (.string (bs t)) := hb.1 2
  have b3 : (w.alloc (eo ⟨k, n, t, sl⟩)).cell? ⟨w.heap.size, 3, none⟩ = some (.slice sl.a sl.n sl.c) := hb.1 3
  have hbl := hb.2.2
  have d0 := hC0.c0
  have d2 := hC0.c2
  have dl := hC0.lt
  obtain ⟨hln, hlm⟩ := sl_len hs1
  have HC0 := hide hC0
  have HC := hide h
  have HF0 := hide hF0
  have HSN := hide hs
  have HHAS := hide (fun w' (hf : Fr (fun k => k = wb) w w') => has_any s nm t w' (hs.keep hf hsb (fun k hk e => hk e)))
  have hnc := h.lt
  have p3 : (k == 3) = true := by simpa using hk
  have q2 : ¬ k = 2 := by omega
  have p2 : (k == 2) = false := by simpa using q2
  have q11 : ¬ k = 11 := by omega
  have p11 : (k == 11) = false := by simpa using q11
  clear hk
  rw [hc] at HHAS
  have HWL : Hid (W.n + exsN a ≤ 100000) := by show _ ≤ _; rw [exN] at hW; omega
  clear h hF0 hC0 hS0 hb hs hlk
  generalize hwa : w.alloc (eo ⟨k, n, t, sl⟩) = wa at *
  obtain ⟨la, lb, lc⟩ := sl
  simp only at hln b3
  rw [hl1] at hln
  subst hln
  go_enter Tryd.func40, Tryd.ntmps40
  go_wp2_with fail
  go_region
  go_wp2_with (go_at_call 27; refine (HHAS.out _ (HF0.out.mono (fun _ _ e => e.elim)).drew).mono ?_; rintro e w4 ⟨rfl, rfl⟩)
  have HFL : Hid (Fr (fun k => k = wb) w wa.drew) := (HF0.out.mono (fun _ _ e => e.elim)).drew
  have HCL : Hid (CI cb fb wb F v W wa.drew) := HC0.out.fr (S := nothing) (Fr.refl nothing wa).drew id id id
  generalize hwl : wa.drew = wl at *
  clear hwl
  go_loopw [64, 10, 11] (fun i _ _ wr => ∃ (j : Nat) (Wj : WS), j ≤ a.length ∧ i = .int .i64 j ∧ Hid (CI cb fb wb F v Wj wr ∧ Fr (fun k => k = wb) w wr ∧ exsC F.f nm a W = exsC F.f nm (a.drop j) Wj ∧ Wj.n + exsN (a.drop j) ≤ 100000)) (fun i _ _ _ => a.length - (intOf i).toNat)
  case atStart => exact ⟨0, W, Nat.zero_le _, rfl, HCL.out, HFL.out, rfl, HWL.out⟩
  case round =>
    obtain ⟨j, Wj, hj, rfl, hR⟩ := hrel
    by_cases hjl : j < a.length
    · have hx : a[j]? = some a[j] := List.getElem?_eq_getElem hjl
      have hr : rs[j]? = some (rs[j]'(by omega)) := List.getElem?_eq_getElem _
      have hxm : a[j] ∈ a := List.getElem_mem hjl
      have hdr : a.drop j = a[j] :: a.drop (j + 1) := List.drop_eq_getElem_cons hjl
      generalize rs[j]'(by omega) = r at hr
      generalize a[j] = x at hx hxm hdr
      have hok := he1 j r x hr hx
      obtain ⟨g, o, hg, -, dg, p0, p1, p2, p3⟩ := sl_elem4 (s := ⟨la, a.length, lc⟩) hs1 hr
      simp only at hg
      subst hg
      have hgw : g ≠ wb := hP1 g rfl
      rw [← hR.out.2.1.cell (p := ⟨g, _, none⟩) dg hgw] at p0 p1 p2 p3
      have eg : g < wr.heap.size := Nat.lt_of_lt_of_le dg hR.out.2.1.size
      have hexs := hR.out.2.2.1
      rw [hdr, exsC_cons] at hexs
      have hcost : Wj.n + exN x + exsN (a.drop (j + 1)) ≤ 100000 := by
        have := hR.out.2.2.2
        rw [hdr, exsN] at this
        omega
      have hFA : Fr (fun k => k = wb) w (wr.alloc (eo r)) := hR.out.2.1.alloc _
      have HIH := hide (ih x hxm cb fb wb F v nm s Wj r (wr.alloc (eo r)) (hR.out.1.fr (S := nothing) ((Fr.refl nothing wr).alloc _) id id id) (ex_stays _ _ _ _ _ _ _ hok hFA (fun k hk e => hk e) (fun _ hk => hk)) (HSN.out.keep hFA hsb (fun k hk e => hk e)) hsb (by omega))
      have hle := exC_le F.f nm x Wj
      generalize hq : exC F.f nm x Wj = q at HIH hexs hle
      have HEX := hide hexs
      have HFA := hide hFA
      clear hok hexs hFA hq hr hx
      obtain ⟨qe, qW⟩ := q
      simp only at HIH hle
      by_cases hq0 : qe = 0
      · subst hq0
        have HEX2 : Hid (exsC F.f nm a W = exsC F.f nm (a.drop (j + 1)) qW) := by
          show exsC F.f nm a W = _
          rw [HEX.out]; rfl
        go_wp2_with (go_at_call 40; refine HIH.out.mono ?_; rintro e w7 ⟨rfl, hf, hc⟩; have HC7 := hide (hc rfl); have HF7 := hide (HFA.out.trans hf); clear hf hc)
        go_roundw
        case rel => exact ⟨j + 1, qW, by omega, by go_num, HC7.out, HF7.out, HEX2.out, by omega⟩
        case measure => simp [intOf]; omega
      · have hq1 : (qe == 0) = false := by simpa using hq0
        have hq2 := ne_bne hq0
        have HEX2 : Hid (exsC F.f nm a W = ⟨qe, qW⟩) := by
          show exsC F.f nm a W = _
          rw [HEX.out]; exact or_bad hq0
        go_wp2_with (go_at_call 40; refine HIH.out.mono ?_; rintro e w7 ⟨rfl, hf, hc⟩; have HF7 := hide (HFA.out.trans hf); clear hf hc)
        go_ret
        rw [HEX2.out]
        exact ⟨rfl, HF7.out, fun e => absurd e hq0⟩
    · have hja : j = a.length := by omega
      have HEX2 : Hid (exsC F.f nm a W = ⟨0, Wj⟩) := by
        show exsC F.f nm a W = _
        rw [hR.out.2.2.1, hja, List.drop_length, exsC_nil]
      clear hja
      go_wp2
      go_ret
      rw [HEX2.out]
      exact ⟨rfl, hR.out.2.1, fun _ => hR.out.1⟩
set_option maxHeartbeats 1000000 in
set_option maxRecDepth 20000 in
theorem cexpr_call (k n : Int) (t : Bs) (a : List Ex) (cb fb wb : Nat) (F : AMap) (v : Int) (nm : List Bs) (s : Slc) (W : WS) (sl : Slc) (rs : List RawE) (w : World) (h : CI cb fb wb F v W w) (hs1 : Sl encE 4 w sl.v rs) (hP1 : ∀ b, sl.v.ownBlock = some b → b ≠ wb) (hl1 : rs.length = a.length)
    (he1 : ∀ (i : Nat) (r : RawE) (x : Ex), rs[i]? = some r → a[i]? = some x → ExOk w (fun k => k ≠ wb) r x) (hs : Sl encN 1 w s.v nm) (hsb : ∀ b, s.v.ownBlock = some b → b ≠ wb) (ht : t.length ≤ 1500) (hW : W.n + exN (.mk k n t a) ≤ 100000) (ih : ∀ x ∈ a, CEx x) (hk : k = 11) (hc : F.f t = some (a.length : Int)) :
    Calls Tryd.prog 40 #[.pointer (some ⟨cb, 0, none⟩), ev ⟨k, n, t, sl⟩, .slice s.a s.n s.c] w fun e w' => e = .returned (.int .i64 (exsC F.f nm a W).e) ∧ Fr (fun k => k = wb) w w' ∧ ((exsC F.f nm a W).e = 0 → CI cb fb wb F v (exsC F.f nm a W).W w') := by
  have hF0 : Fr nothing w (w.alloc (eo ⟨k, n, t, sl⟩)) := (Fr.refl _ w).alloc _
  have hC0 := h.fr hF0 id id id
  have hS0 := hs.fr hF0 (fun _ _ => id)
  have hlk := hC0.fm.look2 t (by omega)
  have hlk2 : (Instr.lookup 55 (.map (some fb)) (.string (bs t)) true).run Tryd.prog (w.alloc (eo ⟨k, n, t, sl⟩)).drew = .ok (.tuple #[.int .i64 ((F.f t).getD 0), .bool (F.f t).isSome]) (w.alloc (eo ⟨k, n, t, sl⟩)).drew := (hC0.fr (S := nothing) (Fr.refl nothing _).drew id id id).fm.look2 t (by omega)
  have hb := (made_cells (Fr.refl nothing (w.alloc (eo ⟨k, n, t, sl⟩))) id)
  have b0 : (w.alloc (eo ⟨k, n, t, sl⟩)).cell? ⟨w.heap.size, 0, none⟩ = some (.int .i64 k) := hb.1 0
  have b2 : (w.alloc (eo ⟨k, n, t, sl⟩)).cell? ⟨w.heap.size, 2, none⟩ = some (.string (bs t)) := hb.1 2
  have b3 : (w.alloc (eo ⟨k, n, t, sl⟩)).cell? ⟨w.heap.size, 3, none⟩ = some (.slice sl.a sl.n sl.c) := hb.1 3
  have hbl := hb.2.2
  have d0 := hC0.c0
  have d2 := hC0.c2
  have dl := hC0.lt
  obtain ⟨hln, hlm⟩ := sl_len hs1
  have HC0 := hide hC0
  have HC := hide h
  have HF0 := hide hF0
  have HSN := hide hs
  have HHAS := hide (fun w' (hf : Fr (fun k => k = wb) w w') => has_any s nm t w' (hs.keep hf hsb (fun k hk e => hk e)))
  have hnc := h.lt
  have p11 : (k == 11) = true := by simpa using hk
  have q2 : ¬ k = 2 := by omega
  have p2 : (k == 2) = false := by simpa using q2
  have q3 : ¬ k = 3 := by omega
  have p3 : (k == 3) = false := by simpa using q3
  clear hk
  rw [hc] at hlk2
  have HWL : Hid (W.n + exsN a ≤ 100000) := by show _ ≤ _; rw [exN] at hW; omega
  clear h hF0 hC0 hS0 hb hs hlk
  generalize hwa : w.alloc (eo ⟨k, n, t, sl⟩) = wa at *
  obtain ⟨la, lb, lc⟩ := sl
  simp only at hln b3
  rw [hl1] at hln
  subst hln
  go_enter Tryd.func40, Tryd.ntmps40
  go_wp2_with fail
  go_region
  go_wp2_with (go_at_call 27; refine (HHAS.out _ (HF0.out.mono (fun _ _ e => e.elim)).drew).mono ?_; rintro e w4 ⟨rfl, rfl⟩)
  have HFL : Hid (Fr (fun k => k = wb) w wa.drew) := (HF0.out.mono (fun _ _ e => e.elim)).drew
  have HCL : Hid (CI cb fb wb F v W wa.drew) := HC0.out.fr (S := nothing) (Fr.refl nothing wa).drew id id id
  generalize hwl : wa.drew = wl at *
  clear hwl
  go_loopw [64, 10, 11] (fun i _ _ wr => ∃ (j : Nat) (Wj : WS), j ≤ a.length ∧ i = .int .i64 j ∧ Hid (CI cb fb wb F v Wj wr ∧ Fr (fun k => k = wb) w wr ∧ exsC F.f nm a W = exsC F.f nm (a.drop j) Wj ∧ Wj.n + exsN (a.drop j) ≤ 100000)) (fun i _ _ _ => a.length - (intOf i).toNat)
  case atStart => exact ⟨0, W, Nat.zero_le _, rfl, HCL.out, HFL.out, rfl, HWL.out⟩
  case round =>
    obtain ⟨j, Wj, hj, rfl, hR⟩ := hrel
    by_cases hjl : j < a.length
    · have hx : a[j]? = some a[j] := List.getElem?_eq_getElem hjl
      have hr : rs[j]? = some (rs[j]'(by omega)) := List.getElem?_eq_getElem _
      have hxm : a[j] ∈ a := List.getElem_mem hjl
      have hdr : a.drop j = a[j] :: a.drop (j + 1) := List.drop_eq_getElem_cons hjl
      generalize rs[j]'(by omega) = r at hr
      generalize a[j] = x at hx hxm hdr
      have hok := he1 j r x hr hx
      obtain ⟨g, o, hg, -, dg, p0, p1, p2, p3⟩ := sl_elem4 (s := ⟨la, a.length, lc⟩) hs1 hr
      simp only at hg
      subst hg
      have hgw : g ≠ wb := hP1 g rfl
      rw [← hR.out.2.1.cell (p := ⟨g, _, none⟩) dg hgw] at p0 p1 p2 p3
      have eg : g < wr.heap.size := Nat.lt_of_lt_of_le dg hR.out.2.1.size
      have hexs := hR.out.2.2.1
      rw [hdr, exsC_cons] at hexs
      have hcost : Wj.n + exN x + exsN (a.drop (j + 1)) ≤ 100000 := by
        have := hR.out.2.2.2
        rw [hdr, exsN] at this
        omega
      have hFA : Fr (fun k => k = wb) w (wr.alloc (eo r)) := hR.out.2.1.alloc _
      have HIH := hide (ih x hxm cb fb wb F v nm s Wj r (wr.alloc (eo r)) (hR.out.1.fr (S := nothing) ((Fr.refl nothing wr).alloc _) id id id) (ex_stays _ _ _ _ _ _ _ hok hFA (fun k hk e => hk e) (fun _ hk => hk)) (HSN.out.keep hFA hsb (fun k hk e => hk e)) hsb (by omega))
      have hle := exC_le F.f nm x Wj
      generalize hq : exC F.f nm x Wj = q at HIH hexs hle
      have HEX := hide hexs
      have HFA := hide hFA
      clear hok hexs hFA hq hr hx
      obtain ⟨qe, qW⟩ := q
      simp only at HIH hle
      by_cases hq0 : qe = 0
      · subst hq0
        have HEX2 : Hid (exsC F.f nm a W = exsC F.f nm (a.drop (j + 1)) qW) := by
          show exsC F.f nm a W = _
          rw [HEX.out]; rfl
        go_wp2_with (go_at_call 40; refine HIH.out.mono ?_; rintro e w7 ⟨rfl, hf, hc⟩; have HC7 := hide (hc rfl); have HF7 := hide (HFA.out.trans hf); clear hf hc)
        go_roundw
        case rel => exact ⟨j + 1, qW, by omega, by go_num, HC7.out, HF7.out, HEX2.out, by omega⟩
        case measure => simp [intOf]; omega
      · have hq1 : (qe == 0) = false := by simpa using hq0
        have hq2 := ne_bne hq0
        have HEX2 : Hid (exsC F.f nm a W = ⟨qe, qW⟩) := by
          show exsC F.f nm a W = _
          rw [HEX.out]; exact or_bad hq0
        go_wp2_with (go_at_call 40; refine HIH.out.mono ?_; rintro e w7 ⟨rfl, hf, hc⟩; have HF7 := hide (HFA.out.trans hf); clear hf hc)
        go_ret
        rw [HEX2.out]
        exact ⟨rfl, HF7.out, fun e => absurd e hq0⟩
    · have hja : j = a.length := by omega
      have HEX2 : Hid (exsC F.f nm a W = ⟨0, Wj⟩) := by
        show exsC F.f nm a W = _
        rw [hR.out.2.2.1, hja, List.drop_length, exsC_nil]
      clear hja
      go_wp2
      go_ret
      rw [HEX2.out]
      exact ⟨rfl, hR.out.2.1, fun _ => hR.out.1⟩
set_option maxHeartbeats 1000000 in
set_option maxRecDepth 20000 in
theorem cexpr_else (k n : Int) (t : Bs) (a : List Ex) (cb fb wb : Nat) (F : AMap) (v : Int) (nm : List Bs) (s : Slc) (W : WS) (sl : Slc) (rs : List RawE) (w : World) (h : CI cb fb wb F v W w) (hs1 : Sl encE 4 w sl.v rs) (hP1 : ∀ b, sl.v.ownBlock = some b → b ≠ wb) (hl1 : rs.length = a.length)
    (he1 : ∀ (i : Nat) (r : RawE) (x : Ex), rs[i]? = some r → a[i]? = some x → ExOk w (fun k => k ≠ wb) r x) (hs : Sl encN 1 w s.v nm) (hsb : ∀ b, s.v.ownBlock = some b → b ≠ wb) (ht : t.length ≤ 1500) (hW : W.n + exN (.mk k n t a) ≤ 100000) (ih : ∀ x ∈ a, CEx x) (h2 : k ≠ 2) (h3 : k ≠ 3) (h11 : k ≠ 11) :
    Calls Tryd.prog 40 #[.pointer (some ⟨cb, 0, none⟩), ev ⟨k, n, t, sl⟩, .slice s.a s.n s.c] w fun e w' => e = .returned (.int .i64 (exsC F.f nm a W).e) ∧ Fr (fun k => k = wb) w w' ∧ ((exsC F.f nm a W).e = 0 → CI cb fb wb F v (exsC F.f nm a W).W w') := by
  have hF0 : Fr nothing w (w.alloc (eo ⟨k, n, t, sl⟩)) := (Fr.refl _ w).alloc _
  have hC0 := h.fr hF0 id id id
  have hS0 := hs.fr hF0 (fun _ _ => id)
  have hlk := hC0.fm.look2 t (by omega)
  have hlk2 : (Instr.lookup 55 (.map (some fb)) (.string (bs t)) true).run Tryd.prog (w.alloc (eo ⟨k, n, t, sl⟩)).drew = .ok (.tuple #[.int .i64 ((F.f t).getD 0), .bool (F.f t).isSome]) (w.alloc (eo ⟨k, n, t, sl⟩)).drew := (hC0.fr (S := nothing) (Fr.refl nothing _).drew id id id).fm.look2 t (by omega)
  have hb := (made_cells (Fr.refl nothing (w.alloc (eo ⟨k, n, t, sl⟩))) id)
  have b0 : (w.alloc (eo ⟨k, n, t, sl⟩)).cell? ⟨w.heap.size, 0, none⟩ = some (.int .i64 k) := hb.1 0
  have b2 : (w.alloc (eo ⟨k, n, t, sl⟩)).cell? ⟨w.heap.size, 2, none⟩ = some (.string (bs t)) := hb.1 2
  have b3 : (w.alloc (eo ⟨k, n, t, sl⟩)).cell? ⟨w.heap.size, 3, none⟩ = some (.slice sl.a sl.n sl.c) := hb.1 3
  have hbl := hb.2.2
  have d0 := hC0.c0
  have d2 := hC0.c2
  have dl := hC0.lt
  obtain ⟨hln, hlm⟩ := sl_len hs1
  have HC0 := hide hC0
  have HC := hide h
  have HF0 := hide hF0
  have HSN := hide hs
  have HHAS := hide (fun w' (hf : Fr (fun k => k = wb) w w') => has_any s nm t w' (hs.keep hf hsb (fun k hk e => hk e)))
  have hnc := h.lt
  have q2 : ¬ k = 2 := by omega
  have p2 : (k == 2) = false := by simpa using q2
  have q3 : ¬ k = 3 := by omega
  have p3 : (k == 3) = false := by simpa using q3
  have q11 : ¬ k = 11 := by omega
  have p11 : (k == 11) = false := by simpa using q11
  have HWL : Hid (W.n + exsN a ≤ 100000) := by show _ ≤ _; rw [exN] at hW; omega
  clear h hF0 hC0 hS0 hb hs hlk
  generalize hwa : w.alloc (eo ⟨k, n, t, sl⟩) = wa at *
  obtain ⟨la, lb, lc⟩ := sl
  simp only at hln b3
  rw [hl1] at hln
  subst hln
  go_enter Tryd.func40, Tryd.ntmps40
  go_wp2_with fail
  go_region
  go_wp2_with (go_at_call 27; refine (HHAS.out _ (HF0.out.mono (fun _ _ e => e.elim)).drew).mono ?_; rintro e w4 ⟨rfl, rfl⟩)
  have HFL : Hid (Fr (fun k => k = wb) w wa.drew) := (HF0.out.mono (fun _ _ e => e.elim)).drew
  have HCL : Hid (CI cb fb wb F v W wa.drew) := HC0.out.fr (S := nothing) (Fr.refl nothing wa).drew id id id
  generalize hwl : wa.drew = wl at *
  clear hwl
  go_loopw [64, 10, 11] (fun i _ _ wr => ∃ (j : Nat) (Wj : WS), j ≤ a.length ∧ i = .int .i64 j ∧ Hid (CI cb fb wb F v Wj wr ∧ Fr (fun k => k = wb) w wr ∧ exsC F.f nm a W = exsC F.f nm (a.drop j) Wj ∧ Wj.n + exsN (a.drop j) ≤ 100000)) (fun i _ _ _ => a.length - (intOf i).toNat)
  case atStart => exact ⟨0, W, Nat.zero_le _, rfl, HCL.out, HFL.out, rfl, HWL.out⟩
  case round =>
    obtain ⟨j, Wj, hj, rfl, hR⟩ := hrel
    by_cases hjl : j < a.length
    · have hx : a[j]? = some a[j] := List.getElem?_eq_getElem hjl
      have hr : rs[j]? = some (rs[j]'(by omega)) := List.getElem?_eq_getElem _
      have hxm : a[j] ∈ a := List.getElem_mem hjl
      have hdr : a.drop j = a[j] :: a.drop (j + 1) := List.drop_eq_getElem_cons hjl
      generalize rs[j]'(by omega) = r at hr
      generalize a[j] = x at hx hxm hdr
      have hok := he1 j r x hr hx
      obtain ⟨g, o, hg, -, dg, p0, p1, p2, p3⟩ := sl_elem4 (s := ⟨la, a.length, lc⟩) hs1 hr
      simp only at hg
      subst hg
      have hgw : g ≠ wb := hP1 g rfl
      rw [← hR.out.2.1.cell (p := ⟨g, _, none⟩) dg hgw] at p0 p1 p2 p3
      have eg : g < wr.heap.size := Nat.lt_of_lt_of_le dg hR.out.2.1.size
      have hexs := hR.out.2.2.1
      rw [hdr, exsC_cons] at hexs
      have hcost : Wj.n + exN x + exsN (a.drop (j + 1)) ≤ 100000 := by
        have := hR.out.2.2.2
        rw [hdr, exsN] at this
        omega
      have hFA : Fr (fun k => k = wb) w (wr.alloc (eo r)) := hR.out.2.1.alloc _
      have HIH := hide (ih x hxm cb fb wb F v nm s Wj r (wr.alloc (eo r)) (hR.out.1.fr (S := nothing) ((Fr.refl nothing wr).alloc _) id id id) (ex_stays _ _ _ _ _ _ _ hok hFA (fun k hk e => hk e) (fun _ hk => hk)) (HSN.out.keep hFA hsb (fun k hk e => hk e)) hsb (by omega))
      have hle := exC_le F.f nm x Wj
      generalize hq : exC F.f nm x Wj = q at HIH hexs hle
      have HEX := hide hexs
      have HFA := hide hFA
      clear hok hexs hFA hq hr hx
      obtain ⟨qe, qW⟩ := q
      simp only at HIH hle
      by_cases hq0 : qe = 0
      · subst hq0
        have HEX2 : Hid (exsC F.f nm a W = exsC F.f nm (a.drop (j + 1)) qW) := by
          show exsC F.f nm a W = _
          rw [HEX.out]; rfl
        go_wp2_with (go_at_call 40; refine HIH.out.mono ?_; rintro e w7 ⟨rfl, hf, hc⟩; have HC7 := hide (hc rfl); have HF7 := hide (HFA.out.trans hf); clear hf hc)
        go_roundw
        case rel => exact ⟨j + 1, qW, by omega, by go_num, HC7.out, HF7.out, HEX2.out, by omega⟩
        case measure => simp [intOf]; omega
      · have hq1 : (qe == 0) = false := by simpa using hq0
        have hq2 := ne_bne hq0
        have HEX2 : Hid (exsC F.f nm a W = ⟨qe, qW⟩) := by
          show exsC F.f nm a W = _
          rw [HEX.out]; exact or_bad hq0
        go_wp2_with (go_at_call 40; refine HIH.out.mono ?_; rintro e w7 ⟨rfl, hf, hc⟩; have HF7 := hide (HFA.out.trans hf); clear hf hc)
        go_ret
        rw [HEX2.out]
        exact ⟨rfl, HF7.out, fun e => absurd e hq0⟩
    · have hja : j = a.length := by omega
      have HEX2 : Hid (exsC F.f nm a W = ⟨0, Wj⟩) := by
        show exsC F.f nm a W = _
        rw [hR.out.2.2.1, hja, List.drop_length, exsC_nil]
      clear hja
      go_wp2
      go_ret
      rw [HEX2.out]
      exact ⟨rfl, hR.out.2.1, fun _ => hR.out.1⟩
set_option maxHeartbeats 1000000 in
set_option maxRecDepth 20000 in
theorem cexpr_text (k n : Int) (t : Bs) (a : List Ex) (cb fb wb : Nat) (F : AMap) (v : Int) (nm : List Bs) (s : Slc) (W : WS) (sl : Slc) (rs : List RawE) (w : World) (h : CI cb fb wb F v W w) (hs1 : Sl encE 4 w sl.v rs) (hP1 : ∀ b, sl.v.ownBlock = some b → b ≠ wb) (hl1 : rs.length = a.length)
    (he1 : ∀ (i : Nat) (r : RawE) (x : Ex), rs[i]? = some r → a[i]? = some x → ExOk w (fun k => k ≠ wb) r x) (hs : Sl encN 1 w s.v nm) (hsb : ∀ b, s.v.ownBlock = some b → b ≠ wb) (ht : t.length ≤ 1500) (hW : W.n + exN (.mk k n t a) ≤ 100000) (ih : ∀ x ∈ a, CEx x) (hk : k = 2) :
    Calls Tryd.prog 40 #[.pointer (some ⟨cb, 0, none⟩), ev ⟨k, n, t, sl⟩, .slice s.a s.n s.c] w fun e w' => e = .returned (.int .i64 (exsC F.f nm a (W.add t)).e) ∧ Fr (fun k => k = wb) w w' ∧ ((exsC F.f nm a (W.add t)).e = 0 → CI cb fb wb F v (exsC F.f nm a (W.add t)).W w') := by
  have hF0 : Fr nothing w (w.alloc (eo ⟨k, n, t, sl⟩)) := (Fr.refl _ w).alloc _
  have hC0 := h.fr hF0 id id id
  have hS0 := hs.fr hF0 (fun _ _ => id)
  have hlk := hC0.fm.look2 t (by omega)
  have hlk2 : (Instr.lookup 55 (.map (some fb)) (.string (bs t)) true).run Tryd.prog (w.alloc (eo ⟨k, n, t, sl⟩)).drew = .ok (.tuple #[.int .i64 ((F.f t).getD 0), .bool (F.f t).isSome]) (w.alloc (eo ⟨k, n, t, sl⟩)).drew := (hC0.fr (S := nothing) (Fr.refl nothing _).drew id id id).fm.look2 t (by omega)
  have hb := (made_cells (Fr.refl nothing (w.alloc (eo ⟨k, n, t, sl⟩))) id)
  have b0 : (w.alloc (eo ⟨k, n, t, sl⟩)).cell? ⟨w.heap.size, 0, none⟩ = some (.int .i64 k) := hb.1 0
  have b2 : (w.alloc (eo ⟨k, n, t, sl⟩)).cell? ⟨w.heap.size, 2, none⟩ = some (.string (bs t)) := hb.1 2
  have b3 : (w.alloc (eo ⟨k, n, t, sl⟩)).cell? ⟨w.heap.size, 3, none⟩ = some (.slice sl.a sl.n sl.c) := hb.1 3
  have hbl := hb.2.2
  have d0 := hC0.c0
  have d2 := hC0.c2
  have dl := hC0.lt
  obtain ⟨hln, hlm⟩ := sl_len hs1
  have HC0 := hide hC0
  have HC := hide h
  have HF0 := hide hF0
  have HSN := hide hs
  have HHAS := hide (fun w' (hf : Fr (fun k => k = wb) w w') => has_any s nm t w' (hs.keep hf hsb (fun k hk e => hk e)))
  have hnc := h.lt
  have p2 : (k == 2) = true := by simpa using hk
  have HWL : Hid ((W.add t).n + exsN a ≤ 100000) := by show _ ≤ _; rw [exN] at hW; have := W.add_le t; omega
  obtain ⟨wt, rt, ht1, ht2⟩ := (h.fr ((Fr.refl nothing w).alloc (eo ⟨k, n, t, sl⟩)).drew.drew id id id).text t (by omega) (by omega)
  have HCT := hide ht1
  have HFT := hide ((((Fr.refl (fun k => k = wb) w).alloc (eo ⟨k, n, t, sl⟩)).drew.drew).trans ht2)
  have bt3 : wt.cell? ⟨w.heap.size, 3, none⟩ = some (.slice sl.a sl.n sl.c) := (ht2.cell (p := ⟨w.heap.size, 3, none⟩) (by show w.heap.size < (w.alloc _).heap.size; simp) (by show ¬ w.heap.size = wb; have h1 := h.wm; obtain ⟨A, a1, _⟩ := h1; have := a1.lt; omega)).trans b3
  have hblt : w.heap.size < wt.heap.size := Nat.lt_of_lt_of_le hbl ht2.size
  have hblt' := hblt
  clear hk ht1 ht2
  clear h hF0 hC0 hS0 hb hs hlk
  generalize hwa : w.alloc (eo ⟨k, n, t, sl⟩) = wa at *
  obtain ⟨la, lb, lc⟩ := sl
  simp only at hln b3
  rw [hl1] at hln
  subst hln
  go_enter Tryd.func40, Tryd.ntmps40
  go_wp2_with fail
  go_region
  go_wp2_with fail
  go_region
  go_wp2_with fail
  have HFL : Hid (Fr (fun k => k = wb) w wt) := HFT.out
  have HCL : Hid (CI cb fb wb F v (W.add t) wt) := HCT.out
  go_loopw [64, 10, 11] (fun i _ _ wr => ∃ (j : Nat) (Wj : WS), j ≤ a.length ∧ i = .int .i64 j ∧ Hid (CI cb fb wb F v Wj wr ∧ Fr (fun k => k = wb) w wr ∧ exsC F.f nm a (W.add t) = exsC F.f nm (a.drop j) Wj ∧ Wj.n + exsN (a.drop j) ≤ 100000)) (fun i _ _ _ => a.length - (intOf i).toNat)
  case atStart => exact ⟨0, (W.add t), Nat.zero_le _, rfl, HCL.out, HFL.out, rfl, HWL.out⟩
  case round =>
    obtain ⟨j, Wj, hj, rfl, hR⟩ := hrel
    by_cases hjl : j < a.length
    · have hx : a[j]? = some a[j] := List.getElem?_eq_getElem hjl
      have hr : rs[j]? = some (rs[j]'(by omega)) := List.getElem?_eq_getElem _
      have hxm : a[j] ∈ a := List.getElem_mem hjl
      have hdr : a.drop j = a[j] :: a.drop (j + 1) := List.drop_eq_getElem_cons hjl
      generalize rs[j]'(by omega) = r at hr
      generalize a[j] = x at hx hxm hdr
      have hok := he1 j r x hr hx
      obtain ⟨g, o, hg, -, dg, p0, p1, p2, p3⟩ := sl_elem4 (s := ⟨la, a.length, lc⟩) hs1 hr
      simp only at hg
      subst hg
      have hgw : g ≠ wb := hP1 g rfl
      rw [← hR.out.2.1.cell (p := ⟨g, _, none⟩) dg hgw] at p0 p1 p2 p3
      have eg : g < wr.heap.size := Nat.lt_of_lt_of_le dg hR.out.2.1.size
      have hexs := hR.out.2.2.1
      rw [hdr, exsC_cons] at hexs
      have hcost : Wj.n + exN x + exsN (a.drop (j + 1)) ≤ 100000 := by
        have := hR.out.2.2.2
        rw [hdr, exsN] at this
        omega
      have hFA : Fr (fun k => k = wb) w (wr.alloc (eo r)) := hR.out.2.1.alloc _
      have HIH := hide (ih x hxm cb fb wb F v nm s Wj r (wr.alloc (eo r)) (hR.out.1.fr (S := nothing) ((Fr.refl nothing wr).alloc _) id id id) (ex_stays _ _ _ _ _ _ _ hok hFA (fun k hk e => hk e) (fun _ hk => hk)) (HSN.out.keep hFA hsb (fun k hk e => hk e)) hsb (by omega))
      have hle := exC_le F.f nm x Wj
      generalize hq : exC F.f nm x Wj = q at HIH hexs hle
      have HEX := hide hexs
      have HFA := hide hFA
      clear hok hexs hFA hq hr hx
      obtain ⟨qe, qW⟩ := q
      simp only at HIH hle
      by_cases hq0 : qe = 0
      · subst hq0
        have HEX2 : Hid (exsC F.f nm a (W.add t) = exsC F.f nm (a.drop (j + 1)) qW) := by
          show exsC F.f nm a (W.add t) = _
          rw [HEX.out]; rfl
        go_wp2_with (go_at_call 40; refine HIH.out.mono ?_; rintro e w7 ⟨rfl, hf, hc⟩; have HC7 := hide (hc rfl); have HF7 := hide (HFA.out.trans hf); clear hf hc)
        go_roundw
        case rel => exact ⟨j + 1, qW, by omega, by go_num, HC7.out, HF7.out, HEX2.out, by omega⟩
        case measure => simp [intOf]; omega
      · have hq1 : (qe == 0) = false := by simpa using hq0
        have hq2 := ne_bne hq0
        have HEX2 : Hid (exsC F.f nm a (W.add t) = ⟨qe, qW⟩) := by
          show exsC F.f nm a (W.add t) = _
          rw [HEX.out]; exact or_bad hq0
        go_wp2_with (go_at_call 40; refine HIH.out.mono ?_; rintro e w7 ⟨rfl, hf, hc⟩; have HF7 := hide (HFA.out.trans hf); clear hf hc)
        go_ret
        rw [HEX2.out]
        exact ⟨rfl, HF7.out, fun e => absurd e hq0⟩
    · have hja : j = a.length := by omega
      have HEX2 : Hid (exsC F.f nm a (W.add t) = ⟨0, Wj⟩) := by
        show exsC F.f nm a (W.add t) = _
        rw [hR.out.2.2.1, hja, List.drop_length, exsC_nil]
      clear hja
      go_wp2
      go_ret
      rw [HEX2.out]
      exact ⟨rfl, hR.out.2.1, fun _ => hR.out.1⟩
theorem cexpr_any (x : Ex) (hx : ExSh x) : CEx x := by
  induction hx with
  | @mk k n t a _ h2 _ ih =>
    intro cb fb wb F v nm s W r w hC hE hS hsb hW
    cases hE with
    | mk _ _ _ sl rs _ hs1 hP1 hl1 he1 =>
    rw [exC_mk]
    by_cases k3 : k = 3
    · cases hc : nm.contains t with
      | true =>
        have e1 : exE F.f nm k t a.length = 0 := by unfold exE; rw [if_pos k3, hc]; rfl
        have e2 : exW k t W = W := by simp [exW, k3]
        rw [e1, e2]
        exact cexpr_name k n t a cb fb wb F v nm s W sl rs w hC hs1 hP1 hl1 he1 hS hsb h2 hW ih k3 hc
      | false =>
        have e1 : exE F.f nm k t a.length = 6 := by unfold exE; rw [if_pos k3, hc]; rfl
        rw [e1]
        exact (cexpr_noname k n t a cb fb wb F v nm s W sl rs w hC hs1 hP1 hl1 he1 hS hsb h2 hW ih k3 hc).mono fun e w' hh => ⟨hh.1, hh.2, fun h0 => by cases h0⟩
    · by_cases k11 : k = 11
      · have e2 : exW k t W = W := by simp [exW, k11]
        cases hc : F.f t with
        | none =>
          have e1 : exE F.f nm k t a.length = 6 := by simp [exE, k11, hc]
          rw [e1]
          exact (cexpr_nofn k n t a cb fb wb F v nm s W sl rs w hC hs1 hP1 hl1 he1 hS hsb h2 hW ih k11 hc).mono fun e w' hh => ⟨hh.1, hh.2, fun h0 => by cases h0⟩
        | some m =>
          by_cases hm : m = a.length
          · have e1 : exE F.f nm k t a.length = 0 := by simp [exE, k11, hc, hm]
            rw [e1, e2]
            exact cexpr_call k n t a cb fb wb F v nm s W sl rs w hC hs1 hP1 hl1 he1 hS hsb h2 hW ih k11 (by rw [hc, hm])
          · have e1 : exE F.f nm k t a.length = 5 := by simp [exE, k11, hc, hm]
            rw [e1]
            exact (cexpr_many k n t a cb fb wb F v nm s W sl rs w hC hs1 hP1 hl1 he1 hS hsb h2 hW ih k11 hc hm).mono fun e w' hh => ⟨hh.1, hh.2, fun h0 => by cases h0⟩
      · have e1 : exE F.f nm k t a.length = 0 := by simp [exE, k3, k11]
        rw [e1]
        by_cases k2 : k = 2
        · have e2 : exW k t W = W.add t := by simp [exW, k2]
          rw [e2]
          exact cexpr_text k n t a cb fb wb F v nm s W sl rs w hC hs1 hP1 hl1 he1 hS hsb h2 hW ih k2
        · have e2 : exW k t W = W := by simp [exW, k2]
          rw [e2]
          exact cexpr_else k n t a cb fb wb F v nm s W sl rs w hC hs1 hP1 hl1 he1 hS hsb h2 hW ih k2 k3 k11
end Go.Proofs.YtkmdamljhagogaaDoor
